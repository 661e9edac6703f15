/- Owners, steps and rounds: the model and the program. -/
import Derived.Test.YtddeaibkdpomlaaGreatDoorPig
import Derived.Test.YtddeaibkdpomlaaGreatDoorPlt
namespace Go.Proofs.YtddeaibkdpomlaaGreatDoor
open Go.RowKit
set_option linter.unusedVariables false

/-- The answer's place, still 0 and 0. -/
def Rs (w : World) (s : Nat) : Prop := w.cell? ⟨s + 1, 0, none⟩ = some (.int .i64 0) ∧ w.cell? ⟨s + 1, 1, none⟩ = some (.int .i64 0) ∧ w.frozen? ⟨s + 1, 0, none⟩ = false ∧ w.frozen? ⟨s + 1, 1, none⟩ = false ∧ s + 1 < w.heap.size
theorem Rs.keep {w w' : World} {s : Nat} (h : Rs w s) (b : Below w.heap.size w w') : Rs w' s :=
  ⟨cell_keep b h.1, cell_keep b h.2.1, by rw [b.frozen (p := ⟨s + 1, 0, none⟩) h.2.2.2.2]; exact h.2.2.1, by rw [b.frozen (p := ⟨s + 1, 1, none⟩) h.2.2.2.2]; exact h.2.2.2.1, Nat.lt_of_lt_of_le h.2.2.2.2 b.size⟩
def oR (P : Plc) (pg : Int) : Int × Int := if pfV P = 0 then (if ownerFrom 0 P.own pg = -1 then (4, 0) else (0, ownerFrom 0 P.own pg)) else (pfV P, 0)
theorem oR_bad (P : Plc) (pg : Int) (h : ¬ pfV P = 0) : oR P pg = (pfV P, 0) := by rw [oR, if_neg h]
theorem oR_none (P : Plc) (pg : Int) (h : pfV P = 0) (k : ownerFrom 0 P.own pg = -1) : oR P pg = (4, 0) := by rw [oR, if_pos h, if_pos k]
theorem oR_is (P : Plc) (pg : Int) (h : pfV P = 0) (k : ¬ ownerFrom 0 P.own pg = -1) : oR P pg = (0, ownerFrom 0 P.own pg) := by rw [oR, if_pos h, if_neg k]

set_option maxRecDepth 20000 in
set_option maxHeartbeats 4000000 in
theorem i_ownerOf (a0 a1 a2 a3 : Option Addr) (n0 c0 n1 c1 n2 c2 n3 c3 : Nat) (P : Plc) (pg : Int) (w : World) (h : Pl w a0 n0 c0 a1 n1 c1 a2 n2 c2 a3 n3 c3 P) (hg : w.cell? ⟨0, 0, none⟩ = some (.iface 129 (.agg #[.pointer (some ⟨1, 65, none⟩)]))) :
    Calls Tryz.prog 11 #[.agg #[.slice a0 n0 c0, .slice a1 n1 c1, .slice a2 n2 c2, .slice a3 n3 c3], .int .i64 pg] w fun e w' => e = .returned (.agg #[.int .i64 (oR P pg).1, .int .i64 (oR P pg).2]) ∧ Below w.heap.size w w' := by
  generalize hW : ((w.alloc (.cells #[.slice a0 n0 c0, .slice a1 n1 c1, .slice a2 n2 c2, .slice a3 n3 c3] 29))).alloc (.cells #[.int .i64 0, .int .i64 0] 38) = W
  have B0 : Hid (Below w.heap.size w W) := by show Below _ _ _; rw [← hW]; exact al (al (Below.refl _ _) _) _
  obtain ⟨s, hS⟩ : ∃ s, w.heap.size = s := ⟨_, rfl⟩
  have HSs : Hid (w.heap.size = s) := hS
  have Q : Hid (W.cell? ⟨s, 0, none⟩ = some (.slice a0 n0 c0) ∧ W.cell? ⟨s, 1, none⟩ = some (.slice a1 n1 c1) ∧ W.cell? ⟨s, 2, none⟩ = some (.slice a2 n2 c2) ∧ W.cell? ⟨s, 3, none⟩ = some (.slice a3 n3 c3)) := by
    show _ ∧ _
    rw [← hW, ← hS]
    exact ⟨cell_push _ (cell_new rfl), cell_push _ (cell_new rfl), cell_push _ (cell_new rfl), cell_push _ (cell_new rfl)⟩
  have R : Hid (Rs W s) := by
    have z1 : s + 1 = ((w.alloc (.cells #[.slice a0 n0 c0, .slice a1 n1 c1, .slice a2 n2 c2, .slice a3 n3 c3] 29))).heap.size := by rw [← hS]; simp
    show Rs W s
    unfold Rs
    rw [← hW, z1]
    exact ⟨cell_new rfl, cell_new rfl, fz_new _ _ _ _, fz_new _ _ _ _, by simp⟩
  have HP : Hid (Pl W a0 n0 c0 a1 n1 c1 a2 n2 c2 a3 n3 c3 P) := h.stay B0.out
  have HA : Hid (PolAt W s P) := ⟨_, _, _, _, _, _, _, _, _, _, _, _, Q.out.1, Q.out.2.1, Q.out.2.2.1, Q.out.2.2.2, HP.out⟩
  have HG : Hid (W.cell? ⟨0, 0, none⟩ = some (.iface 129 (.agg #[.pointer (some ⟨1, 65, none⟩)]))) := cell_keep B0.out hg
  clear h hg
  have q0 := Q.out.1
  have q1 := Q.out.2.1
  have q2 := Q.out.2.2.1
  have q3 := Q.out.2.2.2
  go_enter Tryz.func11, Tryz.ntmps11
  go_wp2_with fail
  clear hW hS
  refine (impl_policy _ _ _ _ _ _ _ _ _ _ _ _ P _ HP.out HG.out).mono ?_
  rintro e w1 ⟨rfl, b1⟩
  obtain ⟨r0, r1, f0, f1, _⟩ := R.out.keep b1
  have q0 := cell_keep b1 Q.out.1
  have q1 := cell_keep b1 Q.out.2.1
  have q2 := cell_keep b1 Q.out.2.2.1
  have q3 := cell_keep b1 Q.out.2.2.2
  by_cases hz : pfV P = 0
  · rw [hz]
    go_wp2_with fail
    refine (i_owner _ _ _ _ _ _ _ _ _ _ _ _ P _ _ (HP.out.stay b1)).mono ?_
    rintro e w2 ⟨rfl, b2⟩
    have b2 := on b1 b2
    obtain ⟨r0, r1, f0, f1, _⟩ := R.out.keep b2
    by_cases ho : ownerFrom 0 P.own pg = -1
    · have RV := oR_none P pg hz ho
      rw [ho]
      go_wp2_with fail
      exact bodyPost_ret (v := .agg #[.int .i64 4, .int .i64 0]) (by simp [results, Tryz.results11, go_sem, r0, r1]) rfl ⟨by first | rfl | rw [RV], ((on B0.out b2).setCell (by have := HSs.out; show w.heap.size ≤ s + 1; omega) _).setCell (by have := HSs.out; show w.heap.size ≤ s + 1; omega) _⟩
    · have RV := oR_is P pg hz ho
      generalize hv : ownerFrom 0 P.own pg = v at *
      go_wp2_with fail
      exact bodyPost_ret (v := .agg #[.int .i64 0, .int .i64 v]) (by simp [results, Tryz.results11, go_sem, r0, r1]) rfl ⟨by first | rfl | rw [RV], ((on B0.out b2).setCell (by have := HSs.out; show w.heap.size ≤ s + 1; omega) _).setCell (by have := HSs.out; show w.heap.size ≤ s + 1; omega) _⟩
  · have RV := oR_bad P pg hz
    generalize hv : pfV P = v at *
    go_wp2_with fail
    exact bodyPost_ret (v := .agg #[.int .i64 v, .int .i64 0]) (by simp [results, Tryz.results11, go_sem, r0, r1]) rfl ⟨by first | rfl | rw [RV], ((on B0.out b1).setCell (by have := HSs.out; show w.heap.size ≤ s + 1; omega) _).setCell (by have := HSs.out; show w.heap.size ≤ s + 1; omega) _⟩
end Go.Proofs.YtddeaibkdpomlaaGreatDoor
