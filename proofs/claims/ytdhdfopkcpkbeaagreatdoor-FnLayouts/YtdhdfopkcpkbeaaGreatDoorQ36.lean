/- Texts of this seat, joined. -/
import Derived.Test.YtdhdfopkcpkbeaaGreatDoorQ35
namespace Go.Proofs.YtdhdfopkcpkbeaaGreatDoor
open Go.RowKit
set_option linter.unusedVariables false

theorem or_zero {a b : Int} (h : orV a b = 0) : a = 0 ∧ b = 0 := by
  unfold orV at h
  split at h
  · rename_i h1; exact ⟨h1, h⟩
  · rename_i h1; exact absurd h h1
def askV (P : Plc) (g : Int) : Int := if pfV P = 0 then (if isG P.own.length g = false then 4 else 0) else pfV P
theorem ask_pf (P : Plc) (g : Int) (h : askV P g = 0) : pfV P = 0 := by
  unfold askV at h
  split at h
  · rename_i h1; exact h1
  · exact h

set_option maxHeartbeats 1000000 in
theorem i_asked (a0 a1 a2 a3 : Option Addr) (n0 c0 n1 c1 n2 c2 n3 c3 : Nat) (P : Plc) (g : Int) (w : World) (h : Pl w a0 n0 c0 a1 n1 c1 a2 n2 c2 a3 n3 c3 P) (hg : w.cell? ⟨0, 0, none⟩ = some (.iface 157 (.agg #[.pointer (some ⟨1, 91, none⟩)]))) :
    Calls Tryz.prog 30 #[.agg #[.slice a0 n0 c0, .slice a1 n1 c1, .slice a2 n2 c2, .slice a3 n3 c3], .int .i64 g] w fun e w' => e = .returned (.int .i64 (askV P g)) ∧ Below w.heap.size w w' := by
  have HL0 : Hid (n0 = P.own.length) := h.own.len
  have HM0 : Hid ((n0 : Int) ≤ 9223372036854775807) := by have := h.own.cap; show _ ≤ _; unfold maxLen at this; omega
  generalize hW : (w.alloc (.cells #[.slice a0 n0 c0, .slice a1 n1 c1, .slice a2 n2 c2, .slice a3 n3 c3] 29)) = W
  have B0 : Hid (Below w.heap.size w W) := by show Below _ _ _; rw [← hW]; exact al (Below.refl _ _) _
  obtain ⟨s, hS⟩ : ∃ s, w.heap.size = s := ⟨_, rfl⟩
  have Q : Hid (W.cell? ⟨s, 0, none⟩ = some (.slice a0 n0 c0) ∧ W.cell? ⟨s, 1, none⟩ = some (.slice a1 n1 c1) ∧ W.cell? ⟨s, 2, none⟩ = some (.slice a2 n2 c2) ∧ W.cell? ⟨s, 3, none⟩ = some (.slice a3 n3 c3)) := by
    show _ ∧ _
    rw [← hW, ← hS]
    exact ⟨cell_new rfl, cell_new rfl, cell_new rfl, cell_new rfl⟩
  have HP : Hid (Pl W a0 n0 c0 a1 n1 c1 a2 n2 c2 a3 n3 c3 P) := h.stay B0.out
  have HG : Hid (_ = _) := cell_keep B0.out hg
  clear h hg
  have q0 := Q.out.1
  have q1 := Q.out.2.1
  have q2 := Q.out.2.2.1
  have q3 := Q.out.2.2.2
  go_enter Tryz.func30, Tryz.ntmps30
  go_wp2_with fail
  clear hW hS
  refine (impl_policy _ _ _ _ _ _ _ _ _ _ _ _ P _ HP.out HG.out).mono ?_
  rintro e w1 ⟨rfl, b1⟩
  have q0 := cell_keep b1 Q.out.1
  have q1 := cell_keep b1 Q.out.2.1
  have q2 := cell_keep b1 Q.out.2.2.1
  have q3 := cell_keep b1 Q.out.2.2.2
  by_cases hz : pfV P = 0
  · by_cases hg : isG n0 g = false
    · have E : Hid (askV P g = 4) := by show _ = _; rw [askV, if_pos hz, if_pos (by rw [← HL0.out]; exact hg)]
      rw [hz]
      go_wp2_with fail
      refine (i_guest _ _ _ _ _ _ _ _ _ _ _ _ _ _ HM0.out).mono ?_
      rintro e w2 ⟨rfl, hw2⟩
      have b2 : Below w1.heap.size w1 w2 := by rw [hw2]; exact al (Below.refl _ _) _
      clear hw2
      rw [hg]
      go_wp2_with fail
      go_ret
      rw [E.out]
      exact ⟨rfl, on B0.out (on b1 b2)⟩
    · have E : Hid (askV P g = 0) := by show _ = _; rw [askV, if_pos hz, if_neg (by rw [← HL0.out]; exact hg)]
      rw [Bool.not_eq_false] at hg
      rw [hz]
      go_wp2_with fail
      refine (i_guest _ _ _ _ _ _ _ _ _ _ _ _ _ _ HM0.out).mono ?_
      rintro e w2 ⟨rfl, hw2⟩
      have b2 : Below w1.heap.size w1 w2 := by rw [hw2]; exact al (Below.refl _ _) _
      clear hw2
      rw [hg]
      go_wp2_with fail
      go_ret
      rw [E.out]
      exact ⟨rfl, on B0.out (on b1 b2)⟩
  · have E : Hid (askV P g = pfV P) := by show _ = _; rw [askV, if_neg hz]
    generalize hv : pfV P = v at *
    go_wp2_with fail
    go_ret
    rw [E.out]
    exact ⟨rfl, on B0.out b1⟩

end Go.Proofs.YtdhdfopkcpkbeaaGreatDoor
