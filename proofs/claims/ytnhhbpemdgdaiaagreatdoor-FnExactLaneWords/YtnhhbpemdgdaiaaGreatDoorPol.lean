/- Steps of a guest and of a round: the model and the program. -/
import Derived.Test.YtnhhbpemdgdaiaaGreatDoorPok
namespace Go.Proofs.YtnhhbpemdgdaiaaGreatDoor
open Go.RowKit
set_option linter.unusedVariables false

def frV (g : Int) : List (Int × Int) → Int
  | [] => 0
  | s :: t => (if s.1 = g then s.2 else 0) + frV g t
theorem frV_append (g : Int) (a b : List (Int × Int)) : frV g (a ++ b) = frV g a + frV g b := by
  induction a with
  | nil => simp [frV]
  | cons s t ih => rw [List.cons_append, frV, frV, ih]; omega
theorem frV_take (g : Int) (zs : List (Int × Int)) (j : Nat) (h : j < zs.length) : frV g (zs.take (j + 1)) = frV g (zs.take j) + (if (zs.getD j (0, 0)).1 = g then (zs.getD j (0, 0)).2 else 0) := by
  rw [take_succ_getD zs (0, 0) j h, frV_append, frV, frV]
  omega
def rdV : List (Int × Int) → Int
  | [] => 0
  | s :: t => s.2 + rdV t
theorem rdV_append (a b : List (Int × Int)) : rdV (a ++ b) = rdV a + rdV b := by
  induction a with
  | nil => simp [rdV]
  | cons s t ih => rw [List.cons_append, rdV, rdV, ih]; omega
theorem rdV_take (zs : List (Int × Int)) (j : Nat) (h : j < zs.length) : rdV (zs.take (j + 1)) = rdV (zs.take j) + (zs.getD j (0, 0)).2 := by
  rw [take_succ_getD zs (0, 0) j h, rdV_append, rdV, rdV]
  omega
theorem slots_ok (n : Nat) (zs : List (Int × Int)) (h : slotsV n zs = 0) : ∀ s ∈ zs, 1 ≤ s.2 ∧ s.2 ≤ 50 := by
  induction zs with
  | nil => intro s hs; cases hs
  | cons a t ih =>
    rw [slotsV] at h
    split at h
    · rename_i h1
      intro s hs
      rcases List.mem_cons.1 hs with rfl | hs
      · rw [slotV] at h1
        split at h1
        · cases h1
        · split at h1
          · cases h1
          · rename_i h2
            have : stOk s.2 = true := by simpa using h2
            simpa [stOk] using this
      · exact ih h s hs
    · rename_i h1
      exact absurd h h1
theorem or_zero {a b : Int} (h : orV a b = 0) : a = 0 ∧ b = 0 := by
  unfold orV at h
  split at h
  · rename_i h1; exact ⟨h1, h⟩
  · rename_i h1; exact absurd h h1
theorem pf_plan (P : Plc) (h : pfV P = 0) : P.plan.length ≤ 8 ∧ ∀ j, j < P.plan.length → 1 ≤ (P.plan.getD j (0, 0)).2 ∧ (P.plan.getD j (0, 0)).2 ≤ 50 := by
  have h6 : g6V P = 0 := (or_zero (or_zero (or_zero h).2).2).2
  unfold g6V at h6
  split at h6
  · cases h6
  · rename_i h1
    exact ⟨by omega, fun j hj => slots_ok _ _ h6 _ (getD_mem P.plan (0, 0) j hj)⟩
theorem fr_bound (P : Plc) (h : pfV P = 0) (g : Int) : ∀ j, j ≤ P.plan.length → 0 ≤ frV g (P.plan.take j) ∧ frV g (P.plan.take j) ≤ 50 * j := by
  intro j
  induction j with
  | zero => intro _; simp [frV]
  | succ j ih =>
    intro hj
    have h1 := ih (by omega)
    have h2 := (pf_plan P h).2 j (by omega)
    rw [frV_take g P.plan j (by omega)]
    split <;> omega
theorem rd_bound (P : Plc) (h : pfV P = 0) : ∀ j, j ≤ P.plan.length → 0 ≤ rdV (P.plan.take j) ∧ rdV (P.plan.take j) ≤ 50 * j := by
  intro j
  induction j with
  | zero => intro _; simp [rdV]
  | succ j ih =>
    intro hj
    have h1 := ih (by omega)
    have h2 := (pf_plan P h).2 j (by omega)
    rw [rdV_take P.plan j (by omega)]
    omega
def askV (P : Plc) (g : Int) : Int := if pfV P = 0 then (if isG P.own.length g = false then 4 else 0) else pfV P
def fR (P : Plc) (g : Int) : Int × Int := if askV P g = 0 then (0, frV g P.plan) else (askV P g, 0)
def rR (P : Plc) : Int × Int := if pfV P = 0 then (0, rdV P.plan) else (pfV P, 0)
theorem ask_pf (P : Plc) (g : Int) (h : askV P g = 0) : pfV P = 0 := by
  unfold askV at h
  split at h
  · rename_i h1; exact h1
  · exact h

theorem l6_asked (q : Nat) (g : Int) (P : Plc) (w : World) (h : PolAt w q P) :
    Calls Tryz.prog 23 #[.pointer (some ⟨q, 0, none⟩), .int .i64 g] w fun e w' => e = .returned (.int .i64 (askV P g)) ∧ Below w.heap.size w w' := by
  have HP : Hid (PolAt w q P) := h
  clear h
  go_enter Tryz.func23, Tryz.ntmps23
  go_wp2_with fail
  refine (l6_fault _ P _ HP.out).mono ?_
  rintro e w1 ⟨rfl, b1⟩
  by_cases hz : pfV P = 0
  · by_cases hg : isG P.own.length g = false
    · have E : Hid (askV P g = 4) := by show _ = _; rw [askV, if_pos hz, if_pos hg]
      rw [hz]
      go_wp2_with fail
      refine (l6_guest _ _ P _ (HP.out.stay b1)).mono ?_
      rintro e w1 ⟨rfl, rfl⟩
      rw [hg]
      go_wp2_with fail
      go_ret
      rw [E.out]
      exact ⟨rfl, b1⟩
    · have E : Hid (askV P g = 0) := by show _ = _; rw [askV, if_pos hz, if_neg hg]
      rw [Bool.not_eq_false] at hg
      rw [hz]
      go_wp2_with fail
      refine (l6_guest _ _ P _ (HP.out.stay b1)).mono ?_
      rintro e w1 ⟨rfl, rfl⟩
      rw [hg]
      go_wp2_with fail
      go_ret
      rw [E.out]
      exact ⟨rfl, b1⟩
  · have E : Hid (askV P g = pfV P) := by show _ = _; rw [askV, if_neg hz]
    generalize hv : pfV P = v at *
    go_wp2_with fail
    go_ret
    rw [E.out]
    exact ⟨rfl, b1⟩

set_option maxHeartbeats 1000000 in
theorem i_asked (a0 a1 a2 a3 : Option Addr) (n0 c0 n1 c1 n2 c2 n3 c3 : Nat) (P : Plc) (g : Int) (w : World) (h : Pl w a0 n0 c0 a1 n1 c1 a2 n2 c2 a3 n3 c3 P) (hg : w.cell? ⟨0, 0, none⟩ = some (.iface 130 (.agg #[.pointer (some ⟨1, 95, none⟩)]))) :
    Calls Tryz.prog 30 #[.agg #[.slice a0 n0 c0, .slice a1 n1 c1, .slice a2 n2 c2, .slice a3 n3 c3], .int .i64 g] w fun e w' => e = .returned (.int .i64 (askV P g)) ∧ Below w.heap.size w w' := by
  have HL0 : Hid (n0 = P.own.length) := h.own.len
  have HM0 : Hid ((n0 : Int) ≤ 9223372036854775807) := by have := h.own.cap; show _ ≤ _; unfold maxLen at this; omega
  generalize hW : (w.alloc (.cells #[.slice a0 n0 c0, .slice a1 n1 c1, .slice a2 n2 c2, .slice a3 n3 c3] 37)) = W
  have B0 : Hid (Below w.heap.size w W) := by show Below _ _ _; rw [← hW]; exact al (Below.refl _ _) _
  obtain ⟨s, hS⟩ : ∃ s, w.heap.size = s := ⟨_, rfl⟩
  have Q : Hid (W.cell? ⟨s, 0, none⟩ = some (.slice a0 n0 c0) ∧ W.cell? ⟨s, 1, none⟩ = some (.slice a1 n1 c1) ∧ W.cell? ⟨s, 2, none⟩ = some (.slice a2 n2 c2) ∧ W.cell? ⟨s, 3, none⟩ = some (.slice a3 n3 c3)) := by
    show _ ∧ _
    rw [← hW, ← hS]
    exact ⟨cell_new rfl, cell_new rfl, cell_new rfl, cell_new rfl⟩
  have HP : Hid (Pl W a0 n0 c0 a1 n1 c1 a2 n2 c2 a3 n3 c3 P) := h.stay B0.out
  have HG : Hid (_ = _) := cell_keep B0.out hg
  clear h hg
  have q0 := Q.out.1
  have q1 := Q.out.2.1
  have q2 := Q.out.2.2.1
  have q3 := Q.out.2.2.2
  go_enter Tryz.func30, Tryz.ntmps30
  go_wp2_with fail
  clear hW hS
  refine (impl_policy _ _ _ _ _ _ _ _ _ _ _ _ P _ HP.out HG.out).mono ?_
  rintro e w1 ⟨rfl, b1⟩
  have q0 := cell_keep b1 Q.out.1
  have q1 := cell_keep b1 Q.out.2.1
  have q2 := cell_keep b1 Q.out.2.2.1
  have q3 := cell_keep b1 Q.out.2.2.2
  by_cases hz : pfV P = 0
  · by_cases hg : isG n0 g = false
    · have E : Hid (askV P g = 4) := by show _ = _; rw [askV, if_pos hz, if_pos (by rw [← HL0.out]; exact hg)]
      rw [hz]
      go_wp2_with fail
      refine (i_guest _ _ _ _ _ _ _ _ _ _ _ _ _ _ HM0.out).mono ?_
      rintro e w2 ⟨rfl, hw2⟩
      have b2 : Below w1.heap.size w1 w2 := by rw [hw2]; exact al (Below.refl _ _) _
      clear hw2
      rw [hg]
      go_wp2_with fail
      go_ret
      rw [E.out]
      exact ⟨rfl, on B0.out (on b1 b2)⟩
    · have E : Hid (askV P g = 0) := by show _ = _; rw [askV, if_pos hz, if_neg (by rw [← HL0.out]; exact hg)]
      rw [Bool.not_eq_false] at hg
      rw [hz]
      go_wp2_with fail
      refine (i_guest _ _ _ _ _ _ _ _ _ _ _ _ _ _ HM0.out).mono ?_
      rintro e w2 ⟨rfl, hw2⟩
      have b2 : Below w1.heap.size w1 w2 := by rw [hw2]; exact al (Below.refl _ _) _
      clear hw2
      rw [hg]
      go_wp2_with fail
      go_ret
      rw [E.out]
      exact ⟨rfl, on B0.out (on b1 b2)⟩
  · have E : Hid (askV P g = pfV P) := by show _ = _; rw [askV, if_neg hz]
    generalize hv : pfV P = v at *
    go_wp2_with fail
    go_ret
    rw [E.out]
    exact ⟨rfl, on B0.out b1⟩

end Go.Proofs.YtnhhbpemdgdaiaaGreatDoor
