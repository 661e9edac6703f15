/- Steps of a guest and of a round: the model and the program. -/
import Derived.Test.YtnggkofddokplaaGreatDoorPok
namespace Go.Proofs.YtnggkofddokplaaGreatDoor
open Go.RowKit
set_option linter.unusedVariables false

def frV (g : Int) : List (Int × Int) → Int
  | [] => 0
  | s :: t => (if s.1 = g then s.2 else 0) + frV g t
theorem frV_append (g : Int) (a b : List (Int × Int)) : frV g (a ++ b) = frV g a + frV g b := by
  induction a with
  | nil => simp [frV]
  | cons s t ih => rw [List.cons_append, frV, frV, ih]; omega
theorem frV_take (g : Int) (zs : List (Int × Int)) (j : Nat) (h : j < zs.length) : frV g (zs.take (j + 1)) = frV g (zs.take j) + (if (zs.getD j (0, 0)).1 = g then (zs.getD j (0, 0)).2 else 0) := by
  rw [take_succ_getD zs (0, 0) j h, frV_append, frV, frV]
  omega
def rdV : List (Int × Int) → Int
  | [] => 0
  | s :: t => s.2 + rdV t
theorem rdV_append (a b : List (Int × Int)) : rdV (a ++ b) = rdV a + rdV b := by
  induction a with
  | nil => simp [rdV]
  | cons s t ih => rw [List.cons_append, rdV, rdV, ih]; omega
theorem rdV_take (zs : List (Int × Int)) (j : Nat) (h : j < zs.length) : rdV (zs.take (j + 1)) = rdV (zs.take j) + (zs.getD j (0, 0)).2 := by
  rw [take_succ_getD zs (0, 0) j h, rdV_append, rdV, rdV]
  omega
theorem slots_ok (n : Nat) (zs : List (Int × Int)) (h : slotsV n zs = 0) : ∀ s ∈ zs, 1 ≤ s.2 ∧ s.2 ≤ 50 := by
  induction zs with
  | nil => intro s hs; cases hs
  | cons a t ih =>
    rw [slotsV] at h
    split at h
    · rename_i h1
      intro s hs
      rcases List.mem_cons.1 hs with rfl | hs
      · rw [slotV] at h1
        split at h1
        · cases h1
        · split at h1
          · cases h1
          · rename_i h2
            have : stOk s.2 = true := by simpa using h2
            simpa [stOk] using this
      · exact ih h s hs
    · rename_i h1
      exact absurd h h1
theorem or_zero {a b : Int} (h : orV a b = 0) : a = 0 ∧ b = 0 := by
  unfold orV at h
  split at h
  · rename_i h1; exact ⟨h1, h⟩
  · rename_i h1; exact absurd h h1
theorem pf_plan (P : Plc) (h : pfV P = 0) : P.plan.length ≤ 8 ∧ ∀ j, j < P.plan.length → 1 ≤ (P.plan.getD j (0, 0)).2 ∧ (P.plan.getD j (0, 0)).2 ≤ 50 := by
  have h6 : g6V P = 0 := (or_zero (or_zero (or_zero h).2).2).2
  unfold g6V at h6
  split at h6
  · cases h6
  · rename_i h1
    exact ⟨by omega, fun j hj => slots_ok _ _ h6 _ (getD_mem P.plan (0, 0) j hj)⟩
theorem fr_bound (P : Plc) (h : pfV P = 0) (g : Int) : ∀ j, j ≤ P.plan.length → 0 ≤ frV g (P.plan.take j) ∧ frV g (P.plan.take j) ≤ 50 * j := by
  intro j
  induction j with
  | zero => intro _; simp [frV]
  | succ j ih =>
    intro hj
    have h1 := ih (by omega)
    have h2 := (pf_plan P h).2 j (by omega)
    rw [frV_take g P.plan j (by omega)]
    split <;> omega
theorem rd_bound (P : Plc) (h : pfV P = 0) : ∀ j, j ≤ P.plan.length → 0 ≤ rdV (P.plan.take j) ∧ rdV (P.plan.take j) ≤ 50 * j := by
  intro j
  induction j with
  | zero => intro _; simp [rdV]
  | succ j ih =>
    intro hj
    have h1 := ih (by omega)
    have h2 := (pf_plan P h).2 j (by omega)
    rw [rdV_take P.plan j (by omega)]
    omega
def askV (P : Plc) (g : Int) : Int := if pfV P = 0 then (if isG P.own.length g = false then 4 else 0) else pfV P
def fR (P : Plc) (g : Int) : Int × Int := if askV P g = 0 then (0, frV g P.plan) else (askV P g, 0)
def rR (P : Plc) : Int × Int := if pfV P = 0 then (0, rdV P.plan) else (pfV P, 0)
theorem ask_pf (P : Plc) (g : Int) (h : askV P g = 0) : pfV P = 0 := by
  unfold askV at h
  split at h
  · rename_i h1; exact h1
  · exact h

end Go.Proofs.YtnggkofddokplaaGreatDoor
