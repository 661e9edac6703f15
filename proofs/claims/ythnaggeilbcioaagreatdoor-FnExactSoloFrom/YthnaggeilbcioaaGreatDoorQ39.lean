/- Texts of this seat, joined. -/
import Derived.Test.YthnaggeilbcioaaGreatDoorQ36
namespace Go.Proofs.YthnaggeilbcioaaGreatDoor
open Go.RowKit
set_option linter.unusedVariables false

/-- The slot whose turn it is a steps into a round, and what is left of it. -/
def tnV : List (Int × Int) → Int → Int × Int
  | [], _ => (0, 0)
  | s :: t, a => if s.2 ≤ a then ((tnV t (a - s.2)).1 + 1, (tnV t (a - s.2)).2) else (0, s.2 - a)
theorem rd_nonneg (zs : List (Int × Int)) (h : ∀ s ∈ zs, 1 ≤ s.2) : 0 ≤ rdV zs := by
  induction zs with
  | nil => simp [rdV]
  | cons s t ih =>
    rw [rdV]
    have h1 := h s (by simp)
    have h2 := ih fun x hx => h x (by simp [hx])
    omega
theorem tn_at (zs : List (Int × Int)) : ∀ (j : Nat) (a : Int), (∀ s ∈ zs, 1 ≤ s.2) → j < zs.length → rdV (zs.take j) ≤ a → a < rdV (zs.take (j + 1)) → tnV zs a = ((j : Int), rdV (zs.take (j + 1)) - a) := by
  induction zs with
  | nil => intro j a _ h; simp at h
  | cons s t ih =>
    intro j a hp hj h0 h1
    cases j with
    | zero =>
      simp [rdV] at h1
      rw [tnV, if_neg (by omega)]
      simp [rdV]
    | succ j =>
      simp only [List.take_succ_cons, rdV] at h0 h1 ⊢
      have n := rd_nonneg (t.take j) fun x hx => hp x (by simp [List.mem_of_mem_take hx])
      rw [tnV, if_pos (by omega), ih j (a - s.2) (fun x hx => hp x (by simp [hx])) (by simpa using hj) (by omega) (by omega)]
      exact Prod.ext (by simp) (by simp; omega)
def ckOk (c : Int) : Bool := decide (0 ≤ c) && decide (c ≤ 1000000)
theorem pf_plan1 (P : Plc) (h : pfV P = 0) : 1 ≤ P.plan.length := by
  have h6 : g6V P = 0 := (or_zero (or_zero (or_zero h).2).2).2
  unfold g6V at h6
  split at h6
  · cases h6
  · rename_i h1; omega
theorem pf_each (P : Plc) (h : pfV P = 0) : ∀ s ∈ P.plan, 1 ≤ s.2 ∧ s.2 ≤ 50 := by
  have h6 : g6V P = 0 := (or_zero (or_zero (or_zero h).2).2).2
  unfold g6V at h6
  split at h6
  · cases h6
  · exact slots_ok _ _ h6
theorem rd_pos (P : Plc) (h : pfV P = 0) : 1 ≤ rdV P.plan ∧ rdV P.plan ≤ 400 := by
  have h1 := pf_plan1 P h
  have h2 := (rd_bound P h P.plan.length (Nat.le_refl _)).2
  have h8 := (pf_plan P h).1
  rw [List.take_length] at h2
  refine ⟨?_, by omega⟩
  have e := pf_each P h
  cases hp : P.plan with
  | nil => rw [hp] at h1; simp at h1
  | cons s t =>
    rw [hp] at e
    rw [rdV]
    have h3 := e s (by simp)
    have h4 := rd_nonneg t fun x hx => (e x (by simp [hx])).1
    omega
/-- What TurnAt answers: the code, the slot, its guest, what is left of it. -/
def tS (P : Plc) (c : Int) : Int × Int := tnV P.plan (c % rdV P.plan)
theorem tS_at (P : Plc) (h : pfV P = 0) (c : Int) (j : Nat) (hj : j < P.plan.length) (h0 : rdV (P.plan.take j) ≤ c % rdV P.plan) (h1 : c % rdV P.plan < rdV (P.plan.take (j + 1))) : tS P c = ((j : Int), rdV (P.plan.take (j + 1)) - c % rdV P.plan) :=
  tn_at P.plan j _ (fun s hs => (pf_each P h s hs).1) hj h0 h1
end Go.Proofs.YthnaggeilbcioaaGreatDoor
