/- Lists of pages: when one has a fault, by program and model. -/
import Derived.Test.YteaccakodaidpaaPgm
import Derived.Test.YteaccakodaidpaaMem
namespace Go.Proofs.Yteaccakodaidpaa
open Go.RowKit
set_option linter.unusedVariables false

/-- The fault of one entry. -/
def pgC (top a b : Int) : Int := if -1 ≤ a ∧ a ≤ top - 1 ∧ 0 ≤ b ∧ b ≤ 7 then (if a = -1 ∧ b ≠ 0 then 1 else 0) else 3
theorem pgC_range {top a b : Int} (h : ¬ (-1 ≤ a ∧ a ≤ top - 1 ∧ 0 ≤ b ∧ b ≤ 7)) : pgC top a b = 3 := if_neg h
theorem pgC_form {top a b : Int} (h : -1 ≤ a ∧ a ≤ top - 1 ∧ 0 ≤ b ∧ b ≤ 7) (k : a = -1 ∧ b ≠ 0) : pgC top a b = 1 := by rw [pgC, if_pos h, if_pos k]
theorem pgC_ok {top a b : Int} (h : -1 ≤ a ∧ a ≤ top - 1 ∧ 0 ≤ b ∧ b ≤ 7) (k : ¬ (a = -1 ∧ b ≠ 0)) : pgC top a b = 0 := by rw [pgC, if_pos h, if_neg k]
theorem pgC_zero {top a b : Int} (h : pgC top a b = 0) : -1 ≤ a ∧ a ≤ top - 1 ∧ 0 ≤ b ∧ b ≤ 7 ∧ (a = -1 → b = 0) := by
  unfold pgC at h
  split at h
  · split at h <;> omega
  · omega
theorem pgC_cases (top a b : Int) : pgC top a b = 0 ∨ pgC top a b = 1 ∨ pgC top a b = 3 := by unfold pgC; split <;> (try split) <;> omega

/-- The first fault of a list's entries. -/
def firstC (top : Int) : List (Int × Int) → Int
  | [] => 0
  | r :: t => if pgC top r.1 r.2 = 0 then firstC top t else pgC top r.1 r.2
def okTo (top : Int) (rs : List (Int × Int)) (j : Nat) : Prop := ∀ i, i < j → pgC top (rs.getD i (0, 0)).1 (rs.getD i (0, 0)).2 = 0
theorem okTo_succ {top : Int} {rs : List (Int × Int)} {j : Nat} (h : okTo top rs j) (k : pgC top (rs.getD j (0, 0)).1 (rs.getD j (0, 0)).2 = 0) : okTo top rs (j + 1) := by
  intro i hi
  by_cases e : i = j
  · subst e; exact k
  · exact h i (by omega)
theorem firstC_ok {top : Int} {rs : List (Int × Int)} (h : okTo top rs rs.length) : firstC top rs = 0 := by
  induction rs with
  | nil => rfl
  | cons r t ih =>
    have h0 := h 0 (by simp)
    have ht : okTo top t t.length := fun i hi => by simpa using h (i + 1) (by simpa using hi)
    rw [firstC, if_pos (by simpa using h0), ih ht]
theorem firstC_at {top : Int} {rs : List (Int × Int)} {j : Nat} (hj : j < rs.length) (h : okTo top rs j) (k : pgC top (rs.getD j (0, 0)).1 (rs.getD j (0, 0)).2 ≠ 0) : firstC top rs = pgC top (rs.getD j (0, 0)).1 (rs.getD j (0, 0)).2 := by
  induction rs generalizing j with
  | nil => simp at hj
  | cons r t ih =>
    cases j with
    | zero =>
      have k' : ¬ pgC top r.1 r.2 = 0 := by simpa using k
      rw [firstC, if_neg k']
      simp
    | succ j =>
      have h0 : pgC top r.1 r.2 = 0 := by simpa using h 0 (by omega)
      rw [firstC, if_pos h0, ih (j := j) (by simpa using hj) (fun i hi => by simpa using h (i + 1) (by omega)) (by simpa using k)]
      simp
theorem firstC_zero {top : Int} {rs : List (Int × Int)} (h : firstC top rs = 0) : okTo top rs rs.length := by
  induction rs with
  | nil => intro i hi; simp at hi
  | cons r t ih =>
    rw [firstC] at h
    by_cases k : pgC top r.1 r.2 = 0
    · rw [if_pos k] at h
      intro i hi
      cases i with
      | zero => simpa using k
      | succ i => simpa using ih h i (by simpa using hi)
    · rw [if_neg k] at h
      exact absurd h k

/-- What PagesFault answers. -/
def pgsV (rs : List (Int × Int)) (top : Int) : Int := if 1 ≤ top ∧ top ≤ 24 then (if rs.length = 8 then firstC top rs else 1) else 3
theorem pgsV_zero {rs : List (Int × Int)} {top : Int} (h : pgsV rs top = 0) : 1 ≤ top ∧ top ≤ 24 ∧ rs.length = 8 ∧ okTo top rs 8 := by
  unfold pgsV at h
  split at h
  · next ht =>
    split at h
    · next hl => exact ⟨ht.1, ht.2, hl, by have := firstC_zero h; rwa [hl] at this⟩
    · omega
  · omega
theorem pgsV_ok {rs : List (Int × Int)} {top : Int} (h1 : 1 ≤ top) (h2 : top ≤ 24) (hl : rs.length = 8) (h : okTo top rs 8) : pgsV rs top = 0 := by
  rw [pgsV, if_pos ⟨h1, h2⟩, if_pos hl, firstC_ok (by rwa [hl])]

end Go.Proofs.Yteaccakodaidpaa
