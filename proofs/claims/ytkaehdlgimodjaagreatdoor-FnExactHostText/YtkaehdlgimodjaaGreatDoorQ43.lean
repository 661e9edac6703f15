/- Texts of this seat, joined. -/
import Derived.Test.YtkaehdlgimodjaaGreatDoorQ18
import Derived.Test.YtkaehdlgimodjaaGreatDoorQ42
namespace Go.Proofs.YtkaehdlgimodjaaGreatDoor
open Go.RowKit
set_option linter.unusedVariables false

def ln5 (l : Ln) : List Int := [l.fr, l.dst, l.pg, l.af, l.tt]
def pr2 (p : Int × Int) : List Int := [p.1, p.2]
/-- Numbers that a line holds. -/
def LkOk (zs : List Int) : Prop := zs.length ≤ 40 ∧ zs.all isW = true
theorem isW_of {z : Int} (h0 : 0 ≤ z) (h1 : z ≤ 4294967295) : isW z = true := isW_iff.2 ⟨h0, h1⟩
theorem fm_isG {n : Nat} {g : Int} (h : isG n g = true) (hn : n ≤ 3) : isW g = true := by
  simp [isG] at h
  exact isW_of h.1 (by omega)
theorem fm_ends {n : Nat} {f t : Int} (h : endsV n f t = 0) (hn : n ≤ 3) : isW f = true ∧ isW t = true := by
  unfold endsV at h
  split at h
  · cases h
  · rename_i h1
    simp only [not_or, Bool.not_eq_false] at h1
    exact ⟨fm_isG h1.1 hn, fm_isG h1.2 hn⟩
theorem fm_guests (own : List (List Int)) (h : guestsV own = 0) : ∀ o ∈ own, LkOk o := by
  induction own with
  | nil => intro o ho; cases ho
  | cons a t ih =>
    rw [guestsV] at h
    split at h
    · cases h
    · rename_i h1
      split at h
      · cases h
      · rename_i h2
        intro o ho
        rcases List.mem_cons.1 ho with rfl | ho
        · refine ⟨by omega, ?_⟩
          have h3 : o.all pgOk = true := by simpa using h2
          rw [List.all_eq_true] at h3 ⊢
          intro x hx
          have := h3 x hx
          simp [pgOk] at this
          exact isW_of this.1 (by omega)
        · exact ih h o ho
theorem fm_lane {own : List (List Int)} {ahead : List Ln} {l : Ln} (h : laneV own ahead l = 0) (hn : own.length ≤ 3) : LkOk (ln5 l) := by
  unfold laneV at h
  split at h
  · rename_i h1
    have e := fm_ends h1 hn
    split at h
    · cases h
    · rename_i h2
      simp only [not_or, Bool.not_eq_false] at h2
      obtain ⟨a1, a2, a3⟩ := h2
      simp [pgOk] at a1
      simp [atOk] at a2 a3
      exact ⟨by simp [ln5], by simp [ln5, e.1, e.2, isW_of a1.1 (by omega), isW_of (z := l.af) (by omega) (by omega), isW_of (z := l.tt) (by omega) (by omega)]⟩
  · rename_i h1; exact absurd h h1
theorem fm_lanes (own : List (List Int)) (hn : own.length ≤ 3) (ls : List Ln) : ∀ ahead, lanesV own ahead ls = 0 → ∀ l ∈ ls, LkOk (ln5 l) := by
  induction ls with
  | nil => intro _ _ l hl; cases hl
  | cons a t ih =>
    intro ahead h l hl
    rw [lanesV] at h
    split at h
    · rename_i h1
      rcases List.mem_cons.1 hl with rfl | hl
      · exact fm_lane h1 hn
      · exact ih _ h l hl
    · rename_i h1; exact absurd h h1
theorem fm_bells (n : Nat) (hn : n ≤ 3) (ls : List (Int × Int)) : ∀ ahead, bellsV n ahead ls = 0 → ∀ l ∈ ls, LkOk (pr2 l) := by
  induction ls with
  | nil => intro _ _ l hl; cases hl
  | cons a t ih =>
    intro ahead h l hl
    rw [bellsV] at h
    split at h
    · rename_i h1
      rcases List.mem_cons.1 hl with rfl | hl
      · unfold bellV at h1
        split at h1
        · rename_i h2
          have e := fm_ends h2 hn
          exact ⟨by simp [pr2], by simp [pr2, e.1, e.2]⟩
        · rename_i h2; exact absurd h1 h2
      · exact ih _ h l hl
    · rename_i h1; exact absurd h h1
theorem fm_slots (n : Nat) (hn : n ≤ 3) (ls : List (Int × Int)) (h : slotsV n ls = 0) : ∀ l ∈ ls, LkOk (pr2 l) := by
  induction ls with
  | nil => intro l hl; cases hl
  | cons a t ih =>
    intro l hl
    rw [slotsV] at h
    split at h
    · rename_i h1
      rcases List.mem_cons.1 hl with rfl | hl
      · unfold slotV at h1
        split at h1
        · cases h1
        · rename_i h2
          split at h1
          · cases h1
          · rename_i h3
            have g1 := fm_isG (by simpa using h2) hn
            have g2 : stOk l.2 = true := by simpa using h3
            simp [stOk] at g2
            exact ⟨by simp [pr2], by simp [pr2, g1, isW_of (z := l.2) (by omega) (by omega)]⟩
      · exact ih h l hl
    · rename_i h1; exact absurd h h1
/-- What a policy without fault holds, as lists of numbers. -/
structure Fm (P : Plc) : Prop where
  o3 : P.own.length ≤ 3
  l4 : P.lanes.length ≤ 4
  b4 : P.bells.length ≤ 4
  s8 : P.plan.length ≤ 8
  ok0 : ∀ zs ∈ P.own, LkOk zs
  ok1 : ∀ zs ∈ P.lanes.map ln5, LkOk zs
  ok2 : ∀ zs ∈ P.bells.map pr2, LkOk zs
  ok3 : ∀ zs ∈ P.plan.map pr2, LkOk zs
theorem fm_of {P : Plc} (h : pfV P = 0) : Fm P := by
  have h1 := (or_zero h).1
  have h2 := (or_zero (or_zero h).2).1
  have h3 := (or_zero (or_zero h).2).2
  have h4 := (or_zero h1).1
  have h5 := (or_zero h2).1
  have h6 := (or_zero h2).2
  have h7 := (or_zero h3).1
  have h8 := (or_zero h3).2
  unfold g1V at h4
  split at h4
  · cases h4
  · rename_i k1
    unfold g3V at h5
    split at h5
    · cases h5
    · rename_i k2
      unfold g6V at h8
      split at h8
      · cases h8
      · rename_i k3
        have n3 : P.own.length ≤ 3 := by omega
        refine ⟨n3, by omega, by omega, by omega, fm_guests _ h4, ?_, ?_, ?_⟩
        · intro zs hz
          obtain ⟨l, hl, rfl⟩ := List.mem_map.1 hz
          exact fm_lanes _ n3 _ _ h6 l hl
        · intro zs hz
          obtain ⟨l, hl, rfl⟩ := List.mem_map.1 hz
          exact fm_bells _ n3 _ _ h7 l hl
        · intro zs hz
          obtain ⟨l, hl, rfl⟩ := List.mem_map.1 hz
          exact fm_slots _ n3 _ h8 l hl
end Go.Proofs.YtkaehdlgimodjaaGreatDoor
