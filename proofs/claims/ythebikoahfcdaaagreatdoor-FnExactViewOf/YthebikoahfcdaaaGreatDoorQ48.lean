/- Texts of this seat, joined. -/
import Derived.Test.YthebikoahfcdaaaGreatDoorQ38
import Derived.Test.YthebikoahfcdaaaGreatDoorQ42
import Derived.Test.YthebikoahfcdaaaGreatDoorQ46
namespace Go.Proofs.YthebikoahfcdaaaGreatDoor
open Go.RowKit
set_option linter.unusedVariables false

def voC (X : Hst) (g : Int) : Int := if hoV X = 0 then (if isG X.pol.own.length g = true then 0 else 4) else hoV X
def voH (X : Hst) (g : Int) : Ht := if voC X g = 0 then X.harts.getD g.toNat voidH else voidH
def voO (X : Hst) (g : Int) : List Int := if voC X g = 0 then wordsL X.mem (X.pol.own.getD g.toNat []) else []
def voG (X : Hst) (g : Int) : List Int := if voC X g = 0 then wordsL X.mem (gvL true g X.pol.lanes) else []
theorem vo_not (X : Hst) (g : Int) (h : voC X g ≠ 0) : voH X g = voidH ∧ voO X g = [] ∧ voG X g = [] :=
  ⟨by rw [voH, if_neg h], by rw [voO, if_neg h], by rw [voG, if_neg h]⟩
theorem vo_yes (X : Hst) (g : Int) (h : voC X g = 0) : voH X g = X.harts.getD g.toNat voidH ∧ voO X g = wordsL X.mem (X.pol.own.getD g.toNat []) ∧ voG X g = wordsL X.mem (gvL true g X.pol.lanes) :=
  ⟨by rw [voH, if_pos h], by rw [voO, if_pos h], by rw [voG, if_pos h]⟩
theorem vlanes_pg (own : List (List Int)) : ∀ (ls ahead : List Ln), lanesV own ahead ls = 0 → ∀ l ∈ ls, 0 ≤ l.pg ∧ l.pg < 24 := by
  intro ls
  induction ls with
  | nil => intro ahead _ l hl; cases hl
  | cons a t ih =>
    intro ahead h
    rw [lanesV] at h
    split at h
    · rename_i h1
      intro l hl
      rcases List.mem_cons.1 hl with rfl | hl
      · unfold laneV at h1
        split at h1
        · split at h1
          · cases h1
          · rename_i h2
            have h3 : pgOk l.pg = true := by
              cases e : pgOk l.pg
              · exact absurd (.inl e) h2
              · rfl
            unfold pgOk at h3
            simp at h3
            omega
        · rename_i h2
          exact absurd h1 h2
      · exact ih _ h l hl
    · rename_i h1
      exact absurd h h1
theorem gv_pg (g : Int) (ls : List Ln) (h : ∀ l ∈ ls, 0 ≤ l.pg ∧ l.pg < 24) : ∀ x ∈ gvL true g ls, 0 ≤ x ∧ x < 24 := by
  intro x hx
  unfold gvL at hx
  rw [List.mem_flatMap] at hx
  obtain ⟨l, hl, hx⟩ := hx
  split at hx
  · have := h l hl
    simp only [List.mem_singleton] at hx
    subst hx
    exact this
  · cases hx
/-- A host without a fault and one of its guests. -/
structure Vok (X : Hst) (g : Nat) : Prop where
  g0 : g < X.pol.own.length
  hl : X.harts.length = X.pol.own.length
  hk : Hok (X.harts.getD g voidH)
  ml : X.mem.length = 24 * 8
  o5 : (X.pol.own.getD g []).length ≤ 5
  oo : ∀ x ∈ X.pol.own.getD g [], 0 ≤ x ∧ x < (24 : Nat)
  l4 : X.pol.lanes.length ≤ 4
  gr : ∀ x ∈ gvL true (g : Int) X.pol.lanes, 0 ≤ x ∧ x < (24 : Nat)
  g4 : (gvL true (g : Int) X.pol.lanes).length ≤ 4
theorem harts_eachV : ∀ (hs : List Ht), hartsV hs = 0 → ∀ j, j < hs.length → hfV (hs.getD j voidH) = 0
  | [], _, j, hj => absurd hj (Nat.not_lt_zero _)
  | h :: t, hv, j, hj => by
    rw [hartsV] at hv
    split at hv
    · rename_i h0
      match j, hj with
      | 0, _ => exact h0
      | j + 1, hj => exact harts_eachV t hv j (by simpa using hj)
    · rename_i h0
      exact absurd hv h0
theorem vok_of {X : Hst} {g : Nat} (h : hoV X = 0) (hg : isG X.pol.own.length (g : Int) = true) : Vok X g := by
  obtain ⟨hp, _, _⟩ := ho_ok h
  have hgl : g < X.pol.own.length := by have := (isG_iff _ _).1 hg; omega
  have hpp := pf_parts X.pol hp
  have ho := pf_own X.pol hp g hgl
  unfold hoV at h
  rw [if_pos hp] at h
  split at h
  case isFalse => cases h
  rename_i hm
  split at h
  case isFalse h3 => exact absurd h h3
  rename_i hh
  have hml : X.mem.length = 192 := by have := hm.1; unfold wholeB at this; simp at this; exact this.1
  have gl := gv_len true (g : Int) X.pol.lanes
  refine ⟨hgl, hm.2, hok_of (harts_eachV X.harts hh g (by omega)), by omega, ho.2.1, fun x hx => by have := ho.2.2 x hx; omega, hpp.2.2.2.2.1, fun x hx => by have := gv_pg _ _ (vlanes_pg _ _ _ hpp.2.2.1) x hx; omega, by have := hpp.2.2.2.2.1; omega⟩
end Go.Proofs.YthebikoahfcdaaaGreatDoor
