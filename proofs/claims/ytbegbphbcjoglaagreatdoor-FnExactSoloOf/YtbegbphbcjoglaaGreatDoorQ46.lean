/- Texts of this seat, joined. -/
import Derived.Test.YtbegbphbcjoglaaGreatDoorQ41
import Derived.Test.YtbegbphbcjoglaaGreatDoorQ43
namespace Go.Proofs.YtbegbphbcjoglaaGreatDoor
open Go.RowKit
set_option linter.unusedVariables false

theorem flanes_pg (own : List (List Int)) : ∀ (ls ahead : List Ln), lanesV own ahead ls = 0 → ∀ l ∈ ls, 0 ≤ l.pg ∧ l.pg < 24 := by
  intro ls
  induction ls with
  | nil => intro ahead _ l hl; cases hl
  | cons a t ih =>
    intro ahead h
    rw [lanesV] at h
    split at h
    · rename_i h1
      intro l hl
      rcases List.mem_cons.1 hl with rfl | hl
      · unfold laneV at h1
        split at h1
        · split at h1
          · cases h1
          · rename_i h2
            have h3 : pgOk l.pg = true := by
              cases e : pgOk l.pg
              · exact absurd (.inl e) h2
              · rfl
            unfold pgOk at h3
            simp at h3
            omega
        · rename_i h2
          exact absurd h1 h2
      · exact ih _ h l hl
    · rename_i h1
      exact absurd h h1
theorem first_in (g k : Int) : ∀ ls : List Ln, (∀ l ∈ ls, 0 ≤ l.pg ∧ l.pg < 24) → firstM g k ls = (-1, 0) ∨ ((0 ≤ (firstM g k ls).1 ∧ (firstM g k ls).1 ≤ 23) ∧ (firstM g k ls).2 ≠ 0)
  | [], _ => .inl rfl
  | l :: t, h => by
    rw [firstM]
    unfold matchL
    have h1 := h l (by simp)
    split
    · rename_i x hx
      right
      split at hx
      · simp at hx; subst hx; exact ⟨⟨h1.1, by show l.pg ≤ 23; omega⟩, by show (3 : Int) ≠ 0; decide⟩
      · split at hx
        · simp at hx; subst hx; exact ⟨⟨h1.1, by show l.pg ≤ 23; omega⟩, by show (1 : Int) ≠ 0; decide⟩
        · cases hx
    · exact first_in g k t fun x hx => h x (by simp [hx])
theorem pforL_at (ow : List Int) (ls : List Ln) (g : Int) (k : Nat) (hk : k < 8) : (pforL ow ls g 8).getD k (0, 0) = pageV ow ls g k := by
  unfold pforL
  rw [List.getD, List.getElem?_map, List.getElem?_range hk]
  rfl
theorem pg_each {P : Plc} {g : Nat} (hp : pfV P = 0) (hgl : g < P.own.length) : ∀ k, k < 8 → (pforL (P.own.getD g []) P.lanes (g : Int) 8).getD k (0, 0) = (-1, 0) ∨ ((0 ≤ ((pforL (P.own.getD g []) P.lanes (g : Int) 8).getD k (0, 0)).1 ∧ ((pforL (P.own.getD g []) P.lanes (g : Int) 8).getD k (0, 0)).1 ≤ 23) ∧ ((pforL (P.own.getD g []) P.lanes (g : Int) 8).getD k (0, 0)).2 ≠ 0) := fun k hk => by
  have hpp := pf_parts P hp
  have ho := pf_own P hp g hgl
  rw [pforL_at _ _ _ k hk]
  unfold pageV
  split
  · rename_i h1
    right
    have h2 := ho.2.2 ((P.own.getD g []).getD k 0) (getD_mem _ 0 k h1)
    exact ⟨h2, by show (7 : Int) ≠ 0; decide⟩
  · exact first_in _ _ _ (flanes_pg _ _ _ hpp.2.2.1)
end Go.Proofs.YtbegbphbcjoglaaGreatDoor
