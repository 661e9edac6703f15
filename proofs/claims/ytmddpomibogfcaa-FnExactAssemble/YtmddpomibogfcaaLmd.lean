/- LabelsOf by the program. -/
import Derived.Test.YtmddpomibogfcaaLmc
namespace Go.Proofs.Ytmddpomibogfcaa
open Go.RowKit
set_option linter.unusedVariables false

theorem i_source_all (tx : Wb) (w : World) (hl : tx.length ≤ 1048576) :
    Calls Try.prog 13 #[.string (bq tx)] w fun e w' => ∃ lv v mv, e = .returned (.tuple #[.agg #[lv, v, mv], .int .i64 (labV tx).1, .int .i64 (labV tx).2.1]) ∧ Rsd w w' (cutT tx) lv v mv (labV tx) := by
  by_cases h : 1500 < tx.length
  · have e : labV tx = (2, 0, []) := by unfold labV; rw [if_pos (.inl h)]
    rw [e]
    refine (i_source_long tx w hl h).mono ?_
    rintro e w' ⟨rfl, b⟩
    exact ⟨_, _, _, rfl, rsd_bad rfl (by decide) b⟩
  · exact i_source tx w (by omega)
theorem put3 {w : World} {s : Nat} {v : Value} {Z : List Lbl} (h : Lb w (s + 1) v Z) (x y z : Value) : Lb (((w.setCell ⟨s, 0, none⟩ x).setCell ⟨s, 1, none⟩ y).setCell ⟨s, 2, none⟩ z) (s + 1) v Z := by
  have sl : ∀ (u : World) (i : Nat) (x : Value), Lb u (s + 1) v Z → Lb (u.setCell ⟨s, i, none⟩ x) (s + 1) v Z := fun u i x h2 => h2.put _ _ (fun e => by have h9 : s + 1 ≤ s := (h2.lt _ e).1; omega)
  exact sl _ _ _ (sl _ _ _ (sl _ _ _ h))
end Go.Proofs.Ytmddpomibogfcaa
