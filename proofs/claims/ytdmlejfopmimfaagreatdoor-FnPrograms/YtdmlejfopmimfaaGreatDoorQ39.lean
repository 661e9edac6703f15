/- Texts of this seat, joined. -/
import Derived.Test.YtdmlejfopmimfaaGreatDoorQ38
namespace Go.Proofs.YtdmlejfopmimfaaGreatDoor
open Go.RowKit
set_option linter.unusedVariables false

theorem i_source_all (tx : Wb) (w : World) (hl : tx.length ≤ 1048576) :
    Calls Tryz.prog 23 #[.string (bq tx)] w fun e w' => ∃ lv v mv, e = .returned (.tuple #[.agg #[lv, v, mv], .int .i64 (labV tx).1, .int .i64 (labV tx).2.1]) ∧ Rsd w w' (cutT tx) lv v mv (labV tx) := by
  by_cases h : 1500 < tx.length
  · have e : labV tx = (2, 0, []) := by unfold labV; rw [if_pos (.inl h)]
    rw [e]
    refine (i_source_long tx w hl h).mono ?_
    rintro e w' ⟨rfl, b⟩
    exact ⟨_, _, _, rfl, rsd_bad rfl (by decide) b⟩
  · exact i_source tx w (by omega)
end Go.Proofs.YtdmlejfopmimfaaGreatDoor
