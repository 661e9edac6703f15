/- Words of a machine, and what may stand where. -/
import Derived.Test.YtnggkofddokplaaGreatDoorHnm
import Derived.Test.YtnggkofddokplaaGreatDoorHrv
namespace Go.Proofs.YtnggkofddokplaaGreatDoor
open Go.RowKit
set_option linter.unusedVariables false

theorem ret_b {a b : Bool} (h : a = b) : Ending.returned (.bool a) = .returned (.bool b) := by rw [h]

theorem stand_tmod (z m : Int) (h : 0 ≤ z) : z.tmod m = z % m := Int.tmod_eq_emod_of_nonneg h
end Go.Proofs.YtnggkofddokplaaGreatDoor
