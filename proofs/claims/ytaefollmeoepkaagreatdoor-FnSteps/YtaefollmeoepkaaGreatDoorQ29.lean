/- Texts of this seat, joined. -/
import Derived.Test.YtaefollmeoepkaaGreatDoorQ28
namespace Go.Proofs.YtaefollmeoepkaaGreatDoor
set_option maxRecDepth 20000
set_option maxHeartbeats 16000000
open Go.RowKit
set_option linter.unusedVariables false
def dueP (H : Ht) : Int × Int := if dueV H < 0 then (4, 0) else (0, dueV H)
theorem low_nonneg (b : Int) : 0 ≤ lowV b := by
 unfold lowV
 split
 ·decide
 ·split <;> decide
end Go.Proofs.YtaefollmeoepkaaGreatDoor
