/- Texts of this seat, joined. -/
import Derived.Test.YtaefollmeoepkaaGreatDoorQ17
import Derived.Test.YtaefollmeoepkaaGreatDoorQ18
import Derived.Test.YtaefollmeoepkaaGreatDoorQ20
namespace Go.Proofs.YtaefollmeoepkaaGreatDoor
open Go.RowKit
set_option linter.unusedVariables false
theorem getV_at (H : Ht) (n : Nat) (h6 : n ≠ 6) (h8 : n ≠ 8) : getV H (n : Int) = gt H.csr n := by
  unfold getV
  rw [if_neg (by omega), if_neg (by omega)]
  rfl
end Go.Proofs.YtaefollmeoepkaaGreatDoor
