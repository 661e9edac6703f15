/- Texts of this seat, joined. -/
import Derived.Test.YtimcoobhakfnaaaGreatDoorQ12
import Derived.Test.YtimcoobhakfnaaaGreatDoorQ13
import Derived.Test.YtimcoobhakfnaaaGreatDoorQ15
import Derived.Test.YtimcoobhakfnaaaGreatDoorQ19
namespace Go.Proofs.YtimcoobhakfnaaaGreatDoor
open Go.RowKit
set_option linter.unusedVariables false

theorem getV_at (H : Ht) (n : Nat) (h6 : n ≠ 6) (h8 : n ≠ 8) : getV H (n : Int) = gt H.csr n := by
  unfold getV
  rw [if_neg (by omega), if_neg (by omega)]
  rfl

end Go.Proofs.YtimcoobhakfnaaaGreatDoor
