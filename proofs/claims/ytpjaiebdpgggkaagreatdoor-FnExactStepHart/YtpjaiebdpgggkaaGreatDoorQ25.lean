/- Texts of this seat, joined. -/
import Derived.Test.YtpjaiebdpgggkaaGreatDoorQ18
import Derived.Test.YtpjaiebdpgggkaaGreatDoorQ19
import Derived.Test.YtpjaiebdpgggkaaGreatDoorQ21
namespace Go.Proofs.YtpjaiebdpgggkaaGreatDoor
open Go.RowKit
set_option linter.unusedVariables false

theorem getV_at (H : Ht) (n : Nat) (h6 : n ≠ 6) (h8 : n ≠ 8) : getV H (n : Int) = gt H.csr n := by
  unfold getV
  rw [if_neg (by omega), if_neg (by omega)]
  rfl

end Go.Proofs.YtpjaiebdpgggkaaGreatDoor
