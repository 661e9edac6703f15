import Derived.Test.YtaefollmeoepkaaGreatDoorQ13
import Derived.Test.YtaefollmeoepkaaGreatDoorQ16
import Derived.Test.YtaefollmeoepkaaGreatDoorQ17
namespace Go.Proofs.YtaefollmeoepkaaGreatDoor
set_option maxRecDepth 20000
set_option maxHeartbeats 16000000
open Go.RowKit
set_option linter.unusedVariables false
theorem getV_at(H:Ht)(n:Nat)(h6:n≠6)(h8:n≠8):getV H (n:Int)=gt H.csr n:=by
 unfold getV
 rw[if_neg (by omega),if_neg (by omega)]
 rfl
end Go.Proofs.YtaefollmeoepkaaGreatDoor
