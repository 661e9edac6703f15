/- Texts of this seat, joined. -/
import Derived.RowKit
import Derived.Laws.BitsAllLaws
namespace Go.Proofs.YtdhdfopkcpkbeaaGreatDoor
open Go.RowKit

def wd (n : Int) : Int := n % 4294967296
theorem wd_in (a : Int) : 0 ≤ wd a ∧ wd a ≤ 4294967295 := by unfold wd; omega
end Go.Proofs.YtdhdfopkcpkbeaaGreatDoor
