/- Texts of this seat, joined. -/
import Derived.Test.YtadkhognlapckaaGreatDoorQ01
import Derived.Test.YtadkhognlapckaaGreatDoorQ02
namespace Go.Proofs.YtadkhognlapckaaGreatDoor
open Go.RowKit

theorem impl_wrap (n : Int) (w : World) : Calls Tryz.prog 119 #[.int .i64 n] w fun e w' => e = .returned (.int .i64 (wd n)) ∧ w' = w := by
  go_enter Tryz.func119, Tryz.ntmps119
  go_wp2
  go_ret
  exact ⟨rfl, rfl⟩
end Go.Proofs.YtadkhognlapckaaGreatDoor
