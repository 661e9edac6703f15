/- Texts of this seat, joined. -/
import Derived.Test.YtbegbphbcjoglaaGreatDoorQ01
import Derived.Test.YtbegbphbcjoglaaGreatDoorQ02
namespace Go.Proofs.YtbegbphbcjoglaaGreatDoor
open Go.RowKit

theorem impl_wrap (n : Int) (w : World) : Calls Tryz.prog 60 #[.int .i64 n] w fun e w' => e = .returned (.int .i64 (wd n)) ∧ w' = w := by
  go_enter Tryz.func60, Tryz.ntmps60
  go_wp2
  go_ret
  exact ⟨rfl, rfl⟩
end Go.Proofs.YtbegbphbcjoglaaGreatDoor
