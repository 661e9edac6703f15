/- Texts of this seat, joined. -/
import Derived.Test.YtilbandlachdbaaGreatDoorQ01
import Derived.Test.YtilbandlachdbaaGreatDoorQ02
namespace Go.Proofs.YtilbandlachdbaaGreatDoor
open Go.RowKit

theorem impl_wrap (n : Int) (w : World) : Calls Tryz.prog 140 #[.int .i64 n] w fun e w' => e = .returned (.int .i64 (wd n)) ∧ w' = w := by
  go_enter Tryz.func140, Tryz.ntmps140
  go_wp2
  go_ret
  exact ⟨rfl, rfl⟩
end Go.Proofs.YtilbandlachdbaaGreatDoor
