/- Texts of this seat, joined. -/
import Derived.Test.YtbjbpkfbmgebjaaGreatDoorQ01
import Derived.Test.YtbjbpkfbmgebjaaGreatDoorQ02
namespace Go.Proofs.YtbjbpkfbmgebjaaGreatDoor
open Go.RowKit

theorem field_value (x y : Value) (w : World) : (Instr.field 110 (.agg #[x, y]) 1).run Tryz.prog w = .ok y w := by kernel_rfl
theorem impl_wrap (n : Int) (w : World) : Calls Tryz.prog 72 #[.int .i64 n] w fun e w' => e = .returned (.int .i64 (wd n)) ∧ w' = w := by
  go_enter Tryz.func72, Tryz.ntmps72
  go_wp2
  go_ret
  exact ⟨rfl, rfl⟩
end Go.Proofs.YtbjbpkfbmgebjaaGreatDoor
