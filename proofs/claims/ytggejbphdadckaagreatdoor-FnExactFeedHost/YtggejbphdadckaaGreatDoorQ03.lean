/- Texts of this seat, joined. -/
import Derived.Test.YtggejbphdadckaaGreatDoorQ01
import Derived.Test.YtggejbphdadckaaGreatDoorQ02
namespace Go.Proofs.YtggejbphdadckaaGreatDoor
open Go.RowKit
theorem field_value (x y : Value) (w : World) : (Instr.field 139 (.agg #[x, y]) 1).run Tryz.prog w = .ok y w := by kernel_rfl
theorem impl_wrap (n : Int) (w : World) : Calls Tryz.prog 117 #[.int .i64 n] w fun e w' => e = .returned (.int .i64 (wd n)) ∧ w' = w := by
  go_enter Tryz.func117, Tryz.ntmps117
  go_wp2
  go_ret
  exact ⟨rfl, rfl⟩
end Go.Proofs.YtggejbphdadckaaGreatDoor
