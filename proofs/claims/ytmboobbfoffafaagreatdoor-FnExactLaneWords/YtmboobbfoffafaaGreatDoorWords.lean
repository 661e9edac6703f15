/- What the functions on words answer, one contract a function: BitWords of the program and of the model, and the comparison of two results. -/
import Derived.Test.YtmboobbfoffafaaGreatDoorBase
import Derived.Test.YtmboobbfoffafaaGreatDoorWordMath
namespace Go.Proofs.YtmboobbfoffafaaGreatDoor
open Go.RowKit

theorem field_value (x y : Value) (w : World) : (Instr.field 38 (.agg #[x, y]) 1).run Tryz.prog w = .ok y w := by kernel_rfl
theorem field_code (x y : Value) (w : World) : (Instr.field 38 (.agg #[x, y]) 0).run Tryz.prog w = .ok x w := by kernel_rfl
theorem impl_wrap (n : Int) (w : World) : Calls Tryz.prog 28 #[.int .i64 n] w fun e w' => e = .returned (.int .i64 (wd n)) ∧ w' = w := by
  go_enter Tryz.func28, Tryz.ntmps28
  go_wp2
  go_ret
  exact ⟨rfl, rfl⟩
theorem ret_i64 {a b : Int} (h : a = b) : Ending.returned (.int .i64 a) = .returned (.int .i64 b) := by rw [h]
end Go.Proofs.YtmboobbfoffafaaGreatDoor
