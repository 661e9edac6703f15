/- What the functions on words answer, one contract a function: BitWords of the program and of the model, and the comparison of two results. -/
import Derived.Test.YtaajaikpkcgalaaBase
import Derived.Test.YtaajaikpkcgalaaWordMath
namespace Go.Proofs.Ytaajaikpkcgalaa
open Go.RowKit

theorem field_value (x y : Value) (w : World) : (Instr.field 35 (.agg #[x, y]) 1).run Try.prog w = .ok y w := by kernel_rfl
theorem field_code (x y : Value) (w : World) : (Instr.field 35 (.agg #[x, y]) 0).run Try.prog w = .ok x w := by kernel_rfl
theorem ret_i64 {a b : Int} (h : a = b) : Ending.returned (.int .i64 a) = .returned (.int .i64 b) := by rw [h]
end Go.Proofs.Ytaajaikpkcgalaa
