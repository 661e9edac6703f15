/- What the functions on words answer, one contract a function: BitWords of the program and of the model, and the comparison of two results. -/
import Derived.Test.YtdogabmehjbphaaDoorBase
import Derived.Test.YtdogabmehjbphaaDoorWordMath
namespace Go.Proofs.YtdogabmehjbphaaDoor
open Go.RowKit

theorem field_value (x y : Value) (w : World) : (Instr.field 63 (.agg #[x, y]) 1).run Tryd.prog w = .ok y w := by kernel_rfl
theorem field_code (x y : Value) (w : World) : (Instr.field 63 (.agg #[x, y]) 0).run Tryd.prog w = .ok x w := by kernel_rfl
theorem impl_wrap (n : Int) (w : World) : Calls Tryd.prog 28 #[.int .i64 n] w fun e w' => e = .returned (.int .i64 (wd n)) ∧ w' = w := by
  go_enter Tryd.func28, Tryd.ntmps28
  go_wp2
  go_ret
  exact ⟨rfl, rfl⟩
theorem ret_i64 {a b : Int} (h : a = b) : Ending.returned (.int .i64 a) = .returned (.int .i64 b) := by rw [h]
end Go.Proofs.YtdogabmehjbphaaDoor
