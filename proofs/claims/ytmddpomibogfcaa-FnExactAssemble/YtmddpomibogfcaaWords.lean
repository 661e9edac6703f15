/- What the functions on words answer, one contract a function: BitWords of the program and of the model, and the comparison of two results. -/
import Derived.Test.YtmddpomibogfcaaBase
import Derived.Test.YtmddpomibogfcaaWordMath
namespace Go.Proofs.Ytmddpomibogfcaa
open Go.RowKit

theorem field_value (x y : Value) (w : World) : (Instr.field 45 (.agg #[x, y]) 1).run Try.prog w = .ok y w := by kernel_rfl
theorem field_code (x y : Value) (w : World) : (Instr.field 45 (.agg #[x, y]) 0).run Try.prog w = .ok x w := by kernel_rfl
theorem impl_wrap (n : Int) (w : World) : Calls Try.prog 53 #[.int .i64 n] w fun e w' => e = .returned (.int .i64 (wd n)) ∧ w' = w := by
  go_enter Try.func53, Try.ntmps53
  go_wp2
  go_ret
  exact ⟨rfl, rfl⟩
theorem ret_i64 {a b : Int} (h : a = b) : Ending.returned (.int .i64 a) = .returned (.int .i64 b) := by rw [h]
end Go.Proofs.Ytmddpomibogfcaa
