/- What the functions on words answer, one contract a function: BitWords of the program and of the model, and the comparison of two results. -/
import Derived.Test.YtnhebeehpkecfaaDoorBase
import Derived.Test.YtnhebeehpkecfaaDoorWordMath
namespace Go.Proofs.YtnhebeehpkecfaaDoor
open Go.RowKit

theorem eq_same (a b : Int) (w : World) :
    Calls Tryd.prog 8 #[.agg #[.int .i64 a, .int .i64 b], .agg #[.int .i64 a, .int .i64 b]] w fun e w' => e = .returned (.bool true) ∧ Below w.heap.size w w' := by
  go_enter Tryd.func8, Tryd.ntmps8
  go_wp2
  go_ret
  exact ⟨rfl, ((Below.refl _ _).alloc (Nat.le_refl _) _).alloc (by simp) _⟩

theorem field_value (x y : Value) (w : World) : (Instr.field 30 (.agg #[x, y]) 1).run Tryd.prog w = .ok y w := by kernel_rfl
theorem field_code (x y : Value) (w : World) : (Instr.field 30 (.agg #[x, y]) 0).run Tryd.prog w = .ok x w := by kernel_rfl
theorem ret_i64 {a b : Int} (h : a = b) : Ending.returned (.int .i64 a) = .returned (.int .i64 b) := by rw [h]
end Go.Proofs.YtnhebeehpkecfaaDoor
