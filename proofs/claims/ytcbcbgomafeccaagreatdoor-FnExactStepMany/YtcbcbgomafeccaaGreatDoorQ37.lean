/- Texts of this seat, joined. -/
import Derived.Laws.ByValue
import Derived.Test.YtcbcbgomafeccaaGreatDoorQ06
import Derived.Test.YtcbcbgomafeccaaGreatDoorQ36
namespace Go.Proofs.YtcbcbgomafeccaaGreatDoor
open Go.RowKit
set_option linter.unusedVariables false

def offV (im : Int) : Int := wrap64 (IntKind.i16.wrap im)
set_option maxRecDepth 20000 in
set_option maxHeartbeats 4000000 in
theorem i_off (x0 x1 x2 : Value) (im : Int) (w : World) : Calls Tryz.prog 168 #[.agg #[x0, x1, x2, .int .i64 im]] w fun e w' => e = .returned (.int .i64 (offV im)) ∧ Below w.heap.size w w' := by
  go_enter Tryz.func168, Tryz.ntmps168
  go_wp2
  all_goals go_ret
  all_goals exact ⟨rfl, al (Below.refl _ _) _⟩
theorem meth_reckons (x0 x1 x2 x3 : Value) (w : World) : (method 300 128 (.agg #[x0, x1, x2, x3]) "loop.example/g00213/impl.offset").run Tryz.prog w = .ok (168, .agg #[x0, x1, x2, x3]) w := by kernel_rfl
theorem meth_adds (x0 x1 x2 x3 : Value) (w : World) : (method 300 130 (.agg #[x0, x1, x2, x3]) "loop.example/g00213/impl.offset").run Tryz.prog w = .ok (168, .agg #[x0, x1, x2, x3]) w := by kernel_rfl
theorem meth_lifts (x0 x1 x2 x3 : Value) (w : World) : (method 300 131 (.agg #[x0, x1, x2, x3]) "loop.example/g00213/impl.offset").run Tryz.prog w = .ok (168, .agg #[x0, x1, x2, x3]) w := by kernel_rfl
theorem meth_loads (x0 x1 x2 x3 : Value) (w : World) : (method 300 132 (.agg #[x0, x1, x2, x3]) "loop.example/g00213/impl.offset").run Tryz.prog w = .ok (168, .agg #[x0, x1, x2, x3]) w := by kernel_rfl
theorem meth_stores (x0 x1 x2 x3 : Value) (w : World) : (method 300 133 (.agg #[x0, x1, x2, x3]) "loop.example/g00213/impl.offset").run Tryz.prog w = .ok (168, .agg #[x0, x1, x2, x3]) w := by kernel_rfl
theorem meth_ifSame (x0 x1 x2 x3 : Value) (w : World) : (method 300 134 (.agg #[x0, x1, x2, x3]) "loop.example/g00213/impl.offset").run Tryz.prog w = .ok (168, .agg #[x0, x1, x2, x3]) w := by kernel_rfl
theorem meth_ifOther (x0 x1 x2 x3 : Value) (w : World) : (method 300 136 (.agg #[x0, x1, x2, x3]) "loop.example/g00213/impl.offset").run Tryz.prog w = .ok (168, .agg #[x0, x1, x2, x3]) w := by kernel_rfl
theorem meth_ifLess (x0 x1 x2 x3 : Value) (w : World) : (method 300 137 (.agg #[x0, x1, x2, x3]) "loop.example/g00213/impl.offset").run Tryz.prog w = .ok (168, .agg #[x0, x1, x2, x3]) w := by kernel_rfl
theorem meth_jumps (x0 x1 x2 x3 : Value) (w : World) : (method 300 138 (.agg #[x0, x1, x2, x3]) "loop.example/g00213/impl.offset").run Tryz.prog w = .ok (168, .agg #[x0, x1, x2, x3]) w := by kernel_rfl
theorem meth_jumpsBy (x0 x1 x2 x3 : Value) (w : World) : (method 300 139 (.agg #[x0, x1, x2, x3]) "loop.example/g00213/impl.offset").run Tryz.prog w = .ok (168, .agg #[x0, x1, x2, x3]) w := by kernel_rfl
theorem meth_gets (x0 x1 x2 x3 : Value) (w : World) : (method 300 140 (.agg #[x0, x1, x2, x3]) "loop.example/g00213/impl.offset").run Tryz.prog w = .ok (168, .agg #[x0, x1, x2, x3]) w := by kernel_rfl
theorem meth_sets (x0 x1 x2 x3 : Value) (w : World) : (method 300 141 (.agg #[x0, x1, x2, x3]) "loop.example/g00213/impl.offset").run Tryz.prog w = .ok (168, .agg #[x0, x1, x2, x3]) w := by kernel_rfl
theorem meth_calls (x0 x1 x2 x3 : Value) (w : World) : (method 300 142 (.agg #[x0, x1, x2, x3]) "loop.example/g00213/impl.offset").run Tryz.prog w = .ok (168, .agg #[x0, x1, x2, x3]) w := by kernel_rfl
theorem meth_goesBack (x0 x1 x2 x3 : Value) (w : World) : (method 300 143 (.agg #[x0, x1, x2, x3]) "loop.example/g00213/impl.offset").run Tryz.prog w = .ok (168, .agg #[x0, x1, x2, x3]) w := by kernel_rfl
theorem meth_waits (x0 x1 x2 x3 : Value) (w : World) : (method 300 144 (.agg #[x0, x1, x2, x3]) "loop.example/g00213/impl.offset").run Tryz.prog w = .ok (168, .agg #[x0, x1, x2, x3]) w := by kernel_rfl
theorem meth_halts (x0 x1 x2 x3 : Value) (w : World) : (method 300 145 (.agg #[x0, x1, x2, x3]) "loop.example/g00213/impl.offset").run Tryz.prog w = .ok (168, .agg #[x0, x1, x2, x3]) w := by kernel_rfl
end Go.Proofs.YtcbcbgomafeccaaGreatDoor
