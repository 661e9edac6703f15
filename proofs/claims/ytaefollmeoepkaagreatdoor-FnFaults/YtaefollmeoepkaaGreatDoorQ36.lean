import Derived.Laws.ByValue
import Derived.Test.YtaefollmeoepkaaGreatDoorQ21
import Derived.Test.YtaefollmeoepkaaGreatDoorQ35
namespace Go.Proofs.YtaefollmeoepkaaGreatDoor
set_option maxRecDepth 20000
set_option maxHeartbeats 16000000
open Go.RowKit
set_option linter.unusedVariables false
def offV(im:Int):Int:=wrap64 (IntKind.i16.wrap im)
theorem i_off(x0 x1 x2:Value)(im:Int)(w:World):Calls Tryz.prog 179 #[.agg #[x0,x1,x2,.int .i64 im]] w fun e w'=>e=.returned (.int .i64 (offV im))∧Below w.heap.size w w':=by
 go_enter Tryz.func179,Tryz.ntmps179
 go_wp2
 all_goals go_ret
 all_goals exact⟨rfl,al (Below.refl _ _) _⟩
theorem meth_reckons(x0 x1 x2 x3:Value)(w:World):(method 312 153 (.agg #[x0,x1,x2,x3]) "loop.example/g00213/impl.offset").run Tryz.prog w=.ok (179,.agg #[x0,x1,x2,x3]) w:=by kernel_rfl
theorem meth_adds(x0 x1 x2 x3:Value)(w:World):(method 312 155 (.agg #[x0,x1,x2,x3]) "loop.example/g00213/impl.offset").run Tryz.prog w=.ok (179,.agg #[x0,x1,x2,x3]) w:=by kernel_rfl
theorem meth_lifts(x0 x1 x2 x3:Value)(w:World):(method 312 156 (.agg #[x0,x1,x2,x3]) "loop.example/g00213/impl.offset").run Tryz.prog w=.ok (179,.agg #[x0,x1,x2,x3]) w:=by kernel_rfl
theorem meth_loads(x0 x1 x2 x3:Value)(w:World):(method 312 157 (.agg #[x0,x1,x2,x3]) "loop.example/g00213/impl.offset").run Tryz.prog w=.ok (179,.agg #[x0,x1,x2,x3]) w:=by kernel_rfl
theorem meth_stores(x0 x1 x2 x3:Value)(w:World):(method 312 158 (.agg #[x0,x1,x2,x3]) "loop.example/g00213/impl.offset").run Tryz.prog w=.ok (179,.agg #[x0,x1,x2,x3]) w:=by kernel_rfl
theorem meth_ifSame(x0 x1 x2 x3:Value)(w:World):(method 312 159 (.agg #[x0,x1,x2,x3]) "loop.example/g00213/impl.offset").run Tryz.prog w=.ok (179,.agg #[x0,x1,x2,x3]) w:=by kernel_rfl
theorem meth_ifOther(x0 x1 x2 x3:Value)(w:World):(method 312 161 (.agg #[x0,x1,x2,x3]) "loop.example/g00213/impl.offset").run Tryz.prog w=.ok (179,.agg #[x0,x1,x2,x3]) w:=by kernel_rfl
theorem meth_ifLess(x0 x1 x2 x3:Value)(w:World):(method 312 162 (.agg #[x0,x1,x2,x3]) "loop.example/g00213/impl.offset").run Tryz.prog w=.ok (179,.agg #[x0,x1,x2,x3]) w:=by kernel_rfl
theorem meth_jumps(x0 x1 x2 x3:Value)(w:World):(method 312 163 (.agg #[x0,x1,x2,x3]) "loop.example/g00213/impl.offset").run Tryz.prog w=.ok (179,.agg #[x0,x1,x2,x3]) w:=by kernel_rfl
theorem meth_jumpsBy(x0 x1 x2 x3:Value)(w:World):(method 312 164 (.agg #[x0,x1,x2,x3]) "loop.example/g00213/impl.offset").run Tryz.prog w=.ok (179,.agg #[x0,x1,x2,x3]) w:=by kernel_rfl
theorem meth_gets(x0 x1 x2 x3:Value)(w:World):(method 312 165 (.agg #[x0,x1,x2,x3]) "loop.example/g00213/impl.offset").run Tryz.prog w=.ok (179,.agg #[x0,x1,x2,x3]) w:=by kernel_rfl
theorem meth_sets(x0 x1 x2 x3:Value)(w:World):(method 312 166 (.agg #[x0,x1,x2,x3]) "loop.example/g00213/impl.offset").run Tryz.prog w=.ok (179,.agg #[x0,x1,x2,x3]) w:=by kernel_rfl
theorem meth_calls(x0 x1 x2 x3:Value)(w:World):(method 312 167 (.agg #[x0,x1,x2,x3]) "loop.example/g00213/impl.offset").run Tryz.prog w=.ok (179,.agg #[x0,x1,x2,x3]) w:=by kernel_rfl
theorem meth_goesBack(x0 x1 x2 x3:Value)(w:World):(method 312 168 (.agg #[x0,x1,x2,x3]) "loop.example/g00213/impl.offset").run Tryz.prog w=.ok (179,.agg #[x0,x1,x2,x3]) w:=by kernel_rfl
theorem meth_waits(x0 x1 x2 x3:Value)(w:World):(method 312 169 (.agg #[x0,x1,x2,x3]) "loop.example/g00213/impl.offset").run Tryz.prog w=.ok (179,.agg #[x0,x1,x2,x3]) w:=by kernel_rfl
theorem meth_halts(x0 x1 x2 x3:Value)(w:World):(method 312 170 (.agg #[x0,x1,x2,x3]) "loop.example/g00213/impl.offset").run Tryz.prog w=.ok (179,.agg #[x0,x1,x2,x3]) w:=by kernel_rfl
end Go.Proofs.YtaefollmeoepkaaGreatDoor
