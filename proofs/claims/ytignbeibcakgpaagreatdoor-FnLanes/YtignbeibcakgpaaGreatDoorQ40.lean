import Derived.Test.YtignbeibcakgpaaGreatDoorQ10
import Derived.Test.YtignbeibcakgpaaGreatDoorQ39
namespace Go.Proofs.YtignbeibcakgpaaGreatDoor
set_option maxRecDepth 20000
set_option maxHeartbeats 16000000
open Go.RowKit
set_option linter.unusedVariables false
def offV(im:Int):Int:=wrap64 (IntKind.i16.wrap im)
theorem i_off(x0 x1 x2:Value)(im:Int)(w:World):Calls Tryz.prog 196 #[.agg #[x0,x1,x2,.int .i64 im]] w fun e w'=>e=.returned (.int .i64 (offV im))∧Below w.heap.size w w':=by
 go_enter Tryz.func196,Tryz.ntmps196
 go_wp2
 all_goals go_ret
 all_goals exact⟨rfl,al (Below.refl _ _) _⟩
theorem meth_reckons(x0 x1 x2 x3:Value)(w:World):(method 411 216 (.agg #[x0,x1,x2,x3]) "loop.example/g00213/impl.offset").run Tryz.prog w=.ok (196,.agg #[x0,x1,x2,x3]) w:=by kernel_rfl
theorem meth_adds(x0 x1 x2 x3:Value)(w:World):(method 411 218 (.agg #[x0,x1,x2,x3]) "loop.example/g00213/impl.offset").run Tryz.prog w=.ok (196,.agg #[x0,x1,x2,x3]) w:=by kernel_rfl
theorem meth_lifts(x0 x1 x2 x3:Value)(w:World):(method 411 219 (.agg #[x0,x1,x2,x3]) "loop.example/g00213/impl.offset").run Tryz.prog w=.ok (196,.agg #[x0,x1,x2,x3]) w:=by kernel_rfl
theorem meth_loads(x0 x1 x2 x3:Value)(w:World):(method 411 220 (.agg #[x0,x1,x2,x3]) "loop.example/g00213/impl.offset").run Tryz.prog w=.ok (196,.agg #[x0,x1,x2,x3]) w:=by kernel_rfl
theorem meth_stores(x0 x1 x2 x3:Value)(w:World):(method 411 221 (.agg #[x0,x1,x2,x3]) "loop.example/g00213/impl.offset").run Tryz.prog w=.ok (196,.agg #[x0,x1,x2,x3]) w:=by kernel_rfl
theorem meth_ifSame(x0 x1 x2 x3:Value)(w:World):(method 411 222 (.agg #[x0,x1,x2,x3]) "loop.example/g00213/impl.offset").run Tryz.prog w=.ok (196,.agg #[x0,x1,x2,x3]) w:=by kernel_rfl
theorem meth_ifOther(x0 x1 x2 x3:Value)(w:World):(method 411 224 (.agg #[x0,x1,x2,x3]) "loop.example/g00213/impl.offset").run Tryz.prog w=.ok (196,.agg #[x0,x1,x2,x3]) w:=by kernel_rfl
theorem meth_ifLess(x0 x1 x2 x3:Value)(w:World):(method 411 225 (.agg #[x0,x1,x2,x3]) "loop.example/g00213/impl.offset").run Tryz.prog w=.ok (196,.agg #[x0,x1,x2,x3]) w:=by kernel_rfl
theorem meth_jumps(x0 x1 x2 x3:Value)(w:World):(method 411 226 (.agg #[x0,x1,x2,x3]) "loop.example/g00213/impl.offset").run Tryz.prog w=.ok (196,.agg #[x0,x1,x2,x3]) w:=by kernel_rfl
theorem meth_jumpsBy(x0 x1 x2 x3:Value)(w:World):(method 411 227 (.agg #[x0,x1,x2,x3]) "loop.example/g00213/impl.offset").run Tryz.prog w=.ok (196,.agg #[x0,x1,x2,x3]) w:=by kernel_rfl
theorem meth_gets(x0 x1 x2 x3:Value)(w:World):(method 411 228 (.agg #[x0,x1,x2,x3]) "loop.example/g00213/impl.offset").run Tryz.prog w=.ok (196,.agg #[x0,x1,x2,x3]) w:=by kernel_rfl
theorem meth_sets(x0 x1 x2 x3:Value)(w:World):(method 411 229 (.agg #[x0,x1,x2,x3]) "loop.example/g00213/impl.offset").run Tryz.prog w=.ok (196,.agg #[x0,x1,x2,x3]) w:=by kernel_rfl
theorem meth_calls(x0 x1 x2 x3:Value)(w:World):(method 411 230 (.agg #[x0,x1,x2,x3]) "loop.example/g00213/impl.offset").run Tryz.prog w=.ok (196,.agg #[x0,x1,x2,x3]) w:=by kernel_rfl
theorem meth_goesBack(x0 x1 x2 x3:Value)(w:World):(method 411 231 (.agg #[x0,x1,x2,x3]) "loop.example/g00213/impl.offset").run Tryz.prog w=.ok (196,.agg #[x0,x1,x2,x3]) w:=by kernel_rfl
theorem meth_waits(x0 x1 x2 x3:Value)(w:World):(method 411 232 (.agg #[x0,x1,x2,x3]) "loop.example/g00213/impl.offset").run Tryz.prog w=.ok (196,.agg #[x0,x1,x2,x3]) w:=by kernel_rfl
theorem meth_halts(x0 x1 x2 x3:Value)(w:World):(method 411 233 (.agg #[x0,x1,x2,x3]) "loop.example/g00213/impl.offset").run Tryz.prog w=.ok (196,.agg #[x0,x1,x2,x3]) w:=by kernel_rfl
theorem asT(t:TypeId)(x:Array Value)(h:t=216∨t=218∨t=219∨t=220∨t=221∨t=222∨t=224∨t=225∨t=226∨t=227∨t=228∨t=229∨t=230∨t=231∨t=232∨t=233):(∀w,(Instr.typeAssert (.iface t (.agg x)) 188 216 true).run Tryz.prog w=.ok (.tuple (if t=216 then #[.agg x,.bool true]else #[.agg #[.int .i64 0,.int .i64 0,.int .i64 0,.int .i64 0],.bool false])) w)∧
  (∀w,(Instr.typeAssert (.iface t (.agg x)) 188 218 true).run Tryz.prog w=.ok (.tuple (if t=218 then #[.agg x,.bool true]else #[.agg #[.int .i64 0,.int .i64 0,.int .i64 0,.int .i64 0],.bool false])) w)∧
  (∀w,(Instr.typeAssert (.iface t (.agg x)) 188 219 true).run Tryz.prog w=.ok (.tuple (if t=219 then #[.agg x,.bool true]else #[.agg #[.int .i64 0,.int .i64 0,.int .i64 0,.int .i64 0],.bool false])) w)∧
  (∀w,(Instr.typeAssert (.iface t (.agg x)) 188 220 true).run Tryz.prog w=.ok (.tuple (if t=220 then #[.agg x,.bool true]else #[.agg #[.int .i64 0,.int .i64 0,.int .i64 0,.int .i64 0],.bool false])) w)∧
  (∀w,(Instr.typeAssert (.iface t (.agg x)) 188 221 true).run Tryz.prog w=.ok (.tuple (if t=221 then #[.agg x,.bool true]else #[.agg #[.int .i64 0,.int .i64 0,.int .i64 0,.int .i64 0],.bool false])) w)∧
  (∀w,(Instr.typeAssert (.iface t (.agg x)) 188 222 true).run Tryz.prog w=.ok (.tuple (if t=222 then #[.agg x,.bool true]else #[.agg #[.int .i64 0,.int .i64 0,.int .i64 0,.int .i64 0],.bool false])) w)∧
  (∀w,(Instr.typeAssert (.iface t (.agg x)) 188 224 true).run Tryz.prog w=.ok (.tuple (if t=224 then #[.agg x,.bool true]else #[.agg #[.int .i64 0,.int .i64 0,.int .i64 0,.int .i64 0],.bool false])) w)∧
  (∀w,(Instr.typeAssert (.iface t (.agg x)) 188 225 true).run Tryz.prog w=.ok (.tuple (if t=225 then #[.agg x,.bool true]else #[.agg #[.int .i64 0,.int .i64 0,.int .i64 0,.int .i64 0],.bool false])) w)∧
  (∀w,(Instr.typeAssert (.iface t (.agg x)) 188 226 true).run Tryz.prog w=.ok (.tuple (if t=226 then #[.agg x,.bool true]else #[.agg #[.int .i64 0,.int .i64 0,.int .i64 0,.int .i64 0],.bool false])) w)∧
  (∀w,(Instr.typeAssert (.iface t (.agg x)) 188 227 true).run Tryz.prog w=.ok (.tuple (if t=227 then #[.agg x,.bool true]else #[.agg #[.int .i64 0,.int .i64 0,.int .i64 0,.int .i64 0],.bool false])) w)∧
  (∀w,(Instr.typeAssert (.iface t (.agg x)) 188 228 true).run Tryz.prog w=.ok (.tuple (if t=228 then #[.agg x,.bool true]else #[.agg #[.int .i64 0,.int .i64 0,.int .i64 0,.int .i64 0],.bool false])) w)∧
  (∀w,(Instr.typeAssert (.iface t (.agg x)) 188 229 true).run Tryz.prog w=.ok (.tuple (if t=229 then #[.agg x,.bool true]else #[.agg #[.int .i64 0,.int .i64 0,.int .i64 0,.int .i64 0],.bool false])) w)∧
  (∀w,(Instr.typeAssert (.iface t (.agg x)) 188 230 true).run Tryz.prog w=.ok (.tuple (if t=230 then #[.agg x,.bool true]else #[.agg #[.int .i64 0,.int .i64 0,.int .i64 0,.int .i64 0],.bool false])) w)∧
  (∀w,(Instr.typeAssert (.iface t (.agg x)) 188 231 true).run Tryz.prog w=.ok (.tuple (if t=231 then #[.agg x,.bool true]else #[.agg #[.int .i64 0,.int .i64 0,.int .i64 0,.int .i64 0],.bool false])) w)∧
  (∀w,(Instr.typeAssert (.iface t (.agg x)) 188 232 true).run Tryz.prog w=.ok (.tuple (if t=232 then #[.agg x,.bool true]else #[.agg #[.int .i64 0,.int .i64 0,.int .i64 0,.int .i64 0],.bool false])) w)∧
  (∀w,(Instr.typeAssert (.iface t (.agg x)) 188 233 true).run Tryz.prog w=.ok (.tuple (if t=233 then #[.agg x,.bool true]else #[.agg #[.int .i64 0,.int .i64 0,.int .i64 0,.int .i64 0],.bool false])) w):=by
 rcases h with rfl|rfl|rfl|rfl|rfl|rfl|rfl|rfl|rfl|rfl|rfl|rfl|rfl|rfl|rfl|rfl<;>exact⟨fun w=>by kernel_rfl,fun w=>by kernel_rfl,fun w=>by kernel_rfl,fun w=>by kernel_rfl,fun w=>by kernel_rfl,fun w=>by kernel_rfl,fun w=>by kernel_rfl,fun w=>by kernel_rfl,fun w=>by kernel_rfl,fun w=>by kernel_rfl,fun w=>by kernel_rfl,fun w=>by kernel_rfl,fun w=>by kernel_rfl,fun w=>by kernel_rfl,fun w=>by kernel_rfl,fun w=>by kernel_rfl⟩
end Go.Proofs.YtignbeibcakgpaaGreatDoor
