import Derived.Test.YtaefollmeoepkaaGreatDoorQ36
namespace Go.Proofs.YtaefollmeoepkaaGreatDoor
set_option maxRecDepth 20000
set_option maxHeartbeats 16000000
open Go.RowKit
set_option linter.unusedVariables false
theorem add_word(x y:Int):isW (addV x y)=true:=by
 unfold isW addV
 simp
 omega
variable{w:World}{base q:Nat}{i o:Value}{pg pc:Nat}{ps:List (Int×Int)}{g p:Nat}{zs:List Int}{X:Nat→Prop}{H:Ht}{ca ri:Int}
theorem do_halts(R:Rw w base q i o pg pc ps g p zs H ca ri X)(op:Int)(d a:Nat)(im:Int):
  Calls Tryz.prog 75 #[.pointer (some ⟨q,0,none⟩),.iface 170 (.agg #[.int .i64 op,.int .i64 (d:Int),.int .i64 (a:Int),.int .i64 im])] w fun e w'=>e=.returned (.int .i64 H.pc)∧Rw w' base q i o pg pc ps g p zs { H with halted:=true} ca ri X∧Below base w w':=by
 have HR:=hid R
 have c16:w.cell? ⟨q,16,none⟩=some (.int .i64 H.pc):=R.v.cell 16 rfl
 have hm:=meth_halts (.int .i64 op) (.int .i64 (d:Int)) (.int .i64 (a:Int)) (.int .i64 im)
 have as_reckons:∀w,(Instr.typeAssert (.iface 170 (.agg #[.int .i64 op,.int .i64 (d:Int),.int .i64 (a:Int),.int .i64 im])) 121 153 true).run Tryz.prog w=.ok (.tuple #[.agg #[.int .i64 0,.int .i64 0,.int .i64 0,.int .i64 0],.bool false]) w:=fun w=>by kernel_rfl
 have as_adds:∀w,(Instr.typeAssert (.iface 170 (.agg #[.int .i64 op,.int .i64 (d:Int),.int .i64 (a:Int),.int .i64 im])) 121 155 true).run Tryz.prog w=.ok (.tuple #[.agg #[.int .i64 0,.int .i64 0,.int .i64 0,.int .i64 0],.bool false]) w:=fun w=>by kernel_rfl
 have as_lifts:∀w,(Instr.typeAssert (.iface 170 (.agg #[.int .i64 op,.int .i64 (d:Int),.int .i64 (a:Int),.int .i64 im])) 121 156 true).run Tryz.prog w=.ok (.tuple #[.agg #[.int .i64 0,.int .i64 0,.int .i64 0,.int .i64 0],.bool false]) w:=fun w=>by kernel_rfl
 have as_loads:∀w,(Instr.typeAssert (.iface 170 (.agg #[.int .i64 op,.int .i64 (d:Int),.int .i64 (a:Int),.int .i64 im])) 121 157 true).run Tryz.prog w=.ok (.tuple #[.agg #[.int .i64 0,.int .i64 0,.int .i64 0,.int .i64 0],.bool false]) w:=fun w=>by kernel_rfl
 have as_stores:∀w,(Instr.typeAssert (.iface 170 (.agg #[.int .i64 op,.int .i64 (d:Int),.int .i64 (a:Int),.int .i64 im])) 121 158 true).run Tryz.prog w=.ok (.tuple #[.agg #[.int .i64 0,.int .i64 0,.int .i64 0,.int .i64 0],.bool false]) w:=fun w=>by kernel_rfl
 have as_ifSame:∀w,(Instr.typeAssert (.iface 170 (.agg #[.int .i64 op,.int .i64 (d:Int),.int .i64 (a:Int),.int .i64 im])) 121 159 true).run Tryz.prog w=.ok (.tuple #[.agg #[.int .i64 0,.int .i64 0,.int .i64 0,.int .i64 0],.bool false]) w:=fun w=>by kernel_rfl
 have as_ifOther:∀w,(Instr.typeAssert (.iface 170 (.agg #[.int .i64 op,.int .i64 (d:Int),.int .i64 (a:Int),.int .i64 im])) 121 161 true).run Tryz.prog w=.ok (.tuple #[.agg #[.int .i64 0,.int .i64 0,.int .i64 0,.int .i64 0],.bool false]) w:=fun w=>by kernel_rfl
 have as_ifLess:∀w,(Instr.typeAssert (.iface 170 (.agg #[.int .i64 op,.int .i64 (d:Int),.int .i64 (a:Int),.int .i64 im])) 121 162 true).run Tryz.prog w=.ok (.tuple #[.agg #[.int .i64 0,.int .i64 0,.int .i64 0,.int .i64 0],.bool false]) w:=fun w=>by kernel_rfl
 have as_jumps:∀w,(Instr.typeAssert (.iface 170 (.agg #[.int .i64 op,.int .i64 (d:Int),.int .i64 (a:Int),.int .i64 im])) 121 163 true).run Tryz.prog w=.ok (.tuple #[.agg #[.int .i64 0,.int .i64 0,.int .i64 0,.int .i64 0],.bool false]) w:=fun w=>by kernel_rfl
 have as_jumpsBy:∀w,(Instr.typeAssert (.iface 170 (.agg #[.int .i64 op,.int .i64 (d:Int),.int .i64 (a:Int),.int .i64 im])) 121 164 true).run Tryz.prog w=.ok (.tuple #[.agg #[.int .i64 0,.int .i64 0,.int .i64 0,.int .i64 0],.bool false]) w:=fun w=>by kernel_rfl
 have as_gets:∀w,(Instr.typeAssert (.iface 170 (.agg #[.int .i64 op,.int .i64 (d:Int),.int .i64 (a:Int),.int .i64 im])) 121 165 true).run Tryz.prog w=.ok (.tuple #[.agg #[.int .i64 0,.int .i64 0,.int .i64 0,.int .i64 0],.bool false]) w:=fun w=>by kernel_rfl
 have as_sets:∀w,(Instr.typeAssert (.iface 170 (.agg #[.int .i64 op,.int .i64 (d:Int),.int .i64 (a:Int),.int .i64 im])) 121 166 true).run Tryz.prog w=.ok (.tuple #[.agg #[.int .i64 0,.int .i64 0,.int .i64 0,.int .i64 0],.bool false]) w:=fun w=>by kernel_rfl
 have as_calls:∀w,(Instr.typeAssert (.iface 170 (.agg #[.int .i64 op,.int .i64 (d:Int),.int .i64 (a:Int),.int .i64 im])) 121 167 true).run Tryz.prog w=.ok (.tuple #[.agg #[.int .i64 0,.int .i64 0,.int .i64 0,.int .i64 0],.bool false]) w:=fun w=>by kernel_rfl
 have as_goesBack:∀w,(Instr.typeAssert (.iface 170 (.agg #[.int .i64 op,.int .i64 (d:Int),.int .i64 (a:Int),.int .i64 im])) 121 168 true).run Tryz.prog w=.ok (.tuple #[.agg #[.int .i64 0,.int .i64 0,.int .i64 0,.int .i64 0],.bool false]) w:=fun w=>by kernel_rfl
 have as_waits:∀w,(Instr.typeAssert (.iface 170 (.agg #[.int .i64 op,.int .i64 (d:Int),.int .i64 (a:Int),.int .i64 im])) 121 169 true).run Tryz.prog w=.ok (.tuple #[.agg #[.int .i64 0,.int .i64 0,.int .i64 0,.int .i64 0],.bool false]) w:=fun w=>by kernel_rfl
 have as_halts:∀w,(Instr.typeAssert (.iface 170 (.agg #[.int .i64 op,.int .i64 (d:Int),.int .i64 (a:Int),.int .i64 im])) 121 170 true).run Tryz.prog w=.ok (.tuple #[.agg #[.int .i64 op,.int .i64 (d:Int),.int .i64 (a:Int),.int .i64 im],.bool true]) w:=fun w=>by kernel_rfl
 clear R
 go_enter Tryz.func75,Tryz.ntmps75
 go_wp2_with (go_at_call 22;refine(impl_add _ _ _).mono ?_;rintro e y ⟨rfl,hy⟩;rw[hy];clear hy y)
 refine(i_off _ _ _ im w).mono ?_
 rintro e w1⟨rfl,b1⟩
 clear hm c16
 go_upto_region 54 with fail
 clear as_reckons as_adds as_lifts as_loads as_stores as_ifSame as_ifOther as_ifLess as_jumps as_jumpsBy as_gets as_sets as_calls as_goesBack as_waits as_halts
 generalize hW:w1.alloc (.cells #[.int .i64 op,.int .i64 (d:Int),.int .i64 (a:Int),.int .i64 im] 170)=W1
 obtain⟨n,hn⟩:∃n,w1.heap.size=n:=⟨_,rfl⟩
 rw[hn]
 have VN:Hid (Vb W1 n #[.int .i64 op,.int .i64 (d:Int),.int .i64 (a:Int),.int .i64 im] 170):=by show Vb _ _ _ _;rw[←hW,←hn];exact Vb.new _ _ _
 have bb:Below w.heap.size w W1:=by rw[←hW];exact al b1 _
 have R1:=hid (HR.out.keep bb)
 have B1:Hid (Below base w W1):=bless bb HR.out.size
 have QN:Hid (n≠q∧n≠g∧∀k,o.ownBlock=some k→n≠k):=by
  have hs:w.heap.size≤n:=by rw[←hn];exact b1.size
  obtain⟨bo,_,_,ho,_⟩:=HR.out.ho
  exact⟨by have:=HR.out.v.lt;omega,by have:=(World.ownsRow.lt HR.out.pgs g rfl).2;omega,fun k e=>by have:=(ho.lt k e).2;omega⟩
 clear hW hn b1 bb
 have c28:=R1.out.v.cell 28 rfl
 have f28:=R1.out.v.free 28
 have VS:=R1.out.v.set 28 (.bool true)
 have U:Hid (Rw (W1.setCell ⟨q,28,none⟩ (.bool true)) base q i o pg pc ps g p zs { H with halted:=true} ca ri X∧Below base W1 (W1.setCell ⟨q,28,none⟩ (.bool true))):=R1.out.upd VS ((Mq.refl _ _).set ⟨q,28,none⟩ _ rfl) rfl rfl ⟨HR.out.sn.hok.r16,HR.out.sn.hok.c11,HR.out.sn.hok.r0,HR.out.sn.hok.rw,HR.out.sn.hok.pw,HR.out.sn.hok.cw,HR.out.sn.hok.iw,HR.out.sn.hok.ow,HR.out.sn.hok.i40,HR.out.sn.hok.o40,HR.out.sn.hok.d0,HR.out.sn.hok.d9,HR.out.sn.hok.st⟩
 have d16:=U.out.1.v.cell 16 rfl
 clear VS
 go_wp2_with fail
 go_ret
 exact⟨rfl,U.out.1,B1.out.trans U.out.2⟩
theorem do_waits(R:Rw w base q i o pg pc ps g p zs H ca ri X)(op:Int)(d a:Nat)(im:Int):
  Calls Tryz.prog 75 #[.pointer (some ⟨q,0,none⟩),.iface 169 (.agg #[.int .i64 op,.int .i64 (d:Int),.int .i64 (a:Int),.int .i64 im])] w fun e w'=>e=.returned (.int .i64 (addV H.pc 1))∧Rw w' base q i o pg pc ps g p zs { H with waiting:=true} ca ri X∧Below base w w':=by
 have HR:=hid R
 have c16:w.cell? ⟨q,16,none⟩=some (.int .i64 H.pc):=R.v.cell 16 rfl
 have hm:=meth_waits (.int .i64 op) (.int .i64 (d:Int)) (.int .i64 (a:Int)) (.int .i64 im)
 have as_reckons:∀w,(Instr.typeAssert (.iface 169 (.agg #[.int .i64 op,.int .i64 (d:Int),.int .i64 (a:Int),.int .i64 im])) 121 153 true).run Tryz.prog w=.ok (.tuple #[.agg #[.int .i64 0,.int .i64 0,.int .i64 0,.int .i64 0],.bool false]) w:=fun w=>by kernel_rfl
 have as_adds:∀w,(Instr.typeAssert (.iface 169 (.agg #[.int .i64 op,.int .i64 (d:Int),.int .i64 (a:Int),.int .i64 im])) 121 155 true).run Tryz.prog w=.ok (.tuple #[.agg #[.int .i64 0,.int .i64 0,.int .i64 0,.int .i64 0],.bool false]) w:=fun w=>by kernel_rfl
 have as_lifts:∀w,(Instr.typeAssert (.iface 169 (.agg #[.int .i64 op,.int .i64 (d:Int),.int .i64 (a:Int),.int .i64 im])) 121 156 true).run Tryz.prog w=.ok (.tuple #[.agg #[.int .i64 0,.int .i64 0,.int .i64 0,.int .i64 0],.bool false]) w:=fun w=>by kernel_rfl
 have as_loads:∀w,(Instr.typeAssert (.iface 169 (.agg #[.int .i64 op,.int .i64 (d:Int),.int .i64 (a:Int),.int .i64 im])) 121 157 true).run Tryz.prog w=.ok (.tuple #[.agg #[.int .i64 0,.int .i64 0,.int .i64 0,.int .i64 0],.bool false]) w:=fun w=>by kernel_rfl
 have as_stores:∀w,(Instr.typeAssert (.iface 169 (.agg #[.int .i64 op,.int .i64 (d:Int),.int .i64 (a:Int),.int .i64 im])) 121 158 true).run Tryz.prog w=.ok (.tuple #[.agg #[.int .i64 0,.int .i64 0,.int .i64 0,.int .i64 0],.bool false]) w:=fun w=>by kernel_rfl
 have as_ifSame:∀w,(Instr.typeAssert (.iface 169 (.agg #[.int .i64 op,.int .i64 (d:Int),.int .i64 (a:Int),.int .i64 im])) 121 159 true).run Tryz.prog w=.ok (.tuple #[.agg #[.int .i64 0,.int .i64 0,.int .i64 0,.int .i64 0],.bool false]) w:=fun w=>by kernel_rfl
 have as_ifOther:∀w,(Instr.typeAssert (.iface 169 (.agg #[.int .i64 op,.int .i64 (d:Int),.int .i64 (a:Int),.int .i64 im])) 121 161 true).run Tryz.prog w=.ok (.tuple #[.agg #[.int .i64 0,.int .i64 0,.int .i64 0,.int .i64 0],.bool false]) w:=fun w=>by kernel_rfl
 have as_ifLess:∀w,(Instr.typeAssert (.iface 169 (.agg #[.int .i64 op,.int .i64 (d:Int),.int .i64 (a:Int),.int .i64 im])) 121 162 true).run Tryz.prog w=.ok (.tuple #[.agg #[.int .i64 0,.int .i64 0,.int .i64 0,.int .i64 0],.bool false]) w:=fun w=>by kernel_rfl
 have as_jumps:∀w,(Instr.typeAssert (.iface 169 (.agg #[.int .i64 op,.int .i64 (d:Int),.int .i64 (a:Int),.int .i64 im])) 121 163 true).run Tryz.prog w=.ok (.tuple #[.agg #[.int .i64 0,.int .i64 0,.int .i64 0,.int .i64 0],.bool false]) w:=fun w=>by kernel_rfl
 have as_jumpsBy:∀w,(Instr.typeAssert (.iface 169 (.agg #[.int .i64 op,.int .i64 (d:Int),.int .i64 (a:Int),.int .i64 im])) 121 164 true).run Tryz.prog w=.ok (.tuple #[.agg #[.int .i64 0,.int .i64 0,.int .i64 0,.int .i64 0],.bool false]) w:=fun w=>by kernel_rfl
 have as_gets:∀w,(Instr.typeAssert (.iface 169 (.agg #[.int .i64 op,.int .i64 (d:Int),.int .i64 (a:Int),.int .i64 im])) 121 165 true).run Tryz.prog w=.ok (.tuple #[.agg #[.int .i64 0,.int .i64 0,.int .i64 0,.int .i64 0],.bool false]) w:=fun w=>by kernel_rfl
 have as_sets:∀w,(Instr.typeAssert (.iface 169 (.agg #[.int .i64 op,.int .i64 (d:Int),.int .i64 (a:Int),.int .i64 im])) 121 166 true).run Tryz.prog w=.ok (.tuple #[.agg #[.int .i64 0,.int .i64 0,.int .i64 0,.int .i64 0],.bool false]) w:=fun w=>by kernel_rfl
 have as_calls:∀w,(Instr.typeAssert (.iface 169 (.agg #[.int .i64 op,.int .i64 (d:Int),.int .i64 (a:Int),.int .i64 im])) 121 167 true).run Tryz.prog w=.ok (.tuple #[.agg #[.int .i64 0,.int .i64 0,.int .i64 0,.int .i64 0],.bool false]) w:=fun w=>by kernel_rfl
 have as_goesBack:∀w,(Instr.typeAssert (.iface 169 (.agg #[.int .i64 op,.int .i64 (d:Int),.int .i64 (a:Int),.int .i64 im])) 121 168 true).run Tryz.prog w=.ok (.tuple #[.agg #[.int .i64 0,.int .i64 0,.int .i64 0,.int .i64 0],.bool false]) w:=fun w=>by kernel_rfl
 have as_waits:∀w,(Instr.typeAssert (.iface 169 (.agg #[.int .i64 op,.int .i64 (d:Int),.int .i64 (a:Int),.int .i64 im])) 121 169 true).run Tryz.prog w=.ok (.tuple #[.agg #[.int .i64 op,.int .i64 (d:Int),.int .i64 (a:Int),.int .i64 im],.bool true]) w:=fun w=>by kernel_rfl
 clear R
 go_enter Tryz.func75,Tryz.ntmps75
 go_wp2_with (go_at_call 22;refine(impl_add _ _ _).mono ?_;rintro e y ⟨rfl,hy⟩;rw[hy];clear hy y)
 refine(i_off _ _ _ im w).mono ?_
 rintro e w1⟨rfl,b1⟩
 clear hm c16
 go_upto_region 51 with fail
 clear as_reckons as_adds as_lifts as_loads as_stores as_ifSame as_ifOther as_ifLess as_jumps as_jumpsBy as_gets as_sets as_calls as_goesBack as_waits
 generalize hW:w1.alloc (.cells #[.int .i64 op,.int .i64 (d:Int),.int .i64 (a:Int),.int .i64 im] 169)=W1
 obtain⟨n,hn⟩:∃n,w1.heap.size=n:=⟨_,rfl⟩
 rw[hn]
 have VN:Hid (Vb W1 n #[.int .i64 op,.int .i64 (d:Int),.int .i64 (a:Int),.int .i64 im] 169):=by show Vb _ _ _ _;rw[←hW,←hn];exact Vb.new _ _ _
 have bb:Below w.heap.size w W1:=by rw[←hW];exact al b1 _
 have R1:=hid (HR.out.keep bb)
 have B1:Hid (Below base w W1):=bless bb HR.out.size
 have QN:Hid (n≠q∧n≠g∧∀k,o.ownBlock=some k→n≠k):=by
  have hs:w.heap.size≤n:=by rw[←hn];exact b1.size
  obtain⟨bo,_,_,ho,_⟩:=HR.out.ho
  exact⟨by have:=HR.out.v.lt;omega,by have:=(World.ownsRow.lt HR.out.pgs g rfl).2;omega,fun k e=>by have:=(ho.lt k e).2;omega⟩
 clear hW hn b1 bb
 have c29:=R1.out.v.cell 29 rfl
 have f29:=R1.out.v.free 29
 have VS:=R1.out.v.set 29 (.bool true)
 have U:Hid (Rw (W1.setCell ⟨q,29,none⟩ (.bool true)) base q i o pg pc ps g p zs { H with waiting:=true} ca ri X∧Below base W1 (W1.setCell ⟨q,29,none⟩ (.bool true))):=R1.out.upd VS ((Mq.refl _ _).set ⟨q,29,none⟩ _ rfl) rfl rfl ⟨HR.out.sn.hok.r16,HR.out.sn.hok.c11,HR.out.sn.hok.r0,HR.out.sn.hok.rw,HR.out.sn.hok.pw,HR.out.sn.hok.cw,HR.out.sn.hok.iw,HR.out.sn.hok.ow,HR.out.sn.hok.i40,HR.out.sn.hok.o40,HR.out.sn.hok.d0,HR.out.sn.hok.d9,HR.out.sn.hok.st⟩
 have d16:=U.out.1.v.cell 16 rfl
 clear VS
 go_wp2_with fail
 go_ret
 exact⟨rfl,U.out.1,B1.out.trans U.out.2⟩
theorem do_calls(R:Rw w base q i o pg pc ps g p zs H ca ri X)(op:Int)(d a:Nat)(im:Int):
  Calls Tryz.prog 75 #[.pointer (some ⟨q,0,none⟩),.iface 167 (.agg #[.int .i64 op,.int .i64 (d:Int),.int .i64 (a:Int),.int .i64 im])] w fun e w'=>e=pan 5 0∧Rw w' base q i o pg pc ps g p zs H ca ri X∧Below base w w':=by
 have HR:=hid R
 have c16:w.cell? ⟨q,16,none⟩=some (.int .i64 H.pc):=R.v.cell 16 rfl
 have hm:=meth_calls (.int .i64 op) (.int .i64 (d:Int)) (.int .i64 (a:Int)) (.int .i64 im)
 have as_reckons:∀w,(Instr.typeAssert (.iface 167 (.agg #[.int .i64 op,.int .i64 (d:Int),.int .i64 (a:Int),.int .i64 im])) 121 153 true).run Tryz.prog w=.ok (.tuple #[.agg #[.int .i64 0,.int .i64 0,.int .i64 0,.int .i64 0],.bool false]) w:=fun w=>by kernel_rfl
 have as_adds:∀w,(Instr.typeAssert (.iface 167 (.agg #[.int .i64 op,.int .i64 (d:Int),.int .i64 (a:Int),.int .i64 im])) 121 155 true).run Tryz.prog w=.ok (.tuple #[.agg #[.int .i64 0,.int .i64 0,.int .i64 0,.int .i64 0],.bool false]) w:=fun w=>by kernel_rfl
 have as_lifts:∀w,(Instr.typeAssert (.iface 167 (.agg #[.int .i64 op,.int .i64 (d:Int),.int .i64 (a:Int),.int .i64 im])) 121 156 true).run Tryz.prog w=.ok (.tuple #[.agg #[.int .i64 0,.int .i64 0,.int .i64 0,.int .i64 0],.bool false]) w:=fun w=>by kernel_rfl
 have as_loads:∀w,(Instr.typeAssert (.iface 167 (.agg #[.int .i64 op,.int .i64 (d:Int),.int .i64 (a:Int),.int .i64 im])) 121 157 true).run Tryz.prog w=.ok (.tuple #[.agg #[.int .i64 0,.int .i64 0,.int .i64 0,.int .i64 0],.bool false]) w:=fun w=>by kernel_rfl
 have as_stores:∀w,(Instr.typeAssert (.iface 167 (.agg #[.int .i64 op,.int .i64 (d:Int),.int .i64 (a:Int),.int .i64 im])) 121 158 true).run Tryz.prog w=.ok (.tuple #[.agg #[.int .i64 0,.int .i64 0,.int .i64 0,.int .i64 0],.bool false]) w:=fun w=>by kernel_rfl
 have as_ifSame:∀w,(Instr.typeAssert (.iface 167 (.agg #[.int .i64 op,.int .i64 (d:Int),.int .i64 (a:Int),.int .i64 im])) 121 159 true).run Tryz.prog w=.ok (.tuple #[.agg #[.int .i64 0,.int .i64 0,.int .i64 0,.int .i64 0],.bool false]) w:=fun w=>by kernel_rfl
 have as_ifOther:∀w,(Instr.typeAssert (.iface 167 (.agg #[.int .i64 op,.int .i64 (d:Int),.int .i64 (a:Int),.int .i64 im])) 121 161 true).run Tryz.prog w=.ok (.tuple #[.agg #[.int .i64 0,.int .i64 0,.int .i64 0,.int .i64 0],.bool false]) w:=fun w=>by kernel_rfl
 have as_ifLess:∀w,(Instr.typeAssert (.iface 167 (.agg #[.int .i64 op,.int .i64 (d:Int),.int .i64 (a:Int),.int .i64 im])) 121 162 true).run Tryz.prog w=.ok (.tuple #[.agg #[.int .i64 0,.int .i64 0,.int .i64 0,.int .i64 0],.bool false]) w:=fun w=>by kernel_rfl
 have as_jumps:∀w,(Instr.typeAssert (.iface 167 (.agg #[.int .i64 op,.int .i64 (d:Int),.int .i64 (a:Int),.int .i64 im])) 121 163 true).run Tryz.prog w=.ok (.tuple #[.agg #[.int .i64 0,.int .i64 0,.int .i64 0,.int .i64 0],.bool false]) w:=fun w=>by kernel_rfl
 have as_jumpsBy:∀w,(Instr.typeAssert (.iface 167 (.agg #[.int .i64 op,.int .i64 (d:Int),.int .i64 (a:Int),.int .i64 im])) 121 164 true).run Tryz.prog w=.ok (.tuple #[.agg #[.int .i64 0,.int .i64 0,.int .i64 0,.int .i64 0],.bool false]) w:=fun w=>by kernel_rfl
 have as_gets:∀w,(Instr.typeAssert (.iface 167 (.agg #[.int .i64 op,.int .i64 (d:Int),.int .i64 (a:Int),.int .i64 im])) 121 165 true).run Tryz.prog w=.ok (.tuple #[.agg #[.int .i64 0,.int .i64 0,.int .i64 0,.int .i64 0],.bool false]) w:=fun w=>by kernel_rfl
 have as_sets:∀w,(Instr.typeAssert (.iface 167 (.agg #[.int .i64 op,.int .i64 (d:Int),.int .i64 (a:Int),.int .i64 im])) 121 166 true).run Tryz.prog w=.ok (.tuple #[.agg #[.int .i64 0,.int .i64 0,.int .i64 0,.int .i64 0],.bool false]) w:=fun w=>by kernel_rfl
 have as_calls:∀w,(Instr.typeAssert (.iface 167 (.agg #[.int .i64 op,.int .i64 (d:Int),.int .i64 (a:Int),.int .i64 im])) 121 167 true).run Tryz.prog w=.ok (.tuple #[.agg #[.int .i64 op,.int .i64 (d:Int),.int .i64 (a:Int),.int .i64 im],.bool true]) w:=fun w=>by kernel_rfl
 clear R
 go_enter Tryz.func75,Tryz.ntmps75
 go_wp2_with (go_at_call 22;refine(impl_add _ _ _).mono ?_;rintro e y ⟨rfl,hy⟩;rw[hy];clear hy y)
 refine(i_off _ _ _ im w).mono ?_
 rintro e w1⟨rfl,b1⟩
 clear hm c16
 go_upto_region 44 with fail
 clear as_reckons as_adds as_lifts as_loads as_stores as_ifSame as_ifOther as_ifLess as_jumps as_jumpsBy as_gets as_sets as_calls
 generalize hW:w1.alloc (.cells #[.int .i64 op,.int .i64 (d:Int),.int .i64 (a:Int),.int .i64 im] 167)=W1
 obtain⟨n,hn⟩:∃n,w1.heap.size=n:=⟨_,rfl⟩
 rw[hn]
 have VN:Hid (Vb W1 n #[.int .i64 op,.int .i64 (d:Int),.int .i64 (a:Int),.int .i64 im] 167):=by show Vb _ _ _ _;rw[←hW,←hn];exact Vb.new _ _ _
 have bb:Below w.heap.size w W1:=by rw[←hW];exact al b1 _
 have R1:=hid (HR.out.keep bb)
 have B1:Hid (Below base w W1):=bless bb HR.out.size
 have QN:Hid (n≠q∧n≠g∧∀k,o.ownBlock=some k→n≠k):=by
  have hs:w.heap.size≤n:=by rw[←hn];exact b1.size
  obtain⟨bo,_,_,ho,_⟩:=HR.out.ho
  exact⟨by have:=HR.out.v.lt;omega,by have:=(World.ownsRow.lt HR.out.pgs g rfl).2;omega,fun k e=>by have:=(ho.lt k e).2;omega⟩
 clear hW hn b1 bb
 go_wp2_with fail
 exact⟨rfl,rfl,R1.out,B1.out⟩
theorem do_goesBack(R:Rw w base q i o pg pc ps g p zs H ca ri X)(op:Int)(d a:Nat)(im:Int):
  Calls Tryz.prog 75 #[.pointer (some ⟨q,0,none⟩),.iface 168 (.agg #[.int .i64 op,.int .i64 (d:Int),.int .i64 (a:Int),.int .i64 im])] w fun e w'=>e=.returned (.int .i64 (backV H).pc)∧Rw w' base q i o pg pc ps g p zs (backV H) ca ri X∧Below base w w':=by
 have HR:=hid R
 have c16:w.cell? ⟨q,16,none⟩=some (.int .i64 H.pc):=R.v.cell 16 rfl
 have hm:=meth_goesBack (.int .i64 op) (.int .i64 (d:Int)) (.int .i64 (a:Int)) (.int .i64 im)
 have as_reckons:∀w,(Instr.typeAssert (.iface 168 (.agg #[.int .i64 op,.int .i64 (d:Int),.int .i64 (a:Int),.int .i64 im])) 121 153 true).run Tryz.prog w=.ok (.tuple #[.agg #[.int .i64 0,.int .i64 0,.int .i64 0,.int .i64 0],.bool false]) w:=fun w=>by kernel_rfl
 have as_adds:∀w,(Instr.typeAssert (.iface 168 (.agg #[.int .i64 op,.int .i64 (d:Int),.int .i64 (a:Int),.int .i64 im])) 121 155 true).run Tryz.prog w=.ok (.tuple #[.agg #[.int .i64 0,.int .i64 0,.int .i64 0,.int .i64 0],.bool false]) w:=fun w=>by kernel_rfl
 have as_lifts:∀w,(Instr.typeAssert (.iface 168 (.agg #[.int .i64 op,.int .i64 (d:Int),.int .i64 (a:Int),.int .i64 im])) 121 156 true).run Tryz.prog w=.ok (.tuple #[.agg #[.int .i64 0,.int .i64 0,.int .i64 0,.int .i64 0],.bool false]) w:=fun w=>by kernel_rfl
 have as_loads:∀w,(Instr.typeAssert (.iface 168 (.agg #[.int .i64 op,.int .i64 (d:Int),.int .i64 (a:Int),.int .i64 im])) 121 157 true).run Tryz.prog w=.ok (.tuple #[.agg #[.int .i64 0,.int .i64 0,.int .i64 0,.int .i64 0],.bool false]) w:=fun w=>by kernel_rfl
 have as_stores:∀w,(Instr.typeAssert (.iface 168 (.agg #[.int .i64 op,.int .i64 (d:Int),.int .i64 (a:Int),.int .i64 im])) 121 158 true).run Tryz.prog w=.ok (.tuple #[.agg #[.int .i64 0,.int .i64 0,.int .i64 0,.int .i64 0],.bool false]) w:=fun w=>by kernel_rfl
 have as_ifSame:∀w,(Instr.typeAssert (.iface 168 (.agg #[.int .i64 op,.int .i64 (d:Int),.int .i64 (a:Int),.int .i64 im])) 121 159 true).run Tryz.prog w=.ok (.tuple #[.agg #[.int .i64 0,.int .i64 0,.int .i64 0,.int .i64 0],.bool false]) w:=fun w=>by kernel_rfl
 have as_ifOther:∀w,(Instr.typeAssert (.iface 168 (.agg #[.int .i64 op,.int .i64 (d:Int),.int .i64 (a:Int),.int .i64 im])) 121 161 true).run Tryz.prog w=.ok (.tuple #[.agg #[.int .i64 0,.int .i64 0,.int .i64 0,.int .i64 0],.bool false]) w:=fun w=>by kernel_rfl
 have as_ifLess:∀w,(Instr.typeAssert (.iface 168 (.agg #[.int .i64 op,.int .i64 (d:Int),.int .i64 (a:Int),.int .i64 im])) 121 162 true).run Tryz.prog w=.ok (.tuple #[.agg #[.int .i64 0,.int .i64 0,.int .i64 0,.int .i64 0],.bool false]) w:=fun w=>by kernel_rfl
 have as_jumps:∀w,(Instr.typeAssert (.iface 168 (.agg #[.int .i64 op,.int .i64 (d:Int),.int .i64 (a:Int),.int .i64 im])) 121 163 true).run Tryz.prog w=.ok (.tuple #[.agg #[.int .i64 0,.int .i64 0,.int .i64 0,.int .i64 0],.bool false]) w:=fun w=>by kernel_rfl
 have as_jumpsBy:∀w,(Instr.typeAssert (.iface 168 (.agg #[.int .i64 op,.int .i64 (d:Int),.int .i64 (a:Int),.int .i64 im])) 121 164 true).run Tryz.prog w=.ok (.tuple #[.agg #[.int .i64 0,.int .i64 0,.int .i64 0,.int .i64 0],.bool false]) w:=fun w=>by kernel_rfl
 have as_gets:∀w,(Instr.typeAssert (.iface 168 (.agg #[.int .i64 op,.int .i64 (d:Int),.int .i64 (a:Int),.int .i64 im])) 121 165 true).run Tryz.prog w=.ok (.tuple #[.agg #[.int .i64 0,.int .i64 0,.int .i64 0,.int .i64 0],.bool false]) w:=fun w=>by kernel_rfl
 have as_sets:∀w,(Instr.typeAssert (.iface 168 (.agg #[.int .i64 op,.int .i64 (d:Int),.int .i64 (a:Int),.int .i64 im])) 121 166 true).run Tryz.prog w=.ok (.tuple #[.agg #[.int .i64 0,.int .i64 0,.int .i64 0,.int .i64 0],.bool false]) w:=fun w=>by kernel_rfl
 have as_calls:∀w,(Instr.typeAssert (.iface 168 (.agg #[.int .i64 op,.int .i64 (d:Int),.int .i64 (a:Int),.int .i64 im])) 121 167 true).run Tryz.prog w=.ok (.tuple #[.agg #[.int .i64 0,.int .i64 0,.int .i64 0,.int .i64 0],.bool false]) w:=fun w=>by kernel_rfl
 have as_goesBack:∀w,(Instr.typeAssert (.iface 168 (.agg #[.int .i64 op,.int .i64 (d:Int),.int .i64 (a:Int),.int .i64 im])) 121 168 true).run Tryz.prog w=.ok (.tuple #[.agg #[.int .i64 op,.int .i64 (d:Int),.int .i64 (a:Int),.int .i64 im],.bool true]) w:=fun w=>by kernel_rfl
 clear R
 go_enter Tryz.func75,Tryz.ntmps75
 go_wp2_with (go_at_call 22;refine(impl_add _ _ _).mono ?_;rintro e y ⟨rfl,hy⟩;rw[hy];clear hy y)
 refine(i_off _ _ _ im w).mono ?_
 rintro e w1⟨rfl,b1⟩
 clear hm c16
 go_upto_region 47 with fail
 clear as_reckons as_adds as_lifts as_loads as_stores as_ifSame as_ifOther as_ifLess as_jumps as_jumpsBy as_gets as_sets as_calls as_goesBack
 generalize hW:w1.alloc (.cells #[.int .i64 op,.int .i64 (d:Int),.int .i64 (a:Int),.int .i64 im] 168)=W1
 obtain⟨n,hn⟩:∃n,w1.heap.size=n:=⟨_,rfl⟩
 rw[hn]
 have VN:Hid (Vb W1 n #[.int .i64 op,.int .i64 (d:Int),.int .i64 (a:Int),.int .i64 im] 168):=by show Vb _ _ _ _;rw[←hW,←hn];exact Vb.new _ _ _
 have bb:Below w.heap.size w W1:=by rw[←hW];exact al b1 _
 have R1:=hid (HR.out.keep bb)
 have B1:Hid (Below base w W1):=bless bb HR.out.size
 have QN:Hid (n≠q∧n≠g∧∀k,o.ownBlock=some k→n≠k):=by
  have hs:w.heap.size≤n:=by rw[←hn];exact b1.size
  obtain⟨bo,_,_,ho,_⟩:=HR.out.ho
  exact⟨by have:=HR.out.v.lt;omega,by have:=(World.ownsRow.lt HR.out.pgs g rfl).2;omega,fun k e=>by have:=(ho.lt k e).2;omega⟩
 clear hW hn b1 bb
 go_wp2_with fail
 have s:=stand_parts.1 HR.out.sn.hok.st
 refine(r_goBack q i o _ _ ca ri H W1 R1.out.v HR.out.sn.hok.c11 (all_at HR.out.sn.hok.cw 0).1 s.1).mono ?_
 clear s
 rintro e w2⟨rfl,v2,m2⟩
 have U:Hid (Rw w2 base q i o pg pc ps g p zs (backV H) ca ri X∧Below base W1 w2):=R1.out.upd v2 m2 rfl rfl (backV_hok HR.out.sn.hok)
 have d16:=U.out.1.v.cell 16 rfl
 clear v2 m2
 go_wp2_with fail
 go_ret
 exact⟨rfl,U.out.1,B1.out.trans U.out.2⟩
theorem do_lifts(R:Rw w base q i o pg pc ps g p zs H ca ri X)(op:Int)(d a:Nat)(im:Int)(hd:d≤15)(h0:0≤im)(h1:im≤65535):
  Calls Tryz.prog 75 #[.pointer (some ⟨q,0,none⟩),.iface 156 (.agg #[.int .i64 op,.int .i64 (d:Int),.int .i64 (a:Int),.int .i64 im])] w fun e w'=>e=.returned (.int .i64 (addV H.pc 1))∧Rw w' base q i o pg pc ps g p zs (putV H d (im*65536)) ca ri X∧Below base w w':=by
 have HR:=hid R
 have c16:w.cell? ⟨q,16,none⟩=some (.int .i64 H.pc):=R.v.cell 16 rfl
 have hm:=meth_lifts (.int .i64 op) (.int .i64 (d:Int)) (.int .i64 (a:Int)) (.int .i64 im)
 have as_reckons:∀w,(Instr.typeAssert (.iface 156 (.agg #[.int .i64 op,.int .i64 (d:Int),.int .i64 (a:Int),.int .i64 im])) 121 153 true).run Tryz.prog w=.ok (.tuple #[.agg #[.int .i64 0,.int .i64 0,.int .i64 0,.int .i64 0],.bool false]) w:=fun w=>by kernel_rfl
 have as_adds:∀w,(Instr.typeAssert (.iface 156 (.agg #[.int .i64 op,.int .i64 (d:Int),.int .i64 (a:Int),.int .i64 im])) 121 155 true).run Tryz.prog w=.ok (.tuple #[.agg #[.int .i64 0,.int .i64 0,.int .i64 0,.int .i64 0],.bool false]) w:=fun w=>by kernel_rfl
 have as_lifts:∀w,(Instr.typeAssert (.iface 156 (.agg #[.int .i64 op,.int .i64 (d:Int),.int .i64 (a:Int),.int .i64 im])) 121 156 true).run Tryz.prog w=.ok (.tuple #[.agg #[.int .i64 op,.int .i64 (d:Int),.int .i64 (a:Int),.int .i64 im],.bool true]) w:=fun w=>by kernel_rfl
 have HD:=hid hd
 clear R
 go_enter Tryz.func75,Tryz.ntmps75
 go_wp2_with (go_at_call 22;refine(impl_add _ _ _).mono ?_;rintro e y ⟨rfl,hy⟩;rw[hy];clear hy y)
 refine(i_off _ _ _ im w).mono ?_
 rintro e w1⟨rfl,b1⟩
 clear hm c16
 go_upto_region 11 with fail
 clear as_reckons as_adds as_lifts
 generalize hW:w1.alloc (.cells #[.int .i64 op,.int .i64 (d:Int),.int .i64 (a:Int),.int .i64 im] 156)=W1
 obtain⟨n,hn⟩:∃n,w1.heap.size=n:=⟨_,rfl⟩
 rw[hn]
 have VN:Hid (Vb W1 n #[.int .i64 op,.int .i64 (d:Int),.int .i64 (a:Int),.int .i64 im] 156):=by show Vb _ _ _ _;rw[←hW,←hn];exact Vb.new _ _ _
 have bb:Below w.heap.size w W1:=by rw[←hW];exact al b1 _
 have R1:=hid (HR.out.keep bb)
 have B1:Hid (Below base w W1):=bless bb HR.out.size
 have QN:Hid (n≠q∧n≠g∧∀k,o.ownBlock=some k→n≠k):=by
  have hs:w.heap.size≤n:=by rw[←hn];exact b1.size
  obtain⟨bo,_,_,ho,_⟩:=HR.out.ho
  exact⟨by have:=HR.out.v.lt;omega,by have:=(World.ownsRow.lt HR.out.pgs g rfl).2;omega,fun k e=>by have:=(ho.lt k e).2;omega⟩
 clear hW hn b1 bb
 have n1:W1.cell? ⟨n,1,none⟩=some (.int .i64 (d:Int)):=VN.out.cell 1 rfl
 have n3:W1.cell? ⟨n,3,none⟩=some (.int .i64 im):=VN.out.cell 3 rfl
 go_wp2_with fail
 refine(r_put R1.out (d:Int) (im*65536) (by omega) (by have:=HD.out;omega) (by unfold isW;simp;omega)).mono ?_
 rintro e w2⟨rfl,⟨r2,b2⟩,m2⟩
 have R2:=hid r2
 have B2:Hid (Below base w w2):=B1.out.trans b2
 clear r2 b2 m2 n1 n3
 go_wp2_with fail
 go_ret
 exact⟨rfl,R2.out,B2.out⟩
theorem do_jumps(R:Rw w base q i o pg pc ps g p zs H ca ri X)(op:Int)(d a:Nat)(im:Int)(hd:d≤15):
  Calls Tryz.prog 75 #[.pointer (some ⟨q,0,none⟩),.iface 163 (.agg #[.int .i64 op,.int .i64 (d:Int),.int .i64 (a:Int),.int .i64 im])] w fun e w'=>e=.returned (.int .i64 (addV H.pc (offV im)))∧Rw w' base q i o pg pc ps g p zs (putV H d (addV H.pc 1)) ca ri X∧Below base w w':=by
 have HR:=hid R
 have c16:w.cell? ⟨q,16,none⟩=some (.int .i64 H.pc):=R.v.cell 16 rfl
 have hm:=meth_jumps (.int .i64 op) (.int .i64 (d:Int)) (.int .i64 (a:Int)) (.int .i64 im)
 have as_reckons:∀w,(Instr.typeAssert (.iface 163 (.agg #[.int .i64 op,.int .i64 (d:Int),.int .i64 (a:Int),.int .i64 im])) 121 153 true).run Tryz.prog w=.ok (.tuple #[.agg #[.int .i64 0,.int .i64 0,.int .i64 0,.int .i64 0],.bool false]) w:=fun w=>by kernel_rfl
 have as_adds:∀w,(Instr.typeAssert (.iface 163 (.agg #[.int .i64 op,.int .i64 (d:Int),.int .i64 (a:Int),.int .i64 im])) 121 155 true).run Tryz.prog w=.ok (.tuple #[.agg #[.int .i64 0,.int .i64 0,.int .i64 0,.int .i64 0],.bool false]) w:=fun w=>by kernel_rfl
 have as_lifts:∀w,(Instr.typeAssert (.iface 163 (.agg #[.int .i64 op,.int .i64 (d:Int),.int .i64 (a:Int),.int .i64 im])) 121 156 true).run Tryz.prog w=.ok (.tuple #[.agg #[.int .i64 0,.int .i64 0,.int .i64 0,.int .i64 0],.bool false]) w:=fun w=>by kernel_rfl
 have as_loads:∀w,(Instr.typeAssert (.iface 163 (.agg #[.int .i64 op,.int .i64 (d:Int),.int .i64 (a:Int),.int .i64 im])) 121 157 true).run Tryz.prog w=.ok (.tuple #[.agg #[.int .i64 0,.int .i64 0,.int .i64 0,.int .i64 0],.bool false]) w:=fun w=>by kernel_rfl
 have as_stores:∀w,(Instr.typeAssert (.iface 163 (.agg #[.int .i64 op,.int .i64 (d:Int),.int .i64 (a:Int),.int .i64 im])) 121 158 true).run Tryz.prog w=.ok (.tuple #[.agg #[.int .i64 0,.int .i64 0,.int .i64 0,.int .i64 0],.bool false]) w:=fun w=>by kernel_rfl
 have as_ifSame:∀w,(Instr.typeAssert (.iface 163 (.agg #[.int .i64 op,.int .i64 (d:Int),.int .i64 (a:Int),.int .i64 im])) 121 159 true).run Tryz.prog w=.ok (.tuple #[.agg #[.int .i64 0,.int .i64 0,.int .i64 0,.int .i64 0],.bool false]) w:=fun w=>by kernel_rfl
 have as_ifOther:∀w,(Instr.typeAssert (.iface 163 (.agg #[.int .i64 op,.int .i64 (d:Int),.int .i64 (a:Int),.int .i64 im])) 121 161 true).run Tryz.prog w=.ok (.tuple #[.agg #[.int .i64 0,.int .i64 0,.int .i64 0,.int .i64 0],.bool false]) w:=fun w=>by kernel_rfl
 have as_ifLess:∀w,(Instr.typeAssert (.iface 163 (.agg #[.int .i64 op,.int .i64 (d:Int),.int .i64 (a:Int),.int .i64 im])) 121 162 true).run Tryz.prog w=.ok (.tuple #[.agg #[.int .i64 0,.int .i64 0,.int .i64 0,.int .i64 0],.bool false]) w:=fun w=>by kernel_rfl
 have as_jumps:∀w,(Instr.typeAssert (.iface 163 (.agg #[.int .i64 op,.int .i64 (d:Int),.int .i64 (a:Int),.int .i64 im])) 121 163 true).run Tryz.prog w=.ok (.tuple #[.agg #[.int .i64 op,.int .i64 (d:Int),.int .i64 (a:Int),.int .i64 im],.bool true]) w:=fun w=>by kernel_rfl
 have HD:=hid hd
 clear R
 go_enter Tryz.func75,Tryz.ntmps75
 go_wp2_with (go_at_call 22;refine(impl_add _ _ _).mono ?_;rintro e y ⟨rfl,hy⟩;rw[hy];clear hy y)
 refine(i_off _ _ _ im w).mono ?_
 rintro e w1⟨rfl,b1⟩
 clear hm c16
 go_upto_region 29 with fail
 clear as_reckons as_adds as_lifts as_loads as_stores as_ifSame as_ifOther as_ifLess as_jumps
 generalize hW:w1.alloc (.cells #[.int .i64 op,.int .i64 (d:Int),.int .i64 (a:Int),.int .i64 im] 163)=W1
 obtain⟨n,hn⟩:∃n,w1.heap.size=n:=⟨_,rfl⟩
 rw[hn]
 have VN:Hid (Vb W1 n #[.int .i64 op,.int .i64 (d:Int),.int .i64 (a:Int),.int .i64 im] 163):=by show Vb _ _ _ _;rw[←hW,←hn];exact Vb.new _ _ _
 have bb:Below w.heap.size w W1:=by rw[←hW];exact al b1 _
 have R1:=hid (HR.out.keep bb)
 have B1:Hid (Below base w W1):=bless bb HR.out.size
 have QN:Hid (n≠q∧n≠g∧∀k,o.ownBlock=some k→n≠k):=by
  have hs:w.heap.size≤n:=by rw[←hn];exact b1.size
  obtain⟨bo,_,_,ho,_⟩:=HR.out.ho
  exact⟨by have:=HR.out.v.lt;omega,by have:=(World.ownsRow.lt HR.out.pgs g rfl).2;omega,fun k e=>by have:=(ho.lt k e).2;omega⟩
 clear hW hn b1 bb
 have n1:W1.cell? ⟨n,1,none⟩=some (.int .i64 (d:Int)):=VN.out.cell 1 rfl
 go_wp2_with fail
 refine(r_put R1.out (d:Int) (addV H.pc 1) (by omega) (by have:=HD.out;omega) (add_word _ _)).mono ?_
 rintro e w2⟨rfl,⟨r2,b2⟩,m2⟩
 have R2:=hid r2
 have B2:Hid (Below base w w2):=B1.out.trans b2
 have PC:Hid ((putV H d (addV H.pc 1)).pc=H.pc):=by show _=_;unfold putV;split<;>rfl
 have d16:w2.cell? ⟨q,16,none⟩=some (.int .i64 H.pc):=by rw[←PC.out];exact R2.out.v.cell 16 rfl
 clear r2 b2 m2 n1
 go_wp2_with (go_at_call 22;refine(impl_add _ _ _).mono ?_;rintro e y ⟨rfl,hy⟩;rw[hy];clear hy y)
 go_ret
 exact⟨rfl,R2.out,B2.out⟩
end Go.Proofs.YtaefollmeoepkaaGreatDoor
