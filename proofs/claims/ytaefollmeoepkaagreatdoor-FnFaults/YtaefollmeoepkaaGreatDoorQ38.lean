import Derived.Test.YtaefollmeoepkaaGreatDoorQ37
namespace Go.Proofs.YtaefollmeoepkaaGreatDoor
set_option maxRecDepth 20000
set_option maxHeartbeats 16000000
open Go.RowKit
set_option linter.unusedVariables false
theorem field_i1(x0 x1:Value)(w:World):(Instr.field 48 (.agg #[x0,x1]) 1).run Tryz.prog w=.ok x1 w:=by kernel_rfl
theorem get_word{H:Ht}(K:Hok H){k:Int}(h0:0≤k)(h10:k≤10):isW (getV H k)=true:=by
 unfold getV
 split
 ·rw[isW_iff]
  unfold pendV
  repeat' split
  all_goals omega
 ·split
  ·rw[isW_iff];have:=K.d0;have:=K.d9;omega
  ·exact gt_isW K.cw _
variable{w:World}{base q:Nat}{i o:Value}{pg pc:Nat}{ps:List (Int×Int)}{g p:Nat}{zs:List Int}{X:Nat→Prop}{H:Ht}{ca ri:Int}
theorem do_adds(R:Rw w base q i o pg pc ps g p zs H ca ri X)(op:Int)(d a:Nat)(im:Int)(hd:d<16)(ha:a<16):
  Calls Tryz.prog 75 #[.pointer (some ⟨q,0,none⟩),.iface 155 (.agg #[.int .i64 op,.int .i64 (d:Int),.int .i64 (a:Int),.int .i64 im])] w fun e w'=>e=.returned (.int .i64 (addV H.pc 1))∧Rw w' base q i o pg pc ps g p zs (putV H d (addV (gt H.regs a) (offV im))) ca ri X∧Below base w w':=by
 have HR:=hid R
 have c16:w.cell? ⟨q,16,none⟩=some (.int .i64 H.pc):=R.v.cell 16 rfl
 have hm:=meth_adds (.int .i64 op) (.int .i64 (d:Int)) (.int .i64 (a:Int)) (.int .i64 im)
 have as_reckons:∀w,(Instr.typeAssert (.iface 155 (.agg #[.int .i64 op,.int .i64 (d:Int),.int .i64 (a:Int),.int .i64 im])) 121 153 true).run Tryz.prog w=.ok (.tuple #[.agg #[.int .i64 0,.int .i64 0,.int .i64 0,.int .i64 0],.bool false]) w:=fun w=>by kernel_rfl
 have as_adds:∀w,(Instr.typeAssert (.iface 155 (.agg #[.int .i64 op,.int .i64 (d:Int),.int .i64 (a:Int),.int .i64 im])) 121 155 true).run Tryz.prog w=.ok (.tuple #[.agg #[.int .i64 op,.int .i64 (d:Int),.int .i64 (a:Int),.int .i64 im],.bool true]) w:=fun w=>by kernel_rfl
 have Rd:=hid hd
 have Id:Hid ((d:Int)<16):=by show _<_;omega
 have Ra:=hid ha
 have Ia:Hid ((a:Int)<16):=by show _<_;omega
 have PW:Hid (isW (addV (gt H.regs a) (offV im))=true):=add_word _ _
 clear R
 go_enter Tryz.func75,Tryz.ntmps75
 go_wp2_with (go_at_call 22;refine(impl_add _ _ _).mono ?_;rintro e y ⟨rfl,hy⟩;rw[hy];clear hy y)
 refine(i_off _ _ _ im w).mono ?_
 rintro e w1⟨rfl,b1⟩
 clear hm c16
 go_upto_region 8 with fail
 clear as_reckons as_adds
 generalize hW:w1.alloc (.cells #[.int .i64 op,.int .i64 (d:Int),.int .i64 (a:Int),.int .i64 im] 155)=W1
 obtain⟨n,hn⟩:∃n,w1.heap.size=n:=⟨_,rfl⟩
 rw[hn]
 have VN:Hid (Vb W1 n #[.int .i64 op,.int .i64 (d:Int),.int .i64 (a:Int),.int .i64 im] 155):=by show Vb _ _ _ _;rw[←hW,←hn];exact Vb.new _ _ _
 have bb:Below w.heap.size w W1:=by rw[←hW];exact al b1 _
 have R1:=hid (HR.out.keep bb)
 have B1:Hid (Below base w W1):=bless bb HR.out.size
 have QN:Hid (n≠q∧n≠g∧∀k,o.ownBlock=some k→n≠k):=by
  have hs:w.heap.size≤n:=by rw[←hn];exact b1.size
  obtain⟨bo,_,_,ho,_⟩:=HR.out.ho
  exact⟨by have:=HR.out.v.lt;omega,by have:=(World.ownsRow.lt HR.out.pgs g rfl).2;omega,fun k e=>by have:=(ho.lt k e).2;omega⟩
 clear hW hn b1 bb
 have S0:Hid (Vb W1.drew n #[.int .i64 op,.int .i64 (d:Int),.int .i64 (a:Int),.int .i64 im] 155):=VN.out
 have R0:Hid (Rw W1.drew base q i o pg pc ps g p zs H ca ri X):=R1.out.keep (Below.refl _ _).drew
 have B0:Hid (Below base w W1.drew):=B1.out.drew
 refine wp_region_held (S:=fun w'=>Vb w' n #[.int .i64 op,.int .i64 (d:Int),.int .i64 (a:Int),.int .i64 im] 155) (by kernel_rfl) ?_
 change wpAnyH _ _ _ _ _ _ _ _ (World.drew _)
 generalize W1.drew=x0 at*
 refine wpTd 0 74 (.pointer (some ⟨q,0,none⟩)) rfl S0.out ?_
 simp only[Act.put,zT,zZ,zS]
 refine wpTd 1 75 (.pointer (some ⟨n,0,none⟩)) rfl S0.out ?_
 simp only[Act.put,zT,zZ,zS]
 refine wpTd 2 76 (.pointer (some ⟨n,0,none⟩)) rfl S0.out ?_
 simp only[Act.put,zT,zZ,zS]
 refine wpTd 3 77 (.pointer (some ⟨n,1,none⟩)) rfl S0.out ?_
 simp only[Act.put,zT,zZ,zS]
 refine wpTe 4 78 (.int .i64 (d:Int)) rfl (Or.inl ⟨by rfl,fun w' hs=>by have hc:=(hs.cell 1 rfl:w'.cell? ⟨n,1,none⟩=some (.int .i64 (d:Int)));go_simp⟩) S0.out ?_
 simp only[Act.put,zT,zZ,zS]
 refine wpTd 5 79 (.pointer (some ⟨q,0,none⟩)) rfl S0.out ?_
 simp only[Act.put,zT,zZ,zS]
 refine wpTd 6 80 (.pointer (some ⟨n,0,none⟩)) rfl S0.out ?_
 simp only[Act.put,zT,zZ,zS]
 refine wpTd 7 81 (.pointer (some ⟨n,0,none⟩)) rfl S0.out ?_
 simp only[Act.put,zT,zZ,zS]
 refine wpTd 8 82 (.pointer (some ⟨n,2,none⟩)) rfl S0.out ?_
 simp only[Act.put,zT,zZ,zS]
 refine wpTe 9 83 (.int .i64 (a:Int)) rfl (Or.inl ⟨by rfl,fun w' hs=>by have hc:=(hs.cell 2 rfl:w'.cell? ⟨n,2,none⟩=some (.int .i64 (a:Int)));go_simp⟩) S0.out ?_
 simp only[Act.put,zT,zZ,zS]
 refine wpTd 10 84 (.pointer (some ⟨q,0,none⟩)) rfl S0.out ?_
 simp only[Act.put,zT,zZ,zS]
 refine wpTd 11 85 (.pointer (some ⟨q,0,none⟩)) rfl S0.out ?_
 simp only[Act.put,zT,zZ,zS]
 refine wpTd 12 86 (.pointer (some ⟨q,0,none⟩)) rfl S0.out ?_
 simp only[Act.put,zT,zZ,zS]
 refine wpTd 13 87 (.pointer (some ⟨q,0,none⟩)) rfl S0.out ?_
 simp only[Act.put,zT,zZ,zS]
 refine wpTe 14 88 (.pointer (some ⟨q,a,none⟩)) rfl (Or.inl ⟨by rfl,fun w' hs=>by have h1:=Ia.out;have h2:=Ra.out;go_simp⟩) S0.out ?_
 simp only[Act.put,zT,zZ,zS]
 refine wpTd 16 90 (.int .i64 (offV im)) rfl S0.out ?_
 simp only[Act.put,zT,zZ,zS]
 refine zR 15 rfl fun K hK=>?_
 rw[if_pos (by rfl)]
 have cl:x0.cell? ⟨q,a,none⟩=some (.int .i64 (gt H.regs a)):=R0.out.v.cell a (mcr_reg_at _ _ _ _ _ _ _ a Ra.out)
 go_simp
 refine hK.out _ _ S0.out (fun _=>?_)
 clear hK K cl
 refine zR 17 rfl fun K hK=>?_
 rw[if_pos (by rfl)]
 go_simp
 refine(impl_add _ _ _).mono ?_
 rintro e y⟨rfl,hy⟩
 rw[hy]
 clear hy y
 refine hK.out _ _ S0.out (fun _=>?_)
 clear hK K
 refine zR 18 rfl fun K hK=>?_
 rw[if_pos (by rfl)]
 go_simp
 refine(r_put R0.out (d:Int) (addV (gt H.regs a) (offV im)) (by omega) (by have:=Rd.out;omega) PW.out).mono ?_
 rintro e x1⟨rfl,⟨r2,b2⟩,m2⟩
 have R1:=hid r2
 have B1:Hid (Below base w x1):=B0.out.trans b2
 have S1:Hid (Vb x1 n #[.int .i64 op,.int .i64 (d:Int),.int .i64 (a:Int),.int .i64 im] 155):=m2.vb S0.out fun e=>QN.out.1 e
 clear r2 b2 m2
 refine hK.out _ _ S1.out (fun _=>?_)
 clear hK K
 refine wpAnyH_done (by kernel_rfl) ?_ _
 go_wp2_with fail
 go_ret
 exact⟨rfl,R1.out,B1.out⟩
theorem do_gets(R:Rw w base q i o pg pc ps g p zs H ca ri X)(op:Int)(d a:Nat)(im:Int)(hd:d<16)(h0:0≤im)(h10:im≤10):
  Calls Tryz.prog 75 #[.pointer (some ⟨q,0,none⟩),.iface 165 (.agg #[.int .i64 op,.int .i64 (d:Int),.int .i64 (a:Int),.int .i64 im])] w fun e w'=>e=.returned (.int .i64 (addV H.pc 1))∧Rw w' base q i o pg pc ps g p zs (putV H d (getV H im)) ca ri X∧Below base w w':=by
 have HR:=hid R
 have c16:w.cell? ⟨q,16,none⟩=some (.int .i64 H.pc):=R.v.cell 16 rfl
 have hm:=meth_gets (.int .i64 op) (.int .i64 (d:Int)) (.int .i64 (a:Int)) (.int .i64 im)
 have as_reckons:∀w,(Instr.typeAssert (.iface 165 (.agg #[.int .i64 op,.int .i64 (d:Int),.int .i64 (a:Int),.int .i64 im])) 121 153 true).run Tryz.prog w=.ok (.tuple #[.agg #[.int .i64 0,.int .i64 0,.int .i64 0,.int .i64 0],.bool false]) w:=fun w=>by kernel_rfl
 have as_adds:∀w,(Instr.typeAssert (.iface 165 (.agg #[.int .i64 op,.int .i64 (d:Int),.int .i64 (a:Int),.int .i64 im])) 121 155 true).run Tryz.prog w=.ok (.tuple #[.agg #[.int .i64 0,.int .i64 0,.int .i64 0,.int .i64 0],.bool false]) w:=fun w=>by kernel_rfl
 have as_lifts:∀w,(Instr.typeAssert (.iface 165 (.agg #[.int .i64 op,.int .i64 (d:Int),.int .i64 (a:Int),.int .i64 im])) 121 156 true).run Tryz.prog w=.ok (.tuple #[.agg #[.int .i64 0,.int .i64 0,.int .i64 0,.int .i64 0],.bool false]) w:=fun w=>by kernel_rfl
 have as_loads:∀w,(Instr.typeAssert (.iface 165 (.agg #[.int .i64 op,.int .i64 (d:Int),.int .i64 (a:Int),.int .i64 im])) 121 157 true).run Tryz.prog w=.ok (.tuple #[.agg #[.int .i64 0,.int .i64 0,.int .i64 0,.int .i64 0],.bool false]) w:=fun w=>by kernel_rfl
 have as_stores:∀w,(Instr.typeAssert (.iface 165 (.agg #[.int .i64 op,.int .i64 (d:Int),.int .i64 (a:Int),.int .i64 im])) 121 158 true).run Tryz.prog w=.ok (.tuple #[.agg #[.int .i64 0,.int .i64 0,.int .i64 0,.int .i64 0],.bool false]) w:=fun w=>by kernel_rfl
 have as_ifSame:∀w,(Instr.typeAssert (.iface 165 (.agg #[.int .i64 op,.int .i64 (d:Int),.int .i64 (a:Int),.int .i64 im])) 121 159 true).run Tryz.prog w=.ok (.tuple #[.agg #[.int .i64 0,.int .i64 0,.int .i64 0,.int .i64 0],.bool false]) w:=fun w=>by kernel_rfl
 have as_ifOther:∀w,(Instr.typeAssert (.iface 165 (.agg #[.int .i64 op,.int .i64 (d:Int),.int .i64 (a:Int),.int .i64 im])) 121 161 true).run Tryz.prog w=.ok (.tuple #[.agg #[.int .i64 0,.int .i64 0,.int .i64 0,.int .i64 0],.bool false]) w:=fun w=>by kernel_rfl
 have as_ifLess:∀w,(Instr.typeAssert (.iface 165 (.agg #[.int .i64 op,.int .i64 (d:Int),.int .i64 (a:Int),.int .i64 im])) 121 162 true).run Tryz.prog w=.ok (.tuple #[.agg #[.int .i64 0,.int .i64 0,.int .i64 0,.int .i64 0],.bool false]) w:=fun w=>by kernel_rfl
 have as_jumps:∀w,(Instr.typeAssert (.iface 165 (.agg #[.int .i64 op,.int .i64 (d:Int),.int .i64 (a:Int),.int .i64 im])) 121 163 true).run Tryz.prog w=.ok (.tuple #[.agg #[.int .i64 0,.int .i64 0,.int .i64 0,.int .i64 0],.bool false]) w:=fun w=>by kernel_rfl
 have as_jumpsBy:∀w,(Instr.typeAssert (.iface 165 (.agg #[.int .i64 op,.int .i64 (d:Int),.int .i64 (a:Int),.int .i64 im])) 121 164 true).run Tryz.prog w=.ok (.tuple #[.agg #[.int .i64 0,.int .i64 0,.int .i64 0,.int .i64 0],.bool false]) w:=fun w=>by kernel_rfl
 have as_gets:∀w,(Instr.typeAssert (.iface 165 (.agg #[.int .i64 op,.int .i64 (d:Int),.int .i64 (a:Int),.int .i64 im])) 121 165 true).run Tryz.prog w=.ok (.tuple #[.agg #[.int .i64 op,.int .i64 (d:Int),.int .i64 (a:Int),.int .i64 im],.bool true]) w:=fun w=>by kernel_rfl
 have Rd:=hid hd
 have Id:Hid ((d:Int)<16):=by show _<_;omega
 have IM:Hid (0≤im∧im≤10):=⟨h0,h10⟩
 have PW:Hid (isW (getV H im)=true):=get_word R.sn.hok h0 h10
 clear R
 go_enter Tryz.func75,Tryz.ntmps75
 go_wp2_with (go_at_call 22;refine(impl_add _ _ _).mono ?_;rintro e y ⟨rfl,hy⟩;rw[hy];clear hy y)
 refine(i_off _ _ _ im w).mono ?_
 rintro e w1⟨rfl,b1⟩
 clear hm c16
 go_upto_region 38 with fail
 clear as_reckons as_adds as_lifts as_loads as_stores as_ifSame as_ifOther as_ifLess as_jumps as_jumpsBy as_gets
 generalize hW:w1.alloc (.cells #[.int .i64 op,.int .i64 (d:Int),.int .i64 (a:Int),.int .i64 im] 165)=W1
 obtain⟨n,hn⟩:∃n,w1.heap.size=n:=⟨_,rfl⟩
 rw[hn]
 have VN:Hid (Vb W1 n #[.int .i64 op,.int .i64 (d:Int),.int .i64 (a:Int),.int .i64 im] 165):=by show Vb _ _ _ _;rw[←hW,←hn];exact Vb.new _ _ _
 have bb:Below w.heap.size w W1:=by rw[←hW];exact al b1 _
 have R1:=hid (HR.out.keep bb)
 have B1:Hid (Below base w W1):=bless bb HR.out.size
 have QN:Hid (n≠q∧n≠g∧∀k,o.ownBlock=some k→n≠k):=by
  have hs:w.heap.size≤n:=by rw[←hn];exact b1.size
  obtain⟨bo,_,_,ho,_⟩:=HR.out.ho
  exact⟨by have:=HR.out.v.lt;omega,by have:=(World.ownsRow.lt HR.out.pgs g rfl).2;omega,fun k e=>by have:=(ho.lt k e).2;omega⟩
 clear hW hn b1 bb
 have S0:Hid (Vb W1.drew n #[.int .i64 op,.int .i64 (d:Int),.int .i64 (a:Int),.int .i64 im] 165):=VN.out
 have R0:Hid (Rw W1.drew base q i o pg pc ps g p zs H ca ri X):=R1.out.keep (Below.refl _ _).drew
 have B0:Hid (Below base w W1.drew):=B1.out.drew
 refine wp_region_held (S:=fun w'=>Vb w' n #[.int .i64 op,.int .i64 (d:Int),.int .i64 (a:Int),.int .i64 im] 165) (by kernel_rfl) ?_
 change wpAnyH _ _ _ _ _ _ _ _ (World.drew _)
 generalize W1.drew=x0 at*
 refine wpTd 0 297 (.pointer (some ⟨q,0,none⟩)) rfl S0.out ?_
 simp only[Act.put,zT,zZ,zS]
 refine wpTd 1 298 (.pointer (some ⟨n,0,none⟩)) rfl S0.out ?_
 simp only[Act.put,zT,zZ,zS]
 refine wpTd 2 299 (.pointer (some ⟨n,0,none⟩)) rfl S0.out ?_
 simp only[Act.put,zT,zZ,zS]
 refine wpTd 3 300 (.pointer (some ⟨n,1,none⟩)) rfl S0.out ?_
 simp only[Act.put,zT,zZ,zS]
 refine wpTe 4 301 (.int .i64 (d:Int)) rfl (Or.inl ⟨by rfl,fun w' hs=>by have hc:=(hs.cell 1 rfl:w'.cell? ⟨n,1,none⟩=some (.int .i64 (d:Int)));go_simp⟩) S0.out ?_
 simp only[Act.put,zT,zZ,zS]
 refine wpTd 5 302 (.pointer (some ⟨q,0,none⟩)) rfl S0.out ?_
 simp only[Act.put,zT,zZ,zS]
 refine wpTd 6 303 (.pointer (some ⟨q,0,none⟩)) rfl S0.out ?_
 simp only[Act.put,zT,zZ,zS]
 refine wpTd 7 304 (.pointer (some ⟨q,0,none⟩)) rfl S0.out ?_
 simp only[Act.put,zT,zZ,zS]
 refine wpTd 8 305 (.pointer (some ⟨n,0,none⟩)) rfl S0.out ?_
 simp only[Act.put,zT,zZ,zS]
 refine wpTd 9 306 (.pointer (some ⟨n,0,none⟩)) rfl S0.out ?_
 simp only[Act.put,zT,zZ,zS]
 refine wpTd 10 307 (.pointer (some ⟨n,3,none⟩)) rfl S0.out ?_
 simp only[Act.put,zT,zZ,zS]
 refine wpTe 11 308 (.int .i64 im) rfl (Or.inl ⟨by rfl,fun w' hs=>by have hc:=(hs.cell 3 rfl:w'.cell? ⟨n,3,none⟩=some (.int .i64 im));go_simp⟩) S0.out ?_
 simp only[Act.put,zT,zZ,zS]
 refine zR 12 rfl fun K hK=>?_
 rw[if_pos (by rfl)]
 go_simp
 refine(r_get q i o _ _ ca ri H im _ R0.out.v R0.out.hi IM.out.1 IM.out.2).mono ?_
 rintro e y⟨rfl,hy⟩
 rw[hy]
 clear hy y
 refine hK.out _ _ S0.out (fun _=>?_)
 clear hK K
 refine zR 13 rfl fun K hK=>?_
 rw[if_pos (by rfl)]
 go_simp
 refine(r_put R0.out (d:Int) (getV H im) (by omega) (by have:=Rd.out;omega) PW.out).mono ?_
 rintro e x1⟨rfl,⟨r2,b2⟩,m2⟩
 have R1:=hid r2
 have B1:Hid (Below base w x1):=B0.out.trans b2
 have S1:Hid (Vb x1 n #[.int .i64 op,.int .i64 (d:Int),.int .i64 (a:Int),.int .i64 im] 165):=m2.vb S0.out fun e=>QN.out.1 e
 clear r2 b2 m2
 refine hK.out _ _ S1.out (fun _=>?_)
 clear hK K
 refine wpAnyH_done (by kernel_rfl) ?_ _
 go_wp2_with fail
 go_ret
 exact⟨rfl,R1.out,B1.out⟩
theorem do_sets(R:Rw w base q i o pg pc ps g p zs H ca ri X)(op:Int)(d a:Nat)(im:Int)(ha:a<16)(h0:0≤im)(h10:im≤10):
  Calls Tryz.prog 75 #[.pointer (some ⟨q,0,none⟩),.iface 166 (.agg #[.int .i64 op,.int .i64 (d:Int),.int .i64 (a:Int),.int .i64 im])] w fun e w'=>e=.returned (.int .i64 (addV H.pc 1))∧Rw w' base q i o pg pc ps g p zs (setW H im (gt H.regs a)) ca ri X∧Below base w w':=by
 have HR:=hid R
 have c16:w.cell? ⟨q,16,none⟩=some (.int .i64 H.pc):=R.v.cell 16 rfl
 have hm:=meth_sets (.int .i64 op) (.int .i64 (d:Int)) (.int .i64 (a:Int)) (.int .i64 im)
 have as_reckons:∀w,(Instr.typeAssert (.iface 166 (.agg #[.int .i64 op,.int .i64 (d:Int),.int .i64 (a:Int),.int .i64 im])) 121 153 true).run Tryz.prog w=.ok (.tuple #[.agg #[.int .i64 0,.int .i64 0,.int .i64 0,.int .i64 0],.bool false]) w:=fun w=>by kernel_rfl
 have as_adds:∀w,(Instr.typeAssert (.iface 166 (.agg #[.int .i64 op,.int .i64 (d:Int),.int .i64 (a:Int),.int .i64 im])) 121 155 true).run Tryz.prog w=.ok (.tuple #[.agg #[.int .i64 0,.int .i64 0,.int .i64 0,.int .i64 0],.bool false]) w:=fun w=>by kernel_rfl
 have as_lifts:∀w,(Instr.typeAssert (.iface 166 (.agg #[.int .i64 op,.int .i64 (d:Int),.int .i64 (a:Int),.int .i64 im])) 121 156 true).run Tryz.prog w=.ok (.tuple #[.agg #[.int .i64 0,.int .i64 0,.int .i64 0,.int .i64 0],.bool false]) w:=fun w=>by kernel_rfl
 have as_loads:∀w,(Instr.typeAssert (.iface 166 (.agg #[.int .i64 op,.int .i64 (d:Int),.int .i64 (a:Int),.int .i64 im])) 121 157 true).run Tryz.prog w=.ok (.tuple #[.agg #[.int .i64 0,.int .i64 0,.int .i64 0,.int .i64 0],.bool false]) w:=fun w=>by kernel_rfl
 have as_stores:∀w,(Instr.typeAssert (.iface 166 (.agg #[.int .i64 op,.int .i64 (d:Int),.int .i64 (a:Int),.int .i64 im])) 121 158 true).run Tryz.prog w=.ok (.tuple #[.agg #[.int .i64 0,.int .i64 0,.int .i64 0,.int .i64 0],.bool false]) w:=fun w=>by kernel_rfl
 have as_ifSame:∀w,(Instr.typeAssert (.iface 166 (.agg #[.int .i64 op,.int .i64 (d:Int),.int .i64 (a:Int),.int .i64 im])) 121 159 true).run Tryz.prog w=.ok (.tuple #[.agg #[.int .i64 0,.int .i64 0,.int .i64 0,.int .i64 0],.bool false]) w:=fun w=>by kernel_rfl
 have as_ifOther:∀w,(Instr.typeAssert (.iface 166 (.agg #[.int .i64 op,.int .i64 (d:Int),.int .i64 (a:Int),.int .i64 im])) 121 161 true).run Tryz.prog w=.ok (.tuple #[.agg #[.int .i64 0,.int .i64 0,.int .i64 0,.int .i64 0],.bool false]) w:=fun w=>by kernel_rfl
 have as_ifLess:∀w,(Instr.typeAssert (.iface 166 (.agg #[.int .i64 op,.int .i64 (d:Int),.int .i64 (a:Int),.int .i64 im])) 121 162 true).run Tryz.prog w=.ok (.tuple #[.agg #[.int .i64 0,.int .i64 0,.int .i64 0,.int .i64 0],.bool false]) w:=fun w=>by kernel_rfl
 have as_jumps:∀w,(Instr.typeAssert (.iface 166 (.agg #[.int .i64 op,.int .i64 (d:Int),.int .i64 (a:Int),.int .i64 im])) 121 163 true).run Tryz.prog w=.ok (.tuple #[.agg #[.int .i64 0,.int .i64 0,.int .i64 0,.int .i64 0],.bool false]) w:=fun w=>by kernel_rfl
 have as_jumpsBy:∀w,(Instr.typeAssert (.iface 166 (.agg #[.int .i64 op,.int .i64 (d:Int),.int .i64 (a:Int),.int .i64 im])) 121 164 true).run Tryz.prog w=.ok (.tuple #[.agg #[.int .i64 0,.int .i64 0,.int .i64 0,.int .i64 0],.bool false]) w:=fun w=>by kernel_rfl
 have as_gets:∀w,(Instr.typeAssert (.iface 166 (.agg #[.int .i64 op,.int .i64 (d:Int),.int .i64 (a:Int),.int .i64 im])) 121 165 true).run Tryz.prog w=.ok (.tuple #[.agg #[.int .i64 0,.int .i64 0,.int .i64 0,.int .i64 0],.bool false]) w:=fun w=>by kernel_rfl
 have as_sets:∀w,(Instr.typeAssert (.iface 166 (.agg #[.int .i64 op,.int .i64 (d:Int),.int .i64 (a:Int),.int .i64 im])) 121 166 true).run Tryz.prog w=.ok (.tuple #[.agg #[.int .i64 op,.int .i64 (d:Int),.int .i64 (a:Int),.int .i64 im],.bool true]) w:=fun w=>by kernel_rfl
 have Ra:=hid ha
 have Ia:Hid ((a:Int)<16):=by show _<_;omega
 have IM:Hid (0≤im∧im≤10):=⟨h0,h10⟩
 clear R
 go_enter Tryz.func75,Tryz.ntmps75
 go_wp2_with (go_at_call 22;refine(impl_add _ _ _).mono ?_;rintro e y ⟨rfl,hy⟩;rw[hy];clear hy y)
 refine(i_off _ _ _ im w).mono ?_
 rintro e w1⟨rfl,b1⟩
 clear hm c16
 go_upto_region 41 with fail
 clear as_reckons as_adds as_lifts as_loads as_stores as_ifSame as_ifOther as_ifLess as_jumps as_jumpsBy as_gets as_sets
 generalize hW:w1.alloc (.cells #[.int .i64 op,.int .i64 (d:Int),.int .i64 (a:Int),.int .i64 im] 166)=W1
 obtain⟨n,hn⟩:∃n,w1.heap.size=n:=⟨_,rfl⟩
 rw[hn]
 have VN:Hid (Vb W1 n #[.int .i64 op,.int .i64 (d:Int),.int .i64 (a:Int),.int .i64 im] 166):=by show Vb _ _ _ _;rw[←hW,←hn];exact Vb.new _ _ _
 have bb:Below w.heap.size w W1:=by rw[←hW];exact al b1 _
 have R1:=hid (HR.out.keep bb)
 have B1:Hid (Below base w W1):=bless bb HR.out.size
 have QN:Hid (n≠q∧n≠g∧∀k,o.ownBlock=some k→n≠k):=by
  have hs:w.heap.size≤n:=by rw[←hn];exact b1.size
  obtain⟨bo,_,_,ho,_⟩:=HR.out.ho
  exact⟨by have:=HR.out.v.lt;omega,by have:=(World.ownsRow.lt HR.out.pgs g rfl).2;omega,fun k e=>by have:=(ho.lt k e).2;omega⟩
 clear hW hn b1 bb
 have S0:Hid (Vb W1.drew n #[.int .i64 op,.int .i64 (d:Int),.int .i64 (a:Int),.int .i64 im] 166∧W1.drew.cell? ⟨q,a,none⟩=some (.int .i64 (gt H.regs a))):=⟨VN.out,(R1.out.v.cell a (mcr_reg_at _ _ _ _ _ _ _ a Ra.out):W1.cell? ⟨q,a,none⟩=_)⟩
 have R0:Hid (Rw W1.drew base q i o pg pc ps g p zs H ca ri X):=R1.out.keep (Below.refl _ _).drew
 have B0:Hid (Below base w W1.drew):=B1.out.drew
 refine wp_region_held (S:=fun w'=>Vb w' n #[.int .i64 op,.int .i64 (d:Int),.int .i64 (a:Int),.int .i64 im] 166∧w'.cell? ⟨q,a,none⟩=some (.int .i64 (gt H.regs a))) (by kernel_rfl) ?_
 change wpAnyH _ _ _ _ _ _ _ _ (World.drew _)
 generalize W1.drew=x0 at*
 refine wpTd 0 314 (.pointer (some ⟨q,0,none⟩)) rfl S0.out ?_
 simp only[Act.put,zT,zZ,zS]
 refine wpTd 1 315 (.pointer (some ⟨q,0,none⟩)) rfl S0.out ?_
 simp only[Act.put,zT,zZ,zS]
 refine wpTd 2 316 (.pointer (some ⟨q,0,none⟩)) rfl S0.out ?_
 simp only[Act.put,zT,zZ,zS]
 refine wpTd 3 317 (.pointer (some ⟨n,0,none⟩)) rfl S0.out ?_
 simp only[Act.put,zT,zZ,zS]
 refine wpTd 4 318 (.pointer (some ⟨n,0,none⟩)) rfl S0.out ?_
 simp only[Act.put,zT,zZ,zS]
 refine wpTd 5 319 (.pointer (some ⟨n,3,none⟩)) rfl S0.out ?_
 simp only[Act.put,zT,zZ,zS]
 refine wpTe 6 320 (.int .i64 im) rfl (Or.inl ⟨by rfl,fun w' hs=>by have hc:=(hs.1.cell 3 rfl:w'.cell? ⟨n,3,none⟩=some (.int .i64 im));go_simp⟩) S0.out ?_
 simp only[Act.put,zT,zZ,zS]
 refine wpTd 7 321 (.pointer (some ⟨q,0,none⟩)) rfl S0.out ?_
 simp only[Act.put,zT,zZ,zS]
 refine wpTd 8 322 (.pointer (some ⟨n,0,none⟩)) rfl S0.out ?_
 simp only[Act.put,zT,zZ,zS]
 refine wpTd 9 323 (.pointer (some ⟨n,0,none⟩)) rfl S0.out ?_
 simp only[Act.put,zT,zZ,zS]
 refine wpTd 10 324 (.pointer (some ⟨n,2,none⟩)) rfl S0.out ?_
 simp only[Act.put,zT,zZ,zS]
 refine wpTe 11 325 (.int .i64 (a:Int)) rfl (Or.inl ⟨by rfl,fun w' hs=>by have hc:=(hs.1.cell 2 rfl:w'.cell? ⟨n,2,none⟩=some (.int .i64 (a:Int)));go_simp⟩) S0.out ?_
 simp only[Act.put,zT,zZ,zS]
 refine wpTd 12 326 (.pointer (some ⟨q,0,none⟩)) rfl S0.out ?_
 simp only[Act.put,zT,zZ,zS]
 refine wpTd 13 327 (.pointer (some ⟨q,0,none⟩)) rfl S0.out ?_
 simp only[Act.put,zT,zZ,zS]
 refine wpTd 14 328 (.pointer (some ⟨q,0,none⟩)) rfl S0.out ?_
 simp only[Act.put,zT,zZ,zS]
 refine wpTd 15 329 (.pointer (some ⟨q,0,none⟩)) rfl S0.out ?_
 simp only[Act.put,zT,zZ,zS]
 refine wpTe 16 330 (.pointer (some ⟨q,a,none⟩)) rfl (Or.inl ⟨by rfl,fun w' hs=>by have h1:=Ia.out;have h2:=Ra.out;go_simp⟩) S0.out ?_
 simp only[Act.put,zT,zZ,zS]
 refine wpTe 17 331 (.int .i64 (gt H.regs a)) rfl (Or.inl ⟨by rfl,fun w' hs=>by have hc:=hs.2;go_simp⟩) S0.out ?_
 simp only[Act.put,zT,zZ,zS]
 refine zR 18 rfl fun K hK=>?_
 rw[if_pos (by rfl)]
 go_simp
 refine(r_set q i o _ _ ca ri H im (gt H.regs a) _ R0.out.v HR.out.sn.hok.c11 IM.out.1 IM.out.2 (all_at HR.out.sn.hok.rw a).1 (all_at HR.out.sn.hok.rw a).2).mono ?_
 rintro e x1⟨rfl,v2,m2⟩
 have U:Hid (Rw x1 base q i o pg pc ps g p zs (setW H im (gt H.regs a)) ca ri X∧Below base x0 x1):=R0.out.upd v2 m2 rfl rfl (setW_hok HR.out.sn.hok IM.out.1 IM.out.2 (gt_isW HR.out.sn.hok.rw a))
 have R1:Hid (Rw x1 base q i o pg pc ps g p zs (setW H im (gt H.regs a)) ca ri X):=U.out.1
 have B1:Hid (Below base w x1):=B0.out.trans U.out.2
 have S1:Hid (Vb x1 n #[.int .i64 op,.int .i64 (d:Int),.int .i64 (a:Int),.int .i64 im] 166∧x1.cell? ⟨q,a,none⟩=some (.int .i64 (gt H.regs a))):=⟨m2.vb S0.out.1 fun e=>QN.out.1 e,R1.out.v.cell a (mcr_reg_at _ _ _ _ _ _ _ a Ra.out)⟩
 clear v2 m2
 refine hK.out _ _ S1.out (fun _=>?_)
 clear hK K
 refine wpAnyH_done (by kernel_rfl) ?_ _
 go_wp2_with fail
 go_ret
 exact⟨rfl,R1.out,B1.out⟩
end Go.Proofs.YtaefollmeoepkaaGreatDoor
