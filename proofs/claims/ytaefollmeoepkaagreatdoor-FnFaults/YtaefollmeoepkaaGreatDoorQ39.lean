import Derived.Test.YtaefollmeoepkaaGreatDoorQ38
namespace Go.Proofs.YtaefollmeoepkaaGreatDoor
set_option maxRecDepth 20000
set_option maxHeartbeats 16000000
open Go.RowKit
set_option linter.unusedVariables false
def brV(t:Bool)(x y:Int):Int:=if t then x else y
variable{w:World}{base q:Nat}{i o:Value}{pg pc:Nat}{ps:List (Int×Int)}{g p:Nat}{zs:List Int}{X:Nat→Prop}{H:Ht}{ca ri:Int}
theorem r_brV(R:Rw w base q i o pg pc ps g p zs H ca ri X)(t:Bool)(f n:Int):
  Calls Tryz.prog 115 #[.pointer (some ⟨q,0,none⟩),.bool t,.int .i64 f,.int .i64 n] w fun e w'=>e=.returned (.int .i64 (brV t (addV H.pc f) n))∧Below w.heap.size w w':=r_branch R t f n
theorem do_ifSame(R:Rw w base q i o pg pc ps g p zs H ca ri X)(op:Int)(d a:Nat)(im:Int)(hd:d<16)(ha:a<16):
  Calls Tryz.prog 75 #[.pointer (some ⟨q,0,none⟩),.iface 159 (.agg #[.int .i64 op,.int .i64 (d:Int),.int .i64 (a:Int),.int .i64 im])] w fun e w'=>e=.returned (.int .i64 (brV (gt H.regs d==gt H.regs a) (addV H.pc (offV im)) (addV H.pc 1)))∧Rw w' base q i o pg pc ps g p zs H ca ri X∧Below base w w':=by
 have HR:=hid R
 have c16:w.cell? ⟨q,16,none⟩=some (.int .i64 H.pc):=R.v.cell 16 rfl
 have hm:=meth_ifSame (.int .i64 op) (.int .i64 (d:Int)) (.int .i64 (a:Int)) (.int .i64 im)
 have as_reckons:∀w,(Instr.typeAssert (.iface 159 (.agg #[.int .i64 op,.int .i64 (d:Int),.int .i64 (a:Int),.int .i64 im])) 121 153 true).run Tryz.prog w=.ok (.tuple #[.agg #[.int .i64 0,.int .i64 0,.int .i64 0,.int .i64 0],.bool false]) w:=fun w=>by kernel_rfl
 have as_adds:∀w,(Instr.typeAssert (.iface 159 (.agg #[.int .i64 op,.int .i64 (d:Int),.int .i64 (a:Int),.int .i64 im])) 121 155 true).run Tryz.prog w=.ok (.tuple #[.agg #[.int .i64 0,.int .i64 0,.int .i64 0,.int .i64 0],.bool false]) w:=fun w=>by kernel_rfl
 have as_lifts:∀w,(Instr.typeAssert (.iface 159 (.agg #[.int .i64 op,.int .i64 (d:Int),.int .i64 (a:Int),.int .i64 im])) 121 156 true).run Tryz.prog w=.ok (.tuple #[.agg #[.int .i64 0,.int .i64 0,.int .i64 0,.int .i64 0],.bool false]) w:=fun w=>by kernel_rfl
 have as_loads:∀w,(Instr.typeAssert (.iface 159 (.agg #[.int .i64 op,.int .i64 (d:Int),.int .i64 (a:Int),.int .i64 im])) 121 157 true).run Tryz.prog w=.ok (.tuple #[.agg #[.int .i64 0,.int .i64 0,.int .i64 0,.int .i64 0],.bool false]) w:=fun w=>by kernel_rfl
 have as_stores:∀w,(Instr.typeAssert (.iface 159 (.agg #[.int .i64 op,.int .i64 (d:Int),.int .i64 (a:Int),.int .i64 im])) 121 158 true).run Tryz.prog w=.ok (.tuple #[.agg #[.int .i64 0,.int .i64 0,.int .i64 0,.int .i64 0],.bool false]) w:=fun w=>by kernel_rfl
 have as_ifSame:∀w,(Instr.typeAssert (.iface 159 (.agg #[.int .i64 op,.int .i64 (d:Int),.int .i64 (a:Int),.int .i64 im])) 121 159 true).run Tryz.prog w=.ok (.tuple #[.agg #[.int .i64 op,.int .i64 (d:Int),.int .i64 (a:Int),.int .i64 im],.bool true]) w:=fun w=>by kernel_rfl
 have Rd:=hid hd
 have Id:Hid ((d:Int)<16):=by show _<_;omega
 have Ra:=hid ha
 have Ia:Hid ((a:Int)<16):=by show _<_;omega
 clear R
 go_enter Tryz.func75,Tryz.ntmps75
 go_wp2_with (go_at_call 22;refine(impl_add _ _ _).mono ?_;rintro e y ⟨rfl,hy⟩;rw[hy];clear hy y)
 refine(i_off _ _ _ im w).mono ?_
 rintro e w1⟨rfl,b1⟩
 clear hm c16
 go_upto_region 20 with fail
 clear as_reckons as_adds as_lifts as_loads as_stores as_ifSame
 generalize hW:w1.alloc (.cells #[.int .i64 op,.int .i64 (d:Int),.int .i64 (a:Int),.int .i64 im] 159)=W1
 obtain⟨n,hn⟩:∃n,w1.heap.size=n:=⟨_,rfl⟩
 rw[hn]
 have VN:Hid (Vb W1 n #[.int .i64 op,.int .i64 (d:Int),.int .i64 (a:Int),.int .i64 im] 159):=by show Vb _ _ _ _;rw[←hW,←hn];exact Vb.new _ _ _
 have bb:Below w.heap.size w W1:=by rw[←hW];exact al b1 _
 have R1:=hid (HR.out.keep bb)
 have B1:Hid (Below base w W1):=bless bb HR.out.size
 have QN:Hid (n≠q∧n≠g∧∀k,o.ownBlock=some k→n≠k):=by
  have hs:w.heap.size≤n:=by rw[←hn];exact b1.size
  obtain⟨bo,_,_,ho,_⟩:=HR.out.ho
  exact⟨by have:=HR.out.v.lt;omega,by have:=(World.ownsRow.lt HR.out.pgs g rfl).2;omega,fun k e=>by have:=(ho.lt k e).2;omega⟩
 clear hW hn b1 bb
 have S0:Hid (Vb W1.drew n #[.int .i64 op,.int .i64 (d:Int),.int .i64 (a:Int),.int .i64 im] 159∧W1.drew.cell? ⟨q,d,none⟩=some (.int .i64 (gt H.regs d))∧W1.drew.cell? ⟨q,a,none⟩=some (.int .i64 (gt H.regs a))):=⟨VN.out,(R1.out.v.cell d (mcr_reg_at _ _ _ _ _ _ _ d Rd.out):W1.cell? ⟨q,d,none⟩=_),(R1.out.v.cell a (mcr_reg_at _ _ _ _ _ _ _ a Ra.out):W1.cell? ⟨q,a,none⟩=_)⟩
 have R0:Hid (Rw W1.drew base q i o pg pc ps g p zs H ca ri X):=R1.out.keep (Below.refl _ _).drew
 have B0:Hid (Below base w W1.drew):=B1.out.drew
 refine wp_region_held (S:=fun w'=>Vb w' n #[.int .i64 op,.int .i64 (d:Int),.int .i64 (a:Int),.int .i64 im] 159∧w'.cell? ⟨q,d,none⟩=some (.int .i64 (gt H.regs d))∧w'.cell? ⟨q,a,none⟩=some (.int .i64 (gt H.regs a))) (by kernel_rfl) ?_
 change wpAnyH _ _ _ _ _ _ _ _ (World.drew _)
 generalize W1.drew=x0 at*
 refine wpTd 0 163 (.pointer (some ⟨q,0,none⟩)) rfl S0.out ?_
 simp only[Act.put,zT,zZ,zS]
 refine wpTd 1 164 (.pointer (some ⟨q,0,none⟩)) rfl S0.out ?_
 simp only[Act.put,zT,zZ,zS]
 refine wpTd 2 165 (.pointer (some ⟨n,0,none⟩)) rfl S0.out ?_
 simp only[Act.put,zT,zZ,zS]
 refine wpTd 3 166 (.pointer (some ⟨n,0,none⟩)) rfl S0.out ?_
 simp only[Act.put,zT,zZ,zS]
 refine wpTd 4 167 (.pointer (some ⟨n,1,none⟩)) rfl S0.out ?_
 simp only[Act.put,zT,zZ,zS]
 refine wpTe 5 168 (.int .i64 (d:Int)) rfl (Or.inl ⟨by rfl,fun w' hs=>by have hc:=(hs.1.cell 1 rfl:w'.cell? ⟨n,1,none⟩=some (.int .i64 (d:Int)));go_simp⟩) S0.out ?_
 simp only[Act.put,zT,zZ,zS]
 refine wpTd 6 169 (.pointer (some ⟨q,0,none⟩)) rfl S0.out ?_
 simp only[Act.put,zT,zZ,zS]
 refine wpTd 7 170 (.pointer (some ⟨q,0,none⟩)) rfl S0.out ?_
 simp only[Act.put,zT,zZ,zS]
 refine wpTd 8 171 (.pointer (some ⟨q,0,none⟩)) rfl S0.out ?_
 simp only[Act.put,zT,zZ,zS]
 refine wpTd 9 172 (.pointer (some ⟨q,0,none⟩)) rfl S0.out ?_
 simp only[Act.put,zT,zZ,zS]
 refine wpTe 10 173 (.pointer (some ⟨q,d,none⟩)) rfl (Or.inl ⟨by rfl,fun w' hs=>by have h1:=Id.out;have h2:=Rd.out;go_simp⟩) S0.out ?_
 simp only[Act.put,zT,zZ,zS]
 refine wpTe 11 174 (.int .i64 (gt H.regs d)) rfl (Or.inl ⟨by rfl,fun w' hs=>by have hc:=hs.2.1;go_simp⟩) S0.out ?_
 simp only[Act.put,zT,zZ,zS]
 refine wpTd 12 175 (.pointer (some ⟨q,0,none⟩)) rfl S0.out ?_
 simp only[Act.put,zT,zZ,zS]
 refine wpTd 13 176 (.pointer (some ⟨n,0,none⟩)) rfl S0.out ?_
 simp only[Act.put,zT,zZ,zS]
 refine wpTd 14 177 (.pointer (some ⟨n,0,none⟩)) rfl S0.out ?_
 simp only[Act.put,zT,zZ,zS]
 refine wpTd 15 178 (.pointer (some ⟨n,2,none⟩)) rfl S0.out ?_
 simp only[Act.put,zT,zZ,zS]
 refine wpTe 16 179 (.int .i64 (a:Int)) rfl (Or.inl ⟨by rfl,fun w' hs=>by have hc:=(hs.1.cell 2 rfl:w'.cell? ⟨n,2,none⟩=some (.int .i64 (a:Int)));go_simp⟩) S0.out ?_
 simp only[Act.put,zT,zZ,zS]
 refine wpTd 17 180 (.pointer (some ⟨q,0,none⟩)) rfl S0.out ?_
 simp only[Act.put,zT,zZ,zS]
 refine wpTd 18 181 (.pointer (some ⟨q,0,none⟩)) rfl S0.out ?_
 simp only[Act.put,zT,zZ,zS]
 refine wpTd 19 182 (.pointer (some ⟨q,0,none⟩)) rfl S0.out ?_
 simp only[Act.put,zT,zZ,zS]
 refine wpTd 20 183 (.pointer (some ⟨q,0,none⟩)) rfl S0.out ?_
 simp only[Act.put,zT,zZ,zS]
 refine wpTe 21 184 (.pointer (some ⟨q,a,none⟩)) rfl (Or.inl ⟨by rfl,fun w' hs=>by have h1:=Ia.out;have h2:=Ra.out;go_simp⟩) S0.out ?_
 simp only[Act.put,zT,zZ,zS]
 refine wpTe 22 185 (.int .i64 (gt H.regs a)) rfl (Or.inl ⟨by rfl,fun w' hs=>by have hc:=hs.2.2;go_simp⟩) S0.out ?_
 simp only[Act.put,zT,zZ,zS]
 refine wpTd 23 186 (.bool (gt H.regs d==gt H.regs a)) rfl S0.out ?_
 simp only[Act.put,zT,zZ,zS]
 refine wpTd 24 187 (.int .i64 (offV im)) rfl S0.out ?_
 simp only[Act.put,zT,zZ,zS]
 refine wpTd 25 188 (.int .i64 (addV H.pc 1)) rfl S0.out ?_
 simp only[Act.put,zT,zZ,zS]
 refine zR 26 rfl fun K hK=>?_
 rw[if_pos (by rfl)]
 go_simp
 refine(r_brV R0.out (gt H.regs d==gt H.regs a) (offV im) (addV H.pc 1)).mono ?_
 rintro e x1⟨rfl,b2⟩
 have R1:=hid (R0.out.keep b2)
 have B1:Hid (Below base w x1):=B0.out.trans (bless b2 R0.out.size)
 have S1:Hid (Vb x1 n #[.int .i64 op,.int .i64 (d:Int),.int .i64 (a:Int),.int .i64 im] 159∧x1.cell? ⟨q,d,none⟩=some (.int .i64 (gt H.regs d))∧x1.cell? ⟨q,a,none⟩=some (.int .i64 (gt H.regs a))):=⟨S0.out.1.keep b2,cell_keep b2 S0.out.2.1,cell_keep b2 S0.out.2.2⟩
 clear b2
 refine hK.out _ _ S1.out (fun _=>?_)
 clear hK K
 refine wpTd 27 4 (.int .i64 (brV (gt H.regs d==gt H.regs a) (addV H.pc (offV im)) (addV H.pc 1))) rfl S1.out ?_
 simp only[Act.put,zT,zZ,zS]
 refine wpAnyH_done (by kernel_rfl) ?_ _
 go_wp2_with fail
 go_ret
 exact⟨rfl,R1.out,B1.out⟩
theorem do_ifOther(R:Rw w base q i o pg pc ps g p zs H ca ri X)(op:Int)(d a:Nat)(im:Int)(hd:d<16)(ha:a<16):
  Calls Tryz.prog 75 #[.pointer (some ⟨q,0,none⟩),.iface 161 (.agg #[.int .i64 op,.int .i64 (d:Int),.int .i64 (a:Int),.int .i64 im])] w fun e w'=>e=.returned (.int .i64 (brV (gt H.regs d !=gt H.regs a) (addV H.pc (offV im)) (addV H.pc 1)))∧Rw w' base q i o pg pc ps g p zs H ca ri X∧Below base w w':=by
 have HR:=hid R
 have c16:w.cell? ⟨q,16,none⟩=some (.int .i64 H.pc):=R.v.cell 16 rfl
 have hm:=meth_ifOther (.int .i64 op) (.int .i64 (d:Int)) (.int .i64 (a:Int)) (.int .i64 im)
 have as_reckons:∀w,(Instr.typeAssert (.iface 161 (.agg #[.int .i64 op,.int .i64 (d:Int),.int .i64 (a:Int),.int .i64 im])) 121 153 true).run Tryz.prog w=.ok (.tuple #[.agg #[.int .i64 0,.int .i64 0,.int .i64 0,.int .i64 0],.bool false]) w:=fun w=>by kernel_rfl
 have as_adds:∀w,(Instr.typeAssert (.iface 161 (.agg #[.int .i64 op,.int .i64 (d:Int),.int .i64 (a:Int),.int .i64 im])) 121 155 true).run Tryz.prog w=.ok (.tuple #[.agg #[.int .i64 0,.int .i64 0,.int .i64 0,.int .i64 0],.bool false]) w:=fun w=>by kernel_rfl
 have as_lifts:∀w,(Instr.typeAssert (.iface 161 (.agg #[.int .i64 op,.int .i64 (d:Int),.int .i64 (a:Int),.int .i64 im])) 121 156 true).run Tryz.prog w=.ok (.tuple #[.agg #[.int .i64 0,.int .i64 0,.int .i64 0,.int .i64 0],.bool false]) w:=fun w=>by kernel_rfl
 have as_loads:∀w,(Instr.typeAssert (.iface 161 (.agg #[.int .i64 op,.int .i64 (d:Int),.int .i64 (a:Int),.int .i64 im])) 121 157 true).run Tryz.prog w=.ok (.tuple #[.agg #[.int .i64 0,.int .i64 0,.int .i64 0,.int .i64 0],.bool false]) w:=fun w=>by kernel_rfl
 have as_stores:∀w,(Instr.typeAssert (.iface 161 (.agg #[.int .i64 op,.int .i64 (d:Int),.int .i64 (a:Int),.int .i64 im])) 121 158 true).run Tryz.prog w=.ok (.tuple #[.agg #[.int .i64 0,.int .i64 0,.int .i64 0,.int .i64 0],.bool false]) w:=fun w=>by kernel_rfl
 have as_ifSame:∀w,(Instr.typeAssert (.iface 161 (.agg #[.int .i64 op,.int .i64 (d:Int),.int .i64 (a:Int),.int .i64 im])) 121 159 true).run Tryz.prog w=.ok (.tuple #[.agg #[.int .i64 0,.int .i64 0,.int .i64 0,.int .i64 0],.bool false]) w:=fun w=>by kernel_rfl
 have as_ifOther:∀w,(Instr.typeAssert (.iface 161 (.agg #[.int .i64 op,.int .i64 (d:Int),.int .i64 (a:Int),.int .i64 im])) 121 161 true).run Tryz.prog w=.ok (.tuple #[.agg #[.int .i64 op,.int .i64 (d:Int),.int .i64 (a:Int),.int .i64 im],.bool true]) w:=fun w=>by kernel_rfl
 have Rd:=hid hd
 have Id:Hid ((d:Int)<16):=by show _<_;omega
 have Ra:=hid ha
 have Ia:Hid ((a:Int)<16):=by show _<_;omega
 clear R
 go_enter Tryz.func75,Tryz.ntmps75
 go_wp2_with (go_at_call 22;refine(impl_add _ _ _).mono ?_;rintro e y ⟨rfl,hy⟩;rw[hy];clear hy y)
 refine(i_off _ _ _ im w).mono ?_
 rintro e w1⟨rfl,b1⟩
 clear hm c16
 go_upto_region 23 with fail
 clear as_reckons as_adds as_lifts as_loads as_stores as_ifSame as_ifOther
 generalize hW:w1.alloc (.cells #[.int .i64 op,.int .i64 (d:Int),.int .i64 (a:Int),.int .i64 im] 161)=W1
 obtain⟨n,hn⟩:∃n,w1.heap.size=n:=⟨_,rfl⟩
 rw[hn]
 have VN:Hid (Vb W1 n #[.int .i64 op,.int .i64 (d:Int),.int .i64 (a:Int),.int .i64 im] 161):=by show Vb _ _ _ _;rw[←hW,←hn];exact Vb.new _ _ _
 have bb:Below w.heap.size w W1:=by rw[←hW];exact al b1 _
 have R1:=hid (HR.out.keep bb)
 have B1:Hid (Below base w W1):=bless bb HR.out.size
 have QN:Hid (n≠q∧n≠g∧∀k,o.ownBlock=some k→n≠k):=by
  have hs:w.heap.size≤n:=by rw[←hn];exact b1.size
  obtain⟨bo,_,_,ho,_⟩:=HR.out.ho
  exact⟨by have:=HR.out.v.lt;omega,by have:=(World.ownsRow.lt HR.out.pgs g rfl).2;omega,fun k e=>by have:=(ho.lt k e).2;omega⟩
 clear hW hn b1 bb
 have S0:Hid (Vb W1.drew n #[.int .i64 op,.int .i64 (d:Int),.int .i64 (a:Int),.int .i64 im] 161∧W1.drew.cell? ⟨q,d,none⟩=some (.int .i64 (gt H.regs d))∧W1.drew.cell? ⟨q,a,none⟩=some (.int .i64 (gt H.regs a))):=⟨VN.out,(R1.out.v.cell d (mcr_reg_at _ _ _ _ _ _ _ d Rd.out):W1.cell? ⟨q,d,none⟩=_),(R1.out.v.cell a (mcr_reg_at _ _ _ _ _ _ _ a Ra.out):W1.cell? ⟨q,a,none⟩=_)⟩
 have R0:Hid (Rw W1.drew base q i o pg pc ps g p zs H ca ri X):=R1.out.keep (Below.refl _ _).drew
 have B0:Hid (Below base w W1.drew):=B1.out.drew
 refine wp_region_held (S:=fun w'=>Vb w' n #[.int .i64 op,.int .i64 (d:Int),.int .i64 (a:Int),.int .i64 im] 161∧w'.cell? ⟨q,d,none⟩=some (.int .i64 (gt H.regs d))∧w'.cell? ⟨q,a,none⟩=some (.int .i64 (gt H.regs a))) (by kernel_rfl) ?_
 change wpAnyH _ _ _ _ _ _ _ _ (World.drew _)
 generalize W1.drew=x0 at*
 refine wpTd 0 193 (.pointer (some ⟨q,0,none⟩)) rfl S0.out ?_
 simp only[Act.put,zT,zZ,zS]
 refine wpTd 1 194 (.pointer (some ⟨q,0,none⟩)) rfl S0.out ?_
 simp only[Act.put,zT,zZ,zS]
 refine wpTd 2 195 (.pointer (some ⟨n,0,none⟩)) rfl S0.out ?_
 simp only[Act.put,zT,zZ,zS]
 refine wpTd 3 196 (.pointer (some ⟨n,0,none⟩)) rfl S0.out ?_
 simp only[Act.put,zT,zZ,zS]
 refine wpTd 4 197 (.pointer (some ⟨n,1,none⟩)) rfl S0.out ?_
 simp only[Act.put,zT,zZ,zS]
 refine wpTe 5 198 (.int .i64 (d:Int)) rfl (Or.inl ⟨by rfl,fun w' hs=>by have hc:=(hs.1.cell 1 rfl:w'.cell? ⟨n,1,none⟩=some (.int .i64 (d:Int)));go_simp⟩) S0.out ?_
 simp only[Act.put,zT,zZ,zS]
 refine wpTd 6 199 (.pointer (some ⟨q,0,none⟩)) rfl S0.out ?_
 simp only[Act.put,zT,zZ,zS]
 refine wpTd 7 200 (.pointer (some ⟨q,0,none⟩)) rfl S0.out ?_
 simp only[Act.put,zT,zZ,zS]
 refine wpTd 8 201 (.pointer (some ⟨q,0,none⟩)) rfl S0.out ?_
 simp only[Act.put,zT,zZ,zS]
 refine wpTd 9 202 (.pointer (some ⟨q,0,none⟩)) rfl S0.out ?_
 simp only[Act.put,zT,zZ,zS]
 refine wpTe 10 203 (.pointer (some ⟨q,d,none⟩)) rfl (Or.inl ⟨by rfl,fun w' hs=>by have h1:=Id.out;have h2:=Rd.out;go_simp⟩) S0.out ?_
 simp only[Act.put,zT,zZ,zS]
 refine wpTe 11 204 (.int .i64 (gt H.regs d)) rfl (Or.inl ⟨by rfl,fun w' hs=>by have hc:=hs.2.1;go_simp⟩) S0.out ?_
 simp only[Act.put,zT,zZ,zS]
 refine wpTd 12 205 (.pointer (some ⟨q,0,none⟩)) rfl S0.out ?_
 simp only[Act.put,zT,zZ,zS]
 refine wpTd 13 206 (.pointer (some ⟨n,0,none⟩)) rfl S0.out ?_
 simp only[Act.put,zT,zZ,zS]
 refine wpTd 14 207 (.pointer (some ⟨n,0,none⟩)) rfl S0.out ?_
 simp only[Act.put,zT,zZ,zS]
 refine wpTd 15 208 (.pointer (some ⟨n,2,none⟩)) rfl S0.out ?_
 simp only[Act.put,zT,zZ,zS]
 refine wpTe 16 209 (.int .i64 (a:Int)) rfl (Or.inl ⟨by rfl,fun w' hs=>by have hc:=(hs.1.cell 2 rfl:w'.cell? ⟨n,2,none⟩=some (.int .i64 (a:Int)));go_simp⟩) S0.out ?_
 simp only[Act.put,zT,zZ,zS]
 refine wpTd 17 210 (.pointer (some ⟨q,0,none⟩)) rfl S0.out ?_
 simp only[Act.put,zT,zZ,zS]
 refine wpTd 18 211 (.pointer (some ⟨q,0,none⟩)) rfl S0.out ?_
 simp only[Act.put,zT,zZ,zS]
 refine wpTd 19 212 (.pointer (some ⟨q,0,none⟩)) rfl S0.out ?_
 simp only[Act.put,zT,zZ,zS]
 refine wpTd 20 213 (.pointer (some ⟨q,0,none⟩)) rfl S0.out ?_
 simp only[Act.put,zT,zZ,zS]
 refine wpTe 21 214 (.pointer (some ⟨q,a,none⟩)) rfl (Or.inl ⟨by rfl,fun w' hs=>by have h1:=Ia.out;have h2:=Ra.out;go_simp⟩) S0.out ?_
 simp only[Act.put,zT,zZ,zS]
 refine wpTe 22 215 (.int .i64 (gt H.regs a)) rfl (Or.inl ⟨by rfl,fun w' hs=>by have hc:=hs.2.2;go_simp⟩) S0.out ?_
 simp only[Act.put,zT,zZ,zS]
 refine wpTd 23 216 (.bool (gt H.regs d !=gt H.regs a)) rfl S0.out ?_
 simp only[Act.put,zT,zZ,zS]
 refine wpTd 24 217 (.int .i64 (offV im)) rfl S0.out ?_
 simp only[Act.put,zT,zZ,zS]
 refine wpTd 25 218 (.int .i64 (addV H.pc 1)) rfl S0.out ?_
 simp only[Act.put,zT,zZ,zS]
 refine zR 26 rfl fun K hK=>?_
 rw[if_pos (by rfl)]
 go_simp
 refine(r_brV R0.out (gt H.regs d !=gt H.regs a) (offV im) (addV H.pc 1)).mono ?_
 rintro e x1⟨rfl,b2⟩
 have R1:=hid (R0.out.keep b2)
 have B1:Hid (Below base w x1):=B0.out.trans (bless b2 R0.out.size)
 have S1:Hid (Vb x1 n #[.int .i64 op,.int .i64 (d:Int),.int .i64 (a:Int),.int .i64 im] 161∧x1.cell? ⟨q,d,none⟩=some (.int .i64 (gt H.regs d))∧x1.cell? ⟨q,a,none⟩=some (.int .i64 (gt H.regs a))):=⟨S0.out.1.keep b2,cell_keep b2 S0.out.2.1,cell_keep b2 S0.out.2.2⟩
 clear b2
 refine hK.out _ _ S1.out (fun _=>?_)
 clear hK K
 refine wpTd 27 4 (.int .i64 (brV (gt H.regs d !=gt H.regs a) (addV H.pc (offV im)) (addV H.pc 1))) rfl S1.out ?_
 simp only[Act.put,zT,zZ,zS]
 refine wpAnyH_done (by kernel_rfl) ?_ _
 go_wp2_with fail
 go_ret
 exact⟨rfl,R1.out,B1.out⟩
theorem do_ifLess(R:Rw w base q i o pg pc ps g p zs H ca ri X)(op:Int)(d a:Nat)(im:Int)(hd:d<16)(ha:a<16):
  Calls Tryz.prog 75 #[.pointer (some ⟨q,0,none⟩),.iface 162 (.agg #[.int .i64 op,.int .i64 (d:Int),.int .i64 (a:Int),.int .i64 im])] w fun e w'=>e=.returned (.int .i64 (brV (decide (sgn (gt H.regs d)<sgn (gt H.regs a))) (addV H.pc (offV im)) (addV H.pc 1)))∧Rw w' base q i o pg pc ps g p zs H ca ri X∧Below base w w':=by
 have HR:=hid R
 have c16:w.cell? ⟨q,16,none⟩=some (.int .i64 H.pc):=R.v.cell 16 rfl
 have hm:=meth_ifLess (.int .i64 op) (.int .i64 (d:Int)) (.int .i64 (a:Int)) (.int .i64 im)
 have as_reckons:∀w,(Instr.typeAssert (.iface 162 (.agg #[.int .i64 op,.int .i64 (d:Int),.int .i64 (a:Int),.int .i64 im])) 121 153 true).run Tryz.prog w=.ok (.tuple #[.agg #[.int .i64 0,.int .i64 0,.int .i64 0,.int .i64 0],.bool false]) w:=fun w=>by kernel_rfl
 have as_adds:∀w,(Instr.typeAssert (.iface 162 (.agg #[.int .i64 op,.int .i64 (d:Int),.int .i64 (a:Int),.int .i64 im])) 121 155 true).run Tryz.prog w=.ok (.tuple #[.agg #[.int .i64 0,.int .i64 0,.int .i64 0,.int .i64 0],.bool false]) w:=fun w=>by kernel_rfl
 have as_lifts:∀w,(Instr.typeAssert (.iface 162 (.agg #[.int .i64 op,.int .i64 (d:Int),.int .i64 (a:Int),.int .i64 im])) 121 156 true).run Tryz.prog w=.ok (.tuple #[.agg #[.int .i64 0,.int .i64 0,.int .i64 0,.int .i64 0],.bool false]) w:=fun w=>by kernel_rfl
 have as_loads:∀w,(Instr.typeAssert (.iface 162 (.agg #[.int .i64 op,.int .i64 (d:Int),.int .i64 (a:Int),.int .i64 im])) 121 157 true).run Tryz.prog w=.ok (.tuple #[.agg #[.int .i64 0,.int .i64 0,.int .i64 0,.int .i64 0],.bool false]) w:=fun w=>by kernel_rfl
 have as_stores:∀w,(Instr.typeAssert (.iface 162 (.agg #[.int .i64 op,.int .i64 (d:Int),.int .i64 (a:Int),.int .i64 im])) 121 158 true).run Tryz.prog w=.ok (.tuple #[.agg #[.int .i64 0,.int .i64 0,.int .i64 0,.int .i64 0],.bool false]) w:=fun w=>by kernel_rfl
 have as_ifSame:∀w,(Instr.typeAssert (.iface 162 (.agg #[.int .i64 op,.int .i64 (d:Int),.int .i64 (a:Int),.int .i64 im])) 121 159 true).run Tryz.prog w=.ok (.tuple #[.agg #[.int .i64 0,.int .i64 0,.int .i64 0,.int .i64 0],.bool false]) w:=fun w=>by kernel_rfl
 have as_ifOther:∀w,(Instr.typeAssert (.iface 162 (.agg #[.int .i64 op,.int .i64 (d:Int),.int .i64 (a:Int),.int .i64 im])) 121 161 true).run Tryz.prog w=.ok (.tuple #[.agg #[.int .i64 0,.int .i64 0,.int .i64 0,.int .i64 0],.bool false]) w:=fun w=>by kernel_rfl
 have as_ifLess:∀w,(Instr.typeAssert (.iface 162 (.agg #[.int .i64 op,.int .i64 (d:Int),.int .i64 (a:Int),.int .i64 im])) 121 162 true).run Tryz.prog w=.ok (.tuple #[.agg #[.int .i64 op,.int .i64 (d:Int),.int .i64 (a:Int),.int .i64 im],.bool true]) w:=fun w=>by kernel_rfl
 have Rd:=hid hd
 have Id:Hid ((d:Int)<16):=by show _<_;omega
 have Ra:=hid ha
 have Ia:Hid ((a:Int)<16):=by show _<_;omega
 clear R
 go_enter Tryz.func75,Tryz.ntmps75
 go_wp2_with (go_at_call 22;refine(impl_add _ _ _).mono ?_;rintro e y ⟨rfl,hy⟩;rw[hy];clear hy y)
 refine(i_off _ _ _ im w).mono ?_
 rintro e w1⟨rfl,b1⟩
 clear hm c16
 go_upto_region 26 with fail
 clear as_reckons as_adds as_lifts as_loads as_stores as_ifSame as_ifOther as_ifLess
 generalize hW:w1.alloc (.cells #[.int .i64 op,.int .i64 (d:Int),.int .i64 (a:Int),.int .i64 im] 162)=W1
 obtain⟨n,hn⟩:∃n,w1.heap.size=n:=⟨_,rfl⟩
 rw[hn]
 have VN:Hid (Vb W1 n #[.int .i64 op,.int .i64 (d:Int),.int .i64 (a:Int),.int .i64 im] 162):=by show Vb _ _ _ _;rw[←hW,←hn];exact Vb.new _ _ _
 have bb:Below w.heap.size w W1:=by rw[←hW];exact al b1 _
 have R1:=hid (HR.out.keep bb)
 have B1:Hid (Below base w W1):=bless bb HR.out.size
 have QN:Hid (n≠q∧n≠g∧∀k,o.ownBlock=some k→n≠k):=by
  have hs:w.heap.size≤n:=by rw[←hn];exact b1.size
  obtain⟨bo,_,_,ho,_⟩:=HR.out.ho
  exact⟨by have:=HR.out.v.lt;omega,by have:=(World.ownsRow.lt HR.out.pgs g rfl).2;omega,fun k e=>by have:=(ho.lt k e).2;omega⟩
 clear hW hn b1 bb
 have S0:Hid (Vb W1.drew n #[.int .i64 op,.int .i64 (d:Int),.int .i64 (a:Int),.int .i64 im] 162∧W1.drew.cell? ⟨q,d,none⟩=some (.int .i64 (gt H.regs d))∧W1.drew.cell? ⟨q,a,none⟩=some (.int .i64 (gt H.regs a))):=⟨VN.out,(R1.out.v.cell d (mcr_reg_at _ _ _ _ _ _ _ d Rd.out):W1.cell? ⟨q,d,none⟩=_),(R1.out.v.cell a (mcr_reg_at _ _ _ _ _ _ _ a Ra.out):W1.cell? ⟨q,a,none⟩=_)⟩
 have R0:Hid (Rw W1.drew base q i o pg pc ps g p zs H ca ri X):=R1.out.keep (Below.refl _ _).drew
 have B0:Hid (Below base w W1.drew):=B1.out.drew
 refine wp_region_held (S:=fun w'=>Vb w' n #[.int .i64 op,.int .i64 (d:Int),.int .i64 (a:Int),.int .i64 im] 162∧w'.cell? ⟨q,d,none⟩=some (.int .i64 (gt H.regs d))∧w'.cell? ⟨q,a,none⟩=some (.int .i64 (gt H.regs a))) (by kernel_rfl) ?_
 change wpAnyH _ _ _ _ _ _ _ _ (World.drew _)
 generalize W1.drew=x0 at*
 refine wpTd 0 223 (.pointer (some ⟨q,0,none⟩)) rfl S0.out ?_
 simp only[Act.put,zT,zZ,zS]
 refine wpTd 1 224 (.pointer (some ⟨q,0,none⟩)) rfl S0.out ?_
 simp only[Act.put,zT,zZ,zS]
 refine wpTd 2 225 (.pointer (some ⟨n,0,none⟩)) rfl S0.out ?_
 simp only[Act.put,zT,zZ,zS]
 refine wpTd 3 226 (.pointer (some ⟨n,0,none⟩)) rfl S0.out ?_
 simp only[Act.put,zT,zZ,zS]
 refine wpTd 4 227 (.pointer (some ⟨n,1,none⟩)) rfl S0.out ?_
 simp only[Act.put,zT,zZ,zS]
 refine wpTe 5 228 (.int .i64 (d:Int)) rfl (Or.inl ⟨by rfl,fun w' hs=>by have hc:=(hs.1.cell 1 rfl:w'.cell? ⟨n,1,none⟩=some (.int .i64 (d:Int)));go_simp⟩) S0.out ?_
 simp only[Act.put,zT,zZ,zS]
 refine wpTd 6 229 (.pointer (some ⟨q,0,none⟩)) rfl S0.out ?_
 simp only[Act.put,zT,zZ,zS]
 refine wpTd 7 230 (.pointer (some ⟨q,0,none⟩)) rfl S0.out ?_
 simp only[Act.put,zT,zZ,zS]
 refine wpTd 8 231 (.pointer (some ⟨q,0,none⟩)) rfl S0.out ?_
 simp only[Act.put,zT,zZ,zS]
 refine wpTd 9 232 (.pointer (some ⟨q,0,none⟩)) rfl S0.out ?_
 simp only[Act.put,zT,zZ,zS]
 refine wpTe 10 233 (.pointer (some ⟨q,d,none⟩)) rfl (Or.inl ⟨by rfl,fun w' hs=>by have h1:=Id.out;have h2:=Rd.out;go_simp⟩) S0.out ?_
 simp only[Act.put,zT,zZ,zS]
 refine wpTe 11 234 (.int .i64 (gt H.regs d)) rfl (Or.inl ⟨by rfl,fun w' hs=>by have hc:=hs.2.1;go_simp⟩) S0.out ?_
 simp only[Act.put,zT,zZ,zS]
 refine wpTd 13 236 (.pointer (some ⟨q,0,none⟩)) rfl S0.out ?_
 simp only[Act.put,zT,zZ,zS]
 refine wpTd 14 237 (.pointer (some ⟨n,0,none⟩)) rfl S0.out ?_
 simp only[Act.put,zT,zZ,zS]
 refine wpTd 15 238 (.pointer (some ⟨n,0,none⟩)) rfl S0.out ?_
 simp only[Act.put,zT,zZ,zS]
 refine wpTd 16 239 (.pointer (some ⟨n,2,none⟩)) rfl S0.out ?_
 simp only[Act.put,zT,zZ,zS]
 refine wpTe 17 240 (.int .i64 (a:Int)) rfl (Or.inl ⟨by rfl,fun w' hs=>by have hc:=(hs.1.cell 2 rfl:w'.cell? ⟨n,2,none⟩=some (.int .i64 (a:Int)));go_simp⟩) S0.out ?_
 simp only[Act.put,zT,zZ,zS]
 refine wpTd 18 241 (.pointer (some ⟨q,0,none⟩)) rfl S0.out ?_
 simp only[Act.put,zT,zZ,zS]
 refine wpTd 19 242 (.pointer (some ⟨q,0,none⟩)) rfl S0.out ?_
 simp only[Act.put,zT,zZ,zS]
 refine wpTd 20 243 (.pointer (some ⟨q,0,none⟩)) rfl S0.out ?_
 simp only[Act.put,zT,zZ,zS]
 refine wpTd 21 244 (.pointer (some ⟨q,0,none⟩)) rfl S0.out ?_
 simp only[Act.put,zT,zZ,zS]
 refine wpTe 22 245 (.pointer (some ⟨q,a,none⟩)) rfl (Or.inl ⟨by rfl,fun w' hs=>by have h1:=Ia.out;have h2:=Ra.out;go_simp⟩) S0.out ?_
 simp only[Act.put,zT,zZ,zS]
 refine wpTe 23 246 (.int .i64 (gt H.regs a)) rfl (Or.inl ⟨by rfl,fun w' hs=>by have hc:=hs.2.2;go_simp⟩) S0.out ?_
 simp only[Act.put,zT,zZ,zS]
 refine wpTd 26 249 (.int .i64 (offV im)) rfl S0.out ?_
 simp only[Act.put,zT,zZ,zS]
 refine wpTd 27 250 (.int .i64 (addV H.pc 1)) rfl S0.out ?_
 simp only[Act.put,zT,zZ,zS]
 refine zR 12 rfl fun K hK=>?_
 rw[if_pos (by rfl)]
 go_simp
 refine(impl_signed _ _).mono ?_
 rintro e y⟨rfl,hy⟩
 rw[hy]
 clear hy y
 refine hK.out _ _ S0.out (fun _=>?_)
 clear hK K
 refine zR 24 rfl fun K hK=>?_
 rw[if_pos (by rfl)]
 go_simp
 refine(impl_signed _ _).mono ?_
 rintro e y⟨rfl,hy⟩
 rw[hy]
 clear hy y
 refine hK.out _ _ S0.out (fun _=>?_)
 clear hK K
 refine wpTd 25 248 (.bool (decide (sgn (gt H.regs d)<sgn (gt H.regs a)))) rfl S0.out ?_
 simp only[Act.put,zT,zZ,zS]
 refine zR 28 rfl fun K hK=>?_
 rw[if_pos (by rfl)]
 go_simp
 refine(r_brV R0.out (decide (sgn (gt H.regs d)<sgn (gt H.regs a))) (offV im) (addV H.pc 1)).mono ?_
 rintro e x1⟨rfl,b2⟩
 have R1:=hid (R0.out.keep b2)
 have B1:Hid (Below base w x1):=B0.out.trans (bless b2 R0.out.size)
 have S1:Hid (Vb x1 n #[.int .i64 op,.int .i64 (d:Int),.int .i64 (a:Int),.int .i64 im] 162∧x1.cell? ⟨q,d,none⟩=some (.int .i64 (gt H.regs d))∧x1.cell? ⟨q,a,none⟩=some (.int .i64 (gt H.regs a))):=⟨S0.out.1.keep b2,cell_keep b2 S0.out.2.1,cell_keep b2 S0.out.2.2⟩
 clear b2
 refine hK.out _ _ S1.out (fun _=>?_)
 clear hK K
 refine wpTd 29 4 (.int .i64 (brV (decide (sgn (gt H.regs d)<sgn (gt H.regs a))) (addV H.pc (offV im)) (addV H.pc 1))) rfl S1.out ?_
 simp only[Act.put,zT,zZ,zS]
 refine wpAnyH_done (by kernel_rfl) ?_ _
 go_wp2_with fail
 go_ret
 exact⟨rfl,R1.out,B1.out⟩
theorem do_jumpsBy(R:Rw w base q i o pg pc ps g p zs H ca ri X)(op:Int)(d a:Nat)(im:Int)(hd:d<16)(ha:a<16):
  Calls Tryz.prog 75 #[.pointer (some ⟨q,0,none⟩),.iface 164 (.agg #[.int .i64 op,.int .i64 (d:Int),.int .i64 (a:Int),.int .i64 im])] w fun e w'=>e=.returned (.int .i64 (addV (gt H.regs a) (offV im)))∧Rw w' base q i o pg pc ps g p zs (putV H d (addV H.pc 1)) ca ri X∧Below base w w':=by
 have HR:=hid R
 have c16:w.cell? ⟨q,16,none⟩=some (.int .i64 H.pc):=R.v.cell 16 rfl
 have hm:=meth_jumpsBy (.int .i64 op) (.int .i64 (d:Int)) (.int .i64 (a:Int)) (.int .i64 im)
 have as_reckons:∀w,(Instr.typeAssert (.iface 164 (.agg #[.int .i64 op,.int .i64 (d:Int),.int .i64 (a:Int),.int .i64 im])) 121 153 true).run Tryz.prog w=.ok (.tuple #[.agg #[.int .i64 0,.int .i64 0,.int .i64 0,.int .i64 0],.bool false]) w:=fun w=>by kernel_rfl
 have as_adds:∀w,(Instr.typeAssert (.iface 164 (.agg #[.int .i64 op,.int .i64 (d:Int),.int .i64 (a:Int),.int .i64 im])) 121 155 true).run Tryz.prog w=.ok (.tuple #[.agg #[.int .i64 0,.int .i64 0,.int .i64 0,.int .i64 0],.bool false]) w:=fun w=>by kernel_rfl
 have as_lifts:∀w,(Instr.typeAssert (.iface 164 (.agg #[.int .i64 op,.int .i64 (d:Int),.int .i64 (a:Int),.int .i64 im])) 121 156 true).run Tryz.prog w=.ok (.tuple #[.agg #[.int .i64 0,.int .i64 0,.int .i64 0,.int .i64 0],.bool false]) w:=fun w=>by kernel_rfl
 have as_loads:∀w,(Instr.typeAssert (.iface 164 (.agg #[.int .i64 op,.int .i64 (d:Int),.int .i64 (a:Int),.int .i64 im])) 121 157 true).run Tryz.prog w=.ok (.tuple #[.agg #[.int .i64 0,.int .i64 0,.int .i64 0,.int .i64 0],.bool false]) w:=fun w=>by kernel_rfl
 have as_stores:∀w,(Instr.typeAssert (.iface 164 (.agg #[.int .i64 op,.int .i64 (d:Int),.int .i64 (a:Int),.int .i64 im])) 121 158 true).run Tryz.prog w=.ok (.tuple #[.agg #[.int .i64 0,.int .i64 0,.int .i64 0,.int .i64 0],.bool false]) w:=fun w=>by kernel_rfl
 have as_ifSame:∀w,(Instr.typeAssert (.iface 164 (.agg #[.int .i64 op,.int .i64 (d:Int),.int .i64 (a:Int),.int .i64 im])) 121 159 true).run Tryz.prog w=.ok (.tuple #[.agg #[.int .i64 0,.int .i64 0,.int .i64 0,.int .i64 0],.bool false]) w:=fun w=>by kernel_rfl
 have as_ifOther:∀w,(Instr.typeAssert (.iface 164 (.agg #[.int .i64 op,.int .i64 (d:Int),.int .i64 (a:Int),.int .i64 im])) 121 161 true).run Tryz.prog w=.ok (.tuple #[.agg #[.int .i64 0,.int .i64 0,.int .i64 0,.int .i64 0],.bool false]) w:=fun w=>by kernel_rfl
 have as_ifLess:∀w,(Instr.typeAssert (.iface 164 (.agg #[.int .i64 op,.int .i64 (d:Int),.int .i64 (a:Int),.int .i64 im])) 121 162 true).run Tryz.prog w=.ok (.tuple #[.agg #[.int .i64 0,.int .i64 0,.int .i64 0,.int .i64 0],.bool false]) w:=fun w=>by kernel_rfl
 have as_jumps:∀w,(Instr.typeAssert (.iface 164 (.agg #[.int .i64 op,.int .i64 (d:Int),.int .i64 (a:Int),.int .i64 im])) 121 163 true).run Tryz.prog w=.ok (.tuple #[.agg #[.int .i64 0,.int .i64 0,.int .i64 0,.int .i64 0],.bool false]) w:=fun w=>by kernel_rfl
 have as_jumpsBy:∀w,(Instr.typeAssert (.iface 164 (.agg #[.int .i64 op,.int .i64 (d:Int),.int .i64 (a:Int),.int .i64 im])) 121 164 true).run Tryz.prog w=.ok (.tuple #[.agg #[.int .i64 op,.int .i64 (d:Int),.int .i64 (a:Int),.int .i64 im],.bool true]) w:=fun w=>by kernel_rfl
 have Rd:=hid hd
 have Id:Hid ((d:Int)<16):=by show _<_;omega
 have Ra:=hid ha
 have Ia:Hid ((a:Int)<16):=by show _<_;omega
 clear R
 go_enter Tryz.func75,Tryz.ntmps75
 go_wp2_with (go_at_call 22;refine(impl_add _ _ _).mono ?_;rintro e y ⟨rfl,hy⟩;rw[hy];clear hy y)
 refine(i_off _ _ _ im w).mono ?_
 rintro e w1⟨rfl,b1⟩
 clear hm c16
 go_upto_region 33 with fail
 clear as_reckons as_adds as_lifts as_loads as_stores as_ifSame as_ifOther as_ifLess as_jumps as_jumpsBy
 generalize hW:w1.alloc (.cells #[.int .i64 op,.int .i64 (d:Int),.int .i64 (a:Int),.int .i64 im] 164)=W1
 obtain⟨n,hn⟩:∃n,w1.heap.size=n:=⟨_,rfl⟩
 rw[hn]
 have VN:Hid (Vb W1 n #[.int .i64 op,.int .i64 (d:Int),.int .i64 (a:Int),.int .i64 im] 164):=by show Vb _ _ _ _;rw[←hW,←hn];exact Vb.new _ _ _
 have bb:Below w.heap.size w W1:=by rw[←hW];exact al b1 _
 have R1:=hid (HR.out.keep bb)
 have B1:Hid (Below base w W1):=bless bb HR.out.size
 have QN:Hid (n≠q∧n≠g∧∀k,o.ownBlock=some k→n≠k):=by
  have hs:w.heap.size≤n:=by rw[←hn];exact b1.size
  obtain⟨bo,_,_,ho,_⟩:=HR.out.ho
  exact⟨by have:=HR.out.v.lt;omega,by have:=(World.ownsRow.lt HR.out.pgs g rfl).2;omega,fun k e=>by have:=(ho.lt k e).2;omega⟩
 clear hW hn b1 bb
 have S0:Hid (Vb W1.drew n #[.int .i64 op,.int .i64 (d:Int),.int .i64 (a:Int),.int .i64 im] 164∧W1.drew.cell? ⟨q,a,none⟩=some (.int .i64 (gt H.regs a))):=⟨VN.out,(R1.out.v.cell a (mcr_reg_at _ _ _ _ _ _ _ a Ra.out):W1.cell? ⟨q,a,none⟩=_)⟩
 have R0:Hid (Rw W1.drew base q i o pg pc ps g p zs H ca ri X):=R1.out.keep (Below.refl _ _).drew
 have B0:Hid (Below base w W1.drew):=B1.out.drew
 refine wp_region_held (S:=fun w'=>Vb w' n #[.int .i64 op,.int .i64 (d:Int),.int .i64 (a:Int),.int .i64 im] 164∧w'.cell? ⟨q,a,none⟩=some (.int .i64 (gt H.regs a))) (by kernel_rfl) ?_
 change wpAnyH _ _ _ _ _ _ _ _ (World.drew _)
 generalize W1.drew=x0 at*
 refine wpTd 0 273 (.pointer (some ⟨q,0,none⟩)) rfl S0.out ?_
 simp only[Act.put,zT,zZ,zS]
 refine wpTd 1 274 (.pointer (some ⟨n,0,none⟩)) rfl S0.out ?_
 simp only[Act.put,zT,zZ,zS]
 refine wpTd 2 275 (.pointer (some ⟨n,0,none⟩)) rfl S0.out ?_
 simp only[Act.put,zT,zZ,zS]
 refine wpTd 3 276 (.pointer (some ⟨n,2,none⟩)) rfl S0.out ?_
 simp only[Act.put,zT,zZ,zS]
 refine wpTe 4 277 (.int .i64 (a:Int)) rfl (Or.inl ⟨by rfl,fun w' hs=>by have hc:=(hs.1.cell 2 rfl:w'.cell? ⟨n,2,none⟩=some (.int .i64 (a:Int)));go_simp⟩) S0.out ?_
 simp only[Act.put,zT,zZ,zS]
 refine wpTd 5 278 (.pointer (some ⟨q,0,none⟩)) rfl S0.out ?_
 simp only[Act.put,zT,zZ,zS]
 refine wpTd 6 279 (.pointer (some ⟨q,0,none⟩)) rfl S0.out ?_
 simp only[Act.put,zT,zZ,zS]
 refine wpTd 7 280 (.pointer (some ⟨q,0,none⟩)) rfl S0.out ?_
 simp only[Act.put,zT,zZ,zS]
 refine wpTd 8 281 (.pointer (some ⟨q,0,none⟩)) rfl S0.out ?_
 simp only[Act.put,zT,zZ,zS]
 refine wpTe 9 282 (.pointer (some ⟨q,a,none⟩)) rfl (Or.inl ⟨by rfl,fun w' hs=>by have h1:=Ia.out;have h2:=Ra.out;go_simp⟩) S0.out ?_
 simp only[Act.put,zT,zZ,zS]
 refine wpTe 10 283 (.int .i64 (gt H.regs a)) rfl (Or.inl ⟨by rfl,fun w' hs=>by have hc:=hs.2;go_simp⟩) S0.out ?_
 simp only[Act.put,zT,zZ,zS]
 refine wpTd 11 284 (.int .i64 (offV im)) rfl S0.out ?_
 simp only[Act.put,zT,zZ,zS]
 refine zR 12 rfl fun K hK=>?_
 rw[if_pos (by rfl)]
 go_simp
 refine(impl_add _ _ _).mono ?_
 rintro e y⟨rfl,hy⟩
 rw[hy]
 clear hy y
 refine hK.out _ _ S0.out (fun _=>?_)
 clear hK K
 refine wpTd 13 17 (.int .i64 (addV (gt H.regs a) (offV im))) rfl S0.out ?_
 simp only[Act.put,zT,zZ,zS]
 refine wpAnyH_done (by kernel_rfl) ?_ _
 have n1:x0.cell? ⟨n,1,none⟩=some (.int .i64 (d:Int)):=S0.out.1.cell 1 rfl
 go_wp2_with fail
 refine(r_put R0.out (d:Int) (addV H.pc 1) (by omega) (by have:=Rd.out;omega) (add_word _ _)).mono ?_
 rintro e w2⟨rfl,⟨r2,b2⟩,m2⟩
 have R2:=hid r2
 have B2:Hid (Below base w w2):=B0.out.trans b2
 clear r2 b2 m2 n1
 go_wp2_with fail
 go_ret
 exact⟨rfl,R2.out,B2.out⟩
end Go.Proofs.YtaefollmeoepkaaGreatDoor
