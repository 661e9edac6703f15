import Derived.Test.YtaefollmeoepkaaGreatDoorQ38
namespace Go.Proofs.YtaefollmeoepkaaGreatDoor
set_option maxRecDepth 20000
set_option maxHeartbeats 16000000
open Go.RowKit
set_option linter.unusedVariables false
theorem word_at{zs:List Int}(h:zs.all isW=true)(j:Nat):isW (zs.getD j 0)=true:=isW_iff.2 (all_at h j)
theorem dr_word{H:Ht}(K:Hok H)(k:Int):isW (drV H k)=true:=by
 unfold drV
 repeat' split
 ·have:=all_at K.iw 0
  rw[isW_iff]
  cases h:H.inn with
  |nil=>simp
  |cons z zs=>rw[h]at this;simpa using this
 ·rw[isW_iff];have:=K.d0;have:=K.d9;omega
 ·exact word_at K.cw 9
 ·rw[isW_iff];unfold pendV;repeat' split
  all_goals omega
 ·rw[isW_iff];have:=K.i40;omega
 ·rfl
theorem load_word{H:Ht}{ps:List (Int×Int)}{zs:List Int}{p:Nat}{x:Int}(s:Sn H ps zs p)(h:plC H ps zs x 1=0):isW (loadW H ps zs x)=true:=by
 unfold loadW
 split
 ·exact word_at s.zw _
 ·exact dr_word s.hok _
theorem store_regs(H:Ht)(ps:List (Int×Int))(zs:List Int)(x y:Int):(storeH H ps zs x y).regs=H.regs:=by
 unfold storeH dwW outW
 repeat' split
 all_goals rfl
theorem alu_word(op x y:Int):isW (aluV op x y)=true:=by
 rw[isW_iff]
 unfold aluV
 split
 ·unfold addV;omega
 split
 ·omega
 split
 ·unfold mulV;omega
 split
 ·unfold divV;split<;>omega
 split
 ·unfold remV;split<;>omega
 split
 ·rw[bitV_and]
  have:=Nat.and_lt_two_pow (x%4294967296).toNat (toNat_lt y)
  omega
 split
 ·rw[bitV_or]
  have:=Nat.or_lt_two_pow (toNat_lt x) (toNat_lt y)
  omega
 split
 ·rw[bitV_xor]
  have:=Nat.xor_lt_two_pow (toNat_lt x) (toNat_lt y)
  omega
 split
 ·unfold shlV;omega
 split
 ·unfold shrV
  have h0:0≤x%4294967296:=by omega
  have h1:0≤x%4294967296/2 ^ (y%32).toNat:=Int.ediv_nonneg h0 (Int.le_of_lt (Int.pow_pos (by decide)))
  have h2:x%4294967296/2 ^ (y%32).toNat≤x%4294967296:=Int.ediv_le_self _ h0
  generalize x%4294967296/2 ^ (y%32).toNat=z at*
  unfold wrap64
  omega
 ·split<;>omega
variable{w:World}{base q:Nat}{i o:Value}{pg pc:Nat}{ps:List (Int×Int)}{g p:Nat}{zs:List Int}{X:Nat→Prop}{H:Ht}{ca ri:Int}
theorem do_loadsOk(R:Rw w base q i o pg pc ps g p zs H ca ri X)(op:Int)(d a:Nat)(im:Int)(hd:d<16)(ha:a<16)(hz:plC H ps zs (addV (gt H.regs a) (offV im)) 1=0):
  Calls Tryz.prog 75 #[.pointer (some ⟨q,0,none⟩),.iface 157 (.agg #[.int .i64 op,.int .i64 (d:Int),.int .i64 (a:Int),.int .i64 im])] w fun e w'=>e=.returned (.int .i64 (addV H.pc 1))∧∃i',Rw w' base q i' o pg pc ps g p zs (putV (loadH H ps zs (addV (gt H.regs a) (offV im))) d (loadW H ps zs (addV (gt H.regs a) (offV im)))) ca ri X∧Below base w w':=by
 have HR:=hid R
 have c16:w.cell? ⟨q,16,none⟩=some (.int .i64 H.pc):=R.v.cell 16 rfl
 have hm:=meth_loads (.int .i64 op) (.int .i64 (d:Int)) (.int .i64 (a:Int)) (.int .i64 im)
 have as_reckons:∀w,(Instr.typeAssert (.iface 157 (.agg #[.int .i64 op,.int .i64 (d:Int),.int .i64 (a:Int),.int .i64 im])) 121 153 true).run Tryz.prog w=.ok (.tuple #[.agg #[.int .i64 0,.int .i64 0,.int .i64 0,.int .i64 0],.bool false]) w:=fun w=>by kernel_rfl
 have as_adds:∀w,(Instr.typeAssert (.iface 157 (.agg #[.int .i64 op,.int .i64 (d:Int),.int .i64 (a:Int),.int .i64 im])) 121 155 true).run Tryz.prog w=.ok (.tuple #[.agg #[.int .i64 0,.int .i64 0,.int .i64 0,.int .i64 0],.bool false]) w:=fun w=>by kernel_rfl
 have as_lifts:∀w,(Instr.typeAssert (.iface 157 (.agg #[.int .i64 op,.int .i64 (d:Int),.int .i64 (a:Int),.int .i64 im])) 121 156 true).run Tryz.prog w=.ok (.tuple #[.agg #[.int .i64 0,.int .i64 0,.int .i64 0,.int .i64 0],.bool false]) w:=fun w=>by kernel_rfl
 have as_loads:∀w,(Instr.typeAssert (.iface 157 (.agg #[.int .i64 op,.int .i64 (d:Int),.int .i64 (a:Int),.int .i64 im])) 121 157 true).run Tryz.prog w=.ok (.tuple #[.agg #[.int .i64 op,.int .i64 (d:Int),.int .i64 (a:Int),.int .i64 im],.bool true]) w:=fun w=>by kernel_rfl
 have Rd:=hid hd
 have Id:Hid ((d:Int)<16):=by show _<_;omega
 have Ra:=hid ha
 have Ia:Hid ((a:Int)<16):=by show _<_;omega
 have HZ:=hid hz
 have PW:Hid (isW (loadW H ps zs (addV (gt H.regs a) (offV im)))=true):=load_word R.sn hz
 clear R
 go_enter Tryz.func75,Tryz.ntmps75
 go_wp2_with (go_at_call 22;refine(impl_add _ _ _).mono ?_;rintro e y ⟨rfl,hy⟩;rw[hy];clear hy y)
 refine(i_off _ _ _ im w).mono ?_
 rintro e w1⟨rfl,b1⟩
 clear hm c16
 go_upto_region 14 with fail
 clear as_reckons as_adds as_lifts as_loads
 generalize hW:w1.alloc (.cells #[.int .i64 op,.int .i64 (d:Int),.int .i64 (a:Int),.int .i64 im] 157)=W1
 obtain⟨n,hn⟩:∃n,w1.heap.size=n:=⟨_,rfl⟩
 rw[hn]
 have VN:Hid (Vb W1 n #[.int .i64 op,.int .i64 (d:Int),.int .i64 (a:Int),.int .i64 im] 157):=by show Vb _ _ _ _;rw[←hW,←hn];exact Vb.new _ _ _
 have bb:Below w.heap.size w W1:=by rw[←hW];exact al b1 _
 have R1:=hid (HR.out.keep bb)
 have B1:Hid (Below base w W1):=bless bb HR.out.size
 have QN:Hid (n≠q∧n≠g∧∀k,o.ownBlock=some k→n≠k):=by
  have hs:w.heap.size≤n:=by rw[←hn];exact b1.size
  obtain⟨bo,_,_,ho,_⟩:=HR.out.ho
  exact⟨by have:=HR.out.v.lt;omega,by have:=(World.ownsRow.lt HR.out.pgs g rfl).2;omega,fun k e=>by have:=(ho.lt k e).2;omega⟩
 clear hW hn b1 bb
 have S0:Hid (Vb W1.drew n #[.int .i64 op,.int .i64 (d:Int),.int .i64 (a:Int),.int .i64 im] 157):=VN.out
 have R0:Hid (Rw W1.drew base q i o pg pc ps g p zs H ca ri X):=R1.out.keep (Below.refl _ _).drew
 have B0:Hid (Below base w W1.drew):=B1.out.drew
 refine wp_region_held (S:=fun w'=>Vb w' n #[.int .i64 op,.int .i64 (d:Int),.int .i64 (a:Int),.int .i64 im] 157) (by kernel_rfl) ?_
 change wpAnyH _ _ _ _ _ _ _ _ (World.drew _)
 generalize W1.drew=x0 at*
 refine wpTd 0 110 (.pointer (some ⟨q,0,none⟩)) rfl S0.out ?_
 simp only[Act.put,zT,zZ,zS]
 refine wpTd 1 111 (.pointer (some ⟨n,0,none⟩)) rfl S0.out ?_
 simp only[Act.put,zT,zZ,zS]
 refine wpTd 2 112 (.pointer (some ⟨n,0,none⟩)) rfl S0.out ?_
 simp only[Act.put,zT,zZ,zS]
 refine wpTd 3 113 (.pointer (some ⟨n,1,none⟩)) rfl S0.out ?_
 simp only[Act.put,zT,zZ,zS]
 refine wpTe 4 114 (.int .i64 (d:Int)) rfl (Or.inl ⟨by rfl,fun w' hs=>by have hc:=(hs.cell 1 rfl:w'.cell? ⟨n,1,none⟩=some (.int .i64 (d:Int)));go_simp⟩) S0.out ?_
 simp only[Act.put,zT,zZ,zS]
 refine wpTd 5 115 (.pointer (some ⟨q,0,none⟩)) rfl S0.out ?_
 simp only[Act.put,zT,zZ,zS]
 refine wpTd 6 116 (.pointer (some ⟨q,0,none⟩)) rfl S0.out ?_
 simp only[Act.put,zT,zZ,zS]
 refine wpTd 7 117 (.pointer (some ⟨n,0,none⟩)) rfl S0.out ?_
 simp only[Act.put,zT,zZ,zS]
 refine wpTd 8 118 (.pointer (some ⟨n,0,none⟩)) rfl S0.out ?_
 simp only[Act.put,zT,zZ,zS]
 refine wpTd 9 119 (.pointer (some ⟨n,2,none⟩)) rfl S0.out ?_
 simp only[Act.put,zT,zZ,zS]
 refine wpTe 10 120 (.int .i64 (a:Int)) rfl (Or.inl ⟨by rfl,fun w' hs=>by have hc:=(hs.cell 2 rfl:w'.cell? ⟨n,2,none⟩=some (.int .i64 (a:Int)));go_simp⟩) S0.out ?_
 simp only[Act.put,zT,zZ,zS]
 refine wpTd 11 121 (.pointer (some ⟨q,0,none⟩)) rfl S0.out ?_
 simp only[Act.put,zT,zZ,zS]
 refine wpTd 12 122 (.pointer (some ⟨q,0,none⟩)) rfl S0.out ?_
 simp only[Act.put,zT,zZ,zS]
 refine wpTd 13 123 (.pointer (some ⟨q,0,none⟩)) rfl S0.out ?_
 simp only[Act.put,zT,zZ,zS]
 refine wpTd 14 124 (.pointer (some ⟨q,0,none⟩)) rfl S0.out ?_
 simp only[Act.put,zT,zZ,zS]
 refine wpTe 15 125 (.pointer (some ⟨q,a,none⟩)) rfl (Or.inl ⟨by rfl,fun w' hs=>by have h1:=Ia.out;have h2:=Ra.out;go_simp⟩) S0.out ?_
 simp only[Act.put,zT,zZ,zS]
 refine wpTd 17 127 (.int .i64 (offV im)) rfl S0.out ?_
 simp only[Act.put,zT,zZ,zS]
 refine zR 16 rfl fun K hK=>?_
 rw[if_pos (by rfl)]
 have cl:x0.cell? ⟨q,a,none⟩=some (.int .i64 (gt H.regs a)):=R0.out.v.cell a (mcr_reg_at _ _ _ _ _ _ _ a Ra.out)
 go_simp
 refine hK.out _ _ S0.out (fun _=>?_)
 clear hK K cl
 refine zR 18 rfl fun K hK=>?_
 rw[if_pos (by rfl)]
 go_simp
 refine(impl_add _ _ _).mono ?_
 rintro e y⟨rfl,hy⟩
 rw[hy]
 clear hy y
 refine hK.out _ _ S0.out (fun _=>?_)
 clear hK K
 refine zR 19 rfl fun K hK=>?_
 rw[if_pos (by rfl)]
 go_simp
 refine(r_loadOk R0.out (addV (gt H.regs a) (offV im)) HZ.out).mono ?_
 rintro e x1⟨rfl,i2,r2,b2,m2⟩
 have R1:=hid r2
 have B1:Hid (Below base w x1):=B0.out.trans b2
 have S1:Hid (Vb x1 n #[.int .i64 op,.int .i64 (d:Int),.int .i64 (a:Int),.int .i64 im] 157):=m2.vb S0.out fun e=>QN.out.1 e
 clear r2 b2 m2
 refine hK.out _ _ S1.out (fun _=>?_)
 clear hK K
 refine zR 20 rfl fun K hK=>?_
 rw[if_pos (by rfl)]
 go_simp
 refine(r_put R1.out (d:Int) (loadW H ps zs (addV (gt H.regs a) (offV im))) (by omega) (by have:=Rd.out;omega) PW.out).mono ?_
 rintro e x2⟨rfl,⟨r2,b2⟩,m2⟩
 have R2:=hid r2
 have B2:Hid (Below base w x2):=B1.out.trans b2
 have S2:Hid (Vb x2 n #[.int .i64 op,.int .i64 (d:Int),.int .i64 (a:Int),.int .i64 im] 157):=m2.vb S1.out fun e=>QN.out.1 e
 clear r2 b2 m2
 refine hK.out _ _ S2.out (fun _=>?_)
 clear hK K
 refine wpAnyH_done (by kernel_rfl) ?_ _
 go_wp2_with fail
 go_ret
 exact⟨rfl,i2,R2.out,B2.out⟩
theorem do_loadsNo(R:Rw w base q i o pg pc ps g p zs H ca ri X)(op:Int)(d a:Nat)(im:Int)(ha:a<16)(hz:¬plC H ps zs (addV (gt H.regs a) (offV im)) 1=0):
  Calls Tryz.prog 75 #[.pointer (some ⟨q,0,none⟩),.iface 157 (.agg #[.int .i64 op,.int .i64 (d:Int),.int .i64 (a:Int),.int .i64 im])] w fun e w'=>e=pan 3 (addV (gt H.regs a) (offV im))∧Rw w' base q i o pg pc ps g p zs H ca ri X∧Below base w w':=by
 have HR:=hid R
 have c16:w.cell? ⟨q,16,none⟩=some (.int .i64 H.pc):=R.v.cell 16 rfl
 have hm:=meth_loads (.int .i64 op) (.int .i64 (d:Int)) (.int .i64 (a:Int)) (.int .i64 im)
 have as_reckons:∀w,(Instr.typeAssert (.iface 157 (.agg #[.int .i64 op,.int .i64 (d:Int),.int .i64 (a:Int),.int .i64 im])) 121 153 true).run Tryz.prog w=.ok (.tuple #[.agg #[.int .i64 0,.int .i64 0,.int .i64 0,.int .i64 0],.bool false]) w:=fun w=>by kernel_rfl
 have as_adds:∀w,(Instr.typeAssert (.iface 157 (.agg #[.int .i64 op,.int .i64 (d:Int),.int .i64 (a:Int),.int .i64 im])) 121 155 true).run Tryz.prog w=.ok (.tuple #[.agg #[.int .i64 0,.int .i64 0,.int .i64 0,.int .i64 0],.bool false]) w:=fun w=>by kernel_rfl
 have as_lifts:∀w,(Instr.typeAssert (.iface 157 (.agg #[.int .i64 op,.int .i64 (d:Int),.int .i64 (a:Int),.int .i64 im])) 121 156 true).run Tryz.prog w=.ok (.tuple #[.agg #[.int .i64 0,.int .i64 0,.int .i64 0,.int .i64 0],.bool false]) w:=fun w=>by kernel_rfl
 have as_loads:∀w,(Instr.typeAssert (.iface 157 (.agg #[.int .i64 op,.int .i64 (d:Int),.int .i64 (a:Int),.int .i64 im])) 121 157 true).run Tryz.prog w=.ok (.tuple #[.agg #[.int .i64 op,.int .i64 (d:Int),.int .i64 (a:Int),.int .i64 im],.bool true]) w:=fun w=>by kernel_rfl
 have Ra:=hid ha
 have Ia:Hid ((a:Int)<16):=by show _<_;omega
 have HZ:=hid hz
 clear R
 go_enter Tryz.func75,Tryz.ntmps75
 go_wp2_with (go_at_call 22;refine(impl_add _ _ _).mono ?_;rintro e y ⟨rfl,hy⟩;rw[hy];clear hy y)
 refine(i_off _ _ _ im w).mono ?_
 rintro e w1⟨rfl,b1⟩
 clear hm c16
 go_upto_region 14 with fail
 clear as_reckons as_adds as_lifts as_loads
 generalize hW:w1.alloc (.cells #[.int .i64 op,.int .i64 (d:Int),.int .i64 (a:Int),.int .i64 im] 157)=W1
 obtain⟨n,hn⟩:∃n,w1.heap.size=n:=⟨_,rfl⟩
 rw[hn]
 have VN:Hid (Vb W1 n #[.int .i64 op,.int .i64 (d:Int),.int .i64 (a:Int),.int .i64 im] 157):=by show Vb _ _ _ _;rw[←hW,←hn];exact Vb.new _ _ _
 have bb:Below w.heap.size w W1:=by rw[←hW];exact al b1 _
 have R1:=hid (HR.out.keep bb)
 have B1:Hid (Below base w W1):=bless bb HR.out.size
 have QN:Hid (n≠q∧n≠g∧∀k,o.ownBlock=some k→n≠k):=by
  have hs:w.heap.size≤n:=by rw[←hn];exact b1.size
  obtain⟨bo,_,_,ho,_⟩:=HR.out.ho
  exact⟨by have:=HR.out.v.lt;omega,by have:=(World.ownsRow.lt HR.out.pgs g rfl).2;omega,fun k e=>by have:=(ho.lt k e).2;omega⟩
 clear hW hn b1 bb
 have S0:Hid (Vb W1.drew n #[.int .i64 op,.int .i64 (d:Int),.int .i64 (a:Int),.int .i64 im] 157):=VN.out
 have R0:Hid (Rw W1.drew base q i o pg pc ps g p zs H ca ri X):=R1.out.keep (Below.refl _ _).drew
 have B0:Hid (Below base w W1.drew):=B1.out.drew
 refine wp_region_held (S:=fun w'=>Vb w' n #[.int .i64 op,.int .i64 (d:Int),.int .i64 (a:Int),.int .i64 im] 157) (by kernel_rfl) ?_
 change wpAnyH _ _ _ _ _ _ _ _ (World.drew _)
 generalize W1.drew=x0 at*
 refine wpTd 0 110 (.pointer (some ⟨q,0,none⟩)) rfl S0.out ?_
 simp only[Act.put,zT,zZ,zS]
 refine wpTd 1 111 (.pointer (some ⟨n,0,none⟩)) rfl S0.out ?_
 simp only[Act.put,zT,zZ,zS]
 refine wpTd 2 112 (.pointer (some ⟨n,0,none⟩)) rfl S0.out ?_
 simp only[Act.put,zT,zZ,zS]
 refine wpTd 3 113 (.pointer (some ⟨n,1,none⟩)) rfl S0.out ?_
 simp only[Act.put,zT,zZ,zS]
 refine wpTe 4 114 (.int .i64 (d:Int)) rfl (Or.inl ⟨by rfl,fun w' hs=>by have hc:=(hs.cell 1 rfl:w'.cell? ⟨n,1,none⟩=some (.int .i64 (d:Int)));go_simp⟩) S0.out ?_
 simp only[Act.put,zT,zZ,zS]
 refine wpTd 5 115 (.pointer (some ⟨q,0,none⟩)) rfl S0.out ?_
 simp only[Act.put,zT,zZ,zS]
 refine wpTd 6 116 (.pointer (some ⟨q,0,none⟩)) rfl S0.out ?_
 simp only[Act.put,zT,zZ,zS]
 refine wpTd 7 117 (.pointer (some ⟨n,0,none⟩)) rfl S0.out ?_
 simp only[Act.put,zT,zZ,zS]
 refine wpTd 8 118 (.pointer (some ⟨n,0,none⟩)) rfl S0.out ?_
 simp only[Act.put,zT,zZ,zS]
 refine wpTd 9 119 (.pointer (some ⟨n,2,none⟩)) rfl S0.out ?_
 simp only[Act.put,zT,zZ,zS]
 refine wpTe 10 120 (.int .i64 (a:Int)) rfl (Or.inl ⟨by rfl,fun w' hs=>by have hc:=(hs.cell 2 rfl:w'.cell? ⟨n,2,none⟩=some (.int .i64 (a:Int)));go_simp⟩) S0.out ?_
 simp only[Act.put,zT,zZ,zS]
 refine wpTd 11 121 (.pointer (some ⟨q,0,none⟩)) rfl S0.out ?_
 simp only[Act.put,zT,zZ,zS]
 refine wpTd 12 122 (.pointer (some ⟨q,0,none⟩)) rfl S0.out ?_
 simp only[Act.put,zT,zZ,zS]
 refine wpTd 13 123 (.pointer (some ⟨q,0,none⟩)) rfl S0.out ?_
 simp only[Act.put,zT,zZ,zS]
 refine wpTd 14 124 (.pointer (some ⟨q,0,none⟩)) rfl S0.out ?_
 simp only[Act.put,zT,zZ,zS]
 refine wpTe 15 125 (.pointer (some ⟨q,a,none⟩)) rfl (Or.inl ⟨by rfl,fun w' hs=>by have h1:=Ia.out;have h2:=Ra.out;go_simp⟩) S0.out ?_
 simp only[Act.put,zT,zZ,zS]
 refine wpTd 17 127 (.int .i64 (offV im)) rfl S0.out ?_
 simp only[Act.put,zT,zZ,zS]
 refine zR 16 rfl fun K hK=>?_
 rw[if_pos (by rfl)]
 have cl:x0.cell? ⟨q,a,none⟩=some (.int .i64 (gt H.regs a)):=R0.out.v.cell a (mcr_reg_at _ _ _ _ _ _ _ a Ra.out)
 go_simp
 refine hK.out _ _ S0.out (fun _=>?_)
 clear hK K cl
 refine zR 18 rfl fun K hK=>?_
 rw[if_pos (by rfl)]
 go_simp
 refine(impl_add _ _ _).mono ?_
 rintro e y⟨rfl,hy⟩
 rw[hy]
 clear hy y
 refine hK.out _ _ S0.out (fun _=>?_)
 clear hK K
 refine zR 19 rfl fun K hK=>?_
 rw[if_pos (by rfl)]
 go_simp
 refine(r_loadNo R0.out (addV (gt H.regs a) (offV im)) HZ.out).mono ?_
 rintro e x1⟨he,b2⟩
 unfold pan at he
 subst he
 clear hK
 go_wp2_with fail
 exact⟨rfl,rfl,R0.out.keep b2,B0.out.trans (bless b2 R0.out.size)⟩
theorem do_storesOk(R:Rw w base q i o pg pc ps g p zs H ca ri X)(op:Int)(d a:Nat)(im:Int)(hd:d<16)(ha:a<16)(hz:plC H ps zs (addV (gt H.regs a) (offV im)) 2=0):
  Calls Tryz.prog 75 #[.pointer (some ⟨q,0,none⟩),.iface 158 (.agg #[.int .i64 op,.int .i64 (d:Int),.int .i64 (a:Int),.int .i64 im])] w fun e w'=>e=.returned (.int .i64 (addV H.pc 1))∧∃o',Rw w' base q i o' pg pc ps g p (storeZ H ps zs (addV (gt H.regs a) (offV im)) (gt H.regs d)) (storeH H ps zs (addV (gt H.regs a) (offV im)) (gt H.regs d)) ca (storeR H ps zs (addV (gt H.regs a) (offV im)) (gt H.regs d) ri) X∧Below base w w':=by
 have HR:=hid R
 have c16:w.cell? ⟨q,16,none⟩=some (.int .i64 H.pc):=R.v.cell 16 rfl
 have hm:=meth_stores (.int .i64 op) (.int .i64 (d:Int)) (.int .i64 (a:Int)) (.int .i64 im)
 have as_reckons:∀w,(Instr.typeAssert (.iface 158 (.agg #[.int .i64 op,.int .i64 (d:Int),.int .i64 (a:Int),.int .i64 im])) 121 153 true).run Tryz.prog w=.ok (.tuple #[.agg #[.int .i64 0,.int .i64 0,.int .i64 0,.int .i64 0],.bool false]) w:=fun w=>by kernel_rfl
 have as_adds:∀w,(Instr.typeAssert (.iface 158 (.agg #[.int .i64 op,.int .i64 (d:Int),.int .i64 (a:Int),.int .i64 im])) 121 155 true).run Tryz.prog w=.ok (.tuple #[.agg #[.int .i64 0,.int .i64 0,.int .i64 0,.int .i64 0],.bool false]) w:=fun w=>by kernel_rfl
 have as_lifts:∀w,(Instr.typeAssert (.iface 158 (.agg #[.int .i64 op,.int .i64 (d:Int),.int .i64 (a:Int),.int .i64 im])) 121 156 true).run Tryz.prog w=.ok (.tuple #[.agg #[.int .i64 0,.int .i64 0,.int .i64 0,.int .i64 0],.bool false]) w:=fun w=>by kernel_rfl
 have as_loads:∀w,(Instr.typeAssert (.iface 158 (.agg #[.int .i64 op,.int .i64 (d:Int),.int .i64 (a:Int),.int .i64 im])) 121 157 true).run Tryz.prog w=.ok (.tuple #[.agg #[.int .i64 0,.int .i64 0,.int .i64 0,.int .i64 0],.bool false]) w:=fun w=>by kernel_rfl
 have as_stores:∀w,(Instr.typeAssert (.iface 158 (.agg #[.int .i64 op,.int .i64 (d:Int),.int .i64 (a:Int),.int .i64 im])) 121 158 true).run Tryz.prog w=.ok (.tuple #[.agg #[.int .i64 op,.int .i64 (d:Int),.int .i64 (a:Int),.int .i64 im],.bool true]) w:=fun w=>by kernel_rfl
 have Rd:=hid hd
 have Id:Hid ((d:Int)<16):=by show _<_;omega
 have Ra:=hid ha
 have Ia:Hid ((a:Int)<16):=by show _<_;omega
 have HZ:=hid hz
 clear R
 go_enter Tryz.func75,Tryz.ntmps75
 go_wp2_with (go_at_call 22;refine(impl_add _ _ _).mono ?_;rintro e y ⟨rfl,hy⟩;rw[hy];clear hy y)
 refine(i_off _ _ _ im w).mono ?_
 rintro e w1⟨rfl,b1⟩
 clear hm c16
 go_upto_region 17 with fail
 clear as_reckons as_adds as_lifts as_loads as_stores
 generalize hW:w1.alloc (.cells #[.int .i64 op,.int .i64 (d:Int),.int .i64 (a:Int),.int .i64 im] 158)=W1
 obtain⟨n,hn⟩:∃n,w1.heap.size=n:=⟨_,rfl⟩
 rw[hn]
 have VN:Hid (Vb W1 n #[.int .i64 op,.int .i64 (d:Int),.int .i64 (a:Int),.int .i64 im] 158):=by show Vb _ _ _ _;rw[←hW,←hn];exact Vb.new _ _ _
 have bb:Below w.heap.size w W1:=by rw[←hW];exact al b1 _
 have R1:=hid (HR.out.keep bb)
 have B1:Hid (Below base w W1):=bless bb HR.out.size
 have QN:Hid (n≠q∧n≠g∧∀k,o.ownBlock=some k→n≠k):=by
  have hs:w.heap.size≤n:=by rw[←hn];exact b1.size
  obtain⟨bo,_,_,ho,_⟩:=HR.out.ho
  exact⟨by have:=HR.out.v.lt;omega,by have:=(World.ownsRow.lt HR.out.pgs g rfl).2;omega,fun k e=>by have:=(ho.lt k e).2;omega⟩
 clear hW hn b1 bb
 have S0:Hid (Vb W1.drew n #[.int .i64 op,.int .i64 (d:Int),.int .i64 (a:Int),.int .i64 im] 158∧W1.drew.cell? ⟨q,a,none⟩=some (.int .i64 (gt H.regs a))∧W1.drew.cell? ⟨q,d,none⟩=some (.int .i64 (gt H.regs d))):=⟨VN.out,(R1.out.v.cell a (mcr_reg_at _ _ _ _ _ _ _ a Ra.out):W1.cell? ⟨q,a,none⟩=_),(R1.out.v.cell d (mcr_reg_at _ _ _ _ _ _ _ d Rd.out):W1.cell? ⟨q,d,none⟩=_)⟩
 have R0:Hid (Rw W1.drew base q i o pg pc ps g p zs H ca ri X):=R1.out.keep (Below.refl _ _).drew
 have B0:Hid (Below base w W1.drew):=B1.out.drew
 refine wp_region_held (S:=fun w'=>Vb w' n #[.int .i64 op,.int .i64 (d:Int),.int .i64 (a:Int),.int .i64 im] 158∧w'.cell? ⟨q,a,none⟩=some (.int .i64 (gt H.regs a))∧w'.cell? ⟨q,d,none⟩=some (.int .i64 (gt H.regs d))) (by kernel_rfl) ?_
 change wpAnyH _ _ _ _ _ _ _ _ (World.drew _)
 generalize W1.drew=x0 at*
 refine wpTd 0 134 (.pointer (some ⟨q,0,none⟩)) rfl S0.out ?_
 simp only[Act.put,zT,zZ,zS]
 refine wpTd 1 135 (.pointer (some ⟨q,0,none⟩)) rfl S0.out ?_
 simp only[Act.put,zT,zZ,zS]
 refine wpTd 2 136 (.pointer (some ⟨n,0,none⟩)) rfl S0.out ?_
 simp only[Act.put,zT,zZ,zS]
 refine wpTd 3 137 (.pointer (some ⟨n,0,none⟩)) rfl S0.out ?_
 simp only[Act.put,zT,zZ,zS]
 refine wpTd 4 138 (.pointer (some ⟨n,2,none⟩)) rfl S0.out ?_
 simp only[Act.put,zT,zZ,zS]
 refine wpTe 5 139 (.int .i64 (a:Int)) rfl (Or.inl ⟨by rfl,fun w' hs=>by have hc:=(hs.1.cell 2 rfl:w'.cell? ⟨n,2,none⟩=some (.int .i64 (a:Int)));go_simp⟩) S0.out ?_
 simp only[Act.put,zT,zZ,zS]
 refine wpTd 6 140 (.pointer (some ⟨q,0,none⟩)) rfl S0.out ?_
 simp only[Act.put,zT,zZ,zS]
 refine wpTd 7 141 (.pointer (some ⟨q,0,none⟩)) rfl S0.out ?_
 simp only[Act.put,zT,zZ,zS]
 refine wpTd 8 142 (.pointer (some ⟨q,0,none⟩)) rfl S0.out ?_
 simp only[Act.put,zT,zZ,zS]
 refine wpTd 9 143 (.pointer (some ⟨q,0,none⟩)) rfl S0.out ?_
 simp only[Act.put,zT,zZ,zS]
 refine wpTe 10 144 (.pointer (some ⟨q,a,none⟩)) rfl (Or.inl ⟨by rfl,fun w' hs=>by have h1:=Ia.out;have h2:=Ra.out;go_simp⟩) S0.out ?_
 simp only[Act.put,zT,zZ,zS]
 refine wpTe 11 145 (.int .i64 (gt H.regs a)) rfl (Or.inl ⟨by rfl,fun w' hs=>by have hc:=hs.2.1;go_simp⟩) S0.out ?_
 simp only[Act.put,zT,zZ,zS]
 refine wpTd 12 146 (.int .i64 (offV im)) rfl S0.out ?_
 simp only[Act.put,zT,zZ,zS]
 refine wpTd 14 148 (.pointer (some ⟨q,0,none⟩)) rfl S0.out ?_
 simp only[Act.put,zT,zZ,zS]
 refine wpTd 15 149 (.pointer (some ⟨n,0,none⟩)) rfl S0.out ?_
 simp only[Act.put,zT,zZ,zS]
 refine wpTd 16 150 (.pointer (some ⟨n,0,none⟩)) rfl S0.out ?_
 simp only[Act.put,zT,zZ,zS]
 refine wpTd 17 151 (.pointer (some ⟨n,1,none⟩)) rfl S0.out ?_
 simp only[Act.put,zT,zZ,zS]
 refine wpTe 18 152 (.int .i64 (d:Int)) rfl (Or.inl ⟨by rfl,fun w' hs=>by have hc:=(hs.1.cell 1 rfl:w'.cell? ⟨n,1,none⟩=some (.int .i64 (d:Int)));go_simp⟩) S0.out ?_
 simp only[Act.put,zT,zZ,zS]
 refine wpTd 19 153 (.pointer (some ⟨q,0,none⟩)) rfl S0.out ?_
 simp only[Act.put,zT,zZ,zS]
 refine wpTd 20 154 (.pointer (some ⟨q,0,none⟩)) rfl S0.out ?_
 simp only[Act.put,zT,zZ,zS]
 refine wpTd 21 155 (.pointer (some ⟨q,0,none⟩)) rfl S0.out ?_
 simp only[Act.put,zT,zZ,zS]
 refine wpTd 22 156 (.pointer (some ⟨q,0,none⟩)) rfl S0.out ?_
 simp only[Act.put,zT,zZ,zS]
 refine wpTe 23 157 (.pointer (some ⟨q,d,none⟩)) rfl (Or.inl ⟨by rfl,fun w' hs=>by have h1:=Id.out;have h2:=Rd.out;go_simp⟩) S0.out ?_
 simp only[Act.put,zT,zZ,zS]
 refine wpTe 24 158 (.int .i64 (gt H.regs d)) rfl (Or.inl ⟨by rfl,fun w' hs=>by have hc:=hs.2.2;go_simp⟩) S0.out ?_
 simp only[Act.put,zT,zZ,zS]
 refine zR 13 rfl fun K hK=>?_
 rw[if_pos (by rfl)]
 go_simp
 refine(impl_add _ _ _).mono ?_
 rintro e y⟨rfl,hy⟩
 rw[hy]
 clear hy y
 refine hK.out _ _ S0.out (fun _=>?_)
 clear hK K
 refine zR 25 rfl fun K hK=>?_
 rw[if_pos (by rfl)]
 go_simp
 refine(r_storeOk R0.out (addV (gt H.regs a) (offV im)) (gt H.regs d) (gt_isW HR.out.sn.hok.rw d) HZ.out).mono ?_
 rintro e x1⟨rfl,o2,r2,b2,m2⟩
 have R1:=hid r2
 have B1:Hid (Below base w x1):=B0.out.trans b2
 have EG:Hid ((storeH H ps zs (addV (gt H.regs a) (offV im)) (gt H.regs d)).regs=H.regs):=store_regs _ _ _ _ _
 have S1:Hid (Vb x1 n #[.int .i64 op,.int .i64 (d:Int),.int .i64 (a:Int),.int .i64 im] 158∧x1.cell? ⟨q,a,none⟩=some (.int .i64 (gt H.regs a))∧x1.cell? ⟨q,d,none⟩=some (.int .i64 (gt H.regs d))):=⟨m2.vb S0.out.1 fun e=>by rcases e with e|e|e;exact QN.out.1 e;exact QN.out.2.1 e;exact QN.out.2.2 n e rfl,by rw[←EG.out];exact R1.out.v.cell a (mcr_reg_at _ _ _ _ _ _ _ a Ra.out),by rw[←EG.out];exact R1.out.v.cell d (mcr_reg_at _ _ _ _ _ _ _ d Rd.out)⟩
 clear r2 b2 m2
 refine hK.out _ _ S1.out (fun _=>?_)
 clear hK K
 refine wpAnyH_done (by kernel_rfl) ?_ _
 go_wp2_with fail
 go_ret
 exact⟨rfl,o2,R1.out,B1.out⟩
theorem do_storesNo(R:Rw w base q i o pg pc ps g p zs H ca ri X)(op:Int)(d a:Nat)(im:Int)(hd:d<16)(ha:a<16)(hz:¬plC H ps zs (addV (gt H.regs a) (offV im)) 2=0):
  Calls Tryz.prog 75 #[.pointer (some ⟨q,0,none⟩),.iface 158 (.agg #[.int .i64 op,.int .i64 (d:Int),.int .i64 (a:Int),.int .i64 im])] w fun e w'=>e=pan 4 (addV (gt H.regs a) (offV im))∧Rw w' base q i o pg pc ps g p zs H ca ri X∧Below base w w':=by
 have HR:=hid R
 have c16:w.cell? ⟨q,16,none⟩=some (.int .i64 H.pc):=R.v.cell 16 rfl
 have hm:=meth_stores (.int .i64 op) (.int .i64 (d:Int)) (.int .i64 (a:Int)) (.int .i64 im)
 have as_reckons:∀w,(Instr.typeAssert (.iface 158 (.agg #[.int .i64 op,.int .i64 (d:Int),.int .i64 (a:Int),.int .i64 im])) 121 153 true).run Tryz.prog w=.ok (.tuple #[.agg #[.int .i64 0,.int .i64 0,.int .i64 0,.int .i64 0],.bool false]) w:=fun w=>by kernel_rfl
 have as_adds:∀w,(Instr.typeAssert (.iface 158 (.agg #[.int .i64 op,.int .i64 (d:Int),.int .i64 (a:Int),.int .i64 im])) 121 155 true).run Tryz.prog w=.ok (.tuple #[.agg #[.int .i64 0,.int .i64 0,.int .i64 0,.int .i64 0],.bool false]) w:=fun w=>by kernel_rfl
 have as_lifts:∀w,(Instr.typeAssert (.iface 158 (.agg #[.int .i64 op,.int .i64 (d:Int),.int .i64 (a:Int),.int .i64 im])) 121 156 true).run Tryz.prog w=.ok (.tuple #[.agg #[.int .i64 0,.int .i64 0,.int .i64 0,.int .i64 0],.bool false]) w:=fun w=>by kernel_rfl
 have as_loads:∀w,(Instr.typeAssert (.iface 158 (.agg #[.int .i64 op,.int .i64 (d:Int),.int .i64 (a:Int),.int .i64 im])) 121 157 true).run Tryz.prog w=.ok (.tuple #[.agg #[.int .i64 0,.int .i64 0,.int .i64 0,.int .i64 0],.bool false]) w:=fun w=>by kernel_rfl
 have as_stores:∀w,(Instr.typeAssert (.iface 158 (.agg #[.int .i64 op,.int .i64 (d:Int),.int .i64 (a:Int),.int .i64 im])) 121 158 true).run Tryz.prog w=.ok (.tuple #[.agg #[.int .i64 op,.int .i64 (d:Int),.int .i64 (a:Int),.int .i64 im],.bool true]) w:=fun w=>by kernel_rfl
 have Rd:=hid hd
 have Id:Hid ((d:Int)<16):=by show _<_;omega
 have Ra:=hid ha
 have Ia:Hid ((a:Int)<16):=by show _<_;omega
 have HZ:=hid hz
 clear R
 go_enter Tryz.func75,Tryz.ntmps75
 go_wp2_with (go_at_call 22;refine(impl_add _ _ _).mono ?_;rintro e y ⟨rfl,hy⟩;rw[hy];clear hy y)
 refine(i_off _ _ _ im w).mono ?_
 rintro e w1⟨rfl,b1⟩
 clear hm c16
 go_upto_region 17 with fail
 clear as_reckons as_adds as_lifts as_loads as_stores
 generalize hW:w1.alloc (.cells #[.int .i64 op,.int .i64 (d:Int),.int .i64 (a:Int),.int .i64 im] 158)=W1
 obtain⟨n,hn⟩:∃n,w1.heap.size=n:=⟨_,rfl⟩
 rw[hn]
 have VN:Hid (Vb W1 n #[.int .i64 op,.int .i64 (d:Int),.int .i64 (a:Int),.int .i64 im] 158):=by show Vb _ _ _ _;rw[←hW,←hn];exact Vb.new _ _ _
 have bb:Below w.heap.size w W1:=by rw[←hW];exact al b1 _
 have R1:=hid (HR.out.keep bb)
 have B1:Hid (Below base w W1):=bless bb HR.out.size
 have QN:Hid (n≠q∧n≠g∧∀k,o.ownBlock=some k→n≠k):=by
  have hs:w.heap.size≤n:=by rw[←hn];exact b1.size
  obtain⟨bo,_,_,ho,_⟩:=HR.out.ho
  exact⟨by have:=HR.out.v.lt;omega,by have:=(World.ownsRow.lt HR.out.pgs g rfl).2;omega,fun k e=>by have:=(ho.lt k e).2;omega⟩
 clear hW hn b1 bb
 have S0:Hid (Vb W1.drew n #[.int .i64 op,.int .i64 (d:Int),.int .i64 (a:Int),.int .i64 im] 158∧W1.drew.cell? ⟨q,a,none⟩=some (.int .i64 (gt H.regs a))∧W1.drew.cell? ⟨q,d,none⟩=some (.int .i64 (gt H.regs d))):=⟨VN.out,(R1.out.v.cell a (mcr_reg_at _ _ _ _ _ _ _ a Ra.out):W1.cell? ⟨q,a,none⟩=_),(R1.out.v.cell d (mcr_reg_at _ _ _ _ _ _ _ d Rd.out):W1.cell? ⟨q,d,none⟩=_)⟩
 have R0:Hid (Rw W1.drew base q i o pg pc ps g p zs H ca ri X):=R1.out.keep (Below.refl _ _).drew
 have B0:Hid (Below base w W1.drew):=B1.out.drew
 refine wp_region_held (S:=fun w'=>Vb w' n #[.int .i64 op,.int .i64 (d:Int),.int .i64 (a:Int),.int .i64 im] 158∧w'.cell? ⟨q,a,none⟩=some (.int .i64 (gt H.regs a))∧w'.cell? ⟨q,d,none⟩=some (.int .i64 (gt H.regs d))) (by kernel_rfl) ?_
 change wpAnyH _ _ _ _ _ _ _ _ (World.drew _)
 generalize W1.drew=x0 at*
 refine wpTd 0 134 (.pointer (some ⟨q,0,none⟩)) rfl S0.out ?_
 simp only[Act.put,zT,zZ,zS]
 refine wpTd 1 135 (.pointer (some ⟨q,0,none⟩)) rfl S0.out ?_
 simp only[Act.put,zT,zZ,zS]
 refine wpTd 2 136 (.pointer (some ⟨n,0,none⟩)) rfl S0.out ?_
 simp only[Act.put,zT,zZ,zS]
 refine wpTd 3 137 (.pointer (some ⟨n,0,none⟩)) rfl S0.out ?_
 simp only[Act.put,zT,zZ,zS]
 refine wpTd 4 138 (.pointer (some ⟨n,2,none⟩)) rfl S0.out ?_
 simp only[Act.put,zT,zZ,zS]
 refine wpTe 5 139 (.int .i64 (a:Int)) rfl (Or.inl ⟨by rfl,fun w' hs=>by have hc:=(hs.1.cell 2 rfl:w'.cell? ⟨n,2,none⟩=some (.int .i64 (a:Int)));go_simp⟩) S0.out ?_
 simp only[Act.put,zT,zZ,zS]
 refine wpTd 6 140 (.pointer (some ⟨q,0,none⟩)) rfl S0.out ?_
 simp only[Act.put,zT,zZ,zS]
 refine wpTd 7 141 (.pointer (some ⟨q,0,none⟩)) rfl S0.out ?_
 simp only[Act.put,zT,zZ,zS]
 refine wpTd 8 142 (.pointer (some ⟨q,0,none⟩)) rfl S0.out ?_
 simp only[Act.put,zT,zZ,zS]
 refine wpTd 9 143 (.pointer (some ⟨q,0,none⟩)) rfl S0.out ?_
 simp only[Act.put,zT,zZ,zS]
 refine wpTe 10 144 (.pointer (some ⟨q,a,none⟩)) rfl (Or.inl ⟨by rfl,fun w' hs=>by have h1:=Ia.out;have h2:=Ra.out;go_simp⟩) S0.out ?_
 simp only[Act.put,zT,zZ,zS]
 refine wpTe 11 145 (.int .i64 (gt H.regs a)) rfl (Or.inl ⟨by rfl,fun w' hs=>by have hc:=hs.2.1;go_simp⟩) S0.out ?_
 simp only[Act.put,zT,zZ,zS]
 refine wpTd 12 146 (.int .i64 (offV im)) rfl S0.out ?_
 simp only[Act.put,zT,zZ,zS]
 refine wpTd 14 148 (.pointer (some ⟨q,0,none⟩)) rfl S0.out ?_
 simp only[Act.put,zT,zZ,zS]
 refine wpTd 15 149 (.pointer (some ⟨n,0,none⟩)) rfl S0.out ?_
 simp only[Act.put,zT,zZ,zS]
 refine wpTd 16 150 (.pointer (some ⟨n,0,none⟩)) rfl S0.out ?_
 simp only[Act.put,zT,zZ,zS]
 refine wpTd 17 151 (.pointer (some ⟨n,1,none⟩)) rfl S0.out ?_
 simp only[Act.put,zT,zZ,zS]
 refine wpTe 18 152 (.int .i64 (d:Int)) rfl (Or.inl ⟨by rfl,fun w' hs=>by have hc:=(hs.1.cell 1 rfl:w'.cell? ⟨n,1,none⟩=some (.int .i64 (d:Int)));go_simp⟩) S0.out ?_
 simp only[Act.put,zT,zZ,zS]
 refine wpTd 19 153 (.pointer (some ⟨q,0,none⟩)) rfl S0.out ?_
 simp only[Act.put,zT,zZ,zS]
 refine wpTd 20 154 (.pointer (some ⟨q,0,none⟩)) rfl S0.out ?_
 simp only[Act.put,zT,zZ,zS]
 refine wpTd 21 155 (.pointer (some ⟨q,0,none⟩)) rfl S0.out ?_
 simp only[Act.put,zT,zZ,zS]
 refine wpTd 22 156 (.pointer (some ⟨q,0,none⟩)) rfl S0.out ?_
 simp only[Act.put,zT,zZ,zS]
 refine wpTe 23 157 (.pointer (some ⟨q,d,none⟩)) rfl (Or.inl ⟨by rfl,fun w' hs=>by have h1:=Id.out;have h2:=Rd.out;go_simp⟩) S0.out ?_
 simp only[Act.put,zT,zZ,zS]
 refine wpTe 24 158 (.int .i64 (gt H.regs d)) rfl (Or.inl ⟨by rfl,fun w' hs=>by have hc:=hs.2.2;go_simp⟩) S0.out ?_
 simp only[Act.put,zT,zZ,zS]
 refine zR 13 rfl fun K hK=>?_
 rw[if_pos (by rfl)]
 go_simp
 refine(impl_add _ _ _).mono ?_
 rintro e y⟨rfl,hy⟩
 rw[hy]
 clear hy y
 refine hK.out _ _ S0.out (fun _=>?_)
 clear hK K
 refine zR 25 rfl fun K hK=>?_
 rw[if_pos (by rfl)]
 go_simp
 refine(r_storeNo R0.out (addV (gt H.regs a) (offV im)) (gt H.regs d) HZ.out).mono ?_
 rintro e x1⟨he,b2⟩
 unfold pan at he
 subst he
 clear hK
 go_wp2_with fail
 exact⟨rfl,rfl,R0.out.keep b2,B0.out.trans (bless b2 R0.out.size)⟩
theorem do_reckons(R:Rw w base q i o pg pc ps g p zs H ca ri X)(op:Int)(d a:Nat)(b:Nat)(hd:d<16)(ha:a<16)(hb:b<16)(h1:1≤op)(h11:op≤11):
  Calls Tryz.prog 75 #[.pointer (some ⟨q,0,none⟩),.iface 153 (.agg #[.int .i64 op,.int .i64 (d:Int),.int .i64 (a:Int),.int .i64 (b:Int)])] w fun e w'=>e=.returned (.int .i64 (addV H.pc 1))∧Rw w' base q i o pg pc ps g p zs (putV H d (aluV op (gt H.regs a) (gt H.regs b))) ca ri X∧Below base w w':=by
 have HR:=hid R
 have c16:w.cell? ⟨q,16,none⟩=some (.int .i64 H.pc):=R.v.cell 16 rfl
 have hm:=meth_reckons (.int .i64 op) (.int .i64 (d:Int)) (.int .i64 (a:Int)) (.int .i64 (b:Int))
 have as_reckons:∀w,(Instr.typeAssert (.iface 153 (.agg #[.int .i64 op,.int .i64 (d:Int),.int .i64 (a:Int),.int .i64 (b:Int)])) 121 153 true).run Tryz.prog w=.ok (.tuple #[.agg #[.int .i64 op,.int .i64 (d:Int),.int .i64 (a:Int),.int .i64 (b:Int)],.bool true]) w:=fun w=>by kernel_rfl
 have Rd:=hid hd
 have Id:Hid ((d:Int)<16):=by show _<_;omega
 have Ra:=hid ha
 have Ia:Hid ((a:Int)<16):=by show _<_;omega
 have Rb:=hid hb
 have Ib:Hid ((b:Int)<16):=by show _<_;omega
 have AO:Hid (aluC op=0∧(if 1≤op∧op≤11 then aluV op (gt H.regs a) (gt H.regs b)else 0)=aluV op (gt H.regs a) (gt H.regs b)):=⟨if_pos ⟨h1,h11⟩,if_pos ⟨h1,h11⟩⟩
 have PW:Hid (isW (aluV op (gt H.regs a) (gt H.regs b))=true):=alu_word _ _ _
 clear R
 go_enter Tryz.func75,Tryz.ntmps75
 go_wp2_with (go_at_call 22;refine(impl_add _ _ _).mono ?_;rintro e y ⟨rfl,hy⟩;rw[hy];clear hy y)
 refine(i_off _ _ _ (b:Int) w).mono ?_
 rintro e w1⟨rfl,b1⟩
 clear hm c16
 go_upto_region 5 with fail
 clear as_reckons
 generalize hW:w1.alloc (.cells #[.int .i64 op,.int .i64 (d:Int),.int .i64 (a:Int),.int .i64 (b:Int)] 153)=W1
 obtain⟨n,hn⟩:∃n,w1.heap.size=n:=⟨_,rfl⟩
 rw[hn]
 have VN:Hid (Vb W1 n #[.int .i64 op,.int .i64 (d:Int),.int .i64 (a:Int),.int .i64 (b:Int)] 153):=by show Vb _ _ _ _;rw[←hW,←hn];exact Vb.new _ _ _
 have bb:Below w.heap.size w W1:=by rw[←hW];exact al b1 _
 have R1:=hid (HR.out.keep bb)
 have B1:Hid (Below base w W1):=bless bb HR.out.size
 have QN:Hid (n≠q∧n≠g∧∀k,o.ownBlock=some k→n≠k):=by
  have hs:w.heap.size≤n:=by rw[←hn];exact b1.size
  obtain⟨bo,_,_,ho,_⟩:=HR.out.ho
  exact⟨by have:=HR.out.v.lt;omega,by have:=(World.ownsRow.lt HR.out.pgs g rfl).2;omega,fun k e=>by have:=(ho.lt k e).2;omega⟩
 clear hW hn b1 bb
 have S0:Hid (Vb W1.drew n #[.int .i64 op,.int .i64 (d:Int),.int .i64 (a:Int),.int .i64 (b:Int)] 153):=VN.out
 have R0:Hid (Rw W1.drew base q i o pg pc ps g p zs H ca ri X):=R1.out.keep (Below.refl _ _).drew
 have B0:Hid (Below base w W1.drew):=B1.out.drew
 refine wp_region_held (S:=fun w'=>Vb w' n #[.int .i64 op,.int .i64 (d:Int),.int .i64 (a:Int),.int .i64 (b:Int)] 153) (by kernel_rfl) ?_
 change wpAnyH _ _ _ _ _ _ _ _ (World.drew _)
 generalize W1.drew=x0 at*
 refine wpTd 0 37 (.pointer (some ⟨q,0,none⟩)) rfl S0.out ?_
 simp only[Act.put,zT,zZ,zS]
 refine wpTd 1 38 (.pointer (some ⟨n,0,none⟩)) rfl S0.out ?_
 simp only[Act.put,zT,zZ,zS]
 refine wpTd 2 39 (.pointer (some ⟨n,0,none⟩)) rfl S0.out ?_
 simp only[Act.put,zT,zZ,zS]
 refine wpTd 3 40 (.pointer (some ⟨n,1,none⟩)) rfl S0.out ?_
 simp only[Act.put,zT,zZ,zS]
 refine wpTe 4 41 (.int .i64 (d:Int)) rfl (Or.inl ⟨by rfl,fun w' hs=>by have hc:=(hs.cell 1 rfl:w'.cell? ⟨n,1,none⟩=some (.int .i64 (d:Int)));go_simp⟩) S0.out ?_
 simp only[Act.put,zT,zZ,zS]
 refine wpTd 5 42 (.pointer (some ⟨n,0,none⟩)) rfl S0.out ?_
 simp only[Act.put,zT,zZ,zS]
 refine wpTd 6 43 (.pointer (some ⟨n,0,none⟩)) rfl S0.out ?_
 simp only[Act.put,zT,zZ,zS]
 refine wpTd 7 44 (.pointer (some ⟨n,0,none⟩)) rfl S0.out ?_
 simp only[Act.put,zT,zZ,zS]
 refine wpTe 8 45 (.int .i64 op) rfl (Or.inl ⟨by rfl,fun w' hs=>by have hc:=(hs.cell 0 rfl:w'.cell? ⟨n,0,none⟩=some (.int .i64 op));go_simp⟩) S0.out ?_
 simp only[Act.put,zT,zZ,zS]
 refine wpTd 9 46 (.pointer (some ⟨q,0,none⟩)) rfl S0.out ?_
 simp only[Act.put,zT,zZ,zS]
 refine wpTd 10 47 (.pointer (some ⟨n,0,none⟩)) rfl S0.out ?_
 simp only[Act.put,zT,zZ,zS]
 refine wpTd 11 48 (.pointer (some ⟨n,0,none⟩)) rfl S0.out ?_
 simp only[Act.put,zT,zZ,zS]
 refine wpTd 12 49 (.pointer (some ⟨n,2,none⟩)) rfl S0.out ?_
 simp only[Act.put,zT,zZ,zS]
 refine wpTe 13 50 (.int .i64 (a:Int)) rfl (Or.inl ⟨by rfl,fun w' hs=>by have hc:=(hs.cell 2 rfl:w'.cell? ⟨n,2,none⟩=some (.int .i64 (a:Int)));go_simp⟩) S0.out ?_
 simp only[Act.put,zT,zZ,zS]
 refine wpTd 14 51 (.pointer (some ⟨q,0,none⟩)) rfl S0.out ?_
 simp only[Act.put,zT,zZ,zS]
 refine wpTd 15 52 (.pointer (some ⟨q,0,none⟩)) rfl S0.out ?_
 simp only[Act.put,zT,zZ,zS]
 refine wpTd 16 53 (.pointer (some ⟨q,0,none⟩)) rfl S0.out ?_
 simp only[Act.put,zT,zZ,zS]
 refine wpTd 17 54 (.pointer (some ⟨q,0,none⟩)) rfl S0.out ?_
 simp only[Act.put,zT,zZ,zS]
 refine wpTe 18 55 (.pointer (some ⟨q,a,none⟩)) rfl (Or.inl ⟨by rfl,fun w' hs=>by have h1:=Ia.out;have h2:=Ra.out;go_simp⟩) S0.out ?_
 simp only[Act.put,zT,zZ,zS]
 refine wpTd 20 57 (.pointer (some ⟨q,0,none⟩)) rfl S0.out ?_
 simp only[Act.put,zT,zZ,zS]
 refine wpTd 21 58 (.pointer (some ⟨n,0,none⟩)) rfl S0.out ?_
 simp only[Act.put,zT,zZ,zS]
 refine wpTd 22 59 (.pointer (some ⟨n,0,none⟩)) rfl S0.out ?_
 simp only[Act.put,zT,zZ,zS]
 refine wpTd 23 60 (.pointer (some ⟨n,3,none⟩)) rfl S0.out ?_
 simp only[Act.put,zT,zZ,zS]
 refine wpTe 24 61 (.int .i64 (b:Int)) rfl (Or.inl ⟨by rfl,fun w' hs=>by have hc:=(hs.cell 3 rfl:w'.cell? ⟨n,3,none⟩=some (.int .i64 (b:Int)));go_simp⟩) S0.out ?_
 simp only[Act.put,zT,zZ,zS]
 refine wpTd 25 62 (.pointer (some ⟨q,0,none⟩)) rfl S0.out ?_
 simp only[Act.put,zT,zZ,zS]
 refine wpTd 26 63 (.pointer (some ⟨q,0,none⟩)) rfl S0.out ?_
 simp only[Act.put,zT,zZ,zS]
 refine wpTd 27 64 (.pointer (some ⟨q,0,none⟩)) rfl S0.out ?_
 simp only[Act.put,zT,zZ,zS]
 refine wpTd 28 65 (.pointer (some ⟨q,0,none⟩)) rfl S0.out ?_
 simp only[Act.put,zT,zZ,zS]
 refine wpTe 29 66 (.pointer (some ⟨q,b,none⟩)) rfl (Or.inl ⟨by rfl,fun w' hs=>by have h1:=Ib.out;have h2:=Rb.out;go_simp⟩) S0.out ?_
 simp only[Act.put,zT,zZ,zS]
 refine wpAnyH_ready (rs:=[19,30]) (by kernel_rfl) (by simp) ?_
 refine AllReadyH.cons rfl (fun K hK=>?_) (AllReadyH.cons rfl (fun K hK=>?_) (AllReadyH.nil))
 ·skip
  rw[if_pos (by rfl)]
  have cl:x0.cell? ⟨q,a,none⟩=some (.int .i64 (gt H.regs a)):=R0.out.v.cell a (mcr_reg_at _ _ _ _ _ _ _ a Ra.out)
  go_simp
  refine hK.out _ _ S0.out (fun _=>?_)
  clear hK K cl
  refine zR 30 rfl fun K hK=>?_
  rw[if_pos (by rfl)]
  have cl:x0.cell? ⟨q,b,none⟩=some (.int .i64 (gt H.regs b)):=R0.out.v.cell b (mcr_reg_at _ _ _ _ _ _ _ b Rb.out)
  go_simp
  refine hK.out _ _ S0.out (fun _=>?_)
  clear hK K cl
  refine zR 31 rfl fun K hK=>?_
  rw[if_pos (by rfl)]
  go_simp
  have AL:=impl_alu op (gt H.regs a) (gt H.regs b) x0
  rw[AO.out.1,AO.out.2]at AL
  refine AL.mono ?_
  rintro e x1⟨rfl,b2⟩
  have R1:=hid (R0.out.keep b2)
  have B1:Hid (Below base w x1):=B0.out.trans (bless b2 R0.out.size)
  have S1:=hid (S0.out.keep b2)
  clear b2 AL
  refine hK.out _ _ S1.out (fun _=>?_)
  clear hK K
  refine wpTe 32 69 (.int .i64 (aluV op (gt H.regs a) (gt H.regs b))) rfl (Or.inl ⟨by rfl,fun w' hs=>by have hf:=field_i1;go_simp⟩) S1.out ?_
  simp only[Act.put,zT,zZ,zS]
  refine zR 33 rfl fun K hK=>?_
  rw[if_pos (by rfl)]
  go_simp
  refine(r_put R1.out (d:Int) (aluV op (gt H.regs a) (gt H.regs b)) (by omega) (by have:=Rd.out;omega) PW.out).mono ?_
  rintro e x2⟨rfl,⟨r2,b2⟩,m2⟩
  have R2:=hid r2
  have B2:Hid (Below base w x2):=B1.out.trans b2
  have S2:Hid (Vb x2 n #[.int .i64 op,.int .i64 (d:Int),.int .i64 (a:Int),.int .i64 (b:Int)] 153):=m2.vb S1.out fun e=>QN.out.1 e
  clear r2 b2 m2
  refine hK.out _ _ S2.out (fun _=>?_)
  clear hK K
  refine wpAnyH_done (by kernel_rfl) ?_ _
  go_wp2_with fail
  go_ret
  exact⟨rfl,R2.out,B2.out⟩
 ·skip
  rw[if_pos (by rfl)]
  have cl:x0.cell? ⟨q,b,none⟩=some (.int .i64 (gt H.regs b)):=R0.out.v.cell b (mcr_reg_at _ _ _ _ _ _ _ b Rb.out)
  go_simp
  refine hK.out _ _ S0.out (fun _=>?_)
  clear hK K cl
  refine zR 19 rfl fun K hK=>?_
  rw[if_pos (by rfl)]
  have cl:x0.cell? ⟨q,a,none⟩=some (.int .i64 (gt H.regs a)):=R0.out.v.cell a (mcr_reg_at _ _ _ _ _ _ _ a Ra.out)
  go_simp
  refine hK.out _ _ S0.out (fun _=>?_)
  clear hK K cl
  refine zR 31 rfl fun K hK=>?_
  rw[if_pos (by rfl)]
  go_simp
  have AL:=impl_alu op (gt H.regs a) (gt H.regs b) x0
  rw[AO.out.1,AO.out.2]at AL
  refine AL.mono ?_
  rintro e x1⟨rfl,b2⟩
  have R1:=hid (R0.out.keep b2)
  have B1:Hid (Below base w x1):=B0.out.trans (bless b2 R0.out.size)
  have S1:=hid (S0.out.keep b2)
  clear b2 AL
  refine hK.out _ _ S1.out (fun _=>?_)
  clear hK K
  refine wpTe 32 69 (.int .i64 (aluV op (gt H.regs a) (gt H.regs b))) rfl (Or.inl ⟨by rfl,fun w' hs=>by have hf:=field_i1;go_simp⟩) S1.out ?_
  simp only[Act.put,zT,zZ,zS]
  refine zR 33 rfl fun K hK=>?_
  rw[if_pos (by rfl)]
  go_simp
  refine(r_put R1.out (d:Int) (aluV op (gt H.regs a) (gt H.regs b)) (by omega) (by have:=Rd.out;omega) PW.out).mono ?_
  rintro e x2⟨rfl,⟨r2,b2⟩,m2⟩
  have R2:=hid r2
  have B2:Hid (Below base w x2):=B1.out.trans b2
  have S2:Hid (Vb x2 n #[.int .i64 op,.int .i64 (d:Int),.int .i64 (a:Int),.int .i64 (b:Int)] 153):=m2.vb S1.out fun e=>QN.out.1 e
  clear r2 b2 m2
  refine hK.out _ _ S2.out (fun _=>?_)
  clear hK K
  refine wpAnyH_done (by kernel_rfl) ?_ _
  go_wp2_with fail
  go_ret
  exact⟨rfl,R2.out,B2.out⟩
end Go.Proofs.YtaefollmeoepkaaGreatDoor
