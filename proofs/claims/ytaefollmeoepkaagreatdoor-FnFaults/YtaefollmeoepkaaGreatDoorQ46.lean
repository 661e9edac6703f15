import Derived.Test.YtaefollmeoepkaaGreatDoorQ45
namespace Go.Proofs.YtaefollmeoepkaaGreatDoor
set_option maxRecDepth 20000
set_option maxHeartbeats 16000000
open Go.RowKit
set_option linter.unusedVariables false
variable{w:World}{B:Bp}{i o:Value}{zs:List Int}{H:Ht}
theorem zd_12(R:Bs w B i o zs H (-1) (-1))(sn:Sn H B.ps zs B.p)(d a:Nat)(hd:d<16)(ha:a<16)(im:Int)(i0:0≤im)(i6:im≤65535):
  Calls Tryz.prog 63 #[.pointer (some ⟨B.q,0,none⟩),.agg #[.int .i64 12,.int .i64 (d:Int),.int .i64 (a:Int),.int .i64 im]] w fun e w'=>e=.returned (.bool true)∧∃i' o',Bs w' B i' o' zs { putV H d (addV (gt H.regs a) (offV im))with pc:=(addV H.pc 1)} (-1) (-1)∧Below B.base w w':=by
 have HR:=hid R
 have SN:=hid sn
 have Rd:=hid hd
 have Id:Hid ((d:Int)<16):=by show _<_;omega
 have Ra:=hid ha
 have Ia:Hid ((a:Int)<16):=by show _<_;omega
 clear R sn
 go_enter Tryz.func63,Tryz.ntmps63
 go_upto_region 1 with fail
 generalize hW:w.alloc (.cells #[.int .i64 12,.int .i64 (d:Int),.int .i64 (a:Int),.int .i64 im] 43)=W1
 obtain⟨n,hn⟩:∃n,w.heap.size=n:=⟨_,rfl⟩
 rw[hn]
 have VN:Hid (Vb W1 n #[.int .i64 12,.int .i64 (d:Int),.int .i64 (a:Int),.int .i64 im] 43):=by show Vb _ _ _ _;rw[←hW,←hn];exact Vb.new _ _ _
 have bb:Below w.heap.size w W1:=by rw[←hW];exact al (Below.refl _ _) _
 have R1:=hid (HR.out.keep bb)
 have B1:Hid (Below B.base w W1):=bless bb HR.out.size
 have QN:Hid (n≠B.q∧n≠B.rg∧n≠B.cg∧n≠B.gm∧o.ownBlock≠some n):=by
  obtain⟨bo,_,_,ho,_⟩:=HR.out.ho
  exact⟨by have:=HR.out.v.lt;omega,by have:=(HR.out.hr.lt B.rg rfl).2;omega,by have:=(HR.out.hc.lt B.cg rfl).2;omega,by have:=(HR.out.hm.lt B.gm rfl).2;omega,fun e=>by have:=(ho.lt n e).2;omega⟩
 clear hW hn bb
 have c4:W1.cell? ⟨B.q,4,none⟩=some (.int .i64 H.pc):=R1.out.v.cell 4 rfl
 have c3:W1.cell? ⟨B.q,3,none⟩=some (.slice (some ⟨B.rg,0,none⟩) 16 B.rk):=R1.out.v.cell 3 rfl
 have ca:W1.cell? ⟨B.rg,a,none⟩=some (.int .i64 (gt H.regs a)):=R1.out.hr.cell R1.out.hr.len a Ra.out
 have n0:W1.cell? ⟨n,0,none⟩=some (.int .i64 12):=VN.out.cell 0 rfl
 have n2:W1.cell? ⟨n,2,none⟩=some (.int .i64 (a:Int)):=VN.out.cell 2 rfl
 have n3:W1.cell? ⟨n,3,none⟩=some (.int .i64 im):=VN.out.cell 3 rfl
 have aI:=Ia.out
 go_upto_region 3 with(go_at_call 100;refine(spec_add _ _ _).mono ?_;rintro e y ⟨rfl,hy⟩;rw[hy];clear hy y)
 go_quiet (first|(go_at_call 101;exact Calls.quiet_of_same (z_off _ _))|(go_at_call 100;exact Calls.quiet_of_same (spec_add _ _ _)))
 have R0:Hid (Bs (W1.drewN nq) B i o zs H (-1) (-1)):=R1.out.keep (dr (Below.refl _ _) _)
 have V0:Hid (Vb (W1.drewN nq) n #[.int .i64 12,.int .i64 (d:Int),.int .i64 (a:Int),.int .i64 im] 43):=VN.out
 have B0:Hid (Below B.base w (W1.drewN nq)):=dr B1.out _
 clear R1 VN B1 c4 c3 ca n0 n2 n3 aI
 generalize W1.drewN nq=x0 at*
 have n0:x0.cell? ⟨n,0,none⟩=some (.int .i64 12):=V0.out.cell 0 rfl
 go_upto_region 7 with fail
 clear n0
 have S0:Hid (Vb x0.drew n #[.int .i64 12,.int .i64 (d:Int),.int .i64 (a:Int),.int .i64 im] 43∧x0.drew.cell? ⟨B.q,3,none⟩=some (.slice (some ⟨B.rg,0,none⟩) 16 B.rk)∧x0.drew.cell? ⟨B.q,1,none⟩=some (.slice (some ⟨B.gm,0,none⟩) (B.p*8) B.mc)):=⟨V0.out,R0.out.v.cell 3 rfl,R0.out.v.cell 1 rfl⟩
 replace R0:=hid_dr R0
 replace B0:=hid_bd B0
 refine wp_region_held (S:=fun w'=>Vb w' n #[.int .i64 12,.int .i64 (d:Int),.int .i64 (a:Int),.int .i64 im] 43∧w'.cell? ⟨B.q,3,none⟩=some (.slice (some ⟨B.rg,0,none⟩) 16 B.rk)∧w'.cell? ⟨B.q,1,none⟩=some (.slice (some ⟨B.gm,0,none⟩) (B.p*8) B.mc)) (by kernel_rfl) ?_
 change wpAnyH _ _ _ _ _ _ _ _ (World.drew _)
 generalize x0.drew=x1 at*
 refine wpTd 0 52 (.pointer (some ⟨B.q,0,none⟩)) rfl S0.out ?_
 simp only[Act.put,zT,zZ,zS]
 refine wpTd 1 53 (.pointer (some ⟨n,1,none⟩)) rfl S0.out ?_
 simp only[Act.put,zT,zZ,zS]
 refine wpTe 2 54 (.int .i64 (d:Int)) rfl (Or.inl ⟨by rfl,fun w' hs=>by have hc:=(hs.1.cell 1 rfl:w'.cell? ⟨n,1,none⟩=some (.int .i64 (d:Int)));go_simp⟩) S0.out ?_
 simp only[Act.put,zT,zZ,zS]
 refine wpTd 3 55 (.pointer (some ⟨B.q,3,none⟩)) rfl S0.out ?_
 simp only[Act.put,zT,zZ,zS]
 refine wpTd 4 56 (.pointer (some ⟨B.q,3,none⟩)) rfl S0.out ?_
 simp only[Act.put,zT,zZ,zS]
 refine wpTd 5 57 (.pointer (some ⟨B.q,3,none⟩)) rfl S0.out ?_
 simp only[Act.put,zT,zZ,zS]
 refine wpTe 6 58 (.slice (some ⟨B.rg,0,none⟩) 16 B.rk) rfl (Or.inl ⟨by rfl,fun w' hs=>by have hc:=hs.2.1;go_simp⟩) S0.out ?_
 simp only[Act.put,zT,zZ,zS]
 refine wpTd 7 59 (.pointer (some ⟨n,2,none⟩)) rfl S0.out ?_
 simp only[Act.put,zT,zZ,zS]
 refine wpTe 8 60 (.int .i64 (a:Int)) rfl (Or.inl ⟨by rfl,fun w' hs=>by have hc:=(hs.1.cell 2 rfl:w'.cell? ⟨n,2,none⟩=some (.int .i64 (a:Int)));go_simp⟩) S0.out ?_
 simp only[Act.put,zT,zZ,zS]
 refine wpTe 9 61 (.pointer (some ⟨B.rg,a,none⟩)) rfl (Or.inl ⟨by rfl,fun w' hs=>by have h1:=Ia.out;have h2:=Ra.out;go_simp⟩) S0.out ?_
 simp only[Act.put,zT,zZ,zS]
 refine wpTd 11 63 (.pointer (some ⟨n,3,none⟩)) rfl S0.out ?_
 simp only[Act.put,zT,zZ,zS]
 refine wpTe 12 64 (.int .i64 im) rfl (Or.inl ⟨by rfl,fun w' hs=>by have hc:=(hs.1.cell 3 rfl:w'.cell? ⟨n,3,none⟩=some (.int .i64 im));go_simp⟩) S0.out ?_
 simp only[Act.put,zT,zZ,zS]
 refine wpAnyH_ready (rs:=[10,13]) (by kernel_rfl) (by simp) ?_
 refine AllReadyH.cons rfl (fun K hK=>?_) ?_
 ·rw[if_pos (by rfl)]
  have cl:x1.cell? ⟨B.rg,a,none⟩=some (.int .i64 (gt H.regs a)):=R0.out.hr.cell R0.out.hr.len a Ra.out
  go_simp
  refine hK.out _ _ S0.out (fun _=>?_)
  clear hK K cl
  refine zR 13 rfl fun K hK=>?_
  rw[if_pos (by rfl)]
  go_simp
  refine(z_off _ _).mono ?_
  rintro e y⟨rfl,hy⟩
  rw[hy]
  clear hy y
  refine hK.out _ _ S0.out (fun _=>?_)
  clear hK K
  refine zR 14 rfl fun K hK=>?_
  rw[if_pos (by rfl)]
  go_simp
  refine(spec_add _ _ _).mono ?_
  rintro e y⟨rfl,hy⟩
  rw[hy]
  clear hy y
  refine hK.out _ _ S0.out (fun _=>?_)
  clear hK K
  refine zR 15 rfl fun K hK=>?_
  rw[if_pos (by rfl)]
  go_simp
  refine(z_put R0.out d Rd.out (addV (gt H.regs a) (offV im))).mono ?_
  rintro e x2⟨rfl,⟨r2,b2⟩,m2⟩
  have R2:=hid r2
  have B2:Hid (Below B.base w x2):=B0.out.trans b2
  have S2:Hid (Vb x2 n #[.int .i64 12,.int .i64 (d:Int),.int .i64 (a:Int),.int .i64 im] 43∧x2.cell? ⟨B.q,3,none⟩=some (.slice (some ⟨B.rg,0,none⟩) 16 B.rk)∧x2.cell? ⟨B.q,1,none⟩=some (.slice (some ⟨B.gm,0,none⟩) (B.p*8) B.mc)):=⟨m2.vb S0.out.1 fun e=>QN.out.2.1 e,R2.out.v.cell 3 rfl,R2.out.v.cell 1 rfl⟩
  clear r2 b2 m2
  refine hK.out _ _ S2.out (fun _=>?_)
  clear hK K
  refine wpAnyH_done (by kernel_rfl) ?_ _
  have d4:x2.cell? ⟨B.q,4,none⟩=some (.int .i64 (putV H d (addV (gt H.regs a) (offV im))).pc):=R2.out.v.cell 4 rfl
  have f4:=R2.out.v.free 4
  go_wp2_with fail
  go_ret
  have U:=R2.out.fld (G:={ putV H d (addV (gt H.regs a) (offV im))with pc:=(addV H.pc 1)}) (ri':= -1) (fa':= -1) 4 (.int .i64 (addV H.pc 1)) rfl rfl rfl rfl rfl
  first|exact⟨rfl,_,_,U.1,B2.out.trans U.2⟩|exact⟨rfl,⟨_,_,U.1⟩,B2.out.trans U.2⟩
 refine AllReadyH.cons rfl (fun K hK=>?_) AllReadyH.nil
 rw[if_pos (by rfl)]
 go_simp
 refine(z_off _ _).mono ?_
 rintro e y⟨rfl,hy⟩
 rw[hy]
 clear hy y
 refine hK.out _ _ S0.out (fun _=>?_)
 clear hK K
 refine zR 10 rfl fun K hK=>?_
 rw[if_pos (by rfl)]
 have cl:x1.cell? ⟨B.rg,a,none⟩=some (.int .i64 (gt H.regs a)):=R0.out.hr.cell R0.out.hr.len a Ra.out
 go_simp
 refine hK.out _ _ S0.out (fun _=>?_)
 clear hK K cl
 refine zR 14 rfl fun K hK=>?_
 rw[if_pos (by rfl)]
 go_simp
 refine(spec_add _ _ _).mono ?_
 rintro e y⟨rfl,hy⟩
 rw[hy]
 clear hy y
 refine hK.out _ _ S0.out (fun _=>?_)
 clear hK K
 refine zR 15 rfl fun K hK=>?_
 rw[if_pos (by rfl)]
 go_simp
 refine(z_put R0.out d Rd.out (addV (gt H.regs a) (offV im))).mono ?_
 rintro e x2⟨rfl,⟨r2,b2⟩,m2⟩
 have R2:=hid r2
 have B2:Hid (Below B.base w x2):=B0.out.trans b2
 have S2:Hid (Vb x2 n #[.int .i64 12,.int .i64 (d:Int),.int .i64 (a:Int),.int .i64 im] 43∧x2.cell? ⟨B.q,3,none⟩=some (.slice (some ⟨B.rg,0,none⟩) 16 B.rk)∧x2.cell? ⟨B.q,1,none⟩=some (.slice (some ⟨B.gm,0,none⟩) (B.p*8) B.mc)):=⟨m2.vb S0.out.1 fun e=>QN.out.2.1 e,R2.out.v.cell 3 rfl,R2.out.v.cell 1 rfl⟩
 clear r2 b2 m2
 refine hK.out _ _ S2.out (fun _=>?_)
 clear hK K
 refine wpAnyH_done (by kernel_rfl) ?_ _
 have d4:x2.cell? ⟨B.q,4,none⟩=some (.int .i64 (putV H d (addV (gt H.regs a) (offV im))).pc):=R2.out.v.cell 4 rfl
 have f4:=R2.out.v.free 4
 go_wp2_with fail
 go_ret
 have U:=R2.out.fld (G:={ putV H d (addV (gt H.regs a) (offV im))with pc:=(addV H.pc 1)}) (ri':= -1) (fa':= -1) 4 (.int .i64 (addV H.pc 1)) rfl rfl rfl rfl rfl
 first|exact⟨rfl,_,_,U.1,B2.out.trans U.2⟩|exact⟨rfl,⟨_,_,U.1⟩,B2.out.trans U.2⟩
theorem zd_13(R:Bs w B i o zs H (-1) (-1))(sn:Sn H B.ps zs B.p)(d a:Nat)(hd:d<16)(ha:a<16)(im:Int)(i0:0≤im)(i6:im≤65535):
  Calls Tryz.prog 63 #[.pointer (some ⟨B.q,0,none⟩),.agg #[.int .i64 13,.int .i64 (d:Int),.int .i64 (a:Int),.int .i64 im]] w fun e w'=>e=.returned (.bool true)∧∃i' o',Bs w' B i' o' zs { putV H d (im*65536)with pc:=(addV H.pc 1)} (-1) (-1)∧Below B.base w w':=by
 have HR:=hid R
 have SN:=hid sn
 have Rd:=hid hd
 have Id:Hid ((d:Int)<16):=by show _<_;omega
 have Ra:=hid ha
 have Ia:Hid ((a:Int)<16):=by show _<_;omega
 clear R sn
 go_enter Tryz.func63,Tryz.ntmps63
 go_upto_region 1 with fail
 generalize hW:w.alloc (.cells #[.int .i64 13,.int .i64 (d:Int),.int .i64 (a:Int),.int .i64 im] 43)=W1
 obtain⟨n,hn⟩:∃n,w.heap.size=n:=⟨_,rfl⟩
 rw[hn]
 have VN:Hid (Vb W1 n #[.int .i64 13,.int .i64 (d:Int),.int .i64 (a:Int),.int .i64 im] 43):=by show Vb _ _ _ _;rw[←hW,←hn];exact Vb.new _ _ _
 have bb:Below w.heap.size w W1:=by rw[←hW];exact al (Below.refl _ _) _
 have R1:=hid (HR.out.keep bb)
 have B1:Hid (Below B.base w W1):=bless bb HR.out.size
 have QN:Hid (n≠B.q∧n≠B.rg∧n≠B.cg∧n≠B.gm∧o.ownBlock≠some n):=by
  obtain⟨bo,_,_,ho,_⟩:=HR.out.ho
  exact⟨by have:=HR.out.v.lt;omega,by have:=(HR.out.hr.lt B.rg rfl).2;omega,by have:=(HR.out.hc.lt B.cg rfl).2;omega,by have:=(HR.out.hm.lt B.gm rfl).2;omega,fun e=>by have:=(ho.lt n e).2;omega⟩
 clear hW hn bb
 have c4:W1.cell? ⟨B.q,4,none⟩=some (.int .i64 H.pc):=R1.out.v.cell 4 rfl
 have c3:W1.cell? ⟨B.q,3,none⟩=some (.slice (some ⟨B.rg,0,none⟩) 16 B.rk):=R1.out.v.cell 3 rfl
 have ca:W1.cell? ⟨B.rg,a,none⟩=some (.int .i64 (gt H.regs a)):=R1.out.hr.cell R1.out.hr.len a Ra.out
 have n0:W1.cell? ⟨n,0,none⟩=some (.int .i64 13):=VN.out.cell 0 rfl
 have n2:W1.cell? ⟨n,2,none⟩=some (.int .i64 (a:Int)):=VN.out.cell 2 rfl
 have n3:W1.cell? ⟨n,3,none⟩=some (.int .i64 im):=VN.out.cell 3 rfl
 have aI:=Ia.out
 go_upto_region 3 with(go_at_call 100;refine(spec_add _ _ _).mono ?_;rintro e y ⟨rfl,hy⟩;rw[hy];clear hy y)
 go_quiet (first|(go_at_call 101;exact Calls.quiet_of_same (z_off _ _))|(go_at_call 100;exact Calls.quiet_of_same (spec_add _ _ _)))
 have R0:Hid (Bs (W1.drewN nq) B i o zs H (-1) (-1)):=R1.out.keep (dr (Below.refl _ _) _)
 have V0:Hid (Vb (W1.drewN nq) n #[.int .i64 13,.int .i64 (d:Int),.int .i64 (a:Int),.int .i64 im] 43):=VN.out
 have B0:Hid (Below B.base w (W1.drewN nq)):=dr B1.out _
 clear R1 VN B1 c4 c3 ca n0 n2 n3 aI
 generalize W1.drewN nq=x0 at*
 have n1:x0.cell? ⟨n,1,none⟩=some (.int .i64 (d:Int)):=V0.out.cell 1 rfl
 have n3:x0.cell? ⟨n,3,none⟩=some (.int .i64 im):=V0.out.cell 3 rfl
 have n0:x0.cell? ⟨n,0,none⟩=some (.int .i64 13):=V0.out.cell 0 rfl
 go_wp2_with fail
 refine(z_put R0.out d Rd.out (im*65536)).mono ?_
 rintro e x2⟨rfl,⟨r2,b2⟩,m2⟩
 have R2:=hid r2
 have B2:Hid (Below B.base w x2):=B0.out.trans b2
 clear r2 b2 m2 n1 n3 n0
 have d4:x2.cell? ⟨B.q,4,none⟩=some (.int .i64 (putV H d (im*65536)).pc):=R2.out.v.cell 4 rfl
 have f4:=R2.out.v.free 4
 go_wp2_with fail
 go_ret
 have U:=R2.out.fld (G:={ putV H d (im*65536)with pc:=(addV H.pc 1)}) (ri':= -1) (fa':= -1) 4 (.int .i64 (addV H.pc 1)) rfl rfl rfl rfl rfl
 first|exact⟨rfl,_,_,U.1,B2.out.trans U.2⟩|exact⟨rfl,⟨_,_,U.1⟩,B2.out.trans U.2⟩
theorem zd_19(R:Bs w B i o zs H (-1) (-1))(sn:Sn H B.ps zs B.p)(d a:Nat)(hd:d<16)(ha:a<16)(im:Int)(i0:0≤im)(i6:im≤65535):
  Calls Tryz.prog 63 #[.pointer (some ⟨B.q,0,none⟩),.agg #[.int .i64 19,.int .i64 (d:Int),.int .i64 (a:Int),.int .i64 im]] w fun e w'=>e=.returned (.bool true)∧∃i' o',Bs w' B i' o' zs { putV H d (addV H.pc 1)with pc:=(addV H.pc (offV im))} (-1) (-1)∧Below B.base w w':=by
 have HR:=hid R
 have SN:=hid sn
 have Rd:=hid hd
 have Id:Hid ((d:Int)<16):=by show _<_;omega
 have Ra:=hid ha
 have Ia:Hid ((a:Int)<16):=by show _<_;omega
 clear R sn
 go_enter Tryz.func63,Tryz.ntmps63
 go_upto_region 1 with fail
 generalize hW:w.alloc (.cells #[.int .i64 19,.int .i64 (d:Int),.int .i64 (a:Int),.int .i64 im] 43)=W1
 obtain⟨n,hn⟩:∃n,w.heap.size=n:=⟨_,rfl⟩
 rw[hn]
 have VN:Hid (Vb W1 n #[.int .i64 19,.int .i64 (d:Int),.int .i64 (a:Int),.int .i64 im] 43):=by show Vb _ _ _ _;rw[←hW,←hn];exact Vb.new _ _ _
 have bb:Below w.heap.size w W1:=by rw[←hW];exact al (Below.refl _ _) _
 have R1:=hid (HR.out.keep bb)
 have B1:Hid (Below B.base w W1):=bless bb HR.out.size
 have QN:Hid (n≠B.q∧n≠B.rg∧n≠B.cg∧n≠B.gm∧o.ownBlock≠some n):=by
  obtain⟨bo,_,_,ho,_⟩:=HR.out.ho
  exact⟨by have:=HR.out.v.lt;omega,by have:=(HR.out.hr.lt B.rg rfl).2;omega,by have:=(HR.out.hc.lt B.cg rfl).2;omega,by have:=(HR.out.hm.lt B.gm rfl).2;omega,fun e=>by have:=(ho.lt n e).2;omega⟩
 clear hW hn bb
 have c4:W1.cell? ⟨B.q,4,none⟩=some (.int .i64 H.pc):=R1.out.v.cell 4 rfl
 have c3:W1.cell? ⟨B.q,3,none⟩=some (.slice (some ⟨B.rg,0,none⟩) 16 B.rk):=R1.out.v.cell 3 rfl
 have ca:W1.cell? ⟨B.rg,a,none⟩=some (.int .i64 (gt H.regs a)):=R1.out.hr.cell R1.out.hr.len a Ra.out
 have n0:W1.cell? ⟨n,0,none⟩=some (.int .i64 19):=VN.out.cell 0 rfl
 have n2:W1.cell? ⟨n,2,none⟩=some (.int .i64 (a:Int)):=VN.out.cell 2 rfl
 have n3:W1.cell? ⟨n,3,none⟩=some (.int .i64 im):=VN.out.cell 3 rfl
 have aI:=Ia.out
 go_upto_region 3 with(go_at_call 100;refine(spec_add _ _ _).mono ?_;rintro e y ⟨rfl,hy⟩;rw[hy];clear hy y)
 go_quiet (first|(go_at_call 101;exact Calls.quiet_of_same (z_off _ _))|(go_at_call 100;exact Calls.quiet_of_same (spec_add _ _ _)))
 have R0:Hid (Bs (W1.drewN nq) B i o zs H (-1) (-1)):=R1.out.keep (dr (Below.refl _ _) _)
 have V0:Hid (Vb (W1.drewN nq) n #[.int .i64 19,.int .i64 (d:Int),.int .i64 (a:Int),.int .i64 im] 43):=VN.out
 have B0:Hid (Below B.base w (W1.drewN nq)):=dr B1.out _
 clear R1 VN B1 c4 c3 ca n0 n2 n3 aI
 generalize W1.drewN nq=x0 at*
 have n1:x0.cell? ⟨n,1,none⟩=some (.int .i64 (d:Int)):=V0.out.cell 1 rfl
 have n3:x0.cell? ⟨n,3,none⟩=some (.int .i64 im):=V0.out.cell 3 rfl
 have n0:x0.cell? ⟨n,0,none⟩=some (.int .i64 19):=V0.out.cell 0 rfl
 go_wp2_with fail
 refine(z_put R0.out d Rd.out (addV H.pc 1)).mono ?_
 rintro e x2⟨rfl,⟨r2,b2⟩,m2⟩
 have R2:=hid r2
 have B2:Hid (Below B.base w x2):=B0.out.trans b2
 clear r2 b2 m2 n1 n3 n0
 have d4:x2.cell? ⟨B.q,4,none⟩=some (.int .i64 (putV H d (addV H.pc 1)).pc):=R2.out.v.cell 4 rfl
 have f4:=R2.out.v.free 4
 go_wp2_with fail
 go_ret
 have U:=R2.out.fld (G:={ putV H d (addV H.pc 1)with pc:=(addV H.pc (offV im))}) (ri':= -1) (fa':= -1) 4 (.int .i64 (addV H.pc (offV im))) rfl rfl rfl rfl rfl
 first|exact⟨rfl,_,_,U.1,B2.out.trans U.2⟩|exact⟨rfl,⟨_,_,U.1⟩,B2.out.trans U.2⟩
theorem zd_20(R:Bs w B i o zs H (-1) (-1))(sn:Sn H B.ps zs B.p)(d a:Nat)(hd:d<16)(ha:a<16)(im:Int)(i0:0≤im)(i6:im≤65535):
  Calls Tryz.prog 63 #[.pointer (some ⟨B.q,0,none⟩),.agg #[.int .i64 20,.int .i64 (d:Int),.int .i64 (a:Int),.int .i64 im]] w fun e w'=>e=.returned (.bool true)∧∃i' o',Bs w' B i' o' zs { putV H d (addV H.pc 1)with pc:=(addV (gt H.regs a) (offV im))} (-1) (-1)∧Below B.base w w':=by
 have HR:=hid R
 have SN:=hid sn
 have Rd:=hid hd
 have Id:Hid ((d:Int)<16):=by show _<_;omega
 have Ra:=hid ha
 have Ia:Hid ((a:Int)<16):=by show _<_;omega
 clear R sn
 go_enter Tryz.func63,Tryz.ntmps63
 go_upto_region 1 with fail
 generalize hW:w.alloc (.cells #[.int .i64 20,.int .i64 (d:Int),.int .i64 (a:Int),.int .i64 im] 43)=W1
 obtain⟨n,hn⟩:∃n,w.heap.size=n:=⟨_,rfl⟩
 rw[hn]
 have VN:Hid (Vb W1 n #[.int .i64 20,.int .i64 (d:Int),.int .i64 (a:Int),.int .i64 im] 43):=by show Vb _ _ _ _;rw[←hW,←hn];exact Vb.new _ _ _
 have bb:Below w.heap.size w W1:=by rw[←hW];exact al (Below.refl _ _) _
 have R1:=hid (HR.out.keep bb)
 have B1:Hid (Below B.base w W1):=bless bb HR.out.size
 have QN:Hid (n≠B.q∧n≠B.rg∧n≠B.cg∧n≠B.gm∧o.ownBlock≠some n):=by
  obtain⟨bo,_,_,ho,_⟩:=HR.out.ho
  exact⟨by have:=HR.out.v.lt;omega,by have:=(HR.out.hr.lt B.rg rfl).2;omega,by have:=(HR.out.hc.lt B.cg rfl).2;omega,by have:=(HR.out.hm.lt B.gm rfl).2;omega,fun e=>by have:=(ho.lt n e).2;omega⟩
 clear hW hn bb
 have c4:W1.cell? ⟨B.q,4,none⟩=some (.int .i64 H.pc):=R1.out.v.cell 4 rfl
 have c3:W1.cell? ⟨B.q,3,none⟩=some (.slice (some ⟨B.rg,0,none⟩) 16 B.rk):=R1.out.v.cell 3 rfl
 have ca:W1.cell? ⟨B.rg,a,none⟩=some (.int .i64 (gt H.regs a)):=R1.out.hr.cell R1.out.hr.len a Ra.out
 have n0:W1.cell? ⟨n,0,none⟩=some (.int .i64 20):=VN.out.cell 0 rfl
 have n2:W1.cell? ⟨n,2,none⟩=some (.int .i64 (a:Int)):=VN.out.cell 2 rfl
 have n3:W1.cell? ⟨n,3,none⟩=some (.int .i64 im):=VN.out.cell 3 rfl
 have aI:=Ia.out
 go_upto_region 3 with(go_at_call 100;refine(spec_add _ _ _).mono ?_;rintro e y ⟨rfl,hy⟩;rw[hy];clear hy y)
 go_quiet (first|(go_at_call 101;exact Calls.quiet_of_same (z_off _ _))|(go_at_call 100;exact Calls.quiet_of_same (spec_add _ _ _)))
 have R0:Hid (Bs (W1.drewN nq) B i o zs H (-1) (-1)):=R1.out.keep (dr (Below.refl _ _) _)
 have V0:Hid (Vb (W1.drewN nq) n #[.int .i64 20,.int .i64 (d:Int),.int .i64 (a:Int),.int .i64 im] 43):=VN.out
 have B0:Hid (Below B.base w (W1.drewN nq)):=dr B1.out _
 clear R1 VN B1 c4 c3 ca n0 n2 n3 aI
 generalize W1.drewN nq=x0 at*
 have n0:x0.cell? ⟨n,0,none⟩=some (.int .i64 20):=V0.out.cell 0 rfl
 have n2:x0.cell? ⟨n,2,none⟩=some (.int .i64 (a:Int)):=V0.out.cell 2 rfl
 have n3:x0.cell? ⟨n,3,none⟩=some (.int .i64 im):=V0.out.cell 3 rfl
 have c3:x0.cell? ⟨B.q,3,none⟩=some (.slice (some ⟨B.rg,0,none⟩) 16 B.rk):=R0.out.v.cell 3 rfl
 have ca:x0.cell? ⟨B.rg,a,none⟩=some (.int .i64 (gt H.regs a)):=R0.out.hr.cell R0.out.hr.len a Ra.out
 have aI:=Ia.out
 go_upto_region 23 with fail
 go_quiet (first|(go_at_call 101;exact Calls.quiet_of_same (z_off _ _))|(go_at_call 100;exact Calls.quiet_of_same (spec_add _ _ _)))
 have R4:Hid (Bs (x0.drewN nq) B i o zs H (-1) (-1)):=R0.out.keep (dr (Below.refl _ _) _)
 have V4:Hid (Vb (x0.drewN nq) n #[.int .i64 20,.int .i64 (d:Int),.int .i64 (a:Int),.int .i64 im] 43):=V0.out
 have B4:Hid (Below B.base w (x0.drewN nq)):=dr B0.out _
 clear n0 n2 n3 c3 ca aI R0 V0 B0
 generalize x0.drewN nq=x4 at*
 have n1:x4.cell? ⟨n,1,none⟩=some (.int .i64 (d:Int)):=V4.out.cell 1 rfl
 go_wp2_with fail
 refine(z_put R4.out d Rd.out (addV H.pc 1)).mono ?_
 rintro e x2⟨rfl,⟨r2,b2⟩,m2⟩
 have R2:=hid r2
 have B2:Hid (Below B.base w x2):=B4.out.trans b2
 clear r2 b2 m2 n1
 have d4:x2.cell? ⟨B.q,4,none⟩=some (.int .i64 (putV H d (addV H.pc 1)).pc):=R2.out.v.cell 4 rfl
 have f4:=R2.out.v.free 4
 go_wp2_with fail
 go_ret
 have U:=R2.out.fld (G:={ putV H d (addV H.pc 1)with pc:=(addV (gt H.regs a) (offV im))}) (ri':= -1) (fa':= -1) 4 (.int .i64 (addV (gt H.regs a) (offV im))) rfl rfl rfl rfl rfl
 first|exact⟨rfl,_,_,U.1,B2.out.trans U.2⟩|exact⟨rfl,⟨_,_,U.1⟩,B2.out.trans U.2⟩
theorem zd_21(R:Bs w B i o zs H (-1) (-1))(sn:Sn H B.ps zs B.p)(d a:Nat)(hd:d<16)(ha:a<16)(im:Int)(i0:0≤im)(i6:im≤65535)(i10:im≤10):
  Calls Tryz.prog 63 #[.pointer (some ⟨B.q,0,none⟩),.agg #[.int .i64 21,.int .i64 (d:Int),.int .i64 (a:Int),.int .i64 im]] w fun e w'=>e=.returned (.bool true)∧∃i' o',Bs w' B i' o' zs { putV H d (getV H im)with pc:=(addV H.pc 1)} (-1) (-1)∧Below B.base w w':=by
 have HR:=hid R
 have SN:=hid sn
 have Rd:=hid hd
 have Id:Hid ((d:Int)<16):=by show _<_;omega
 have Ra:=hid ha
 have Ia:Hid ((a:Int)<16):=by show _<_;omega
 have Ii:Hid (0≤im∧im≤10):=⟨i0,i10⟩
 clear R sn
 go_enter Tryz.func63,Tryz.ntmps63
 go_upto_region 1 with fail
 generalize hW:w.alloc (.cells #[.int .i64 21,.int .i64 (d:Int),.int .i64 (a:Int),.int .i64 im] 43)=W1
 obtain⟨n,hn⟩:∃n,w.heap.size=n:=⟨_,rfl⟩
 rw[hn]
 have VN:Hid (Vb W1 n #[.int .i64 21,.int .i64 (d:Int),.int .i64 (a:Int),.int .i64 im] 43):=by show Vb _ _ _ _;rw[←hW,←hn];exact Vb.new _ _ _
 have bb:Below w.heap.size w W1:=by rw[←hW];exact al (Below.refl _ _) _
 have R1:=hid (HR.out.keep bb)
 have B1:Hid (Below B.base w W1):=bless bb HR.out.size
 have QN:Hid (n≠B.q∧n≠B.rg∧n≠B.cg∧n≠B.gm∧o.ownBlock≠some n):=by
  obtain⟨bo,_,_,ho,_⟩:=HR.out.ho
  exact⟨by have:=HR.out.v.lt;omega,by have:=(HR.out.hr.lt B.rg rfl).2;omega,by have:=(HR.out.hc.lt B.cg rfl).2;omega,by have:=(HR.out.hm.lt B.gm rfl).2;omega,fun e=>by have:=(ho.lt n e).2;omega⟩
 clear hW hn bb
 have c4:W1.cell? ⟨B.q,4,none⟩=some (.int .i64 H.pc):=R1.out.v.cell 4 rfl
 have c3:W1.cell? ⟨B.q,3,none⟩=some (.slice (some ⟨B.rg,0,none⟩) 16 B.rk):=R1.out.v.cell 3 rfl
 have ca:W1.cell? ⟨B.rg,a,none⟩=some (.int .i64 (gt H.regs a)):=R1.out.hr.cell R1.out.hr.len a Ra.out
 have n0:W1.cell? ⟨n,0,none⟩=some (.int .i64 21):=VN.out.cell 0 rfl
 have n2:W1.cell? ⟨n,2,none⟩=some (.int .i64 (a:Int)):=VN.out.cell 2 rfl
 have n3:W1.cell? ⟨n,3,none⟩=some (.int .i64 im):=VN.out.cell 3 rfl
 have aI:=Ia.out
 go_upto_region 3 with(go_at_call 100;refine(spec_add _ _ _).mono ?_;rintro e y ⟨rfl,hy⟩;rw[hy];clear hy y)
 go_quiet (first|(go_at_call 101;exact Calls.quiet_of_same (z_off _ _))|(go_at_call 100;exact Calls.quiet_of_same (spec_add _ _ _)))
 have R0:Hid (Bs (W1.drewN nq) B i o zs H (-1) (-1)):=R1.out.keep (dr (Below.refl _ _) _)
 have V0:Hid (Vb (W1.drewN nq) n #[.int .i64 21,.int .i64 (d:Int),.int .i64 (a:Int),.int .i64 im] 43):=VN.out
 have B0:Hid (Below B.base w (W1.drewN nq)):=dr B1.out _
 clear R1 VN B1 c4 c3 ca n0 n2 n3 aI
 generalize W1.drewN nq=x0 at*
 have n0:x0.cell? ⟨n,0,none⟩=some (.int .i64 21):=V0.out.cell 0 rfl
 go_upto_region 27 with fail
 clear n0
 have S0:Hid (Vb x0.drew n #[.int .i64 21,.int .i64 (d:Int),.int .i64 (a:Int),.int .i64 im] 43∧x0.drew.cell? ⟨B.q,3,none⟩=some (.slice (some ⟨B.rg,0,none⟩) 16 B.rk)∧x0.drew.cell? ⟨B.q,1,none⟩=some (.slice (some ⟨B.gm,0,none⟩) (B.p*8) B.mc)):=⟨V0.out,R0.out.v.cell 3 rfl,R0.out.v.cell 1 rfl⟩
 replace R0:=hid_dr R0
 replace B0:=hid_bd B0
 refine wp_region_held (S:=fun w'=>Vb w' n #[.int .i64 21,.int .i64 (d:Int),.int .i64 (a:Int),.int .i64 im] 43∧w'.cell? ⟨B.q,3,none⟩=some (.slice (some ⟨B.rg,0,none⟩) 16 B.rk)∧w'.cell? ⟨B.q,1,none⟩=some (.slice (some ⟨B.gm,0,none⟩) (B.p*8) B.mc)) (by kernel_rfl) ?_
 change wpAnyH _ _ _ _ _ _ _ _ (World.drew _)
 generalize x0.drew=x1 at*
 refine wpTd 0 122 (.pointer (some ⟨B.q,0,none⟩)) rfl S0.out ?_
 simp only[Act.put,zT,zZ,zS]
 refine wpTd 1 123 (.pointer (some ⟨n,1,none⟩)) rfl S0.out ?_
 simp only[Act.put,zT,zZ,zS]
 refine wpTe 2 124 (.int .i64 (d:Int)) rfl (Or.inl ⟨by rfl,fun w' hs=>by have hc:=(hs.1.cell 1 rfl:w'.cell? ⟨n,1,none⟩=some (.int .i64 (d:Int)));go_simp⟩) S0.out ?_
 simp only[Act.put,zT,zZ,zS]
 refine wpTd 3 125 (.pointer (some ⟨B.q,3,none⟩)) rfl S0.out ?_
 simp only[Act.put,zT,zZ,zS]
 refine wpTd 4 126 (.pointer (some ⟨n,3,none⟩)) rfl S0.out ?_
 simp only[Act.put,zT,zZ,zS]
 refine wpTe 5 127 (.int .i64 im) rfl (Or.inl ⟨by rfl,fun w' hs=>by have hc:=(hs.1.cell 3 rfl:w'.cell? ⟨n,3,none⟩=some (.int .i64 im));go_simp⟩) S0.out ?_
 simp only[Act.put,zT,zZ,zS]
 refine zR 6 rfl fun K hK=>?_
 rw[if_pos (by rfl)]
 go_simp
 refine(z_get R0.out im Ii.out.1 Ii.out.2).mono ?_
 rintro e x3⟨rfl,b3⟩
 have R3:=hid (R0.out.keep b3)
 have B3:Hid (Below B.base w x3):=B0.out.trans (bless b3 R0.out.size)
 have S3:Hid (Vb x3 n #[.int .i64 21,.int .i64 (d:Int),.int .i64 (a:Int),.int .i64 im] 43∧x3.cell? ⟨B.q,3,none⟩=some (.slice (some ⟨B.rg,0,none⟩) 16 B.rk)∧x3.cell? ⟨B.q,1,none⟩=some (.slice (some ⟨B.gm,0,none⟩) (B.p*8) B.mc)):=⟨S0.out.1.keep b3,R3.out.v.cell 3 rfl,R3.out.v.cell 1 rfl⟩
 clear b3
 refine hK.out _ _ S3.out (fun _=>?_)
 clear hK K
 refine zR 7 rfl fun K hK=>?_
 rw[if_pos (by rfl)]
 go_simp
 refine(z_put R3.out d Rd.out (getV H im)).mono ?_
 rintro e x2⟨rfl,⟨r2,b2⟩,m2⟩
 have R2:=hid r2
 have B2:Hid (Below B.base w x2):=B3.out.trans b2
 have S2:Hid (Vb x2 n #[.int .i64 21,.int .i64 (d:Int),.int .i64 (a:Int),.int .i64 im] 43∧x2.cell? ⟨B.q,3,none⟩=some (.slice (some ⟨B.rg,0,none⟩) 16 B.rk)∧x2.cell? ⟨B.q,1,none⟩=some (.slice (some ⟨B.gm,0,none⟩) (B.p*8) B.mc)):=⟨m2.vb S3.out.1 fun e=>QN.out.2.1 e,R2.out.v.cell 3 rfl,R2.out.v.cell 1 rfl⟩
 clear r2 b2 m2
 refine hK.out _ _ S2.out (fun _=>?_)
 clear hK K
 refine wpAnyH_done (by kernel_rfl) ?_ _
 have d4:x2.cell? ⟨B.q,4,none⟩=some (.int .i64 (putV H d (getV H im)).pc):=R2.out.v.cell 4 rfl
 have f4:=R2.out.v.free 4
 go_wp2_with fail
 go_ret
 have U:=R2.out.fld (G:={ putV H d (getV H im)with pc:=(addV H.pc 1)}) (ri':= -1) (fa':= -1) 4 (.int .i64 (addV H.pc 1)) rfl rfl rfl rfl rfl
 first|exact⟨rfl,_,_,U.1,B2.out.trans U.2⟩|exact⟨rfl,⟨_,_,U.1⟩,B2.out.trans U.2⟩
theorem zd_22(R:Bs w B i o zs H (-1) (-1))(sn:Sn H B.ps zs B.p)(d a:Nat)(hd:d<16)(ha:a<16)(im:Int)(i0:0≤im)(i6:im≤65535)(i10:im≤10):
  Calls Tryz.prog 63 #[.pointer (some ⟨B.q,0,none⟩),.agg #[.int .i64 22,.int .i64 (d:Int),.int .i64 (a:Int),.int .i64 im]] w fun e w'=>e=.returned (.bool true)∧∃i' o',Bs w' B i' o' zs { setW H im (gt H.regs a)with pc:=(addV H.pc 1)} (-1) (-1)∧Below B.base w w':=by
 have HR:=hid R
 have SN:=hid sn
 have Rd:=hid hd
 have Id:Hid ((d:Int)<16):=by show _<_;omega
 have Ra:=hid ha
 have Ia:Hid ((a:Int)<16):=by show _<_;omega
 have Ii:Hid (0≤im∧im≤10):=⟨i0,i10⟩
 have HD:Hid (setV H im (gt H.regs a)=setW H im (gt H.regs a)):=by show _=_;rw[setW_wd,wd_id (isW_iff.1 (gt_isW sn.hok.rw a))]
 clear R sn
 go_enter Tryz.func63,Tryz.ntmps63
 go_upto_region 1 with fail
 generalize hW:w.alloc (.cells #[.int .i64 22,.int .i64 (d:Int),.int .i64 (a:Int),.int .i64 im] 43)=W1
 obtain⟨n,hn⟩:∃n,w.heap.size=n:=⟨_,rfl⟩
 rw[hn]
 have VN:Hid (Vb W1 n #[.int .i64 22,.int .i64 (d:Int),.int .i64 (a:Int),.int .i64 im] 43):=by show Vb _ _ _ _;rw[←hW,←hn];exact Vb.new _ _ _
 have bb:Below w.heap.size w W1:=by rw[←hW];exact al (Below.refl _ _) _
 have R1:=hid (HR.out.keep bb)
 have B1:Hid (Below B.base w W1):=bless bb HR.out.size
 have QN:Hid (n≠B.q∧n≠B.rg∧n≠B.cg∧n≠B.gm∧o.ownBlock≠some n):=by
  obtain⟨bo,_,_,ho,_⟩:=HR.out.ho
  exact⟨by have:=HR.out.v.lt;omega,by have:=(HR.out.hr.lt B.rg rfl).2;omega,by have:=(HR.out.hc.lt B.cg rfl).2;omega,by have:=(HR.out.hm.lt B.gm rfl).2;omega,fun e=>by have:=(ho.lt n e).2;omega⟩
 clear hW hn bb
 have c4:W1.cell? ⟨B.q,4,none⟩=some (.int .i64 H.pc):=R1.out.v.cell 4 rfl
 have c3:W1.cell? ⟨B.q,3,none⟩=some (.slice (some ⟨B.rg,0,none⟩) 16 B.rk):=R1.out.v.cell 3 rfl
 have ca:W1.cell? ⟨B.rg,a,none⟩=some (.int .i64 (gt H.regs a)):=R1.out.hr.cell R1.out.hr.len a Ra.out
 have n0:W1.cell? ⟨n,0,none⟩=some (.int .i64 22):=VN.out.cell 0 rfl
 have n2:W1.cell? ⟨n,2,none⟩=some (.int .i64 (a:Int)):=VN.out.cell 2 rfl
 have n3:W1.cell? ⟨n,3,none⟩=some (.int .i64 im):=VN.out.cell 3 rfl
 have aI:=Ia.out
 go_upto_region 3 with(go_at_call 100;refine(spec_add _ _ _).mono ?_;rintro e y ⟨rfl,hy⟩;rw[hy];clear hy y)
 go_quiet (first|(go_at_call 101;exact Calls.quiet_of_same (z_off _ _))|(go_at_call 100;exact Calls.quiet_of_same (spec_add _ _ _)))
 have R0:Hid (Bs (W1.drewN nq) B i o zs H (-1) (-1)):=R1.out.keep (dr (Below.refl _ _) _)
 have V0:Hid (Vb (W1.drewN nq) n #[.int .i64 22,.int .i64 (d:Int),.int .i64 (a:Int),.int .i64 im] 43):=VN.out
 have B0:Hid (Below B.base w (W1.drewN nq)):=dr B1.out _
 clear R1 VN B1 c4 c3 ca n0 n2 n3 aI
 generalize W1.drewN nq=x0 at*
 have n0:x0.cell? ⟨n,0,none⟩=some (.int .i64 22):=V0.out.cell 0 rfl
 go_upto_region 29 with fail
 clear n0
 have S0:Hid (Vb x0.drew n #[.int .i64 22,.int .i64 (d:Int),.int .i64 (a:Int),.int .i64 im] 43∧x0.drew.cell? ⟨B.q,3,none⟩=some (.slice (some ⟨B.rg,0,none⟩) 16 B.rk)∧x0.drew.cell? ⟨B.q,1,none⟩=some (.slice (some ⟨B.gm,0,none⟩) (B.p*8) B.mc)):=⟨V0.out,R0.out.v.cell 3 rfl,R0.out.v.cell 1 rfl⟩
 replace R0:=hid_dr R0
 replace B0:=hid_bd B0
 refine wp_region_held (S:=fun w'=>Vb w' n #[.int .i64 22,.int .i64 (d:Int),.int .i64 (a:Int),.int .i64 im] 43∧w'.cell? ⟨B.q,3,none⟩=some (.slice (some ⟨B.rg,0,none⟩) 16 B.rk)∧w'.cell? ⟨B.q,1,none⟩=some (.slice (some ⟨B.gm,0,none⟩) (B.p*8) B.mc)) (by kernel_rfl) ?_
 change wpAnyH _ _ _ _ _ _ _ _ (World.drew _)
 generalize x0.drew=x1 at*
 refine wpTd 0 132 (.pointer (some ⟨B.q,3,none⟩)) rfl S0.out ?_
 simp only[Act.put,zT,zZ,zS]
 refine wpTd 1 133 (.pointer (some ⟨n,3,none⟩)) rfl S0.out ?_
 simp only[Act.put,zT,zZ,zS]
 refine wpTe 2 134 (.int .i64 im) rfl (Or.inl ⟨by rfl,fun w' hs=>by have hc:=(hs.1.cell 3 rfl:w'.cell? ⟨n,3,none⟩=some (.int .i64 im));go_simp⟩) S0.out ?_
 simp only[Act.put,zT,zZ,zS]
 refine wpTd 3 135 (.pointer (some ⟨B.q,3,none⟩)) rfl S0.out ?_
 simp only[Act.put,zT,zZ,zS]
 refine wpTd 4 136 (.pointer (some ⟨B.q,3,none⟩)) rfl S0.out ?_
 simp only[Act.put,zT,zZ,zS]
 refine wpTd 5 137 (.pointer (some ⟨B.q,3,none⟩)) rfl S0.out ?_
 simp only[Act.put,zT,zZ,zS]
 refine wpTe 6 138 (.slice (some ⟨B.rg,0,none⟩) 16 B.rk) rfl (Or.inl ⟨by rfl,fun w' hs=>by have hc:=hs.2.1;go_simp⟩) S0.out ?_
 simp only[Act.put,zT,zZ,zS]
 refine wpTd 7 139 (.pointer (some ⟨n,2,none⟩)) rfl S0.out ?_
 simp only[Act.put,zT,zZ,zS]
 refine wpTe 8 140 (.int .i64 (a:Int)) rfl (Or.inl ⟨by rfl,fun w' hs=>by have hc:=(hs.1.cell 2 rfl:w'.cell? ⟨n,2,none⟩=some (.int .i64 (a:Int)));go_simp⟩) S0.out ?_
 simp only[Act.put,zT,zZ,zS]
 refine wpTe 9 141 (.pointer (some ⟨B.rg,a,none⟩)) rfl (Or.inl ⟨by rfl,fun w' hs=>by have h1:=Ia.out;have h2:=Ra.out;go_simp⟩) S0.out ?_
 simp only[Act.put,zT,zZ,zS]
 refine zR 10 rfl fun K hK=>?_
 rw[if_pos (by rfl)]
 have cl:x1.cell? ⟨B.rg,a,none⟩=some (.int .i64 (gt H.regs a)):=R0.out.hr.cell R0.out.hr.len a Ra.out
 go_simp
 refine hK.out _ _ S0.out (fun _=>?_)
 clear hK K cl
 refine zR 11 rfl fun K hK=>?_
 rw[if_pos (by rfl)]
 go_simp
 refine(z_set R0.out SN.out.hok im (gt H.regs a) Ii.out.1 Ii.out.2).mono ?_
 rintro e x2⟨rfl,⟨r2,b2⟩,m2⟩
 rw[HD.out]at r2
 have R2:=hid r2
 have B2:Hid (Below B.base w x2):=B0.out.trans b2
 have S2:Hid (Vb x2 n #[.int .i64 22,.int .i64 (d:Int),.int .i64 (a:Int),.int .i64 im] 43∧x2.cell? ⟨B.q,3,none⟩=some (.slice (some ⟨B.rg,0,none⟩) 16 B.rk)∧x2.cell? ⟨B.q,1,none⟩=some (.slice (some ⟨B.gm,0,none⟩) (B.p*8) B.mc)):=⟨m2.vb S0.out.1 fun e=>e.elim QN.out.1 QN.out.2.2.1,R2.out.v.cell 3 rfl,R2.out.v.cell 1 rfl⟩
 clear r2 b2 m2
 refine hK.out _ _ S2.out (fun _=>?_)
 clear hK K
 refine wpAnyH_done (by kernel_rfl) ?_ _
 have d4:x2.cell? ⟨B.q,4,none⟩=some (.int .i64 (setW H im (gt H.regs a)).pc):=R2.out.v.cell 4 rfl
 have f4:=R2.out.v.free 4
 go_wp2_with fail
 go_ret
 have U:=R2.out.fld (G:={ setW H im (gt H.regs a)with pc:=(addV H.pc 1)}) (ri':= -1) (fa':= -1) 4 (.int .i64 (addV H.pc 1)) rfl rfl rfl rfl rfl
 first|exact⟨rfl,_,_,U.1,B2.out.trans U.2⟩|exact⟨rfl,⟨_,_,U.1⟩,B2.out.trans U.2⟩
theorem zd_16(R:Bs w B i o zs H (-1) (-1))(sn:Sn H B.ps zs B.p)(d a:Nat)(hd:d<16)(ha:a<16)(im:Int)(i0:0≤im)(i6:im≤65535):
  Calls Tryz.prog 63 #[.pointer (some ⟨B.q,0,none⟩),.agg #[.int .i64 16,.int .i64 (d:Int),.int .i64 (a:Int),.int .i64 im]] w fun e w'=>e=.returned (.bool true)∧∃i' o',Bs w' B i' o' zs { H with pc:=(brV (tkV H 16 d a) (addV H.pc (offV im)) (addV H.pc 1))} (-1) (-1)∧Below B.base w w':=by
 have HR:=hid R
 have SN:=hid sn
 have Rd:=hid hd
 have Id:Hid ((d:Int)<16):=by show _<_;omega
 have Ra:=hid ha
 have Ia:Hid ((a:Int)<16):=by show _<_;omega
 clear R sn
 go_enter Tryz.func63,Tryz.ntmps63
 go_upto_region 1 with fail
 generalize hW:w.alloc (.cells #[.int .i64 16,.int .i64 (d:Int),.int .i64 (a:Int),.int .i64 im] 43)=W1
 obtain⟨n,hn⟩:∃n,w.heap.size=n:=⟨_,rfl⟩
 rw[hn]
 have VN:Hid (Vb W1 n #[.int .i64 16,.int .i64 (d:Int),.int .i64 (a:Int),.int .i64 im] 43):=by show Vb _ _ _ _;rw[←hW,←hn];exact Vb.new _ _ _
 have bb:Below w.heap.size w W1:=by rw[←hW];exact al (Below.refl _ _) _
 have R1:=hid (HR.out.keep bb)
 have B1:Hid (Below B.base w W1):=bless bb HR.out.size
 have QN:Hid (n≠B.q∧n≠B.rg∧n≠B.cg∧n≠B.gm∧o.ownBlock≠some n):=by
  obtain⟨bo,_,_,ho,_⟩:=HR.out.ho
  exact⟨by have:=HR.out.v.lt;omega,by have:=(HR.out.hr.lt B.rg rfl).2;omega,by have:=(HR.out.hc.lt B.cg rfl).2;omega,by have:=(HR.out.hm.lt B.gm rfl).2;omega,fun e=>by have:=(ho.lt n e).2;omega⟩
 clear hW hn bb
 have c4:W1.cell? ⟨B.q,4,none⟩=some (.int .i64 H.pc):=R1.out.v.cell 4 rfl
 have c3:W1.cell? ⟨B.q,3,none⟩=some (.slice (some ⟨B.rg,0,none⟩) 16 B.rk):=R1.out.v.cell 3 rfl
 have ca:W1.cell? ⟨B.rg,a,none⟩=some (.int .i64 (gt H.regs a)):=R1.out.hr.cell R1.out.hr.len a Ra.out
 have n0:W1.cell? ⟨n,0,none⟩=some (.int .i64 16):=VN.out.cell 0 rfl
 have n2:W1.cell? ⟨n,2,none⟩=some (.int .i64 (a:Int)):=VN.out.cell 2 rfl
 have n3:W1.cell? ⟨n,3,none⟩=some (.int .i64 im):=VN.out.cell 3 rfl
 have aI:=Ia.out
 go_upto_region 3 with(go_at_call 100;refine(spec_add _ _ _).mono ?_;rintro e y ⟨rfl,hy⟩;rw[hy];clear hy y)
 go_quiet (first|(go_at_call 101;exact Calls.quiet_of_same (z_off _ _))|(go_at_call 100;exact Calls.quiet_of_same (spec_add _ _ _)))
 have R0:Hid (Bs (W1.drewN nq) B i o zs H (-1) (-1)):=R1.out.keep (dr (Below.refl _ _) _)
 have V0:Hid (Vb (W1.drewN nq) n #[.int .i64 16,.int .i64 (d:Int),.int .i64 (a:Int),.int .i64 im] 43):=VN.out
 have B0:Hid (Below B.base w (W1.drewN nq)):=dr B1.out _
 clear R1 VN B1 c4 c3 ca n0 n2 n3 aI
 generalize W1.drewN nq=x0 at*
 have n0:x0.cell? ⟨n,0,none⟩=some (.int .i64 16):=V0.out.cell 0 rfl
 have n1:x0.cell? ⟨n,1,none⟩=some (.int .i64 (d:Int)):=V0.out.cell 1 rfl
 have n2:x0.cell? ⟨n,2,none⟩=some (.int .i64 (a:Int)):=V0.out.cell 2 rfl
 have n3:x0.cell? ⟨n,3,none⟩=some (.int .i64 im):=V0.out.cell 3 rfl
 go_upto_region 17 with fail
 go_wp2_with fail
 refine(z_taken R0.out 16 d a Rd.out Ra.out im (by decide)).mono ?_
 rintro e x2⟨rfl,b2⟩
 have R2:=hid (R0.out.keep b2)
 have B2:Hid (Below B.base w x2):=B0.out.trans (bless b2 R0.out.size)
 clear b2 n0 n1 n2 n3
 have d4:=R2.out.v.cell 4 rfl
 have f4:=R2.out.v.free 4
 cases htk:tkV H 16 d a with
 |true=>
  go_wp2_with fail
  go_ret
  have U:=R2.out.fld (G:={ H with pc:=(addV H.pc (offV im))}) (ri':= -1) (fa':= -1) 4 (.int .i64 (addV H.pc (offV im))) rfl rfl rfl rfl rfl
  exact⟨rfl,_,_,by rw[htk];exact U.1,B2.out.trans U.2⟩
 |false=>
  go_wp2_with fail
  go_ret
  have U:=R2.out.fld (G:={ H with pc:=(addV H.pc 1)}) (ri':= -1) (fa':= -1) 4 (.int .i64 (addV H.pc 1)) rfl rfl rfl rfl rfl
  exact⟨rfl,_,_,by rw[htk];exact U.1,B2.out.trans U.2⟩
theorem zd_17(R:Bs w B i o zs H (-1) (-1))(sn:Sn H B.ps zs B.p)(d a:Nat)(hd:d<16)(ha:a<16)(im:Int)(i0:0≤im)(i6:im≤65535):
  Calls Tryz.prog 63 #[.pointer (some ⟨B.q,0,none⟩),.agg #[.int .i64 17,.int .i64 (d:Int),.int .i64 (a:Int),.int .i64 im]] w fun e w'=>e=.returned (.bool true)∧∃i' o',Bs w' B i' o' zs { H with pc:=(brV (tkV H 17 d a) (addV H.pc (offV im)) (addV H.pc 1))} (-1) (-1)∧Below B.base w w':=by
 have HR:=hid R
 have SN:=hid sn
 have Rd:=hid hd
 have Id:Hid ((d:Int)<16):=by show _<_;omega
 have Ra:=hid ha
 have Ia:Hid ((a:Int)<16):=by show _<_;omega
 clear R sn
 go_enter Tryz.func63,Tryz.ntmps63
 go_upto_region 1 with fail
 generalize hW:w.alloc (.cells #[.int .i64 17,.int .i64 (d:Int),.int .i64 (a:Int),.int .i64 im] 43)=W1
 obtain⟨n,hn⟩:∃n,w.heap.size=n:=⟨_,rfl⟩
 rw[hn]
 have VN:Hid (Vb W1 n #[.int .i64 17,.int .i64 (d:Int),.int .i64 (a:Int),.int .i64 im] 43):=by show Vb _ _ _ _;rw[←hW,←hn];exact Vb.new _ _ _
 have bb:Below w.heap.size w W1:=by rw[←hW];exact al (Below.refl _ _) _
 have R1:=hid (HR.out.keep bb)
 have B1:Hid (Below B.base w W1):=bless bb HR.out.size
 have QN:Hid (n≠B.q∧n≠B.rg∧n≠B.cg∧n≠B.gm∧o.ownBlock≠some n):=by
  obtain⟨bo,_,_,ho,_⟩:=HR.out.ho
  exact⟨by have:=HR.out.v.lt;omega,by have:=(HR.out.hr.lt B.rg rfl).2;omega,by have:=(HR.out.hc.lt B.cg rfl).2;omega,by have:=(HR.out.hm.lt B.gm rfl).2;omega,fun e=>by have:=(ho.lt n e).2;omega⟩
 clear hW hn bb
 have c4:W1.cell? ⟨B.q,4,none⟩=some (.int .i64 H.pc):=R1.out.v.cell 4 rfl
 have c3:W1.cell? ⟨B.q,3,none⟩=some (.slice (some ⟨B.rg,0,none⟩) 16 B.rk):=R1.out.v.cell 3 rfl
 have ca:W1.cell? ⟨B.rg,a,none⟩=some (.int .i64 (gt H.regs a)):=R1.out.hr.cell R1.out.hr.len a Ra.out
 have n0:W1.cell? ⟨n,0,none⟩=some (.int .i64 17):=VN.out.cell 0 rfl
 have n2:W1.cell? ⟨n,2,none⟩=some (.int .i64 (a:Int)):=VN.out.cell 2 rfl
 have n3:W1.cell? ⟨n,3,none⟩=some (.int .i64 im):=VN.out.cell 3 rfl
 have aI:=Ia.out
 go_upto_region 3 with(go_at_call 100;refine(spec_add _ _ _).mono ?_;rintro e y ⟨rfl,hy⟩;rw[hy];clear hy y)
 go_quiet (first|(go_at_call 101;exact Calls.quiet_of_same (z_off _ _))|(go_at_call 100;exact Calls.quiet_of_same (spec_add _ _ _)))
 have R0:Hid (Bs (W1.drewN nq) B i o zs H (-1) (-1)):=R1.out.keep (dr (Below.refl _ _) _)
 have V0:Hid (Vb (W1.drewN nq) n #[.int .i64 17,.int .i64 (d:Int),.int .i64 (a:Int),.int .i64 im] 43):=VN.out
 have B0:Hid (Below B.base w (W1.drewN nq)):=dr B1.out _
 clear R1 VN B1 c4 c3 ca n0 n2 n3 aI
 generalize W1.drewN nq=x0 at*
 have n0:x0.cell? ⟨n,0,none⟩=some (.int .i64 17):=V0.out.cell 0 rfl
 have n1:x0.cell? ⟨n,1,none⟩=some (.int .i64 (d:Int)):=V0.out.cell 1 rfl
 have n2:x0.cell? ⟨n,2,none⟩=some (.int .i64 (a:Int)):=V0.out.cell 2 rfl
 have n3:x0.cell? ⟨n,3,none⟩=some (.int .i64 im):=V0.out.cell 3 rfl
 go_upto_region 17 with fail
 go_wp2_with fail
 refine(z_taken R0.out 17 d a Rd.out Ra.out im (by decide)).mono ?_
 rintro e x2⟨rfl,b2⟩
 have R2:=hid (R0.out.keep b2)
 have B2:Hid (Below B.base w x2):=B0.out.trans (bless b2 R0.out.size)
 clear b2 n0 n1 n2 n3
 have d4:=R2.out.v.cell 4 rfl
 have f4:=R2.out.v.free 4
 cases htk:tkV H 17 d a with
 |true=>
  go_wp2_with fail
  go_ret
  have U:=R2.out.fld (G:={ H with pc:=(addV H.pc (offV im))}) (ri':= -1) (fa':= -1) 4 (.int .i64 (addV H.pc (offV im))) rfl rfl rfl rfl rfl
  exact⟨rfl,_,_,by rw[htk];exact U.1,B2.out.trans U.2⟩
 |false=>
  go_wp2_with fail
  go_ret
  have U:=R2.out.fld (G:={ H with pc:=(addV H.pc 1)}) (ri':= -1) (fa':= -1) 4 (.int .i64 (addV H.pc 1)) rfl rfl rfl rfl rfl
  exact⟨rfl,_,_,by rw[htk];exact U.1,B2.out.trans U.2⟩
theorem zd_18(R:Bs w B i o zs H (-1) (-1))(sn:Sn H B.ps zs B.p)(d a:Nat)(hd:d<16)(ha:a<16)(im:Int)(i0:0≤im)(i6:im≤65535):
  Calls Tryz.prog 63 #[.pointer (some ⟨B.q,0,none⟩),.agg #[.int .i64 18,.int .i64 (d:Int),.int .i64 (a:Int),.int .i64 im]] w fun e w'=>e=.returned (.bool true)∧∃i' o',Bs w' B i' o' zs { H with pc:=(brV (tkV H 18 d a) (addV H.pc (offV im)) (addV H.pc 1))} (-1) (-1)∧Below B.base w w':=by
 have HR:=hid R
 have SN:=hid sn
 have Rd:=hid hd
 have Id:Hid ((d:Int)<16):=by show _<_;omega
 have Ra:=hid ha
 have Ia:Hid ((a:Int)<16):=by show _<_;omega
 clear R sn
 go_enter Tryz.func63,Tryz.ntmps63
 go_upto_region 1 with fail
 generalize hW:w.alloc (.cells #[.int .i64 18,.int .i64 (d:Int),.int .i64 (a:Int),.int .i64 im] 43)=W1
 obtain⟨n,hn⟩:∃n,w.heap.size=n:=⟨_,rfl⟩
 rw[hn]
 have VN:Hid (Vb W1 n #[.int .i64 18,.int .i64 (d:Int),.int .i64 (a:Int),.int .i64 im] 43):=by show Vb _ _ _ _;rw[←hW,←hn];exact Vb.new _ _ _
 have bb:Below w.heap.size w W1:=by rw[←hW];exact al (Below.refl _ _) _
 have R1:=hid (HR.out.keep bb)
 have B1:Hid (Below B.base w W1):=bless bb HR.out.size
 have QN:Hid (n≠B.q∧n≠B.rg∧n≠B.cg∧n≠B.gm∧o.ownBlock≠some n):=by
  obtain⟨bo,_,_,ho,_⟩:=HR.out.ho
  exact⟨by have:=HR.out.v.lt;omega,by have:=(HR.out.hr.lt B.rg rfl).2;omega,by have:=(HR.out.hc.lt B.cg rfl).2;omega,by have:=(HR.out.hm.lt B.gm rfl).2;omega,fun e=>by have:=(ho.lt n e).2;omega⟩
 clear hW hn bb
 have c4:W1.cell? ⟨B.q,4,none⟩=some (.int .i64 H.pc):=R1.out.v.cell 4 rfl
 have c3:W1.cell? ⟨B.q,3,none⟩=some (.slice (some ⟨B.rg,0,none⟩) 16 B.rk):=R1.out.v.cell 3 rfl
 have ca:W1.cell? ⟨B.rg,a,none⟩=some (.int .i64 (gt H.regs a)):=R1.out.hr.cell R1.out.hr.len a Ra.out
 have n0:W1.cell? ⟨n,0,none⟩=some (.int .i64 18):=VN.out.cell 0 rfl
 have n2:W1.cell? ⟨n,2,none⟩=some (.int .i64 (a:Int)):=VN.out.cell 2 rfl
 have n3:W1.cell? ⟨n,3,none⟩=some (.int .i64 im):=VN.out.cell 3 rfl
 have aI:=Ia.out
 go_upto_region 3 with(go_at_call 100;refine(spec_add _ _ _).mono ?_;rintro e y ⟨rfl,hy⟩;rw[hy];clear hy y)
 go_quiet (first|(go_at_call 101;exact Calls.quiet_of_same (z_off _ _))|(go_at_call 100;exact Calls.quiet_of_same (spec_add _ _ _)))
 have R0:Hid (Bs (W1.drewN nq) B i o zs H (-1) (-1)):=R1.out.keep (dr (Below.refl _ _) _)
 have V0:Hid (Vb (W1.drewN nq) n #[.int .i64 18,.int .i64 (d:Int),.int .i64 (a:Int),.int .i64 im] 43):=VN.out
 have B0:Hid (Below B.base w (W1.drewN nq)):=dr B1.out _
 clear R1 VN B1 c4 c3 ca n0 n2 n3 aI
 generalize W1.drewN nq=x0 at*
 have n0:x0.cell? ⟨n,0,none⟩=some (.int .i64 18):=V0.out.cell 0 rfl
 have n1:x0.cell? ⟨n,1,none⟩=some (.int .i64 (d:Int)):=V0.out.cell 1 rfl
 have n2:x0.cell? ⟨n,2,none⟩=some (.int .i64 (a:Int)):=V0.out.cell 2 rfl
 have n3:x0.cell? ⟨n,3,none⟩=some (.int .i64 im):=V0.out.cell 3 rfl
 go_upto_region 17 with fail
 go_wp2_with fail
 refine(z_taken R0.out 18 d a Rd.out Ra.out im (by decide)).mono ?_
 rintro e x2⟨rfl,b2⟩
 have R2:=hid (R0.out.keep b2)
 have B2:Hid (Below B.base w x2):=B0.out.trans (bless b2 R0.out.size)
 clear b2 n0 n1 n2 n3
 have d4:=R2.out.v.cell 4 rfl
 have f4:=R2.out.v.free 4
 cases htk:tkV H 18 d a with
 |true=>
  go_wp2_with fail
  go_ret
  have U:=R2.out.fld (G:={ H with pc:=(addV H.pc (offV im))}) (ri':= -1) (fa':= -1) 4 (.int .i64 (addV H.pc (offV im))) rfl rfl rfl rfl rfl
  exact⟨rfl,_,_,by rw[htk];exact U.1,B2.out.trans U.2⟩
 |false=>
  go_wp2_with fail
  go_ret
  have U:=R2.out.fld (G:={ H with pc:=(addV H.pc 1)}) (ri':= -1) (fa':= -1) 4 (.int .i64 (addV H.pc 1)) rfl rfl rfl rfl rfl
  exact⟨rfl,_,_,by rw[htk];exact U.1,B2.out.trans U.2⟩
theorem zd_23(R:Bs w B i o zs H (-1) (-1))(sn:Sn H B.ps zs B.p)(d a:Nat)(hd:d<16)(ha:a<16)(im:Int)(i0:0≤im)(i6:im≤65535):
  Calls Tryz.prog 63 #[.pointer (some ⟨B.q,0,none⟩),.agg #[.int .i64 23,.int .i64 (d:Int),.int .i64 (a:Int),.int .i64 im]] w fun e w'=>e=.returned (.bool false)∧∃i' o',Bs w' B i' o' zs (trapV H 5 0) (-1) 5∧Below B.base w w':=by
 have HR:=hid R
 have SN:=hid sn
 have Rd:=hid hd
 have Id:Hid ((d:Int)<16):=by show _<_;omega
 have Ra:=hid ha
 have Ia:Hid ((a:Int)<16):=by show _<_;omega
 clear R sn
 go_enter Tryz.func63,Tryz.ntmps63
 go_upto_region 1 with fail
 generalize hW:w.alloc (.cells #[.int .i64 23,.int .i64 (d:Int),.int .i64 (a:Int),.int .i64 im] 43)=W1
 obtain⟨n,hn⟩:∃n,w.heap.size=n:=⟨_,rfl⟩
 rw[hn]
 have VN:Hid (Vb W1 n #[.int .i64 23,.int .i64 (d:Int),.int .i64 (a:Int),.int .i64 im] 43):=by show Vb _ _ _ _;rw[←hW,←hn];exact Vb.new _ _ _
 have bb:Below w.heap.size w W1:=by rw[←hW];exact al (Below.refl _ _) _
 have R1:=hid (HR.out.keep bb)
 have B1:Hid (Below B.base w W1):=bless bb HR.out.size
 have QN:Hid (n≠B.q∧n≠B.rg∧n≠B.cg∧n≠B.gm∧o.ownBlock≠some n):=by
  obtain⟨bo,_,_,ho,_⟩:=HR.out.ho
  exact⟨by have:=HR.out.v.lt;omega,by have:=(HR.out.hr.lt B.rg rfl).2;omega,by have:=(HR.out.hc.lt B.cg rfl).2;omega,by have:=(HR.out.hm.lt B.gm rfl).2;omega,fun e=>by have:=(ho.lt n e).2;omega⟩
 clear hW hn bb
 have c4:W1.cell? ⟨B.q,4,none⟩=some (.int .i64 H.pc):=R1.out.v.cell 4 rfl
 have c3:W1.cell? ⟨B.q,3,none⟩=some (.slice (some ⟨B.rg,0,none⟩) 16 B.rk):=R1.out.v.cell 3 rfl
 have ca:W1.cell? ⟨B.rg,a,none⟩=some (.int .i64 (gt H.regs a)):=R1.out.hr.cell R1.out.hr.len a Ra.out
 have n0:W1.cell? ⟨n,0,none⟩=some (.int .i64 23):=VN.out.cell 0 rfl
 have n2:W1.cell? ⟨n,2,none⟩=some (.int .i64 (a:Int)):=VN.out.cell 2 rfl
 have n3:W1.cell? ⟨n,3,none⟩=some (.int .i64 im):=VN.out.cell 3 rfl
 have aI:=Ia.out
 go_upto_region 3 with(go_at_call 100;refine(spec_add _ _ _).mono ?_;rintro e y ⟨rfl,hy⟩;rw[hy];clear hy y)
 go_quiet (first|(go_at_call 101;exact Calls.quiet_of_same (z_off _ _))|(go_at_call 100;exact Calls.quiet_of_same (spec_add _ _ _)))
 have R0:Hid (Bs (W1.drewN nq) B i o zs H (-1) (-1)):=R1.out.keep (dr (Below.refl _ _) _)
 have V0:Hid (Vb (W1.drewN nq) n #[.int .i64 23,.int .i64 (d:Int),.int .i64 (a:Int),.int .i64 im] 43):=VN.out
 have B0:Hid (Below B.base w (W1.drewN nq)):=dr B1.out _
 clear R1 VN B1 c4 c3 ca n0 n2 n3 aI
 generalize W1.drewN nq=x0 at*
 have n0:x0.cell? ⟨n,0,none⟩=some (.int .i64 23):=V0.out.cell 0 rfl
 go_wp2_with fail
 refine(z_fall R0.out SN.out.hok 5 0).mono ?_
 rintro e x2⟨rfl,r2,b2⟩
 have R2:Hid (Bs x2 B i o zs (trapV H 5 0) (-1) 5∧Below B.base w x2):=⟨r2,B0.out.trans b2⟩
 clear r2 b2 n0
 go_wp2_with fail
 go_ret
 exact⟨rfl,_,_,R2.out.1,R2.out.2⟩
theorem zd_24(R:Bs w B i o zs H (-1) (-1))(sn:Sn H B.ps zs B.p)(d a:Nat)(hd:d<16)(ha:a<16)(im:Int)(i0:0≤im)(i6:im≤65535):
  Calls Tryz.prog 63 #[.pointer (some ⟨B.q,0,none⟩),.agg #[.int .i64 24,.int .i64 (d:Int),.int .i64 (a:Int),.int .i64 im]] w fun e w'=>e=.returned (.bool true)∧∃i' o',Bs w' B i' o' zs { backV H with pc:=(backV H).pc} (-1) (-1)∧Below B.base w w':=by
 have HR:=hid R
 have SN:=hid sn
 have Rd:=hid hd
 have Id:Hid ((d:Int)<16):=by show _<_;omega
 have Ra:=hid ha
 have Ia:Hid ((a:Int)<16):=by show _<_;omega
 clear R sn
 go_enter Tryz.func63,Tryz.ntmps63
 go_upto_region 1 with fail
 generalize hW:w.alloc (.cells #[.int .i64 24,.int .i64 (d:Int),.int .i64 (a:Int),.int .i64 im] 43)=W1
 obtain⟨n,hn⟩:∃n,w.heap.size=n:=⟨_,rfl⟩
 rw[hn]
 have VN:Hid (Vb W1 n #[.int .i64 24,.int .i64 (d:Int),.int .i64 (a:Int),.int .i64 im] 43):=by show Vb _ _ _ _;rw[←hW,←hn];exact Vb.new _ _ _
 have bb:Below w.heap.size w W1:=by rw[←hW];exact al (Below.refl _ _) _
 have R1:=hid (HR.out.keep bb)
 have B1:Hid (Below B.base w W1):=bless bb HR.out.size
 have QN:Hid (n≠B.q∧n≠B.rg∧n≠B.cg∧n≠B.gm∧o.ownBlock≠some n):=by
  obtain⟨bo,_,_,ho,_⟩:=HR.out.ho
  exact⟨by have:=HR.out.v.lt;omega,by have:=(HR.out.hr.lt B.rg rfl).2;omega,by have:=(HR.out.hc.lt B.cg rfl).2;omega,by have:=(HR.out.hm.lt B.gm rfl).2;omega,fun e=>by have:=(ho.lt n e).2;omega⟩
 clear hW hn bb
 have c4:W1.cell? ⟨B.q,4,none⟩=some (.int .i64 H.pc):=R1.out.v.cell 4 rfl
 have c3:W1.cell? ⟨B.q,3,none⟩=some (.slice (some ⟨B.rg,0,none⟩) 16 B.rk):=R1.out.v.cell 3 rfl
 have ca:W1.cell? ⟨B.rg,a,none⟩=some (.int .i64 (gt H.regs a)):=R1.out.hr.cell R1.out.hr.len a Ra.out
 have n0:W1.cell? ⟨n,0,none⟩=some (.int .i64 24):=VN.out.cell 0 rfl
 have n2:W1.cell? ⟨n,2,none⟩=some (.int .i64 (a:Int)):=VN.out.cell 2 rfl
 have n3:W1.cell? ⟨n,3,none⟩=some (.int .i64 im):=VN.out.cell 3 rfl
 have aI:=Ia.out
 go_upto_region 3 with(go_at_call 100;refine(spec_add _ _ _).mono ?_;rintro e y ⟨rfl,hy⟩;rw[hy];clear hy y)
 go_quiet (first|(go_at_call 101;exact Calls.quiet_of_same (z_off _ _))|(go_at_call 100;exact Calls.quiet_of_same (spec_add _ _ _)))
 have R0:Hid (Bs (W1.drewN nq) B i o zs H (-1) (-1)):=R1.out.keep (dr (Below.refl _ _) _)
 have V0:Hid (Vb (W1.drewN nq) n #[.int .i64 24,.int .i64 (d:Int),.int .i64 (a:Int),.int .i64 im] 43):=VN.out
 have B0:Hid (Below B.base w (W1.drewN nq)):=dr B1.out _
 clear R1 VN B1 c4 c3 ca n0 n2 n3 aI
 generalize W1.drewN nq=x0 at*
 have n0:x0.cell? ⟨n,0,none⟩=some (.int .i64 24):=V0.out.cell 0 rfl
 go_wp2_with fail
 refine(z_back R0.out SN.out.hok).mono ?_
 rintro e x2⟨rfl,r2,b2⟩
 have R2:=hid r2
 have B2:Hid (Below B.base w x2):=B0.out.trans b2
 clear r2 b2 n0
 have d4:x2.cell? ⟨B.q,4,none⟩=some (.int .i64 (backV H).pc):=R2.out.v.cell 4 rfl
 have f4:=R2.out.v.free 4
 go_wp2_with fail
 go_ret
 have U:=R2.out.fld (G:={ backV H with pc:=(backV H).pc}) (ri':= -1) (fa':= -1) 4 (.int .i64 (backV H).pc) rfl rfl rfl rfl rfl
 first|exact⟨rfl,_,_,U.1,B2.out.trans U.2⟩|exact⟨rfl,⟨_,_,U.1⟩,B2.out.trans U.2⟩
theorem zd_25(R:Bs w B i o zs H (-1) (-1))(sn:Sn H B.ps zs B.p)(d a:Nat)(hd:d<16)(ha:a<16)(im:Int)(i0:0≤im)(i6:im≤65535):
  Calls Tryz.prog 63 #[.pointer (some ⟨B.q,0,none⟩),.agg #[.int .i64 25,.int .i64 (d:Int),.int .i64 (a:Int),.int .i64 im]] w fun e w'=>e=.returned (.bool true)∧∃i' o',Bs w' B i' o' zs { { H with waiting:=true}with pc:=(addV H.pc 1)} (-1) (-1)∧Below B.base w w':=by
 have HR:=hid R
 have SN:=hid sn
 have Rd:=hid hd
 have Id:Hid ((d:Int)<16):=by show _<_;omega
 have Ra:=hid ha
 have Ia:Hid ((a:Int)<16):=by show _<_;omega
 clear R sn
 go_enter Tryz.func63,Tryz.ntmps63
 go_upto_region 1 with fail
 generalize hW:w.alloc (.cells #[.int .i64 25,.int .i64 (d:Int),.int .i64 (a:Int),.int .i64 im] 43)=W1
 obtain⟨n,hn⟩:∃n,w.heap.size=n:=⟨_,rfl⟩
 rw[hn]
 have VN:Hid (Vb W1 n #[.int .i64 25,.int .i64 (d:Int),.int .i64 (a:Int),.int .i64 im] 43):=by show Vb _ _ _ _;rw[←hW,←hn];exact Vb.new _ _ _
 have bb:Below w.heap.size w W1:=by rw[←hW];exact al (Below.refl _ _) _
 have R1:=hid (HR.out.keep bb)
 have B1:Hid (Below B.base w W1):=bless bb HR.out.size
 have QN:Hid (n≠B.q∧n≠B.rg∧n≠B.cg∧n≠B.gm∧o.ownBlock≠some n):=by
  obtain⟨bo,_,_,ho,_⟩:=HR.out.ho
  exact⟨by have:=HR.out.v.lt;omega,by have:=(HR.out.hr.lt B.rg rfl).2;omega,by have:=(HR.out.hc.lt B.cg rfl).2;omega,by have:=(HR.out.hm.lt B.gm rfl).2;omega,fun e=>by have:=(ho.lt n e).2;omega⟩
 clear hW hn bb
 have c4:W1.cell? ⟨B.q,4,none⟩=some (.int .i64 H.pc):=R1.out.v.cell 4 rfl
 have c3:W1.cell? ⟨B.q,3,none⟩=some (.slice (some ⟨B.rg,0,none⟩) 16 B.rk):=R1.out.v.cell 3 rfl
 have ca:W1.cell? ⟨B.rg,a,none⟩=some (.int .i64 (gt H.regs a)):=R1.out.hr.cell R1.out.hr.len a Ra.out
 have n0:W1.cell? ⟨n,0,none⟩=some (.int .i64 25):=VN.out.cell 0 rfl
 have n2:W1.cell? ⟨n,2,none⟩=some (.int .i64 (a:Int)):=VN.out.cell 2 rfl
 have n3:W1.cell? ⟨n,3,none⟩=some (.int .i64 im):=VN.out.cell 3 rfl
 have aI:=Ia.out
 go_upto_region 3 with(go_at_call 100;refine(spec_add _ _ _).mono ?_;rintro e y ⟨rfl,hy⟩;rw[hy];clear hy y)
 go_quiet (first|(go_at_call 101;exact Calls.quiet_of_same (z_off _ _))|(go_at_call 100;exact Calls.quiet_of_same (spec_add _ _ _)))
 have R0:Hid (Bs (W1.drewN nq) B i o zs H (-1) (-1)):=R1.out.keep (dr (Below.refl _ _) _)
 have V0:Hid (Vb (W1.drewN nq) n #[.int .i64 25,.int .i64 (d:Int),.int .i64 (a:Int),.int .i64 im] 43):=VN.out
 have B0:Hid (Below B.base w (W1.drewN nq)):=dr B1.out _
 clear R1 VN B1 c4 c3 ca n0 n2 n3 aI
 generalize W1.drewN nq=x0 at*
 have n0:x0.cell? ⟨n,0,none⟩=some (.int .i64 25):=V0.out.cell 0 rfl
 have dk:=R0.out.v.cell 7 rfl
 have fk:=R0.out.v.free 7
 have d4:x0.cell? ⟨B.q,4,none⟩=some (.int .i64 H.pc):=R0.out.v.cell 4 rfl
 have f4:=R0.out.v.free 4
 have U1:=R0.out.fld (G:={ H with waiting:=true}) (ri':= -1) (fa':= -1) 7 (.bool true) rfl rfl rfl rfl rfl
 have U2:=U1.1.fld (G:={ { H with waiting:=true}with pc:=(addV H.pc 1)}) (ri':= -1) (fa':= -1) 4 (.int .i64 (addV H.pc 1)) rfl rfl rfl rfl rfl
 have UU:Hid (_∧_):=And.intro U2.1 (B0.out.trans (U1.2.trans U2.2))
 have e4:(x0.setCell ⟨B.q,7,none⟩ (.bool true)).cell? ⟨B.q,4,none⟩=some (.int .i64 H.pc):=U1.1.v.cell 4 rfl
 clear U1 U2
 go_wp2_with fail
 go_ret
 first|exact⟨rfl,_,_,UU.out.1,UU.out.2⟩|exact⟨rfl,⟨_,_,UU.out.1⟩,UU.out.2⟩
theorem zd_26(R:Bs w B i o zs H (-1) (-1))(sn:Sn H B.ps zs B.p)(d a:Nat)(hd:d<16)(ha:a<16)(im:Int)(i0:0≤im)(i6:im≤65535):
  Calls Tryz.prog 63 #[.pointer (some ⟨B.q,0,none⟩),.agg #[.int .i64 26,.int .i64 (d:Int),.int .i64 (a:Int),.int .i64 im]] w fun e w'=>e=.returned (.bool true)∧∃i' o',Bs w' B i' o' zs { { H with halted:=true}with pc:=H.pc} (-1) (-1)∧Below B.base w w':=by
 have HR:=hid R
 have SN:=hid sn
 have Rd:=hid hd
 have Id:Hid ((d:Int)<16):=by show _<_;omega
 have Ra:=hid ha
 have Ia:Hid ((a:Int)<16):=by show _<_;omega
 clear R sn
 go_enter Tryz.func63,Tryz.ntmps63
 go_upto_region 1 with fail
 generalize hW:w.alloc (.cells #[.int .i64 26,.int .i64 (d:Int),.int .i64 (a:Int),.int .i64 im] 43)=W1
 obtain⟨n,hn⟩:∃n,w.heap.size=n:=⟨_,rfl⟩
 rw[hn]
 have VN:Hid (Vb W1 n #[.int .i64 26,.int .i64 (d:Int),.int .i64 (a:Int),.int .i64 im] 43):=by show Vb _ _ _ _;rw[←hW,←hn];exact Vb.new _ _ _
 have bb:Below w.heap.size w W1:=by rw[←hW];exact al (Below.refl _ _) _
 have R1:=hid (HR.out.keep bb)
 have B1:Hid (Below B.base w W1):=bless bb HR.out.size
 have QN:Hid (n≠B.q∧n≠B.rg∧n≠B.cg∧n≠B.gm∧o.ownBlock≠some n):=by
  obtain⟨bo,_,_,ho,_⟩:=HR.out.ho
  exact⟨by have:=HR.out.v.lt;omega,by have:=(HR.out.hr.lt B.rg rfl).2;omega,by have:=(HR.out.hc.lt B.cg rfl).2;omega,by have:=(HR.out.hm.lt B.gm rfl).2;omega,fun e=>by have:=(ho.lt n e).2;omega⟩
 clear hW hn bb
 have c4:W1.cell? ⟨B.q,4,none⟩=some (.int .i64 H.pc):=R1.out.v.cell 4 rfl
 have c3:W1.cell? ⟨B.q,3,none⟩=some (.slice (some ⟨B.rg,0,none⟩) 16 B.rk):=R1.out.v.cell 3 rfl
 have ca:W1.cell? ⟨B.rg,a,none⟩=some (.int .i64 (gt H.regs a)):=R1.out.hr.cell R1.out.hr.len a Ra.out
 have n0:W1.cell? ⟨n,0,none⟩=some (.int .i64 26):=VN.out.cell 0 rfl
 have n2:W1.cell? ⟨n,2,none⟩=some (.int .i64 (a:Int)):=VN.out.cell 2 rfl
 have n3:W1.cell? ⟨n,3,none⟩=some (.int .i64 im):=VN.out.cell 3 rfl
 have aI:=Ia.out
 go_upto_region 3 with(go_at_call 100;refine(spec_add _ _ _).mono ?_;rintro e y ⟨rfl,hy⟩;rw[hy];clear hy y)
 go_quiet (first|(go_at_call 101;exact Calls.quiet_of_same (z_off _ _))|(go_at_call 100;exact Calls.quiet_of_same (spec_add _ _ _)))
 have R0:Hid (Bs (W1.drewN nq) B i o zs H (-1) (-1)):=R1.out.keep (dr (Below.refl _ _) _)
 have V0:Hid (Vb (W1.drewN nq) n #[.int .i64 26,.int .i64 (d:Int),.int .i64 (a:Int),.int .i64 im] 43):=VN.out
 have B0:Hid (Below B.base w (W1.drewN nq)):=dr B1.out _
 clear R1 VN B1 c4 c3 ca n0 n2 n3 aI
 generalize W1.drewN nq=x0 at*
 have n0:x0.cell? ⟨n,0,none⟩=some (.int .i64 26):=V0.out.cell 0 rfl
 have dk:=R0.out.v.cell 6 rfl
 have fk:=R0.out.v.free 6
 have d4:x0.cell? ⟨B.q,4,none⟩=some (.int .i64 H.pc):=R0.out.v.cell 4 rfl
 have f4:=R0.out.v.free 4
 have U1:=R0.out.fld (G:={ H with halted:=true}) (ri':= -1) (fa':= -1) 6 (.bool true) rfl rfl rfl rfl rfl
 have U2:=U1.1.fld (G:={ { H with halted:=true}with pc:=H.pc}) (ri':= -1) (fa':= -1) 4 (.int .i64 H.pc) rfl rfl rfl rfl rfl
 have UU:Hid (_∧_):=And.intro U2.1 (B0.out.trans (U1.2.trans U2.2))
 have e4:(x0.setCell ⟨B.q,6,none⟩ (.bool true)).cell? ⟨B.q,4,none⟩=some (.int .i64 H.pc):=U1.1.v.cell 4 rfl
 clear U1 U2
 go_wp2_with fail
 go_ret
 first|exact⟨rfl,_,_,UU.out.1,UU.out.2⟩|exact⟨rfl,⟨_,_,UU.out.1⟩,UU.out.2⟩
theorem zd_14no(R:Bs w B i o zs H (-1) (-1))(sn:Sn H B.ps zs B.p)(d a:Nat)(hd:d<16)(ha:a<16)(im:Int)(i0:0≤im)(i6:im≤65535)(hz:¬plC H B.ps zs (addV (gt H.regs a) (offV im)) 1=0):
  Calls Tryz.prog 63 #[.pointer (some ⟨B.q,0,none⟩),.agg #[.int .i64 14,.int .i64 (d:Int),.int .i64 (a:Int),.int .i64 im]] w fun e w'=>e=.returned (.bool false)∧∃i' o',Bs w' B i' o' zs (trapV H 3 (addV (gt H.regs a) (offV im))) (-1) 3∧Below B.base w w':=by
 have HR:=hid R
 have SN:=hid sn
 have Rd:=hid hd
 have Id:Hid ((d:Int)<16):=by show _<_;omega
 have Ra:=hid ha
 have Ia:Hid ((a:Int)<16):=by show _<_;omega
 have HZ:=hid hz
 clear hz
 clear R sn
 go_enter Tryz.func63,Tryz.ntmps63
 go_upto_region 1 with fail
 generalize hW:w.alloc (.cells #[.int .i64 14,.int .i64 (d:Int),.int .i64 (a:Int),.int .i64 im] 43)=W1
 obtain⟨n,hn⟩:∃n,w.heap.size=n:=⟨_,rfl⟩
 rw[hn]
 have VN:Hid (Vb W1 n #[.int .i64 14,.int .i64 (d:Int),.int .i64 (a:Int),.int .i64 im] 43):=by show Vb _ _ _ _;rw[←hW,←hn];exact Vb.new _ _ _
 have bb:Below w.heap.size w W1:=by rw[←hW];exact al (Below.refl _ _) _
 have R1:=hid (HR.out.keep bb)
 have B1:Hid (Below B.base w W1):=bless bb HR.out.size
 have QN:Hid (n≠B.q∧n≠B.rg∧n≠B.cg∧n≠B.gm∧o.ownBlock≠some n):=by
  obtain⟨bo,_,_,ho,_⟩:=HR.out.ho
  exact⟨by have:=HR.out.v.lt;omega,by have:=(HR.out.hr.lt B.rg rfl).2;omega,by have:=(HR.out.hc.lt B.cg rfl).2;omega,by have:=(HR.out.hm.lt B.gm rfl).2;omega,fun e=>by have:=(ho.lt n e).2;omega⟩
 clear hW hn bb
 have c4:W1.cell? ⟨B.q,4,none⟩=some (.int .i64 H.pc):=R1.out.v.cell 4 rfl
 have c3:W1.cell? ⟨B.q,3,none⟩=some (.slice (some ⟨B.rg,0,none⟩) 16 B.rk):=R1.out.v.cell 3 rfl
 have ca:W1.cell? ⟨B.rg,a,none⟩=some (.int .i64 (gt H.regs a)):=R1.out.hr.cell R1.out.hr.len a Ra.out
 have n0:W1.cell? ⟨n,0,none⟩=some (.int .i64 14):=VN.out.cell 0 rfl
 have n2:W1.cell? ⟨n,2,none⟩=some (.int .i64 (a:Int)):=VN.out.cell 2 rfl
 have n3:W1.cell? ⟨n,3,none⟩=some (.int .i64 im):=VN.out.cell 3 rfl
 have aI:=Ia.out
 go_upto_region 3 with(go_at_call 100;refine(spec_add _ _ _).mono ?_;rintro e y ⟨rfl,hy⟩;rw[hy];clear hy y)
 go_quiet (first|(go_at_call 101;exact Calls.quiet_of_same (z_off _ _))|(go_at_call 100;exact Calls.quiet_of_same (spec_add _ _ _)))
 have R0:Hid (Bs (W1.drewN nq) B i o zs H (-1) (-1)):=R1.out.keep (dr (Below.refl _ _) _)
 have V0:Hid (Vb (W1.drewN nq) n #[.int .i64 14,.int .i64 (d:Int),.int .i64 (a:Int),.int .i64 im] 43):=VN.out
 have B0:Hid (Below B.base w (W1.drewN nq)):=dr B1.out _
 clear R1 VN B1 c4 c3 ca n0 n2 n3 aI
 generalize W1.drewN nq=x0 at*
 have n0:x0.cell? ⟨n,0,none⟩=some (.int .i64 14):=V0.out.cell 0 rfl
 have n1:x0.cell? ⟨n,1,none⟩=some (.int .i64 (d:Int)):=V0.out.cell 1 rfl
 have n2:x0.cell? ⟨n,2,none⟩=some (.int .i64 (a:Int)):=V0.out.cell 2 rfl
 have n3:x0.cell? ⟨n,3,none⟩=some (.int .i64 im):=V0.out.cell 3 rfl
 go_upto_region 12 with fail
 go_wp2_with fail
 refine(zm_loadNo R0.out SN.out d a Rd.out Ra.out im HZ.out).mono ?_
 rintro e x2⟨rfl,i2,o2,r2,b2⟩
 have R2:Hid (Bs x2 B i2 o2 zs (trapV H 3 (addV (gt H.regs a) (offV im))) (-1) 3∧Below B.base w x2):=⟨r2,B0.out.trans b2⟩
 clear r2 b2 n0 n1 n2 n3
 go_wp2_with fail
 go_ret
 first|exact⟨rfl,_,_,R2.out.1,R2.out.2⟩|exact⟨rfl,⟨_,_,R2.out.1⟩,R2.out.2⟩
theorem zd_15no(R:Bs w B i o zs H (-1) (-1))(sn:Sn H B.ps zs B.p)(d a:Nat)(hd:d<16)(ha:a<16)(im:Int)(i0:0≤im)(i6:im≤65535)(hz:¬plC H B.ps zs (addV (gt H.regs a) (offV im)) 2=0):
  Calls Tryz.prog 63 #[.pointer (some ⟨B.q,0,none⟩),.agg #[.int .i64 15,.int .i64 (d:Int),.int .i64 (a:Int),.int .i64 im]] w fun e w'=>e=.returned (.bool false)∧∃i' o',Bs w' B i' o' zs (trapV H 4 (addV (gt H.regs a) (offV im))) (-1) 4∧Below B.base w w':=by
 have HR:=hid R
 have SN:=hid sn
 have Rd:=hid hd
 have Id:Hid ((d:Int)<16):=by show _<_;omega
 have Ra:=hid ha
 have Ia:Hid ((a:Int)<16):=by show _<_;omega
 have HZ:=hid hz
 clear hz
 clear R sn
 go_enter Tryz.func63,Tryz.ntmps63
 go_upto_region 1 with fail
 generalize hW:w.alloc (.cells #[.int .i64 15,.int .i64 (d:Int),.int .i64 (a:Int),.int .i64 im] 43)=W1
 obtain⟨n,hn⟩:∃n,w.heap.size=n:=⟨_,rfl⟩
 rw[hn]
 have VN:Hid (Vb W1 n #[.int .i64 15,.int .i64 (d:Int),.int .i64 (a:Int),.int .i64 im] 43):=by show Vb _ _ _ _;rw[←hW,←hn];exact Vb.new _ _ _
 have bb:Below w.heap.size w W1:=by rw[←hW];exact al (Below.refl _ _) _
 have R1:=hid (HR.out.keep bb)
 have B1:Hid (Below B.base w W1):=bless bb HR.out.size
 have QN:Hid (n≠B.q∧n≠B.rg∧n≠B.cg∧n≠B.gm∧o.ownBlock≠some n):=by
  obtain⟨bo,_,_,ho,_⟩:=HR.out.ho
  exact⟨by have:=HR.out.v.lt;omega,by have:=(HR.out.hr.lt B.rg rfl).2;omega,by have:=(HR.out.hc.lt B.cg rfl).2;omega,by have:=(HR.out.hm.lt B.gm rfl).2;omega,fun e=>by have:=(ho.lt n e).2;omega⟩
 clear hW hn bb
 have c4:W1.cell? ⟨B.q,4,none⟩=some (.int .i64 H.pc):=R1.out.v.cell 4 rfl
 have c3:W1.cell? ⟨B.q,3,none⟩=some (.slice (some ⟨B.rg,0,none⟩) 16 B.rk):=R1.out.v.cell 3 rfl
 have ca:W1.cell? ⟨B.rg,a,none⟩=some (.int .i64 (gt H.regs a)):=R1.out.hr.cell R1.out.hr.len a Ra.out
 have n0:W1.cell? ⟨n,0,none⟩=some (.int .i64 15):=VN.out.cell 0 rfl
 have n2:W1.cell? ⟨n,2,none⟩=some (.int .i64 (a:Int)):=VN.out.cell 2 rfl
 have n3:W1.cell? ⟨n,3,none⟩=some (.int .i64 im):=VN.out.cell 3 rfl
 have aI:=Ia.out
 go_upto_region 3 with(go_at_call 100;refine(spec_add _ _ _).mono ?_;rintro e y ⟨rfl,hy⟩;rw[hy];clear hy y)
 go_quiet (first|(go_at_call 101;exact Calls.quiet_of_same (z_off _ _))|(go_at_call 100;exact Calls.quiet_of_same (spec_add _ _ _)))
 have R0:Hid (Bs (W1.drewN nq) B i o zs H (-1) (-1)):=R1.out.keep (dr (Below.refl _ _) _)
 have V0:Hid (Vb (W1.drewN nq) n #[.int .i64 15,.int .i64 (d:Int),.int .i64 (a:Int),.int .i64 im] 43):=VN.out
 have B0:Hid (Below B.base w (W1.drewN nq)):=dr B1.out _
 clear R1 VN B1 c4 c3 ca n0 n2 n3 aI
 generalize W1.drewN nq=x0 at*
 have n0:x0.cell? ⟨n,0,none⟩=some (.int .i64 15):=V0.out.cell 0 rfl
 have n1:x0.cell? ⟨n,1,none⟩=some (.int .i64 (d:Int)):=V0.out.cell 1 rfl
 have n2:x0.cell? ⟨n,2,none⟩=some (.int .i64 (a:Int)):=V0.out.cell 2 rfl
 have n3:x0.cell? ⟨n,3,none⟩=some (.int .i64 im):=V0.out.cell 3 rfl
 go_upto_region 12 with fail
 go_wp2_with fail
 refine(zm_storeNo R0.out SN.out d a Rd.out Ra.out im HZ.out).mono ?_
 rintro e x2⟨rfl,i2,o2,r2,b2⟩
 have R2:Hid (Bs x2 B i2 o2 zs (trapV H 4 (addV (gt H.regs a) (offV im))) (-1) 4∧Below B.base w x2):=⟨r2,B0.out.trans b2⟩
 clear r2 b2 n0 n1 n2 n3
 go_wp2_with fail
 go_ret
 first|exact⟨rfl,_,_,R2.out.1,R2.out.2⟩|exact⟨rfl,⟨_,_,R2.out.1⟩,R2.out.2⟩
theorem zd_14(R:Bs w B i o zs H (-1) (-1))(sn:Sn H B.ps zs B.p)(d a:Nat)(hd:d<16)(ha:a<16)(im:Int)(i0:0≤im)(i6:im≤65535)(hz:plC H B.ps zs (addV (gt H.regs a) (offV im)) 1=0):
  Calls Tryz.prog 63 #[.pointer (some ⟨B.q,0,none⟩),.agg #[.int .i64 14,.int .i64 (d:Int),.int .i64 (a:Int),.int .i64 im]] w fun e w'=>e=.returned (.bool true)∧∃i' o',Bs w' B i' o' zs { putV (loadH H B.ps zs (addV (gt H.regs a) (offV im))) d (loadW H B.ps zs (addV (gt H.regs a) (offV im)))with pc:=(addV H.pc 1)} (-1) (-1)∧Below B.base w w':=by
 have HR:=hid R
 have SN:=hid sn
 have Rd:=hid hd
 have Id:Hid ((d:Int)<16):=by show _<_;omega
 have Ra:=hid ha
 have Ia:Hid ((a:Int)<16):=by show _<_;omega
 have HZ:=hid hz
 clear hz
 clear R sn
 go_enter Tryz.func63,Tryz.ntmps63
 go_upto_region 1 with fail
 generalize hW:w.alloc (.cells #[.int .i64 14,.int .i64 (d:Int),.int .i64 (a:Int),.int .i64 im] 43)=W1
 obtain⟨n,hn⟩:∃n,w.heap.size=n:=⟨_,rfl⟩
 rw[hn]
 have VN:Hid (Vb W1 n #[.int .i64 14,.int .i64 (d:Int),.int .i64 (a:Int),.int .i64 im] 43):=by show Vb _ _ _ _;rw[←hW,←hn];exact Vb.new _ _ _
 have bb:Below w.heap.size w W1:=by rw[←hW];exact al (Below.refl _ _) _
 have R1:=hid (HR.out.keep bb)
 have B1:Hid (Below B.base w W1):=bless bb HR.out.size
 have QN:Hid (n≠B.q∧n≠B.rg∧n≠B.cg∧n≠B.gm∧o.ownBlock≠some n):=by
  obtain⟨bo,_,_,ho,_⟩:=HR.out.ho
  exact⟨by have:=HR.out.v.lt;omega,by have:=(HR.out.hr.lt B.rg rfl).2;omega,by have:=(HR.out.hc.lt B.cg rfl).2;omega,by have:=(HR.out.hm.lt B.gm rfl).2;omega,fun e=>by have:=(ho.lt n e).2;omega⟩
 clear hW hn bb
 have c4:W1.cell? ⟨B.q,4,none⟩=some (.int .i64 H.pc):=R1.out.v.cell 4 rfl
 have c3:W1.cell? ⟨B.q,3,none⟩=some (.slice (some ⟨B.rg,0,none⟩) 16 B.rk):=R1.out.v.cell 3 rfl
 have ca:W1.cell? ⟨B.rg,a,none⟩=some (.int .i64 (gt H.regs a)):=R1.out.hr.cell R1.out.hr.len a Ra.out
 have n0:W1.cell? ⟨n,0,none⟩=some (.int .i64 14):=VN.out.cell 0 rfl
 have n2:W1.cell? ⟨n,2,none⟩=some (.int .i64 (a:Int)):=VN.out.cell 2 rfl
 have n3:W1.cell? ⟨n,3,none⟩=some (.int .i64 im):=VN.out.cell 3 rfl
 have aI:=Ia.out
 go_upto_region 3 with(go_at_call 100;refine(spec_add _ _ _).mono ?_;rintro e y ⟨rfl,hy⟩;rw[hy];clear hy y)
 go_quiet (first|(go_at_call 101;exact Calls.quiet_of_same (z_off _ _))|(go_at_call 100;exact Calls.quiet_of_same (spec_add _ _ _)))
 have R0:Hid (Bs (W1.drewN nq) B i o zs H (-1) (-1)):=R1.out.keep (dr (Below.refl _ _) _)
 have V0:Hid (Vb (W1.drewN nq) n #[.int .i64 14,.int .i64 (d:Int),.int .i64 (a:Int),.int .i64 im] 43):=VN.out
 have B0:Hid (Below B.base w (W1.drewN nq)):=dr B1.out _
 clear R1 VN B1 c4 c3 ca n0 n2 n3 aI
 generalize W1.drewN nq=x0 at*
 have n0:x0.cell? ⟨n,0,none⟩=some (.int .i64 14):=V0.out.cell 0 rfl
 have n1:x0.cell? ⟨n,1,none⟩=some (.int .i64 (d:Int)):=V0.out.cell 1 rfl
 have n2:x0.cell? ⟨n,2,none⟩=some (.int .i64 (a:Int)):=V0.out.cell 2 rfl
 have n3:x0.cell? ⟨n,3,none⟩=some (.int .i64 im):=V0.out.cell 3 rfl
 go_upto_region 12 with fail
 go_wp2_with fail
 refine(zm_load R0.out SN.out d a Rd.out Ra.out im HZ.out).mono ?_
 rintro e x2⟨rfl,i2,o2,r2,b2⟩
 have R2:=hid r2
 have B2:Hid (Below B.base w x2):=B0.out.trans b2
 clear r2 b2 n0 n1 n2 n3
 have d4:x2.cell? ⟨B.q,4,none⟩=some (.int .i64 (putV (loadH H B.ps zs (addV (gt H.regs a) (offV im))) d (loadW H B.ps zs (addV (gt H.regs a) (offV im)))).pc):=R2.out.v.cell 4 rfl
 have f4:=R2.out.v.free 4
 go_wp2_with fail
 go_ret
 have U:=R2.out.fld (G:={ putV (loadH H B.ps zs (addV (gt H.regs a) (offV im))) d (loadW H B.ps zs (addV (gt H.regs a) (offV im)))with pc:=(addV H.pc 1)}) (ri':= -1) (fa':= -1) 4 (.int .i64 (addV H.pc 1)) rfl rfl rfl rfl rfl
 first|exact⟨rfl,_,_,U.1,B2.out.trans U.2⟩|exact⟨rfl,⟨_,_,U.1⟩,B2.out.trans U.2⟩
theorem zd_15(R:Bs w B i o zs H (-1) (-1))(sn:Sn H B.ps zs B.p)(d a:Nat)(hd:d<16)(ha:a<16)(im:Int)(i0:0≤im)(i6:im≤65535)(hz:plC H B.ps zs (addV (gt H.regs a) (offV im)) 2=0):
  Calls Tryz.prog 63 #[.pointer (some ⟨B.q,0,none⟩),.agg #[.int .i64 15,.int .i64 (d:Int),.int .i64 (a:Int),.int .i64 im]] w fun e w'=>e=.returned (.bool true)∧∃i' o',Bs w' B i' o' (storeZ H B.ps zs (addV (gt H.regs a) (offV im)) (gt H.regs d)) { storeH H B.ps zs (addV (gt H.regs a) (offV im)) (gt H.regs d)with pc:=(addV H.pc 1)} (storeR H B.ps zs (addV (gt H.regs a) (offV im)) (gt H.regs d) (-1)) (-1)∧Below B.base w w':=by
 have HR:=hid R
 have SN:=hid sn
 have Rd:=hid hd
 have Id:Hid ((d:Int)<16):=by show _<_;omega
 have Ra:=hid ha
 have Ia:Hid ((a:Int)<16):=by show _<_;omega
 have HZ:=hid hz
 clear hz
 clear R sn
 go_enter Tryz.func63,Tryz.ntmps63
 go_upto_region 1 with fail
 generalize hW:w.alloc (.cells #[.int .i64 15,.int .i64 (d:Int),.int .i64 (a:Int),.int .i64 im] 43)=W1
 obtain⟨n,hn⟩:∃n,w.heap.size=n:=⟨_,rfl⟩
 rw[hn]
 have VN:Hid (Vb W1 n #[.int .i64 15,.int .i64 (d:Int),.int .i64 (a:Int),.int .i64 im] 43):=by show Vb _ _ _ _;rw[←hW,←hn];exact Vb.new _ _ _
 have bb:Below w.heap.size w W1:=by rw[←hW];exact al (Below.refl _ _) _
 have R1:=hid (HR.out.keep bb)
 have B1:Hid (Below B.base w W1):=bless bb HR.out.size
 have QN:Hid (n≠B.q∧n≠B.rg∧n≠B.cg∧n≠B.gm∧o.ownBlock≠some n):=by
  obtain⟨bo,_,_,ho,_⟩:=HR.out.ho
  exact⟨by have:=HR.out.v.lt;omega,by have:=(HR.out.hr.lt B.rg rfl).2;omega,by have:=(HR.out.hc.lt B.cg rfl).2;omega,by have:=(HR.out.hm.lt B.gm rfl).2;omega,fun e=>by have:=(ho.lt n e).2;omega⟩
 clear hW hn bb
 have c4:W1.cell? ⟨B.q,4,none⟩=some (.int .i64 H.pc):=R1.out.v.cell 4 rfl
 have c3:W1.cell? ⟨B.q,3,none⟩=some (.slice (some ⟨B.rg,0,none⟩) 16 B.rk):=R1.out.v.cell 3 rfl
 have ca:W1.cell? ⟨B.rg,a,none⟩=some (.int .i64 (gt H.regs a)):=R1.out.hr.cell R1.out.hr.len a Ra.out
 have n0:W1.cell? ⟨n,0,none⟩=some (.int .i64 15):=VN.out.cell 0 rfl
 have n2:W1.cell? ⟨n,2,none⟩=some (.int .i64 (a:Int)):=VN.out.cell 2 rfl
 have n3:W1.cell? ⟨n,3,none⟩=some (.int .i64 im):=VN.out.cell 3 rfl
 have aI:=Ia.out
 go_upto_region 3 with(go_at_call 100;refine(spec_add _ _ _).mono ?_;rintro e y ⟨rfl,hy⟩;rw[hy];clear hy y)
 go_quiet (first|(go_at_call 101;exact Calls.quiet_of_same (z_off _ _))|(go_at_call 100;exact Calls.quiet_of_same (spec_add _ _ _)))
 have R0:Hid (Bs (W1.drewN nq) B i o zs H (-1) (-1)):=R1.out.keep (dr (Below.refl _ _) _)
 have V0:Hid (Vb (W1.drewN nq) n #[.int .i64 15,.int .i64 (d:Int),.int .i64 (a:Int),.int .i64 im] 43):=VN.out
 have B0:Hid (Below B.base w (W1.drewN nq)):=dr B1.out _
 clear R1 VN B1 c4 c3 ca n0 n2 n3 aI
 generalize W1.drewN nq=x0 at*
 have n0:x0.cell? ⟨n,0,none⟩=some (.int .i64 15):=V0.out.cell 0 rfl
 have n1:x0.cell? ⟨n,1,none⟩=some (.int .i64 (d:Int)):=V0.out.cell 1 rfl
 have n2:x0.cell? ⟨n,2,none⟩=some (.int .i64 (a:Int)):=V0.out.cell 2 rfl
 have n3:x0.cell? ⟨n,3,none⟩=some (.int .i64 im):=V0.out.cell 3 rfl
 go_upto_region 12 with fail
 go_wp2_with fail
 refine(zm_store R0.out SN.out d a Rd.out Ra.out im HZ.out).mono ?_
 rintro e x2⟨rfl,i2,o2,r2,b2⟩
 have R2:=hid r2
 have B2:Hid (Below B.base w x2):=B0.out.trans b2
 clear r2 b2 n0 n1 n2 n3
 have d4:=R2.out.v.cell 4 rfl
 have f4:=R2.out.v.free 4
 go_wp2_with fail
 go_ret
 have U:=R2.out.fld (G:={ storeH H B.ps zs (addV (gt H.regs a) (offV im)) (gt H.regs d)with pc:=(addV H.pc 1)}) (ri':=(storeR H B.ps zs (addV (gt H.regs a) (offV im)) (gt H.regs d) (-1))) (fa':= -1) 4 (.int .i64 (addV H.pc 1)) rfl rfl rfl rfl rfl
 first|exact⟨rfl,_,_,U.1,B2.out.trans U.2⟩|exact⟨rfl,⟨_,_,U.1⟩,B2.out.trans U.2⟩
theorem zd_alu(R:Bs w B i o zs H (-1) (-1))(sn:Sn H B.ps zs B.p)(d a:Nat)(hd:d<16)(ha:a<16)(b:Nat)(hb:b<16)(op:Int)(io:1≤op∧op≤11):
  Calls Tryz.prog 63 #[.pointer (some ⟨B.q,0,none⟩),.agg #[.int .i64 op,.int .i64 (d:Int),.int .i64 (a:Int),.int .i64 (b:Int)]] w fun e w'=>e=.returned (.bool true)∧∃i' o',Bs w' B i' o' zs { putV H d (aluV op (gt H.regs a) (gt H.regs b))with pc:=(addV H.pc 1)} (-1) (-1)∧Below B.base w w':=by
 have HR:=hid R
 have SN:=hid sn
 have Rd:=hid hd
 have Id:Hid ((d:Int)<16):=by show _<_;omega
 have Ra:=hid ha
 have Ia:Hid ((a:Int)<16):=by show _<_;omega
 have Rb:=hid hb
 have Ib:Hid ((b:Int)<16):=by show _<_;omega
 have Io:=hid io
 have e12:(op==12)=false:=by simp;omega
 have e13:(op==13)=false:=by simp;omega
 have e14:(op==14)=false:=by simp;omega
 have e15:(op==15)=false:=by simp;omega
 have e16:(op==16)=false:=by simp;omega
 have e17:(op==17)=false:=by simp;omega
 have e18:(op==18)=false:=by simp;omega
 have e19:(op==19)=false:=by simp;omega
 have e20:(op==20)=false:=by simp;omega
 have e21:(op==21)=false:=by simp;omega
 have e22:(op==22)=false:=by simp;omega
 have e23:(op==23)=false:=by simp;omega
 have e24:(op==24)=false:=by simp;omega
 have e25:(op==25)=false:=by simp;omega
 have e26:(op==26)=false:=by simp;omega
 clear R sn io hb
 go_enter Tryz.func63,Tryz.ntmps63
 go_upto_region 1 with fail
 generalize hW:w.alloc (.cells #[.int .i64 op,.int .i64 (d:Int),.int .i64 (a:Int),.int .i64 (b:Int)] 43)=W1
 obtain⟨n,hn⟩:∃n,w.heap.size=n:=⟨_,rfl⟩
 rw[hn]
 have VN:Hid (Vb W1 n #[.int .i64 op,.int .i64 (d:Int),.int .i64 (a:Int),.int .i64 (b:Int)] 43):=by show Vb _ _ _ _;rw[←hW,←hn];exact Vb.new _ _ _
 have bb:Below w.heap.size w W1:=by rw[←hW];exact al (Below.refl _ _) _
 have R1:=hid (HR.out.keep bb)
 have B1:Hid (Below B.base w W1):=bless bb HR.out.size
 have QN:Hid (n≠B.q∧n≠B.rg∧n≠B.cg∧n≠B.gm∧o.ownBlock≠some n):=by
  obtain⟨bo,_,_,ho,_⟩:=HR.out.ho
  exact⟨by have:=HR.out.v.lt;omega,by have:=(HR.out.hr.lt B.rg rfl).2;omega,by have:=(HR.out.hc.lt B.cg rfl).2;omega,by have:=(HR.out.hm.lt B.gm rfl).2;omega,fun e=>by have:=(ho.lt n e).2;omega⟩
 clear hW hn bb
 have c4:W1.cell? ⟨B.q,4,none⟩=some (.int .i64 H.pc):=R1.out.v.cell 4 rfl
 have c3:W1.cell? ⟨B.q,3,none⟩=some (.slice (some ⟨B.rg,0,none⟩) 16 B.rk):=R1.out.v.cell 3 rfl
 have ca:W1.cell? ⟨B.rg,a,none⟩=some (.int .i64 (gt H.regs a)):=R1.out.hr.cell R1.out.hr.len a Ra.out
 have n0:W1.cell? ⟨n,0,none⟩=some (.int .i64 op):=VN.out.cell 0 rfl
 have n2:W1.cell? ⟨n,2,none⟩=some (.int .i64 (a:Int)):=VN.out.cell 2 rfl
 have n3:W1.cell? ⟨n,3,none⟩=some (.int .i64 (b:Int)):=VN.out.cell 3 rfl
 have aI:=Ia.out
 go_upto_region 3 with(go_at_call 100;refine(spec_add _ _ _).mono ?_;rintro e y ⟨rfl,hy⟩;rw[hy];clear hy y)
 go_quiet (first|(go_at_call 101;exact Calls.quiet_of_same (z_off _ _))|(go_at_call 100;exact Calls.quiet_of_same (spec_add _ _ _)))
 have R0:Hid (Bs (W1.drewN nq) B i o zs H (-1) (-1)):=R1.out.keep (dr (Below.refl _ _) _)
 have V0:Hid (Vb (W1.drewN nq) n #[.int .i64 op,.int .i64 (d:Int),.int .i64 (a:Int),.int .i64 (b:Int)] 43):=VN.out
 have B0:Hid (Below B.base w (W1.drewN nq)):=dr B1.out _
 clear R1 VN B1 c4 c3 ca n0 n2 n3 aI
 generalize W1.drewN nq=x0 at*
 have n0:x0.cell? ⟨n,0,none⟩=some (.int .i64 op):=V0.out.cell 0 rfl
 go_upto_region 5 with fail
 clear e12 e13 e14 e15 e16 e17 e18 e19 e20 e21 e22 e23 e24 e25 e26 n0
 have S0:Hid (Vb x0.drew n #[.int .i64 op,.int .i64 (d:Int),.int .i64 (a:Int),.int .i64 (b:Int)] 43∧x0.drew.cell? ⟨B.q,3,none⟩=some (.slice (some ⟨B.rg,0,none⟩) 16 B.rk)∧x0.drew.cell? ⟨B.q,1,none⟩=some (.slice (some ⟨B.gm,0,none⟩) (B.p*8) B.mc)):=⟨V0.out,R0.out.v.cell 3 rfl,R0.out.v.cell 1 rfl⟩
 replace R0:=hid_dr R0
 replace B0:=hid_bd B0
 refine wp_region_held (S:=fun w'=>Vb w' n #[.int .i64 op,.int .i64 (d:Int),.int .i64 (a:Int),.int .i64 (b:Int)] 43∧w'.cell? ⟨B.q,3,none⟩=some (.slice (some ⟨B.rg,0,none⟩) 16 B.rk)∧w'.cell? ⟨B.q,1,none⟩=some (.slice (some ⟨B.gm,0,none⟩) (B.p*8) B.mc)) (by kernel_rfl) ?_
 change wpAnyH _ _ _ _ _ _ _ _ (World.drew _)
 generalize x0.drew=x1 at*
 refine wpTd 0 27 (.pointer (some ⟨B.q,0,none⟩)) rfl S0.out ?_
 simp only[Act.put,zT,zZ,zS]
 refine wpTd 1 28 (.pointer (some ⟨n,1,none⟩)) rfl S0.out ?_
 simp only[Act.put,zT,zZ,zS]
 refine wpTe 2 29 (.int .i64 (d:Int)) rfl (Or.inl ⟨by rfl,fun w' hs=>by have hc:=(hs.1.cell 1 rfl:w'.cell? ⟨n,1,none⟩=some (.int .i64 (d:Int)));go_simp⟩) S0.out ?_
 simp only[Act.put,zT,zZ,zS]
 refine wpTd 3 30 (.pointer (some ⟨n,0,none⟩)) rfl S0.out ?_
 simp only[Act.put,zT,zZ,zS]
 refine wpTe 4 31 (.int .i64 op) rfl (Or.inl ⟨by rfl,fun w' hs=>by have hc:=(hs.1.cell 0 rfl:w'.cell? ⟨n,0,none⟩=some (.int .i64 op));go_simp⟩) S0.out ?_
 simp only[Act.put,zT,zZ,zS]
 refine wpTd 5 32 (.pointer (some ⟨B.q,3,none⟩)) rfl S0.out ?_
 simp only[Act.put,zT,zZ,zS]
 refine wpTd 6 33 (.pointer (some ⟨B.q,3,none⟩)) rfl S0.out ?_
 simp only[Act.put,zT,zZ,zS]
 refine wpTd 7 34 (.pointer (some ⟨B.q,3,none⟩)) rfl S0.out ?_
 simp only[Act.put,zT,zZ,zS]
 refine wpTe 8 35 (.slice (some ⟨B.rg,0,none⟩) 16 B.rk) rfl (Or.inl ⟨by rfl,fun w' hs=>by have hc:=hs.2.1;go_simp⟩) S0.out ?_
 simp only[Act.put,zT,zZ,zS]
 refine wpTd 9 36 (.pointer (some ⟨n,2,none⟩)) rfl S0.out ?_
 simp only[Act.put,zT,zZ,zS]
 refine wpTe 10 37 (.int .i64 (a:Int)) rfl (Or.inl ⟨by rfl,fun w' hs=>by have hc:=(hs.1.cell 2 rfl:w'.cell? ⟨n,2,none⟩=some (.int .i64 (a:Int)));go_simp⟩) S0.out ?_
 simp only[Act.put,zT,zZ,zS]
 refine wpTe 11 38 (.pointer (some ⟨B.rg,a,none⟩)) rfl (Or.inl ⟨by rfl,fun w' hs=>by have h1:=Ia.out;have h2:=Ra.out;go_simp⟩) S0.out ?_
 simp only[Act.put,zT,zZ,zS]
 refine wpTd 13 40 (.pointer (some ⟨B.q,3,none⟩)) rfl S0.out ?_
 simp only[Act.put,zT,zZ,zS]
 refine wpTd 14 41 (.pointer (some ⟨B.q,3,none⟩)) rfl S0.out ?_
 simp only[Act.put,zT,zZ,zS]
 refine wpTd 15 42 (.pointer (some ⟨B.q,3,none⟩)) rfl S0.out ?_
 simp only[Act.put,zT,zZ,zS]
 refine wpTe 16 43 (.slice (some ⟨B.rg,0,none⟩) 16 B.rk) rfl (Or.inl ⟨by rfl,fun w' hs=>by have hc:=hs.2.1;go_simp⟩) S0.out ?_
 simp only[Act.put,zT,zZ,zS]
 refine wpTd 17 44 (.pointer (some ⟨n,3,none⟩)) rfl S0.out ?_
 simp only[Act.put,zT,zZ,zS]
 refine wpTe 18 45 (.int .i64 (b:Int)) rfl (Or.inl ⟨by rfl,fun w' hs=>by have hc:=(hs.1.cell 3 rfl:w'.cell? ⟨n,3,none⟩=some (.int .i64 (b:Int)));go_simp⟩) S0.out ?_
 simp only[Act.put,zT,zZ,zS]
 refine wpTe 19 46 (.pointer (some ⟨B.rg,b,none⟩)) rfl (Or.inl ⟨by rfl,fun w' hs=>by have h1:=Ib.out;have h2:=Rb.out;go_simp⟩) S0.out ?_
 simp only[Act.put,zT,zZ,zS]
 refine wpAnyH_ready (rs:=[12,20]) (by kernel_rfl) (by simp) ?_
 refine AllReadyH.cons rfl (fun K hK=>?_) ?_
 ·rw[if_pos (by rfl)]
  have cl:x1.cell? ⟨B.rg,a,none⟩=some (.int .i64 (gt H.regs a)):=R0.out.hr.cell R0.out.hr.len a Ra.out
  go_simp
  refine hK.out _ _ S0.out (fun _=>?_)
  clear hK K cl
  refine zR 20 rfl fun K hK=>?_
  rw[if_pos (by rfl)]
  have cl:x1.cell? ⟨B.rg,b,none⟩=some (.int .i64 (gt H.regs b)):=R0.out.hr.cell R0.out.hr.len b Rb.out
  go_simp
  refine hK.out _ _ S0.out (fun _=>?_)
  clear hK K cl
  refine zR 21 rfl fun K hK=>?_
  rw[if_pos (by rfl)]
  go_simp
  refine(spec_l2Alu op _ _ _ Io.out).mono ?_
  rintro e x3⟨rfl,b3⟩
  have R3:=hid (R0.out.keep b3)
  have B3:Hid (Below B.base w x3):=B0.out.trans (bless b3 R0.out.size)
  have S3:Hid (Vb x3 n #[.int .i64 op,.int .i64 (d:Int),.int .i64 (a:Int),.int .i64 (b:Int)] 43∧x3.cell? ⟨B.q,3,none⟩=some (.slice (some ⟨B.rg,0,none⟩) 16 B.rk)∧x3.cell? ⟨B.q,1,none⟩=some (.slice (some ⟨B.gm,0,none⟩) (B.p*8) B.mc)):=⟨S0.out.1.keep b3,R3.out.v.cell 3 rfl,R3.out.v.cell 1 rfl⟩
  clear b3
  refine hK.out _ _ S3.out (fun _=>?_)
  clear hK K
  refine zR 22 rfl fun K hK=>?_
  rw[if_pos (by rfl)]
  go_simp
  refine(z_put R3.out d Rd.out (aluV op (gt H.regs a) (gt H.regs b))).mono ?_
  rintro e x2⟨rfl,⟨r2,b2⟩,m2⟩
  have R2:=hid r2
  have B2:Hid (Below B.base w x2):=B3.out.trans b2
  have S2:Hid (Vb x2 n #[.int .i64 op,.int .i64 (d:Int),.int .i64 (a:Int),.int .i64 (b:Int)] 43∧x2.cell? ⟨B.q,3,none⟩=some (.slice (some ⟨B.rg,0,none⟩) 16 B.rk)∧x2.cell? ⟨B.q,1,none⟩=some (.slice (some ⟨B.gm,0,none⟩) (B.p*8) B.mc)):=⟨m2.vb S3.out.1 fun e=>QN.out.2.1 e,R2.out.v.cell 3 rfl,R2.out.v.cell 1 rfl⟩
  clear r2 b2 m2
  refine hK.out _ _ S2.out (fun _=>?_)
  clear hK K
  refine wpAnyH_done (by kernel_rfl) ?_ _
  have d4:x2.cell? ⟨B.q,4,none⟩=some (.int .i64 (putV H d (aluV op (gt H.regs a) (gt H.regs b))).pc):=R2.out.v.cell 4 rfl
  have f4:=R2.out.v.free 4
  go_wp2_with fail
  go_ret
  have U:=R2.out.fld (G:={ putV H d (aluV op (gt H.regs a) (gt H.regs b))with pc:=(addV H.pc 1)}) (ri':= -1) (fa':= -1) 4 (.int .i64 (addV H.pc 1)) rfl rfl rfl rfl rfl
  first|exact⟨rfl,_,_,U.1,B2.out.trans U.2⟩|exact⟨rfl,⟨_,_,U.1⟩,B2.out.trans U.2⟩
 refine AllReadyH.cons rfl (fun K hK=>?_) AllReadyH.nil
 rw[if_pos (by rfl)]
 have cl:x1.cell? ⟨B.rg,b,none⟩=some (.int .i64 (gt H.regs b)):=R0.out.hr.cell R0.out.hr.len b Rb.out
 go_simp
 refine hK.out _ _ S0.out (fun _=>?_)
 clear hK K cl
 refine zR 12 rfl fun K hK=>?_
 rw[if_pos (by rfl)]
 have cl:x1.cell? ⟨B.rg,a,none⟩=some (.int .i64 (gt H.regs a)):=R0.out.hr.cell R0.out.hr.len a Ra.out
 go_simp
 refine hK.out _ _ S0.out (fun _=>?_)
 clear hK K cl
 refine zR 21 rfl fun K hK=>?_
 rw[if_pos (by rfl)]
 go_simp
 refine(spec_l2Alu op _ _ _ Io.out).mono ?_
 rintro e x3⟨rfl,b3⟩
 have R3:=hid (R0.out.keep b3)
 have B3:Hid (Below B.base w x3):=B0.out.trans (bless b3 R0.out.size)
 have S3:Hid (Vb x3 n #[.int .i64 op,.int .i64 (d:Int),.int .i64 (a:Int),.int .i64 (b:Int)] 43∧x3.cell? ⟨B.q,3,none⟩=some (.slice (some ⟨B.rg,0,none⟩) 16 B.rk)∧x3.cell? ⟨B.q,1,none⟩=some (.slice (some ⟨B.gm,0,none⟩) (B.p*8) B.mc)):=⟨S0.out.1.keep b3,R3.out.v.cell 3 rfl,R3.out.v.cell 1 rfl⟩
 clear b3
 refine hK.out _ _ S3.out (fun _=>?_)
 clear hK K
 refine zR 22 rfl fun K hK=>?_
 rw[if_pos (by rfl)]
 go_simp
 refine(z_put R3.out d Rd.out (aluV op (gt H.regs a) (gt H.regs b))).mono ?_
 rintro e x2⟨rfl,⟨r2,b2⟩,m2⟩
 have R2:=hid r2
 have B2:Hid (Below B.base w x2):=B3.out.trans b2
 have S2:Hid (Vb x2 n #[.int .i64 op,.int .i64 (d:Int),.int .i64 (a:Int),.int .i64 (b:Int)] 43∧x2.cell? ⟨B.q,3,none⟩=some (.slice (some ⟨B.rg,0,none⟩) 16 B.rk)∧x2.cell? ⟨B.q,1,none⟩=some (.slice (some ⟨B.gm,0,none⟩) (B.p*8) B.mc)):=⟨m2.vb S3.out.1 fun e=>QN.out.2.1 e,R2.out.v.cell 3 rfl,R2.out.v.cell 1 rfl⟩
 clear r2 b2 m2
 refine hK.out _ _ S2.out (fun _=>?_)
 clear hK K
 refine wpAnyH_done (by kernel_rfl) ?_ _
 have d4:x2.cell? ⟨B.q,4,none⟩=some (.int .i64 (putV H d (aluV op (gt H.regs a) (gt H.regs b))).pc):=R2.out.v.cell 4 rfl
 have f4:=R2.out.v.free 4
 go_wp2_with fail
 go_ret
 have U:=R2.out.fld (G:={ putV H d (aluV op (gt H.regs a) (gt H.regs b))with pc:=(addV H.pc 1)}) (ri':= -1) (fa':= -1) 4 (.int .i64 (addV H.pc 1)) rfl rfl rfl rfl rfl
 first|exact⟨rfl,_,_,U.1,B2.out.trans U.2⟩|exact⟨rfl,⟨_,_,U.1⟩,B2.out.trans U.2⟩
end Go.Proofs.YtaefollmeoepkaaGreatDoor
