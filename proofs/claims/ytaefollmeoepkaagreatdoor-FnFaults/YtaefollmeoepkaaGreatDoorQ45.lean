import Derived.Test.YtaefollmeoepkaaGreatDoorQ43
namespace Go.Proofs.YtaefollmeoepkaaGreatDoor
set_option maxRecDepth 20000
set_option maxHeartbeats 16000000
open Go.RowKit
set_option linter.unusedVariables false
theorem wrap_nat{tk:Nat}(h:tk≤7):IntKind.i64.wrap (tk:Int)=(tk:Int):=by
 have e:tk=0∨tk=1∨tk=2∨tk=3∨tk=4∨tk=5∨tk=6∨tk=7:=by omega
 rcases e with rfl|rfl|rfl|rfl|rfl|rfl|rfl|rfl<;>decide
theorem wd_id{x:Int}(h:0≤x∧x≤4294967295):wd x=x:=by unfold wd;omega
theorem hid_dr{w:World}{B:Bp}{i o:Value}{zs:List Int}{H:Ht}{ri fa:Int}(h:Hid (Bs w B i o zs H ri fa)):Hid (Bs w.drew B i o zs H ri fa):=h.out.dr
theorem hid_bd{b:Nat}{w w':World}(h:Hid (Below b w w')):Hid (Below b w w'.drew):=h.out.drew
variable{w:World}{B:Bp}{i o:Value}{zs:List Int}{H:Ht}
theorem zm_loadNo(R:Bs w B i o zs H (-1) (-1))(sn:Sn H B.ps zs B.p)(d a:Nat)(hd:d<16)(ha:a<16)(im:Int)(hz:¬plC H B.ps zs (addV (gt H.regs a) (offV im)) 1=0):
  Calls Tryz.prog 103 #[.pointer (some ⟨B.q,0,none⟩),.agg #[.int .i64 14,.int .i64 (d:Int),.int .i64 (a:Int),.int .i64 im]] w fun e w'=>e=.returned (.bool false)∧∃i' o',Bs w' B i' o' zs (trapV H 3 (addV (gt H.regs a) (offV im))) (-1) 3∧Below B.base w w':=by
 have HR:=hid R
 have SN:=hid sn
 have Rd:=hid hd
 have Id:Hid ((d:Int)<16):=by show _<_;omega
 have Ra:=hid ha
 have Ia:Hid ((a:Int)<16):=by show _<_;omega
 obtain⟨pv,hpv⟩:∃v,plV H B.ps zs (addV (gt H.regs a) (offV im)) 1=v:=⟨_,rfl⟩
 obtain⟨pk,hpk⟩:∃v,plC H B.ps zs (addV (gt H.regs a) (offV im)) 1=v:=⟨_,rfl⟩
 rw[hpk]at hz
 have HC2:(pk !=0)=true:=by simpa using hz
 have HV:=hid hpv
 have HC:=hid hpk
 clear hpv hpk hz
 clear R sn
 go_enter Tryz.func103,Tryz.ntmps103
 go_upto_region 1 with fail
 generalize hW:w.alloc (.cells #[.int .i64 14,.int .i64 (d:Int),.int .i64 (a:Int),.int .i64 im] 43)=W1
 obtain⟨n,hn⟩:∃n,w.heap.size=n:=⟨_,rfl⟩
 rw[hn]
 have VN:Hid (Vb W1 n #[.int .i64 14,.int .i64 (d:Int),.int .i64 (a:Int),.int .i64 im] 43):=by show Vb _ _ _ _;rw[←hW,←hn];exact Vb.new _ _ _
 have bb:Below w.heap.size w W1:=by rw[←hW];exact al (Below.refl _ _) _
 have R1:=hid (HR.out.keep bb)
 have B1:Hid (Below B.base w W1):=bless bb HR.out.size
 have QN:Hid (n≠B.q∧n≠B.rg∧n≠B.cg∧n≠B.gm∧o.ownBlock≠some n):=by
  obtain⟨bo,_,_,ho,_⟩:=HR.out.ho
  exact⟨by have:=HR.out.v.lt;omega,by have:=(HR.out.hr.lt B.rg rfl).2;omega,by have:=(HR.out.hc.lt B.cg rfl).2;omega,by have:=(HR.out.hm.lt B.gm rfl).2;omega,fun e=>by have:=(ho.lt n e).2;omega⟩
 clear hW hn bb
 have c4:W1.cell? ⟨B.q,4,none⟩=some (.int .i64 H.pc):=R1.out.v.cell 4 rfl
 have c3:W1.cell? ⟨B.q,3,none⟩=some (.slice (some ⟨B.rg,0,none⟩) 16 B.rk):=R1.out.v.cell 3 rfl
 have ca:W1.cell? ⟨B.rg,a,none⟩=some (.int .i64 (gt H.regs a)):=R1.out.hr.cell R1.out.hr.len a Ra.out
 have n0:W1.cell? ⟨n,0,none⟩=some (.int .i64 14):=VN.out.cell 0 rfl
 have n2:W1.cell? ⟨n,2,none⟩=some (.int .i64 (a:Int)):=VN.out.cell 2 rfl
 have n3:W1.cell? ⟨n,3,none⟩=some (.int .i64 im):=VN.out.cell 3 rfl
 have aI:=Ia.out
 go_upto_region 2 with(go_at_call 100;refine(spec_add _ _ _).mono ?_;rintro e y ⟨rfl,hy⟩;rw[hy];clear hy y)
 go_quiet (first|(go_at_call 101;exact Calls.quiet_of_same (z_off _ _))|(go_at_call 100;exact Calls.quiet_of_same (spec_add _ _ _)))
 have R0:Hid (Bs (W1.drewN nq) B i o zs H (-1) (-1)):=R1.out.keep (dr (Below.refl _ _) _)
 have V0:Hid (Vb (W1.drewN nq) n #[.int .i64 14,.int .i64 (d:Int),.int .i64 (a:Int),.int .i64 im] 43):=VN.out
 have B0:Hid (Below B.base w (W1.drewN nq)):=dr B1.out _
 clear R1 VN B1 c4 c3 ca n0 n2 n3 aI
 generalize W1.drewN nq=x0 at*
 have n0:x0.cell? ⟨n,0,none⟩=some (.int .i64 14):=V0.out.cell 0 rfl
 go_upto_region 8 with fail
 go_wp2_with fail
 refine(z_space R0.out SN.out (addV (gt H.regs a) (offV im)) 1 rfl).mono ?_
 rintro e x5⟨rfl,b5⟩
 rw[HC.out,HV.out]
 have R5:=hid (R0.out.keep b5)
 have V5:=hid (V0.out.keep b5)
 have B5:Hid (Below B.base w x5):=B0.out.trans (bless b5 R0.out.size)
 clear b5 R0 V0 B0 n0
 have n0:x5.cell? ⟨n,0,none⟩=some (.int .i64 14):=V5.out.cell 0 rfl
 go_wp2_with fail
 refine(z_fall R5.out SN.out.hok 3 (addV (gt H.regs a) (offV im))).mono ?_
 rintro e x2⟨rfl,r2,b2⟩
 have R2:Hid (Bs x2 B i o zs (trapV H 3 (addV (gt H.regs a) (offV im))) (-1) 3∧Below B.base w x2):=⟨r2,B5.out.trans b2⟩
 clear r2 b2 n0 HC2
 go_wp2_with fail
 go_ret
 exact⟨rfl,_,_,R2.out.1,R2.out.2⟩
theorem zm_storeNo(R:Bs w B i o zs H (-1) (-1))(sn:Sn H B.ps zs B.p)(d a:Nat)(hd:d<16)(ha:a<16)(im:Int)(hz:¬plC H B.ps zs (addV (gt H.regs a) (offV im)) 2=0):
  Calls Tryz.prog 103 #[.pointer (some ⟨B.q,0,none⟩),.agg #[.int .i64 15,.int .i64 (d:Int),.int .i64 (a:Int),.int .i64 im]] w fun e w'=>e=.returned (.bool false)∧∃i' o',Bs w' B i' o' zs (trapV H 4 (addV (gt H.regs a) (offV im))) (-1) 4∧Below B.base w w':=by
 have HR:=hid R
 have SN:=hid sn
 have Rd:=hid hd
 have Id:Hid ((d:Int)<16):=by show _<_;omega
 have Ra:=hid ha
 have Ia:Hid ((a:Int)<16):=by show _<_;omega
 obtain⟨pv,hpv⟩:∃v,plV H B.ps zs (addV (gt H.regs a) (offV im)) 2=v:=⟨_,rfl⟩
 obtain⟨pk,hpk⟩:∃v,plC H B.ps zs (addV (gt H.regs a) (offV im)) 2=v:=⟨_,rfl⟩
 rw[hpk]at hz
 have HC2:(pk !=0)=true:=by simpa using hz
 have HV:=hid hpv
 have HC:=hid hpk
 clear hpv hpk hz
 clear R sn
 go_enter Tryz.func103,Tryz.ntmps103
 go_upto_region 1 with fail
 generalize hW:w.alloc (.cells #[.int .i64 15,.int .i64 (d:Int),.int .i64 (a:Int),.int .i64 im] 43)=W1
 obtain⟨n,hn⟩:∃n,w.heap.size=n:=⟨_,rfl⟩
 rw[hn]
 have VN:Hid (Vb W1 n #[.int .i64 15,.int .i64 (d:Int),.int .i64 (a:Int),.int .i64 im] 43):=by show Vb _ _ _ _;rw[←hW,←hn];exact Vb.new _ _ _
 have bb:Below w.heap.size w W1:=by rw[←hW];exact al (Below.refl _ _) _
 have R1:=hid (HR.out.keep bb)
 have B1:Hid (Below B.base w W1):=bless bb HR.out.size
 have QN:Hid (n≠B.q∧n≠B.rg∧n≠B.cg∧n≠B.gm∧o.ownBlock≠some n):=by
  obtain⟨bo,_,_,ho,_⟩:=HR.out.ho
  exact⟨by have:=HR.out.v.lt;omega,by have:=(HR.out.hr.lt B.rg rfl).2;omega,by have:=(HR.out.hc.lt B.cg rfl).2;omega,by have:=(HR.out.hm.lt B.gm rfl).2;omega,fun e=>by have:=(ho.lt n e).2;omega⟩
 clear hW hn bb
 have c4:W1.cell? ⟨B.q,4,none⟩=some (.int .i64 H.pc):=R1.out.v.cell 4 rfl
 have c3:W1.cell? ⟨B.q,3,none⟩=some (.slice (some ⟨B.rg,0,none⟩) 16 B.rk):=R1.out.v.cell 3 rfl
 have ca:W1.cell? ⟨B.rg,a,none⟩=some (.int .i64 (gt H.regs a)):=R1.out.hr.cell R1.out.hr.len a Ra.out
 have n0:W1.cell? ⟨n,0,none⟩=some (.int .i64 15):=VN.out.cell 0 rfl
 have n2:W1.cell? ⟨n,2,none⟩=some (.int .i64 (a:Int)):=VN.out.cell 2 rfl
 have n3:W1.cell? ⟨n,3,none⟩=some (.int .i64 im):=VN.out.cell 3 rfl
 have aI:=Ia.out
 go_upto_region 2 with(go_at_call 100;refine(spec_add _ _ _).mono ?_;rintro e y ⟨rfl,hy⟩;rw[hy];clear hy y)
 go_quiet (first|(go_at_call 101;exact Calls.quiet_of_same (z_off _ _))|(go_at_call 100;exact Calls.quiet_of_same (spec_add _ _ _)))
 have R0:Hid (Bs (W1.drewN nq) B i o zs H (-1) (-1)):=R1.out.keep (dr (Below.refl _ _) _)
 have V0:Hid (Vb (W1.drewN nq) n #[.int .i64 15,.int .i64 (d:Int),.int .i64 (a:Int),.int .i64 im] 43):=VN.out
 have B0:Hid (Below B.base w (W1.drewN nq)):=dr B1.out _
 clear R1 VN B1 c4 c3 ca n0 n2 n3 aI
 generalize W1.drewN nq=x0 at*
 have n0:x0.cell? ⟨n,0,none⟩=some (.int .i64 15):=V0.out.cell 0 rfl
 go_upto_region 8 with fail
 go_wp2_with fail
 refine(z_space R0.out SN.out (addV (gt H.regs a) (offV im)) 2 rfl).mono ?_
 rintro e x5⟨rfl,b5⟩
 rw[HC.out,HV.out]
 have R5:=hid (R0.out.keep b5)
 have V5:=hid (V0.out.keep b5)
 have B5:Hid (Below B.base w x5):=B0.out.trans (bless b5 R0.out.size)
 clear b5 R0 V0 B0 n0
 have n0:x5.cell? ⟨n,0,none⟩=some (.int .i64 15):=V5.out.cell 0 rfl
 go_wp2_with fail
 refine(z_fall R5.out SN.out.hok 4 (addV (gt H.regs a) (offV im))).mono ?_
 rintro e x2⟨rfl,r2,b2⟩
 have R2:Hid (Bs x2 B i o zs (trapV H 4 (addV (gt H.regs a) (offV im))) (-1) 4∧Below B.base w x2):=⟨r2,B5.out.trans b2⟩
 clear r2 b2 n0 HC2
 go_wp2_with fail
 go_ret
 exact⟨rfl,_,_,R2.out.1,R2.out.2⟩
theorem zm_loadM(R:Bs w B i o zs H (-1) (-1))(sn:Sn H B.ps zs B.p)(d a:Nat)(hd:d<16)(ha:a<16)(im:Int)(hz:plC H B.ps zs (addV (gt H.regs a) (offV im)) 1=0)(tn:Nat)(hv:plV H B.ps zs (addV (gt H.regs a) (offV im)) 1=(tn:Int))(ht:tn<B.p*8):
  Calls Tryz.prog 103 #[.pointer (some ⟨B.q,0,none⟩),.agg #[.int .i64 14,.int .i64 (d:Int),.int .i64 (a:Int),.int .i64 im]] w fun e w'=>e=.returned (.bool true)∧∃i' o',Bs w' B i' o' zs (putV H d (zs.getD tn 0)) (-1) (-1)∧Below B.base w w':=by
 have HR:=hid R
 have SN:=hid sn
 have Rd:=hid hd
 have Id:Hid ((d:Int)<16):=by show _<_;omega
 have Ra:=hid ha
 have Ia:Hid ((a:Int)<16):=by show _<_;omega
 have HC:=hid hz
 have p24:=sn.p24
 have HV:=hid hv
 have Rt:=hid ht
 have It:Hid ((tn:Int)<((B.p*8:Nat):Int)):=by show _<_;omega
 have t9:(tn:Int)<1000:=by omega
 clear hz hv p24
 clear R sn
 go_enter Tryz.func103,Tryz.ntmps103
 go_upto_region 1 with fail
 generalize hW:w.alloc (.cells #[.int .i64 14,.int .i64 (d:Int),.int .i64 (a:Int),.int .i64 im] 43)=W1
 obtain⟨n,hn⟩:∃n,w.heap.size=n:=⟨_,rfl⟩
 rw[hn]
 have VN:Hid (Vb W1 n #[.int .i64 14,.int .i64 (d:Int),.int .i64 (a:Int),.int .i64 im] 43):=by show Vb _ _ _ _;rw[←hW,←hn];exact Vb.new _ _ _
 have bb:Below w.heap.size w W1:=by rw[←hW];exact al (Below.refl _ _) _
 have R1:=hid (HR.out.keep bb)
 have B1:Hid (Below B.base w W1):=bless bb HR.out.size
 have QN:Hid (n≠B.q∧n≠B.rg∧n≠B.cg∧n≠B.gm∧o.ownBlock≠some n):=by
  obtain⟨bo,_,_,ho,_⟩:=HR.out.ho
  exact⟨by have:=HR.out.v.lt;omega,by have:=(HR.out.hr.lt B.rg rfl).2;omega,by have:=(HR.out.hc.lt B.cg rfl).2;omega,by have:=(HR.out.hm.lt B.gm rfl).2;omega,fun e=>by have:=(ho.lt n e).2;omega⟩
 clear hW hn bb
 have c4:W1.cell? ⟨B.q,4,none⟩=some (.int .i64 H.pc):=R1.out.v.cell 4 rfl
 have c3:W1.cell? ⟨B.q,3,none⟩=some (.slice (some ⟨B.rg,0,none⟩) 16 B.rk):=R1.out.v.cell 3 rfl
 have ca:W1.cell? ⟨B.rg,a,none⟩=some (.int .i64 (gt H.regs a)):=R1.out.hr.cell R1.out.hr.len a Ra.out
 have n0:W1.cell? ⟨n,0,none⟩=some (.int .i64 14):=VN.out.cell 0 rfl
 have n2:W1.cell? ⟨n,2,none⟩=some (.int .i64 (a:Int)):=VN.out.cell 2 rfl
 have n3:W1.cell? ⟨n,3,none⟩=some (.int .i64 im):=VN.out.cell 3 rfl
 have aI:=Ia.out
 go_upto_region 2 with(go_at_call 100;refine(spec_add _ _ _).mono ?_;rintro e y ⟨rfl,hy⟩;rw[hy];clear hy y)
 go_quiet (first|(go_at_call 101;exact Calls.quiet_of_same (z_off _ _))|(go_at_call 100;exact Calls.quiet_of_same (spec_add _ _ _)))
 have R0:Hid (Bs (W1.drewN nq) B i o zs H (-1) (-1)):=R1.out.keep (dr (Below.refl _ _) _)
 have V0:Hid (Vb (W1.drewN nq) n #[.int .i64 14,.int .i64 (d:Int),.int .i64 (a:Int),.int .i64 im] 43):=VN.out
 have B0:Hid (Below B.base w (W1.drewN nq)):=dr B1.out _
 clear R1 VN B1 c4 c3 ca n0 n2 n3 aI
 generalize W1.drewN nq=x0 at*
 have n0:x0.cell? ⟨n,0,none⟩=some (.int .i64 14):=V0.out.cell 0 rfl
 go_upto_region 8 with fail
 go_wp2_with fail
 refine(z_space R0.out SN.out (addV (gt H.regs a) (offV im)) 1 rfl).mono ?_
 rintro e x5⟨rfl,b5⟩
 rw[HC.out,HV.out]
 have R5:=hid (R0.out.keep b5)
 have V5:=hid (V0.out.keep b5)
 have B5:Hid (Below B.base w x5):=B0.out.trans (bless b5 R0.out.size)
 clear b5 R0 V0 B0 n0
 have n0:x5.cell? ⟨n,0,none⟩=some (.int .i64 14):=V5.out.cell 0 rfl
 go_upto_region 17 with fail
 clear n0 t9
 have R0:=R5
 have V0:=V5
 have B0:=B5
 clear R5 V5 B5
 generalize x5=x0 at*
 have S0:Hid (Vb x0.drew n #[.int .i64 14,.int .i64 (d:Int),.int .i64 (a:Int),.int .i64 im] 43∧x0.drew.cell? ⟨B.q,3,none⟩=some (.slice (some ⟨B.rg,0,none⟩) 16 B.rk)∧x0.drew.cell? ⟨B.q,1,none⟩=some (.slice (some ⟨B.gm,0,none⟩) (B.p*8) B.mc)):=⟨V0.out,R0.out.v.cell 3 rfl,R0.out.v.cell 1 rfl⟩
 replace R0:=hid_dr R0
 replace B0:=hid_bd B0
 refine wp_region_held (S:=fun w'=>Vb w' n #[.int .i64 14,.int .i64 (d:Int),.int .i64 (a:Int),.int .i64 im] 43∧w'.cell? ⟨B.q,3,none⟩=some (.slice (some ⟨B.rg,0,none⟩) 16 B.rk)∧w'.cell? ⟨B.q,1,none⟩=some (.slice (some ⟨B.gm,0,none⟩) (B.p*8) B.mc)) (by kernel_rfl) ?_
 change wpAnyH _ _ _ _ _ _ _ _ (World.drew _)
 generalize x0.drew=x1 at*
 refine wpTd 0 78 (.pointer (some ⟨B.q,0,none⟩)) rfl S0.out ?_
 simp only[Act.put,zT,zZ,zS]
 refine wpTd 1 79 (.pointer (some ⟨n,1,none⟩)) rfl S0.out ?_
 simp only[Act.put,zT,zZ,zS]
 refine wpTe 2 80 (.int .i64 (d:Int)) rfl (Or.inl ⟨by rfl,fun w' hs=>by have hc:=(hs.1.cell 1 rfl:w'.cell? ⟨n,1,none⟩=some (.int .i64 (d:Int)));go_simp⟩) S0.out ?_
 simp only[Act.put,zT,zZ,zS]
 refine wpTd 3 81 (.pointer (some ⟨B.q,0,none⟩)) rfl S0.out ?_
 simp only[Act.put,zT,zZ,zS]
 refine wpTd 4 82 (.pointer (some ⟨B.q,0,none⟩)) rfl S0.out ?_
 simp only[Act.put,zT,zZ,zS]
 refine wpTd 5 83 (.pointer (some ⟨B.q,1,none⟩)) rfl S0.out ?_
 simp only[Act.put,zT,zZ,zS]
 refine wpTe 6 84 (.slice (some ⟨B.gm,0,none⟩) (B.p*8) B.mc) rfl (Or.inl ⟨by rfl,fun w' hs=>by have hc:=hs.2.2;go_simp⟩) S0.out ?_
 simp only[Act.put,zT,zZ,zS]
 refine wpTd 7 85 (.int .i64 (tn:Int)) rfl S0.out ?_
 simp only[Act.put,zT,zZ,zS]
 refine wpTe 8 86 (.pointer (some ⟨B.gm,tn,none⟩)) rfl (Or.inl ⟨by rfl,fun w' hs=>by have h1:¬((B.p:Int)*8≤(tn:Int)):=(by have:=Rt.out;omega);have h2:=Rt.out;go_simp⟩) S0.out ?_
 simp only[Act.put,zT,zZ,zS]
 refine zR 9 rfl fun K hK=>?_
 rw[if_pos (by rfl)]
 have cl:x1.cell? ⟨B.gm,tn,none⟩=some (.int .i64 (zs.getD tn 0)):=R0.out.hm.cell R0.out.hm.len tn Rt.out
 go_simp
 refine hK.out _ _ S0.out (fun _=>?_)
 clear hK K cl
 refine zR 10 rfl fun K hK=>?_
 rw[if_pos (by rfl)]
 go_simp
 refine(z_put R0.out d Rd.out (zs.getD tn 0)).mono ?_
 rintro e x2⟨rfl,⟨r2,b2⟩,m2⟩
 have R2:=hid r2
 have B2:Hid (Below B.base w x2):=B0.out.trans b2
 have S2:Hid (Vb x2 n #[.int .i64 14,.int .i64 (d:Int),.int .i64 (a:Int),.int .i64 im] 43∧x2.cell? ⟨B.q,3,none⟩=some (.slice (some ⟨B.rg,0,none⟩) 16 B.rk)∧x2.cell? ⟨B.q,1,none⟩=some (.slice (some ⟨B.gm,0,none⟩) (B.p*8) B.mc)):=⟨m2.vb S0.out.1 fun e=>QN.out.2.1 e,R2.out.v.cell 3 rfl,R2.out.v.cell 1 rfl⟩
 clear r2 b2 m2
 refine hK.out _ _ S2.out (fun _=>?_)
 clear hK K
 refine wpAnyH_done (by kernel_rfl) ?_ _
 go_wp2_with fail
 go_ret
 exact⟨rfl,_,_,R2.out,B2.out⟩
theorem zm_loadV(R:Bs w B i o zs H (-1) (-1))(sn:Sn H B.ps zs B.p)(d a:Nat)(hd:d<16)(ha:a<16)(im:Int)(hz:plC H B.ps zs (addV (gt H.regs a) (offV im)) 1=0)(tk:Nat)(hv:plV H B.ps zs (addV (gt H.regs a) (offV im)) 1=1000+(tk:Int))(ht:tk≤7):
  Calls Tryz.prog 103 #[.pointer (some ⟨B.q,0,none⟩),.agg #[.int .i64 14,.int .i64 (d:Int),.int .i64 (a:Int),.int .i64 im]] w fun e w'=>e=.returned (.bool true)∧∃i' o',Bs w' B i' o' zs (putV (drH H (tk:Int)) d (drV H (tk:Int))) (-1) (-1)∧Below B.base w w':=by
 have HR:=hid R
 have SN:=hid sn
 have Rd:=hid hd
 have Id:Hid ((d:Int)<16):=by show _<_;omega
 have Ra:=hid ha
 have Ia:Hid ((a:Int)<16):=by show _<_;omega
 have HC:=hid hz
 have HV:=hid hv
 have Rt:=hid ht
 have t9:(1000:Int)≤1000+(tk:Int):=by omega
 have ts:(1000+(tk:Int))-1000=(tk:Int):=by omega
 clear hz hv
 clear R sn
 go_enter Tryz.func103,Tryz.ntmps103
 go_upto_region 1 with fail
 generalize hW:w.alloc (.cells #[.int .i64 14,.int .i64 (d:Int),.int .i64 (a:Int),.int .i64 im] 43)=W1
 obtain⟨n,hn⟩:∃n,w.heap.size=n:=⟨_,rfl⟩
 rw[hn]
 have VN:Hid (Vb W1 n #[.int .i64 14,.int .i64 (d:Int),.int .i64 (a:Int),.int .i64 im] 43):=by show Vb _ _ _ _;rw[←hW,←hn];exact Vb.new _ _ _
 have bb:Below w.heap.size w W1:=by rw[←hW];exact al (Below.refl _ _) _
 have R1:=hid (HR.out.keep bb)
 have B1:Hid (Below B.base w W1):=bless bb HR.out.size
 have QN:Hid (n≠B.q∧n≠B.rg∧n≠B.cg∧n≠B.gm∧o.ownBlock≠some n):=by
  obtain⟨bo,_,_,ho,_⟩:=HR.out.ho
  exact⟨by have:=HR.out.v.lt;omega,by have:=(HR.out.hr.lt B.rg rfl).2;omega,by have:=(HR.out.hc.lt B.cg rfl).2;omega,by have:=(HR.out.hm.lt B.gm rfl).2;omega,fun e=>by have:=(ho.lt n e).2;omega⟩
 clear hW hn bb
 have c4:W1.cell? ⟨B.q,4,none⟩=some (.int .i64 H.pc):=R1.out.v.cell 4 rfl
 have c3:W1.cell? ⟨B.q,3,none⟩=some (.slice (some ⟨B.rg,0,none⟩) 16 B.rk):=R1.out.v.cell 3 rfl
 have ca:W1.cell? ⟨B.rg,a,none⟩=some (.int .i64 (gt H.regs a)):=R1.out.hr.cell R1.out.hr.len a Ra.out
 have n0:W1.cell? ⟨n,0,none⟩=some (.int .i64 14):=VN.out.cell 0 rfl
 have n2:W1.cell? ⟨n,2,none⟩=some (.int .i64 (a:Int)):=VN.out.cell 2 rfl
 have n3:W1.cell? ⟨n,3,none⟩=some (.int .i64 im):=VN.out.cell 3 rfl
 have aI:=Ia.out
 go_upto_region 2 with(go_at_call 100;refine(spec_add _ _ _).mono ?_;rintro e y ⟨rfl,hy⟩;rw[hy];clear hy y)
 go_quiet (first|(go_at_call 101;exact Calls.quiet_of_same (z_off _ _))|(go_at_call 100;exact Calls.quiet_of_same (spec_add _ _ _)))
 have R0:Hid (Bs (W1.drewN nq) B i o zs H (-1) (-1)):=R1.out.keep (dr (Below.refl _ _) _)
 have V0:Hid (Vb (W1.drewN nq) n #[.int .i64 14,.int .i64 (d:Int),.int .i64 (a:Int),.int .i64 im] 43):=VN.out
 have B0:Hid (Below B.base w (W1.drewN nq)):=dr B1.out _
 clear R1 VN B1 c4 c3 ca n0 n2 n3 aI
 generalize W1.drewN nq=x0 at*
 have n0:x0.cell? ⟨n,0,none⟩=some (.int .i64 14):=V0.out.cell 0 rfl
 go_upto_region 8 with fail
 go_wp2_with fail
 refine(z_space R0.out SN.out (addV (gt H.regs a) (offV im)) 1 rfl).mono ?_
 rintro e x5⟨rfl,b5⟩
 rw[HC.out,HV.out]
 have R5:=hid (R0.out.keep b5)
 have V5:=hid (V0.out.keep b5)
 have B5:Hid (Below B.base w x5):=B0.out.trans (bless b5 R0.out.size)
 clear b5 R0 V0 B0 n0
 have n0:x5.cell? ⟨n,0,none⟩=some (.int .i64 14):=V5.out.cell 0 rfl
 go_wp2_with fail
 refine(z_read R5.out (tk:Int) (by omega) (by have:=Rt.out;omega)).mono ?_
 rintro e x6⟨rfl,i6,r6,b6,m6⟩
 have R6:=hid r6
 have B6:Hid (Below B.base w x6):=B5.out.trans b6
 have N6:Hid (Vb x6 n #[.int .i64 14,.int .i64 (d:Int),.int .i64 (a:Int),.int .i64 im] 43):=m6.vb V5.out fun e=>QN.out.1 e
 clear r6 b6 m6 n0
 have n1:x6.cell? ⟨n,1,none⟩=some (.int .i64 (d:Int)):=N6.out.cell 1 rfl
 go_wp2_with fail
 refine(z_put R6.out d Rd.out (drV H (tk:Int))).mono ?_
 rintro e x2⟨rfl,⟨r2,b2⟩,m2⟩
 have R2:Hid (Bs x2 B i6 o zs (putV (drH H (tk:Int)) d (drV H (tk:Int))) (-1) (-1)∧Below B.base w x2):=⟨r2,B6.out.trans b2⟩
 clear r2 b2 m2 n1
 go_wp2_with fail
 go_ret
 exact⟨rfl,_,_,R2.out.1,R2.out.2⟩
theorem zm_storeM(R:Bs w B i o zs H (-1) (-1))(sn:Sn H B.ps zs B.p)(d a:Nat)(hd:d<16)(ha:a<16)(im:Int)(hz:plC H B.ps zs (addV (gt H.regs a) (offV im)) 2=0)(tn:Nat)(hv:plV H B.ps zs (addV (gt H.regs a) (offV im)) 2=(tn:Int))(ht:tn<B.p*8):
  Calls Tryz.prog 103 #[.pointer (some ⟨B.q,0,none⟩),.agg #[.int .i64 15,.int .i64 (d:Int),.int .i64 (a:Int),.int .i64 im]] w fun e w'=>e=.returned (.bool true)∧∃i' o',Bs w' B i' o' (zs.set tn (gt H.regs d)) H (-1) (-1)∧Below B.base w w':=by
 have HR:=hid R
 have SN:=hid sn
 have Rd:=hid hd
 have Id:Hid ((d:Int)<16):=by show _<_;omega
 have Ra:=hid ha
 have Ia:Hid ((a:Int)<16):=by show _<_;omega
 have HC:=hid hz
 have p24:=sn.p24
 have HV:=hid hv
 have Rt:=hid ht
 have It:Hid ((tn:Int)<((B.p*8:Nat):Int)):=by show _<_;omega
 have t9:(tn:Int)<1000:=by omega
 clear hz hv p24
 clear R sn
 go_enter Tryz.func103,Tryz.ntmps103
 go_upto_region 1 with fail
 generalize hW:w.alloc (.cells #[.int .i64 15,.int .i64 (d:Int),.int .i64 (a:Int),.int .i64 im] 43)=W1
 obtain⟨n,hn⟩:∃n,w.heap.size=n:=⟨_,rfl⟩
 rw[hn]
 have VN:Hid (Vb W1 n #[.int .i64 15,.int .i64 (d:Int),.int .i64 (a:Int),.int .i64 im] 43):=by show Vb _ _ _ _;rw[←hW,←hn];exact Vb.new _ _ _
 have bb:Below w.heap.size w W1:=by rw[←hW];exact al (Below.refl _ _) _
 have R1:=hid (HR.out.keep bb)
 have B1:Hid (Below B.base w W1):=bless bb HR.out.size
 have QN:Hid (n≠B.q∧n≠B.rg∧n≠B.cg∧n≠B.gm∧o.ownBlock≠some n):=by
  obtain⟨bo,_,_,ho,_⟩:=HR.out.ho
  exact⟨by have:=HR.out.v.lt;omega,by have:=(HR.out.hr.lt B.rg rfl).2;omega,by have:=(HR.out.hc.lt B.cg rfl).2;omega,by have:=(HR.out.hm.lt B.gm rfl).2;omega,fun e=>by have:=(ho.lt n e).2;omega⟩
 clear hW hn bb
 have c4:W1.cell? ⟨B.q,4,none⟩=some (.int .i64 H.pc):=R1.out.v.cell 4 rfl
 have c3:W1.cell? ⟨B.q,3,none⟩=some (.slice (some ⟨B.rg,0,none⟩) 16 B.rk):=R1.out.v.cell 3 rfl
 have ca:W1.cell? ⟨B.rg,a,none⟩=some (.int .i64 (gt H.regs a)):=R1.out.hr.cell R1.out.hr.len a Ra.out
 have n0:W1.cell? ⟨n,0,none⟩=some (.int .i64 15):=VN.out.cell 0 rfl
 have n2:W1.cell? ⟨n,2,none⟩=some (.int .i64 (a:Int)):=VN.out.cell 2 rfl
 have n3:W1.cell? ⟨n,3,none⟩=some (.int .i64 im):=VN.out.cell 3 rfl
 have aI:=Ia.out
 go_upto_region 2 with(go_at_call 100;refine(spec_add _ _ _).mono ?_;rintro e y ⟨rfl,hy⟩;rw[hy];clear hy y)
 go_quiet (first|(go_at_call 101;exact Calls.quiet_of_same (z_off _ _))|(go_at_call 100;exact Calls.quiet_of_same (spec_add _ _ _)))
 have R0:Hid (Bs (W1.drewN nq) B i o zs H (-1) (-1)):=R1.out.keep (dr (Below.refl _ _) _)
 have V0:Hid (Vb (W1.drewN nq) n #[.int .i64 15,.int .i64 (d:Int),.int .i64 (a:Int),.int .i64 im] 43):=VN.out
 have B0:Hid (Below B.base w (W1.drewN nq)):=dr B1.out _
 clear R1 VN B1 c4 c3 ca n0 n2 n3 aI
 generalize W1.drewN nq=x0 at*
 have n0:x0.cell? ⟨n,0,none⟩=some (.int .i64 15):=V0.out.cell 0 rfl
 go_upto_region 8 with fail
 go_wp2_with fail
 refine(z_space R0.out SN.out (addV (gt H.regs a) (offV im)) 2 rfl).mono ?_
 rintro e x5⟨rfl,b5⟩
 rw[HC.out,HV.out]
 have R5:=hid (R0.out.keep b5)
 have V5:=hid (V0.out.keep b5)
 have B5:Hid (Below B.base w x5):=B0.out.trans (bless b5 R0.out.size)
 clear b5 R0 V0 B0 n0
 have n0:x5.cell? ⟨n,0,none⟩=some (.int .i64 15):=V5.out.cell 0 rfl
 have n1:x5.cell? ⟨n,1,none⟩=some (.int .i64 (d:Int)):=V5.out.cell 1 rfl
 have c1:x5.cell? ⟨B.q,1,none⟩=some (.slice (some ⟨B.gm,0,none⟩) (B.p*8) B.mc):=R5.out.v.cell 1 rfl
 have c3:x5.cell? ⟨B.q,3,none⟩=some (.slice (some ⟨B.rg,0,none⟩) 16 B.rk):=R5.out.v.cell 3 rfl
 have cd:x5.cell? ⟨B.rg,d,none⟩=some (.int .i64 (gt H.regs d)):=R5.out.hr.cell R5.out.hr.len d Rd.out
 have ct:x5.cell? ⟨B.gm,tn,none⟩=some (.int .i64 (zs.getD tn 0)):=R5.out.hm.cell R5.out.hm.len tn Rt.out
 have ft:=R5.out.hm.free R5.out.hm.len tn
 have h1:=Id.out
 have h2:=It.out
 have U:Hid (_∧_):=R5.out.memo tn (gt H.regs d)
 go_upto_region 12 with fail
 go_region
 all_goals go_wp2_with fail
 all_goals go_ret
 all_goals exact⟨rfl,_,_,U.out.1.dr,B5.out.trans U.out.2.drew⟩
theorem zm_storeV(R:Bs w B i o zs H (-1) (-1))(sn:Sn H B.ps zs B.p)(d a:Nat)(hd:d<16)(ha:a<16)(im:Int)(hz:plC H B.ps zs (addV (gt H.regs a) (offV im)) 2=0)(tk:Nat)(hv:plV H B.ps zs (addV (gt H.regs a) (offV im)) 2=1000+(tk:Int))(ht:tk≤7):
  Calls Tryz.prog 103 #[.pointer (some ⟨B.q,0,none⟩),.agg #[.int .i64 15,.int .i64 (d:Int),.int .i64 (a:Int),.int .i64 im]] w fun e w'=>e=.returned (.bool true)∧∃i' o',Bs w' B i' o' zs (dwW H (tk:Int) (gt H.regs d)) (rgW (tk:Int) (gt H.regs d)) (-1)∧Below B.base w w':=by
 have HR:=hid R
 have SN:=hid sn
 have Rd:=hid hd
 have Id:Hid ((d:Int)<16):=by show _<_;omega
 have Ra:=hid ha
 have Ia:Hid ((a:Int)<16):=by show _<_;omega
 have HC:=hid hz
 have HV:=hid hv
 have Rt:=hid ht
 have t9:(1000:Int)≤1000+(tk:Int):=by omega
 have ts:(1000+(tk:Int))-1000=(tk:Int):=by omega
 have Ts:=hid ts
 have WD:Hid (wd (gt H.regs d)=gt H.regs d):=wd_id (isW_iff.1 (gt_isW sn.hok.rw d))
 clear hz hv
 clear R sn
 go_enter Tryz.func103,Tryz.ntmps103
 go_upto_region 1 with fail
 generalize hW:w.alloc (.cells #[.int .i64 15,.int .i64 (d:Int),.int .i64 (a:Int),.int .i64 im] 43)=W1
 obtain⟨n,hn⟩:∃n,w.heap.size=n:=⟨_,rfl⟩
 rw[hn]
 have VN:Hid (Vb W1 n #[.int .i64 15,.int .i64 (d:Int),.int .i64 (a:Int),.int .i64 im] 43):=by show Vb _ _ _ _;rw[←hW,←hn];exact Vb.new _ _ _
 have bb:Below w.heap.size w W1:=by rw[←hW];exact al (Below.refl _ _) _
 have R1:=hid (HR.out.keep bb)
 have B1:Hid (Below B.base w W1):=bless bb HR.out.size
 have QN:Hid (n≠B.q∧n≠B.rg∧n≠B.cg∧n≠B.gm∧o.ownBlock≠some n):=by
  obtain⟨bo,_,_,ho,_⟩:=HR.out.ho
  exact⟨by have:=HR.out.v.lt;omega,by have:=(HR.out.hr.lt B.rg rfl).2;omega,by have:=(HR.out.hc.lt B.cg rfl).2;omega,by have:=(HR.out.hm.lt B.gm rfl).2;omega,fun e=>by have:=(ho.lt n e).2;omega⟩
 clear hW hn bb
 have c4:W1.cell? ⟨B.q,4,none⟩=some (.int .i64 H.pc):=R1.out.v.cell 4 rfl
 have c3:W1.cell? ⟨B.q,3,none⟩=some (.slice (some ⟨B.rg,0,none⟩) 16 B.rk):=R1.out.v.cell 3 rfl
 have ca:W1.cell? ⟨B.rg,a,none⟩=some (.int .i64 (gt H.regs a)):=R1.out.hr.cell R1.out.hr.len a Ra.out
 have n0:W1.cell? ⟨n,0,none⟩=some (.int .i64 15):=VN.out.cell 0 rfl
 have n2:W1.cell? ⟨n,2,none⟩=some (.int .i64 (a:Int)):=VN.out.cell 2 rfl
 have n3:W1.cell? ⟨n,3,none⟩=some (.int .i64 im):=VN.out.cell 3 rfl
 have aI:=Ia.out
 go_upto_region 2 with(go_at_call 100;refine(spec_add _ _ _).mono ?_;rintro e y ⟨rfl,hy⟩;rw[hy];clear hy y)
 go_quiet (first|(go_at_call 101;exact Calls.quiet_of_same (z_off _ _))|(go_at_call 100;exact Calls.quiet_of_same (spec_add _ _ _)))
 have R0:Hid (Bs (W1.drewN nq) B i o zs H (-1) (-1)):=R1.out.keep (dr (Below.refl _ _) _)
 have V0:Hid (Vb (W1.drewN nq) n #[.int .i64 15,.int .i64 (d:Int),.int .i64 (a:Int),.int .i64 im] 43):=VN.out
 have B0:Hid (Below B.base w (W1.drewN nq)):=dr B1.out _
 clear R1 VN B1 c4 c3 ca n0 n2 n3 aI
 generalize W1.drewN nq=x0 at*
 have n0:x0.cell? ⟨n,0,none⟩=some (.int .i64 15):=V0.out.cell 0 rfl
 go_upto_region 8 with fail
 go_wp2_with fail
 refine(z_space R0.out SN.out (addV (gt H.regs a) (offV im)) 2 rfl).mono ?_
 rintro e x5⟨rfl,b5⟩
 rw[HC.out,HV.out]
 have R5:=hid (R0.out.keep b5)
 have V5:=hid (V0.out.keep b5)
 have B5:Hid (Below B.base w x5):=B0.out.trans (bless b5 R0.out.size)
 clear b5 R0 V0 B0 n0
 have n0:x5.cell? ⟨n,0,none⟩=some (.int .i64 15):=V5.out.cell 0 rfl
 go_upto_region 19 with fail
 clear n0 t9
 have R0:=R5
 have V0:=V5
 have B0:=B5
 clear R5 V5 B5
 generalize x5=x0 at*
 have S0:Hid (Vb x0.drew n #[.int .i64 15,.int .i64 (d:Int),.int .i64 (a:Int),.int .i64 im] 43∧x0.drew.cell? ⟨B.q,3,none⟩=some (.slice (some ⟨B.rg,0,none⟩) 16 B.rk)∧x0.drew.cell? ⟨B.q,1,none⟩=some (.slice (some ⟨B.gm,0,none⟩) (B.p*8) B.mc)):=⟨V0.out,R0.out.v.cell 3 rfl,R0.out.v.cell 1 rfl⟩
 replace R0:=hid_dr R0
 replace B0:=hid_bd B0
 refine wp_region_held (S:=fun w'=>Vb w' n #[.int .i64 15,.int .i64 (d:Int),.int .i64 (a:Int),.int .i64 im] 43∧w'.cell? ⟨B.q,3,none⟩=some (.slice (some ⟨B.rg,0,none⟩) 16 B.rk)∧w'.cell? ⟨B.q,1,none⟩=some (.slice (some ⟨B.gm,0,none⟩) (B.p*8) B.mc)) (by kernel_rfl) ?_
 change wpAnyH _ _ _ _ _ _ _ _ (World.drew _)
 generalize x0.drew=x1 at*
 refine wpTd 0 92 (.pointer (some ⟨B.q,0,none⟩)) rfl S0.out ?_
 simp only[Act.put,zT,zZ,zS]
 refine wpTd 1 93 (.pointer (some ⟨B.q,3,none⟩)) rfl S0.out ?_
 simp only[Act.put,zT,zZ,zS]
 refine wpTd 2 94 (.int .i64 (1000+(tk:Int))) rfl S0.out ?_
 simp only[Act.put,zT,zZ,zS]
 refine wpTe 3 95 (.int .i64 (tk:Int)) rfl (Or.inl ⟨by rfl,fun w' hs=>by have h1:=wrap_nat Rt.out;have h3:=Ts.out;go_simp⟩) S0.out ?_
 simp only[Act.put,zT,zZ,zS]
 refine wpTd 4 96 (.pointer (some ⟨B.q,3,none⟩)) rfl S0.out ?_
 simp only[Act.put,zT,zZ,zS]
 refine wpTd 5 97 (.pointer (some ⟨B.q,3,none⟩)) rfl S0.out ?_
 simp only[Act.put,zT,zZ,zS]
 refine wpTd 6 98 (.pointer (some ⟨B.q,3,none⟩)) rfl S0.out ?_
 simp only[Act.put,zT,zZ,zS]
 refine wpTe 7 99 (.slice (some ⟨B.rg,0,none⟩) 16 B.rk) rfl (Or.inl ⟨by rfl,fun w' hs=>by have hc:=hs.2.1;go_simp⟩) S0.out ?_
 simp only[Act.put,zT,zZ,zS]
 refine wpTd 8 100 (.pointer (some ⟨n,1,none⟩)) rfl S0.out ?_
 simp only[Act.put,zT,zZ,zS]
 refine wpTe 9 101 (.int .i64 (d:Int)) rfl (Or.inl ⟨by rfl,fun w' hs=>by have hc:=(hs.1.cell 1 rfl:w'.cell? ⟨n,1,none⟩=some (.int .i64 (d:Int)));go_simp⟩) S0.out ?_
 simp only[Act.put,zT,zZ,zS]
 refine wpTe 10 102 (.pointer (some ⟨B.rg,d,none⟩)) rfl (Or.inl ⟨by rfl,fun w' hs=>by have h1:=Id.out;have h2:=Rd.out;go_simp⟩) S0.out ?_
 simp only[Act.put,zT,zZ,zS]
 refine zR 11 rfl fun K hK=>?_
 rw[if_pos (by rfl)]
 have cl:x1.cell? ⟨B.rg,d,none⟩=some (.int .i64 (gt H.regs d)):=R0.out.hr.cell R0.out.hr.len d Rd.out
 go_simp
 refine hK.out _ _ S0.out (fun _=>?_)
 clear hK K cl
 refine zR 12 rfl fun K hK=>?_
 rw[if_pos (by rfl)]
 go_simp
 refine(z_write R0.out SN.out.hok (tk:Int) (gt H.regs d) (by omega) (by have:=Rt.out;omega)).mono ?_
 rw[WD.out]
 rintro e x2⟨rfl,o2,⟨r2,b2⟩,m2⟩
 have R2:=hid r2
 have B2:Hid (Below B.base w x2):=B0.out.trans b2
 have S2:Hid (Vb x2 n #[.int .i64 15,.int .i64 (d:Int),.int .i64 (a:Int),.int .i64 im] 43∧x2.cell? ⟨B.q,3,none⟩=some (.slice (some ⟨B.rg,0,none⟩) 16 B.rk)∧x2.cell? ⟨B.q,1,none⟩=some (.slice (some ⟨B.gm,0,none⟩) (B.p*8) B.mc)):=⟨m2.vb S0.out.1 fun e=>e.elim QN.out.1 fun e=>e.elim QN.out.2.2.1 QN.out.2.2.2.2,R2.out.v.cell 3 rfl,R2.out.v.cell 1 rfl⟩
 clear r2 b2 m2
 refine hK.out _ _ S2.out (fun _=>?_)
 clear hK K
 refine wpTd 13 105 (.pointer (some ⟨B.q,0,none⟩)) rfl S2.out ?_
 simp only[Act.put,zT,zZ,zS]
 refine wpTd 14 106 (.pointer (some ⟨B.q,2,none⟩)) rfl S2.out ?_
 simp only[Act.put,zT,zZ,zS]
 refine zR 15 rfl fun K hK=>?_
 rw[if_pos (by rfl)]
 have d2:x2.cell? ⟨B.q,2,none⟩=some (.int .i64 (-1)):=R2.out.v.cell 2 rfl
 have f2:=R2.out.v.free 2
 have U:Hid (_∧_):=R2.out.fld (G:=dwW H (tk:Int) (gt H.regs d)) (ri':=rgW (tk:Int) (gt H.regs d)) (fa':= -1) 2 (.int .i64 (rgW (tk:Int) (gt H.regs d))) rfl rfl rfl rfl rfl
 go_simp
 clear d2 f2
 have S4:Hid (Vb (x2.setCell ⟨B.q,2,none⟩ (.int .i64 (rgW (tk:Int) (gt H.regs d)))) n #[.int .i64 15,.int .i64 (d:Int),.int .i64 (a:Int),.int .i64 im] 43∧(x2.setCell ⟨B.q,2,none⟩ (.int .i64 (rgW (tk:Int) (gt H.regs d)))).cell? ⟨B.q,3,none⟩=some (.slice (some ⟨B.rg,0,none⟩) 16 B.rk)∧(x2.setCell ⟨B.q,2,none⟩ (.int .i64 (rgW (tk:Int) (gt H.regs d)))).cell? ⟨B.q,1,none⟩=some (.slice (some ⟨B.gm,0,none⟩) (B.p*8) B.mc)):=⟨S2.out.1.put _ _ QN.out.1,U.out.1.v.cell 3 rfl,U.out.1.v.cell 1 rfl⟩
 have B4:Hid (Below B.base w _):=B2.out.trans U.out.2
 refine hK.out _ _ S4.out (fun _=>?_)
 clear hK K
 refine wpAnyH_done (by kernel_rfl) ?_ _
 go_wp2_with fail
 go_ret
 exact⟨rfl,_,_,U.out.1,B4.out⟩
theorem zm_load(R:Bs w B i o zs H (-1) (-1))(sn:Sn H B.ps zs B.p)(d a:Nat)(hd:d<16)(ha:a<16)(im:Int)(hz:plC H B.ps zs (addV (gt H.regs a) (offV im)) 1=0):
  Calls Tryz.prog 103 #[.pointer (some ⟨B.q,0,none⟩),.agg #[.int .i64 14,.int .i64 (d:Int),.int .i64 (a:Int),.int .i64 im]] w fun e w'=>e=.returned (.bool true)∧∃i' o',Bs w' B i' o' zs (putV (loadH H B.ps zs (addV (gt H.regs a) (offV im))) d (loadW H B.ps zs (addV (gt H.regs a) (offV im)))) (-1) (-1)∧Below B.base w w':=by
 rcases pl_cases sn rfl hz with⟨tn,hv,ht⟩|⟨tk,hv,ht⟩
 ·have p24:=sn.p24
  rw[show loadH H B.ps zs (addV (gt H.regs a) (offV im))=H by unfold loadH;rw[hv,if_pos (by omega)],show loadW H B.ps zs (addV (gt H.regs a) (offV im))=zs.getD tn 0 by unfold loadW;rw[hv,if_pos (by omega)];rfl]
  exact zm_loadM R sn d a hd ha im hz tn hv ht
 ·rw[show loadH H B.ps zs (addV (gt H.regs a) (offV im))=drH H (tk:Int) by unfold loadH;rw[hv,if_neg (by omega)];congr 1;omega,show loadW H B.ps zs (addV (gt H.regs a) (offV im))=drV H (tk:Int) by unfold loadW;rw[hv,if_neg (by omega)];congr 1;omega]
  exact zm_loadV R sn d a hd ha im hz tk hv ht
theorem zm_store(R:Bs w B i o zs H (-1) (-1))(sn:Sn H B.ps zs B.p)(d a:Nat)(hd:d<16)(ha:a<16)(im:Int)(hz:plC H B.ps zs (addV (gt H.regs a) (offV im)) 2=0):
  Calls Tryz.prog 103 #[.pointer (some ⟨B.q,0,none⟩),.agg #[.int .i64 15,.int .i64 (d:Int),.int .i64 (a:Int),.int .i64 im]] w fun e w'=>e=.returned (.bool true)∧∃i' o',Bs w' B i' o' (storeZ H B.ps zs (addV (gt H.regs a) (offV im)) (gt H.regs d)) (storeH H B.ps zs (addV (gt H.regs a) (offV im)) (gt H.regs d)) (storeR H B.ps zs (addV (gt H.regs a) (offV im)) (gt H.regs d) (-1)) (-1)∧Below B.base w w':=by
 rcases pl_cases sn rfl hz with⟨tn,hv,ht⟩|⟨tk,hv,ht⟩
 ·have p24:=sn.p24
  rw[show storeH H B.ps zs (addV (gt H.regs a) (offV im)) (gt H.regs d)=H by unfold storeH;rw[hv,if_pos (by omega)],show(storeZ H B.ps zs (addV (gt H.regs a) (offV im)) (gt H.regs d))=zs.set tn (gt H.regs d) by unfold storeZ;rw[hv,if_pos (by omega)];rfl,show(storeR H B.ps zs (addV (gt H.regs a) (offV im)) (gt H.regs d) (-1))= -1 by unfold storeR;rw[hv,if_pos (by omega)]]
  exact zm_storeM R sn d a hd ha im hz tn hv ht
 ·have e:plV H B.ps zs (addV (gt H.regs a) (offV im)) 2-1000=(tk:Int):=by omega
  rw[show storeH H B.ps zs (addV (gt H.regs a) (offV im)) (gt H.regs d)=dwW H (tk:Int) (gt H.regs d) by unfold storeH;rw[e,hv,if_neg (by omega)],show(storeZ H B.ps zs (addV (gt H.regs a) (offV im)) (gt H.regs d))=zs by unfold storeZ;rw[hv,if_neg (by omega)],show(storeR H B.ps zs (addV (gt H.regs a) (offV im)) (gt H.regs d) (-1))=rgW (tk:Int) (gt H.regs d) by unfold storeR;rw[e,hv,if_neg (by omega)];split<;>simp_all]
  exact zm_storeV R sn d a hd ha im hz tk hv ht
end Go.Proofs.YtaefollmeoepkaaGreatDoor
