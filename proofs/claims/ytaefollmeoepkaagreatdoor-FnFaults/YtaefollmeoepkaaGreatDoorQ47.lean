import Derived.Test.YtaefollmeoepkaaGreatDoorQ44
import Derived.Test.YtaefollmeoepkaaGreatDoorQ46
namespace Go.Proofs.YtaefollmeoepkaaGreatDoor
set_option maxRecDepth 20000
set_option maxHeartbeats 16000000
open Go.RowKit
set_option linter.unusedVariables false
def Zp(w w':World)(B:Bp)(e:Ending)(D:Dr):Prop:=match D.t with
 |none=>e=.returned (.bool true)∧∃i' o',Bs w' B i' o' D.zs { D.H with pc:=D.next} D.ri (-1)∧Below B.base w w'
 |some (c,t)=>e=.returned (.bool false)∧∃i' o',Bs w' B i' o' D.zs (trapV D.H c t) D.ri c∧Below B.base w w'
theorem z_do{w:World}{B:Bp}{i o:Value}{zs:List Int}{H:Ht}(R:Bs w B i o zs H (-1) (-1))(sn:Sn H B.ps zs B.p)(op:Int)(d a:Nat)(im:Int)(hi:insC op d a im=0):
  Calls Tryz.prog 63 #[.pointer (some ⟨B.q,0,none⟩),.agg #[.int .i64 op,.int .i64 (d:Int),.int .i64 (a:Int),.int .i64 im]] w fun e w'=>Zp w w' B e (doV H B.ps zs (-1) op d a im):=by
 have q:=ins_parts hi
 have hd:d<16:=by omega
 have ha:a<16:=by omega
 by_cases h12:op=12
 ·subst h12
  exact zd_12 R sn d a hd ha im q.2.2.2.2.2.2.1 q.2.2.2.2.2.2.2.1
 by_cases h13:op=13
 ·subst h13
  exact zd_13 R sn d a hd ha im q.2.2.2.2.2.2.1 q.2.2.2.2.2.2.2.1
 by_cases h14:op=14
 ·subst h14
  have e:doV H B.ps zs (-1) 14 d a im=if plC H B.ps zs (addV (gt H.regs a) (offV im)) 1=0 then⟨none,(addV H.pc 1),putV (loadH H B.ps zs (addV (gt H.regs a) (offV im))) d (loadW H B.ps zs (addV (gt H.regs a) (offV im))),zs,(-1)⟩else⟨some (3,(addV (gt H.regs a) (offV im))),0,H,zs,(-1)⟩:=rfl
  rw[e]
  by_cases hz:plC H B.ps zs (addV (gt H.regs a) (offV im)) 1=0
  ·rw[if_pos hz];exact zd_14 R sn d a hd ha im q.2.2.2.2.2.2.1 q.2.2.2.2.2.2.2.1 hz
  ·rw[if_neg hz];exact zd_14no R sn d a hd ha im q.2.2.2.2.2.2.1 q.2.2.2.2.2.2.2.1 hz
 by_cases h15:op=15
 ·subst h15
  have e:doV H B.ps zs (-1) 15 d a im=if plC H B.ps zs (addV (gt H.regs a) (offV im)) 2=0 then⟨none,(addV H.pc 1),storeH H B.ps zs (addV (gt H.regs a) (offV im)) (gt H.regs d),storeZ H B.ps zs (addV (gt H.regs a) (offV im)) (gt H.regs d),storeR H B.ps zs (addV (gt H.regs a) (offV im)) (gt H.regs d) (-1)⟩else⟨some (4,(addV (gt H.regs a) (offV im))),0,H,zs,(-1)⟩:=rfl
  rw[e]
  by_cases hz:plC H B.ps zs (addV (gt H.regs a) (offV im)) 2=0
  ·rw[if_pos hz];exact zd_15 R sn d a hd ha im q.2.2.2.2.2.2.1 q.2.2.2.2.2.2.2.1 hz
  ·rw[if_neg hz];exact zd_15no R sn d a hd ha im q.2.2.2.2.2.2.1 q.2.2.2.2.2.2.2.1 hz
 by_cases h16:op=16
 ·subst h16
  exact zd_16 R sn d a hd ha im q.2.2.2.2.2.2.1 q.2.2.2.2.2.2.2.1
 by_cases h17:op=17
 ·subst h17
  exact zd_17 R sn d a hd ha im q.2.2.2.2.2.2.1 q.2.2.2.2.2.2.2.1
 by_cases h18:op=18
 ·subst h18
  exact zd_18 R sn d a hd ha im q.2.2.2.2.2.2.1 q.2.2.2.2.2.2.2.1
 by_cases h19:op=19
 ·subst h19
  exact zd_19 R sn d a hd ha im q.2.2.2.2.2.2.1 q.2.2.2.2.2.2.2.1
 by_cases h20:op=20
 ·subst h20
  exact zd_20 R sn d a hd ha im q.2.2.2.2.2.2.1 q.2.2.2.2.2.2.2.1
 by_cases h21:op=21
 ·subst h21
  exact zd_21 R sn d a hd ha im q.2.2.2.2.2.2.1 q.2.2.2.2.2.2.2.1 (q.2.2.2.2.2.2.2.2.2 (by decide))
 by_cases h22:op=22
 ·subst h22
  exact zd_22 R sn d a hd ha im q.2.2.2.2.2.2.1 q.2.2.2.2.2.2.2.1 (q.2.2.2.2.2.2.2.2.2 (by decide))
 by_cases h23:op=23
 ·subst h23
  exact zd_23 R sn d a hd ha im q.2.2.2.2.2.2.1 q.2.2.2.2.2.2.2.1
 by_cases h24:op=24
 ·subst h24
  exact zd_24 R sn d a hd ha im q.2.2.2.2.2.2.1 q.2.2.2.2.2.2.2.1
 by_cases h25:op=25
 ·subst h25
  exact zd_25 R sn d a hd ha im q.2.2.2.2.2.2.1 q.2.2.2.2.2.2.2.1
 by_cases h26:op=26
 ·subst h26
  exact zd_26 R sn d a hd ha im q.2.2.2.2.2.2.1 q.2.2.2.2.2.2.2.1
 obtain⟨b,rfl⟩:∃b:Nat,im=(b:Int):=⟨im.toNat,by omega⟩
 have hb:b<16:=by have:=q.2.2.2.2.2.2.2.2.1 (by omega);omega
 have e:doV H B.ps zs (-1) op d a (b:Int)=⟨none,(addV H.pc 1),putV H d (aluV op (gt H.regs a) (gt H.regs b)),zs,(-1)⟩:=by
  unfold doV
  rw[if_neg h12,if_neg h13,if_neg h14,if_neg h15,if_neg h16,if_neg h17,if_neg h18,if_neg h19,if_neg h20,if_neg h21,if_neg h22,if_neg h23,if_neg h24,if_neg h25,if_neg h26]
  rfl
 rw[e]
 exact zd_alu R sn d a hd ha b hb op ⟨by omega,by omega⟩
def runV(H:Ht)(ps:List (Int×Int))(zs:List Int):Ht×List Int×Int×Int:=
 if ¬plC H ps zs H.pc 4=0 then(trapV H 2 H.pc,zs,2, -1)
 else if ¬decF (fetZ H ps zs)=0 then(trapV H 1 (fetZ H ps zs),zs,1, -1)
 else match doV H ps zs (-1) (fetZ H ps zs/16777216) (fetZ H ps zs/1048576%16).toNat (fetZ H ps zs/65536%16).toNat (fetZ H ps zs%65536)with
  |⟨some (c,t),_,G,ys,rj⟩=>(trapV G c t,ys,c,rj)
  |⟨none,n,G,ys,rj⟩=>({ G with pc:=n,done:=min (G.done+1) 1000000000},ys, -1,rj)
theorem ins_var(x:World)(u0 u1 u2 u3:Value):Vb (x.alloc (.cells #[u0,u1,u2,u3] 43)) x.heap.size #[u0,u1,u2,u3] 43∧Below x.heap.size x (x.alloc (.cells #[u0,u1,u2,u3] 43)):=⟨Vb.new _ _ _,al (Below.refl _ _) _⟩
theorem z_decYes(v:Int)(h:decF v=0)(w:World):Calls Tryz.prog 62 #[.int .i64 v] w fun e w'=>e=.returned (.tuple #[.agg #[.int .i64 (v/16777216),.int .i64 (((v/1048576%16).toNat:Nat):Int),.int .i64 (((v/65536%16).toNat:Nat):Int),.int .i64 (v%65536)],.bool true])∧Below w.heap.size w w':=by
 have he:=spec_l2Decode v w
 rw[if_pos (dec_in h),h,and15,and15,and65535]at he
 have e1:(((v/1048576%16).toNat:Nat):Int)=v/1048576%16:=by omega
 have e2:(((v/65536%16).toNat:Nat):Int)=v/65536%16:=by omega
 rw[e1,e2]
 exact he
theorem z_decNo(v:Int)(h:¬decF v=0):∃x0 x1 x2 x3:Int,∀w,Calls Tryz.prog 62 #[.int .i64 v] w fun e w'=>e=.returned (.tuple #[.agg #[.int .i64 x0,.int .i64 x1,.int .i64 x2,.int .i64 x3],.bool false])∧Below w.heap.size w w':=by
 have he:=fun w=>spec_l2Decode v w
 have g:(decF v==0)=false:=beq_eq_false_iff_ne.2 h
 by_cases h':0≤v∧v≤4294967295
 ·rw[if_pos h',g]at he;exact⟨_,_,_,_,he⟩
 ·rw[if_neg h']at he;exact⟨_,_,_,_,he⟩
theorem z_min(x y:Int)(w:World):Calls Tryz.prog 64 #[.int .i64 x,.int .i64 y] w fun e w'=>e=.returned (.int .i64 (if x<y then x else y))∧w'=w:=by
 by_cases h:x<y
 ·rw[if_pos h]
  go_enter Tryz.func64,Tryz.ntmps64
  go_wp2
  go_ret
  exact⟨rfl,rfl⟩
 ·rw[if_neg h]
  go_enter Tryz.func64,Tryz.ntmps64
  go_wp2
  go_ret
  exact⟨rfl,rfl⟩
variable{w:World}{B:Bp}{i o:Value}{zs:List Int}{H:Ht}{ri fa:Int}
theorem zs_halts(R:Bs w B i o zs H ri fa)(sn:Sn H B.ps zs B.p)(hh:H.halted=true):
  Calls Tryz.prog 28 #[.pointer (some ⟨B.q,0,none⟩)] w fun e w'=>e=.returned (.tuple #[])∧∃i' o',Bs w' B i' o' (stepV H B.ps zs (-1) (-1)).2.1 (stepV H B.ps zs (-1) (-1)).1 (stepV H B.ps zs (-1) (-1)).2.2.2 (stepV H B.ps zs (-1) (-1)).2.2.1∧Below B.base w w':=by
 have hv:(stepV H B.ps zs (-1) (-1))=(H,zs, -1, -1):=if_pos hh
 rw[hv]
 have HH:=hid hh
 clear hv hh
 have d2:w.cell? ⟨B.q,2,none⟩=some (.int .i64 ri):=R.v.cell 2 rfl
 have g2:=R.v.free 2
 have U1:=R.fld (G:=H) (ri':= -1) (fa':=fa) 2 (.int .i64 (-1)) rfl rfl rfl rfl rfl
 have d12:w.cell? ⟨B.q,12,none⟩=some (.int .i64 fa):=R.v.cell 12 rfl
 have g12:=R.v.free 12
 have U2:=U1.1.fld (G:=H) (ri':= -1) (fa':= -1) 12 (.int .i64 (-1)) rfl rfl rfl rfl rfl
 have R0:Hid (Bs ((w.setCell ⟨B.q,2,none⟩ (.int .i64 (-1))).setCell ⟨B.q,12,none⟩ (.int .i64 (-1))) B i o zs H (-1) (-1)):=U2.1
 have B0:Hid (Below B.base w ((w.setCell ⟨B.q,2,none⟩ (.int .i64 (-1))).setCell ⟨B.q,12,none⟩ (.int .i64 (-1)))):=U1.2.trans U2.2
 have SN:=hid sn
 clear U1 U2 R sn
 go_enter Tryz.func28,Tryz.ntmps28
 go_upto_region 3 with fail
 clear d2 g2 d12 g12
 generalize (w.setCell ⟨B.q,2,none⟩ (.int .i64 (-1))).setCell ⟨B.q,12,none⟩ (.int .i64 (-1))=x0 at*
 have d6:x0.cell? ⟨B.q,6,none⟩=some (.bool H.halted):=R0.out.v.cell 6 rfl
 rw[HH.out]at d6
 go_wp2_with fail
 exact bodyPost_ret (results_none rfl _ _ _) rfl ⟨rfl,_,_,R0.out,B0.out⟩
theorem zs_due(R:Bs w B i o zs H ri fa)(sn:Sn H B.ps zs B.p)(hh:H.halted=false)(hd:¬dueV H<0):
  Calls Tryz.prog 28 #[.pointer (some ⟨B.q,0,none⟩)] w fun e w'=>e=.returned (.tuple #[])∧∃i' o',Bs w' B i' o' (stepV H B.ps zs (-1) (-1)).2.1 (stepV H B.ps zs (-1) (-1)).1 (stepV H B.ps zs (-1) (-1)).2.2.2 (stepV H B.ps zs (-1) (-1)).2.2.1∧Below B.base w w':=by
 have hv:(stepV H B.ps zs (-1) (-1))=(trapV H (16+dueV H) 0,zs,16+dueV H, -1):=by unfold stepV;rw[if_neg (by simp[hh]),if_pos hd]
 rw[hv]
 have HH:=hid hh
 have dl:=due_le H
 obtain⟨dv,hdv⟩:∃v,dueV H=v:=⟨_,rfl⟩
 have HD:=hid hdv
 rw[hdv]at dl hd ⊢
 clear hv hh hdv
 have hd0:0≤dv:=by omega
 have d2:w.cell? ⟨B.q,2,none⟩=some (.int .i64 ri):=R.v.cell 2 rfl
 have g2:=R.v.free 2
 have U1:=R.fld (G:=H) (ri':= -1) (fa':=fa) 2 (.int .i64 (-1)) rfl rfl rfl rfl rfl
 have d12:w.cell? ⟨B.q,12,none⟩=some (.int .i64 fa):=R.v.cell 12 rfl
 have g12:=R.v.free 12
 have U2:=U1.1.fld (G:=H) (ri':= -1) (fa':= -1) 12 (.int .i64 (-1)) rfl rfl rfl rfl rfl
 have R0:Hid (Bs ((w.setCell ⟨B.q,2,none⟩ (.int .i64 (-1))).setCell ⟨B.q,12,none⟩ (.int .i64 (-1))) B i o zs H (-1) (-1)):=U2.1
 have B0:Hid (Below B.base w ((w.setCell ⟨B.q,2,none⟩ (.int .i64 (-1))).setCell ⟨B.q,12,none⟩ (.int .i64 (-1)))):=U1.2.trans U2.2
 have SN:=hid sn
 clear U1 U2 R sn
 go_enter Tryz.func28,Tryz.ntmps28
 go_upto_region 3 with fail
 clear d2 g2 d12 g12
 generalize (w.setCell ⟨B.q,2,none⟩ (.int .i64 (-1))).setCell ⟨B.q,12,none⟩ (.int .i64 (-1))=x0 at*
 have d6:x0.cell? ⟨B.q,6,none⟩=some (.bool H.halted):=R0.out.v.cell 6 rfl
 rw[HH.out]at d6
 go_wp2_with (go_at_call 59;refine(z_due R0.out SN.out.hok).mono ?_;rintro e x1 ⟨rfl,b1⟩;rw[HD.out])
 have R1:=hid (R0.out.keep b1)
 have B1:Hid (Below B.base w x1):=B0.out.trans (bless b1 R0.out.size)
 clear b1
 refine(z_fall R1.out SN.out.hok (16+dv) 0).mono ?_
 rintro e x2⟨rfl,r2,b2⟩
 have R2:Hid (Bs x2 B i o zs (trapV H (16+dv) 0) (-1) (16+dv)∧Below B.base w x2):=⟨r2,B1.out.trans b2⟩
 clear r2 b2
 go_wp2_with fail
 exact bodyPost_ret (results_none rfl _ _ _) rfl ⟨rfl,_,_,R2.out.1,R2.out.2⟩
theorem zs_waits(R:Bs w B i o zs H ri fa)(sn:Sn H B.ps zs B.p)(hh:H.halted=false)(hd:dueV H<0)(hw:H.waiting=true)(hb0:bothV H=0):
  Calls Tryz.prog 28 #[.pointer (some ⟨B.q,0,none⟩)] w fun e w'=>e=.returned (.tuple #[])∧∃i' o',Bs w' B i' o' (stepV H B.ps zs (-1) (-1)).2.1 (stepV H B.ps zs (-1) (-1)).1 (stepV H B.ps zs (-1) (-1)).2.2.2 (stepV H B.ps zs (-1) (-1)).2.2.1∧Below B.base w w':=by
 have hv:(stepV H B.ps zs (-1) (-1))=(H,zs, -1, -1):=by
  have e:waitV H=H:=by cases H;simp_all[waitV]
  unfold stepV
  rw[if_neg (by simp[hh]),if_neg (by simpa using hd),e,if_pos hw]
 rw[hv]
 have HH:=hid hh
 have HW:=hid hw
 obtain⟨dv,hdv⟩:∃v,dueV H=v:=⟨_,rfl⟩
 have HD:=hid hdv
 rw[hdv]at hd
 have hd0:¬0≤dv:=by omega
 clear hdv hd
 have be:=both_eq H (all_at sn.hok.cw 7).1 (all_at sn.hok.cw 7).2
 obtain⟨g7,hg7⟩:∃g,gt H.csr 7=g:=⟨_,rfl⟩
 obtain⟨pv,hp⟩:∃g,pendV H=g:=⟨_,rfl⟩
 obtain⟨bv,hb⟩:∃g,bothV H=g:=⟨_,rfl⟩
 have HG7:=hid hg7
 have HPV:=hid hp
 rw[hg7,hp,hb]at be
 have BE:=hid be
 rw[hb]at hb0
 have BQ:Hid ((bv==0)=true):=by show _=_;simpa using hb0
 clear hg7 hp hb be hb0
 clear hv hh hw
 have d2:w.cell? ⟨B.q,2,none⟩=some (.int .i64 ri):=R.v.cell 2 rfl
 have g2:=R.v.free 2
 have U1:=R.fld (G:=H) (ri':= -1) (fa':=fa) 2 (.int .i64 (-1)) rfl rfl rfl rfl rfl
 have d12:w.cell? ⟨B.q,12,none⟩=some (.int .i64 fa):=R.v.cell 12 rfl
 have g12:=R.v.free 12
 have U2:=U1.1.fld (G:=H) (ri':= -1) (fa':= -1) 12 (.int .i64 (-1)) rfl rfl rfl rfl rfl
 have R0:Hid (Bs ((w.setCell ⟨B.q,2,none⟩ (.int .i64 (-1))).setCell ⟨B.q,12,none⟩ (.int .i64 (-1))) B i o zs H (-1) (-1)):=U2.1
 have B0:Hid (Below B.base w ((w.setCell ⟨B.q,2,none⟩ (.int .i64 (-1))).setCell ⟨B.q,12,none⟩ (.int .i64 (-1)))):=U1.2.trans U2.2
 have SN:=hid sn
 clear U1 U2 R sn
 go_enter Tryz.func28,Tryz.ntmps28
 go_upto_region 3 with fail
 clear d2 g2 d12 g12
 generalize (w.setCell ⟨B.q,2,none⟩ (.int .i64 (-1))).setCell ⟨B.q,12,none⟩ (.int .i64 (-1))=x0 at*
 have d6:x0.cell? ⟨B.q,6,none⟩=some (.bool H.halted):=R0.out.v.cell 6 rfl
 rw[HH.out]at d6
 go_upto_region 7 with(go_at_call 59;refine(z_due R0.out SN.out.hok).mono ?_;rintro e x1 ⟨rfl,b1⟩;rw[HD.out];have R1:Hid (Bs x1 B i o zs H (-1) (-1)):=R0.out.keep b1;have B1:Hid (Below B.base w x1):=B0.out.trans (bless b1 R0.out.size);clear b1 d6)
 have c7w:x1.cell? ⟨B.q,7,none⟩=some (.bool true):=by rw[←HW.out];exact R1.out.v.cell 7 rfl
 go_upto_region 8 with fail
 clear c7w
 have S1:Hid (x1.drew.cell? ⟨B.q,5,none⟩=some (.slice (some ⟨B.cg,0,none⟩) 11 B.ck)∧x1.drew.cell? ⟨B.cg,7,none⟩=some (.int .i64 g7)):=⟨R1.out.v.cell 5 rfl,by rw[←HG7.out];exact R1.out.hc.cell R1.out.hc.len 7 (by decide)⟩
 replace R1:=hid_dr R1
 replace B1:=hid_bd B1
 refine wp_region_held (S:=fun w'=>w'.cell? ⟨B.q,5,none⟩=some (.slice (some ⟨B.cg,0,none⟩) 11 B.ck)∧w'.cell? ⟨B.cg,7,none⟩=some (.int .i64 g7)) (by kernel_rfl) ?_
 change wpAnyH _ _ _ _ _ _ _ _ (World.drew _)
 generalize x1.drew=x1' at*
 refine wpTd 0 33 (.pointer (some ⟨B.q,3,none⟩)) rfl S1.out ?_
 simp only[Act.put,zT,zZ,zS]
 refine wpTd 2 35 (.pointer (some ⟨B.q,3,none⟩)) rfl S1.out ?_
 simp only[Act.put,zT,zZ,zS]
 refine wpTd 3 36 (.pointer (some ⟨B.q,3,none⟩)) rfl S1.out ?_
 simp only[Act.put,zT,zZ,zS]
 refine wpTd 4 37 (.pointer (some ⟨B.q,5,none⟩)) rfl S1.out ?_
 simp only[Act.put,zT,zZ,zS]
 refine wpTe 5 38 (.slice (some ⟨B.cg,0,none⟩) 11 B.ck) rfl (Or.inl ⟨by rfl,fun w' hs=>by have hc:=hs.1;go_simp⟩) S1.out ?_
 simp only[Act.put,zT,zZ,zS]
 refine wpTd 6 39 (.pointer (some ⟨B.cg,7,none⟩)) rfl S1.out ?_
 simp only[Act.put,zT,zZ,zS]
 refine wpTe 7 40 (.int .i64 g7) rfl (Or.inl ⟨by rfl,fun w' hs=>by have hc:=hs.2;go_simp⟩) S1.out ?_
 simp only[Act.put,zT,zZ,zS]
 refine zR 1 rfl fun K hK=>?_
 rw[if_pos (by rfl)]
 go_simp
 refine(z_pending R1.out).mono ?_
 rw[HPV.out]
 rintro e x2⟨rfl,b2⟩
 have R2:=hid (R1.out.keep b2)
 have B2:Hid (Below B.base w x2):=B1.out.trans (bless b2 R1.out.size)
 have S2:Hid (x2.cell? ⟨B.q,5,none⟩=some (.slice (some ⟨B.cg,0,none⟩) 11 B.ck)∧x2.cell? ⟨B.cg,7,none⟩=some (.int .i64 g7)):=⟨R2.out.v.cell 5 rfl,by rw[←HG7.out];exact R2.out.hc.cell R2.out.hc.len 7 (by decide)⟩
 clear b2
 refine hK.out _ _ S2.out (fun _=>?_)
 clear hK K
 refine wpTe 8 41 (.int .i64 bv) rfl (Or.inl ⟨by rfl,fun w' hs=>by have hc:=BE.out;go_simp⟩) S2.out ?_
 simp only[Act.put,zT,zZ,zS]
 refine wpTe 9 42 (.bool true) rfl (Or.inl ⟨by rfl,fun w' hs=>by have hc:=BQ.out;go_simp⟩) S2.out ?_
 simp only[Act.put,zT,zZ,zS]
 refine wpAnyH_done (by kernel_rfl) ?_ _
 go_wp2_with fail
 exact bodyPost_ret (results_none rfl _ _ _) rfl ⟨rfl,_,_,R2.out,B2.out⟩
theorem zs_run(R:Bs w B i o zs H ri fa)(sn:Sn H B.ps zs B.p)(hh:H.halted=false)(hd:dueV H<0)(hw:H.waiting=false):
  Calls Tryz.prog 28 #[.pointer (some ⟨B.q,0,none⟩)] w fun e w'=>e=.returned (.tuple #[])∧∃i' o',Bs w' B i' o' (stepV H B.ps zs (-1) (-1)).2.1 (stepV H B.ps zs (-1) (-1)).1 (stepV H B.ps zs (-1) (-1)).2.2.2 (stepV H B.ps zs (-1) (-1)).2.2.1∧Below B.base w w':=by
 obtain⟨G,hG⟩:∃G,waitV H=G:=⟨_,rfl⟩
 have eG:H=G:=by rw[←hG];cases H;simp_all[waitV]
 have gw:G.waiting=false:=by rw[←eG];exact hw
 have gp:G.pc=H.pc:=by rw[←eG]
 obtain⟨Z,hZ⟩:∃Z,(stepV H B.ps zs (-1) (-1))=Z:=⟨_,rfl⟩
 have E0:Hid (Z=runV G B.ps zs):=by
  show _=_
  rw[←hZ]
  unfold stepV runV
  rw[if_neg (by simp[hh]),if_neg (by simpa using hd),hG,if_neg (by simp[gw]),gp]
  rfl
 rw[hZ]
 clear hZ
 have SG:Hid (Sn G B.ps zs B.p):=by show Sn _ _ _ _;rw[←hG];exact waitV_sn sn
 have PC:=hid gp
 have HH:=hid hh
 have HW:=hid hw
 have EG:=hid eG
 obtain⟨dv,hdv⟩:∃v,dueV H=v:=⟨_,rfl⟩
 have HD:=hid hdv
 rw[hdv]at hd
 have hd0:¬0≤dv:=by omega
 clear hdv hd
 clear hh hw hG gw gp eG
 have d2:w.cell? ⟨B.q,2,none⟩=some (.int .i64 ri):=R.v.cell 2 rfl
 have g2:=R.v.free 2
 have U1:=R.fld (G:=H) (ri':= -1) (fa':=fa) 2 (.int .i64 (-1)) rfl rfl rfl rfl rfl
 have d12:w.cell? ⟨B.q,12,none⟩=some (.int .i64 fa):=R.v.cell 12 rfl
 have g12:=R.v.free 12
 have U2:=U1.1.fld (G:=H) (ri':= -1) (fa':= -1) 12 (.int .i64 (-1)) rfl rfl rfl rfl rfl
 have R0:Hid (Bs ((w.setCell ⟨B.q,2,none⟩ (.int .i64 (-1))).setCell ⟨B.q,12,none⟩ (.int .i64 (-1))) B i o zs H (-1) (-1)):=U2.1
 have B0:Hid (Below B.base w ((w.setCell ⟨B.q,2,none⟩ (.int .i64 (-1))).setCell ⟨B.q,12,none⟩ (.int .i64 (-1)))):=U1.2.trans U2.2
 have SN:=hid sn
 clear U1 U2 R sn
 go_enter Tryz.func28,Tryz.ntmps28
 go_upto_region 3 with fail
 clear d2 g2 d12 g12
 generalize (w.setCell ⟨B.q,2,none⟩ (.int .i64 (-1))).setCell ⟨B.q,12,none⟩ (.int .i64 (-1))=x0 at*
 have d6:x0.cell? ⟨B.q,6,none⟩=some (.bool H.halted):=R0.out.v.cell 6 rfl
 rw[HH.out]at d6
 go_upto_region 7 with(go_at_call 59;refine(z_due R0.out SN.out.hok).mono ?_;rintro e x1 ⟨rfl,b1⟩;rw[HD.out];have R1:Hid (Bs x1 B i o zs H (-1) (-1)):=R0.out.keep b1;have B1:Hid (Below B.base w x1):=B0.out.trans (bless b1 R0.out.size);clear b1 d6)
 have c7w:x1.cell? ⟨B.q,7,none⟩=some (.bool false):=by rw[←HW.out];exact R1.out.v.cell 7 rfl
 go_upto_region 10 with fail
 clear c7w
 have R3:Hid (Bs x1 B i o zs G (-1) (-1)):=by show Bs _ _ _ _ _ _ _ _;rw[←EG.out];exact R1.out
 have B3:=B1
 clear R1 B1 EG HD
 generalize x1=x3 at*
 have c4:x3.cell? ⟨B.q,4,none⟩=some (.int .i64 H.pc):=by rw[←PC.out];exact R3.out.v.cell 4 rfl
 have PS:=fun x=>z_space R3.out SG.out x 4 rfl
 by_cases hz:plC G B.ps zs H.pc 4=0
 ·have PZ:Hid (plC G B.ps zs H.pc 4=0):=hz
  obtain⟨tn,htn,htp⟩:=pl_run (show Sn G B.ps zs B.p from SG.out) (x:=H.pc) hz
  have PV:=hid htn
  have Rt:=hid htp
  have hti:(tn:Int)<((B.p*8:Nat):Int):=by omega
  have FZ:Hid (fetZ G B.ps zs=zs.getD tn 0):=by show _=_;unfold fetZ;rw[PC.out,PV.out];rfl
  obtain⟨z,hzz⟩:∃z,zs.getD tn 0=z:=⟨_,rfl⟩
  have ZZ:=hid hzz
  have EZ:Hid (fetZ G B.ps zs=z):=FZ.out.trans hzz
  clear hz htn htp hzz FZ
  go_upto_region 13 with(go_at_call 42;refine(PS _).mono ?_;rintro e x5 ⟨rfl,b5⟩;rw[PZ.out,PV.out];have R5:Hid (Bs x5 B i o zs G (-1) (-1)):=R3.out.keep b5;have B5:Hid (Below B.base w x5):=B3.out.trans (bless b5 R3.out.size);clear b5 c4 PS)
  have c1:x5.cell? ⟨B.q,1,none⟩=some (.slice (some ⟨B.gm,0,none⟩) (B.p*8) B.mc):=R5.out.v.cell 1 rfl
  have ct:x5.cell? ⟨B.gm,tn,none⟩=some (.int .i64 z):=by rw[←ZZ.out];exact R5.out.hm.cell R5.out.hm.len tn Rt.out
  by_cases hf:decF z=0
  ·have DY:=fun w=>z_decYes z hf w
   have HF:=hid hf
   have FP:Hid (_=_):=fet_parts hf
   clear hf
   obtain⟨d,hd1⟩:∃d,(z/1048576%16).toNat=d:=⟨_,rfl⟩
   obtain⟨a,ha1⟩:∃a,(z/65536%16).toNat=a:=⟨_,rfl⟩
   obtain⟨op,ho1⟩:∃op,z/16777216=op:=⟨_,rfl⟩
   obtain⟨im,hi1⟩:∃im,z%65536=im:=⟨_,rfl⟩
   have ID:Hid ((z/1048576%16).toNat=d∧(z/65536%16).toNat=a∧z/16777216=op∧z%65536=im):=⟨hd1,ha1,ho1,hi1⟩
   rw[hd1,ha1,ho1,hi1]at FP
   rw[hd1,ha1,ho1,hi1]at DY
   clear hd1 ha1 ho1 hi1
   go_upto_region 14 with(go_at_call 62;refine(DY _).mono ?_;rintro e x6 ⟨rfl,b6⟩;have R6:Hid (Bs x6 B i o zs G (-1) (-1)):=R5.out.keep b6;have B6:Hid (Below B.base w x6):=B5.out.trans (bless b6 R5.out.size);clear b6 c1 ct DY)
   have VV:Hid (_∧_):=ins_var x6 (.int .i64 op) (.int .i64 (d:Int)) (.int .i64 (a:Int)) (.int .i64 im)
   generalize x6.alloc (.cells #[.int .i64 op,.int .i64 (d:Int),.int .i64 (a:Int),.int .i64 im] 43)=x7 at*
   have R7:=hid (R6.out.keep VV.out.2)
   have B7:Hid (Below B.base w x7):=B6.out.trans (bless VV.out.2 R6.out.size)
   have n0:=VV.out.1.cell 0 rfl
   have n1:=VV.out.1.cell 1 rfl
   have n2:=VV.out.1.cell 2 rfl
   have n3:=VV.out.1.cell 3 rfl
   go_wp2_with fail
   refine(z_do R7.out SG.out op d a im FP.out).mono ?_
   intro e x8 hzp
   have SD:=doV_sn SG.out (-1) op d a im FP.out
   have ER:Hid (Z=(match doV G B.ps zs (-1) op d a im with
    |⟨some (c,t),_,G,ys,rj⟩=>(trapV G c t,ys,c,rj)
    |⟨none,n,G,ys,rj⟩=>({ G with pc:=n,done:=min (G.done+1) 1000000000},ys, -1,rj))):=by
    show _=_
    rw[E0.out]
    unfold runV
    rw[PC.out,if_neg (by simp[PZ.out]),EZ.out,if_neg (by simp[HF.out]),ID.out.1,ID.out.2.1,ID.out.2.2.1,ID.out.2.2.2]
   generalize doV G B.ps zs (-1) op d a im=D at*
   obtain⟨t,nx,G2,ys,rj⟩:=D
   clear n0 n1 n2 n3
   cases t with
   |none=>
    obtain⟨rfl,i8,o8,r8,b8⟩:=hzp
    have R8:=hid r8
    have B8:Hid (Below B.base w x8):=B7.out.trans b8
    have DB:0≤G2.done∧G2.done≤1000000000:=⟨SD.hok.d0,SD.hok.d9⟩
    clear r8 b8 SD
    have d9:x8.cell? ⟨B.q,9,none⟩=some (.int .i64 G2.done):=R8.out.v.cell 9 rfl
    have f9:=R8.out.v.free 9
    have MN:Hid ((if 1000000000<G2.done+1 then 1000000000 else G2.done+1)=min (G2.done+1) 1000000000):=by show _=_;split<;>omega
    go_wp2_with (go_at_call 64;refine(z_min _ _ _).mono ?_;rintro e y ⟨rfl,hy⟩;rw[hy];clear hy y;rw[MN.out])
    go_end0
    have U:=R8.out.fld (G:={ G2 with pc:=nx,done:=min (G2.done+1) 1000000000}) (ri':=rj) (fa':= -1) 9 (.int .i64 (min (G2.done+1) 1000000000)) rfl rfl rfl rfl rfl
    exact⟨rfl,_,_,by rw[ER.out];exact U.1,B8.out.trans U.2⟩
   |some ct=>
    obtain⟨c,t⟩:=ct
    obtain⟨rfl,i8,o8,r8,b8⟩:=hzp
    have R8:=hid r8
    have B8:Hid (Below B.base w x8):=B7.out.trans b8
    clear r8 b8 SD
    go_wp2_with fail
    go_end0
    exact⟨rfl,_,_,by rw[ER.out];exact R8.out,B8.out⟩
  ·obtain⟨y0,y1,y2,y3,DN⟩:=z_decNo z hf
   have HF:=hid hf
   clear hf
   go_upto_region 14 with(go_at_call 62;refine(DN _).mono ?_;rintro e x6 ⟨rfl,b6⟩;have R6:Hid (Bs x6 B i o zs G (-1) (-1)):=R5.out.keep b6;have B6:Hid (Below B.base w x6):=B5.out.trans (bless b6 R5.out.size);clear b6 c1 ct DN)
   have VV:Hid (_∧_):=ins_var x6 (.int .i64 y0) (.int .i64 y1) (.int .i64 y2) (.int .i64 y3)
   generalize x6.alloc (.cells #[.int .i64 y0,.int .i64 y1,.int .i64 y2,.int .i64 y3] 43)=x7 at*
   have R7:=hid (R6.out.keep VV.out.2)
   have B7:Hid (Below B.base w x7):=B6.out.trans (bless VV.out.2 R6.out.size)
   have c1:x7.cell? ⟨B.q,1,none⟩=some (.slice (some ⟨B.gm,0,none⟩) (B.p*8) B.mc):=R7.out.v.cell 1 rfl
   have ct:x7.cell? ⟨B.gm,tn,none⟩=some (.int .i64 z):=by rw[←ZZ.out];exact R7.out.hm.cell R7.out.hm.len tn Rt.out
   go_wp2_with fail
   refine(z_fall R7.out SG.out.hok 1 z).mono ?_
   rintro e x8⟨rfl,r8,b8⟩
   have R8:Hid (Bs x8 B i o zs (trapV G 1 z) (-1) 1∧Below B.base w x8):=⟨r8,B7.out.trans b8⟩
   clear r8 b8 c1 ct
   have ER:Hid (Z=(trapV G 1 z,zs,1, -1)):=by
    show _=_
    rw[E0.out]
    unfold runV
    rw[PC.out,if_neg (by simp[PZ.out]),EZ.out,if_pos HF.out]
   go_wp2_with fail
   exact bodyPost_ret (results_none rfl _ _ _) rfl ⟨rfl,_,_,by rw[ER.out];exact R8.out.1,R8.out.2⟩
 ·obtain⟨pk,hpk⟩:∃v,plC G B.ps zs H.pc 4=v:=⟨_,rfl⟩
  obtain⟨pv2,hpv⟩:∃v,plV G B.ps zs H.pc 4=v:=⟨_,rfl⟩
  have PK:=hid hpk
  have PV:=hid hpv
  have PZ:=hid hz
  rw[hpk]at hz
  have hk:(pk !=0)=true:=by simpa using hz
  clear hz hpk hpv
  go_upto_region 12 with(go_at_call 42;refine(PS _).mono ?_;rintro e x5 ⟨rfl,b5⟩;rw[PK.out,PV.out];have R5:Hid (Bs x5 B i o zs G (-1) (-1)):=R3.out.keep b5;have B5:Hid (Below B.base w x5):=B3.out.trans (bless b5 R3.out.size);clear b5 c4 PS)
  have c4:x5.cell? ⟨B.q,4,none⟩=some (.int .i64 H.pc):=by rw[←PC.out];exact R5.out.v.cell 4 rfl
  go_wp2_with fail
  refine(z_fall R5.out SG.out.hok 2 H.pc).mono ?_
  rintro e x8⟨rfl,r8,b8⟩
  have R8:Hid (Bs x8 B i o zs (trapV G 2 H.pc) (-1) 2∧Below B.base w x8):=⟨r8,B5.out.trans b8⟩
  clear r8 b8 c4
  have ER:Hid (Z=(trapV G 2 H.pc,zs,2, -1)):=by
   show _=_
   rw[E0.out]
   unfold runV
   rw[PC.out,if_pos PZ.out]
  go_wp2_with fail
  exact bodyPost_ret (results_none rfl _ _ _) rfl ⟨rfl,_,_,by rw[ER.out];exact R8.out.1,R8.out.2⟩
theorem zs_wake(R:Bs w B i o zs H ri fa)(sn:Sn H B.ps zs B.p)(hh:H.halted=false)(hd:dueV H<0)(hw:H.waiting=true)(hb0:¬bothV H=0):
  Calls Tryz.prog 28 #[.pointer (some ⟨B.q,0,none⟩)] w fun e w'=>e=.returned (.tuple #[])∧∃i' o',Bs w' B i' o' (stepV H B.ps zs (-1) (-1)).2.1 (stepV H B.ps zs (-1) (-1)).1 (stepV H B.ps zs (-1) (-1)).2.2.2 (stepV H B.ps zs (-1) (-1)).2.2.1∧Below B.base w w':=by
 obtain⟨G,hG⟩:∃G,waitV H=G:=⟨_,rfl⟩
 have eG:{ H with waiting:=false}=G:=by rw[←hG];cases H;simp_all[waitV]
 have gw:G.waiting=false:=by rw[←eG]
 have gp:G.pc=H.pc:=by rw[←eG]
 obtain⟨Z,hZ⟩:∃Z,(stepV H B.ps zs (-1) (-1))=Z:=⟨_,rfl⟩
 have E0:Hid (Z=runV G B.ps zs):=by
  show _=_
  rw[←hZ]
  unfold stepV runV
  rw[if_neg (by simp[hh]),if_neg (by simpa using hd),hG,if_neg (by simp[gw]),gp]
  rfl
 rw[hZ]
 clear hZ
 have SG:Hid (Sn G B.ps zs B.p):=by show Sn _ _ _ _;rw[←hG];exact waitV_sn sn
 have PC:=hid gp
 have HH:=hid hh
 have HW:=hid hw
 have EG:=hid eG
 obtain⟨dv,hdv⟩:∃v,dueV H=v:=⟨_,rfl⟩
 have HD:=hid hdv
 rw[hdv]at hd
 have hd0:¬0≤dv:=by omega
 clear hdv hd
 have be:=both_eq H (all_at sn.hok.cw 7).1 (all_at sn.hok.cw 7).2
 obtain⟨g7,hg7⟩:∃g,gt H.csr 7=g:=⟨_,rfl⟩
 obtain⟨pv,hp⟩:∃g,pendV H=g:=⟨_,rfl⟩
 obtain⟨bv,hb⟩:∃g,bothV H=g:=⟨_,rfl⟩
 have HG7:=hid hg7
 have HPV:=hid hp
 rw[hg7,hp,hb]at be
 have BE:=hid be
 rw[hb]at hb0
 have BQ:Hid ((bv==0)=false):=by show _=_;simpa using hb0
 clear hg7 hp hb be hb0
 clear hh hw hG gw gp eG
 have d2:w.cell? ⟨B.q,2,none⟩=some (.int .i64 ri):=R.v.cell 2 rfl
 have g2:=R.v.free 2
 have U1:=R.fld (G:=H) (ri':= -1) (fa':=fa) 2 (.int .i64 (-1)) rfl rfl rfl rfl rfl
 have d12:w.cell? ⟨B.q,12,none⟩=some (.int .i64 fa):=R.v.cell 12 rfl
 have g12:=R.v.free 12
 have U2:=U1.1.fld (G:=H) (ri':= -1) (fa':= -1) 12 (.int .i64 (-1)) rfl rfl rfl rfl rfl
 have R0:Hid (Bs ((w.setCell ⟨B.q,2,none⟩ (.int .i64 (-1))).setCell ⟨B.q,12,none⟩ (.int .i64 (-1))) B i o zs H (-1) (-1)):=U2.1
 have B0:Hid (Below B.base w ((w.setCell ⟨B.q,2,none⟩ (.int .i64 (-1))).setCell ⟨B.q,12,none⟩ (.int .i64 (-1)))):=U1.2.trans U2.2
 have SN:=hid sn
 clear U1 U2 R sn
 go_enter Tryz.func28,Tryz.ntmps28
 go_upto_region 3 with fail
 clear d2 g2 d12 g12
 generalize (w.setCell ⟨B.q,2,none⟩ (.int .i64 (-1))).setCell ⟨B.q,12,none⟩ (.int .i64 (-1))=x0 at*
 have d6:x0.cell? ⟨B.q,6,none⟩=some (.bool H.halted):=R0.out.v.cell 6 rfl
 rw[HH.out]at d6
 go_upto_region 7 with(go_at_call 59;refine(z_due R0.out SN.out.hok).mono ?_;rintro e x1 ⟨rfl,b1⟩;rw[HD.out];have R1:Hid (Bs x1 B i o zs H (-1) (-1)):=R0.out.keep b1;have B1:Hid (Below B.base w x1):=B0.out.trans (bless b1 R0.out.size);clear b1 d6)
 have c7w:x1.cell? ⟨B.q,7,none⟩=some (.bool true):=by rw[←HW.out];exact R1.out.v.cell 7 rfl
 go_upto_region 8 with fail
 clear c7w
 have S1:Hid (x1.drew.cell? ⟨B.q,5,none⟩=some (.slice (some ⟨B.cg,0,none⟩) 11 B.ck)∧x1.drew.cell? ⟨B.cg,7,none⟩=some (.int .i64 g7)):=⟨R1.out.v.cell 5 rfl,by rw[←HG7.out];exact R1.out.hc.cell R1.out.hc.len 7 (by decide)⟩
 replace R1:=hid_dr R1
 replace B1:=hid_bd B1
 refine wp_region_held (S:=fun w'=>w'.cell? ⟨B.q,5,none⟩=some (.slice (some ⟨B.cg,0,none⟩) 11 B.ck)∧w'.cell? ⟨B.cg,7,none⟩=some (.int .i64 g7)) (by kernel_rfl) ?_
 change wpAnyH _ _ _ _ _ _ _ _ (World.drew _)
 generalize x1.drew=x1' at*
 refine wpTd 0 33 (.pointer (some ⟨B.q,3,none⟩)) rfl S1.out ?_
 simp only[Act.put,zT,zZ,zS]
 refine wpTd 2 35 (.pointer (some ⟨B.q,3,none⟩)) rfl S1.out ?_
 simp only[Act.put,zT,zZ,zS]
 refine wpTd 3 36 (.pointer (some ⟨B.q,3,none⟩)) rfl S1.out ?_
 simp only[Act.put,zT,zZ,zS]
 refine wpTd 4 37 (.pointer (some ⟨B.q,5,none⟩)) rfl S1.out ?_
 simp only[Act.put,zT,zZ,zS]
 refine wpTe 5 38 (.slice (some ⟨B.cg,0,none⟩) 11 B.ck) rfl (Or.inl ⟨by rfl,fun w' hs=>by have hc:=hs.1;go_simp⟩) S1.out ?_
 simp only[Act.put,zT,zZ,zS]
 refine wpTd 6 39 (.pointer (some ⟨B.cg,7,none⟩)) rfl S1.out ?_
 simp only[Act.put,zT,zZ,zS]
 refine wpTe 7 40 (.int .i64 g7) rfl (Or.inl ⟨by rfl,fun w' hs=>by have hc:=hs.2;go_simp⟩) S1.out ?_
 simp only[Act.put,zT,zZ,zS]
 refine zR 1 rfl fun K hK=>?_
 rw[if_pos (by rfl)]
 go_simp
 refine(z_pending R1.out).mono ?_
 rw[HPV.out]
 rintro e x2⟨rfl,b2⟩
 have R2:=hid (R1.out.keep b2)
 have B2:Hid (Below B.base w x2):=B1.out.trans (bless b2 R1.out.size)
 have S2:Hid (x2.cell? ⟨B.q,5,none⟩=some (.slice (some ⟨B.cg,0,none⟩) 11 B.ck)∧x2.cell? ⟨B.cg,7,none⟩=some (.int .i64 g7)):=⟨R2.out.v.cell 5 rfl,by rw[←HG7.out];exact R2.out.hc.cell R2.out.hc.len 7 (by decide)⟩
 clear b2
 refine hK.out _ _ S2.out (fun _=>?_)
 clear hK K
 refine wpTe 8 41 (.int .i64 bv) rfl (Or.inl ⟨by rfl,fun w' hs=>by have hc:=BE.out;go_simp⟩) S2.out ?_
 simp only[Act.put,zT,zZ,zS]
 refine wpTe 9 42 (.bool false) rfl (Or.inl ⟨by rfl,fun w' hs=>by have hc:=BQ.out;go_simp⟩) S2.out ?_
 simp only[Act.put,zT,zZ,zS]
 refine wpAnyH_done (by kernel_rfl) ?_ _
 have d7:=R2.out.v.cell 7 rfl
 have f7:=R2.out.v.free 7
 have U:Hid (_∧_):=R2.out.fld (G:={ H with waiting:=false}) (ri':= -1) (fa':= -1) 7 (.bool false) rfl rfl rfl rfl rfl
 go_upto_region 10 with fail
 have R3:Hid (Bs (x2.setCell ⟨B.q,7,none⟩ (.bool false)) B i o zs G (-1) (-1)):=by show Bs _ _ _ _ _ _ _ _;rw[←EG.out];exact U.out.1
 have B3:Hid (Below B.base w (x2.setCell ⟨B.q,7,none⟩ (.bool false))):=B2.out.trans U.out.2
 clear d7 f7 U R2 B2 S2 EG HD S1 R1 B1 BE BQ HG7 HPV R0 B0
 generalize x2.setCell ⟨B.q,7,none⟩ (.bool false)=x3 at*
 have c4:x3.cell? ⟨B.q,4,none⟩=some (.int .i64 H.pc):=by rw[←PC.out];exact R3.out.v.cell 4 rfl
 have PS:=fun x=>z_space R3.out SG.out x 4 rfl
 by_cases hz:plC G B.ps zs H.pc 4=0
 ·have PZ:Hid (plC G B.ps zs H.pc 4=0):=hz
  obtain⟨tn,htn,htp⟩:=pl_run (show Sn G B.ps zs B.p from SG.out) (x:=H.pc) hz
  have PV:=hid htn
  have Rt:=hid htp
  have hti:(tn:Int)<((B.p*8:Nat):Int):=by omega
  have FZ:Hid (fetZ G B.ps zs=zs.getD tn 0):=by show _=_;unfold fetZ;rw[PC.out,PV.out];rfl
  obtain⟨z,hzz⟩:∃z,zs.getD tn 0=z:=⟨_,rfl⟩
  have ZZ:=hid hzz
  have EZ:Hid (fetZ G B.ps zs=z):=FZ.out.trans hzz
  clear hz htn htp hzz FZ
  go_upto_region 13 with(go_at_call 42;refine(PS _).mono ?_;rintro e x5 ⟨rfl,b5⟩;rw[PZ.out,PV.out];have R5:Hid (Bs x5 B i o zs G (-1) (-1)):=R3.out.keep b5;have B5:Hid (Below B.base w x5):=B3.out.trans (bless b5 R3.out.size);clear b5 c4 PS)
  have c1:x5.cell? ⟨B.q,1,none⟩=some (.slice (some ⟨B.gm,0,none⟩) (B.p*8) B.mc):=R5.out.v.cell 1 rfl
  have ct:x5.cell? ⟨B.gm,tn,none⟩=some (.int .i64 z):=by rw[←ZZ.out];exact R5.out.hm.cell R5.out.hm.len tn Rt.out
  by_cases hf:decF z=0
  ·have DY:=fun w=>z_decYes z hf w
   have HF:=hid hf
   have FP:Hid (_=_):=fet_parts hf
   clear hf
   obtain⟨d,hd1⟩:∃d,(z/1048576%16).toNat=d:=⟨_,rfl⟩
   obtain⟨a,ha1⟩:∃a,(z/65536%16).toNat=a:=⟨_,rfl⟩
   obtain⟨op,ho1⟩:∃op,z/16777216=op:=⟨_,rfl⟩
   obtain⟨im,hi1⟩:∃im,z%65536=im:=⟨_,rfl⟩
   have ID:Hid ((z/1048576%16).toNat=d∧(z/65536%16).toNat=a∧z/16777216=op∧z%65536=im):=⟨hd1,ha1,ho1,hi1⟩
   rw[hd1,ha1,ho1,hi1]at FP
   rw[hd1,ha1,ho1,hi1]at DY
   clear hd1 ha1 ho1 hi1
   go_upto_region 14 with(go_at_call 62;refine(DY _).mono ?_;rintro e x6 ⟨rfl,b6⟩;have R6:Hid (Bs x6 B i o zs G (-1) (-1)):=R5.out.keep b6;have B6:Hid (Below B.base w x6):=B5.out.trans (bless b6 R5.out.size);clear b6 c1 ct DY)
   have VV:Hid (_∧_):=ins_var x6 (.int .i64 op) (.int .i64 (d:Int)) (.int .i64 (a:Int)) (.int .i64 im)
   generalize x6.alloc (.cells #[.int .i64 op,.int .i64 (d:Int),.int .i64 (a:Int),.int .i64 im] 43)=x7 at*
   have R7:=hid (R6.out.keep VV.out.2)
   have B7:Hid (Below B.base w x7):=B6.out.trans (bless VV.out.2 R6.out.size)
   have n0:=VV.out.1.cell 0 rfl
   have n1:=VV.out.1.cell 1 rfl
   have n2:=VV.out.1.cell 2 rfl
   have n3:=VV.out.1.cell 3 rfl
   go_wp2_with fail
   refine(z_do R7.out SG.out op d a im FP.out).mono ?_
   intro e x8 hzp
   have SD:=doV_sn SG.out (-1) op d a im FP.out
   have ER:Hid (Z=(match doV G B.ps zs (-1) op d a im with
    |⟨some (c,t),_,G,ys,rj⟩=>(trapV G c t,ys,c,rj)
    |⟨none,n,G,ys,rj⟩=>({ G with pc:=n,done:=min (G.done+1) 1000000000},ys, -1,rj))):=by
    show _=_
    rw[E0.out]
    unfold runV
    rw[PC.out,if_neg (by simp[PZ.out]),EZ.out,if_neg (by simp[HF.out]),ID.out.1,ID.out.2.1,ID.out.2.2.1,ID.out.2.2.2]
   generalize doV G B.ps zs (-1) op d a im=D at*
   obtain⟨t,nx,G2,ys,rj⟩:=D
   clear n0 n1 n2 n3
   cases t with
   |none=>
    obtain⟨rfl,i8,o8,r8,b8⟩:=hzp
    have R8:=hid r8
    have B8:Hid (Below B.base w x8):=B7.out.trans b8
    have DB:0≤G2.done∧G2.done≤1000000000:=⟨SD.hok.d0,SD.hok.d9⟩
    clear r8 b8 SD
    have d9:x8.cell? ⟨B.q,9,none⟩=some (.int .i64 G2.done):=R8.out.v.cell 9 rfl
    have f9:=R8.out.v.free 9
    have MN:Hid ((if 1000000000<G2.done+1 then 1000000000 else G2.done+1)=min (G2.done+1) 1000000000):=by show _=_;split<;>omega
    go_wp2_with (go_at_call 64;refine(z_min _ _ _).mono ?_;rintro e y ⟨rfl,hy⟩;rw[hy];clear hy y;rw[MN.out])
    go_end0
    have U:=R8.out.fld (G:={ G2 with pc:=nx,done:=min (G2.done+1) 1000000000}) (ri':=rj) (fa':= -1) 9 (.int .i64 (min (G2.done+1) 1000000000)) rfl rfl rfl rfl rfl
    exact⟨rfl,_,_,by rw[ER.out];exact U.1,B8.out.trans U.2⟩
   |some ct=>
    obtain⟨c,t⟩:=ct
    obtain⟨rfl,i8,o8,r8,b8⟩:=hzp
    have R8:=hid r8
    have B8:Hid (Below B.base w x8):=B7.out.trans b8
    clear r8 b8 SD
    go_wp2_with fail
    go_end0
    exact⟨rfl,_,_,by rw[ER.out];exact R8.out,B8.out⟩
  ·obtain⟨y0,y1,y2,y3,DN⟩:=z_decNo z hf
   have HF:=hid hf
   clear hf
   go_upto_region 14 with(go_at_call 62;refine(DN _).mono ?_;rintro e x6 ⟨rfl,b6⟩;have R6:Hid (Bs x6 B i o zs G (-1) (-1)):=R5.out.keep b6;have B6:Hid (Below B.base w x6):=B5.out.trans (bless b6 R5.out.size);clear b6 c1 ct DN)
   have VV:Hid (_∧_):=ins_var x6 (.int .i64 y0) (.int .i64 y1) (.int .i64 y2) (.int .i64 y3)
   generalize x6.alloc (.cells #[.int .i64 y0,.int .i64 y1,.int .i64 y2,.int .i64 y3] 43)=x7 at*
   have R7:=hid (R6.out.keep VV.out.2)
   have B7:Hid (Below B.base w x7):=B6.out.trans (bless VV.out.2 R6.out.size)
   have c1:x7.cell? ⟨B.q,1,none⟩=some (.slice (some ⟨B.gm,0,none⟩) (B.p*8) B.mc):=R7.out.v.cell 1 rfl
   have ct:x7.cell? ⟨B.gm,tn,none⟩=some (.int .i64 z):=by rw[←ZZ.out];exact R7.out.hm.cell R7.out.hm.len tn Rt.out
   go_wp2_with fail
   refine(z_fall R7.out SG.out.hok 1 z).mono ?_
   rintro e x8⟨rfl,r8,b8⟩
   have R8:Hid (Bs x8 B i o zs (trapV G 1 z) (-1) 1∧Below B.base w x8):=⟨r8,B7.out.trans b8⟩
   clear r8 b8 c1 ct
   have ER:Hid (Z=(trapV G 1 z,zs,1, -1)):=by
    show _=_
    rw[E0.out]
    unfold runV
    rw[PC.out,if_neg (by simp[PZ.out]),EZ.out,if_pos HF.out]
   go_wp2_with fail
   exact bodyPost_ret (results_none rfl _ _ _) rfl ⟨rfl,_,_,by rw[ER.out];exact R8.out.1,R8.out.2⟩
 ·obtain⟨pk,hpk⟩:∃v,plC G B.ps zs H.pc 4=v:=⟨_,rfl⟩
  obtain⟨pv2,hpv⟩:∃v,plV G B.ps zs H.pc 4=v:=⟨_,rfl⟩
  have PK:=hid hpk
  have PV:=hid hpv
  have PZ:=hid hz
  rw[hpk]at hz
  have hk:(pk !=0)=true:=by simpa using hz
  clear hz hpk hpv
  go_upto_region 12 with(go_at_call 42;refine(PS _).mono ?_;rintro e x5 ⟨rfl,b5⟩;rw[PK.out,PV.out];have R5:Hid (Bs x5 B i o zs G (-1) (-1)):=R3.out.keep b5;have B5:Hid (Below B.base w x5):=B3.out.trans (bless b5 R3.out.size);clear b5 c4 PS)
  have c4:x5.cell? ⟨B.q,4,none⟩=some (.int .i64 H.pc):=by rw[←PC.out];exact R5.out.v.cell 4 rfl
  go_wp2_with fail
  refine(z_fall R5.out SG.out.hok 2 H.pc).mono ?_
  rintro e x8⟨rfl,r8,b8⟩
  have R8:Hid (Bs x8 B i o zs (trapV G 2 H.pc) (-1) 2∧Below B.base w x8):=⟨r8,B5.out.trans b8⟩
  clear r8 b8 c4
  have ER:Hid (Z=(trapV G 2 H.pc,zs,2, -1)):=by
   show _=_
   rw[E0.out]
   unfold runV
   rw[PC.out,if_pos PZ.out]
  go_wp2_with fail
  exact bodyPost_ret (results_none rfl _ _ _) rfl ⟨rfl,_,_,by rw[ER.out];exact R8.out.1,R8.out.2⟩
theorem z_step(R:Bs w B i o zs H ri fa)(sn:Sn H B.ps zs B.p):
  Calls Tryz.prog 28 #[.pointer (some ⟨B.q,0,none⟩)] w fun e w'=>e=.returned (.tuple #[])∧∃i' o',Bs w' B i' o' (stepV H B.ps zs (-1) (-1)).2.1 (stepV H B.ps zs (-1) (-1)).1 (stepV H B.ps zs (-1) (-1)).2.2.2 (stepV H B.ps zs (-1) (-1)).2.2.1∧Below B.base w w':=by
 cases hh:H.halted with
 |true=>exact zs_halts R sn hh
 |false=>
  by_cases hd:dueV H<0
  ·cases hw:H.waiting with
   |false=>exact zs_run R sn hh hd hw
   |true=>
    by_cases hb:bothV H=0
    ·exact zs_waits R sn hh hd hw hb
    ·exact zs_wake R sn hh hd hw hb
  ·exact zs_due R sn hh hd
theorem apt_noZ{a b:Value}{x:Nat}(h:Apt a b)(e:a.ownBlock=some x)(f:b.ownBlock=some x):False:=by
 rcases h with h|h
 ·rw[h]at e;cases e
 ·exact h (e.trans f.symm)
theorem z_new(r c i o:Value)(H:Ht)(pg pc:Nat)(ps:List (Int×Int))(gm p mc:Nat)(zs:List Int)(b:Nat)(w:World)(h:Hm w b r c i o H)(hP:Prs 36 w b (.slice (some ⟨pg,0,none⟩) 8 pc) ps)(hM:Nums w b (.slice (some ⟨gm,0,none⟩) (p*8) mc) zs)(sn:Sn H ps zs p):
  Calls Tryz.prog 27 #[.agg #[r,.int .i64 H.pc,c,.bool H.halted,.bool H.waiting,.bool H.rung,.int .i64 H.done,i,o],.slice (some ⟨pg,0,none⟩) 8 pc,.slice (some ⟨gm,0,none⟩) (p*8) mc] w fun e w'=>∃(B:Bp) (i' o':Value),e=.returned (.pointer (some ⟨B.q,0,none⟩))∧B.ps=ps∧B.p=p∧B.base=w.heap.size∧Bs w' B i' o' zs H (-1) (-1)∧Below w.heap.size w w':=by
 have HM:=hid h
 have HP:=hid hP
 have HZ:=hid hM
 have SN:=hid sn
 have PL:Hid (pg<w.heap.size):=(hP.lt pg rfl).2
 obtain⟨a0,k0,rfl,_⟩:=h.r.shape
 obtain⟨a1,k1,rfl,_⟩:=h.c.shape
 obtain⟨a2,k2,rfl,_⟩:=h.i.shape
 obtain⟨a3,k3,rfl,_⟩:=h.o.shape
 clear h hP hM sn
 generalize hW:w.alloc (.cells #[.slice a0 H.regs.length k0,.int .i64 H.pc,.slice a1 H.csr.length k1,.bool H.halted,.bool H.waiting,.bool H.rung,.int .i64 H.done,.slice a2 H.inn.length k2,.slice a3 H.out.length k3] 26)=W
 have B0:Hid (Below w.heap.size w W):=by show Below _ _ _;rw[←hW];exact al (Below.refl _ _) _
 obtain⟨s,hS⟩:∃s,w.heap.size=s:=⟨_,rfl⟩
 have HS:=hid hS
 have VA:Hid (Vb W s #[.slice a0 H.regs.length k0,.int .i64 H.pc,.slice a1 H.csr.length k1,.bool H.halted,.bool H.waiting,.bool H.rung,.int .i64 H.done,.slice a2 H.inn.length k2,.slice a3 H.out.length k3] 26):=by show Vb _ _ _ _;rw[←hW,←hS];exact Vb.new _ _ _
 go_enter Tryz.func27,Tryz.ntmps27
 go_upto_region 1 with fail
 clear hW hS
 have S0:Hid (Vb W.drew s #[.slice a0 H.regs.length k0,.int .i64 H.pc,.slice a1 H.csr.length k1,.bool H.halted,.bool H.waiting,.bool H.rung,.int .i64 H.done,.slice a2 H.inn.length k2,.slice a3 H.out.length k3] 26):=VA.out
 have B1:Hid (Below w.heap.size w W.drew):=B0.out.drew
 clear VA B0
 refine wp_region_held (S:=fun w'=>Vb w' s #[.slice a0 H.regs.length k0,.int .i64 H.pc,.slice a1 H.csr.length k1,.bool H.halted,.bool H.waiting,.bool H.rung,.int .i64 H.done,.slice a2 H.inn.length k2,.slice a3 H.out.length k3] 26) (by kernel_rfl) ?_
 change wpAnyH _ _ _ _ _ _ _ _ (World.drew _)
 generalize W.drew=x0 at*
 refine wpTd 0 7 (.slice (some ⟨pg,0,none⟩) 8 pc) rfl S0.out ?_
 simp only[Act.put,zT,zZ,zS]
 refine wpTd 1 8 (.slice (some ⟨gm,0,none⟩) (p*8) mc) rfl S0.out ?_
 simp only[Act.put,zT,zZ,zS]
 refine wpTe 3 10 (.agg #[.slice a0 H.regs.length k0,.int .i64 H.pc,.slice a1 H.csr.length k1,.bool H.halted,.bool H.waiting,.bool H.rung,.int .i64 H.done,.slice a2 H.inn.length k2,.slice a3 H.out.length k3]) rfl (Or.inl ⟨by rfl,fun w' hs=>by have y0:=hs.cell 0 rfl;have y1:=hs.cell 1 rfl;have y2:=hs.cell 2 rfl;have y3:=hs.cell 3 rfl;have y4:=hs.cell 4 rfl;have y5:=hs.cell 5 rfl;have y6:=hs.cell 6 rfl;have y7:=hs.cell 7 rfl;have y8:=hs.cell 8 rfl;go_simp⟩) S0.out ?_
 simp only[Act.put,zT,zZ,zS]
 refine zR 2 rfl fun K hK=>?_
 rw[if_pos (by rfl)]
 go_simp
 have CP:=spec_copyZ gm mc zs b x0 (by rw[SN.out.zl];exact HZ.out.keep B1.out) (by have:=SN.out.zl;have:=SN.out.p24;omega)
 rw[SN.out.zl]at CP
 refine CP.mono ?_
 clear CP
 rintro e x1⟨v1,rfl,n1,b1⟩
 obtain⟨ga,gc,hv, -, -,hg⟩:=n1.shape
 obtain⟨g1,hg⟩:=hg (by have:=SN.out.zl;have:=SN.out.p1;omega)
 rw[hg,SN.out.zl]at hv
 subst hv
 have N1:=hid n1
 have B2:=hid (on B1.out b1)
 have S1:=hid (S0.out.keep b1)
 clear n1 b1 hg
 refine hK.out _ _ S1.out (fun _=>?_)
 clear hK K
 refine zR 4 rfl fun K hK=>?_
 rw[if_pos (by rfl)]
 go_simp
 refine(s_copyX _ _ _ _ H b x1 (HM.out.keep B2.out) (by have:=SN.out.hok.r16;omega) (by have:=SN.out.hok.c11;omega) (by have:=SN.out.hok.i40;omega) (by have:=SN.out.hok.o40;omega)).mono ?_
 rintro e x2⟨r2,d2,i2,o2,rfl,m2,A2,b2,bo,bo1,bo2,bo3,bo4⟩
 obtain⟨xr,kr,hr, -, -,hgr⟩:=m2.r.shape
 obtain⟨rg,hgr⟩:=hgr (by have:=SN.out.hok.r16;omega)
 rw[hgr,SN.out.hok.r16]at hr
 subst hr
 obtain⟨xc,kc,hc, -, -,hgc⟩:=m2.c.shape
 obtain⟨cg,hgc⟩:=hgc (by have:=SN.out.hok.c11;omega)
 rw[hgc,SN.out.hok.c11]at hc
 subst hc
 obtain⟨xi,ki,hi,_⟩:=m2.i.shape
 obtain⟨xo,ko,ho,_⟩:=m2.o.shape
 subst hi ho
 have M2:=hid m2
 have HA2:Hid (Ha (.slice (some ⟨rg,0,none⟩) 16 kr) (.slice (some ⟨cg,0,none⟩) 11 kc) (.slice xi H.inn.length ki) (.slice xo H.out.length ko)):=A2
 have BO:Hid (x1.heap.size≤bo∧bo≤x2.heap.size∧Nums x2 bo (.slice xo H.out.length ko) H.out∧(∀k,((Value.slice (some ⟨rg,0,none⟩) 16 kr).ownBlock=some k∨(Value.slice (some ⟨cg,0,none⟩) 11 kc).ownBlock=some k∨(Value.slice xi H.inn.length ki).ownBlock=some k)→k<bo)):=⟨bo1,bo2,bo3,bo4⟩
 have N2:=hid (N1.out.keep b2)
 have B3:=hid (on B2.out b2)
 have S2:=hid (S1.out.keep b2)
 have LG:Hid (g1<x1.heap.size∧x0.heap.size≤g1∧w.heap.size≤x0.heap.size∧w.heap.size≤x1.heap.size):=⟨(N1.out.lt g1 rfl).2,(N1.out.lt g1 rfl).1,B1.out.size,B2.out.size⟩
 clear m2 A2 b2 bo1 bo2 bo3 bo4 hgr hgc
 refine hK.out _ _ S2.out (fun _=>?_)
 clear hK K
 refine wpTd 5 12 (.agg #[.slice (some ⟨pg,0,none⟩) 8 pc,.slice (some ⟨g1,0,none⟩) (p*8) gc,.int .i64 (-1),.slice (some ⟨rg,0,none⟩) 16 kr,.int .i64 H.pc,.slice (some ⟨cg,0,none⟩) 11 kc,.bool H.halted,.bool H.waiting,.bool H.rung,.int .i64 H.done,.slice xi H.inn.length ki,.slice xo H.out.length ko,.int .i64 (-1)]) rfl S2.out ?_
 simp only[Act.put,zT,zZ,zS]
 refine zR 6 rfl fun K hK=>?_
 rw[if_pos (by rfl)]
 go_simp
 have bb:Below x2.heap.size x2 (x2.alloc (.cells (busC ⟨w.heap.size,x2.heap.size,rg,kr,cg,kc,g1,gc,pg,pc,p,ps,none⟩ (.slice xi H.inn.length ki) (.slice xo H.out.length ko) H (-1) (-1)) 62)):=al (Below.refl _ _) _
 have BB:Hid (Bs (x2.alloc (.cells (busC ⟨w.heap.size,x2.heap.size,rg,kr,cg,kc,g1,gc,pg,pc,p,ps,none⟩ (.slice xi H.inn.length ki) (.slice xo H.out.length ko) H (-1) (-1)) 62)) ⟨w.heap.size,x2.heap.size,rg,kr,cg,kc,g1,gc,pg,pc,p,ps,none⟩ (.slice xi H.inn.length ki) (.slice xo H.out.length ko) zs H (-1) (-1)):=by
  have l1:=(M2.out.r.lt rg rfl)
  have l2:=(M2.out.c.lt cg rfl)
  have l3:=LG.out
  have o1:=BO.out.2.2.2 rg (.inl rfl)
  have o2:=BO.out.2.2.2 cg (.inr (.inl rfl))
  refine⟨Vb.new _ _ _,(M2.out.r.mono l3.2.2.2).keep bb,(M2.out.c.mono l3.2.2.2).keep bb,(N2.out.mono l3.2.2.1).keep bb,(M2.out.i.keep bb).rv,⟨bo,by have:=BO.out.1;show w.heap.size≤bo;omega,by have:=BO.out.2.1;have:=bb.size;omega,BO.out.2.2.1.keep bb,o1,o2,by have:=BO.out.1;show g1<bo;omega,fun k e=>BO.out.2.2.2 k (.inr (.inr e))⟩,fun k e=>?_,?_,?_,?_,((HP.out.keep B3.out).keep bb).mono (Nat.zero_le _),PL.out,by show w.heap.size≤x2.heap.size;exact B3.out.size,fun x cs t e=>by cases e⟩
  ·obtain⟨h1,h2⟩:=M2.out.i.lt k e
   refine⟨by show w.heap.size≤k;omega,Nat.lt_of_lt_of_le h2 bb.size,?_,?_,by show k≠g1;omega,by show k≠x2.heap.size;omega⟩
   ·intro f;exact apt_noZ HA2.out.ri rfl (e.trans (congrArg some (show k=rg from f)))
   ·intro f;exact apt_noZ HA2.out.ci rfl (e.trans (congrArg some (show k=cg from f)))
  ·intro f;exact apt_noZ HA2.out.rc rfl (by rw[show rg=cg from f];rfl)
  ·show rg≠g1;omega
  ·show cg≠g1;omega
 have SB:=hid (S2.out.keep bb)
 refine hK.out _ _ SB.out (fun _=>?_)
 clear hK K
 refine wpTd 7 6 (.pointer (some ⟨x2.heap.size,0,none⟩)) rfl SB.out ?_
 simp only[Act.put,zT,zZ,zS]
 refine wpAnyH_done (by kernel_rfl) ?_ _
 go_wp2_with fail
 go_ret
 exact⟨⟨w.heap.size,x2.heap.size,rg,kr,cg,kc,g1,gc,pg,pc,p,ps,none⟩,_,_,rfl,rfl,rfl,rfl,BB.out,on B3.out bb⟩
structure Tr(w:World)(base:Nat)(r c i o m:Value)(H:Ht)(zs:List Int):Prop where
 h:Hr w r c i o H
 mm:Rv w m zs
 lt:∀k,(Own4 r c i o k∨m.ownBlock=some k)→k<w.heap.size
variable{S:Nat→Prop}{w w':World}{base:Nat}{r c i o m:Value}{H:Ht}{zs:List Int}
theorem Tr.mq(s:Tr w base r c i o m H zs)(g:Mq S w w')(hn:∀k,(Own4 r c i o k∨m.ownBlock=some k)→¬S k):Tr w' base r c i o m H zs:=
 ⟨s.h.mq g fun k e _=>hn k (.inl e),s.mm.mq g fun k e _=>hn k (.inr e),fun k e=>Nat.lt_of_lt_of_le (s.lt k e) g.size⟩
variable{w:World}{base:Nat}{r c i o m:Value}{H:Ht}{zs:List Int}
theorem Tm.own(s:Tm w base r c i o m H zs)(k:Nat)(e:Own4 r c i o k∨m.ownBlock=some k):base≤k∧k<w.heap.size:=by
 rcases e with e|e
 ·exact s.h.own k e
 ·exact s.mm.lt k e
theorem Tm.tr(s:Tm w base r c i o m H zs):Tr w base r c i o m H zs:=⟨s.h.hr,s.mm.rv,fun k e=>(s.own k e).2⟩
variable{S:Nat→Prop}{w w':World}{base:Nat}{r c i o m:Value}{H:Ht}{zs:List Int}
theorem Tm.mq(s:Tm w base r c i o m H zs)(g:Mq S w w')(hn:∀k,(Own4 r c i o k∨m.ownBlock=some k)→¬S k):Tm w' base r c i o m H zs:=
 ⟨g.hm s.h fun k e=>hn k (.inl e),s.a,g.nums s.mm fun k e=>hn k (.inr e),s.rm,s.cm,s.im,s.om⟩
theorem Tr.void(w:World)(base:Nat):Tr w base (.slice none 0 0) (.slice none 0 0) (.slice none 0 0) (.slice none 0 0) (.slice none 0 0) voidH []:=(Tm.void w base).tr
theorem Tr.keep{w w':World}{base:Nat}{r c i o m:Value}{H:Ht}{zs:List Int}(s:Tr w base r c i o m H zs)(b:Below w.heap.size w w'):Tr w' base r c i o m H zs:=⟨s.h.stay b,s.mm.stay b,fun k e=>Nat.lt_of_lt_of_le (s.lt k e) b.size⟩
end Go.Proofs.YtaefollmeoepkaaGreatDoor
