/- The walk of a law. -/
import Derived.Test.YtaefollmeoepkaaGreatDoorCards
import Derived.Test.YtaefollmeoepkaaGreatDoorTie
import Derived.Deep.DeepHandedRow
import Derived.Lib.LaidTab
import Derived.Stop.LaidErr
import Derived.Test.YtaefollmeoepkaaGreatDoorQ49
import Derived.Test.YtaefollmeoepkaaGreatDoorQ50
namespace Go.Proofs.YtaefollmeoepkaaGreatDoor.fnFaultsDone
open Go.ChangeShapes Go.WideShapes Go.ChangeAt Go.RowKit
open Go.ChangeMaps (open_string shut_string)
set_option linter.unusedVariables false
set_option maxRecDepth 20000
set_option maxHeartbeats 16000000

theorem field_step0(x0 x1 x2 x3 x4 x5 x6 x7 x8 x9 x10 x11 x12:Value)(w:World):(Instr.field 31 (.agg #[x0,x1,x2,x3,x4,x5,x6,x7,x8,x9,x10,x11,x12]) 0).run Tryz.prog w=.ok x0 w:=by kernel_rfl
theorem nums_drew{w:World}{b:Nat}{v:Value}{zs:List Int}(h:Nums w b v zs)(n:Nat):Nums (w.drewN n) b v zs:=h
theorem Sees.laterM{w w':World}{b0:Option Addr}{m0 k0:Nat}{b1:Option Addr}{m1 k1:Nat}{b2:Option Addr}{m2 k2:Nat}{b3:Option Addr}{m3 k3:Nat}{H:Ht}{la:Option Addr}{ln lk:Nat}{ma:Option Addr}{mn mk:Nat}{c:Int}(h:Sees w b0 m0 k0 b1 m1 k1 b2 m2 k2 b3 m3 k3 H la ln lk ma mn mk c)(b:Below w.heap.size w w'):Sees w' b0 m0 k0 b1 m1 k1 b2 m2 k2 b3 m3 k3 H la ln lk ma mn mk c:=⟨fun w1 k=>h.1 w1 (on b k),fun w1 q k=>h.2 w1 q (on b k)⟩
theorem range13{w:World}{q:Nat}{t:TypeId}{z0 z1 z2 z3 z4 z5 z6 z7 z8 z9 z10 z11 z12:Value}(h:Vb w q #[z0,z1,z2,z3,z4,z5,z6,z7,z8,z9,z10,z11,z12] t):w.rangeAt q 3 [z3,z4,z5,z6,z7,z8,z9,z10,z11]:=fun j v hv=>by
 match j,hv with
 |0,hv=>exact h.cell 3 hv
 |1,hv=>exact h.cell 4 hv
 |2,hv=>exact h.cell 5 hv
 |3,hv=>exact h.cell 6 hv
 |4,hv=>exact h.cell 7 hv
 |5,hv=>exact h.cell 8 hv
 |6,hv=>exact h.cell 9 hv
 |7,hv=>exact h.cell 10 hv
 |8,hv=>exact h.cell 11 hv
 |n+9,hv=>simp at hv
theorem field_ins0(x0 x1 x2 x3 x4:Value)(w:World):(Instr.field 45 (.agg #[x0,x1,x2,x3,x4]) 0).run Tryz.prog w=.ok x0 w:=by kernel_rfl
theorem field_step1(x0 x1 x2 x3 x4 x5 x6 x7 x8 x9 x10 x11 x12:Value)(w:World):(Instr.field 31 (.agg #[x0,x1,x2,x3,x4,x5,x6,x7,x8,x9,x10,x11,x12]) 1).run Tryz.prog w=.ok x1 w:=by kernel_rfl
theorem field_int0(x0 x1:Value)(w:World):(Instr.field 48 (.agg #[x0,x1]) 0).run Tryz.prog w=.ok x0 w:=by kernel_rfl
theorem i_offF(im:Int)(w:World):Calls Tryz.prog 23 #[.int .i64 im] w fun e w'=>e=.returned (.int .i64 (offV im))∧w'=w:=by
 have h:IntKind.i16.wrap (IntKind.u16.wrap im)=IntKind.i16.wrap im:=by simp[IntKind.wrap,IntKind.bits,IntKind.signed]
 go_enter Tryz.func23,Tryz.ntmps23
 go_wp2
 all_goals go_ret
 all_goals exact⟨rfl,rfl⟩
theorem below_dN{B:Nat}{w w':World}(h:Below B w w')(nq:Nat):Below B w (w'.drewN nq):=⟨h.os,h.tape,h.output,h.size,h.block⟩
theorem five_inj{a0 a1 a2 a3 a4 b0 b1 b2 b3 b4:Int}(h:Value.agg #[.int .i64 a0,.int .i64 a1,.int .i64 a2,.int .i64 a3,.int .i64 a4]=.agg #[.int .i64 b0,.int .i64 b1,.int .i64 b2,.int .i64 b3,.int .i64 b4]):a0=b0∧a1=b1∧a2=b2∧a3=b3∧a4=b4:=by
 simpa using h
theorem nx_run{H:Ht}{ps:List (Int×Int)}{zs:List Int}(h:seenC H ps zs=0)(k:¬plC H ps zs H.pc 4=0):nxV H ps zs=.agg #[.int .i64 (plC H ps zs H.pc 4),.int .i64 0,.int .i64 0,.int .i64 0,.int .i64 0]:=by unfold nxV;rw[if_pos h,if_neg k]
theorem nx_bad{H:Ht}{ps:List (Int×Int)}{zs:List Int}(h:seenC H ps zs=0)(k:plC H ps zs H.pc 4=0)(j:¬decF (fetZ H ps zs)=0):nxV H ps zs=.agg #[.int .i64 5,.int .i64 0,.int .i64 0,.int .i64 0,.int .i64 0]:=by unfold nxV;rw[if_pos h,if_pos k];unfold decV;rw[show zs.getD (plV H ps zs H.pc 4).toNat 0=fetZ H ps zs from rfl,if_neg j]
theorem nx_ok{H:Ht}{ps:List (Int×Int)}{zs:List Int}(h:seenC H ps zs=0)(k:plC H ps zs H.pc 4=0)(j:decF (fetZ H ps zs)=0):nxV H ps zs=.agg #[.int .i64 0,.int .i64 (fetZ H ps zs/16777216),.int .i64 (fetZ H ps zs/1048576%16),.int .i64 (fetZ H ps zs/65536%16),.int .i64 (fetZ H ps zs%65536)]:=by unfold nxV;rw[if_pos h,if_pos k];unfold decV;rw[show zs.getD (plV H ps zs H.pc 4).toNat 0=fetZ H ps zs from rfl,if_pos j]
theorem walk(a0:Option Addr)(len0 cap0:Nat)(z0:List Int)(w:World)(w0:IsRow .u8 w a0 len0 cap0 z0)(hg:Tab w):
  Calls Tryz.prog 5 #[.slice a0 len0 cap0] w fun e w'=>e=.returned (.bool true)∧Below w.heap.size w w':=by
 have HR:=hid w0
 have HT:Hid (Tab w∧0<w.heap.size):=⟨hg,block_of_cell hg.c0⟩
 clear w0 hg
 by_cases hbig:1048576<(len0:Int)
 ·go_enter Tryz.func5,Tryz.ntmps5
  go_wp2_with (go_at_call 6;go_in)
  go_ret
  exact⟨rfl,Below.refl _ _⟩
 go_enter Tryz.func5,Tryz.ntmps5
 go_wp2_with (go_at_call 6;go_in)
 clear hbig
 refine(drawNextIns HR.out).mono ?_
 rintro e w1⟨b0,m0,k0,b1,m1,k1,b2,m2,k2,b3,m3,k3,H,la,ln,lk,ma,mn,mk,rfl,hz,hl,hm,g1⟩
 have SEE:Hid (_∨_):=sees_any hz hl hm
 have B1:=hid g1
 clear hz hl hm g1 HR
 obtain⟨q,hq⟩:∃q,w1.heap.size=q:=⟨_,rfl⟩
 obtain⟨W,hW⟩:∃W,w1.alloc (.cells #[.slice b0 m0 k0,.int .i64 H.pc,.slice b1 m1 k1,.bool H.halted,.bool H.waiting,.bool H.rung,.int .i64 H.done,.slice b2 m2 k2,.slice b3 m3 k3] 26)=W:=⟨_,rfl⟩
 have BQ:Hid (Below w1.heap.size w1 W):=by show Below _ _ _;rw[←hW];exact al (Below.refl _ _) _
 have VQ:Hid (Vb W q #[.slice b0 m0 k0,.int .i64 H.pc,.slice b1 m1 k1,.bool H.halted,.bool H.waiting,.bool H.rung,.int .i64 H.done,.slice b2 m2 k2,.slice b3 m3 k3] 26):=by show Vb _ _ _ _;rw[←hq,←hW];exact Vb.new _ _ _
 have BW:=hid (on B1.out BQ.out)
 have TB:Hid (Tab W∧0<W.heap.size):=⟨HT.out.1.keep BW.out,Nat.lt_of_lt_of_le HT.out.2 BW.out.size⟩
 go_upto_region 4 with fail
 try rw[hW]
 try rw[hq]
 clear hq hW HT
 rcases SEE.out with⟨ps,zs,hH,hP,h8,hZ,hz2⟩|⟨c,hc,hs⟩
 case inr=>
  have S1:Hid (Sees W b0 m0 k0 b1 m1 k1 b2 m2 k2 b3 m3 k3 H la ln lk ma mn mk c):=⟨fun w' b=>hs.1 w' (on BQ.out b),fun w' x b=>hs.2 w' x (on BQ.out b)⟩
  have hcn:¬c=0:=hc
  have hcb:(c !=0)=true:=by simpa using hc
  have HCN:=hid hc
  clear hs hc SEE B1 BQ
  obtain⟨q0,q1,q2,q3,q4,q5,q6,q7,q8⟩:=zc9 VQ.out
  go_wp2_with fail
  clear q0 q1 q2 q3 q4 q5 q6 q7 q8
  refine(ib_next b0 m0 k0 b1 m1 k1 b2 m2 k2 b3 m3 k3 H la ln lk ma mn mk c W S1.out HCN.out).mono ?_
  rintro e w2⟨rfl,g⟩
  obtain⟨qn,hq⟩:∃x,w2.heap.size=x:=⟨_,rfl⟩
  have VN2:Hid (Vb (w2.alloc (.cells #[.int .i64 c,.int .i64 0,.int .i64 0,.int .i64 0,.int .i64 0] 45)) qn #[.int .i64 c,.int .i64 0,.int .i64 0,.int .i64 0,.int .i64 0] 45):=by show Vb _ _ _ _;rw[←hq];exact Vb.new _ _ _
  have B2:Hid (Below W.heap.size W (w2.alloc (.cells #[.int .i64 c,.int .i64 0,.int .i64 0,.int .i64 0,.int .i64 0] 45))):=al g _
  clear g
  go_upto_region 5 with fail
  try rw[hq]
  clear hq
  generalize w2.alloc (.cells #[.int .i64 c,.int .i64 0,.int .i64 0,.int .i64 0,.int .i64 0] 45)=W2 at*
  obtain⟨q0,q1,q2,q3,q4,q5,q6,q7,q8⟩:=zc9 (VQ.out.keep B2.out)
  go_wp2_with fail
  clear q0 q1 q2 q3 q4 q5 q6 q7 q8
  refine(ib_hart b0 m0 k0 b1 m1 k1 b2 m2 k2 b3 m3 k3 H la ln lk ma mn mk c W2 (Sees.laterM S1.out B2.out) HCN.out).mono ?_
  rintro e w3⟨rfl,g⟩
  obtain⟨qx,hq⟩:∃x,w3.heap.size=x:=⟨_,rfl⟩
  have VR:Hid (Vb (w3.alloc (.cells #[.int .i64 c,.int .i64 0,.int .i64 0,.slice none 0 0,.int .i64 0,.slice none 0 0,.bool false,.bool false,.bool false,.int .i64 0,.slice none 0 0,.slice none 0 0,.slice none 0 0] 31)) qx #[.int .i64 c,.int .i64 0,.int .i64 0,.slice none 0 0,.int .i64 0,.slice none 0 0,.bool false,.bool false,.bool false,.int .i64 0,.slice none 0 0,.slice none 0 0,.slice none 0 0] 31):=by show Vb _ _ _ _;rw[←hq];exact Vb.new _ _ _
  have B3:Hid (Below W2.heap.size W2 (w3.alloc (.cells #[.int .i64 c,.int .i64 0,.int .i64 0,.slice none 0 0,.int .i64 0,.slice none 0 0,.bool false,.bool false,.bool false,.int .i64 0,.slice none 0 0,.slice none 0 0,.slice none 0 0] 31))):=al g _
  clear g
  go_upto_region 6 with fail
  try rw[hq]
  clear hq
  generalize w3.alloc (.cells #[.int .i64 c,.int .i64 0,.int .i64 0,.slice none 0 0,.int .i64 0,.slice none 0 0,.bool false,.bool false,.bool false,.int .i64 0,.slice none 0 0,.slice none 0 0,.slice none 0 0] 31)=W3 at*
  have BX:=hid (on B2.out B3.out)
  have VN:=hid (VN2.out.keep B3.out)
  have r0:=VR.out.cell 0 rfl
  go_upto_region 7 with fail
  clear r0 VN2
  refine wp_region_held (S:=fun w'=>Below W.heap.size W w'∧Below W3.heap.size W3 w') (by kernel_rfl) ?_
  change wpAnyH _ _ _ _ _ _ _ _ (World.drew _)
  have SF:Hid (Below W.heap.size W W3.drew∧Below W3.heap.size W3 W3.drew):=⟨BX.out.drew,(Below.refl _ _).drew⟩
  have hf0:=field_step0
  have hf5:=field_ins0
  generalize W3.drew=v1 at*
  refine wpTe 0 32 (.agg #[.slice b0 m0 k0,.int .i64 H.pc,.slice b1 m1 k1,.bool H.halted,.bool H.waiting,.bool H.rung,.int .i64 H.done,.slice b2 m2 k2,.slice b3 m3 k3]) rfl (yieldsIf_load_mid (by rfl) 26 (.tmp 3) rfl q 0 rfl [.slice b0 m0 k0,.int .i64 H.pc,.slice b1 m1 k1,.bool H.halted,.bool H.waiting,.bool H.rung,.int .i64 H.done,.slice b2 m2 k2,.slice b3 m3 k3] _ (fun w' hs=>vb_rangeW (VQ.out.keep hs.1)) Tryz.underlying26 rfl (by kernel_rfl)) SF.out ?_
  simp only[Act.put,zT,zZ,zS]
  refine wpTd 1 33 ((.slice la ln lk)) rfl SF.out ?_
  simp only[Act.put,zT,zZ,zS]
  refine wpTd 2 34 ((.slice ma mn mk)) rfl SF.out ?_
  simp only[Act.put,zT,zZ,zS]
  refine wpTd 5 37 ((.pointer (some ⟨qn,0,none⟩))) rfl SF.out ?_
  simp only[Act.put,zT,zZ,zS]
  refine wpTe 6 38 ((.int .i64 c)) rfl (Or.inl ⟨by rfl,fun w' hs=>by have y:=(VN.out.keep hs.2).cell 0 rfl;go_simp⟩) SF.out ?_
  simp only[Act.put,zT,zZ,zS]
  refine zR 3 rfl fun K hK=>?_
  rw[if_pos (by rfl)]
  go_simp
  refine(sb_next b0 m0 k0 b1 m1 k1 b2 m2 k2 b3 m3 k3 H la ln lk ma mn mk c v1 (Sees.laterM S1.out SF.out.1) HCN.out).mono ?_
  rintro e v2⟨rfl,g⟩
  replace SF:Hid (Below W.heap.size W v2∧Below W3.heap.size W3 v2):=⟨on SF.out.1 g,on SF.out.2 g⟩
  clear g
  refine hK.out _ _ SF.out (fun _=>?_)
  clear hK K
  refine wpTd 4 36 ((.int .i64 c)) rfl SF.out ?_
  simp only[Act.put,zT,zZ,zS]
  refine wpTd 7 39 ((.bool true)) rfl SF.out ?_
  simp only[Act.put,zT,zZ,zS]
  refine wpTd 8 40 ((.bool true)) rfl SF.out ?_
  simp only[Act.put,zT,zZ,zS]
  refine wpTe 9 41 (.agg #[.slice b0 m0 k0,.int .i64 H.pc,.slice b1 m1 k1,.bool H.halted,.bool H.waiting,.bool H.rung,.int .i64 H.done,.slice b2 m2 k2,.slice b3 m3 k3]) rfl (yieldsIf_load_mid (by rfl) 26 (.tmp 3) rfl q 0 rfl [.slice b0 m0 k0,.int .i64 H.pc,.slice b1 m1 k1,.bool H.halted,.bool H.waiting,.bool H.rung,.int .i64 H.done,.slice b2 m2 k2,.slice b3 m3 k3] _ (fun w' hs=>vb_rangeW (VQ.out.keep hs.1)) Tryz.underlying26 rfl (by kernel_rfl)) SF.out ?_
  simp only[Act.put,zT,zZ,zS]
  refine wpTd 10 42 ((.slice la ln lk)) rfl SF.out ?_
  simp only[Act.put,zT,zZ,zS]
  refine wpTd 11 43 ((.slice ma mn mk)) rfl SF.out ?_
  simp only[Act.put,zT,zZ,zS]
  refine wpTd 14 46 ((.pointer (some ⟨qx,0,none⟩))) rfl SF.out ?_
  simp only[Act.put,zT,zZ,zS]
  refine wpTe 15 47 ((.int .i64 c)) rfl (Or.inl ⟨by rfl,fun w' hs=>by have y:=(VR.out.keep hs.2).cell 0 rfl;go_simp⟩) SF.out ?_
  simp only[Act.put,zT,zZ,zS]
  refine zR 12 rfl fun K hK=>?_
  rw[if_pos (by rfl)]
  go_simp
  refine(sb_hart b0 m0 k0 b1 m1 k1 b2 m2 k2 b3 m3 k3 H la ln lk ma mn mk c v2 (Sees.laterM S1.out SF.out.1) HCN.out).mono ?_
  rintro e v3⟨rfl,g⟩
  replace SF:Hid (Below W.heap.size W v3∧Below W3.heap.size W3 v3):=⟨on SF.out.1 g,on SF.out.2 g⟩
  clear g
  refine hK.out _ _ SF.out (fun _=>?_)
  clear hK K
  refine wpTd 13 45 ((.int .i64 c)) rfl SF.out ?_
  simp only[Act.put,zT,zZ,zS]
  refine wpTd 16 48 ((.bool true)) rfl SF.out ?_
  simp only[Act.put,zT,zZ,zS]
  refine wpTd 17 49 ((.bool true)) rfl SF.out ?_
  simp only[Act.put,zT,zZ,zS]
  refine wpTd 18 2 ((.bool true)) rfl SF.out ?_
  simp only[Act.put,zT,zZ,zS]
  refine wpAnyH_done (by kernel_rfl) ?_ _
  go_wp2_with fail
  go_ret
  exact⟨rfl,on BW.out SF.out.1⟩
 have HM:Hid (Hm W 0 (.slice b0 m0 k0) (.slice b1 m1 k1) (.slice b2 m2 k2) (.slice b3 m3 k3) H):=(hH.keep BQ.out).mono (Nat.zero_le _)
 have HP:Hid (Prs 36 W 0 (.slice la ln lk) ps):=(hP.keep BQ.out).mono (Nat.zero_le _)
 have HZ:Hid (Nums W 0 (.slice ma mn mk) zs):=(hZ.keep BQ.out).mono (Nat.zero_le _)
 have HL:Hid (ps.length=8∧zs.length≤200∧mn=zs.length∧ln=8):=⟨h8,hz2,hZ.len,by obtain⟨_,_,hv,_⟩:=hP.shape;cases hv;exact h8⟩
 obtain rfl:ln=8:=HL.out.2.2.2
 clear hH hP hZ h8 hz2 SEE B1 BQ
 obtain⟨q0,q1,q2,q3,q4,q5,q6,q7,q8⟩:=zc9 VQ.out
 go_wp2_with fail
 clear q0 q1 q2 q3 q4 q5 q6 q7 q8
 obtain⟨d0,d1,d2,d3,d4,hnx⟩:=nx_five H ps zs
 have NX:=hid hnx
 refine(i_nextIns _ _ _ _ H la 8 lk ps ma mn mk zs 0 W HM.out HP.out (by have:=HL.out;omega) HZ.out (by have:=HL.out;omega)).mono ?_
 rintro e w1⟨rfl,g⟩
 rw[hnx]
 clear hnx
 obtain⟨qn,hq⟩:∃x,w1.heap.size=x:=⟨_,rfl⟩
 obtain⟨W2,hW⟩:∃x,w1.alloc (.cells #[.int .i64 d0,.int .i64 d1,.int .i64 d2,.int .i64 d3,.int .i64 d4] 45)=x:=⟨_,rfl⟩
 have ba:Below w1.heap.size w1 W2:=by rw[←hW];exact al (Below.refl _ _) _
 have VN2:Hid (Vb W2 qn #[.int .i64 d0,.int .i64 d1,.int .i64 d2,.int .i64 d3,.int .i64 d4] 45):=by show Vb _ _ _ _;rw[←hq,←hW];exact Vb.new _ _ _
 have B2:=hid (on g ba)
 clear g ba
 go_upto_region 5 with fail
 try rw[hW]
 try rw[hq]
 clear hW hq
 obtain⟨q0,q1,q2,q3,q4,q5,q6,q7,q8⟩:=zc9 (VQ.out.keep B2.out)
 go_wp2_with fail
 clear q0 q1 q2 q3 q4 q5 q6 q7 q8
 refine(i_stepHart _ _ _ _ H la 8 lk ps ma mn mk zs 0 W2 (HM.out.keep B2.out) (HP.out.keep B2.out) (by have:=HL.out;omega) (HZ.out.keep B2.out) (by have:=HL.out;omega) (TB.out.1.keep B2.out) (Nat.lt_of_lt_of_le TB.out.2 B2.out.size)).mono ?_
 rintro e w2⟨u0,u1,u2,u3,u4,rfl,t,g⟩
 obtain⟨Y,hY⟩:∃Y,smV H ps zs 1=Y:=⟨_,rfl⟩
 have HY:=hid hY
 rw[hY]at t ⊢
 clear hY
 obtain⟨cY,hcY⟩:∃x,Y.code=x:=⟨_,rfl⟩
 obtain⟨cx,hcx⟩:∃x,Y.ca=x:=⟨_,rfl⟩
 obtain⟨rx,hrx⟩:∃x,Y.ri=x:=⟨_,rfl⟩
 obtain⟨G,hG⟩:∃x,Y.H=x:=⟨_,rfl⟩
 obtain⟨ys,hys⟩:∃x,Y.zs=x:=⟨_,rfl⟩
 rw[hG,hys]at t
 rw[hcY,hcx,hrx,hG]
 have YC:Hid (Y.code=cY∧Y.H=G∧Y.zs=ys∧Y.ca=cx):=⟨hcY,hG,hys,hcx⟩
 clear hcY hcx hrx hG hys
 obtain⟨x0,xk0,e0,_⟩:=t.h.r.shape
 obtain⟨x1,xk1,e1,_⟩:=t.h.c.shape
 obtain⟨x2,xk2,e2,_⟩:=t.h.i.shape
 obtain⟨x3,xk3,e3,_⟩:=t.h.o.shape
 obtain⟨x4,xk4,e4,_⟩:=t.mm.shape
 subst e0 e1 e2 e3 e4
 obtain⟨xn0,hn0⟩:∃n,G.regs.length=n:=⟨_,rfl⟩
 rw[hn0]at t ⊢
 obtain⟨xn1,hn1⟩:∃n,G.csr.length=n:=⟨_,rfl⟩
 rw[hn1]at t ⊢
 obtain⟨xn2,hn2⟩:∃n,G.inn.length=n:=⟨_,rfl⟩
 rw[hn2]at t ⊢
 obtain⟨xn3,hn3⟩:∃n,G.out.length=n:=⟨_,rfl⟩
 rw[hn3]at t ⊢
 obtain⟨xn4,hn4⟩:∃n,ys.length=n:=⟨_,rfl⟩
 rw[hn4]at t ⊢
 have Nx:Hid (xn0=G.regs.length∧xn1=G.csr.length∧xn2=G.inn.length∧xn3=G.out.length∧xn4=ys.length):=⟨hn0.symm,hn1.symm,hn2.symm,hn3.symm,hn4.symm⟩
 obtain⟨qx,hq⟩:∃x,w2.heap.size=x:=⟨_,rfl⟩
 obtain⟨W3,hW⟩:∃x,w2.alloc (.cells #[.int .i64 cY,.int .i64 cx,.int .i64 rx,.slice x0 xn0 xk0,.int .i64 G.pc,.slice x1 xn1 xk1,.bool G.halted,.bool G.waiting,.bool G.rung,.int .i64 G.done,.slice x2 xn2 xk2,.slice x3 xn3 xk3,.slice x4 xn4 xk4] 31)=x:=⟨_,rfl⟩
 have ba:Below w2.heap.size w2 W3:=by rw[←hW];exact al (Below.refl _ _) _
 have VR:Hid (Vb W3 qx #[.int .i64 cY,.int .i64 cx,.int .i64 rx,.slice x0 xn0 xk0,.int .i64 G.pc,.slice x1 xn1 xk1,.bool G.halted,.bool G.waiting,.bool G.rung,.int .i64 G.done,.slice x2 xn2 xk2,.slice x3 xn3 xk3,.slice x4 xn4 xk4] 31):=by show Vb _ _ _ _;rw[←hq,←hW];exact Vb.new _ _ _
 have Tx:Hid (Tm W3 0 (.slice x0 xn0 xk0) (.slice x1 xn1 xk1) (.slice x2 xn2 xk2) (.slice x3 xn3 xk3) (.slice x4 xn4 xk4) G ys):=(t.keep ba).mono (Nat.zero_le _)
 have Bx:=hid (on g ba)
 clear t g ba hn0 hn1 hn2 hn3 hn4
 go_upto_region 6 with fail
 try rw[hW]
 try rw[hq]
 clear hW hq
 have BX:=hid (on B2.out Bx.out)
 have VN:=hid (VN2.out.keep Bx.out)
 clear VN2
 have r0:=VR.out.cell 0 rfl
 by_cases hc0:cY=0
 case neg=>
  have hcb:(cY !=0)=true:=by simpa using hc0
  clear hc0
  go_upto_region 7 with fail
  clear r0
  refine wp_region_held (S:=fun w'=>Below W.heap.size W w'∧Below W3.heap.size W3 w') (by kernel_rfl) ?_
  change wpAnyH _ _ _ _ _ _ _ _ (World.drew _)
  have SF:Hid (Below W.heap.size W W3.drew∧Below W3.heap.size W3 W3.drew):=⟨BX.out.drew,(Below.refl _ _).drew⟩
  have hf0:=field_step0
  have hf5:=field_ins0
  generalize W3.drew=v1 at*
  refine wpTe 0 32 (.agg #[.slice b0 m0 k0,.int .i64 H.pc,.slice b1 m1 k1,.bool H.halted,.bool H.waiting,.bool H.rung,.int .i64 H.done,.slice b2 m2 k2,.slice b3 m3 k3]) rfl (yieldsIf_load_mid (by rfl) 26 (.tmp 3) rfl q 0 rfl [.slice b0 m0 k0,.int .i64 H.pc,.slice b1 m1 k1,.bool H.halted,.bool H.waiting,.bool H.rung,.int .i64 H.done,.slice b2 m2 k2,.slice b3 m3 k3] _ (fun w' hs=>vb_rangeW (VQ.out.keep hs.1)) Tryz.underlying26 rfl (by kernel_rfl)) SF.out ?_
  simp only[Act.put,zT,zZ,zS]
  refine wpTd 1 33 ((.slice la 8 lk)) rfl SF.out ?_
  simp only[Act.put,zT,zZ,zS]
  refine wpTd 2 34 ((.slice ma mn mk)) rfl SF.out ?_
  simp only[Act.put,zT,zZ,zS]
  refine wpTd 5 37 ((.pointer (some ⟨qn,0,none⟩))) rfl SF.out ?_
  simp only[Act.put,zT,zZ,zS]
  refine wpTe 6 38 ((.int .i64 d0)) rfl (Or.inl ⟨by rfl,fun w' hs=>by have y:=(VN.out.keep hs.2).cell 0 rfl;go_simp⟩) SF.out ?_
  simp only[Act.put,zT,zZ,zS]
  refine zR 3 rfl fun K hK=>?_
  rw[if_pos (by rfl)]
  go_simp
  refine(s_nextIns _ _ _ _ H la 8 lk ps ma mn mk zs 0 v1 (HM.out.keep SF.out.1) (HP.out.keep SF.out.1) (by have:=HL.out;omega) (HZ.out.keep SF.out.1) (by have:=HL.out;omega)).mono ?_
  rintro e v2⟨rfl,g⟩
  rw[NX.out]
  replace SF:Hid (Below W.heap.size W v2∧Below W3.heap.size W3 v2):=⟨on SF.out.1 g,on SF.out.2 g⟩
  clear g
  refine hK.out _ _ SF.out (fun _=>?_)
  clear hK K
  refine wpTd 4 36 ((.int .i64 d0)) rfl SF.out ?_
  simp only[Act.put,zT,zZ,zS]
  refine wpTd 7 39 ((.bool true)) rfl SF.out ?_
  simp only[Act.put,zT,zZ,zS]
  refine wpTd 8 40 ((.bool true)) rfl SF.out ?_
  simp only[Act.put,zT,zZ,zS]
  refine wpTe 9 41 (.agg #[.slice b0 m0 k0,.int .i64 H.pc,.slice b1 m1 k1,.bool H.halted,.bool H.waiting,.bool H.rung,.int .i64 H.done,.slice b2 m2 k2,.slice b3 m3 k3]) rfl (yieldsIf_load_mid (by rfl) 26 (.tmp 3) rfl q 0 rfl [.slice b0 m0 k0,.int .i64 H.pc,.slice b1 m1 k1,.bool H.halted,.bool H.waiting,.bool H.rung,.int .i64 H.done,.slice b2 m2 k2,.slice b3 m3 k3] _ (fun w' hs=>vb_rangeW (VQ.out.keep hs.1)) Tryz.underlying26 rfl (by kernel_rfl)) SF.out ?_
  simp only[Act.put,zT,zZ,zS]
  refine wpTd 10 42 ((.slice la 8 lk)) rfl SF.out ?_
  simp only[Act.put,zT,zZ,zS]
  refine wpTd 11 43 ((.slice ma mn mk)) rfl SF.out ?_
  simp only[Act.put,zT,zZ,zS]
  refine wpTd 14 46 ((.pointer (some ⟨qx,0,none⟩))) rfl SF.out ?_
  simp only[Act.put,zT,zZ,zS]
  refine wpTe 15 47 ((.int .i64 cY)) rfl (Or.inl ⟨by rfl,fun w' hs=>by have y:=(VR.out.keep hs.2).cell 0 rfl;go_simp⟩) SF.out ?_
  simp only[Act.put,zT,zZ,zS]
  refine zR 12 rfl fun K hK=>?_
  rw[if_pos (by rfl)]
  go_simp
  refine(s_stepHart _ _ _ _ H la 8 lk ps ma mn mk zs 0 v2 (HM.out.keep SF.out.1) (HP.out.keep SF.out.1) (by have:=HL.out;omega) (HZ.out.keep SF.out.1) (by have:=HL.out;omega)).mono ?_
  rintro e v3⟨r',c',i',o',m',rfl, -,g⟩
  rw[HY.out,YC.out.1]
  replace SF:Hid (Below W.heap.size W v3∧Below W3.heap.size W3 v3):=⟨on SF.out.1 g,on SF.out.2 g⟩
  clear g
  refine hK.out _ _ SF.out (fun _=>?_)
  clear hK K
  refine wpTd 13 45 ((.int .i64 cY)) rfl SF.out ?_
  simp only[Act.put,zT,zZ,zS]
  refine wpTd 16 48 ((.bool true)) rfl SF.out ?_
  simp only[Act.put,zT,zZ,zS]
  refine wpTd 17 49 ((.bool true)) rfl SF.out ?_
  simp only[Act.put,zT,zZ,zS]
  refine wpTd 18 2 ((.bool true)) rfl SF.out ?_
  simp only[Act.put,zT,zZ,zS]
  refine wpAnyH_done (by kernel_rfl) ?_ _
  go_wp2_with fail
  go_ret
  exact⟨rfl,on BW.out SF.out.1⟩
 have SC:Hid (seenC H ps zs=0):=by
  have h:(smV H ps zs 1).code=0:=by rw[HY.out,YC.out.1];exact hc0
  exact(smV_zero h).1
 have ALL:Hid (_∧_):=step_all SC.out
 rw[HY.out,YC.out.1,YC.out.2.1,YC.out.2.2.1,YC.out.2.2.2]at ALL
 subst hc0
 have BU:Hid (Below W3.heap.size W3 W3):=Below.refl _ _
 by_cases hh:H.halted=true
 case pos=>
  have q3:W3.cell? ⟨q,3,none⟩=some (.bool true):=by rw[←hh];exact(VQ.out.keep BX.out).cell 3 rfl
  clear hh
  go_wp2_with fail
  clear r0 q3
  go_upto_region 9 with fail
  refine wp_region_held (S:=fun w'=>Below W.heap.size W w'∧Below W3.heap.size W3 w') (by kernel_rfl) ?_
  change wpAnyH _ _ _ _ _ _ _ _ (World.drew _)
  have SF:Hid (Below W.heap.size W _∧Below W3.heap.size W3 _):=⟨on BX.out BU.out.drew,BU.out.drew⟩
  have hf1:=field_step1
  generalize World.drew _=v1 at*
  refine wpTe 0 62 (.agg #[.slice b0 m0 k0,.int .i64 H.pc,.slice b1 m1 k1,.bool H.halted,.bool H.waiting,.bool H.rung,.int .i64 H.done,.slice b2 m2 k2,.slice b3 m3 k3]) rfl (yieldsIf_load_mid (by rfl) 26 (.tmp 3) rfl q 0 rfl [.slice b0 m0 k0,.int .i64 H.pc,.slice b1 m1 k1,.bool H.halted,.bool H.waiting,.bool H.rung,.int .i64 H.done,.slice b2 m2 k2,.slice b3 m3 k3] _ (fun w' hs=>vb_rangeW (VQ.out.keep hs.1)) Tryz.underlying26 rfl (by kernel_rfl)) SF.out ?_
  simp only[Act.put,zT,zZ,zS]
  refine wpTd 1 63 ((.slice la 8 lk)) rfl SF.out ?_
  simp only[Act.put,zT,zZ,zS]
  refine wpTd 2 64 ((.slice ma mn mk)) rfl SF.out ?_
  simp only[Act.put,zT,zZ,zS]
  refine wpTd 5 67 ((.pointer (some ⟨qx,1,none⟩))) rfl SF.out ?_
  simp only[Act.put,zT,zZ,zS]
  refine wpTe 6 68 ((.int .i64 cx)) rfl (Or.inl ⟨by rfl,fun w' hs=>by have y:=(VR.out.keep hs.2).cell 1 rfl;go_simp⟩) SF.out ?_
  simp only[Act.put,zT,zZ,zS]
  refine zR 3 rfl fun K hK=>?_
  rw[if_pos (by rfl)]
  go_simp
  refine(s_stepHart _ _ _ _ H la 8 lk ps ma mn mk zs 0 v1 (HM.out.keep SF.out.1) (HP.out.keep SF.out.1) (by have:=HL.out;omega) (HZ.out.keep SF.out.1) (by have:=HL.out;omega)).mono ?_
  rintro e v2⟨r',c',i',o',m',rfl, -,g⟩
  rw[HY.out,YC.out.2.2.2]
  replace SF:Hid (Below W.heap.size W v2∧Below W3.heap.size W3 v2):=⟨on SF.out.1 g,on SF.out.2 g⟩
  clear g
  refine hK.out _ _ SF.out (fun _=>?_)
  clear hK K
  refine wpTd 4 66 ((.int .i64 cx)) rfl SF.out ?_
  simp only[Act.put,zT,zZ,zS]
  refine wpTd 7 69 ((.bool true)) rfl SF.out ?_
  simp only[Act.put,zT,zZ,zS]
  refine wpTd 8 2 ((.bool true)) rfl SF.out ?_
  simp only[Act.put,zT,zZ,zS]
  refine wpAnyH_done (by kernel_rfl) ?_ _
  go_wp2_with fail
  go_ret
  exact⟨rfl,on BW.out SF.out.1⟩
 have hh':H.halted=false:=by simpa using hh
 have HH:Hid (H.halted=false):=hh'
 have q3:W3.cell? ⟨q,3,none⟩=some (.bool false):=by rw[←hh'];exact(VQ.out.keep BX.out).cell 3 rfl
 clear hh hh'
 by_cases hw:H.waiting=true
 case pos=>
  have q4:W3.cell? ⟨q,4,none⟩=some (.bool true):=by rw[←hw];exact(VQ.out.keep BX.out).cell 4 rfl
  clear hw
  go_wp2_with fail
  clear r0 q3 q4
  go_upto_region 9 with fail
  refine wp_region_held (S:=fun w'=>Below W.heap.size W w'∧Below W3.heap.size W3 w') (by kernel_rfl) ?_
  change wpAnyH _ _ _ _ _ _ _ _ (World.drew _)
  have SF:Hid (Below W.heap.size W _∧Below W3.heap.size W3 _):=⟨on BX.out BU.out.drew,BU.out.drew⟩
  have hf1:=field_step1
  generalize World.drew _=v1 at*
  refine wpTe 0 62 (.agg #[.slice b0 m0 k0,.int .i64 H.pc,.slice b1 m1 k1,.bool H.halted,.bool H.waiting,.bool H.rung,.int .i64 H.done,.slice b2 m2 k2,.slice b3 m3 k3]) rfl (yieldsIf_load_mid (by rfl) 26 (.tmp 3) rfl q 0 rfl [.slice b0 m0 k0,.int .i64 H.pc,.slice b1 m1 k1,.bool H.halted,.bool H.waiting,.bool H.rung,.int .i64 H.done,.slice b2 m2 k2,.slice b3 m3 k3] _ (fun w' hs=>vb_rangeW (VQ.out.keep hs.1)) Tryz.underlying26 rfl (by kernel_rfl)) SF.out ?_
  simp only[Act.put,zT,zZ,zS]
  refine wpTd 1 63 ((.slice la 8 lk)) rfl SF.out ?_
  simp only[Act.put,zT,zZ,zS]
  refine wpTd 2 64 ((.slice ma mn mk)) rfl SF.out ?_
  simp only[Act.put,zT,zZ,zS]
  refine wpTd 5 67 ((.pointer (some ⟨qx,1,none⟩))) rfl SF.out ?_
  simp only[Act.put,zT,zZ,zS]
  refine wpTe 6 68 ((.int .i64 cx)) rfl (Or.inl ⟨by rfl,fun w' hs=>by have y:=(VR.out.keep hs.2).cell 1 rfl;go_simp⟩) SF.out ?_
  simp only[Act.put,zT,zZ,zS]
  refine zR 3 rfl fun K hK=>?_
  rw[if_pos (by rfl)]
  go_simp
  refine(s_stepHart _ _ _ _ H la 8 lk ps ma mn mk zs 0 v1 (HM.out.keep SF.out.1) (HP.out.keep SF.out.1) (by have:=HL.out;omega) (HZ.out.keep SF.out.1) (by have:=HL.out;omega)).mono ?_
  rintro e v2⟨r',c',i',o',m',rfl, -,g⟩
  rw[HY.out,YC.out.2.2.2]
  replace SF:Hid (Below W.heap.size W v2∧Below W3.heap.size W3 v2):=⟨on SF.out.1 g,on SF.out.2 g⟩
  clear g
  refine hK.out _ _ SF.out (fun _=>?_)
  clear hK K
  refine wpTd 4 66 ((.int .i64 cx)) rfl SF.out ?_
  simp only[Act.put,zT,zZ,zS]
  refine wpTd 7 69 ((.bool true)) rfl SF.out ?_
  simp only[Act.put,zT,zZ,zS]
  refine wpTd 8 2 ((.bool true)) rfl SF.out ?_
  simp only[Act.put,zT,zZ,zS]
  refine wpAnyH_done (by kernel_rfl) ?_ _
  go_wp2_with fail
  go_ret
  exact⟨rfl,on BW.out SF.out.1⟩
 have hw':H.waiting=false:=by simpa using hw
 have HW:Hid (H.waiting=false):=hw'
 have q4:W3.cell? ⟨q,4,none⟩=some (.bool false):=by rw[←hw'];exact(VQ.out.keep BX.out).cell 4 rfl
 clear hw hw'
 have q0:=(VQ.out.keep BX.out).cell 0 rfl
 have q1:=(VQ.out.keep BX.out).cell 1 rfl
 have q2:=(VQ.out.keep BX.out).cell 2 rfl
 have q5:=(VQ.out.keep BX.out).cell 5 rfl
 have q6:=(VQ.out.keep BX.out).cell 6 rfl
 have q7:=(VQ.out.keep BX.out).cell 7 rfl
 have q8:=(VQ.out.keep BX.out).cell 8 rfl
 have CD:=i_dueOf _ _ _ _ H 0 W3 (HM.out.keep BX.out) (TB.out.1.keep BX.out)
 rw[HH.out,HW.out]at CD
 have hf0:=field_int0
 have HF0:Hid (hfV H=0):=by obtain⟨p,sn⟩:=seen_ok SC.out;exact hfV_ok sn.hok
 by_cases hd:dueV H<0
 case neg=>
  have ED:Hid (dueR H=(0,dueV H)):=by show _=_;unfold dueR;rw[if_pos HF0.out,if_neg hd]
  go_wp2_with (first|(go_at_call 20;refine CD.mono ?_;clear CD;rintro e u ⟨rfl,g⟩;rw[ED.out];replace BU:Hid (Below W3.heap.size W3 u):=g;clear g r0 q0 q1 q2 q3 q4 q5 q6 q7 q8)|fail)
  clear hf0
  go_upto_region 9 with fail
  refine wp_region_held (S:=fun w'=>Below W.heap.size W w'∧Below W3.heap.size W3 w') (by kernel_rfl) ?_
  change wpAnyH _ _ _ _ _ _ _ _ (World.drew _)
  have SF:Hid (Below W.heap.size W _∧Below W3.heap.size W3 _):=⟨on BX.out BU.out.drew,BU.out.drew⟩
  have hf1:=field_step1
  generalize World.drew _=v1 at*
  refine wpTe 0 62 (.agg #[.slice b0 m0 k0,.int .i64 H.pc,.slice b1 m1 k1,.bool H.halted,.bool H.waiting,.bool H.rung,.int .i64 H.done,.slice b2 m2 k2,.slice b3 m3 k3]) rfl (yieldsIf_load_mid (by rfl) 26 (.tmp 3) rfl q 0 rfl [.slice b0 m0 k0,.int .i64 H.pc,.slice b1 m1 k1,.bool H.halted,.bool H.waiting,.bool H.rung,.int .i64 H.done,.slice b2 m2 k2,.slice b3 m3 k3] _ (fun w' hs=>vb_rangeW (VQ.out.keep hs.1)) Tryz.underlying26 rfl (by kernel_rfl)) SF.out ?_
  simp only[Act.put,zT,zZ,zS]
  refine wpTd 1 63 ((.slice la 8 lk)) rfl SF.out ?_
  simp only[Act.put,zT,zZ,zS]
  refine wpTd 2 64 ((.slice ma mn mk)) rfl SF.out ?_
  simp only[Act.put,zT,zZ,zS]
  refine wpTd 5 67 ((.pointer (some ⟨qx,1,none⟩))) rfl SF.out ?_
  simp only[Act.put,zT,zZ,zS]
  refine wpTe 6 68 ((.int .i64 cx)) rfl (Or.inl ⟨by rfl,fun w' hs=>by have y:=(VR.out.keep hs.2).cell 1 rfl;go_simp⟩) SF.out ?_
  simp only[Act.put,zT,zZ,zS]
  refine zR 3 rfl fun K hK=>?_
  rw[if_pos (by rfl)]
  go_simp
  refine(s_stepHart _ _ _ _ H la 8 lk ps ma mn mk zs 0 v1 (HM.out.keep SF.out.1) (HP.out.keep SF.out.1) (by have:=HL.out;omega) (HZ.out.keep SF.out.1) (by have:=HL.out;omega)).mono ?_
  rintro e v2⟨r',c',i',o',m',rfl, -,g⟩
  rw[HY.out,YC.out.2.2.2]
  replace SF:Hid (Below W.heap.size W v2∧Below W3.heap.size W3 v2):=⟨on SF.out.1 g,on SF.out.2 g⟩
  clear g
  refine hK.out _ _ SF.out (fun _=>?_)
  clear hK K
  refine wpTd 4 66 ((.int .i64 cx)) rfl SF.out ?_
  simp only[Act.put,zT,zZ,zS]
  refine wpTd 7 69 ((.bool true)) rfl SF.out ?_
  simp only[Act.put,zT,zZ,zS]
  refine wpTd 8 2 ((.bool true)) rfl SF.out ?_
  simp only[Act.put,zT,zZ,zS]
  refine wpAnyH_done (by kernel_rfl) ?_ _
  go_wp2_with fail
  go_ret
  exact⟨rfl,on BW.out SF.out.1⟩
 have ED:Hid (dueR H=(4,0)):=by show _=_;unfold dueR;rw[if_pos HF0.out,if_pos hd]
 have FF:Hid (Ff H ps zs Y):=by
  have h:=step_faults SC.out HH.out HW.out hd
  rw[HY.out]at h
  exact h
 clear hd
 go_upto_region 10 with(first|(go_at_call 20;refine CD.mono ?_;clear CD;rintro e u ⟨rfl,g⟩;rw[ED.out];replace BU:Hid (Below W3.heap.size W3 u):=g;clear g r0 q0 q1 q2 q3 q4 q5 q6 q7 q8)|fail)
 clear hf0 ED HF0
 have BUW:=hid (on BX.out BU.out)
 obtain⟨q0,q1,q2,q3,q4,q5,q6,q7,q8⟩:=zc9 (VQ.out.keep BUW.out)
 go_wp2_with fail
 clear q0 q1 q2 q3 q4 q5 q6 q7 q8
 refine(i_placeOf _ _ _ _ H la 8 lk ps ma mn mk zs H.pc 4 0 u (HM.out.keep BUW.out) (HP.out.keep BUW.out) (by have:=HL.out;omega) (HZ.out.keep BUW.out) (by have:=HL.out;omega)).mono ?_
 rintro e w4⟨rfl,g⟩
 rw[show poC H ps zs H.pc 4=plC H ps zs H.pc 4 from by unfold poC;rw[if_pos SC.out];rfl,show poV H ps zs H.pc 4=plV H ps zs H.pc 4 from by unfold poV;rw[if_pos SC.out];rfl]
 obtain⟨pc,hpc⟩:∃x,plC H ps zs H.pc 4=x:=⟨_,rfl⟩
 obtain⟨pv,hpv⟩:∃x,plV H ps zs H.pc 4=x:=⟨_,rfl⟩
 have PE:Hid (plC H ps zs H.pc 4=pc∧plV H ps zs H.pc 4=pv):=⟨hpc,hpv⟩
 rw[hpc,hpv]
 clear hpc hpv
 obtain⟨qp,hq⟩:∃x,w4.heap.size=x:=⟨_,rfl⟩
 obtain⟨W4,hW⟩:∃x,w4.alloc (.cells #[.int .i64 pc,.int .i64 pv] 48)=x:=⟨_,rfl⟩
 have ba:Below w4.heap.size w4 W4:=by rw[←hW];exact al (Below.refl _ _) _
 have VP:Hid (Vb W4 qp #[.int .i64 pc,.int .i64 pv] 48):=by show Vb _ _ _ _;rw[←hq,←hW];exact Vb.new _ _ _
 have B4:=hid (on g ba)
 clear g ba
 go_upto_region 11 with fail
 try rw[hW]
 try rw[hq]
 clear hW hq
 have BF:=hid (on BU.out B4.out)
 have BFW:=hid (on BX.out BF.out)
 have BZ:=hid (on BW.out BFW.out)
 have C11:G.csr.length=11:=by
  obtain⟨p,sn⟩:=seen_ok SC.out
  have h:=(manyV_sn (x:=(H,zs, -1, -1)) 1 sn).hok.c11
  have e:(manyV ps 1 (H,zs, -1, -1)).1=G:=by rw[←YC.out.2.1,←HY.out,smV_good SC.out (by decide) (by decide)];rfl
  rw[e]at h
  exact h
 obtain rfl:xn1=11:=by have:=Nx.out;omega
 clear C11
 obtain⟨_,_,hv,_,_,hgx⟩:=Tx.out.h.c.shape
 have RX:Hid (∃g,x1=some ⟨g,0,none⟩):=by
  obtain⟨g,hg⟩:=hgx (by have:=Nx.out;omega)
  simp only[Value.slice.injEq]at hv
  exact⟨g,by rw[hv.1,hg]⟩
 obtain⟨gc,rfl⟩:=RX.out
 clear RX hv hgx
 have csr4:W4.cell? ⟨gc,4,none⟩=some (.int .i64 (G.csr.getD 4 0)):=(Tx.out.h.c.keep BF.out).cell Nx.out.2.1 4 (by decide)
 have CS4:=hid csr4
 have VR4:Hid (Vb W4 qx _ 31):=VR.out.keep BF.out
 have VN4:=hid (VN.out.keep BF.out)
 have VQ4:=hid (VQ.out.keep BFW.out)
 have FX:Hid (_∧_):=⟨YC.out.2.1,YC.out.2.2.2⟩
 clear csr4
 have p0:=VP.out.cell 0 rfl
 have x1c:=VR4.out.cell 1 rfl
 have x5c:=VR4.out.cell 5 rfl
 have n0:=VN4.out.cell 0 rfl
 by_cases h4:pc=0
 case neg=>
  have hnz:¬plC H ps zs H.pc 4=0:=by rw[PE.out.1];exact h4
  obtain⟨e1,e2⟩:=FF.out.run hnz
  obtain⟨e3,_⟩:=five_inj (NX.out.symm.trans (nx_run SC.out hnz))
  rw[PE.out.1]at e3
  rw[YC.out.2.2.2]at e1
  rw[YC.out.2.1]at e2
  have c4:=CS4.out
  rw[e2]at c4
  have q1:=VQ4.out.cell 1 rfl
  have h4b:(pc !=0)=true:=by simpa using h4
  subst e1 e3
  clear hnz e2 h4
  go_wp2_with fail
  go_quiet (fail)
  go_wp2_with fail
  go_ret
  exact⟨rfl,below_dN BZ.out _⟩
 have hpz:plC H ps zs H.pc 4=0:=by rw[PE.out.1];exact h4
 have HPZ:=hid hpz
 subst h4
 obtain⟨z,hz⟩:∃z,fetZ H ps zs=z:=⟨_,rfl⟩
 have ZE:=hid hz
 clear hpz hz
 by_cases hdf:decF z=0
 case neg=>
  have hdf':¬decF (fetZ H ps zs)=0:=by rw[ZE.out];exact hdf
  obtain⟨e1,e2⟩:=FF.out.bad HPZ.out hdf'
  obtain⟨e3,_⟩:=five_inj (NX.out.symm.trans (nx_bad SC.out HPZ.out hdf'))
  rw[YC.out.2.2.2]at e1
  rw[YC.out.2.1,ZE.out]at e2
  have c4:=CS4.out
  rw[e2]at c4
  obtain⟨pp,sn⟩:=seen_ok SC.out
  obtain⟨a,ea,hal⟩:=pl_run sn HPZ.out
  obtain rfl:pv=(a:Int):=by rw[←PE.out.2,ea]
  have ham:a<mn:=by have:=HL.out;have:=sn.zl;omega
  obtain⟨_,_,hv,_,_,hgm⟩:=HZ.out.shape
  obtain⟨gm,hgm⟩:=hgm (by have:=HL.out;omega)
  simp only[Value.slice.injEq]at hv
  obtain rfl:ma=some ⟨gm,0,none⟩:=by rw[hv.1,hgm]
  have cm:=(HZ.out.keep BFW.out).cell HL.out.2.2.1 a ham
  have hzz:zs.getD a 0=z:=by rw[←ZE.out];unfold fetZ;rw[ea];rfl
  rw[hzz]at cm
  have haI:(a:Int)<(mn:Int):=by omega
  have p1:=VP.out.cell 1 rfl
  subst e1 e3
  clear hdf hdf' e2 ea hal ham hv hgm hzz sn
  go_wp2_with fail
  go_quiet (fail)
  go_wp2_with fail
  go_ret
  exact⟨rfl,below_dN BZ.out _⟩
 have HDF:Hid (decF (fetZ H ps zs)=0):=by show _=_;rw[ZE.out];exact hdf
 clear hdf
 obtain⟨e0,e1,e2,e3,e4⟩:=five_inj (NX.out.symm.trans (nx_ok SC.out HPZ.out HDF.out))
 rw[ZE.out]at e1 e2 e3 e4
 subst e0
 have DE:Hid (d1=z/16777216∧d3=z/65536%16∧d4=z%65536):=⟨e1,e3,e4⟩
 clear e1 e2 e3 e4
 have n1:=VN4.out.cell 1 rfl
 by_cases h23:d1=23
 ·have e5:cx=5:=by rw[←YC.out.2.2.2];exact FF.out.call HPZ.out HDF.out (by rw[ZE.out,←DE.out.1];exact h23)
  subst e5 h23
  go_wp2_with fail
  go_ret
  exact⟨rfl,BZ.out⟩
 have h23b:(d1==23)=false:=beq_eq_false_iff_ne.2 h23
 by_cases h14:d1=14
 ·have q0:=VQ4.out.cell 0 rfl
  have n3:=VN4.out.cell 3 rfl
  have n4:=VN4.out.cell 4 rfl
  obtain⟨aN,haN⟩:∃a:Nat,z/65536%16=(a:Int):=⟨(z/65536%16).toNat,by omega⟩
  have ha16:aN<16:=by omega
  obtain rfl:d3=(aN:Int):=by rw[DE.out.2.1,haN]
  obtain⟨pp,sn⟩:=seen_ok SC.out
  have R16:Hid (H.regs.length=16):=sn.hok.r16
  obtain rfl:m0=16:=by have h:=HM.out.r.len;have:=R16.out;omega
  obtain⟨_,_,hv,_,_,hgr⟩:=HM.out.r.shape
  obtain⟨gr,hgr⟩:=hgr (by have:=R16.out;omega)
  simp only[Value.slice.injEq]at hv
  obtain rfl:b0=some ⟨gr,0,none⟩:=by rw[hv.1,hgr]
  have cr:=(HM.out.r.keep BFW.out).cell R16.out.symm aN ha16
  have haI:(aN:Int)<16:=by omega
  obtain⟨rv,hrv⟩:∃x,H.regs.getD aN 0=x:=⟨_,rfl⟩
  rw[hrv]at cr
  obtain⟨x,hx⟩:∃x,addV rv (offV d4)=x:=⟨_,rfl⟩
  have XE:=hid hx
  have LO:Hid ((¬plC H ps zs x 1=0→cx=3∧G.csr.getD 4 0=x)∧(plC H ps zs x 1=0→cx= -1)):=by
   have h:=FF.out.load HPZ.out HDF.out (by rw[ZE.out,←DE.out.1];exact h14) x (by rw[ZE.out,haN,←DE.out.2.2,←hx,←hrv];rfl)
   rw[YC.out.2.2.2,YC.out.2.1]at h
   exact h
  have ha0:¬((aN:Int)<0):=by omega
  clear haN ha16 sn hv hgr hrv hx
  subst h14
  go_upto_region 18 with fail
  go_quiet (first|(go_at_call 23;exact Calls.quiet_of_same (i_offF _ _))|(go_at_call 22;exact Calls.quiet_of_same (impl_add _ _ _)))
  rw[XE.out]
  clear q0 n3 n4 cr haI ha0
  obtain⟨q0,q1,q2,q3,q4,q5,q6,q7,q8⟩:=zc9 VQ4.out
  go_wp2_with fail
  clear q0 q1 q2 q3 q4 q5 q6 q7 q8 n1 p0 x1c x5c n0
  refine(i_placeOf _ _ _ _ H la 8 lk ps ma mn mk zs x 1 0 _ (HM.out.keep (below_dN BFW.out _)) (HP.out.keep (below_dN BFW.out _)) (by have:=HL.out;omega) (HZ.out.keep (below_dN BFW.out _)) (by have:=HL.out;omega)).mono ?_
  rintro e w5⟨rfl,g⟩
  rw[show poC H ps zs x 1=plC H ps zs x 1 from by unfold poC;rw[if_pos SC.out];rfl]
  obtain⟨yc,hyc⟩:∃y,plC H ps zs x 1=y:=⟨_,rfl⟩
  obtain⟨yv,hyv⟩:∃y,poV H ps zs x 1=y:=⟨_,rfl⟩
  rw[hyc]at LO
  rw[hyc,hyv]
  clear hyc hyv
  have B5:Hid (Below W4.heap.size W4 w5):=on (below_dN (Below.refl _ _) _) g
  obtain⟨qy,hq⟩:∃x,w5.heap.size=x:=⟨_,rfl⟩
  have VY:Hid (Vb (w5.alloc (.cells #[.int .i64 yc,.int .i64 yv] 48)) qy #[.int .i64 yc,.int .i64 yv] 48):=by show Vb _ _ _ _;rw[←hq];exact Vb.new _ _ _
  have B6:Hid (Below W4.heap.size W4 (w5.alloc (.cells #[.int .i64 yc,.int .i64 yv] 48))):=al B5.out _
  clear g
  go_upto_region 25 with fail
  try rw[hq]
  clear hq
  generalize w5.alloc (.cells #[.int .i64 yc,.int .i64 yv] 48)=W6 at*
  have BG:=hid (on BZ.out B6.out)
  have y0:=VY.out.cell 0 rfl
  have z1:=(VR4.out.keep B6.out).cell 1 rfl
  have z5:=(VR4.out.keep B6.out).cell 5 rfl
  have c4:=(Tx.out.h.c.keep (on BF.out B6.out)).cell Nx.out.2.1 4 (by decide)
  by_cases hy:yc=0
  ·have e5:=LO.out.2 hy
   subst e5 hy
   go_wp2_with fail
   go_ret
   exact⟨rfl,BG.out⟩
  ·obtain⟨e5,e6⟩:=LO.out.1 hy
   have hyb:(yc==0)=false:=beq_eq_false_iff_ne.2 hy
   have hyn:(yc !=0)=true:=by simpa using hy
   rw[e6]at c4
   subst e5
   clear hy e6
   go_wp2_with fail
   go_ret
   exact⟨rfl,BG.out⟩
 by_cases h15:d1=15
 ·have q0:=VQ4.out.cell 0 rfl
  have n3:=VN4.out.cell 3 rfl
  have n4:=VN4.out.cell 4 rfl
  obtain⟨aN,haN⟩:∃a:Nat,z/65536%16=(a:Int):=⟨(z/65536%16).toNat,by omega⟩
  have ha16:aN<16:=by omega
  obtain rfl:d3=(aN:Int):=by rw[DE.out.2.1,haN]
  obtain⟨pp,sn⟩:=seen_ok SC.out
  have R16:Hid (H.regs.length=16):=sn.hok.r16
  obtain rfl:m0=16:=by have h:=HM.out.r.len;have:=R16.out;omega
  obtain⟨_,_,hv,_,_,hgr⟩:=HM.out.r.shape
  obtain⟨gr,hgr⟩:=hgr (by have:=R16.out;omega)
  simp only[Value.slice.injEq]at hv
  obtain rfl:b0=some ⟨gr,0,none⟩:=by rw[hv.1,hgr]
  have cr:=(HM.out.r.keep BFW.out).cell R16.out.symm aN ha16
  have haI:(aN:Int)<16:=by omega
  obtain⟨rv,hrv⟩:∃x,H.regs.getD aN 0=x:=⟨_,rfl⟩
  rw[hrv]at cr
  obtain⟨x,hx⟩:∃x,addV rv (offV d4)=x:=⟨_,rfl⟩
  have XE:=hid hx
  have LO:Hid ((¬plC H ps zs x 2=0→cx=4∧G.csr.getD 4 0=x)∧(plC H ps zs x 2=0→cx= -1)):=by
   have h:=FF.out.store HPZ.out HDF.out (by rw[ZE.out,←DE.out.1];exact h15) x (by rw[ZE.out,haN,←DE.out.2.2,←hx,←hrv];rfl)
   rw[YC.out.2.2.2,YC.out.2.1]at h
   exact h
  have ha0:¬((aN:Int)<0):=by omega
  clear haN ha16 sn hv hgr hrv hx
  subst h15
  go_upto_region 18 with fail
  go_quiet (first|(go_at_call 23;exact Calls.quiet_of_same (i_offF _ _))|(go_at_call 22;exact Calls.quiet_of_same (impl_add _ _ _)))
  rw[XE.out]
  clear q0 n3 n4 cr haI ha0
  obtain⟨q0,q1,q2,q3,q4,q5,q6,q7,q8⟩:=zc9 VQ4.out
  go_wp2_with fail
  clear q0 q1 q2 q3 q4 q5 q6 q7 q8 n1 p0 x1c x5c n0
  refine(i_placeOf _ _ _ _ H la 8 lk ps ma mn mk zs x 2 0 _ (HM.out.keep (below_dN BFW.out _)) (HP.out.keep (below_dN BFW.out _)) (by have:=HL.out;omega) (HZ.out.keep (below_dN BFW.out _)) (by have:=HL.out;omega)).mono ?_
  rintro e w5⟨rfl,g⟩
  rw[show poC H ps zs x 2=plC H ps zs x 2 from by unfold poC;rw[if_pos SC.out];rfl]
  obtain⟨yc,hyc⟩:∃y,plC H ps zs x 2=y:=⟨_,rfl⟩
  obtain⟨yv,hyv⟩:∃y,poV H ps zs x 2=y:=⟨_,rfl⟩
  rw[hyc]at LO
  rw[hyc,hyv]
  clear hyc hyv
  have B5:Hid (Below W4.heap.size W4 w5):=on (below_dN (Below.refl _ _) _) g
  obtain⟨qy,hq⟩:∃x,w5.heap.size=x:=⟨_,rfl⟩
  have VY:Hid (Vb (w5.alloc (.cells #[.int .i64 yc,.int .i64 yv] 48)) qy #[.int .i64 yc,.int .i64 yv] 48):=by show Vb _ _ _ _;rw[←hq];exact Vb.new _ _ _
  have B6:Hid (Below W4.heap.size W4 (w5.alloc (.cells #[.int .i64 yc,.int .i64 yv] 48))):=al B5.out _
  clear g
  go_upto_region 25 with fail
  try rw[hq]
  clear hq
  generalize w5.alloc (.cells #[.int .i64 yc,.int .i64 yv] 48)=W6 at*
  have BG:=hid (on BZ.out B6.out)
  have y0:=VY.out.cell 0 rfl
  have z1:=(VR4.out.keep B6.out).cell 1 rfl
  have z5:=(VR4.out.keep B6.out).cell 5 rfl
  have c4:=(Tx.out.h.c.keep (on BF.out B6.out)).cell Nx.out.2.1 4 (by decide)
  by_cases hy:yc=0
  ·have e5:=LO.out.2 hy
   subst e5 hy
   go_wp2_with fail
   go_ret
   exact⟨rfl,BG.out⟩
  ·obtain⟨e5,e6⟩:=LO.out.1 hy
   have hyb:(yc==0)=false:=beq_eq_false_iff_ne.2 hy
   have hyn:(yc !=0)=true:=by simpa using hy
   rw[e6]at c4
   subst e5
   clear hy e6
   go_wp2_with fail
   go_ret
   exact⟨rfl,BG.out⟩
 have h14b:(d1==14)=false:=beq_eq_false_iff_ne.2 h14
 have h15b:(d1==15)=false:=beq_eq_false_iff_ne.2 h15
 have e5:cx= -1:=by rw[←YC.out.2.2.2];exact FF.out.other HPZ.out HDF.out (by rw[ZE.out,←DE.out.1];exact h14) (by rw[ZE.out,←DE.out.1];exact h15) (by rw[ZE.out,←DE.out.1];exact h23)
 obtain⟨_,_,_,hlen,_,_,hdn,_⟩:=ALL.out
 obtain rfl:mn=xn4:=by have:=HL.out;have:=Nx.out;omega
 subst e5
 have q6:=VQ4.out.cell 6 rfl
 have x9c:=VR4.out.cell 9 rfl
 have x12c:=VR4.out.cell 12 rfl
 have hge:G.done≥H.done:=hdn
 clear hlen hdn h14 h15 h23
 go_wp2_with fail
 go_ret
 exact⟨rfl,BZ.out⟩
end Go.Proofs.YtaefollmeoepkaaGreatDoor.fnFaultsDone
