import Derived.Test.YtaefollmeoepkaaGreatDoorQ47
namespace Go.Proofs.YtaefollmeoepkaaGreatDoor
set_option maxRecDepth 20000
set_option maxHeartbeats 16000000
open Go.RowKit
set_option linter.unusedVariables false
theorem i_stepHart(r c i o:Value)(H:Ht)(pa:Option Addr)(pn pc:Nat)(ps:List (Int×Int))(ma:Option Addr)(mn mc:Nat)(zs:List Int)(b:Nat)(w:World)(h:Hm w b r c i o H)(hP:Prs 36 w b (.slice pa pn pc) ps)(hl:ps.length≤1048576)(hM:Nums w b (.slice ma mn mc) zs)(hm:zs.length≤1048576)(tab:Tab w)(tb:0<w.heap.size):
  Calls Tryz.prog 8 #[.agg #[r,.int .i64 H.pc,c,.bool H.halted,.bool H.waiting,.bool H.rung,.int .i64 H.done,i,o],.slice pa pn pc,.slice ma mn mc] w fun e w'=>∃r' c' i' o' m',e=.returned (.agg #[.int .i64 (smV H ps zs 1).code,.int .i64 (smV H ps zs 1).ca,.int .i64 (smV H ps zs 1).ri,r',.int .i64 (smV H ps zs 1).H.pc,c',.bool (smV H ps zs 1).H.halted,.bool (smV H ps zs 1).H.waiting,.bool (smV H ps zs 1).H.rung,.int .i64 (smV H ps zs 1).H.done,i',o',m'])∧Tm w' w.heap.size r' c' i' o' m' (smV H ps zs 1).H (smV H ps zs 1).zs∧Below w.heap.size w w':=by
 have HM:=hid h
 have HP:=hid hP
 have HZ:=hid hM
 have HL:Hid (ps.length≤1048576∧zs.length≤1048576):=⟨hl,hm⟩
 have HT:Hid (Tab w∧0<w.heap.size):=⟨tab,tb⟩
 obtain⟨a0,k0,rfl,_⟩:=h.r.shape
 obtain⟨a1,k1,rfl,_⟩:=h.c.shape
 obtain⟨a2,k2,rfl,_⟩:=h.i.shape
 obtain⟨a3,k3,rfl,_⟩:=h.o.shape
 obtain⟨Y,hY⟩:∃Y,(smV H ps zs 1)=Y:=⟨_,rfl⟩
 rw[hY]
 have HY:=hid hY
 clear h hP hl hM hm tab tb hY
 generalize hW:(w.alloc (.cells #[.slice a0 H.regs.length k0,.int .i64 H.pc,.slice a1 H.csr.length k1,.bool H.halted,.bool H.waiting,.bool H.rung,.int .i64 H.done,.slice a2 H.inn.length k2,.slice a3 H.out.length k3] 26)).alloc (.cells #[.int .i64 0,.int .i64 0,.int .i64 0,.slice none 0 0,.int .i64 0,.slice none 0 0,.bool false,.bool false,.bool false,.int .i64 0,.slice none 0 0,.slice none 0 0,.slice none 0 0] 31)=W
 have B0:Hid (Below w.heap.size w W):=by show Below _ _ _;rw[←hW];exact al (al (Below.refl _ _) _) _
 obtain⟨s,hS⟩:∃s,w.heap.size=s:=⟨_,rfl⟩
 have HS:=hid hS
 have VA:Hid (Vb W s #[.slice a0 H.regs.length k0,.int .i64 H.pc,.slice a1 H.csr.length k1,.bool H.halted,.bool H.waiting,.bool H.rung,.int .i64 H.done,.slice a2 H.inn.length k2,.slice a3 H.out.length k3] 26):=by
  show Vb _ _ _ _;rw[←hW,←hS];exact(Vb.new _ _ _).push _
 have VR:Hid (Vb W (s+1) #[.int .i64 0,.int .i64 0,.int .i64 0,.slice none 0 0,.int .i64 0,.slice none 0 0,.bool false,.bool false,.bool false,.int .i64 0,.slice none 0 0,.slice none 0 0,.slice none 0 0] 31):=by
  have z1:s+1=(w.alloc (.cells #[.slice a0 H.regs.length k0,.int .i64 H.pc,.slice a1 H.csr.length k1,.bool H.halted,.bool H.waiting,.bool H.rung,.int .i64 H.done,.slice a2 H.inn.length k2,.slice a3 H.out.length k3] 26)).heap.size:=by rw[←hS];simp
  show Vb _ _ _ _;rw[←hW,z1];exact Vb.new _ _ _
 obtain⟨q0,q1,q2,q3,q4,q5,q6,q7,q8⟩:=zc9 VA.out
 go_enter Tryz.func8,Tryz.ntmps8
 go_wp2_with fail
 clear hW hS q0 q1 q2 q3 q4 q5 q6 q7 q8
 have CALL:=i_stepMany _ _ _ _ H pa pn pc ps ma mn mc zs 1 b W (HM.out.keep B0.out) (HP.out.keep B0.out) HL.out.1 (HZ.out.keep B0.out) HL.out.2 (HT.out.1.keep B0.out) (Nat.lt_of_lt_of_le HT.out.2 B0.out.size)
 rw[HY.out]at CALL
 refine CALL.mono ?_
 clear CALL
 rintro e w6⟨u0,u1,u2,u3,u4,rfl,t6,b6⟩
 obtain⟨xa0,xk0,e0,_⟩:=t6.h.r.shape
 obtain⟨xa1,xk1,e1,_⟩:=t6.h.c.shape
 obtain⟨xa2,xk2,e2,_⟩:=t6.h.i.shape
 obtain⟨xa3,xk3,e3,_⟩:=t6.h.o.shape
 obtain⟨xa4,xk4,e4,_⟩:=t6.mm.shape
 subst e0 e1 e2 e3 e4
 generalize hn0:Y.H.regs.length=m0 at*
 generalize hn1:Y.H.csr.length=m1 at*
 generalize hn2:Y.H.inn.length=m2 at*
 generalize hn3:Y.H.out.length=m3 at*
 generalize hn4:Y.zs.length=m4 at*
 have T7:=hid t6
 have B6:=hid (on B0.out b6)
 have VR6:=hid (VR.out.keep b6)
 have LR:Hid (s+1<W.heap.size):=VR.out.lt
 clear t6 b6 hn0 hn1 hn2 hn3 hn4
 obtain⟨p0,p1,p2,p3,p4,p5,p6,p7,p8,p9,p10,p11,p12⟩:=zc13 VR6.out
 obtain⟨f0,f1,f2,f3,f4,f5,f6,f7,f8,f9,f10,f11,f12⟩:=zf13 VR6.out
 go_wp2_with fail
 obtain⟨V,hzV,NN⟩:=zE13 VR6.out (.int .i64 Y.code) (.int .i64 Y.ca) (.int .i64 Y.ri) (.slice xa0 m0 xk0) (.int .i64 Y.H.pc) (.slice xa1 m1 xk1) (.bool Y.H.halted) (.bool Y.H.waiting) (.bool Y.H.rung) (.int .i64 Y.H.done) (.slice xa2 m2 xk2) (.slice xa3 m3 xk3) (.slice xa4 m4 xk4)
 clear p0 p1 p2 p3 p4 p5 p6 p7 p8 p9 p10 p11 p12 f0 f1 f2 f3 f4 f5 f6 f7 f8 f9 f10 f11 f12
 rw[hzV]
 clear hzV
 have TV:Hid (Tm V w.heap.size (.slice xa0 m0 xk0) (.slice xa1 m1 xk1) (.slice xa2 m2 xk2) (.slice xa3 m3 xk3) (.slice xa4 m4 xk4) Y.H Y.zs):=(T7.out.ho (NN.out.2.ho fun k e=>by have:=LR.out;omega)).mono B0.out.size
 obtain⟨x0,x1,x2,x3,x4,x5,x6,x7,x8,x9,x10,x11,x12⟩:=zc13 NN.out.1
 exact bodyPost_ret (v:=.agg #[.int .i64 Y.code,.int .i64 Y.ca,.int .i64 Y.ri,.slice xa0 m0 xk0,.int .i64 Y.H.pc,.slice xa1 m1 xk1,.bool Y.H.halted,.bool Y.H.waiting,.bool Y.H.rung,.int .i64 Y.H.done,.slice xa2 m2 xk2,.slice xa3 m3 xk3,.slice xa4 m4 xk4]) (by simp[results,Tryz.results8,go_sem,x0,x1,x2,x3,x4,x5,x6,x7,x8,x9,x10,x11,x12]) rfl
  ⟨_,_,_,_,_,rfl,TV.out,Mq.under B6.out NN.out.2 fun k e=>by have:=HS.out;omega⟩
theorem sh_bad(r c i o:Value)(H:Ht)(pa:Option Addr)(pn pc:Nat)(ps:List (Int×Int))(ma:Option Addr)(mn mc:Nat)(zs:List Int)(b:Nat)(w:World)(h:Hm w b r c i o H)(hP:Prs 36 w b (.slice pa pn pc) ps)(hl:ps.length≤1048576)(hM:Nums w b (.slice ma mn mc) zs)(hm:zs.length≤1048576)(hf:¬seenC H ps zs=0):
  Calls Tryz.prog 9 #[.agg #[r,.int .i64 H.pc,c,.bool H.halted,.bool H.waiting,.bool H.rung,.int .i64 H.done,i,o],.slice pa pn pc,.slice ma mn mc] w fun e w'=>∃r' c' i' o' m',e=.returned (.agg #[.int .i64 (smV H ps zs 1).code,.int .i64 (smV H ps zs 1).ca,.int .i64 (smV H ps zs 1).ri,r',.int .i64 (smV H ps zs 1).H.pc,c',.bool (smV H ps zs 1).H.halted,.bool (smV H ps zs 1).H.waiting,.bool (smV H ps zs 1).H.rung,.int .i64 (smV H ps zs 1).H.done,i',o',m'])∧Tr w' w.heap.size r' c' i' o' m' (smV H ps zs 1).H (smV H ps zs 1).zs∧Below w.heap.size w w':=by
 have hv:smV H ps zs 1=⟨seenC H ps zs,0,0,voidH,[]⟩:=if_neg hf
 rw[hv]
 obtain⟨f,hff⟩:∃f,seenC H ps zs=f:=⟨_,rfl⟩
 rw[hff]at hf ⊢
 have HF:=hid hff
 have hf2:(f !=0)=true:=by simpa using hf
 clear hv hff hf
 have HM:=hid h
 have HP:=hid hP
 have HZ:=hid hM
 have HL:Hid (ps.length≤1048576∧zs.length≤1048576):=⟨hl,hm⟩
 obtain⟨a0,k0,rfl,_⟩:=h.r.shape
 obtain⟨a1,k1,rfl,_⟩:=h.c.shape
 obtain⟨a2,k2,rfl,_⟩:=h.i.shape
 obtain⟨a3,k3,rfl,_⟩:=h.o.shape
 clear h hP hl hM hm
 generalize hW:(w.alloc (.cells #[.slice a0 H.regs.length k0,.int .i64 H.pc,.slice a1 H.csr.length k1,.bool H.halted,.bool H.waiting,.bool H.rung,.int .i64 H.done,.slice a2 H.inn.length k2,.slice a3 H.out.length k3] 26)).alloc (.cells #[.int .i64 0,.int .i64 0,.int .i64 0,.slice none 0 0,.int .i64 0,.slice none 0 0,.bool false,.bool false,.bool false,.int .i64 0,.slice none 0 0,.slice none 0 0,.slice none 0 0] 31)=W
 have B0:Hid (Below w.heap.size w W):=by show Below _ _ _;rw[←hW];exact al (al (Below.refl _ _) _) _
 obtain⟨s,hS⟩:∃s,w.heap.size=s:=⟨_,rfl⟩
 have HS:=hid hS
 have VA1:Hid (Vb W s #[.slice a0 H.regs.length k0,.int .i64 H.pc,.slice a1 H.csr.length k1,.bool H.halted,.bool H.waiting,.bool H.rung,.int .i64 H.done,.slice a2 H.inn.length k2,.slice a3 H.out.length k3] 26):=by
  show Vb _ _ _ _;rw[←hW,←hS];exact(Vb.new _ _ _).push _
 have VR1:Hid (Vb W (s+1) #[.int .i64 0,.int .i64 0,.int .i64 0,.slice none 0 0,.int .i64 0,.slice none 0 0,.bool false,.bool false,.bool false,.int .i64 0,.slice none 0 0,.slice none 0 0,.slice none 0 0] 31):=by
  have z1:s+1=(w.alloc (.cells #[.slice a0 H.regs.length k0,.int .i64 H.pc,.slice a1 H.csr.length k1,.bool H.halted,.bool H.waiting,.bool H.rung,.int .i64 H.done,.slice a2 H.inn.length k2,.slice a3 H.out.length k3] 26)).heap.size:=by rw[←hS];simp
  show Vb _ _ _ _;rw[←hW,z1];exact Vb.new _ _ _
 go_enter Tryz.func9,Tryz.ntmps9
 go_wp2_with fail
 clear hW hS
 refine(s_asked s _ _ _ _ H pa pn pc ps ma mn mc zs b W (HM.out.keep B0.out) VA1.out (HP.out.keep B0.out) HL.out.1 (HZ.out.keep B0.out) HL.out.2).mono ?_
 rintro e w1⟨rfl,hw1⟩
 subst hw1
 have M1:Hid (Hm w1 b _ _ _ _ H):=HM.out.keep B0.out
 have P1:=hid (HP.out.keep B0.out)
 have Z1:=hid (HZ.out.keep B0.out)
 have B1:=B0
 clear HM HP HZ B0
 rw[HF.out]
 obtain⟨p0,p1,p2,p3,p4,p5,p6,p7,p8,p9,p10,p11,p12⟩:=zc13 VR1.out
 obtain⟨f0,f1,f2,f3,f4,f5,f6,f7,f8,f9,f10,f11,f12⟩:=zf13 VR1.out
 go_wp2_with fail
 obtain⟨V,hzV,NN⟩:=zE13 VR1.out (.int .i64 f) (.int .i64 0) (.int .i64 0) (.slice none 0 0) (.int .i64 0) (.slice none 0 0) (.bool false) (.bool false) (.bool false) (.int .i64 0) (.slice none 0 0) (.slice none 0 0) (.slice none 0 0)
 clear p0 p1 p2 p3 p4 p5 p6 p7 p8 p9 p10 p11 p12 f0 f1 f2 f3 f4 f5 f6 f7 f8 f9 f10 f11 f12
 rw[hzV]
 clear hzV
 obtain⟨x0,x1,x2,x3,x4,x5,x6,x7,x8,x9,x10,x11,x12⟩:=zc13 NN.out.1
 exact bodyPost_ret (v:=.agg #[.int .i64 f,.int .i64 0,.int .i64 0,.slice none 0 0,.int .i64 0,.slice none 0 0,.bool false,.bool false,.bool false,.int .i64 0,.slice none 0 0,.slice none 0 0,.slice none 0 0]) (by simp[results,Tryz.results9,go_sem,x0,x1,x2,x3,x4,x5,x6,x7,x8,x9,x10,x11,x12]) rfl
  ⟨_,_,_,_,_,rfl,Tr.void _ _,Mq.under B1.out NN.out.2 fun k e=>by have:=HS.out;omega⟩
theorem sh_good(r c i o:Value)(H:Ht)(pa:Option Addr)(pn pc:Nat)(ps:List (Int×Int))(ma:Option Addr)(mn mc:Nat)(zs:List Int)(b:Nat)(w:World)(h:Hm w b r c i o H)(hP:Prs 36 w b (.slice pa pn pc) ps)(hl:ps.length≤1048576)(hM:Nums w b (.slice ma mn mc) zs)(hm:zs.length≤1048576)(hf:seenC H ps zs=0):
  Calls Tryz.prog 9 #[.agg #[r,.int .i64 H.pc,c,.bool H.halted,.bool H.waiting,.bool H.rung,.int .i64 H.done,i,o],.slice pa pn pc,.slice ma mn mc] w fun e w'=>∃r' c' i' o' m',e=.returned (.agg #[.int .i64 (smV H ps zs 1).code,.int .i64 (smV H ps zs 1).ca,.int .i64 (smV H ps zs 1).ri,r',.int .i64 (smV H ps zs 1).H.pc,c',.bool (smV H ps zs 1).H.halted,.bool (smV H ps zs 1).H.waiting,.bool (smV H ps zs 1).H.rung,.int .i64 (smV H ps zs 1).H.done,i',o',m'])∧Tr w' w.heap.size r' c' i' o' m' (smV H ps zs 1).H (smV H ps zs 1).zs∧Below w.heap.size w w':=by
 have hv:smV H ps zs 1=⟨0,(stepV H ps zs (-1) (-1)).2.2.1,(stepV H ps zs (-1) (-1)).2.2.2,(stepV H ps zs (-1) (-1)).1,(stepV H ps zs (-1) (-1)).2.1⟩:=by unfold smV;rw[if_pos hf,if_pos (by decide)];rfl
 rw[hv]
 obtain⟨Y,hY⟩:∃Y,stepV H ps zs (-1) (-1)=Y:=⟨_,rfl⟩
 rw[hY]
 have HY:=hid hY
 have HF:=hid hf
 clear hv hf hY
 have HM:=hid h
 have HP:=hid hP
 have HZ:=hid hM
 have HL:Hid (ps.length≤1048576∧zs.length≤1048576):=⟨hl,hm⟩
 obtain⟨a0,k0,rfl,_⟩:=h.r.shape
 obtain⟨a1,k1,rfl,_⟩:=h.c.shape
 obtain⟨a2,k2,rfl,_⟩:=h.i.shape
 obtain⟨a3,k3,rfl,_⟩:=h.o.shape
 clear h hP hl hM hm
 generalize hW:(w.alloc (.cells #[.slice a0 H.regs.length k0,.int .i64 H.pc,.slice a1 H.csr.length k1,.bool H.halted,.bool H.waiting,.bool H.rung,.int .i64 H.done,.slice a2 H.inn.length k2,.slice a3 H.out.length k3] 26)).alloc (.cells #[.int .i64 0,.int .i64 0,.int .i64 0,.slice none 0 0,.int .i64 0,.slice none 0 0,.bool false,.bool false,.bool false,.int .i64 0,.slice none 0 0,.slice none 0 0,.slice none 0 0] 31)=W
 have B0:Hid (Below w.heap.size w W):=by show Below _ _ _;rw[←hW];exact al (al (Below.refl _ _) _) _
 obtain⟨s,hS⟩:∃s,w.heap.size=s:=⟨_,rfl⟩
 have HS:=hid hS
 have VA1:Hid (Vb W s #[.slice a0 H.regs.length k0,.int .i64 H.pc,.slice a1 H.csr.length k1,.bool H.halted,.bool H.waiting,.bool H.rung,.int .i64 H.done,.slice a2 H.inn.length k2,.slice a3 H.out.length k3] 26):=by
  show Vb _ _ _ _;rw[←hW,←hS];exact(Vb.new _ _ _).push _
 have VR1:Hid (Vb W (s+1) #[.int .i64 0,.int .i64 0,.int .i64 0,.slice none 0 0,.int .i64 0,.slice none 0 0,.bool false,.bool false,.bool false,.int .i64 0,.slice none 0 0,.slice none 0 0,.slice none 0 0] 31):=by
  have z1:s+1=(w.alloc (.cells #[.slice a0 H.regs.length k0,.int .i64 H.pc,.slice a1 H.csr.length k1,.bool H.halted,.bool H.waiting,.bool H.rung,.int .i64 H.done,.slice a2 H.inn.length k2,.slice a3 H.out.length k3] 26)).heap.size:=by rw[←hS];simp
  show Vb _ _ _ _;rw[←hW,z1];exact Vb.new _ _ _
 go_enter Tryz.func9,Tryz.ntmps9
 go_wp2_with fail
 clear hW hS
 refine(s_asked s _ _ _ _ H pa pn pc ps ma mn mc zs b W (HM.out.keep B0.out) VA1.out (HP.out.keep B0.out) HL.out.1 (HZ.out.keep B0.out) HL.out.2).mono ?_
 rintro e w1⟨rfl,hw1⟩
 subst hw1
 have M1:Hid (Hm w1 b _ _ _ _ H):=HM.out.keep B0.out
 have P1:=hid (HP.out.keep B0.out)
 have Z1:=hid (HZ.out.keep B0.out)
 have B1:=B0
 clear HM HP HZ B0
 have hf:=HF.out
 rw[HF.out]
 obtain⟨p,sn⟩:=seen_ok hf
 have SN:=hid sn
 obtain rfl:mn=p*8:=by have:=Z1.out.len;have:=sn.zl;omega
 obtain⟨ga,gc,hv, -, -,hg⟩:=Z1.out.shape
 obtain⟨gm,hg⟩:=hg (by have:=sn.zl;have:=sn.p1;omega)
 simp only[Value.slice.injEq]at hv
 obtain⟨hv1, -, -⟩:=hv
 rw[hg]at hv1
 subst hv1
 clear hg
 obtain⟨pa',pc',hv, -, -,hg⟩:=P1.out.shape
 obtain⟨pg,hg⟩:=hg (by have:=sn.l8;omega)
 simp only[Value.slice.injEq]at hv
 obtain⟨hv1,hv2, -⟩:=hv
 rw[hg]at hv1
 subst hv1
 rw[sn.l8]at hv2
 subst hv2
 clear hg hf sn
 obtain⟨q0,q1,q2,q3,q4,q5,q6,q7,q8⟩:=zc9 VA1.out
 go_upto_region 5 with(go_at_call 27;refine(z_new _ _ _ _ H pg pc ps gm p mc zs b w1 M1.out P1.out Z1.out SN.out).mono ?_;rintro e w2 ⟨B,i2,o2,rfl,hb1,hb2,hb3,r2,b2⟩)
 clear q0 q1 q2 q3 q4 q5 q6 q7 q8
 have HB:Hid (B.ps=ps∧B.p=p∧B.base=w1.heap.size):=⟨hb1,hb2,hb3⟩
 have R2:=hid r2
 have B2:=hid (on B1.out b2)
 have VR2:=hid (VR1.out.keep b2)
 have L1:Hid (s+2≤w1.heap.size∧w.heap.size≤w1.heap.size):=⟨by have:=VR1.out.lt;omega,B1.out.size⟩
 clear hb1 hb2 hb3 r2 b2
 have STEP:=z_step R2.out (by show Sn _ B.ps _ B.p;rw[HB.out.1,HB.out.2.1];exact SN.out)
 have e0:stepV H B.ps zs (-1) (-1)=Y:=by rw[HB.out.1];exact HY.out
 rw[e0]at STEP
 clear e0
 go_upto_region 6 with(go_at_call 28;refine STEP.mono ?_;clear STEP;rintro e w4 ⟨rfl,i4,o4,r4,b4⟩)
 have B5:Hid (Below w.heap.size w w4):=B2.out.trans (bless b4 (by rw[HB.out.2.2];exact L1.out.2))
 have VR5:Hid (Vb w4 (s+1) #[.int .i64 0,.int .i64 0,.int .i64 0,.slice none 0 0,.int .i64 0,.slice none 0 0,.bool false,.bool false,.bool false,.int .i64 0,.slice none 0 0,.slice none 0 0,.slice none 0 0] 31):=by
  show _=_
  rw[b4.block (s+1) (by rw[HB.out.2.2];have:=L1.out.1;omega)]
  exact VR2.out
 obtain⟨xa2,xk2,e2,_⟩:=r4.hi.shape
 obtain⟨bo,_,_,ho,_⟩:=r4.ho
 obtain⟨xa3,xk3,e3,_⟩:=ho.shape
 clear ho
 subst e2 e3
 generalize hn2:Y.1.inn.length=m2 at*
 generalize hn3:Y.1.out.length=m3 at*
 have R5:=hid r4
 clear hn2 hn3 r4 b4 R2 B2 VR2
 have QS:Hid (B.q≠s+1):=by show _≠_;have:=R5.out.qb;rw[HB.out.2.2]at this;have:=L1.out.1;omega
 have HO:Hid (∀k,(Own4 (.slice (some ⟨B.rg,0,none⟩) 16 B.rk) (.slice (some ⟨B.cg,0,none⟩) 11 B.ck) (.slice xa2 m2 xk2) (.slice xa3 m3 xk3) k∨(Value.slice (some ⟨B.gm,0,none⟩) (B.p*8) B.mc).ownBlock=some k)→¬k<B.base):=fun k e=>by
  rcases e with(e|e|e|e)|e
  ·have:=(R5.out.hr.lt k e).1;show ¬_;intro h;exact absurd h (Nat.not_lt.2 this)
  ·have:=(R5.out.hc.lt k e).1;show ¬_;intro h;exact absurd h (Nat.not_lt.2 this)
  ·have:=(R5.out.ib k e).1;show ¬_;intro h;exact absurd h (Nat.not_lt.2 this)
  ·have:=(R5.out.ob k e).1;show ¬_;intro h;exact absurd h (Nat.not_lt.2 this)
  ·have:=(R5.out.hm.lt k e).1;show ¬_;intro h;exact absurd h (Nat.not_lt.2 this)
 have S0:Hid (Vb w4.drew B.q (busC B (.slice xa2 m2 xk2) (.slice xa3 m3 xk3) Y.1 Y.2.2.2 Y.2.2.1) 62∧w4.drew.there (s+1) 0 13):=⟨R5.out.v,VR5.out.there 13 (by decide)⟩
 have T5:Hid (Tr w4.drew w.heap.size (.slice (some ⟨B.rg,0,none⟩) 16 B.rk) (.slice (some ⟨B.cg,0,none⟩) 11 B.ck) (.slice xa2 m2 xk2) (.slice xa3 m3 xk3) (.slice (some ⟨B.gm,0,none⟩) (B.p*8) B.mc) Y.1 Y.2.1):=by
  have R6:=R5.out.dr
  obtain⟨bo,_,_,ho,_⟩:=R6.ho
  refine⟨⟨R6.hr.rv,R6.hc.rv,R6.hi,ho.rv⟩,R6.hm.rv,fun k e=>?_⟩
  rcases e with(e|e|e|e)|e
  ·exact(R6.hr.lt k e).2
  ·exact(R6.hc.lt k e).2
  ·exact(R6.ib k e).2.1
  ·exact(ho.lt k e).2
  ·exact(R6.hm.lt k e).2
 have B6:Hid (Below w.heap.size w w4.drew):=B5.out.drew
 clear R5 B5 VR5
 refine wp_region_held (S:=fun w'=>Vb w' B.q (busC B (.slice xa2 m2 xk2) (.slice xa3 m3 xk3) Y.1 Y.2.2.2 Y.2.2.1) 62∧w'.there (s+1) 0 13) (by kernel_rfl) ?_
 change wpAnyH _ _ _ _ _ _ _ _ (World.drew _)
 generalize w4.drew=x0 at*
 refine wpTd 0 22 (.pointer (some ⟨B.q,0,none⟩)) rfl S0.out ?_
 simp only[Act.put,zT,zZ,zS]
 refine wpTd 1 23 (.pointer (some ⟨B.q,0,none⟩)) rfl S0.out ?_
 simp only[Act.put,zT,zZ,zS]
 refine wpTd 2 24 (.pointer (some ⟨B.q,12,none⟩)) rfl S0.out ?_
 simp only[Act.put,zT,zZ,zS]
 refine wpTe 3 25 (.int .i64 Y.2.2.1) rfl (Or.inl ⟨by rfl,fun w' hs=>by have hc:w'.cell? ⟨B.q,12,none⟩=some (.int .i64 Y.2.2.1):=hs.1.cell 12 rfl;go_simp⟩) S0.out ?_
 simp only[Act.put,zT,zZ,zS]
 refine wpTd 4 26 (.pointer (some ⟨B.q,0,none⟩)) rfl S0.out ?_
 simp only[Act.put,zT,zZ,zS]
 refine wpTd 5 27 (.pointer (some ⟨B.q,0,none⟩)) rfl S0.out ?_
 simp only[Act.put,zT,zZ,zS]
 refine wpTd 6 28 (.pointer (some ⟨B.q,2,none⟩)) rfl S0.out ?_
 simp only[Act.put,zT,zZ,zS]
 refine wpTe 7 29 (.int .i64 Y.2.2.2) rfl (Or.inl ⟨by rfl,fun w' hs=>by have hc:w'.cell? ⟨B.q,2,none⟩=some (.int .i64 Y.2.2.2):=hs.1.cell 2 rfl;go_simp⟩) S0.out ?_
 simp only[Act.put,zT,zZ,zS]
 refine wpTd 8 30 (.pointer (some ⟨B.q,0,none⟩)) rfl S0.out ?_
 simp only[Act.put,zT,zZ,zS]
 refine wpTd 9 31 (.pointer (some ⟨B.q,0,none⟩)) rfl S0.out ?_
 simp only[Act.put,zT,zZ,zS]
 refine wpTd 10 32 (.pointer (some ⟨B.q,3,none⟩)) rfl S0.out ?_
 simp only[Act.put,zT,zZ,zS]
 refine wpTe 11 33 (.agg #[.slice (some ⟨B.rg,0,none⟩) 16 B.rk,.int .i64 Y.1.pc,.slice (some ⟨B.cg,0,none⟩) 11 B.ck,.bool Y.1.halted,.bool Y.1.waiting,.bool Y.1.rung,.int .i64 Y.1.done,.slice xa2 m2 xk2,.slice xa3 m3 xk3]) rfl (Or.inl ⟨by rfl,fun w' hs=>by have h3:w'.cell? ⟨B.q,3,none⟩=some (.slice (some ⟨B.rg,0,none⟩) 16 B.rk):=hs.1.cell 3 rfl;have h4:w'.cell? ⟨B.q,4,none⟩=some (.int .i64 Y.1.pc):=hs.1.cell 4 rfl;have h5:w'.cell? ⟨B.q,5,none⟩=some (.slice (some ⟨B.cg,0,none⟩) 11 B.ck):=hs.1.cell 5 rfl;have h6:w'.cell? ⟨B.q,6,none⟩=some (.bool Y.1.halted):=hs.1.cell 6 rfl;have h7:w'.cell? ⟨B.q,7,none⟩=some (.bool Y.1.waiting):=hs.1.cell 7 rfl;have h8:w'.cell? ⟨B.q,8,none⟩=some (.bool Y.1.rung):=hs.1.cell 8 rfl;have h9:w'.cell? ⟨B.q,9,none⟩=some (.int .i64 Y.1.done):=hs.1.cell 9 rfl;have h10:w'.cell? ⟨B.q,10,none⟩=some (.slice xa2 m2 xk2):=hs.1.cell 10 rfl;have h11:w'.cell? ⟨B.q,11,none⟩=some (.slice xa3 m3 xk3):=hs.1.cell 11 rfl;go_simp⟩) S0.out ?_
 simp only[Act.put,zT,zZ,zS]
 refine wpTd 12 34 (.pointer (some ⟨B.q,0,none⟩)) rfl S0.out ?_
 simp only[Act.put,zT,zZ,zS]
 refine wpTd 13 35 (.pointer (some ⟨B.q,0,none⟩)) rfl S0.out ?_
 simp only[Act.put,zT,zZ,zS]
 refine wpTd 14 36 (.pointer (some ⟨B.q,1,none⟩)) rfl S0.out ?_
 simp only[Act.put,zT,zZ,zS]
 refine wpTe 15 37 (.slice (some ⟨B.gm,0,none⟩) (B.p*8) B.mc) rfl (Or.inl ⟨by rfl,fun w' hs=>by have hc:w'.cell? ⟨B.q,1,none⟩=some (.slice (some ⟨B.gm,0,none⟩) (B.p*8) B.mc):=hs.1.cell 1 rfl;go_simp⟩) S0.out ?_
 simp only[Act.put,zT,zZ,zS]
 refine wpTd 16 38 (.agg #[.int .i64 0,.int .i64 Y.2.2.1,.int .i64 Y.2.2.2,.slice (some ⟨B.rg,0,none⟩) 16 B.rk,.int .i64 Y.1.pc,.slice (some ⟨B.cg,0,none⟩) 11 B.ck,.bool Y.1.halted,.bool Y.1.waiting,.bool Y.1.rung,.int .i64 Y.1.done,.slice xa2 m2 xk2,.slice xa3 m3 xk3,.slice (some ⟨B.gm,0,none⟩) (B.p*8) B.mc]) rfl S0.out ?_
 simp only[Act.put,zT,zZ,zS]
 refine zR 17 rfl fun K hK=>?_
 rw[if_pos (by rfl)]
 refine wp_store_mid 31 (.tmp 6) (.tmp 38) rfl (s+1) 0 #[.int .i64 0,.int .i64 Y.2.2.1,.int .i64 Y.2.2.2,.slice (some ⟨B.rg,0,none⟩) 16 B.rk,.int .i64 Y.1.pc,.slice (some ⟨B.cg,0,none⟩) 11 B.ck,.bool Y.1.halted,.bool Y.1.waiting,.bool Y.1.rung,.int .i64 Y.1.done,.slice xa2 m2 xk2,.slice xa3 m3 xk3,.slice (some ⟨B.gm,0,none⟩) (B.p*8) B.mc] rfl rfl S0.out.2 (by kernel_rfl) (by simp[Value.oneCell']) ?_
 change K (Act.put _ none undef) (World.setCells x0 (s+1) 0 [.int .i64 0,.int .i64 Y.2.2.1,.int .i64 Y.2.2.2,.slice (some ⟨B.rg,0,none⟩) 16 B.rk,.int .i64 Y.1.pc,.slice (some ⟨B.cg,0,none⟩) 11 B.ck,.bool Y.1.halted,.bool Y.1.waiting,.bool Y.1.rung,.int .i64 Y.1.done,.slice xa2 m2 xk2,.slice xa3 m3 xk3,.slice (some ⟨B.gm,0,none⟩) (B.p*8) B.mc])
 simp only[Act.put]
 have M7:Hid (Mq (fun k=>k=s+1) x0 (x0.setCells (s+1) 0 [.int .i64 0,.int .i64 Y.2.2.1,.int .i64 Y.2.2.2,.slice (some ⟨B.rg,0,none⟩) 16 B.rk,.int .i64 Y.1.pc,.slice (some ⟨B.cg,0,none⟩) 11 B.ck,.bool Y.1.halted,.bool Y.1.waiting,.bool Y.1.rung,.int .i64 Y.1.done,.slice xa2 m2 xk2,.slice xa3 m3 xk3,.slice (some ⟨B.gm,0,none⟩) (B.p*8) B.mc])):=mq_cells (s+1) _ x0 0
 have S7:Hid (Vb (x0.setCells (s+1) 0 [.int .i64 0,.int .i64 Y.2.2.1,.int .i64 Y.2.2.2,.slice (some ⟨B.rg,0,none⟩) 16 B.rk,.int .i64 Y.1.pc,.slice (some ⟨B.cg,0,none⟩) 11 B.ck,.bool Y.1.halted,.bool Y.1.waiting,.bool Y.1.rung,.int .i64 Y.1.done,.slice xa2 m2 xk2,.slice xa3 m3 xk3,.slice (some ⟨B.gm,0,none⟩) (B.p*8) B.mc]) B.q (busC B (.slice xa2 m2 xk2) (.slice xa3 m3 xk3) Y.1 Y.2.2.2 Y.2.2.1) 62∧(x0.setCells (s+1) 0 [.int .i64 0,.int .i64 Y.2.2.1,.int .i64 Y.2.2.2,.slice (some ⟨B.rg,0,none⟩) 16 B.rk,.int .i64 Y.1.pc,.slice (some ⟨B.cg,0,none⟩) 11 B.ck,.bool Y.1.halted,.bool Y.1.waiting,.bool Y.1.rung,.int .i64 Y.1.done,.slice xa2 m2 xk2,.slice xa3 m3 xk3,.slice (some ⟨B.gm,0,none⟩) (B.p*8) B.mc]).there (s+1) 0 13):=⟨M7.out.vb S0.out.1 QS.out,World.there_setCells S0.out.2 _ _ _⟩
 have R7:Hid ((x0.setCells (s+1) 0 [.int .i64 0,.int .i64 Y.2.2.1,.int .i64 Y.2.2.2,.slice (some ⟨B.rg,0,none⟩) 16 B.rk,.int .i64 Y.1.pc,.slice (some ⟨B.cg,0,none⟩) 11 B.ck,.bool Y.1.halted,.bool Y.1.waiting,.bool Y.1.rung,.int .i64 Y.1.done,.slice xa2 m2 xk2,.slice xa3 m3 xk3,.slice (some ⟨B.gm,0,none⟩) (B.p*8) B.mc]).rangeAt (s+1) 0 [.int .i64 0,.int .i64 Y.2.2.1,.int .i64 Y.2.2.2,.slice (some ⟨B.rg,0,none⟩) 16 B.rk,.int .i64 Y.1.pc,.slice (some ⟨B.cg,0,none⟩) 11 B.ck,.bool Y.1.halted,.bool Y.1.waiting,.bool Y.1.rung,.int .i64 Y.1.done,.slice xa2 m2 xk2,.slice xa3 m3 xk3,.slice (some ⟨B.gm,0,none⟩) (B.p*8) B.mc]):=World.rangeAt_setCells_same _ _ _ _ S0.out.2
 generalize x0.setCells (s+1) 0 [.int .i64 0,.int .i64 Y.2.2.1,.int .i64 Y.2.2.2,.slice (some ⟨B.rg,0,none⟩) 16 B.rk,.int .i64 Y.1.pc,.slice (some ⟨B.cg,0,none⟩) 11 B.ck,.bool Y.1.halted,.bool Y.1.waiting,.bool Y.1.rung,.int .i64 Y.1.done,.slice xa2 m2 xk2,.slice xa3 m3 xk3,.slice (some ⟨B.gm,0,none⟩) (B.p*8) B.mc]=x7 at*
 refine hK.out _ _ S7.out (fun _=>?_)
 clear hK K
 refine wpAnyH_done (by kernel_rfl) ?_ _
 have B7:Below w.heap.size w x7:=Mq.under B6.out M7.out fun k e=>by have:=HS.out;omega
 have LD:=run_loadVar_mid (P:=Tryz.prog) x7 (s+1) 0 31 [.int .i64 0,.int .i64 Y.2.2.1,.int .i64 Y.2.2.2,.slice (some ⟨B.rg,0,none⟩) 16 B.rk,.int .i64 Y.1.pc,.slice (some ⟨B.cg,0,none⟩) 11 B.ck,.bool Y.1.halted,.bool Y.1.waiting,.bool Y.1.rung,.int .i64 Y.1.done,.slice xa2 m2 xk2,.slice xa3 m3 xk3,.slice (some ⟨B.gm,0,none⟩) (B.p*8) B.mc] _ R7.out Tryz.underlying31 rfl (by kernel_rfl)
 go_wp2_with fail
 exact bodyPost_ret (v:=.agg #[.int .i64 0,.int .i64 Y.2.2.1,.int .i64 Y.2.2.2,.slice (some ⟨B.rg,0,none⟩) 16 B.rk,.int .i64 Y.1.pc,.slice (some ⟨B.cg,0,none⟩) 11 B.ck,.bool Y.1.halted,.bool Y.1.waiting,.bool Y.1.rung,.int .i64 Y.1.done,.slice xa2 m2 xk2,.slice xa3 m3 xk3,.slice (some ⟨B.gm,0,none⟩) (B.p*8) B.mc]) (by simp[results,Tryz.results9,asAddr];rw[LD]) rfl
  ⟨_,_,_,_,_,rfl,T5.out.mq M7.out fun k e f=>HO.out k e (by have:=L1.out.1;have f':k=s+1:=f;rw[HB.out.2.2];omega),B7⟩
theorem s_stepHart(r c i o:Value)(H:Ht)(pa:Option Addr)(pn pc:Nat)(ps:List (Int×Int))(ma:Option Addr)(mn mc:Nat)(zs:List Int)(b:Nat)(w:World)(h:Hm w b r c i o H)(hP:Prs 36 w b (.slice pa pn pc) ps)(hl:ps.length≤1048576)(hM:Nums w b (.slice ma mn mc) zs)(hm:zs.length≤1048576):
  Calls Tryz.prog 9 #[.agg #[r,.int .i64 H.pc,c,.bool H.halted,.bool H.waiting,.bool H.rung,.int .i64 H.done,i,o],.slice pa pn pc,.slice ma mn mc] w fun e w'=>∃r' c' i' o' m',e=.returned (.agg #[.int .i64 (smV H ps zs 1).code,.int .i64 (smV H ps zs 1).ca,.int .i64 (smV H ps zs 1).ri,r',.int .i64 (smV H ps zs 1).H.pc,c',.bool (smV H ps zs 1).H.halted,.bool (smV H ps zs 1).H.waiting,.bool (smV H ps zs 1).H.rung,.int .i64 (smV H ps zs 1).H.done,i',o',m'])∧Tr w' w.heap.size r' c' i' o' m' (smV H ps zs 1).H (smV H ps zs 1).zs∧Below w.heap.size w w':=by
 by_cases hf:seenC H ps zs=0
 ·exact sh_good r c i o H pa pn pc ps ma mn mc zs b w h hP hl hM hm hf
 ·exact sh_bad r c i o H pa pn pc ps ma mn mc zs b w h hP hl hM hm hf
end Go.Proofs.YtaefollmeoepkaaGreatDoor
