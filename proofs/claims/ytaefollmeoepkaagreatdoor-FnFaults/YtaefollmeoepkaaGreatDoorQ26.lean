import Derived.Test.YtaefollmeoepkaaGreatDoorQ25
namespace Go.Proofs.YtaefollmeoepkaaGreatDoor
set_option maxRecDepth 20000
set_option maxHeartbeats 16000000
open Go.RowKit
set_option linter.unusedVariables false
def dueP(H:Ht):Int×Int:=if dueV H<0 then(4,0)else(0,dueV H)
theorem low_nonneg(b:Int):0≤lowV b:=by
 unfold lowV
 split
 ·decide
 ·split<;>decide
theorem i_due(m:Nat)(i o:Value)(H:Ht)(b:Nat)(w:World)(hv:Vb w m (mca H i o) 74)(hi:Nums w b i H.inn)(k:Hok H)(tb:Tab w):
  Calls Tryz.prog 45 #[.pointer (some ⟨m,0,none⟩)] w fun e w'=>e=.returned (.agg #[.int .i64 (dueP H).1,.int .i64 (dueP H).2])∧Below w.heap.size w w':=by
 have K:=hid k
 have HV:=hid hv
 have HI:=hid hi
 have TB:=hid tb
 clear k hv hi tb
 generalize hW:w.alloc (.cells #[.int .i64 0,.int .i64 0] 48)=W
 have B0:Hid (Below w.heap.size w W):=by show Below _ _ _;rw[←hW];exact al (Below.refl _ _) _
 obtain⟨s,hS⟩:∃s,w.heap.size=s:=⟨_,rfl⟩
 have HS:=hid hS
 have VR:Hid (Vb W s #[.int .i64 0,.int .i64 0] 48):=by show Vb _ _ _ _;rw[←hW,←hS];exact Vb.new _ _ _
 have V0:=hid (HV.out.keep B0.out)
 have MI0:=hid (HI.out.keep B0.out)
 go_enter Tryz.func45,Tryz.ntmps45
 go_wp2_with fail
 clear hW hS
 refine(i_wanted _ _ _ H _ _ V0.out MI0.out (all_at K.out.cw 7).1 (all_at K.out.cw 7).2).mono ?_
 rintro e w4⟨rfl,b4⟩
 have B4:=hid (on B0.out b4)
 have V4:=hid (V0.out.keep b4)
 have VR4:=hid (VR.out.keep b4)
 have TB4:=hid (TB.out.keep B4.out)
 obtain⟨z,hz⟩:∃g,gt H.csr 0=g:=⟨_,rfl⟩
 have HZ:=hid hz
 have z0:0≤z:=by rw[←hz];exact(all_at K.out.cw 0).1
 have z9:z≤4294967295:=by rw[←hz];exact(all_at K.out.cw 0).2
 have t2:z.tmod 2=z%2:=Int.tmod_eq_emod_of_nonneg z0
 have c17:w4.cell? ⟨m,17,none⟩=some (.int .i64 z):=by rw[←hz];exact V4.out.cell 17 rfl
 obtain⟨g,hg⟩:∃g,bothV H=g:=⟨_,rfl⟩
 have HG:=hid hg
 have br:=both_range H
 rw[hg]at br ⊢
 have BR:=hid br
 clear hz hg b4 br
 by_cases hev:z%2=0
 ·have HD:Hid (dueV H= -1):=due_even (by rw[HZ.out];exact hev)
  have HE1:Hid ((dueP H).1=4):=by show _=_;simp[dueP,HD.out]
  have HE2:Hid ((dueP H).2=0):=by show _=_;simp[dueP,HD.out]
  obtain⟨p0,p1⟩:=zc2 VR4.out
  obtain⟨f0,f1⟩:=zf2 VR4.out
  go_wp2_with fail
  have NN:Hid (_∧_):=two VR4.out (.int .i64 4) (.int .i64 0)
  clear p0 f0 p1 f1
  generalize ((w4.setCell ⟨s,0,none⟩ (.int .i64 4)).setCell ⟨s,1,none⟩ (.int .i64 0))=V at*
  obtain⟨x0,x1⟩:=zc2 NN.out.1
  exact bodyPost_ret (v:=.agg #[.int .i64 4,.int .i64 0]) (by simp[results,Tryz.results45,go_sem,x0,x1]) rfl
   ⟨by rw[HE1.out,HE2.out],Mq.under B4.out NN.out.2 fun k e=>by have:=HS.out;omega⟩
 have hod:(z%2==0)=false:=by simp[hev]
 by_cases hg0:g=0
 ·have HD:Hid (dueV H= -1):=due_none (HG.out.trans hg0)
  have HE1:Hid ((dueP H).1=4):=by show _=_;simp[dueP,HD.out]
  have HE2:Hid ((dueP H).2=0):=by show _=_;simp[dueP,HD.out]
  subst hg0
  obtain⟨p0,p1⟩:=zc2 VR4.out
  obtain⟨f0,f1⟩:=zf2 VR4.out
  go_wp2_with fail
  have NN:Hid (_∧_):=two VR4.out (.int .i64 4) (.int .i64 0)
  clear p0 f0 p1 f1
  generalize ((w4.setCell ⟨s,0,none⟩ (.int .i64 4)).setCell ⟨s,1,none⟩ (.int .i64 0))=V at*
  obtain⟨x0,x1⟩:=zc2 NN.out.1
  exact bodyPost_ret (v:=.agg #[.int .i64 4,.int .i64 0]) (by simp[results,Tryz.results45,go_sem,x0,x1]) rfl
   ⟨by rw[HE1.out,HE2.out],Mq.under B4.out NN.out.2 fun k e=>by have:=HS.out;omega⟩
 have HD:Hid (dueV H=lowV g):=due_some (by rw[HZ.out];exact hev) HG.out hg0
 have LR:Hid (0≤lowV g):=low_nonneg g
 have HE1:Hid ((dueP H).1=0):=by show _=_;simp only[dueP];rw[HD.out,if_neg (by have:=LR.out;omega)]
 have HE2:Hid ((dueP H).2=lowV g):=by show _=_;simp only[dueP];rw[HD.out,if_neg (by have:=LR.out;omega)]
 have g1:1≤g:=by have:=BR.out;omega
 have g7:g≤7:=BR.out.2
 have G1:=hid g1
 obtain⟨p0,p1⟩:=zc2 VR4.out
 obtain⟨f0,f1⟩:=zf2 VR4.out
 go_wp2_with (go_at_call 90;refine(i_zeros g _ G1.out BR.out.2 TB4.out).mono ?_;rintro e y ⟨rfl,hy⟩;rw[hy];clear hy y)
 have NN:Hid (_∧_):=two VR4.out (.int .i64 0) (.int .i64 (lowV g))
 clear p0 f0 p1 f1
 generalize ((w4.setCell ⟨s,0,none⟩ (.int .i64 0)).setCell ⟨s,1,none⟩ (.int .i64 (lowV g)))=V at*
 obtain⟨x0,x1⟩:=zc2 NN.out.1
 exact bodyPost_ret (v:=.agg #[.int .i64 0,.int .i64 (lowV g)]) (by simp[results,Tryz.results45,go_sem,x0,x1]) rfl
  ⟨by rw[HE1.out,HE2.out],Mq.under B4.out NN.out.2 fun k e=>by have:=HS.out;omega⟩
theorem i_dueOf(r c i o:Value)(H:Ht)(b:Nat)(w:World)(h:Hm w b r c i o H)(tb:Tab w):
  Calls Tryz.prog 20 #[.agg #[r,.int .i64 H.pc,c,.bool H.halted,.bool H.waiting,.bool H.rung,.int .i64 H.done,i,o]] w fun e w'=>e=.returned (.agg #[.int .i64 (dueR H).1,.int .i64 (dueR H).2])∧Below w.heap.size w w':=by
 have HM:=hid h
 have TB:=hid tb
 clear tb
 obtain⟨a0,k0,rfl,_⟩:=h.r.shape
 obtain⟨a1,k1,rfl,_⟩:=h.c.shape
 obtain⟨a2,k2,rfl,_⟩:=h.i.shape
 obtain⟨a3,k3,rfl,_⟩:=h.o.shape
 clear h
 generalize hW:(w.alloc (.cells #[.slice a0 H.regs.length k0,.int .i64 H.pc,.slice a1 H.csr.length k1,.bool H.halted,.bool H.waiting,.bool H.rung,.int .i64 H.done,.slice a2 H.inn.length k2,.slice a3 H.out.length k3] 26)).alloc (.cells #[.int .i64 0,.int .i64 0] 48)=W
 have B0:Hid (Below w.heap.size w W):=by show Below _ _ _;rw[←hW];exact al (al (Below.refl _ _) _) _
 obtain⟨s,hS⟩:∃s,w.heap.size=s:=⟨_,rfl⟩
 have HS:=hid hS
 have VA:Hid (Vb W s #[.slice a0 H.regs.length k0,.int .i64 H.pc,.slice a1 H.csr.length k1,.bool H.halted,.bool H.waiting,.bool H.rung,.int .i64 H.done,.slice a2 H.inn.length k2,.slice a3 H.out.length k3] 26):=by
  show Vb _ _ _ _;rw[←hW,←hS];exact(Vb.new _ _ _).push _
 have VR:Hid (Vb W (s+1) #[.int .i64 0,.int .i64 0] 48):=by
  have z1:s+1=(w.alloc (.cells #[.slice a0 H.regs.length k0,.int .i64 H.pc,.slice a1 H.csr.length k1,.bool H.halted,.bool H.waiting,.bool H.rung,.int .i64 H.done,.slice a2 H.inn.length k2,.slice a3 H.out.length k3] 26)).heap.size:=by rw[←hS];simp
  show Vb _ _ _ _;rw[←hW,z1];exact Vb.new _ _ _
 obtain⟨q0,q1,q2,q3,q4,q5,q6,q7,q8⟩:=zc9 VA.out
 go_enter Tryz.func20,Tryz.ntmps20
 go_wp2_with fail
 clear hW hS q0 q1 q2 q3 q4 q5 q6 q7 q8
 refine(i_fault _ _ _ _ H _ _ (HM.out.keep B0.out)).mono ?_
 rintro e w1⟨rfl,b1⟩
 have B1:=hid (on B0.out b1)
 have VA1:=hid (VA.out.keep b1)
 have VR1:=hid (VR.out.keep b1)
 have M1:Hid (Hm w1 b _ _ _ _ H):=HM.out.keep B1.out
 clear b1 VA VR
 by_cases hf:hfV H=0
 case neg=>
  have HE1:Hid ((dueR H).1=hfV H):=by show _=_;simp only[dueR,if_neg hf]
  have HE2:Hid ((dueR H).2=0):=by show _=_;simp only[dueR,if_neg hf]
  generalize hfV H=f at*
  obtain⟨p0,p1⟩:=zc2 VR1.out
  obtain⟨f0,f1⟩:=zf2 VR1.out
  go_wp2_with fail
  have NN:Hid (_∧_):=two VR1.out (.int .i64 f) (.int .i64 0)
  clear p0 f0 p1 f1
  generalize ((w1.setCell ⟨s+1,0,none⟩ (.int .i64 f)).setCell ⟨s+1,1,none⟩ (.int .i64 0))=V at*
  obtain⟨x0,x1⟩:=zc2 NN.out.1
  exact bodyPost_ret (v:=.agg #[.int .i64 f,.int .i64 0]) (by simp[results,Tryz.results20,go_sem,x0,x1]) rfl
   ⟨by rw[HE1.out,HE2.out],Mq.under B1.out NN.out.2 fun k e=>by have:=HS.out;omega⟩
 have K:Hid (Hok H):=hok_of hf
 have HF:=hid hf
 rw[hf]
 obtain⟨q0,q1,q2,q3,q4,q5,q6,q7,q8⟩:=zc9 VA1.out
 go_wp2_with fail
 clear q0 q1 q2 q3 q4 q5 q6 q7 q8
 refine(i_machine _ _ _ _ H _ _ M1.out K.out.r16 K.out.c11 (by have:=K.out.i40;omega) (by have:=K.out.o40;omega)).mono ?_
 rintro e w2⟨i2,o2,rfl,mi,mo,ap,b2⟩
 obtain⟨xa,xk,rfl,_⟩:=mi.shape
 obtain⟨ya,yk,rfl,_⟩:=mo.shape
 generalize hxn:H.inn.length=xn at*
 generalize hyn:H.out.length=yn at*
 have hst:=mca_store H xa xn xk ya yn yk w2
 have hsz:=mca_size H (.slice xa xn xk) (.slice ya yn yk)
 have MI:=hid mi
 have B2:=hid (on B1.out b2)
 have VR2:=hid (VR1.out.keep b2)
 clear mi mo ap b2 hxn hyn
 go_wp2_with fail
 generalize hW3:w2.alloc (.cells (mca H (.slice xa xn xk) (.slice ya yn yk)) 74)=W3
 obtain⟨m,hm⟩:∃m,w2.heap.size=m:=⟨_,rfl⟩
 rw[hm]
 have V3:Hid (Vb W3 m (mca H (.slice xa xn xk) (.slice ya yn yk)) 74):=by show Vb _ _ _ _;rw[←hW3,←hm];exact Vb.new _ _ _
 have B3:Hid (Below w.heap.size w W3):=by show Below _ _ _;rw[←hW3];exact al B2.out _
 have VR3:Hid (Vb W3 (s+1) #[.int .i64 0,.int .i64 0] 48):=by show Vb _ _ _ _;rw[←hW3];exact VR2.out.push _
 have MI3:Hid (Nums W3 w1.heap.size (.slice xa xn xk) H.inn):=by show Nums _ _ _ _;rw[←hW3];exact MI.out.keep (al (Below.refl _ _) _)
 have TB3:=hid (TB.out.keep B3.out)
 clear hst hsz hW3 hm
 refine(i_due _ _ _ H _ _ V3.out MI3.out K.out TB3.out).mono ?_
 rintro e w4⟨rfl,b4⟩
 have B4:=hid (on B3.out b4)
 have VR4:=hid (VR3.out.keep b4)
 have HE1:Hid ((dueR H).1=(dueP H).1):=by show _=_;simp only[dueR,dueP,if_pos HF.out]
 have HE2:Hid ((dueR H).2=(dueP H).2):=by show _=_;simp only[dueR,dueP,if_pos HF.out]
 generalize (dueP H).1=d1 at*
 generalize (dueP H).2=d2 at*
 obtain⟨p0,p1⟩:=zc2 VR4.out
 obtain⟨f0,f1⟩:=zf2 VR4.out
 go_wp2_with fail
 have NN:Hid (_∧_):=two VR4.out (.int .i64 d1) (.int .i64 d2)
 clear p0 f0 p1 f1
 generalize ((w4.setCell ⟨s+1,0,none⟩ (.int .i64 d1)).setCell ⟨s+1,1,none⟩ (.int .i64 d2))=V at*
 obtain⟨x0,x1⟩:=zc2 NN.out.1
 exact bodyPost_ret (v:=.agg #[.int .i64 d1,.int .i64 d2]) (by simp[results,Tryz.results20,go_sem,x0,x1]) rfl
  ⟨by rw[HE1.out,HE2.out],Mq.under B4.out NN.out.2 fun k e=>by have:=HS.out;omega⟩
end Go.Proofs.YtaefollmeoepkaaGreatDoor
