import Derived.Defers
import Derived.Recover
import Derived.Laws.Pointers
import Derived.Test.YtaefollmeoepkaaGreatDoorQ30
namespace Go.Proofs.YtaefollmeoepkaaGreatDoor
set_option maxRecDepth 20000
set_option maxHeartbeats 16000000
open Go.RowKit
set_option linter.unusedVariables false
theorem Nums.turn7{w w':World}{base b:Nat}{v:Value}{zs:List Int}(h:Nums w base v zs)(t:Turn b w w')(hb:b<base):Nums w' base v zs:=by
 refine h.kept (row:=some b) ⟨t.os,t.tape,t.output,t.size,fun k hk hn=>t.block k hk (fun e=>hn (by rw[e]))⟩ (.inr fun e=>?_)
 have:=(h.lt b e).1
 omega
theorem Turn.grown7{b:Nat}{w0 w w':World}{row:Option Nat}(t:Turn b w0 w)(g:w.grownBy w' row)(hr:∀k,row=some k→w0.heap.size≤k):Turn b w0 w':=
 ⟨g.os.trans t.os,g.tape.trans t.tape,g.output.trans t.output,Nat.le_trans t.size g.size,fun k hk hb=>(g.block k (Nat.lt_of_lt_of_le hk t.size) (fun e=>by have:=hr k e.symm;omega)).trans (t.block k hk hb)⟩
theorem Src.grown7{w w':World}{b k:Nat}{a:Option Addr}{len cap:Nat}{zs:List Int}{row:Option Nat}(s:Src w b k a len cap zs)(g:w.grownBy w' row)(hr:∀k,row=some k→b<k):Src w' b k a len cap zs:=by
 have h:=s.here
 have hne:∀p:Nat,p≤b→some p≠row:=fun p hp e=>by have:=hr p e.symm;omega
 refine⟨cell_grown g s.code (hne b (Nat.le_refl _)),cell_grown g s.count (hne b (Nat.le_refl _)),?_,?_,s.away,Nat.lt_of_lt_of_le h g.size⟩
 ·rw[←s.free]
  exact World.frozen?_of_block (w:=w) (g.block b h (hne b (Nat.le_refl _)))
 ·rcases s.row with h|⟨x,rfl,h1,h2,h3,h4,h5⟩
  ·exact .inl h
  ·refine .inr ⟨x,rfl,h1,h2,h3,fun i hi=>?_,h5⟩
   have hx:=s.away x rfl (by omega)
   exact cell_grown g (h4 i hi) (by rw[src_block];exact hne _ (by omega))
theorem Rn.one7{w:World}{g:Nat}{z:Int}(h:w.cell? ⟨g,0,none⟩=some (.int .i64 z)):Rn w (some ⟨g,0,none⟩) 1 1 [z]:=by
 refine .inr ⟨_,rfl,Nat.le_refl _,by unfold maxLen;decide,rfl,fun i hi=>?_⟩
 obtain rfl:i=0:=by omega
 exact h
variable{w:World}{b k:Nat}{a:Option Addr}{len cap:Nat}{zs:List Int}
theorem image_any(s:Src w b k a len cap zs)(hk:k≤30000)(n:Int)(hn:n≤100)(hn0: -1000≤n):
  Calls Tryz.prog 52 #[.pointer (some ⟨b,0,none⟩),.int .i64 n] w fun e w'=>∃(v:Value) (xs:List Int) (k':Nat),e=.returned v∧Nums w' w.heap.size v xs∧xs.length=n.toNat∧Turn b w w'∧Src w' b k' a len cap zs∧k'≤k+20*n.toNat:=by
 have fv:=field_value
 have HH:Hid (b<w.heap.size):=s.here
 have N0:Hid (Nums (w.alloc (.cells #[] 2)) w.heap.size (.slice (some ⟨w.heap.size,0,none⟩) 0 0) []):=nums_none w _ (Nat.le_refl _)
 have S0:Hid (Src (w.alloc (.cells #[] 2)) b k a len cap zs):=s.alloc _
 have T0:Hid (Turn b w (w.alloc (.cells #[] 2))):=Turn.alloc b w _
 obtain⟨N,hN⟩:∃N:Nat,n.toNat=N:=⟨_,rfl⟩
 have HNN:Hid (n.toNat=N∧n≤100∧k≤30000):=⟨hN,hn,hk⟩
 rw[hN]
 clear s hk
 by_cases hpos:n≤0
 ·have hz:¬0<n:=by omega
  have hN0:N=0:=by omega
  subst hN0
  clear hN
  go_enter Tryz.func52,Tryz.ntmps52
  go_wp2_with fail
  generalize w.alloc (.cells #[] 2)=W at*
  go_loopw [1,5,6] (fun c u _ wr=>c=.int .i64 n∧u=.slice (some ⟨w.heap.size,0,none⟩) 0 0∧wr=W) (fun _ _ _ _=>0)
  case atStart=>exact⟨rfl,rfl,rfl⟩
  case round=>
   obtain⟨rfl,rfl,rfl⟩:=hrel
   go_wp2_with fail
   go_ret
   exact⟨_,_,_,rfl,N0.out,rfl,T0.out,S0.out,by omega⟩
 ·obtain rfl:n=N:=by omega
  clear hN hpos hn hn0
  go_enter Tryz.func52,Tryz.ntmps52
  go_wp2_with fail
  generalize w.alloc (.cells #[] 2)=W at*
  go_loopw [1,5,6] (fun c u _ wr=>∃(j k':Nat) (xs:List Int),j≤N∧c=.int .i64 j∧xs.length+j=N∧k'+20*j≤k+20*N∧Nums wr w.heap.size u xs∧Turn b w wr∧Src wr b k' a len cap zs) (fun c _ _ _=>(intOf c).toNat)
  case atStart=>exact⟨N,k,[],Nat.le_refl _,rfl,by simp,by omega,N0.out,T0.out,S0.out⟩
  case round=>
   obtain⟨j,k',xs,hj,rfl,hxs,hk',hN,hT,hS⟩:=hrel
   have NJ:=hid hN
   have TJ:=hid hT
   have SJ:=hid hS
   have HX:Hid (xs.length+j=N∧k'+20*j≤k+20*N∧j≤N∧N≤100∧k≤30000):=⟨hxs,hk',hj,by have:=HNN.out;omega,by have:=HNN.out;omega⟩
   clear hN hT hS hxs hk' N0 T0 S0
   by_cases hlt:0<j
   ·have hJ:0<(j:Int):=by omega
    have hJ2:(j:Int)≤100:=by have:=HX.out;omega
    have HLT:=hid hlt
    clear hlt hj
    go_wp2_with fail
    refine(ins7_any SJ.out (by have:=HX.out;omega)).mono ?_
    rintro e w1⟨o1,d1,x1,i1,k1,rfl,t1,s1,hk1⟩
    have N1:Hid (Nums w1 w.heap.size u5 xs):=NJ.out.turn7 t1 HH.out
    have T1:Hid (Turn b w w1):=TJ.out.trans t1
    have S1:=hid s1
    have HK1:=hid hk1
    clear t1 s1 hk1 NJ TJ SJ
    go_wp2_with fail
    refine(spec_encode o1 d1 x1 i1 w1).mono ?_
    rintro e w2⟨rfl,b2⟩
    have N2:=hid (N1.out.keep b2)
    have T2:Hid (Turn b w w2):=T1.out.trans (Turn.of_below b2)
    have S2:=hid (S1.out.stay b2)
    clear b2 N1 T1 S1
    generalize encV o1 d1 x1 i1=ev
    go_wp2_with fail
    refine(chance_any S2.out (by have:=HX.out;have:=HK1.out;omega) _).mono ?_
    rintro e w3⟨c3,rfl,t3,s3⟩
    have N3:Hid (Nums w3 w.heap.size u5 xs):=N2.out.turn7 t3 HH.out
    have T3:Hid (Turn b w w3):=T2.out.trans t3
    have S3:=hid s3
    clear t3 s3 N2 T2 S2
    have hend:∀(z:Int) (w4:World) (k4:Nat),Nums w4 w.heap.size u5 xs→Turn b w w4→Src w4 b k4 a len cap zs→k4≤k1+6→True:=fun _ _ _ _ _ _ _=>trivial
    clear hend
    cases c3
    ·go_wp2_with (at_builtin;refine wp_appx _ rfl _ _ rfl w.heap.size u5 _ rfl (N3.out.keep (al (Below.refl _ _) _)) _ 1 1 [ev] rfl (Rn.one7 (cell_new rfl)) (by have:=HX.out;omega) (by have:=T3.out.size;simp;omega) ?_;intro v' w' hN' hG')
     have N4:Hid (Nums w' w.heap.size v' (xs++ [ev])):=hN'
     have T4:Hid (Turn b w w'):=(T3.out.trans (Turn.alloc b _ _)).grown7 hG' (fun q hq=>by have:=(N3.out.lt q hq).1;omega)
     have S4:Hid (Src w' b (k1+1) a len cap zs):=(S3.out.alloc _).grown7 hG' (fun q hq=>by have:=(N3.out.lt q hq).1;have:=HH.out;omega)
     clear hN' hG'
     go_wp2_with fail
     go_roundw
     case rel=>exact⟨j-1,k1+1,xs++ [ev],by have:=HX.out;omega,by have:=HLT.out;rw[show((j-1:Nat):Int)=(j:Int)-1 by omega],by have:=HX.out;have:=HLT.out;simp;omega,by have:=HX.out;have:=HK1.out;have:=HLT.out;omega,N4.out,T4.out,S4.out⟩
     case measure=>have:=HLT.out;show((j:Int)-1).toNat<((j:Int)).toNat;omega
    ·go_wp2_with fail
     refine(word_any S3.out (by have:=HX.out;have:=HK1.out;omega)).mono ?_
     rintro e w4⟨v4,rfl,h4,t4,s4⟩
     have N3b:Hid (Nums w4 w.heap.size u5 xs):=N3.out.turn7 t4 HH.out
     have T3b:Hid (Turn b w w4):=T3.out.trans t4
     have S3b:=hid s4
     clear t4 s4 h4 N3 T3 S3
     go_wp2_with (at_builtin;refine wp_appx _ rfl _ _ rfl w.heap.size u5 _ rfl (N3b.out.keep (al (Below.refl _ _) _)) _ 1 1 [v4] rfl (Rn.one7 (cell_new rfl)) (by have:=HX.out;omega) (by have:=T3b.out.size;simp;omega) ?_;intro v' w' hN' hG')
     have N4:Hid (Nums w' w.heap.size v' (xs++ [v4])):=hN'
     have T4:Hid (Turn b w w'):=(T3b.out.trans (Turn.alloc b _ _)).grown7 hG' (fun q hq=>by have:=(N3b.out.lt q hq).1;omega)
     have S4:Hid (Src w' b (k1+1+5) a len cap zs):=(S3b.out.alloc _).grown7 hG' (fun q hq=>by have:=(N3b.out.lt q hq).1;have:=HH.out;omega)
     clear hN' hG'
     go_wp2_with fail
     go_roundw
     case rel=>exact⟨j-1,k1+1+5,xs++ [v4],by have:=HX.out;omega,by have:=HLT.out;rw[show((j-1:Nat):Int)=(j:Int)-1 by omega],by have:=HX.out;have:=HLT.out;simp;omega,by have:=HX.out;have:=HK1.out;have:=HLT.out;omega,N4.out,T4.out,S4.out⟩
     case measure=>have:=HLT.out;show((j:Int)-1).toNat<((j:Int)).toNat;omega
   ·obtain rfl:j=0:=by omega
    clear hlt hj
    go_wp2_with fail
    go_ret
    exact⟨_,xs,k',rfl,NJ.out,by have:=HX.out;omega,TJ.out,SJ.out,by have:=HX.out;omega⟩
theorem mcr_regs{w:World}{m:Nat}{t:TypeId}{H:Ht}{i o l pg:Value}{ca ri:Int}(h:Vb w m (mcr H i o l pg ca ri) t)(hl:H.regs.length=16):Rn w (some ⟨m,0,none⟩) 16 16 H.regs:=by
 refine .inr ⟨_,rfl,Nat.le_refl _,by decide,hl,fun j hj=>?_⟩
 have e:j=0∨j=1∨j=2∨j=3∨j=4∨j=5∨j=6∨j=7∨j=8∨j=9∨j=10∨j=11∨j=12∨j=13∨j=14∨j=15:=by omega
 rw[Addr.add_mid]
 rcases e with rfl|rfl|rfl|rfl|rfl|rfl|rfl|rfl|rfl|rfl|rfl|rfl|rfl|rfl|rfl|rfl
 ·exact h.cell 0 rfl
 ·exact h.cell 1 rfl
 ·exact h.cell 2 rfl
 ·exact h.cell 3 rfl
 ·exact h.cell 4 rfl
 ·exact h.cell 5 rfl
 ·exact h.cell 6 rfl
 ·exact h.cell 7 rfl
 ·exact h.cell 8 rfl
 ·exact h.cell 9 rfl
 ·exact h.cell 10 rfl
 ·exact h.cell 11 rfl
 ·exact h.cell 12 rfl
 ·exact h.cell 13 rfl
 ·exact h.cell 14 rfl
 ·exact h.cell 15 rfl
theorem mcr_csr{w:World}{m:Nat}{t:TypeId}{H:Ht}{i o l pg:Value}{ca ri:Int}(h:Vb w m (mcr H i o l pg ca ri) t)(hl:H.csr.length=11):Rn w (some ⟨m,17,none⟩) 11 11 H.csr:=by
 refine .inr ⟨_,rfl,Nat.le_refl _,by decide,hl,fun j hj=>?_⟩
 have e:j=0∨j=1∨j=2∨j=3∨j=4∨j=5∨j=6∨j=7∨j=8∨j=9∨j=10:=by omega
 rw[Addr.add_mid]
 rcases e with rfl|rfl|rfl|rfl|rfl|rfl|rfl|rfl|rfl|rfl|rfl
 ·exact h.cell 17 rfl
 ·exact h.cell 18 rfl
 ·exact h.cell 19 rfl
 ·exact h.cell 20 rfl
 ·exact h.cell 21 rfl
 ·exact h.cell 22 rfl
 ·exact h.cell 23 rfl
 ·exact h.cell 24 rfl
 ·exact h.cell 25 rfl
 ·exact h.cell 26 rfl
 ·exact h.cell 27 rfl
theorem r_hartr(m:Nat)(i o l pg:Value)(ca ri:Int)(H:Ht)(w:World)(hv:Vb w m (mcr H i o l pg ca ri) 78)(hi:Rv w i H.inn)(ho:Rv w o H.out)(hr:H.regs.length=16)(hc:H.csr.length=11)(h2:H.inn.length≤1000)(h3:H.out.length≤1000):
  Calls Tryz.prog 78 #[.pointer (some ⟨m,0,none⟩)] w fun e w'=>∃r c i' o',e=.returned (.agg #[r,.int .i64 H.pc,c,.bool H.halted,.bool H.waiting,.bool H.rung,.int .i64 H.done,i',o'])∧Hm w' w.heap.size r c i' o' H∧Ha r c i' o'∧Below w.heap.size w w':=by
 obtain⟨a2,k2,rfl,hi⟩:=hi
 obtain⟨a3,k3,rfl,ho⟩:=ho
 have LN:Hid (H.regs.length=16∧H.csr.length=11∧H.inn.length≤1000∧H.out.length≤1000):=⟨hr,hc,h2,h3⟩
 have HI:Hid (Rn w a2 _ k2 H.inn):=hi
 have HO:Hid (Rn w a3 _ k3 H.out):=ho
 have HV:Hid (Vb w m _ 78):=hv
 clear hr hc h2 h3 hi ho hv
 generalize H.inn.length=n2 at*
 generalize H.out.length=n3 at*
 generalize hW:w.alloc (.cells #[.slice none 0 0,.int .i64 0,.slice none 0 0,.bool false,.bool false,.bool false,.int .i64 0,.slice none 0 0,.slice none 0 0] 26)=W
 have B0:Hid (Below w.heap.size w W):=by show Below _ _ _;rw[←hW];exact al (Below.refl _ _) _
 obtain⟨q,hq⟩:∃q,w.heap.size=q:=⟨_,rfl⟩
 have HQ:=hid hq
 have VR:Hid (Vb W q #[.slice none 0 0,.int .i64 0,.slice none 0 0,.bool false,.bool false,.bool false,.int .i64 0,.slice none 0 0,.slice none 0 0] 26):=by
  show Vb _ _ _ _;rw[←hW,←hq];exact Vb.new _ _ _
 have LT:Hid (q<W.heap.size):=VR.out.lt
 have ML:Hid (m<q):=by show _<_;rw[←hq];exact HV.out.lt
 have S0:Hid (Sj W q W):=⟨Mq.refl _ _,VR.out.there 9 (by decide)⟩
 have VS:Hid (∀w',Sj W q w'→Vb w' m (mcr H (.slice a2 n2 k2) (.slice a3 n3 k3) l pg ca ri) 78):=fun w' hs=>hs.1.vb (HV.out.keep B0.out) (by have:=ML.out;omega)
 have IS:Hid (∀w',Sj W q w'→Rn w' a2 n2 k2 H.inn):=fun w' hs=>HI.out.mq ((Mq.of (below_grown B0.out none) fun k e=>by cases e).trans hs.1) fun x e hl f=>by have:=HQ.out;omega
 have OS:Hid (∀w',Sj W q w'→Rn w' a3 n3 k3 H.out):=fun w' hs=>HO.out.mq ((Mq.of (below_grown B0.out none) fun k e=>by cases e).trans hs.1) fun x e hl f=>by have:=HQ.out;omega
 have q16:∀w',Sj W q w'→w'.cell? ⟨m,16,none⟩=some (.int .i64 H.pc):=fun w' hs=>(VS.out w' hs).cell 16 rfl
 have q28:∀w',Sj W q w'→w'.cell? ⟨m,28,none⟩=some (.bool H.halted):=fun w' hs=>(VS.out w' hs).cell 28 rfl
 have q29:∀w',Sj W q w'→w'.cell? ⟨m,29,none⟩=some (.bool H.waiting):=fun w' hs=>(VS.out w' hs).cell 29 rfl
 have q30:∀w',Sj W q w'→w'.cell? ⟨m,30,none⟩=some (.bool H.rung):=fun w' hs=>(VS.out w' hs).cell 30 rfl
 have q31:∀w',Sj W q w'→w'.cell? ⟨m,31,none⟩=some (.int .i64 H.done):=fun w' hs=>(VS.out w' hs).cell 31 rfl
 have q32:∀w',Sj W q w'→w'.cell? ⟨m,32,none⟩=some (.slice a2 n2 k2):=fun w' hs=>(VS.out w' hs).cell 32 rfl
 have q33:∀w',Sj W q w'→w'.cell? ⟨m,33,none⟩=some (.slice a3 n3 k3):=fun w' hs=>(VS.out w' hs).cell 33 rfl
 go_enter Tryz.func78,Tryz.ntmps78
 go_wp2_with fail
 clear hW hq
 have SD:Hid (Sj W q W.drew):=S0.out.step LT.out (Below.refl _ _).drew
 refine wp_region_held (S:=fun w'=>Sj W q w') (by kernel_rfl) ?_
 change wpAnyH _ _ _ _ _ _ _ _ (World.drew _)
 refine wpTd 0 3 (.pointer (some ⟨m,0,none⟩)) rfl SD.out ?_
 simp only[Act.put,zT,zZ,zS]
 refine wpTd 1 4 (.pointer (some ⟨m,0,none⟩)) rfl SD.out ?_
 simp only[Act.put,zT,zZ,zS]
 refine wpTd 2 5 (.pointer (some ⟨m,0,none⟩)) rfl SD.out ?_
 simp only[Act.put,zT,zZ,zS]
 refine wpTd 3 6 (.pointer (some ⟨m,0,none⟩)) rfl SD.out ?_
 simp only[Act.put,zT,zZ,zS]
 refine wpTd 4 7 (.slice (some ⟨m,0,none⟩) 16 16) rfl SD.out ?_
 simp only[Act.put,zT,zZ,zS]
 refine wpTd 6 9 (.pointer (some ⟨m,0,none⟩)) rfl SD.out ?_
 simp only[Act.put,zT,zZ,zS]
 refine wpTd 7 10 (.pointer (some ⟨m,0,none⟩)) rfl SD.out ?_
 simp only[Act.put,zT,zZ,zS]
 refine wpTd 8 11 (.pointer (some ⟨m,0,none⟩)) rfl SD.out ?_
 simp only[Act.put,zT,zZ,zS]
 refine wpTd 9 12 (.pointer (some ⟨m,16,none⟩)) rfl SD.out ?_
 simp only[Act.put,zT,zZ,zS]
 refine wpTd 10 13 (.int .i64 H.pc) rfl SD.out ?_
 simp only[Act.put,zT,zZ,zS]
 refine wpTd 11 14 (.pointer (some ⟨m,0,none⟩)) rfl SD.out ?_
 simp only[Act.put,zT,zZ,zS]
 refine wpTd 12 15 (.pointer (some ⟨m,0,none⟩)) rfl SD.out ?_
 simp only[Act.put,zT,zZ,zS]
 refine wpTd 13 16 (.pointer (some ⟨m,0,none⟩)) rfl SD.out ?_
 simp only[Act.put,zT,zZ,zS]
 refine wpTd 14 17 (.pointer (some ⟨m,17,none⟩)) rfl SD.out ?_
 simp only[Act.put,zT,zZ,zS]
 refine wpTd 15 18 (.slice (some ⟨m,17,none⟩) 11 11) rfl SD.out ?_
 simp only[Act.put,zT,zZ,zS]
 refine wpTd 17 20 (.pointer (some ⟨m,0,none⟩)) rfl SD.out ?_
 simp only[Act.put,zT,zZ,zS]
 refine wpTd 18 21 (.pointer (some ⟨m,0,none⟩)) rfl SD.out ?_
 simp only[Act.put,zT,zZ,zS]
 refine wpTd 19 22 (.pointer (some ⟨m,28,none⟩)) rfl SD.out ?_
 simp only[Act.put,zT,zZ,zS]
 refine wpTd 20 23 (.bool H.halted) rfl SD.out ?_
 simp only[Act.put,zT,zZ,zS]
 refine wpTd 21 24 (.pointer (some ⟨m,0,none⟩)) rfl SD.out ?_
 simp only[Act.put,zT,zZ,zS]
 refine wpTd 22 25 (.pointer (some ⟨m,0,none⟩)) rfl SD.out ?_
 simp only[Act.put,zT,zZ,zS]
 refine wpTd 23 26 (.pointer (some ⟨m,29,none⟩)) rfl SD.out ?_
 simp only[Act.put,zT,zZ,zS]
 refine wpTd 24 27 (.bool H.waiting) rfl SD.out ?_
 simp only[Act.put,zT,zZ,zS]
 refine wpTd 25 28 (.pointer (some ⟨m,0,none⟩)) rfl SD.out ?_
 simp only[Act.put,zT,zZ,zS]
 refine wpTd 26 29 (.pointer (some ⟨m,0,none⟩)) rfl SD.out ?_
 simp only[Act.put,zT,zZ,zS]
 refine wpTd 27 30 (.pointer (some ⟨m,30,none⟩)) rfl SD.out ?_
 simp only[Act.put,zT,zZ,zS]
 refine wpTd 28 31 (.bool H.rung) rfl SD.out ?_
 simp only[Act.put,zT,zZ,zS]
 refine wpTd 29 32 (.pointer (some ⟨m,0,none⟩)) rfl SD.out ?_
 simp only[Act.put,zT,zZ,zS]
 refine wpTd 30 33 (.pointer (some ⟨m,0,none⟩)) rfl SD.out ?_
 simp only[Act.put,zT,zZ,zS]
 refine wpTd 31 34 (.pointer (some ⟨m,31,none⟩)) rfl SD.out ?_
 simp only[Act.put,zT,zZ,zS]
 refine wpTd 32 35 (.int .i64 H.done) rfl SD.out ?_
 simp only[Act.put,zT,zZ,zS]
 refine wpTd 33 36 (.pointer (some ⟨m,0,none⟩)) rfl SD.out ?_
 simp only[Act.put,zT,zZ,zS]
 refine wpTd 34 37 (.pointer (some ⟨m,0,none⟩)) rfl SD.out ?_
 simp only[Act.put,zT,zZ,zS]
 refine wpTd 35 38 (.pointer (some ⟨m,32,none⟩)) rfl SD.out ?_
 simp only[Act.put,zT,zZ,zS]
 refine wpTd 36 39 (.slice a2 n2 k2) rfl SD.out ?_
 simp only[Act.put,zT,zZ,zS]
 refine wpTd 38 41 (.pointer (some ⟨m,0,none⟩)) rfl SD.out ?_
 simp only[Act.put,zT,zZ,zS]
 refine wpTd 39 42 (.pointer (some ⟨m,0,none⟩)) rfl SD.out ?_
 simp only[Act.put,zT,zZ,zS]
 refine wpTd 40 43 (.pointer (some ⟨m,33,none⟩)) rfl SD.out ?_
 simp only[Act.put,zT,zZ,zS]
 refine wpTd 41 44 (.slice a3 n3 k3) rfl SD.out ?_
 simp only[Act.put,zT,zZ,zS]
 refine zR 5 rfl fun K hK=>?_
 rw[if_pos (by rfl)]
 go_simp
 refine(i_clone (some ⟨m,0,none⟩) 16 16 H.regs _ (mcr_regs (VS.out _ SD.out) LN.out.1) (by decide)).mono ?_
 rintro e w1⟨v1,rfl,m1,b1⟩
 obtain⟨xa1,xk1,rfl,_⟩:=m1.shape
 have S1:Hid (Sj W q w1):=SD.out.step LT.out b1
 have N1:=hid m1
 have G1:Hid (W.drew.heap.size≤w1.heap.size):=b1.size
 clear m1 b1
 refine hK.out _ _ S1.out (fun _=>?_)
 clear hK K
 refine zR 16 rfl fun K hK=>?_
 rw[if_pos (by rfl)]
 go_simp
 refine(i_clone (some ⟨m,17,none⟩) 11 11 H.csr _ (mcr_csr (VS.out _ S1.out) LN.out.2.1) (by decide)).mono ?_
 rintro e w2⟨v2,rfl,m1,b1⟩
 obtain⟨xa2,xk2,rfl,_⟩:=m1.shape
 have S2:Hid (Sj W q w2):=S1.out.step LT.out b1
 have N2:=hid m1
 have G2:Hid (w1.heap.size≤w2.heap.size):=b1.size
 have H2:Hid (Ho W.heap.size w1 w2):=Ho.of b1
 clear m1 b1
 refine hK.out _ _ S2.out (fun _=>?_)
 clear hK K
 refine zR 37 rfl fun K hK=>?_
 rw[if_pos (by rfl)]
 go_simp
 refine(i_clone a2 n2 k2 H.inn _ (IS.out _ S2.out) (by have:=LN.out.2.2.1;omega)).mono ?_
 rintro e w3⟨v3,rfl,m1,b1⟩
 obtain⟨xa3,xk3,rfl,_⟩:=m1.shape
 have S3:Hid (Sj W q w3):=S2.out.step LT.out b1
 have N3:=hid m1
 have G3:Hid (w2.heap.size≤w3.heap.size):=b1.size
 have H3:Hid (Ho W.heap.size w2 w3):=Ho.of b1
 clear m1 b1
 refine hK.out _ _ S3.out (fun _=>?_)
 clear hK K
 refine zR 42 rfl fun K hK=>?_
 rw[if_pos (by rfl)]
 go_simp
 refine(i_clone a3 n3 k3 H.out _ (OS.out _ S3.out) (by have:=LN.out.2.2.2;omega)).mono ?_
 rintro e w4⟨v4,rfl,m1,b1⟩
 obtain⟨xa4,xk4,rfl,_⟩:=m1.shape
 have S4:Hid (Sj W q w4):=S3.out.step LT.out b1
 have N4:=hid m1
 have G4:Hid (w3.heap.size≤w4.heap.size):=b1.size
 have H4:Hid (Ho W.heap.size w3 w4):=Ho.of b1
 clear m1 b1
 refine hK.out _ _ S4.out (fun _=>?_)
 clear hK K
 refine wpTd 43 46 (.agg #[.slice xa1 H.regs.length xk1,.int .i64 H.pc,.slice xa2 H.csr.length xk2,.bool H.halted,.bool H.waiting,.bool H.rung,.int .i64 H.done,.slice xa3 H.inn.length xk3,.slice xa4 H.out.length xk4]) rfl S4.out ?_
 simp only[Act.put,zT,zZ,zS]
 refine zR 44 rfl fun K hK=>?_
 rw[if_pos (by rfl)]
 refine wp_store_mid 26 (.tmp 2) (.tmp 46) rfl q 0 #[.slice xa1 H.regs.length xk1,.int .i64 H.pc,.slice xa2 H.csr.length xk2,.bool H.halted,.bool H.waiting,.bool H.rung,.int .i64 H.done,.slice xa3 H.inn.length xk3,.slice xa4 H.out.length xk4] rfl rfl S4.out.2 (by kernel_rfl) (by simp[Value.oneCell']) ?_
 change K (Act.put _ none undef) (World.setCells w4 q 0 [.slice xa1 H.regs.length xk1,.int .i64 H.pc,.slice xa2 H.csr.length xk2,.bool H.halted,.bool H.waiting,.bool H.rung,.int .i64 H.done,.slice xa3 H.inn.length xk3,.slice xa4 H.out.length xk4])
 simp only[Act.put]
 have S5:Hid (Sj W q (w4.setCells q 0 [.slice xa1 H.regs.length xk1,.int .i64 H.pc,.slice xa2 H.csr.length xk2,.bool H.halted,.bool H.waiting,.bool H.rung,.int .i64 H.done,.slice xa3 H.inn.length xk3,.slice xa4 H.out.length xk4])):=S4.out.set _
 have R5:Hid ((w4.setCells q 0 [.slice xa1 H.regs.length xk1,.int .i64 H.pc,.slice xa2 H.csr.length xk2,.bool H.halted,.bool H.waiting,.bool H.rung,.int .i64 H.done,.slice xa3 H.inn.length xk3,.slice xa4 H.out.length xk4]).rangeAt q 0 [.slice xa1 H.regs.length xk1,.int .i64 H.pc,.slice xa2 H.csr.length xk2,.bool H.halted,.bool H.waiting,.bool H.rung,.int .i64 H.done,.slice xa3 H.inn.length xk3,.slice xa4 H.out.length xk4]):=World.rangeAt_setCells_same _ _ _ _ S4.out.2
 have H5:Hid (Ho W.heap.size w4 (w4.setCells q 0 [.slice xa1 H.regs.length xk1,.int .i64 H.pc,.slice xa2 H.csr.length xk2,.bool H.halted,.bool H.waiting,.bool H.rung,.int .i64 H.done,.slice xa3 H.inn.length xk3,.slice xa4 H.out.length xk4])):=(mq_cells q _ w4 0).ho fun k e=>by have:=LT.out;omega
 generalize w4.setCells q 0 [.slice xa1 H.regs.length xk1,.int .i64 H.pc,.slice xa2 H.csr.length xk2,.bool H.halted,.bool H.waiting,.bool H.rung,.int .i64 H.done,.slice xa3 H.inn.length xk3,.slice xa4 H.out.length xk4]=w5 at*
 refine hK.out _ _ S5.out (fun _=>?_)
 clear hK K
 refine wpAnyH_done (by kernel_rfl) ?_ _
 have E1:W.heap.size≤w1.heap.size:=S1.out.1.size
 have E2:W.heap.size≤w2.heap.size:=S2.out.1.size
 have E3:W.heap.size≤w3.heap.size:=S3.out.1.size
 have Q1:Nums w5 W.heap.size (.slice xa1 H.regs.length xk1) H.regs:=Nums.ho (show Nums w1 W.heap.size _ H.regs from N1.out) (H2.out.trans (H3.out.trans (H4.out.trans H5.out)))
 have Q2:Nums w5 W.heap.size (.slice xa2 H.csr.length xk2) H.csr:=(N2.out.mono E1).ho (H3.out.trans (H4.out.trans H5.out))
 have Q3:Nums w5 W.heap.size (.slice xa3 H.inn.length xk3) H.inn:=(N3.out.mono E2).ho (H4.out.trans H5.out)
 have Q4:Nums w5 W.heap.size (.slice xa4 H.out.length xk4) H.out:=(N4.out.mono E3).ho H5.out
 have A12:=N1.out.apt N2.out (Nat.le_refl _)
 have A13:=N1.out.apt N3.out G2.out
 have A14:=N1.out.apt N4.out (Nat.le_trans G2.out G3.out)
 have A23:=N2.out.apt N3.out (Nat.le_refl _)
 have A24:=N2.out.apt N4.out G3.out
 have A34:=N3.out.apt N4.out (Nat.le_refl _)
 have B5:Below w.heap.size w w5:=Mq.under B0.out S5.out.1 fun k e=>by have:=HQ.out;omega
 have LD:=run_loadVar_mid (P:=Tryz.prog) w5 q 0 26 [.slice xa1 H.regs.length xk1,.int .i64 H.pc,.slice xa2 H.csr.length xk2,.bool H.halted,.bool H.waiting,.bool H.rung,.int .i64 H.done,.slice xa3 H.inn.length xk3,.slice xa4 H.out.length xk4] _ R5.out Tryz.underlying26 rfl (by kernel_rfl)
 clear q16 q28 q29 q30 q31 q32 q33
 go_wp2_with fail
 exact bodyPost_ret (v:=.agg #[.slice xa1 H.regs.length xk1,.int .i64 H.pc,.slice xa2 H.csr.length xk2,.bool H.halted,.bool H.waiting,.bool H.rung,.int .i64 H.done,.slice xa3 H.inn.length xk3,.slice xa4 H.out.length xk4]) (by simp[results,Tryz.results78,asAddr];rw[LD]) rfl
  ⟨_,_,_,_,rfl,⟨Q1.mono B0.out.size,Q2.mono B0.out.size,Q3.mono B0.out.size,Q4.mono B0.out.size⟩,⟨A12,A13,A14,A23,A24,A34⟩,B5⟩
theorem src_put(s:Src w b k a len cap zs)(p:Addr)(u:Value)(hp:b<p.block):Src (w.setCell p u) b k a len cap zs:=by
 have g:=grown_set w p u
 have hn:∀x,x≤b→some x≠some p.block:=fun x hx e=>by have:=Option.some.inj e;omega
 have hh:=s.here
 refine⟨cell_grown g s.code (hn b (Nat.le_refl _)),cell_grown g s.count (hn b (Nat.le_refl _)),?_,?_,s.away,Nat.lt_of_lt_of_le hh g.size⟩
 ·rw[World.frozen?_of_block (w:=w) (g.block b hh (hn b (Nat.le_refl _)))];exact s.free
 ·rcases s.row with h0|⟨x,rfl,h1,h2,h3,h4,h5⟩
  ·exact .inl h0
  ·refine .inr ⟨x,rfl,h1,h2,h3,fun i hi=>cell_grown g (h4 i hi) ?_,h5⟩
   have hx:=s.away x rfl (by omega)
   rw[src_block]
   exact hn _ (by omega)
theorem turn_put{b:Nat}{a w:World}(t:Turn b a w)(p:Addr)(u:Value)(hp:a.heap.size≤p.block):Turn b a (w.setCell p u):=
 ⟨t.os,t.tape,t.output,by have:=t.size;simpa [World.setCell]using this,fun k hk hn=>by rw[heap_setCell_other w p k u (by omega)];exact t.block k hk hn⟩
theorem turn_mq{b:Nat}{w w':World}(t:Turn b w w'):Mq (fun k=>k=b) w w':=⟨t.os,t.tape,t.output,t.size,fun k hk hn=>t.block k hk hn⟩
structure Dh(w0 v:World)(b k:Nat)(a:Option Addr)(len cap:Nat)(zs:List Int)(R q:Nat)(r c i o:Value)(H:Ht):Prop where
 src:Src v b k a len cap zs
 m:Hm v (R+1) r c i o H
 ap:Ha r c i o
 var:Vb v q #[r,.int .i64 H.pc,c,.bool H.halted,.bool H.waiting,.bool H.rung,.int .i64 H.done,i,o] 26
 res:Vb v R #[.slice none 0 0,.int .i64 0,.slice none 0 0,.bool false,.bool false,.bool false,.int .i64 0,.slice none 0 0,.slice none 0 0] 26
 g:Turn b w0 v
 nq:∀x,Own4 r c i o x→x≠q
 hb:b<R
 hq:R<q
 hR:w0.heap.size≤R
 r16:H.regs.length=16
 c11:H.csr.length=11
theorem Dh.turn{w0 v v':World}{b k k':Nat}{a:Option Addr}{len cap:Nat}{zs:List Int}{R q:Nat}{r c i o:Value}{H:Ht}(h:Dh w0 v b k a len cap zs R q r c i o H)(t:Turn b v v')(s:Src v' b k' a len cap zs):Dh w0 v' b k' a len cap zs R q r c i o H:=
 ⟨s,(turn_mq t).hm h.m (fun x e f=>by have:=(h.m.own x e).1;have:=h.hb;omega),h.ap,(turn_mq t).vb h.var (fun e=>by have:=h.hb;have:=h.hq;omega),(turn_mq t).vb h.res (fun e=>by have:=h.hb;omega),h.g.trans t,h.nq,h.hb,h.hq,h.hR,h.r16,h.c11⟩
theorem Dh.fld{w0 v:World}{b k:Nat}{a:Option Addr}{len cap:Nat}{zs:List Int}{R q:Nat}{r c i o:Value}{H:Ht}(h:Dh w0 v b k a len cap zs R q r c i o H)(j:Nat)(u:Value)(H':Ht)
  (hr:H'.regs=H.regs) (hc:H'.csr=H.csr) (hi:H'.inn=H.inn) (ho:H'.out=H.out) (hv:Vb (v.setCell ⟨q,j,none⟩ u) q #[r,.int .i64 H'.pc,c,.bool H'.halted,.bool H'.waiting,.bool H'.rung,.int .i64 H'.done,i,o] 26):Dh w0 (v.setCell ⟨q,j,none⟩ u) b k a len cap zs R q r c i o H':=by
 have hb:=h.hb;have hq:=h.hq;have hR:=h.hR
 refine⟨src_put h.src _ _ (by show b<q;omega),⟨?_,?_,?_,?_⟩,h.ap,hv,h.res.put _ _ (by show R≠q;omega),turn_put h.g _ _ (by show w0.heap.size≤q;omega),h.nq,h.hb,h.hq,h.hR,by rw[hr];exact h.r16,by rw[hc];exact h.c11⟩
 ·rw[hr];exact h.m.r.put _ _ (fun e=>h.nq q (.inl e) rfl)
 ·rw[hc];exact h.m.c.put _ _ (fun e=>h.nq q (.inr (.inl e)) rfl)
 ·rw[hi];exact h.m.i.put _ _ (fun e=>h.nq q (.inr (.inr (.inl e))) rfl)
 ·rw[ho];exact h.m.o.put _ _ (fun e=>h.nq q (.inr (.inr (.inr e))) rfl)
theorem Dh.reg{w0 v:World}{b k:Nat}{a:Option Addr}{len cap:Nat}{zs:List Int}{R q y kr:Nat}{c i o:Value}{H:Ht}(h:Dh w0 v b k a len cap zs R q (.slice (some ⟨y,0,none⟩) 16 kr) c i o H)(n:Nat)(u:Int):
  Dh w0 (v.setCell ⟨y,n,none⟩ (.int .i64 u)) b k a len cap zs R q (.slice (some ⟨y,0,none⟩) 16 kr) c i o { H with regs:=H.regs.set n u}:=by
 have hy:=(h.m.r.lt y rfl).1
 have hb:=h.hb;have hR:=h.hR
 exact⟨src_put h.src _ _ (by show b<y;omega),⟨(h.m.r.store n u).1,h.m.c.put _ _ (apt_ne h.ap.rc rfl),h.m.i.put _ _ (apt_ne h.ap.ri rfl),h.m.o.put _ _ (apt_ne h.ap.ro rfl)⟩,h.ap,h.var.put _ _ (fun e=>h.nq y (.inl rfl) e.symm),h.res.put _ _ (by show R≠y;omega),turn_put h.g _ _ (by show w0.heap.size≤y;omega),h.nq,h.hb,h.hq,h.hR,by simpa using h.r16,h.c11⟩
theorem Dh.sv{w0 v v':World}{b k:Nat}{a:Option Addr}{len cap:Nat}{zs:List Int}{R q:Nat}{r c i o:Value}{H H':Ht}(h:Dh w0 v b k a len cap zs R q r c i o H)(s:Sv v v' (R+1) q r c i o H')(h1:H'.regs.length=16)(h2:H'.csr.length=11):Dh w0 v' b k a len cap zs R q r c i o H':=by
 have hb:=h.hb;have hq:=h.hq;have hR:=h.hR
 have no:∀x,x≤R→¬(x=q∨c.ownBlock=some x):=fun x hx e=>by
  rcases e with e|e
  ·omega
  ·have:=(h.m.c.lt x e).1;omega
 refine⟨?_,s.m,h.ap,s.v,s.g.vb h.res (no R (Nat.le_refl _)),⟨s.g.os.trans h.g.os,s.g.tape.trans h.g.tape,s.g.output.trans h.g.output,Nat.le_trans h.g.size s.g.size,fun x hx hn=>(s.g.block x (Nat.lt_of_lt_of_le hx h.g.size) (no x (by omega))).trans (h.g.block x hx hn)⟩,h.nq,h.hb,h.hq,h.hR,h1,h2⟩
 have hh:=h.src.here
 have hbk:∀x,x≤b→x<v.heap.size→v'.heap[x]? =v.heap[x]? :=fun x hx hl=>s.g.block x hl (no x (by omega))
 have hcell:∀(p:Addr) (u:Value),p.block≤b→v.cell? p=some u→v'.cell? p=some u:=fun p u hp hu=>by
  have hl:=block_of_cell hu
  unfold World.cell? at*
  rw[hbk _ hp hl]
  exact hu
 refine⟨hcell _ _ (Nat.le_refl _) h.src.code,hcell _ _ (Nat.le_refl _) h.src.count,?_,?_,h.src.away,Nat.lt_of_lt_of_le hh s.g.size⟩
 ·rw[World.frozen?_of_block (w:=v) (hbk b (Nat.le_refl _) hh)];exact h.src.free
 ·rcases h.src.row with h0|⟨x,rfl,q1,q2,q3,q4,q5⟩
  ·exact .inl h0
  ·refine .inr ⟨x,rfl,q1,q2,q3,fun j hj=>hcell _ _ ?_ (q4 j hj),q5⟩
   have hx:=h.src.away x rfl (by omega)
   rw[src_block]
   omega
theorem field_hart(x0 x1 x2 x3 x4 x5 x6 x7 x8 x9:Value)(w:World):(Instr.field 178 (.agg #[x0,x1,x2,x3,x4,x5,x6,x7,x8,x9]) 1).run Tryz.prog w=.ok (.agg #[x1,x2,x3,x4,x5,x6,x7,x8,x9]) w:=by kernel_rfl
theorem newR_small{zs:List Int}(h:zs.length≤40)(hw:zs.all isW=true):newR zs=(0,newV zs):=by
 unfold newR
 rw[if_neg (by omega),hw]
 rfl
theorem to_S{P:Program}{fn:Func}{R:Ending→World→Prop}{R':Ending→FrameMode→World→Prop}{c₀:Frame}{cs cs':List Frame}{u:FrameMode}(hc:cs'={ c₀ with mode:=u}::cs)(hR:∀e w,R e w→R' e u w)(e:Exit)(a:Act)(w:World)(h:bodyPost P fn R e a w):bodyPostS P fn c₀ cs R' e a cs' w:=by
 cases e with
 |normal=>obtain⟨h1,v,h2,h3⟩:=h;exact⟨h1,u,hc,v,h2,hR _ _ h3⟩
 |ret=>obtain⟨h1,v,h2,h3⟩:=h;exact⟨h1,u,hc,v,h2,hR _ _ h3⟩
 |panic ch=>obtain⟨h1,h3⟩:=h;exact⟨h1,u,hc,hR _ _ h3⟩
 |outgrown=>exact⟨u,hR _ _ h⟩
 |exit id=>exact h
 |goto l=>exact h
theorem c_idle(b:Nat)(w:World):CallsD Tryz.prog 71 #[.pointer (some ⟨b,0,none⟩)] .returning w fun e u' w'=>e=.returned (.tuple #[])∧u'=.returning∧w'=w:=by
 have hn:∀w,(binOp .eql 20 .nilIface .nilIface).run Tryz.prog w=.ok (.bool true) w:=fun w=>by kernel_rfl
 refine callsD_of_wpS Tryz.func71 rfl fun c₀ cs hu=>?_
 apply wpS_seq
 generalize hC:Code.block 0 _=C
 apply wpS_region
 simp[wpOpsS,go_sem,recoverD,hu,Tryz.ntmps71,Exit.thenS]
 rw[←hC]
 clear hC
 refine wpS_of_wp (Code.wp_mono (to_S (R:=fun e w'=>e=.returned (.tuple #[])∧w'=w) (u:=.returning) (by rw[←hu]) (fun e w h=>⟨h.1,rfl,h.2⟩)) ?_)
 clear hu
 have hT:(#[Value.pointer (some ⟨b,0,none⟩)]++(Array.replicate 22 undef).setIfInBounds 3 (.nilIface))=#[.pointer (some ⟨b,0,none⟩),undef,undef,undef,.nilIface,undef,undef,undef,undef,undef,undef,undef,undef,undef,undef,undef,undef,undef,undef,undef,undef,undef,undef]:=by simp[Array.replicate]
 rw[hT]
 clear hT
 go_wp2_with fail
 go_end0
 exact⟨rfl,rfl⟩
theorem mq_cell{S:Nat→Prop}{w w':World}{k j:Nat}{v:Value}(m:Mq S w w')(h:w.cell? ⟨k,j,none⟩=some v)(hn:¬S k):w'.cell? ⟨k,j,none⟩=some v:=by
 have hk:=block_of_cell h
 unfold World.cell? at h ⊢
 rw[m.block k hk hn]
 exact h
theorem c_panic{w:World}{base q:Nat}{i o:Value}{pg pc:Nat}{ps:List (Int×Int)}{g p:Nat}{zs:List Int}{X:Nat→Prop}{H:Ht}{ca ri:Int}(R:Rw w base q i o pg pc ps g p zs H ca ri X)(b:Nat)(hb:w.cell? ⟨b,0,none⟩=some (.pointer (some ⟨q,0,none⟩)))(hbq:b≠q)(c t:Int)(h0:0≤c)(h31:c≤31)(ht:isW t=true):
  CallsD Tryz.prog 71 #[.pointer (some ⟨b,0,none⟩)] (.panicking [{ v:=.iface 116 (.agg #[.int .i64 c,.int .i64 t]),recovered:=false}]) w fun e u' w'=>e=.returned (.tuple #[])∧u'=.panicking [{ v:=.iface 116 (.agg #[.int .i64 c,.int .i64 t]),recovered:=true}]∧Rw w' base q i o pg pc ps g p zs (trapV H c t) c ri X∧Below base w w':=by
 have hn:∀w,(binOp .eql 20 (.iface 116 (.agg #[.int .i64 c,.int .i64 t])) .nilIface).run Tryz.prog w=.ok (.bool false) w:=fun w=>by kernel_rfl
 have ha:∀w,(Instr.typeAssert (.iface 116 (.agg #[.int .i64 c,.int .i64 t])) 20 116 true).run Tryz.prog w=.ok (.tuple #[.agg #[.int .i64 c,.int .i64 t],.bool true]) w:=fun w=>by kernel_rfl
 have HR:=hid R
 have HT:Hid (0≤c∧c≤31∧isW t=true):=⟨h0,h31,ht⟩
 have HB:Hid (w.cell? ⟨b,0,none⟩=some (.pointer (some ⟨q,0,none⟩))∧b≠q):=⟨hb,hbq⟩
 clear R h0 h31 ht hb hbq
 refine callsD_of_wpS Tryz.func71 rfl fun c₀ cs hu=>?_
 apply wpS_seq
 generalize hC:Code.block 0 _=C
 apply wpS_region
 simp[wpOpsS,go_sem,recoverD,hu,Tryz.ntmps71,Exit.thenS]
 rw[←hC]
 clear hC
 refine wpS_of_wp (Code.wp_mono (to_S (R:=fun e w'=>e=.returned (.tuple #[])∧Rw w' base q i o pg pc ps g p zs (trapV H c t) c ri X∧Below base w w') (u:=.panicking [{ v:=.iface 116 (.agg #[.int .i64 c,.int .i64 t]),recovered:=true}]) rfl (fun e w h=>⟨h.1,rfl,h.2⟩)) ?_)
 clear hu
 have hT:(#[Value.pointer (some ⟨b,0,none⟩)]++(Array.replicate 22 undef).setIfInBounds 3 (.iface 116 (.agg #[.int .i64 c,.int .i64 t])))=#[.pointer (some ⟨b,0,none⟩),undef,undef,undef,.iface 116 (.agg #[.int .i64 c,.int .i64 t]),undef,undef,undef,undef,undef,undef,undef,undef,undef,undef,undef,undef,undef,undef,undef,undef,undef,undef]:=by simp[Array.replicate]
 rw[hT]
 clear hT
 go_upto_region 7 with fail
 clear hn ha
 generalize hW:w.alloc (.cells #[.int .i64 c,.int .i64 t] 116)=W1
 obtain⟨n,hn⟩:∃n,w.heap.size=n:=⟨_,rfl⟩
 rw[hn]
 have VN:Hid (Vb W1 n #[.int .i64 c,.int .i64 t] 116):=by show Vb _ _ _ _;rw[←hW,←hn];exact Vb.new _ _ _
 have bb:Below w.heap.size w W1:=by rw[←hW];exact al (Below.refl _ _) _
 have R1:=hid (HR.out.keep bb)
 have B1:Hid (Below base w W1):=bless bb HR.out.size
 have CB:Hid (W1.cell? ⟨b,0,none⟩=some (.pointer (some ⟨q,0,none⟩))):=cell_keep bb HB.out.1
 have NQ:Hid (n≠q∧n≠b):=⟨by have:=HR.out.v.lt;omega,by have h2:b<w.heap.size:=block_of_cell HB.out.1;omega⟩
 clear hW hn bb
 have S0:Hid (Vb W1.drew n #[.int .i64 c,.int .i64 t] 116∧W1.drew.cell? ⟨b,0,none⟩=some (.pointer (some ⟨q,0,none⟩))):=⟨VN.out,CB.out⟩
 have R0:Hid (Rw W1.drew base q i o pg pc ps g p zs H ca ri X):=R1.out.keep (Below.refl _ _).drew
 have B0:Hid (Below base w W1.drew):=B1.out.drew
 refine wp_region_held (S:=fun w'=>Vb w' n #[.int .i64 c,.int .i64 t] 116∧w'.cell? ⟨b,0,none⟩=some (.pointer (some ⟨q,0,none⟩))) (by kernel_rfl) ?_
 change wpAnyH _ _ _ _ _ _ _ _ (World.drew _)
 generalize W1.drew=x0 at*
 refine wpTe 0 10 (.pointer (some ⟨q,0,none⟩)) rfl (Or.inl ⟨by rfl,fun w' hs=>by have hc:=hs.2;go_simp⟩) S0.out ?_
 simp only[Act.put,zT,zZ,zS]
 refine wpTd 1 11 (.pointer (some ⟨q,0,none⟩)) rfl S0.out ?_
 simp only[Act.put,zT,zZ,zS]
 refine wpTd 2 12 (.pointer (some ⟨q,0,none⟩)) rfl S0.out ?_
 simp only[Act.put,zT,zZ,zS]
 refine wpTd 3 13 (.pointer (some ⟨n,0,none⟩)) rfl S0.out ?_
 simp only[Act.put,zT,zZ,zS]
 refine wpTe 4 14 (.int .i64 c) rfl (Or.inl ⟨by rfl,fun w' hs=>by have hc:=(hs.1.cell 0 rfl:w'.cell? ⟨n,0,none⟩=some (.int .i64 c));go_simp⟩) S0.out ?_
 simp only[Act.put,zT,zZ,zS]
 refine wpTd 5 15 (.pointer (some ⟨n,1,none⟩)) rfl S0.out ?_
 simp only[Act.put,zT,zZ,zS]
 refine wpTe 6 16 (.int .i64 t) rfl (Or.inl ⟨by rfl,fun w' hs=>by have hc:=(hs.1.cell 1 rfl:w'.cell? ⟨n,1,none⟩=some (.int .i64 t));go_simp⟩) S0.out ?_
 simp only[Act.put,zT,zZ,zS]
 refine zR 7 rfl fun K hK=>?_
 rw[if_pos (by rfl)]
 go_simp
 have s:=stand_parts.1 HR.out.sn.hok.st
 refine(r_trap q i o _ _ ca ri H c t x0 R0.out.v HR.out.sn.hok.c11 (all_at HR.out.sn.hok.cw 0).1 s.1).mono ?_
 clear s
 rintro e x1⟨rfl,v2,m2⟩
 have U:Hid (Rw x1 base q i o pg pc ps g p zs (trapV H c t) ca ri X∧Below base x0 x1):=R0.out.upd v2 m2 rfl rfl (trapV_hok HR.out.sn.hok c t HT.out.1 HT.out.2.1 HT.out.2.2)
 have S1:Hid (Vb x1 n #[.int .i64 c,.int .i64 t] 116∧x1.cell? ⟨b,0,none⟩=some (.pointer (some ⟨q,0,none⟩))):=⟨m2.vb S0.out.1 fun e=>NQ.out.1 e,mq_cell m2 S0.out.2 HB.out.2⟩
 clear v2 m2
 refine hK.out _ _ S1.out (fun _=>?_)
 clear hK K
 refine wpAnyH_done (by kernel_rfl) ?_ _
 have c36:=U.out.1.v.cell 36 rfl
 have f36:=U.out.1.v.free 36
 have n0:=S1.out.1.cell 0 rfl
 have cb:=S1.out.2
 have V2:=U.out.1.v.set 36 (.int .i64 c)
 have U2:Hid (Rw (x1.setCell ⟨q,36,none⟩ (.int .i64 c)) base q i o pg pc ps g p zs (trapV H c t) c ri X∧Below base x1 (x1.setCell ⟨q,36,none⟩ (.int .i64 c))):=U.out.1.upd (G:=trapV H c t) (ca':=c) (ri':=ri) V2 ((Mq.refl _ _).set ⟨q,36,none⟩ _ rfl) rfl rfl U.out.1.sn.hok
 clear V2
 go_wp2_with fail
 go_end0
 exact⟨rfl,U2.out.1,B0.out.trans (U.out.2.trans U2.out.2)⟩
variable{w:World}{B:Bp}{i o:Value}{zs:List Int}{H:Ht}{ri fa:Int}
theorem z_back(R:Bs w B i o zs H ri fa)(K:Hok H):
  Calls Tryz.prog 107 #[.pointer (some ⟨B.q,3,none⟩)] w fun e w'=>e=.returned (.tuple #[])∧Bs w' B i o zs (backV H) ri fa∧Below B.base w w':=by
 have z0:0≤gt H.csr 0:=(all_at K.cw 0).1
 have z4:gt H.csr 0≤4294967295:=(all_at K.cw 0).2
 obtain⟨z,hz⟩:∃z,gt H.csr 0=z:=⟨_,rfl⟩
 rw[hz]at z0 z4
 have HZ:=hid hz
 have t2:z.tdiv 2=z/2:=Int.tdiv_eq_ediv_of_nonneg z0
 have v2:w.cell? ⟨B.q,5,none⟩=some (.slice (some ⟨B.cg,0,none⟩) 11 B.ck):=R.v.cell 5 rfl
 have v1:w.cell? ⟨B.q,4,none⟩=some (.int .i64 H.pc):=R.v.cell 4 rfl
 have f1:=R.v.free 4
 have c2:w.cell? ⟨B.cg,2,none⟩=some (.int .i64 (gt H.csr 2)):=R.hc.cell R.hc.len 2 (by decide)
 have S1:Hid (_∧_):=R.fld (G:={ H with pc:=gt H.csr 2}) (ri':=ri) (fa':=fa) 4 (.int .i64 (gt H.csr 2)) rfl rfl rfl rfl rfl
 clear R hz K
 go_enter Tryz.func107,Tryz.ntmps107
 go_wp2_with fail
 generalize w.setCell ⟨B.q,4,none⟩ (.int .i64 (gt H.csr 2))=W1 at*
 clear v2 v1 f1 c2
 have v2:W1.cell? ⟨B.q,5,none⟩=some (.slice (some ⟨B.cg,0,none⟩) 11 B.ck):=S1.out.1.v.cell 5 rfl
 have c0:W1.cell? ⟨B.cg,0,none⟩=some (.int .i64 z):=by rw[←HZ.out];exact S1.out.1.hc.cell S1.out.1.hc.len 0 (by decide)
 have f0:=S1.out.1.hc.free S1.out.1.hc.len 0
 have S2:=S1.out.1.csr 0 (2+z/2)
 have SS:Hid (_∧_):=And.intro S2.1.dr (S1.out.2.trans S2.2.drew)
 clear S2
 go_region
 all_goals go_wp2_with fail
 all_goals go_end0
 all_goals exact⟨rfl,by have:=SS.out;rw[←HZ.out]at this;rw[←HZ.out];exact this.1,by have:=SS.out;rw[←HZ.out]at this;rw[←HZ.out];exact this.2⟩
theorem z_trap(R:Bs w B i o zs H ri fa)(K:Hok H)(k x:Int):
  Calls Tryz.prog 98 #[.pointer (some ⟨B.q,3,none⟩),.int .i64 k,.int .i64 x] w fun e w'=>e=.returned (.tuple #[])∧Bs w' B i o zs (trapV H k x) ri fa∧Below B.base w w':=by
 have z0:0≤gt H.csr 0:=(all_at K.cw 0).1
 have z4:gt H.csr 0≤4294967295:=(all_at K.cw 0).2
 obtain⟨z,hz⟩:∃z,gt H.csr 0=z:=⟨_,rfl⟩
 rw[hz]at z0 z4
 have HZ:=hid hz
 have HC:Hid (H.csr.length=11):=K.c11
 have t2:z.tmod 2=z%2:=Int.tmod_eq_emod_of_nonneg z0
 obtain⟨pcv,hpc⟩:∃z,H.pc=z:=⟨_,rfl⟩
 have HPC:=hid hpc
 have qc:=R.qc
 have v2:w.cell? ⟨B.q,5,none⟩=some (.slice (some ⟨B.cg,0,none⟩) 11 B.ck):=R.v.cell 5 rfl
 have v1:w.cell? ⟨B.q,4,none⟩=some (.int .i64 pcv):=by rw[←hpc];exact R.v.cell 4 rfl
 have c2:=R.hc.cell R.hc.len 2 (by decide)
 have f2:=R.hc.free R.hc.len 2
 have S1:Hid (Bs (w.setCell ⟨B.cg,2,none⟩ (.int .i64 pcv)).drew B i o zs { H with csr:=H.csr.set 2 pcv} ri fa∧Below B.base w (w.setCell ⟨B.cg,2,none⟩ (.int .i64 pcv)).drew):=⟨(R.csr 2 pcv).1.dr,(R.csr 2 pcv).2.drew⟩
 clear R hz K hpc
 go_enter Tryz.func98,Tryz.ntmps98
 go_wp2_with fail
 go_region
 generalize (w.setCell ⟨B.cg,2,none⟩ (.int .i64 pcv)).drew=W1 at*
 clear v2 v1 c2 f2
 have v2:W1.cell? ⟨B.q,5,none⟩=some (.slice (some ⟨B.cg,0,none⟩) 11 B.ck):=S1.out.1.v.cell 5 rfl
 have c3:=S1.out.1.hc.cell S1.out.1.hc.len 3 (by decide)
 have f3:=S1.out.1.hc.free S1.out.1.hc.len 3
 have c4:=S1.out.1.hc.cell S1.out.1.hc.len 4 (by decide)
 have f4:=S1.out.1.hc.free S1.out.1.hc.len 4
 have S2:Hid (Bs ((W1.setCell ⟨B.cg,3,none⟩ (.int .i64 k)).setCell ⟨B.cg,4,none⟩ (.int .i64 x)) B i o zs { H with csr:=((H.csr.set 2 pcv).set 3 k).set 4 x} ri fa∧Below B.base w ((W1.setCell ⟨B.cg,3,none⟩ (.int .i64 k)).setCell ⟨B.cg,4,none⟩ (.int .i64 x))):=⟨((S1.out.1.csr 3 k).1.csr 4 x).1,S1.out.2.trans ((S1.out.1.csr 3 k).2.trans ((S1.out.1.csr 3 k).1.csr 4 x).2)⟩
 go_wp2_with fail
 generalize (W1.setCell ⟨B.cg,3,none⟩ (.int .i64 k)).setCell ⟨B.cg,4,none⟩ (.int .i64 x)=W2 at*
 clear v2 c3 f3 c4 f4
 have GZ:Hid (gt (((H.csr.set 2 pcv).set 3 k).set 4 x) 0=z∧gt (((H.csr.set 2 pcv).set 3 k).set 4 x) 1=gt H.csr 1):=by
  have:=HC.out
  refine⟨?_,?_⟩
  ·rw[gt_set _ _ _ _ (by simpa using by omega),if_neg (by decide),gt_set _ _ _ _ (by simpa using by omega),if_neg (by decide),gt_set _ _ _ _ (by omega),if_neg (by decide)];exact HZ.out
  ·rw[gt_set _ _ _ _ (by simpa using by omega),if_neg (by decide),gt_set _ _ _ _ (by simpa using by omega),if_neg (by decide),gt_set _ _ _ _ (by omega),if_neg (by decide)]
 have v2:W2.cell? ⟨B.q,5,none⟩=some (.slice (some ⟨B.cg,0,none⟩) 11 B.ck):=S2.out.1.v.cell 5 rfl
 have c0:W2.cell? ⟨B.cg,0,none⟩=some (.int .i64 z):=by rw[←GZ.out.1];exact S2.out.1.hc.cell S2.out.1.hc.len 0 (by decide)
 have f0:=S2.out.1.hc.free S2.out.1.hc.len 0
 have S3:Hid (Bs (W2.setCell ⟨B.cg,0,none⟩ (.int .i64 (z%2*2))).drew B i o zs { H with csr:=(((H.csr.set 2 pcv).set 3 k).set 4 x).set 0 (z%2*2)} ri fa∧Below B.base w (W2.setCell ⟨B.cg,0,none⟩ (.int .i64 (z%2*2))).drew):=⟨(S2.out.1.csr 0 _).1.dr,S2.out.2.trans (S2.out.1.csr 0 _).2.drew⟩
 go_region
 generalize (W2.setCell ⟨B.cg,0,none⟩ (.int .i64 (z%2*2))).drew=W3 at*
 clear v2 c0 f0
 have G1:Hid (gt ((((H.csr.set 2 pcv).set 3 k).set 4 x).set 0 (z%2*2)) 1=gt H.csr 1):=by
  show _=_
  rw[gt_set _ _ _ _ (by have:=HC.out;simp;omega),if_neg (by decide)];exact GZ.out.2
 have v2:W3.cell? ⟨B.q,5,none⟩=some (.slice (some ⟨B.cg,0,none⟩) 11 B.ck):=S3.out.1.v.cell 5 rfl
 have c1:W3.cell? ⟨B.cg,1,none⟩=some (.int .i64 (gt H.csr 1)):=by rw[←G1.out];exact S3.out.1.hc.cell S3.out.1.hc.len 1 (by decide)
 have v1:=S3.out.1.v.cell 4 rfl
 have f1:=S3.out.1.v.free 4
 have v4:=S3.out.1.v.cell 7 rfl
 have f4:=S3.out.1.v.free 7
 have S4:=S3.out.1.fld (G:={ H with csr:=(((H.csr.set 2 pcv).set 3 k).set 4 x).set 0 (z%2*2),pc:=gt H.csr 1}) (ri':=ri) (fa':=fa) 4 (.int .i64 (gt H.csr 1)) rfl rfl rfl rfl rfl
 have S5:=S4.1.fld (G:={ H with csr:=(((H.csr.set 2 pcv).set 3 k).set 4 x).set 0 (z%2*2),pc:=gt H.csr 1,waiting:=false}) (ri':=ri) (fa':=fa) 7 (.bool false) rfl rfl rfl rfl rfl
 have SS:Hid (_∧_):=And.intro S5.1 (S3.out.2.trans (S4.2.trans S5.2))
 clear S4 S5
 go_wp2_with fail
 go_end0
 exact⟨rfl,by have:=SS.out.1;rw[←HPC.out,←HZ.out]at this;exact this,SS.out.2⟩
theorem z_set(R:Bs w B i o zs H ri fa)(K:Hok H)(k x:Int)(h0:0≤k)(h10:k≤10):
  Calls Tryz.prog 106 #[.pointer (some ⟨B.q,3,none⟩),.int .i64 k,.int .i64 x] w fun e w'=>e=.returned (.tuple #[])∧(Bs w' B i o zs (setV H k x) ri fa∧Below B.base w w')∧Mq (fun j=>j=B.q∨j=B.cg) w w':=by
 rw[setV_eq]
 have RS:=hid R
 have HC:Hid (H.csr.length=11):=K.c11
 have ZZ:Hid (gt H.csr 6=0∧gt H.csr 8=0):=stand_zero K
 obtain⟨u,hu⟩:∃u,wd x=u:=⟨_,rfl⟩
 have HU:=hid hu
 have u0:0≤u:=by rw[←hu];exact(hwd_in x).1
 have u9:u≤4294967295:=by rw[←hu];exact(hwd_in x).2
 rw[hu]
 have t4:u.tmod 4=u%4:=Int.tmod_eq_emod_of_nonneg u0
 have t8:u.tmod 8=u%8:=Int.tmod_eq_emod_of_nonneg u0
 have v2:w.cell? ⟨B.q,5,none⟩=some (.slice (some ⟨B.cg,0,none⟩) 11 B.ck):=R.v.cell 5 rfl
 have v5:w.cell? ⟨B.q,8,none⟩=some (.bool H.rung):=R.v.cell 8 rfl
 have f5:=R.v.free 8
 have CE:Hid (∀n,n<11→w.cell? ⟨B.cg,n,none⟩=some (.int .i64 (gt H.csr n))):=fun n hn=>R.hc.cell R.hc.len n hn
 have FE:Hid (∀n,w.frozen? ⟨B.cg,n,none⟩=false):=fun n=>R.hc.free R.hc.len n
 clear R K hu
 by_cases k0:k=0
 ·subst k0
  have cc:=CE.out 0 (by decide)
  have ff:=FE.out 0
  go_enter Tryz.func106,Tryz.ntmps106
  go_wp2_with (go_at_call 135;refine(s_wrap _ _).mono ?_;rintro e y ⟨rfl,hy⟩;rw[hy];clear hy y;rw[HU.out])
  go_end0
  refine⟨rfl,?_⟩
  have e:stH H (0:Int).toNat (standV 0 u) (H.rung&& !(decide ((0:Int)=6)&&decide (2≤u%4)))={ H with csr:=H.csr.set 0 (u%4)}:=by simp[stH,standV]
  rw[e]
  exact⟨RS.out.csr 0 _,(Mq.refl _ _).set ⟨B.cg,0,none⟩ _ (.inr rfl)⟩
 by_cases k7:k=7
 ·subst k7
  have cc:=CE.out 7 (by decide)
  have ff:=FE.out 7
  go_enter Tryz.func106,Tryz.ntmps106
  go_wp2_with (go_at_call 135;refine(s_wrap _ _).mono ?_;rintro e y ⟨rfl,hy⟩;rw[hy];clear hy y;rw[HU.out])
  go_end0
  refine⟨rfl,?_⟩
  have e:stH H (7:Int).toNat (standV 7 u) (H.rung&& !(decide ((7:Int)=6)&&decide (2≤u%4)))={ H with csr:=H.csr.set 7 (u%8)}:=by simp[stH,standV]
  rw[e]
  exact⟨RS.out.csr 7 _,(Mq.refl _ _).set ⟨B.cg,7,none⟩ _ (.inr rfl)⟩
 by_cases k10:k=10
 ·subst k10
  have cc:=CE.out 10 (by decide)
  have ff:=FE.out 10
  have qy:B.q≠B.cg:=RS.out.qc
  by_cases h8:u≤8
  ·have H8:Hid (u≤8):=h8
   go_enter Tryz.func106,Tryz.ntmps106
   go_wp2_with (go_at_call 135;refine(s_wrap _ _).mono ?_;rintro e y ⟨rfl,hy⟩;rw[hy];clear hy y;rw[HU.out])
   go_end0
   refine⟨rfl,?_⟩
   have e:stH H (10:Int).toNat (standV 10 u) (H.rung&& !(decide ((10:Int)=6)&&decide (2≤u%4)))={ H with csr:=(H.csr.set 10 0).set 10 u}:=by
    have:=H8.out
    simp[stH,standV,show ¬8<u by omega]
   rw[e]
   exact⟨⟨((RS.out.csr 10 0).1.csr 10 u).1,(RS.out.csr 10 0).2.trans ((RS.out.csr 10 0).1.csr 10 u).2⟩,((Mq.refl _ _).set ⟨B.cg,10,none⟩ _ (.inr rfl)).set ⟨B.cg,10,none⟩ _ (.inr rfl)⟩
  ·have H8:Hid (8<u):=by show _<_;omega
   go_enter Tryz.func106,Tryz.ntmps106
   go_wp2_with (go_at_call 135;refine(s_wrap _ _).mono ?_;rintro e y ⟨rfl,hy⟩;rw[hy];clear hy y;rw[HU.out])
   go_end0
   refine⟨rfl,?_⟩
   have e:stH H (10:Int).toNat (standV 10 u) (H.rung&& !(decide ((10:Int)=6)&&decide (2≤u%4)))={ H with csr:=H.csr.set 10 0}:=by
    simp[stH,standV,H8.out]
   rw[e]
   exact⟨RS.out.csr 10 0,(Mq.refl _ _).set ⟨B.cg,10,none⟩ _ (.inr rfl)⟩
 by_cases k6:k=6
 ·subst k6
  have E6:Hid (∀rr,stH H (6:Int).toNat (standV 6 u) rr={ H with rung:=rr}):=fun rr=>by
   have:H.csr.set 6 0=H.csr:=set_same _ _ _ (by have:=HC.out;omega) ZZ.out.1
   simp[stH,standV,this]
  cases hr:H.rung
  ·have HR:Hid (H.rung=false):=hr
   rw[hr]at v5
   go_enter Tryz.func106,Tryz.ntmps106
   go_wp2_with (go_at_call 135;refine(s_wrap _ _).mono ?_;rintro e y ⟨rfl,hy⟩;rw[hy];clear hy y;rw[HU.out])
   go_end0
   refine⟨rfl,?_⟩
   rw[E6.out,Bool.false_and]
   exact⟨RS.out.fld (G:={ H with rung:=false}) (ri':=ri) (fa':=fa) 8 (.bool false) rfl rfl rfl rfl rfl,(Mq.refl _ _).set ⟨B.q,8,none⟩ _ (.inl rfl)⟩
  ·rw[hr]at v5
   by_cases h2:u%4<2
   ·have H2:Hid (decide (2≤u%4)=false):=decide_eq_false (by omega)
    go_enter Tryz.func106,Tryz.ntmps106
    go_wp2_with (go_at_call 135;refine(s_wrap _ _).mono ?_;rintro e y ⟨rfl,hy⟩;rw[hy];clear hy y;rw[HU.out])
    go_end0
    refine⟨rfl,?_⟩
    rw[E6.out,H2.out]
    exact⟨RS.out.fld (G:={ H with rung:=true}) (ri':=ri) (fa':=fa) 8 (.bool true) rfl rfl rfl rfl rfl,(Mq.refl _ _).set ⟨B.q,8,none⟩ _ (.inl rfl)⟩
   ·have H2:Hid (decide (2≤u%4)=true):=decide_eq_true (by omega)
    go_enter Tryz.func106,Tryz.ntmps106
    go_wp2_with (go_at_call 135;refine(s_wrap _ _).mono ?_;rintro e y ⟨rfl,hy⟩;rw[hy];clear hy y;rw[HU.out])
    go_end0
    refine⟨rfl,?_⟩
    rw[E6.out,H2.out,show decide (u%4<2)=false from decide_eq_false (by have:=of_decide_eq_true H2.out;omega)]
    exact⟨RS.out.fld (G:={ H with rung:=false}) (ri':=ri) (fa':=fa) 8 (.bool false) rfl rfl rfl rfl rfl,(Mq.refl _ _).set ⟨B.q,8,none⟩ _ (.inl rfl)⟩
 by_cases k8:k=8
 ·subst k8
  go_enter Tryz.func106,Tryz.ntmps106
  go_wp2_with (go_at_call 135;refine(s_wrap _ _).mono ?_;rintro e y ⟨rfl,hy⟩;rw[hy];clear hy y;rw[HU.out])
  go_end0
  refine⟨rfl,?_⟩
  have e:stH H (8:Int).toNat (standV 8 u) (H.rung&& !(decide ((8:Int)=6)&&decide (2≤u%4)))=H:=by
   have:H.csr.set 8 0=H.csr:=set_same _ _ _ (by have:=HC.out;omega) ZZ.out.2
   simp[stH,standV,this]
  rw[e]
  exact⟨⟨RS.out,Below.refl _ _⟩,Mq.refl _ _⟩
 obtain⟨n,rfl⟩:∃n:Nat,k=n:=⟨k.toNat,by omega⟩
 have cc:=CE.out n (by omega)
 have ff:=FE.out n
 have hI:(n:Int)<11:=by omega
 have E:Hid (stH H (n:Int).toNat (standV n u) (H.rung&& !(decide ((n:Int)=6)&&decide (2≤u%4)))={ H with csr:=H.csr.set n u}):=by
  show _=_
  have n0:¬n=0:=by omega
  simp[stH,standV,n0,k7,k10,k6,k8]
 go_enter Tryz.func106,Tryz.ntmps106
 go_wp2_with (go_at_call 135;refine(s_wrap _ _).mono ?_;rintro e y ⟨rfl,hy⟩;rw[hy];clear hy y;rw[HU.out])
 go_end0
 refine⟨rfl,?_⟩
 rw[E.out]
 exact⟨RS.out.csr n _,(Mq.refl _ _).set ⟨B.cg,n,none⟩ _ (.inr rfl)⟩
theorem z_read(R:Bs w B i o zs H ri fa)(k:Int)(h0:0≤k)(h7:k≤7):
  Calls Tryz.prog 132 #[.pointer (some ⟨B.q,3,none⟩),.int .i64 k] w fun e w'=>e=.returned (.int .i64 (drV H k))∧∃i',Bs w' B i' o zs (drH H k) ri fa∧Below B.base w w'∧Mq (fun j=>j=B.q) w w':=by
 have HR:=hid R
 by_cases k1:k=1
 ·subst k1
  obtain⟨a,cap,rfl,hr⟩:=R.hi
  obtain⟨n,hn⟩:∃n,H.inn.length=n:=⟨_,rfl⟩
  rw[hn]at R hr HR
  have HN:=hid hn
  have HI:=hid hr
  have c7:w.cell? ⟨B.q,10,none⟩=some (.slice a n cap):=R.v.cell 10 rfl
  have f7:=R.v.free 10
  have hc:=hr.cap
  clear R hr hn
  by_cases hz:n=0
  ·subst hz
   have E0:Hid (H.inn=[]):=List.eq_nil_of_length_eq_zero HN.out
   go_enter Tryz.func132,Tryz.ntmps132
   go_wp2_with fail
   go_ret
   refine⟨?_,_,by rw[tail_nil E0.out];exact HR.out,Below.refl _ _,Mq.refl _ _⟩
   simp[drV,E0.out]
  ·obtain⟨x,rfl⟩:∃x,a=some x:=by
    rcases HI.out with⟨_,h1,_⟩|⟨x,hx,_⟩
    ·exact absurd h1 hz
    ·exact⟨x,hx⟩
   obtain⟨x',hx',c0⟩:=HI.out.at 0 (by omega)
   cases hx'
   have ex:x.add 0=x:=by cases x;unfold Addr.add;split<;>simp_all
   rw[ex]at c0
   clear ex
   have hI:¬(n:Int)=0:=by omega
   have hI0:((n:Int)==0)=false:=by simpa using hI
   have hI1:(1:Int)≤(n:Int):=by omega
   have hI2:0<n:=by omega
   have hI3:1≤n:=by omega
   have H0:=hid hI2
   clear hz
   go_enter Tryz.func132,Tryz.ntmps132
   go_wp2_with fail
   ·go_ret
    have U:=HR.out.inn (i':=.slice (some x) (n-1) 0) (G:=drH H 1) rfl (rv_tl1 HI.out H0.out (by assumption)) (fun k e=>e) rfl rfl rfl
    exact⟨by show Ending.returned (Value.int .i64 (H.inn[0]?.getD 0))=_;rw[head_get];rfl,⟨_,U.1⟩,U.2,(Mq.refl _ _).set ⟨B.q,10,none⟩ _ rfl⟩
   ·go_ret
    have U:=HR.out.inn (i':=.slice (some (x.add 1)) (n-1) (cap-1)) (G:=drH H 1) rfl (rv_tl HI.out H0.out) (fun k e=>by rw[←e];rfl) rfl rfl rfl
    exact⟨by show Ending.returned (Value.int .i64 (H.inn[0]?.getD 0))=_;rw[head_get];rfl,⟨_,U.1⟩,U.2,(Mq.refl _ _).set ⟨B.q,10,none⟩ _ rfl⟩
 have e1:drH H k=H:=drH_ne H k1
 rw[e1]
 clear e1
 by_cases k2:k=2
 ·subst k2
  have c6:w.cell? ⟨B.q,9,none⟩=some (.int .i64 H.done):=R.v.cell 9 rfl
  clear R
  go_enter Tryz.func132,Tryz.ntmps132
  go_wp2_with fail
  go_ret
  exact⟨rfl,_,HR.out,Below.refl _ _,Mq.refl _ _⟩
 by_cases k3:k=3
 ·subst k3
  have cn:w.cell? ⟨B.cg,9,none⟩=some (.int .i64 (gt H.csr 9)):=R.hc.cell R.hc.len 9 (by decide)
  have c2:w.cell? ⟨B.q,5,none⟩=some (.slice (some ⟨B.cg,0,none⟩) 11 B.ck):=R.v.cell 5 rfl
  clear R
  go_enter Tryz.func132,Tryz.ntmps132
  go_wp2_with fail
  go_ret
  exact⟨rfl,_,HR.out,Below.refl _ _,Mq.refl _ _⟩
 by_cases k4:k=4
 ·subst k4
  clear R
  go_enter Tryz.func132,Tryz.ntmps132
  go_wp2_with (go_at_call 61;refine(z_pending HR.out).mono ?_;rintro e x ⟨rfl,bx⟩)
  go_ret
  exact⟨rfl,_,HR.out.keep bx,bless bx HR.out.size,Mq.of (below_grown bx none) fun k e=>by cases e⟩
 by_cases k6:k=6
 ·subst k6
  obtain⟨a2,n2,rfl,hrn⟩:=R.hi
  have c10:w.cell? ⟨B.q,10,none⟩=some (.slice a2 H.inn.length n2):=R.v.cell 10 rfl
  clear R hrn
  go_enter Tryz.func132,Tryz.ntmps132
  go_wp2_with fail
  go_ret
  exact⟨rfl,_,HR.out,Below.refl _ _,Mq.refl _ _⟩
 have HD:Hid (drV H k=0):=by show _=_;simp[drV,k1,k2,k3,k4,k6]
 clear R
 go_enter Tryz.func132,Tryz.ntmps132
 go_wp2_with fail
 go_ret
 exact⟨by rw[HD.out];rfl,_,HR.out,Below.refl _ _,Mq.refl _ _⟩
theorem z_write(R:Bs w B i o zs H ri fa)(K:Hok H)(k x:Int)(h0:0≤k)(h7:k≤7):
  Calls Tryz.prog 133 #[.pointer (some ⟨B.q,3,none⟩),.int .i64 k,.int .i64 x] w fun e w'=>e=.returned (.int .i64 (rgW k (wd x)))∧∃o',(Bs w' B i o' zs (dwW H k (wd x)) ri fa∧Below B.base w w')∧Mq (fun j=>j=B.q∨j=B.cg∨o.ownBlock=some j) w w':=by
 have HR:=hid R
 have HK:=hid K
 have hwd:=hwd_in x
 obtain⟨u,hu⟩:∃u,wd x=u:=⟨_,rfl⟩
 have HU:=hid hu
 rw[hu]at hwd ⊢
 have HW:=hid hwd
 clear K hu hwd
 by_cases k0:k=0
 ·subst k0
  obtain⟨bo,b1,b2,b3,b4⟩:=HR.out.ho
  obtain⟨a3,n3,rfl,_⟩:=b3.shape
  obtain⟨l,hl⟩:∃l,H.out.length=l:=⟨_,rfl⟩
  rw[hl]at HR b3 R
  have HL:=hid hl
  have HO:=hid b3
  have HB:Hid (B.base≤bo∧bo≤w.heap.size):=⟨b1,b2⟩
  have HB4:=hid b4
  have c8:w.cell? ⟨B.q,11,none⟩=some (.slice a3 l n3):=R.v.cell 11 rfl
  clear R hl b1 b2 b3 b4
  by_cases h4:l<40
  ·have hI:(l:Int)<40:=by omega
   have HD:Hid (dwW H 0 u={ H with out:=H.out++ [u]}):=by show _=_;have:=HL.out;simp[dwW,outW,this,h4]
   have H4:=hid h4
   clear h4
   go_enter Tryz.func133,Tryz.ntmps133
   go_wp2_with (first
    |(go_at_call 135;refine(s_wrap _ _).mono ?_;rintro e y ⟨rfl,hy⟩;rw[hy];clear hy y;rw[HU.out])
    |(at_builtin;refine wp_appx _ rfl _ _ rfl bo _ H.out rfl (HO.out.keep (al (Below.refl _ _) _)) _ 1 1 [u] rfl (one_rn w u rfl) (by have:=HL.out;have:=H4.out;omega) (by have:=HB.out;simp;omega) ?_;intro v' w' hN' hG';obtain⟨y,cap',hv',_⟩:=hN'.shape;obtain⟨L,hL⟩:∃L,(H.out++ [u]).length=L:=⟨_,rfl⟩;rw[hL]at hv';clear hL;subst hv';have N1:Hid (Nums w' bo (.slice y L cap') (H.out++ [u])):=hN';have G1:Hid ((w.alloc (.cells #[.int .i64 u] 2)).grownBy w' (Value.slice a3 l n3).ownBlock):=hG';have V1:Hid (Vb w' B.q (busC B i (.slice a3 l n3) H ri fa) 62):=(HR.out.v.push _).gr hG' (fun e=>HR.out.qo e.symm);clear hN' hG' c8;have c1:w'.cell? ⟨B.q,11,none⟩=some (.slice a3 l n3):=V1.out.cell 11 rfl;have f1:=V1.out.free 11))
   go_ret
   refine⟨rfl,.slice y L cap',?_⟩
   rw[HD.out]
   have U:=(HR.out.keep (al (Below.refl _ _) (.cells #[.int .i64 u] 2))).outn (G:={ H with out:=H.out++ [u]}) G1.out bo HB.out.1 (by have:=HB.out.2;simp;omega) HB4.out N1.out rfl rfl rfl rfl
   have OB:(Value.slice a3 H.out.length n3).ownBlock=(Value.slice a3 l n3).ownBlock:=by cases a3<;>rfl
   have G2:Mq (fun j=>j=B.q∨j=B.cg∨(Value.slice a3 H.out.length n3).ownBlock=some j) w w':=Mq.pre (Mq.of G1.out fun k e=> .inr (.inr (OB.trans e.symm)))
   exact⟨⟨U.1,(bless (al (Below.refl _ _) _) HR.out.size).trans U.2⟩,G2.set ⟨B.q,11,none⟩ _ (.inl rfl)⟩
  ·have hI:¬(l:Int)<40:=by omega
   have HD:Hid (dwW H 0 u=H):=by show _=_;have:=HL.out;simp[dwW,outW,this,h4]
   clear h4
   go_enter Tryz.func133,Tryz.ntmps133
   go_wp2_with (go_at_call 135;refine(s_wrap _ _).mono ?_;rintro e y ⟨rfl,hy⟩;rw[hy];clear hy y;rw[HU.out])
   go_ret
   exact⟨rfl,_,⟨by rw[HD.out];exact HR.out,Below.refl _ _⟩,Mq.refl _ _⟩
 by_cases k3:k=3
 ·subst k3
  have cc:w.cell? ⟨B.cg,9,none⟩=some (.int .i64 (gt H.csr 9)):=R.hc.cell R.hc.len 9 (by decide)
  have ff:w.frozen? ⟨B.cg,9,none⟩=false:=R.hc.free R.hc.len 9
  have c2:w.cell? ⟨B.q,5,none⟩=some (.slice (some ⟨B.cg,0,none⟩) 11 B.ck):=R.v.cell 5 rfl
  have HD:Hid (dwW H 3 u={ H with csr:=H.csr.set 9 u}):=by show _=_;simp[dwW,setW,stH,standV]
  clear R
  go_enter Tryz.func133,Tryz.ntmps133
  go_wp2_with (go_at_call 135;refine(s_wrap _ _).mono ?_;rintro e y ⟨rfl,hy⟩;rw[hy];clear hy y;rw[HU.out])
  go_ret
  exact⟨rfl,_,⟨by rw[HD.out];exact(HR.out.csr 9 u).1,(HR.out.csr 9 u).2⟩,(Mq.refl _ _).set ⟨B.cg,9,none⟩ _ (.inr (.inl rfl))⟩
 by_cases k4:k=4
 ·subst k4
  have HD:Hid (setV H 6 u=dwW H 4 u):=by show _=_;rw[setW_wd,←HU.out,wd_wd];rfl
  clear R
  go_enter Tryz.func133,Tryz.ntmps133
  go_wp2_with (go_at_call 135;refine(s_wrap _ _).mono ?_;rintro e y ⟨rfl,hy⟩;rw[hy];clear hy y;rw[HU.out])
  refine(z_set HR.out HK.out 6 u (by decide) (by decide)).mono ?_
  rintro e w1⟨rfl,⟨s1,t1⟩,m1⟩
  rw[HD.out]at s1
  have S1:Hid ((Bs w1 B i o zs (dwW H 4 u) ri fa∧Below B.base w w1)∧Mq (fun j=>j=B.q∨j=B.cg∨o.ownBlock=some j) w w1):=⟨⟨s1,t1⟩,m1.more fun k e=>e.elim .inl fun e=> .inr (.inl e)⟩
  clear s1 t1 m1
  go_wp2_with fail
  go_ret
  exact⟨rfl,_,S1.out⟩
 have HD:Hid (dwW H k u=H):=by show _=_;simp[dwW,k0,k3,k4]
 clear R
 by_cases k5:k=5
 ·subst k5
  go_enter Tryz.func133,Tryz.ntmps133
  go_wp2_with (go_at_call 135;refine(s_wrap _ _).mono ?_;rintro e y ⟨rfl,hy⟩;rw[hy];clear hy y;rw[HU.out])
  go_ret
  exact⟨rfl,_,⟨by rw[HD.out];exact HR.out,Below.refl _ _⟩,Mq.refl _ _⟩
 have HG:Hid (rgW k u= -1):=by show _=_;simp[rgW,k5]
 go_enter Tryz.func133,Tryz.ntmps133
 go_wp2_with (go_at_call 135;refine(s_wrap _ _).mono ?_;rintro e y ⟨rfl,hy⟩;rw[hy];clear hy y;rw[HU.out])
 go_ret
 exact⟨by rw[HG.out];rfl,_,⟨by rw[HD.out];exact HR.out,Below.refl _ _⟩,Mq.refl _ _⟩
end Go.Proofs.YtaefollmeoepkaaGreatDoor
