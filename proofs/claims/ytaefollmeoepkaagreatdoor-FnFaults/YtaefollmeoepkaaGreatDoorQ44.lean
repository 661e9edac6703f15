import Derived.Test.YtaefollmeoepkaaGreatDoorQ32
import Derived.Test.YtaefollmeoepkaaGreatDoorQ43
namespace Go.Proofs.YtaefollmeoepkaaGreatDoor
set_option maxRecDepth 20000
set_option maxHeartbeats 16000000
open Go.RowKit
set_option linter.unusedVariables false
def Sees(w:World)(a0:Option Addr)(m0 k0:Nat)(a1:Option Addr)(m1 k1:Nat)(a2:Option Addr)(m2 k2:Nat)(a3:Option Addr)(m3 k3:Nat)(H:Ht)(la:Option Addr)(ln lk:Nat)(ma:Option Addr)(mn mk:Nat)(c:Int):Prop:=
 (∀w1,Below w.heap.size w w1→Calls Tryz.prog 34 #[.agg #[.slice a0 m0 k0,.int .i64 H.pc,.slice a1 m1 k1,.bool H.halted,.bool H.waiting,.bool H.rung,.int .i64 H.done,.slice a2 m2 k2,.slice a3 m3 k3],.slice la ln lk,.slice ma mn mk] w1 fun e w'=>e=.returned (.int .i64 c)∧Below w1.heap.size w1 w')∧
 ∀w1 q,Below w.heap.size w w1→Vb w1 q #[.slice a0 m0 k0,.int .i64 H.pc,.slice a1 m1 k1,.bool H.halted,.bool H.waiting,.bool H.rung,.int .i64 H.done,.slice a2 m2 k2,.slice a3 m3 k3] 26→Calls Tryz.prog 26 #[.pointer (some ⟨q,0,none⟩),.slice la ln lk,.slice ma mn mk] w1 fun e w'=>e=.returned (.int .i64 c)∧Below w1.heap.size w1 w'
theorem seen_bad(a0:Option Addr)(m0 k0:Nat)(a1:Option Addr)(m1 k1:Nat)(a2:Option Addr)(m2 k2:Nat)(a3:Option Addr)(m3 k3:Nat)(H:Ht)(la:Option Addr)(ln lk:Nat)(ma:Option Addr)(mn mk:Nat)(c1 c2:Int)(w:World)
  (hH:∀w1,Below w.heap.size w w1→Calls Tryz.prog 10 #[.agg #[.slice a0 m0 k0,.int .i64 H.pc,.slice a1 m1 k1,.bool H.halted,.bool H.waiting,.bool H.rung,.int .i64 H.done,.slice a2 m2 k2,.slice a3 m3 k3]] w1 fun e w'=>e=.returned (.int .i64 c1)∧Below w1.heap.size w1 w')
  (hL:c1=0→Flt w (.slice la ln lk) 24 c2)
  (hM:c1=0→c2=0→∀w1,Below w.heap.size w w1→Calls Tryz.prog 11 #[.slice ma mn mk] w1 fun e w'=>e=.returned (.int .i64 1)∧w'=w1):
  Calls Tryz.prog 34 #[.agg #[.slice a0 m0 k0,.int .i64 H.pc,.slice a1 m1 k1,.bool H.halted,.bool H.waiting,.bool H.rung,.int .i64 H.done,.slice a2 m2 k2,.slice a3 m3 k3],.slice la ln lk,.slice ma mn mk] w fun e w'=>e=.returned (.int .i64 (if c1=0 then(if c2=0 then 1 else c2)else c1))∧Below w.heap.size w w':=by
 have HH:Hid (_∧_∧_):=⟨hH,hL,hM⟩
 clear hH hL hM
 obtain⟨c,hc⟩:∃c,(if c1=0 then(if c2=0 then 1 else c2)else c1)=c:=⟨_,rfl⟩
 rw[hc]
 have HC:=hid hc
 clear hc
 generalize hW:w.alloc (.cells #[.slice a0 m0 k0,.int .i64 H.pc,.slice a1 m1 k1,.bool H.halted,.bool H.waiting,.bool H.rung,.int .i64 H.done,.slice a2 m2 k2,.slice a3 m3 k3] 26)=W
 have B0:Hid (Below w.heap.size w W):=by show Below _ _ _;rw[←hW];exact al (Below.refl _ _) _
 obtain⟨s,hS⟩:∃s,w.heap.size=s:=⟨_,rfl⟩
 have VA:Hid (Vb W s #[.slice a0 m0 k0,.int .i64 H.pc,.slice a1 m1 k1,.bool H.halted,.bool H.waiting,.bool H.rung,.int .i64 H.done,.slice a2 m2 k2,.slice a3 m3 k3] 26):=by show Vb _ _ _ _;rw[←hW,←hS];exact Vb.new _ _ _
 obtain⟨q0,q1,q2,q3,q4,q5,q6,q7,q8⟩:=zc9 VA.out
 go_enter Tryz.func34,Tryz.ntmps34
 go_wp2_with fail
 clear hW hS q0 q1 q2 q3 q4 q5 q6 q7 q8
 refine(HH.out.1 W B0.out).mono ?_
 rintro e w1⟨rfl,b1⟩
 have B1:=hid (on B0.out b1)
 clear b1 VA B0
 by_cases h1:c1=0
 case neg=>
  rw[if_neg h1]at HC
  have h1':(c1 !=0)=true:=by simpa using h1
  clear h1
  go_wp2_with fail
  go_ret
  exact⟨by rw[←HC.out];rfl,B1.out⟩
 rw[if_pos h1]at HC
 have HL:=HH.out.2.1 h1
 have HMM:Hid (c2=0→∀w1,Below w.heap.size w w1→_):=HH.out.2.2 h1
 subst h1
 clear HH
 have HL:Hid (Flt w (.slice la ln lk) 24 c2):=HL
 go_wp2_with fail
 refine(HL.out.1 w1 B1.out).mono ?_
 rintro e w2⟨rfl,b2⟩
 have B2:=hid (on B1.out b2)
 clear b2 B1
 by_cases h2:c2=0
 case neg=>
  rw[if_neg h2]at HC
  have h2':(c2 !=0)=true:=by simpa using h2
  clear h2
  go_wp2_with fail
  go_ret
  exact⟨by rw[←HC.out];rfl,B2.out⟩
 rw[if_pos h2]at HC
 have HM:Hid (∀w1,Below w.heap.size w w1→_):=HMM.out h2
 subst h2
 clear HMM HL
 go_wp2_with fail
 refine(HM.out w2 B2.out).mono ?_
 rintro e w3⟨rfl,hw3⟩
 rw[hw3]
 clear hw3 w3
 go_wp2_with fail
 go_ret
 exact⟨by rw[←HC.out];rfl,B2.out⟩
theorem asked_bad(a0:Option Addr)(m0 k0:Nat)(a1:Option Addr)(m1 k1:Nat)(a2:Option Addr)(m2 k2:Nat)(a3:Option Addr)(m3 k3:Nat)(H:Ht)(la:Option Addr)(ln lk:Nat)(ma:Option Addr)(mn mk:Nat)(c1 c2:Int)(q:Nat)(w:World)
  (hH:Calls Tryz.prog 54 #[.pointer (some ⟨q,0,none⟩)] w fun e w'=>e=.returned (.int .i64 c1)∧Below w.heap.size w w')
  (hL:c1=0→Flt w (.slice la ln lk) 24 c2)
  (hM:c1=0→c2=0→∀w1,Below w.heap.size w w1→Calls Tryz.prog 56 #[.slice ma mn mk] w1 fun e w'=>e=.returned (.int .i64 1)∧w'=w1):
  Calls Tryz.prog 26 #[.pointer (some ⟨q,0,none⟩),.slice la ln lk,.slice ma mn mk] w fun e w'=>e=.returned (.int .i64 (if c1=0 then(if c2=0 then 1 else c2)else c1))∧Below w.heap.size w w':=by
 have HH:Hid (_∧_∧_):=⟨hH,hL,hM⟩
 clear hH hL hM
 obtain⟨c,hc⟩:∃c,(if c1=0 then(if c2=0 then 1 else c2)else c1)=c:=⟨_,rfl⟩
 rw[hc]
 have HC:=hid hc
 clear hc
 go_enter Tryz.func26,Tryz.ntmps26
 go_wp2_with fail
 refine HH.out.1.mono ?_
 rintro e w1⟨rfl,b1⟩
 have B1:=hid b1
 clear b1
 by_cases h1:c1=0
 case neg=>
  rw[if_neg h1]at HC
  have h1':(c1 !=0)=true:=by simpa using h1
  clear h1
  go_wp2_with fail
  go_ret
  exact⟨by rw[←HC.out];rfl,B1.out⟩
 rw[if_pos h1]at HC
 have HL:=HH.out.2.1 h1
 have HMM:Hid (c2=0→∀w1,Below w.heap.size w w1→_):=HH.out.2.2 h1
 subst h1
 clear HH
 have HL:Hid (Flt w (.slice la ln lk) 24 c2):=HL
 go_wp2_with fail
 refine(HL.out.2 w1 B1.out).mono ?_
 rintro e w2⟨rfl,hw2⟩
 rw[hw2]
 clear hw2 w2
 by_cases h2:c2=0
 case neg=>
  rw[if_neg h2]at HC
  have h2':(c2 !=0)=true:=by simpa using h2
  clear h2
  go_wp2_with fail
  go_ret
  exact⟨by rw[←HC.out];rfl,B1.out⟩
 rw[if_pos h2]at HC
 have HM:Hid (∀w1,Below w.heap.size w w1→_):=HMM.out h2
 subst h2
 clear HMM HL
 go_wp2_with fail
 refine(HM.out w1 B1.out).mono ?_
 rintro e w3⟨rfl,hw3⟩
 rw[hw3]
 clear hw3 w3
 go_wp2_with fail
 go_ret
 exact⟨by rw[←HC.out];rfl,B1.out⟩
theorem Flt.later{w w':World}{v:Value}{top c:Int}(h:Flt w v top c)(b:Below w.heap.size w w'):Flt w' v top c:=⟨fun w1 k=>h.1 w1 (on b k),fun w1 k=>h.2 w1 (on b k)⟩
theorem drawn8_flt{w:World}{base:Nat}{v:Value}(h:Drawn8 w base v):∃c,Flt w v 24 c∧(c=1∨∃rs,Prs 36 w base v rs∧rs.length=8∧c=pgsV rs 24):=by
 rcases h with⟨rs,h,hl⟩|⟨g,yc,c2,rs,rfl,_⟩
 ·exact⟨_,Flt.good h hl 24,.inr ⟨rs,h,hl,rfl⟩⟩
 ·exact⟨1,Flt.bad _ _ 24 (by decide) (by decide),.inl rfl⟩
theorem sees_any{w:World}{base:Nat}{a0:Option Addr}{m0 k0:Nat}{a1:Option Addr}{m1 k1:Nat}{a2:Option Addr}{m2 k2:Nat}{a3:Option Addr}{m3 k3:Nat}{H:Ht}{la:Option Addr}{ln lk:Nat}{ma:Option Addr}{mn mk:Nat}(hz:Hz w base a0 m0 k0 a1 m1 k1 a2 m2 k2 a3 m3 k3 H)(hl:Drawn8 w base (.slice la ln lk))(hm:DrawnM w base (.slice ma mn mk)):
  (∃ps zs,Hm w base (.slice a0 m0 k0) (.slice a1 m1 k1) (.slice a2 m2 k2) (.slice a3 m3 k3) H∧Prs 36 w base (.slice la ln lk) ps∧ps.length=8∧Nums w base (.slice ma mn mk) zs∧zs.length≤200)∨∃c,c≠0∧Sees w a0 m0 k0 a1 m1 k1 a2 m2 k2 a3 m3 k3 H la ln lk ma mn mk c:=by
 rcases hz with⟨hH, -⟩|⟨h15, -⟩
 case inr=>
  subst h15
  refine .inr ⟨1,by decide,fun w1 b=>?_,fun w1 q b hv=>?_⟩
  ·have:=seen_bad a0 15 k0 a1 m1 k1 a2 m2 k2 a3 m3 k3 H la ln lk ma mn mk 1 0 w1 (fun w2 _=>i_fault15 _ _ _ _ _ _ _ _ _ _ _ _ _) (fun h=>absurd h (by decide)) (fun h=>absurd h (by decide))
   exact this
  ·have:=asked_bad a0 15 k0 a1 m1 k1 a2 m2 k2 a3 m3 k3 H la ln lk ma mn mk 1 0 q w1 (s_fault15 q _ _ _ _ _ _ _ _ _ _ _ _ _ hv) (fun h=>absurd h (by decide)) (fun h=>absurd h (by decide))
   exact this
 obtain⟨c2,hF,h2⟩:=drawn8_flt hl
 have hcase:(∃zs,Nums w base (.slice ma mn mk) zs∧zs.length≤200)∨(mn≤200∧formB mn=false):=by
  rcases hm with h|⟨a,n,cap,hv,h1,h2⟩
  ·exact .inl h
  ·cases hv;exact .inr ⟨h1,h2⟩
 have iH:∀w1,Below w.heap.size w w1→Calls Tryz.prog 10 #[.agg #[.slice a0 m0 k0,.int .i64 H.pc,.slice a1 m1 k1,.bool H.halted,.bool H.waiting,.bool H.rung,.int .i64 H.done,.slice a2 m2 k2,.slice a3 m3 k3]] w1 fun e w'=>e=.returned (.int .i64 (hfV H))∧Below w1.heap.size w1 w':=fun w1 b=>i_fault _ _ _ _ H _ _ (hH.keep b)
 have sH:∀w1 q,Below w.heap.size w w1→Vb w1 q #[.slice a0 m0 k0,.int .i64 H.pc,.slice a1 m1 k1,.bool H.halted,.bool H.waiting,.bool H.rung,.int .i64 H.done,.slice a2 m2 k2,.slice a3 m3 k3] 26→Calls Tryz.prog 54 #[.pointer (some ⟨q,0,none⟩)] w1 fun e w'=>e=.returned (.int .i64 (hfV H))∧Below w1.heap.size w1 w':=fun w1 q b hv=>(s_fault q _ _ _ _ H _ _ (hH.keep b) hv).mono (by rintro e w' ⟨rfl,h⟩;exact⟨rfl,by rw[h];exact Below.refl _ _⟩)
 by_cases hf:hfV H=0
 case neg=>
  refine .inr ⟨hfV H,hf,fun w1 b=>?_,fun w1 q b hv=>?_⟩
  ·have:=seen_bad a0 m0 k0 a1 m1 k1 a2 m2 k2 a3 m3 k3 H la ln lk ma mn mk (hfV H) 0 w1 (fun w2 b2=>iH w2 (on b b2)) (fun h=>absurd h hf) (fun h=>absurd h hf)
   rw[if_neg hf]at this;exact this
  ·have:=asked_bad a0 m0 k0 a1 m1 k1 a2 m2 k2 a3 m3 k3 H la ln lk ma mn mk (hfV H) 0 q w1 (sH w1 q b hv) (fun h=>absurd h hf) (fun h=>absurd h hf)
   rw[if_neg hf]at this;exact this
 rw[hf]at iH sH
 by_cases hc2:c2=0
 case neg=>
  refine .inr ⟨c2,hc2,fun w1 b=>?_,fun w1 q b hv=>?_⟩
  ·have:=seen_bad a0 m0 k0 a1 m1 k1 a2 m2 k2 a3 m3 k3 H la ln lk ma mn mk 0 c2 w1 (fun w2 b2=>iH w2 (on b b2)) (fun _=>hF.later b) (fun _ h=>absurd h hc2)
   rw[if_pos rfl,if_neg hc2]at this;exact this
  ·have:=asked_bad a0 m0 k0 a1 m1 k1 a2 m2 k2 a3 m3 k3 H la ln lk ma mn mk 0 c2 q w1 (sH w1 q b hv) (fun _=>hF.later b) (fun _ h=>absurd h hc2)
   rw[if_pos rfl,if_neg hc2]at this;exact this
 obtain⟨ps,hP,hp8, -⟩:=h2.resolve_left (fun e=>by rw[hc2]at e;exact absurd e (by decide))
 rcases hcase with⟨zs,hN,hn⟩|⟨h1,hf2⟩
 ·exact .inl ⟨ps,zs,hH,hP,hp8,hN,hn⟩
 ·subst hc2
  refine .inr ⟨1,by decide,fun w1 b=>?_,fun w1 q b hv=>?_⟩
  ·have:=seen_bad a0 m0 k0 a1 m1 k1 a2 m2 k2 a3 m3 k3 H la ln lk ma mn mk 0 0 w1 (fun w2 b2=>iH w2 (on b b2)) (fun _=>hF.later b) (fun _ _ w2 _=>impl_memBad ma mn mk w2 h1 hf2)
   exact this
  ·have:=asked_bad a0 m0 k0 a1 m1 k1 a2 m2 k2 a3 m3 k3 H la ln lk ma mn mk 0 0 q w1 (sH w1 q b hv) (fun _=>hF.later b) (fun _ _ w2 _=>spec_memBad ma mn mk w2 h1 hf2)
   exact this
theorem vb_rangeW{w:World}{q:Nat}{cs:List Value}{t:TypeId}(h:Vb w q cs.toArray t):w.rangeAt q 0 cs:=fun j v hv=>by
 rw[Nat.zero_add]
 exact h.cell j (by simpa using hv)
theorem drawnM_shape{w:World}{base:Nat}{v:Value}(h:DrawnM w base v):∃a n cap,v=.slice a n cap:=by
 rcases h with⟨zs,h,_⟩|⟨a,n,cap,rfl,_⟩
 ·obtain⟨a,c,rfl,_⟩:=h.shape;exact⟨_,_,_,rfl⟩
 ·exact⟨_,_,_,rfl⟩
theorem ib_next(a0:Option Addr)(m0 k0:Nat)(a1:Option Addr)(m1 k1:Nat)(a2:Option Addr)(m2 k2:Nat)(a3:Option Addr)(m3 k3:Nat)(H:Ht)(la:Option Addr)(ln lk:Nat)(ma:Option Addr)(mn mk:Nat)(c:Int)(w:World)(hs:Sees w a0 m0 k0 a1 m1 k1 a2 m2 k2 a3 m3 k3 H la ln lk ma mn mk c)(hc:c≠0):
  Calls Tryz.prog 18 #[.agg #[.slice a0 m0 k0,.int .i64 H.pc,.slice a1 m1 k1,.bool H.halted,.bool H.waiting,.bool H.rung,.int .i64 H.done,.slice a2 m2 k2,.slice a3 m3 k3],.slice la ln lk,.slice ma mn mk] w fun e w'=>e=.returned (.agg #[.int .i64 c,.int .i64 0,.int .i64 0,.int .i64 0,.int .i64 0])∧Below w.heap.size w w':=by
 have SS:=hid hs
 have hc2:(c !=0)=true:=by simpa using hc
 clear hs hc
 generalize hW:(w.alloc (.cells #[.slice a0 m0 k0,.int .i64 H.pc,.slice a1 m1 k1,.bool H.halted,.bool H.waiting,.bool H.rung,.int .i64 H.done,.slice a2 m2 k2,.slice a3 m3 k3] 26)).alloc (.cells #[.int .i64 0,.int .i64 0,.int .i64 0,.int .i64 0,.int .i64 0] 45)=W
 have B0:Hid (Below w.heap.size w W):=by show Below _ _ _;rw[←hW];exact al (al (Below.refl _ _) _) _
 obtain⟨s,hS⟩:∃s,w.heap.size=s:=⟨_,rfl⟩
 have HS:=hid hS
 have VA:Hid (Vb W s #[.slice a0 m0 k0,.int .i64 H.pc,.slice a1 m1 k1,.bool H.halted,.bool H.waiting,.bool H.rung,.int .i64 H.done,.slice a2 m2 k2,.slice a3 m3 k3] 26):=by
  show Vb _ _ _ _;rw[←hW,←hS];exact(Vb.new _ _ _).push _
 have VR:Hid (Vb W (s+1) #[.int .i64 0,.int .i64 0,.int .i64 0,.int .i64 0,.int .i64 0] 45):=by
  have z1:s+1=(w.alloc (.cells #[.slice a0 m0 k0,.int .i64 H.pc,.slice a1 m1 k1,.bool H.halted,.bool H.waiting,.bool H.rung,.int .i64 H.done,.slice a2 m2 k2,.slice a3 m3 k3] 26)).heap.size:=by rw[←hS];simp
  show Vb _ _ _ _;rw[←hW,z1];exact Vb.new _ _ _
 obtain⟨q0,q1,q2,q3,q4,q5,q6,q7,q8⟩:=zc9 VA.out
 go_enter Tryz.func18,Tryz.ntmps18
 go_wp2_with fail
 clear hW hS q0 q1 q2 q3 q4 q5 q6 q7 q8
 refine(SS.out.1 W B0.out).mono ?_
 rintro e w1⟨rfl,b1⟩
 have B1:=hid (on B0.out b1)
 have VR1:=hid (VR.out.keep b1)
 clear b1 VA VR
 obtain⟨p0,p1,p2,p3,p4⟩:=zc5 VR1.out
 obtain⟨f0,f1,f2,f3,f4⟩:=zf5 VR1.out
 go_wp2_with fail
 have NN:Hid (_∧_):=fiveX VR1.out (.int .i64 c) (.int .i64 0) (.int .i64 0) (.int .i64 0) (.int .i64 0)
 clear p0 f0 p1 f1 p2 f2 p3 f3 p4 f4
 generalize (((((w1.setCell ⟨s+1,0,none⟩ (.int .i64 c)).setCell ⟨s+1,1,none⟩ (.int .i64 0)).setCell ⟨s+1,2,none⟩ (.int .i64 0)).setCell ⟨s+1,3,none⟩ (.int .i64 0)).setCell ⟨s+1,4,none⟩ (.int .i64 0))=V at*
 obtain⟨x0,x1,x2,x3,x4⟩:=zc5 NN.out.1
 exact bodyPost_ret (v:=.agg #[.int .i64 c,.int .i64 0,.int .i64 0,.int .i64 0,.int .i64 0]) (by simp[results,Tryz.results18,go_sem,x0,x1,x2,x3,x4]) rfl
  ⟨rfl,Mq.under B1.out NN.out.2 fun k e=>by have:=HS.out;omega⟩
theorem sb_next(a0:Option Addr)(m0 k0:Nat)(a1:Option Addr)(m1 k1:Nat)(a2:Option Addr)(m2 k2:Nat)(a3:Option Addr)(m3 k3:Nat)(H:Ht)(la:Option Addr)(ln lk:Nat)(ma:Option Addr)(mn mk:Nat)(c:Int)(w:World)(hs:Sees w a0 m0 k0 a1 m1 k1 a2 m2 k2 a3 m3 k3 H la ln lk ma mn mk c)(hc:c≠0):
  Calls Tryz.prog 19 #[.agg #[.slice a0 m0 k0,.int .i64 H.pc,.slice a1 m1 k1,.bool H.halted,.bool H.waiting,.bool H.rung,.int .i64 H.done,.slice a2 m2 k2,.slice a3 m3 k3],.slice la ln lk,.slice ma mn mk] w fun e w'=>e=.returned (.agg #[.int .i64 c,.int .i64 0,.int .i64 0,.int .i64 0,.int .i64 0])∧Below w.heap.size w w':=by
 have SS:=hid hs
 have hc2:(c !=0)=true:=by simpa using hc
 clear hs hc
 generalize hW:(w.alloc (.cells #[.slice a0 m0 k0,.int .i64 H.pc,.slice a1 m1 k1,.bool H.halted,.bool H.waiting,.bool H.rung,.int .i64 H.done,.slice a2 m2 k2,.slice a3 m3 k3] 26)).alloc (.cells #[.int .i64 0,.int .i64 0,.int .i64 0,.int .i64 0,.int .i64 0] 45)=W
 have B0:Hid (Below w.heap.size w W):=by show Below _ _ _;rw[←hW];exact al (al (Below.refl _ _) _) _
 obtain⟨s,hS⟩:∃s,w.heap.size=s:=⟨_,rfl⟩
 have HS:=hid hS
 have VA:Hid (Vb W s #[.slice a0 m0 k0,.int .i64 H.pc,.slice a1 m1 k1,.bool H.halted,.bool H.waiting,.bool H.rung,.int .i64 H.done,.slice a2 m2 k2,.slice a3 m3 k3] 26):=by
  show Vb _ _ _ _;rw[←hW,←hS];exact(Vb.new _ _ _).push _
 have VR:Hid (Vb W (s+1) #[.int .i64 0,.int .i64 0,.int .i64 0,.int .i64 0,.int .i64 0] 45):=by
  have z1:s+1=(w.alloc (.cells #[.slice a0 m0 k0,.int .i64 H.pc,.slice a1 m1 k1,.bool H.halted,.bool H.waiting,.bool H.rung,.int .i64 H.done,.slice a2 m2 k2,.slice a3 m3 k3] 26)).heap.size:=by rw[←hS];simp
  show Vb _ _ _ _;rw[←hW,z1];exact Vb.new _ _ _
 go_enter Tryz.func19,Tryz.ntmps19
 go_wp2_with fail
 clear hW hS
 refine(SS.out.2 W s B0.out VA.out).mono ?_
 rintro e w1⟨rfl,b1⟩
 have B1:=hid (on B0.out b1)
 have VR1:=hid (VR.out.keep b1)
 clear b1 VA VR
 obtain⟨p0,p1,p2,p3,p4⟩:=zc5 VR1.out
 obtain⟨f0,f1,f2,f3,f4⟩:=zf5 VR1.out
 go_wp2_with fail
 have NN:Hid (_∧_):=fiveX VR1.out (.int .i64 c) (.int .i64 0) (.int .i64 0) (.int .i64 0) (.int .i64 0)
 clear p0 f0 p1 f1 p2 f2 p3 f3 p4 f4
 generalize (((((w1.setCell ⟨s+1,0,none⟩ (.int .i64 c)).setCell ⟨s+1,1,none⟩ (.int .i64 0)).setCell ⟨s+1,2,none⟩ (.int .i64 0)).setCell ⟨s+1,3,none⟩ (.int .i64 0)).setCell ⟨s+1,4,none⟩ (.int .i64 0))=V at*
 obtain⟨x0,x1,x2,x3,x4⟩:=zc5 NN.out.1
 exact bodyPost_ret (v:=.agg #[.int .i64 c,.int .i64 0,.int .i64 0,.int .i64 0,.int .i64 0]) (by simp[results,Tryz.results19,go_sem,x0,x1,x2,x3,x4]) rfl
  ⟨rfl,Mq.under B1.out NN.out.2 fun k e=>by have:=HS.out;omega⟩
theorem drawNextIns{w:World}{a:Option Addr}{len cap:Nat}{zs:List Int}(hr:IsRow .u8 w a len cap zs):
  Calls Tryz.prog 17 #[.slice a len cap] w fun e w'=>∃a0 m0 k0 a1 m1 k1 a2 m2 k2 a3 m3 k3 H la ln lk ma mn mk,e=.returned (.tuple #[.agg #[.slice a0 m0 k0,.int .i64 H.pc,.slice a1 m1 k1,.bool H.halted,.bool H.waiting,.bool H.rung,.int .i64 H.done,.slice a2 m2 k2,.slice a3 m3 k3],.slice la ln lk,.slice ma mn mk])∧Hz w' w.heap.size a0 m0 k0 a1 m1 k1 a2 m2 k2 a3 m3 k3 H∧Drawn8 w' w.heap.size (.slice la ln lk)∧DrawnM w' w.heap.size (.slice ma mn mk)∧Below w.heap.size w w':=by
 obtain⟨R,hR⟩:∃R,w.heap.size=R:=⟨_,rfl⟩
 have HR:=hid hR
 obtain⟨b,hb⟩:∃b,(w.alloc (.cells #[.slice none 0 0,.int .i64 0,.slice none 0 0,.bool false,.bool false,.bool false,.int .i64 0,.slice none 0 0,.slice none 0 0] 26)).heap.size=b:=⟨_,rfl⟩
 have HB:Hid (R<b):=by show _<_;rw[←hb,←hR];simp
 have TW:Hid (Below w.heap.size w (w.alloc (.cells #[.slice none 0 0,.int .i64 0,.slice none 0 0,.bool false,.bool false,.bool false,.int .i64 0,.slice none 0 0,.slice none 0 0] 26))):=(Below.refl _ _).alloc (Nat.le_refl _) _
 have VW:Hid (Vb (w.alloc (.cells #[.slice none 0 0,.int .i64 0,.slice none 0 0,.bool false,.bool false,.bool false,.int .i64 0,.slice none 0 0,.slice none 0 0] 26)) R #[.slice none 0 0,.int .i64 0,.slice none 0 0,.bool false,.bool false,.bool false,.int .i64 0,.slice none 0 0,.slice none 0 0] 26):=by show Vb _ _ _ _;rw[←hR];exact Vb.new _ _ _
 have RW:Hid (IsRow .u8 (w.alloc (.cells #[.slice none 0 0,.int .i64 0,.slice none 0 0,.bool false,.bool false,.bool false,.int .i64 0,.slice none 0 0,.slice none 0 0] 26)) a len cap zs):=hr.below TW.out
 clear hr
 go_enter Tryz.func17,Tryz.ntmps17
 go_wp2_with fail
 generalize w.alloc (.cells #[.slice none 0 0,.int .i64 0,.slice none 0 0,.bool false,.bool false,.bool false,.int .i64 0,.slice none 0 0,.slice none 0 0] 26)=W at*
 refine(source_any RW.out).mono ?_
 rintro e w1⟨rfl,b1,s1⟩
 have V1:=hid (VW.out.keep b1)
 have B1:Hid (Below w.heap.size w w1):=TW.out.trans (b1.mono TW.out.size)
 rw[hb]at s1 b1 ⊢
 have S1:=hid s1
 clear s1 b1 hb hR
 go_wp2_with fail
 refine(world_any S1.out (by decide)).mono ?_
 rintro e w2⟨a0,m0,k0,a1,m1,k1,a2,m2,k2,a3,m3,k3,H,vl,vm,rfl,hz,hl,hm,t2,k',hk',s2⟩
 obtain⟨la,ln,lk,rfl⟩:=hl.drawn.shape
 obtain⟨ma,mn,mk,rfl⟩:=drawnM_shape hm
 have VR:Hid (Vb w2 R #[.slice none 0 0,.int .i64 0,.slice none 0 0,.bool false,.bool false,.bool false,.int .i64 0,.slice none 0 0,.slice none 0 0] 26):=(turn_mq t2).vb V1.out (by have:=HB.out;omega)
 have GG:Hid (Hz w2 w1.heap.size a0 m0 k0 a1 m1 k1 a2 m2 k2 a3 m3 k3 H∧Drawn8 w2 w1.heap.size (.slice la ln lk)∧DrawnM w2 w1.heap.size (.slice ma mn mk)∧Below w.heap.size w w2):=⟨hz,hl,hm,B1.out.trans (t2.below (by have:=HR.out;have:=HB.out;omega) B1.out.size)⟩
 have LL:Hid (w.heap.size=R∧R<w1.heap.size∧w.heap.size≤w1.heap.size):=⟨HR.out,V1.out.lt,B1.out.size⟩
 clear hz hl hm t2 hk' s2
 obtain⟨r0,r1,r2,r3,r4,r5,r6,r7,r8⟩:=zc9 VR.out
 obtain⟨f0,f1,f2,f3,f4,f5,f6,f7,f8⟩:=zf9 VR.out
 go_wp2_with fail
 obtain⟨V,hzV,NN⟩:=zE9 VR.out (.slice a0 m0 k0) (.int .i64 H.pc) (.slice a1 m1 k1) (.bool H.halted) (.bool H.waiting) (.bool H.rung) (.int .i64 H.done) (.slice a2 m2 k2) (.slice a3 m3 k3)
 clear r0 f0 r1 f1 r2 f2 r3 f3 r4 f4 r5 f5 r6 f6 r7 f7 r8 f8
 rw[hzV]
 clear hzV
 obtain⟨x0,x1,x2,x3,x4,x5,x6,x7,x8⟩:=zc9 NN.out.1
 have hl:=LL.out
 have hg:=GG.out.2.2.2
 exact bodyPost_ret (v:=.tuple #[.agg #[.slice a0 m0 k0,.int .i64 H.pc,.slice a1 m1 k1,.bool H.halted,.bool H.waiting,.bool H.rung,.int .i64 H.done,.slice a2 m2 k2,.slice a3 m3 k3],.slice la ln lk,.slice ma mn mk]) (by simp[results,Tryz.results17,go_sem,x0,x1,x2,x3,x4,x5,x6,x7,x8]) rfl
  ⟨_,_,_,_,_,_,_,_,_,_,_,_,H,_,_,_,_,_,_,rfl,(GG.out.1.mq NN.out.2 (fun k e1 e2 e=>by omega)).mono (by omega),(GG.out.2.1.mq NN.out.2 (fun k e1 e2 e=>by omega)).mono (by omega),drawnM_mq GG.out.2.2.1 NN.out.2 (by omega) (by omega),
   ⟨NN.out.2.os.trans hg.os,NN.out.2.tape.trans hg.tape,NN.out.2.output.trans hg.output,Nat.le_trans hg.size NN.out.2.size,fun x hx=>(NN.out.2.block x (Nat.lt_of_lt_of_le hx hg.size) (by omega)).trans (hg.block x hx)⟩⟩
theorem drH_hok{H:Ht}(K:Hok H)(k:Int):Hok (drH H k):=by
 unfold drH
 split
 ·exact tail_hok K
 ·exact K
theorem dwW_hok{H:Ht}(K:Hok H)(k:Int){x:Int}(hx:isW x=true):Hok (dwW H k x):=by
 unfold dwW
 split
 ·unfold outW
  split
  ·exact out_hok K hx (by assumption)
  ·exact K
 ·split
  ·exact setW_hok K (by decide) (by decide) hx
  ·split
   ·exact setW_hok K (by decide) (by decide) hx
   ·exact K
theorem loadH_hok{H:Ht}(K:Hok H)(ps:List (Int×Int))(zs:List Int)(x:Int):Hok (loadH H ps zs x):=by
 unfold loadH
 split
 ·exact K
 ·exact drH_hok K _
theorem storeH_hok{H:Ht}(K:Hok H)(ps:List (Int×Int))(zs:List Int)(x:Int){y:Int}(hy:isW y=true):Hok (storeH H ps zs x y):=by
 unfold storeH
 split
 ·exact K
 ·exact dwW_hok K _ hy
theorem storeZ_len(H:Ht)(ps:List (Int×Int))(zs:List Int)(x y:Int):(storeZ H ps zs x y).length=zs.length:=by
 unfold storeZ
 split
 ·simp
 ·rfl
theorem storeZ_word{zs:List Int}(hz:zs.all isW=true)(H:Ht)(ps:List (Int×Int))(x:Int){y:Int}(hy:isW y=true):(storeZ H ps zs x y).all isW=true:=by
 unfold storeZ
 split
 ·exact all_set hz hy
 ·exact hz
theorem wait_hok{H:Ht}(K:Hok H)(b:Bool):Hok { H with waiting:=b}:=⟨K.r16,K.c11,K.r0,K.rw,K.pw,K.cw,K.iw,K.ow,K.i40,K.o40,K.d0,K.d9,K.st⟩
theorem halt_hok{H:Ht}(K:Hok H)(b:Bool):Hok { H with halted:=b}:=⟨K.r16,K.c11,K.r0,K.rw,K.pw,K.cw,K.iw,K.ow,K.i40,K.o40,K.d0,K.d9,K.st⟩
theorem doV_sn{H:Ht}{ps:List (Int×Int)}{zs:List Int}{p:Nat}(s:Sn H ps zs p)(ri op:Int)(d a:Nat)(im:Int)(hi:insC op d a im=0):Sn (doV H ps zs ri op d a im).H ps (doV H ps zs ri op d a im).zs p:=by
 have q:=ins_parts hi
 have k:=s.hok
 have wi:isW (im*65536)=true:=isW_iff.2 ⟨by omega,by omega⟩
 by_cases h12:op=12
 ·subst h12
  rw[show doV H ps zs ri 12 d a im=⟨none,(addV H.pc 1),putV H d (addV (gt H.regs a) (offV im)),zs,ri⟩from rfl]
  exact s.to_hok (putV_hok k (by omega) (by omega) (add_word _ _))
 by_cases h13:op=13
 ·subst h13
  rw[show doV H ps zs ri 13 d a im=⟨none,(addV H.pc 1),putV H d (im*65536),zs,ri⟩from rfl]
  exact s.to_hok (putV_hok k (by omega) (by omega) wi)
 by_cases h14:op=14
 ·subst h14
  rw[show doV H ps zs ri 14 d a im=if plC H ps zs (addV (gt H.regs a) (offV im)) 1=0 then⟨none,(addV H.pc 1),putV (loadH H ps zs (addV (gt H.regs a) (offV im))) d (loadW H ps zs (addV (gt H.regs a) (offV im))),zs,ri⟩else⟨some (3,(addV (gt H.regs a) (offV im))),0,H,zs,ri⟩from rfl]
  by_cases hz:plC H ps zs (addV (gt H.regs a) (offV im)) 1=0
  ·rw[if_pos hz]
   exact s.to_hok (putV_hok (loadH_hok k _ _ _) (by omega) (by omega) (load_word s hz))
  ·rw[if_neg hz]
   exact s
 by_cases h15:op=15
 ·subst h15
  rw[show doV H ps zs ri 15 d a im=if plC H ps zs (addV (gt H.regs a) (offV im)) 2=0 then⟨none,(addV H.pc 1),storeH H ps zs (addV (gt H.regs a) (offV im)) (gt H.regs d),storeZ H ps zs (addV (gt H.regs a) (offV im)) (gt H.regs d),storeR H ps zs (addV (gt H.regs a) (offV im)) (gt H.regs d) ri⟩else⟨some (4,(addV (gt H.regs a) (offV im))),0,H,zs,ri⟩from rfl]
  by_cases hz:plC H ps zs (addV (gt H.regs a) (offV im)) 2=0
  ·rw[if_pos hz]
   exact(s.to_hok (storeH_hok k _ _ _ (gt_isW k.rw d))).to_mem (storeZ_len _ _ _ _ _) (storeZ_word s.zw _ _ _ (gt_isW k.rw d))
  ·rw[if_neg hz]
   exact s
 by_cases h16:op=16
 ·subst h16
  rw[show doV H ps zs ri 16 d a im=⟨none,brV (gt H.regs d==gt H.regs a) (addV H.pc (offV im)) (addV H.pc 1),H,zs,ri⟩from rfl]
  exact s
 by_cases h17:op=17
 ·subst h17
  rw[show doV H ps zs ri 17 d a im=⟨none,brV (gt H.regs d !=gt H.regs a) (addV H.pc (offV im)) (addV H.pc 1),H,zs,ri⟩from rfl]
  exact s
 by_cases h18:op=18
 ·subst h18
  rw[show doV H ps zs ri 18 d a im=⟨none,brV (decide (sgn (gt H.regs d)<sgn (gt H.regs a))) (addV H.pc (offV im)) (addV H.pc 1),H,zs,ri⟩from rfl]
  exact s
 by_cases h19:op=19
 ·subst h19
  rw[show doV H ps zs ri 19 d a im=⟨none,addV H.pc (offV im),putV H d (addV H.pc 1),zs,ri⟩from rfl]
  exact s.to_hok (putV_hok k (by omega) (by omega) (add_word _ _))
 by_cases h20:op=20
 ·subst h20
  rw[show doV H ps zs ri 20 d a im=⟨none,(addV (gt H.regs a) (offV im)),putV H d (addV H.pc 1),zs,ri⟩from rfl]
  exact s.to_hok (putV_hok k (by omega) (by omega) (add_word _ _))
 by_cases h21:op=21
 ·subst h21
  rw[show doV H ps zs ri 21 d a im=⟨none,(addV H.pc 1),putV H d (getV H im),zs,ri⟩from rfl]
  exact s.to_hok (putV_hok k (by omega) (by omega) (get_word k (by omega) (q.2.2.2.2.2.2.2.2.2 (.inl rfl))))
 by_cases h22:op=22
 ·subst h22
  rw[show doV H ps zs ri 22 d a im=⟨none,(addV H.pc 1),setW H im (gt H.regs a),zs,ri⟩from rfl]
  exact s.to_hok (setW_hok k (by omega) (q.2.2.2.2.2.2.2.2.2 (.inr rfl)) (gt_isW k.rw a))
 by_cases h23:op=23
 ·subst h23
  rw[show doV H ps zs ri 23 d a im=⟨some (5,0),0,H,zs,ri⟩from rfl]
  exact s
 by_cases h24:op=24
 ·subst h24
  rw[show doV H ps zs ri 24 d a im=⟨none,(backV H).pc,backV H,zs,ri⟩from rfl]
  exact s.to_hok (backV_hok k)
 by_cases h25:op=25
 ·subst h25
  rw[show doV H ps zs ri 25 d a im=⟨none,(addV H.pc 1),{ H with waiting:=true},zs,ri⟩from rfl]
  exact s.to_hok (wait_hok k true)
 by_cases h26:op=26
 ·subst h26
  rw[show doV H ps zs ri 26 d a im=⟨none,H.pc,{ H with halted:=true},zs,ri⟩from rfl]
  exact s.to_hok (halt_hok k true)
 have e:doV H ps zs ri op d a im=⟨none,(addV H.pc 1),putV H d (aluV op (gt H.regs a) (gt H.regs im.toNat)),zs,ri⟩:=by
  unfold doV
  rw[if_neg h12,if_neg h13,if_neg h14,if_neg h15,if_neg h16,if_neg h17,if_neg h18,if_neg h19,if_neg h20,if_neg h21,if_neg h22,if_neg h23,if_neg h24,if_neg h25,if_neg h26]
 rw[e]
 exact s.to_hok (putV_hok k (by omega) (by omega) (alu_word _ _ _))
theorem fet_parts{v:Int}(hf:decF v=0):insC (v/16777216) (((v/1048576%16).toNat:Nat):Int) (((v/65536%16).toNat:Nat):Int) (v%65536)=0:=by
 have e1:(((v/1048576%16).toNat:Nat):Int)=v/1048576%16:=by omega
 have e2:(((v/65536%16).toNat:Nat):Int)=v/65536%16:=by omega
 rw[e1,e2]
 exact hf
theorem waitV_sn{H:Ht}{ps:List (Int×Int)}{zs:List Int}{p:Nat}(s:Sn H ps zs p):Sn (waitV H) ps zs p:=s.to_hok (wait_hok s.hok _)
theorem fetZ_word{H:Ht}{ps:List (Int×Int)}{zs:List Int}(h:zs.all isW=true):isW (fetZ H ps zs)=true:=isW_iff.2 (all_at h _)
theorem stepV_sn{H:Ht}{ps:List (Int×Int)}{zs:List Int}{p:Nat}(s:Sn H ps zs p)(ca ri:Int):Sn (stepV H ps zs ca ri).1 ps (stepV H ps zs ca ri).2.1 p:=by
 have k:=s.hok
 have sw:=waitV_sn s
 unfold stepV
 by_cases h1:H.halted=true
 ·rw[if_pos h1];exact s
 rw[if_neg h1]
 by_cases h2:¬dueV H<0
 ·rw[if_pos h2]
  have:=due_le H
  exact s.to_hok (trapV_hok k _ _ (by omega) (by omega) (by decide))
 rw[if_neg h2]
 by_cases h3:(waitV H).waiting=true
 ·rw[if_pos h3];exact sw
 rw[if_neg h3]
 by_cases h4:¬plC (waitV H) ps zs H.pc 4=0
 ·rw[if_pos h4];exact sw.to_hok (trapV_hok sw.hok _ _ (by decide) (by decide) k.pw)
 rw[if_neg h4]
 by_cases h5:¬decF (fetZ (waitV H) ps zs)=0
 ·rw[if_pos h5];exact sw.to_hok (trapV_hok sw.hok _ _ (by decide) (by decide) (fetZ_word s.zw))
 rw[if_neg h5]
 have hf:decF (fetZ (waitV H) ps zs)=0:=by simpa using h5
 have d:=doV_sn sw ri _ _ _ _ (fet_parts hf)
 have wd:=doV_word sw.hok ps zs ri (fetZ (waitV H) ps zs/16777216) (fetZ (waitV H) ps zs/1048576%16).toNat (fetZ (waitV H) ps zs/65536%16).toNat (fetZ (waitV H) ps zs%65536)
 generalize doV (waitV H) ps zs ri (fetZ (waitV H) ps zs/16777216) (fetZ (waitV H) ps zs/1048576%16).toNat (fetZ (waitV H) ps zs/65536%16).toNat (fetZ (waitV H) ps zs%65536)=D at*
 obtain⟨t,n,G,ys,rj⟩:=D
 cases t with
 |none=>exact d.to_hok (more_hok (done_hok d.hok (wd.1 rfl)))
 |some ct=>
  obtain⟨c,t⟩:=ct
  exact d.to_hok (trapV_hok d.hok _ _ (wd.2 c t rfl).1 (wd.2 c t rfl).2.1 (wd.2 c t rfl).2.2)
def manyV(ps:List (Int×Int)):Nat→Ht×List Int×Int×Int→Ht×List Int×Int×Int
 |0,x=>x
 |n+1,x=>stepV (manyV ps n x).1 ps (manyV ps n x).2.1 (manyV ps n x).2.2.1 (manyV ps n x).2.2.2
theorem manyV_sn{ps:List (Int×Int)}{p:Nat}(n:Nat){x:Ht×List Int×Int×Int}(s:Sn x.1 ps x.2.1 p):Sn (manyV ps n x).1 ps (manyV ps n x).2.1 p:=by
 induction n with
 |zero=>exact s
 |succ n ih=>exact stepV_sn ih _ _
structure Smr where
 code:Int
 ca:Int
 ri:Int
 H:Ht
 zs:List Int
def smV(H:Ht)(ps:List (Int×Int))(zs:List Int)(n:Int):Smr:=if seenC H ps zs=0 then(if 0≤n∧n≤500 then⟨0,(manyV ps n.toNat (H,zs, -1, -1)).2.2.1,(manyV ps n.toNat (H,zs, -1, -1)).2.2.2,(manyV ps n.toNat (H,zs, -1, -1)).1,(manyV ps n.toNat (H,zs, -1, -1)).2.1⟩else⟨3,0,0,voidH,[]⟩)else⟨seenC H ps zs,0,0,voidH,[]⟩
structure Tm(w:World)(base:Nat)(r c i o m:Value)(H:Ht)(zs:List Int):Prop where
 h:Hm w base r c i o H
 a:Ha r c i o
 mm:Nums w base m zs
 rm:Apt r m
 cm:Apt c m
 im:Apt i m
 om:Apt o m
theorem Tm.keep{w w':World}{base:Nat}{r c i o m:Value}{H:Ht}{zs:List Int}(s:Tm w base r c i o m H zs)(b:Below w.heap.size w w'):Tm w' base r c i o m H zs:=
 ⟨s.h.keep b,s.a,s.mm.keep b,s.rm,s.cm,s.im,s.om⟩
theorem Tm.mono{w:World}{base base':Nat}{r c i o m:Value}{H:Ht}{zs:List Int}(s:Tm w base r c i o m H zs)(hb:base'≤base):Tm w base' r c i o m H zs:=
 ⟨s.h.mono hb,s.a,s.mm.mono hb,s.rm,s.cm,s.im,s.om⟩
theorem Tm.ho{w w':World}{base:Nat}{r c i o m:Value}{H:Ht}{zs:List Int}(s:Tm w base r c i o m H zs)(k:Ho base w w'):Tm w' base r c i o m H zs:=
 ⟨s.h.ho k,s.a,s.mm.ho k,s.rm,s.cm,s.im,s.om⟩
theorem Tm.void(w:World)(base:Nat):Tm w base (.slice none 0 0) (.slice none 0 0) (.slice none 0 0) (.slice none 0 0) (.slice none 0 0) voidH []:=
 ⟨⟨Nums.nil _ _,Nums.nil _ _,Nums.nil _ _,Nums.nil _ _⟩,⟨.inl rfl,.inl rfl,.inl rfl,.inl rfl,.inl rfl,.inl rfl⟩,Nums.nil _ _,.inl rfl,.inl rfl,.inl rfl,.inl rfl⟩
def Sj13(W:World)(q:Nat)(w':World):Prop:=Mq (fun k=>k=q) W w'∧w'.there q 0 13
theorem Sj13.step{W w w':World}{q:Nat}(h:Sj13 W q w)(hq:q<W.heap.size)(b:Below w.heap.size w w'):Sj13 W q w':=
 ⟨h.1.trans (Mq.of (below_grown b none) fun k e=>by cases e),there_below h.2 (Nat.lt_of_lt_of_le hq h.1.size) b⟩
theorem Sj13.set{W w:World}{q:Nat}(h:Sj13 W q w)(vs:List Value):Sj13 W q (w.setCells q 0 vs):=⟨h.1.trans (mq_cells q vs w 0),World.there_setCells h.2 _ _ _⟩
variable{v:World}{q:Nat}{t:TypeId}{z0 z1 z2 z3 z4 z5 z6 z7 z8 z9 z10 z11 z12:Value}
theorem thirteenX(h:Vb v q #[z0,z1,z2,z3,z4,z5,z6,z7,z8,z9,z10,z11,z12] t)(u0 u1 u2 u3 u4 u5 u6 u7 u8 u9 u10 u11 u12:Value):
  Vb (((((((((((((v.setCell ⟨q,0,none⟩ u0).setCell ⟨q,1,none⟩ u1).setCell ⟨q,2,none⟩ u2).setCell ⟨q,3,none⟩ u3).setCell ⟨q,4,none⟩ u4).setCell ⟨q,5,none⟩ u5).setCell ⟨q,6,none⟩ u6).setCell ⟨q,7,none⟩ u7).setCell ⟨q,8,none⟩ u8).setCell ⟨q,9,none⟩ u9).setCell ⟨q,10,none⟩ u10).setCell ⟨q,11,none⟩ u11).setCell ⟨q,12,none⟩ u12) q #[u0,u1,u2,u3,u4,u5,u6,u7,u8,u9,u10,u11,u12] t∧Mq (fun k=>k=q) v (((((((((((((v.setCell ⟨q,0,none⟩ u0).setCell ⟨q,1,none⟩ u1).setCell ⟨q,2,none⟩ u2).setCell ⟨q,3,none⟩ u3).setCell ⟨q,4,none⟩ u4).setCell ⟨q,5,none⟩ u5).setCell ⟨q,6,none⟩ u6).setCell ⟨q,7,none⟩ u7).setCell ⟨q,8,none⟩ u8).setCell ⟨q,9,none⟩ u9).setCell ⟨q,10,none⟩ u10).setCell ⟨q,11,none⟩ u11).setCell ⟨q,12,none⟩ u12):=by
 have h0:Vb (v.setCell ⟨q,0,none⟩ u0) q #[u0,z1,z2,z3,z4,z5,z6,z7,z8,z9,z10,z11,z12] t:=h.set 0 u0
 have h1:Vb ((v.setCell ⟨q,0,none⟩ u0).setCell ⟨q,1,none⟩ u1) q #[u0,u1,z2,z3,z4,z5,z6,z7,z8,z9,z10,z11,z12] t:=h0.set 1 u1
 have h2:Vb (((v.setCell ⟨q,0,none⟩ u0).setCell ⟨q,1,none⟩ u1).setCell ⟨q,2,none⟩ u2) q #[u0,u1,u2,z3,z4,z5,z6,z7,z8,z9,z10,z11,z12] t:=h1.set 2 u2
 have h3:Vb ((((v.setCell ⟨q,0,none⟩ u0).setCell ⟨q,1,none⟩ u1).setCell ⟨q,2,none⟩ u2).setCell ⟨q,3,none⟩ u3) q #[u0,u1,u2,u3,z4,z5,z6,z7,z8,z9,z10,z11,z12] t:=h2.set 3 u3
 have h4:Vb (((((v.setCell ⟨q,0,none⟩ u0).setCell ⟨q,1,none⟩ u1).setCell ⟨q,2,none⟩ u2).setCell ⟨q,3,none⟩ u3).setCell ⟨q,4,none⟩ u4) q #[u0,u1,u2,u3,u4,z5,z6,z7,z8,z9,z10,z11,z12] t:=h3.set 4 u4
 have h5:Vb ((((((v.setCell ⟨q,0,none⟩ u0).setCell ⟨q,1,none⟩ u1).setCell ⟨q,2,none⟩ u2).setCell ⟨q,3,none⟩ u3).setCell ⟨q,4,none⟩ u4).setCell ⟨q,5,none⟩ u5) q #[u0,u1,u2,u3,u4,u5,z6,z7,z8,z9,z10,z11,z12] t:=h4.set 5 u5
 have h6:Vb (((((((v.setCell ⟨q,0,none⟩ u0).setCell ⟨q,1,none⟩ u1).setCell ⟨q,2,none⟩ u2).setCell ⟨q,3,none⟩ u3).setCell ⟨q,4,none⟩ u4).setCell ⟨q,5,none⟩ u5).setCell ⟨q,6,none⟩ u6) q #[u0,u1,u2,u3,u4,u5,u6,z7,z8,z9,z10,z11,z12] t:=h5.set 6 u6
 have h7:Vb ((((((((v.setCell ⟨q,0,none⟩ u0).setCell ⟨q,1,none⟩ u1).setCell ⟨q,2,none⟩ u2).setCell ⟨q,3,none⟩ u3).setCell ⟨q,4,none⟩ u4).setCell ⟨q,5,none⟩ u5).setCell ⟨q,6,none⟩ u6).setCell ⟨q,7,none⟩ u7) q #[u0,u1,u2,u3,u4,u5,u6,u7,z8,z9,z10,z11,z12] t:=h6.set 7 u7
 have h8:Vb (((((((((v.setCell ⟨q,0,none⟩ u0).setCell ⟨q,1,none⟩ u1).setCell ⟨q,2,none⟩ u2).setCell ⟨q,3,none⟩ u3).setCell ⟨q,4,none⟩ u4).setCell ⟨q,5,none⟩ u5).setCell ⟨q,6,none⟩ u6).setCell ⟨q,7,none⟩ u7).setCell ⟨q,8,none⟩ u8) q #[u0,u1,u2,u3,u4,u5,u6,u7,u8,z9,z10,z11,z12] t:=h7.set 8 u8
 have h9:Vb ((((((((((v.setCell ⟨q,0,none⟩ u0).setCell ⟨q,1,none⟩ u1).setCell ⟨q,2,none⟩ u2).setCell ⟨q,3,none⟩ u3).setCell ⟨q,4,none⟩ u4).setCell ⟨q,5,none⟩ u5).setCell ⟨q,6,none⟩ u6).setCell ⟨q,7,none⟩ u7).setCell ⟨q,8,none⟩ u8).setCell ⟨q,9,none⟩ u9) q #[u0,u1,u2,u3,u4,u5,u6,u7,u8,u9,z10,z11,z12] t:=h8.set 9 u9
 have h10:Vb (((((((((((v.setCell ⟨q,0,none⟩ u0).setCell ⟨q,1,none⟩ u1).setCell ⟨q,2,none⟩ u2).setCell ⟨q,3,none⟩ u3).setCell ⟨q,4,none⟩ u4).setCell ⟨q,5,none⟩ u5).setCell ⟨q,6,none⟩ u6).setCell ⟨q,7,none⟩ u7).setCell ⟨q,8,none⟩ u8).setCell ⟨q,9,none⟩ u9).setCell ⟨q,10,none⟩ u10) q #[u0,u1,u2,u3,u4,u5,u6,u7,u8,u9,u10,z11,z12] t:=h9.set 10 u10
 have h11:Vb ((((((((((((v.setCell ⟨q,0,none⟩ u0).setCell ⟨q,1,none⟩ u1).setCell ⟨q,2,none⟩ u2).setCell ⟨q,3,none⟩ u3).setCell ⟨q,4,none⟩ u4).setCell ⟨q,5,none⟩ u5).setCell ⟨q,6,none⟩ u6).setCell ⟨q,7,none⟩ u7).setCell ⟨q,8,none⟩ u8).setCell ⟨q,9,none⟩ u9).setCell ⟨q,10,none⟩ u10).setCell ⟨q,11,none⟩ u11) q #[u0,u1,u2,u3,u4,u5,u6,u7,u8,u9,u10,u11,z12] t:=h10.set 11 u11
 have h12:Vb (((((((((((((v.setCell ⟨q,0,none⟩ u0).setCell ⟨q,1,none⟩ u1).setCell ⟨q,2,none⟩ u2).setCell ⟨q,3,none⟩ u3).setCell ⟨q,4,none⟩ u4).setCell ⟨q,5,none⟩ u5).setCell ⟨q,6,none⟩ u6).setCell ⟨q,7,none⟩ u7).setCell ⟨q,8,none⟩ u8).setCell ⟨q,9,none⟩ u9).setCell ⟨q,10,none⟩ u10).setCell ⟨q,11,none⟩ u11).setCell ⟨q,12,none⟩ u12) q #[u0,u1,u2,u3,u4,u5,u6,u7,u8,u9,u10,u11,u12] t:=h11.set 12 u12
 exact⟨h12,((((((((((((((Mq.refl (fun k=>k=q) v).set ⟨q,0,none⟩ u0 rfl).set ⟨q,1,none⟩ u1 rfl).set ⟨q,2,none⟩ u2 rfl).set ⟨q,3,none⟩ u3 rfl).set ⟨q,4,none⟩ u4 rfl).set ⟨q,5,none⟩ u5 rfl).set ⟨q,6,none⟩ u6 rfl).set ⟨q,7,none⟩ u7 rfl).set ⟨q,8,none⟩ u8 rfl).set ⟨q,9,none⟩ u9 rfl).set ⟨q,10,none⟩ u10 rfl).set ⟨q,11,none⟩ u11 rfl).set ⟨q,12,none⟩ u12 rfl)⟩
theorem zE13(h:Vb v q #[z0,z1,z2,z3,z4,z5,z6,z7,z8,z9,z10,z11,z12] t)(u0 u1 u2 u3 u4 u5 u6 u7 u8 u9 u10 u11 u12:Value):∃V,(((((((((((((v.setCell ⟨q,0,none⟩ u0).setCell ⟨q,1,none⟩ u1).setCell ⟨q,2,none⟩ u2).setCell ⟨q,3,none⟩ u3).setCell ⟨q,4,none⟩ u4).setCell ⟨q,5,none⟩ u5).setCell ⟨q,6,none⟩ u6).setCell ⟨q,7,none⟩ u7).setCell ⟨q,8,none⟩ u8).setCell ⟨q,9,none⟩ u9).setCell ⟨q,10,none⟩ u10).setCell ⟨q,11,none⟩ u11).setCell ⟨q,12,none⟩ u12)=V∧Hid (Vb V q #[u0,u1,u2,u3,u4,u5,u6,u7,u8,u9,u10,u11,u12] t∧Mq (fun k=>k=q) v V):=⟨_,rfl,thirteenX h u0 u1 u2 u3 u4 u5 u6 u7 u8 u9 u10 u11 u12⟩
theorem r_result{w:World}{base q:Nat}{i o:Value}{pg pc:Nat}{ps:List (Int×Int)}{g p:Nat}{zs:List Int}{X:Nat→Prop}{H:Ht}{ca ri:Int}(R:Rw w base q i o pg pc ps g p zs H ca ri X):
  Calls Tryz.prog 37 #[.pointer (some ⟨q,0,none⟩)] w fun e w'=>∃r c i' o' m,e=.returned (.agg #[.int .i64 0,.int .i64 ca,.int .i64 ri,r,.int .i64 H.pc,c,.bool H.halted,.bool H.waiting,.bool H.rung,.int .i64 H.done,i',o',m])∧Tm w' w.heap.size r c i' o' m H zs∧Below w.heap.size w w':=by
 have HR:=hid R
 clear R
 generalize hW:w.alloc (.cells #[.int .i64 0,.int .i64 0,.int .i64 0,.slice none 0 0,.int .i64 0,.slice none 0 0,.bool false,.bool false,.bool false,.int .i64 0,.slice none 0 0,.slice none 0 0,.slice none 0 0] 31)=W
 have B0:Hid (Below w.heap.size w W):=by show Below _ _ _;rw[←hW];exact al (Below.refl _ _) _
 obtain⟨s,hs⟩:∃s,w.heap.size=s:=⟨_,rfl⟩
 have HS:=hid hs
 have VR:Hid (Vb W s #[.int .i64 0,.int .i64 0,.int .i64 0,.slice none 0 0,.int .i64 0,.slice none 0 0,.bool false,.bool false,.bool false,.int .i64 0,.slice none 0 0,.slice none 0 0,.slice none 0 0] 31):=by show Vb _ _ _ _;rw[←hW,←hs];exact Vb.new _ _ _
 have LT:Hid (s<W.heap.size):=VR.out.lt
 have S0:Hid (Sj13 W s W):=⟨Mq.refl _ _,VR.out.there 13 (by decide)⟩
 have RS:Hid (∀w',Sj13 W s w'→Rw w' base q i o pg pc ps g p zs H ca ri X):=fun w' hs=>HR.out.keep (Mq.under B0.out hs.1 fun k e=>by have:=HS.out;omega)
 go_enter Tryz.func37,Tryz.ntmps37
 go_wp2_with fail
 clear hW hs
 have SD:Hid (Sj13 W s W.drew):=S0.out.step LT.out (Below.refl _ _).drew
 refine wp_region_held (S:=fun w'=>Sj13 W s w') (by kernel_rfl) ?_
 change wpAnyH _ _ _ _ _ _ _ _ (World.drew _)
 refine wpTd 0 3 (.pointer (some ⟨q,0,none⟩)) rfl SD.out ?_
 simp only[Act.put,zT,zZ,zS]
 refine wpTd 1 4 (.pointer (some ⟨q,0,none⟩)) rfl SD.out ?_
 simp only[Act.put,zT,zZ,zS]
 refine wpTd 2 5 (.pointer (some ⟨q,36,none⟩)) rfl SD.out ?_
 simp only[Act.put,zT,zZ,zS]
 refine wpTe 3 6 (.int .i64 ca) rfl (Or.inl ⟨by rfl,fun w' hs=>by have hc:w'.cell? ⟨q,36,none⟩=some (.int .i64 ca):=(RS.out w' hs).v.cell 36 rfl;go_simp⟩) SD.out ?_
 simp only[Act.put,zT,zZ,zS]
 refine wpTd 4 7 (.pointer (some ⟨q,0,none⟩)) rfl SD.out ?_
 simp only[Act.put,zT,zZ,zS]
 refine wpTd 5 8 (.pointer (some ⟨q,0,none⟩)) rfl SD.out ?_
 simp only[Act.put,zT,zZ,zS]
 refine wpTd 6 9 (.pointer (some ⟨q,37,none⟩)) rfl SD.out ?_
 simp only[Act.put,zT,zZ,zS]
 refine wpTe 7 10 (.int .i64 ri) rfl (Or.inl ⟨by rfl,fun w' hs=>by have hc:w'.cell? ⟨q,37,none⟩=some (.int .i64 ri):=(RS.out w' hs).v.cell 37 rfl;go_simp⟩) SD.out ?_
 simp only[Act.put,zT,zZ,zS]
 refine wpTd 8 11 (.pointer (some ⟨q,0,none⟩)) rfl SD.out ?_
 simp only[Act.put,zT,zZ,zS]
 refine wpTd 9 12 (.pointer (some ⟨q,0,none⟩)) rfl SD.out ?_
 simp only[Act.put,zT,zZ,zS]
 refine wpTd 10 13 (.pointer (some ⟨q,0,none⟩)) rfl SD.out ?_
 simp only[Act.put,zT,zZ,zS]
 refine wpTd 12 15 (.pointer (some ⟨q,0,none⟩)) rfl SD.out ?_
 simp only[Act.put,zT,zZ,zS]
 refine wpTd 13 16 (.pointer (some ⟨q,0,none⟩)) rfl SD.out ?_
 simp only[Act.put,zT,zZ,zS]
 refine wpTd 14 17 (.pointer (some ⟨q,35,none⟩)) rfl SD.out ?_
 simp only[Act.put,zT,zZ,zS]
 refine wpTe 15 18 (.slice (some ⟨g,0,none⟩) p p) rfl (Or.inl ⟨by rfl,fun w' hs=>by have hc:w'.cell? ⟨q,35,none⟩=some (.slice (some ⟨g,0,none⟩) p p):=(RS.out w' hs).v.cell 35 rfl;go_simp⟩) SD.out ?_
 simp only[Act.put,zT,zZ,zS]
 refine zR 11 rfl fun K hK=>?_
 rw[if_pos (by rfl)]
 go_simp
 have R1:=RS.out _ SD.out
 refine(r_hartr q i o _ _ ca ri H _ R1.v R1.hi (by obtain⟨bo,_,_,ho,_⟩:=R1.ho;exact ho.rv) R1.sn.hok.r16 R1.sn.hok.c11 (by have:=R1.sn.hok.i40;omega) (by have:=R1.sn.hok.o40;omega)).mono ?_
 clear R1
 rintro e w1⟨v0,v1,v2,v3,rfl,m1,A1,b1⟩
 obtain⟨xa0,xk0,e0,_⟩:=m1.r.shape
 obtain⟨xa1,xk1,e1,_⟩:=m1.c.shape
 obtain⟨xa2,xk2,e2,_⟩:=m1.i.shape
 obtain⟨xa3,xk3,e3,_⟩:=m1.o.shape
 subst e0 e1 e2 e3
 generalize hn0:H.regs.length=n0 at*
 generalize hn1:H.csr.length=n1 at*
 generalize hn2:H.inn.length=n2 at*
 generalize hn3:H.out.length=n3 at*
 have S1:Hid (Sj13 W s w1):=SD.out.step LT.out b1
 have N1:=hid m1
 have HA:Hid (Ha (.slice xa0 n0 xk0) (.slice xa1 n1 xk1) (.slice xa2 n2 xk2) (.slice xa3 n3 xk3)):=A1
 clear m1 b1 A1 hn0 hn1 hn2 hn3
 refine hK.out _ _ S1.out (fun _=>?_)
 clear hK K
 refine zR 16 rfl fun K hK=>?_
 rw[if_pos (by rfl)]
 go_simp
 have R2:=RS.out _ S1.out
 refine(impl_join g p p zs base w1 R2.pgs R2.sn.p24).mono ?_
 clear R2
 rintro e w2⟨v4,rfl,m2,b2⟩
 obtain⟨xa4,xk4,e4,_⟩:=m2.shape
 subst e4
 generalize hn4:zs.length=n4 at*
 have S2:Hid (Sj13 W s w2):=S1.out.step LT.out b2
 have N2:=hid m2
 have AM:Hid (Apt (.slice xa0 n0 xk0) (.slice xa4 n4 xk4)∧Apt (.slice xa1 n1 xk1) (.slice xa4 n4 xk4)∧Apt (.slice xa2 n2 xk2) (.slice xa4 n4 xk4)∧Apt (.slice xa3 n3 xk3) (.slice xa4 n4 xk4)):=⟨N1.out.r.apt m2 (Nat.le_refl _),N1.out.c.apt m2 (Nat.le_refl _),N1.out.i.apt m2 (Nat.le_refl _),N1.out.o.apt m2 (Nat.le_refl _)⟩
 have TM:Hid (Tm w2 W.heap.size (.slice xa0 n0 xk0) (.slice xa1 n1 xk1) (.slice xa2 n2 xk2) (.slice xa3 n3 xk3) (.slice xa4 n4 xk4) H zs):=⟨N1.out.keep b2,HA.out,m2.mono S1.out.1.size,AM.out.1,AM.out.2.1,AM.out.2.2.1,AM.out.2.2.2⟩
 clear m2 b2 hn4
 refine hK.out _ _ S2.out (fun _=>?_)
 clear hK K
 refine wpTd 17 20 (.agg #[.int .i64 0,.int .i64 ca,.int .i64 ri,.slice xa0 n0 xk0,.int .i64 H.pc,.slice xa1 n1 xk1,.bool H.halted,.bool H.waiting,.bool H.rung,.int .i64 H.done,.slice xa2 n2 xk2,.slice xa3 n3 xk3,.slice xa4 n4 xk4]) rfl S2.out ?_
 simp only[Act.put,zT,zZ,zS]
 refine zR 18 rfl fun K hK=>?_
 rw[if_pos (by rfl)]
 refine wp_store_mid 31 (.tmp 2) (.tmp 20) rfl s 0 #[.int .i64 0,.int .i64 ca,.int .i64 ri,.slice xa0 n0 xk0,.int .i64 H.pc,.slice xa1 n1 xk1,.bool H.halted,.bool H.waiting,.bool H.rung,.int .i64 H.done,.slice xa2 n2 xk2,.slice xa3 n3 xk3,.slice xa4 n4 xk4] rfl rfl S2.out.2 (by kernel_rfl) (by simp[Value.oneCell']) ?_
 change K (Act.put _ none undef) (World.setCells w2 s 0 [.int .i64 0,.int .i64 ca,.int .i64 ri,.slice xa0 n0 xk0,.int .i64 H.pc,.slice xa1 n1 xk1,.bool H.halted,.bool H.waiting,.bool H.rung,.int .i64 H.done,.slice xa2 n2 xk2,.slice xa3 n3 xk3,.slice xa4 n4 xk4])
 simp only[Act.put]
 have S3:Hid (Sj13 W s (w2.setCells s 0 [.int .i64 0,.int .i64 ca,.int .i64 ri,.slice xa0 n0 xk0,.int .i64 H.pc,.slice xa1 n1 xk1,.bool H.halted,.bool H.waiting,.bool H.rung,.int .i64 H.done,.slice xa2 n2 xk2,.slice xa3 n3 xk3,.slice xa4 n4 xk4])):=S2.out.set _
 have R3:Hid ((w2.setCells s 0 [.int .i64 0,.int .i64 ca,.int .i64 ri,.slice xa0 n0 xk0,.int .i64 H.pc,.slice xa1 n1 xk1,.bool H.halted,.bool H.waiting,.bool H.rung,.int .i64 H.done,.slice xa2 n2 xk2,.slice xa3 n3 xk3,.slice xa4 n4 xk4]).rangeAt s 0 [.int .i64 0,.int .i64 ca,.int .i64 ri,.slice xa0 n0 xk0,.int .i64 H.pc,.slice xa1 n1 xk1,.bool H.halted,.bool H.waiting,.bool H.rung,.int .i64 H.done,.slice xa2 n2 xk2,.slice xa3 n3 xk3,.slice xa4 n4 xk4]):=World.rangeAt_setCells_same _ _ _ _ S2.out.2
 have H3:Hid (Ho W.heap.size w2 (w2.setCells s 0 [.int .i64 0,.int .i64 ca,.int .i64 ri,.slice xa0 n0 xk0,.int .i64 H.pc,.slice xa1 n1 xk1,.bool H.halted,.bool H.waiting,.bool H.rung,.int .i64 H.done,.slice xa2 n2 xk2,.slice xa3 n3 xk3,.slice xa4 n4 xk4])):=(mq_cells s _ w2 0).ho fun k e=>by have:=LT.out;omega
 generalize w2.setCells s 0 [.int .i64 0,.int .i64 ca,.int .i64 ri,.slice xa0 n0 xk0,.int .i64 H.pc,.slice xa1 n1 xk1,.bool H.halted,.bool H.waiting,.bool H.rung,.int .i64 H.done,.slice xa2 n2 xk2,.slice xa3 n3 xk3,.slice xa4 n4 xk4]=w3 at*
 refine hK.out _ _ S3.out (fun _=>?_)
 clear hK K
 refine wpAnyH_done (by kernel_rfl) ?_ _
 have B3:Below w.heap.size w w3:=Mq.under B0.out S3.out.1 fun k e=>by have:=HS.out;omega
 have LD:=run_loadVar_mid (P:=Tryz.prog) w3 s 0 31 [.int .i64 0,.int .i64 ca,.int .i64 ri,.slice xa0 n0 xk0,.int .i64 H.pc,.slice xa1 n1 xk1,.bool H.halted,.bool H.waiting,.bool H.rung,.int .i64 H.done,.slice xa2 n2 xk2,.slice xa3 n3 xk3,.slice xa4 n4 xk4] _ R3.out Tryz.underlying31 rfl (by kernel_rfl)
 go_wp2_with fail
 exact bodyPost_ret (v:=.agg #[.int .i64 0,.int .i64 ca,.int .i64 ri,.slice xa0 n0 xk0,.int .i64 H.pc,.slice xa1 n1 xk1,.bool H.halted,.bool H.waiting,.bool H.rung,.int .i64 H.done,.slice xa2 n2 xk2,.slice xa3 n3 xk3,.slice xa4 n4 xk4]) (by simp[results,Tryz.results37,asAddr];rw[LD]) rfl
  ⟨_,_,_,_,_,rfl,(TM.out.ho H3.out).mono B0.out.size,B3⟩
theorem im_bad(r c i o:Value)(H:Ht)(pa:Option Addr)(pn pc:Nat)(ps:List (Int×Int))(ma:Option Addr)(mn mc:Nat)(zs:List Int)(n:Int)(b:Nat)(w:World)(h:Hm w b r c i o H)(hP:Prs 36 w b (.slice pa pn pc) ps)(hl:ps.length≤1048576)(hM:Nums w b (.slice ma mn mc) zs)(hm:zs.length≤1048576)(tab:Tab w)(tb:0<w.heap.size)(hf:¬seenC H ps zs=0):
  Calls Tryz.prog 13 #[.agg #[r,.int .i64 H.pc,c,.bool H.halted,.bool H.waiting,.bool H.rung,.int .i64 H.done,i,o],.slice pa pn pc,.slice ma mn mc,.int .i64 n] w fun e w'=>∃r' c' i' o' m',e=.returned (.agg #[.int .i64 (smV H ps zs n).code,.int .i64 (smV H ps zs n).ca,.int .i64 (smV H ps zs n).ri,r',.int .i64 (smV H ps zs n).H.pc,c',.bool (smV H ps zs n).H.halted,.bool (smV H ps zs n).H.waiting,.bool (smV H ps zs n).H.rung,.int .i64 (smV H ps zs n).H.done,i',o',m'])∧Tm w' w.heap.size r' c' i' o' m' (smV H ps zs n).H (smV H ps zs n).zs∧Below w.heap.size w w':=by
 have hv:smV H ps zs n=⟨seenC H ps zs,0,0,voidH,[]⟩:=if_neg hf
 rw[hv]
 obtain⟨f,hff⟩:∃f,seenC H ps zs=f:=⟨_,rfl⟩
 rw[hff]at hf ⊢
 have HF:=hid hff
 have hf2:(f !=0)=true:=by simpa using hf
 clear hv hff hf
 have HM:=hid h
 have HP:=hid hP
 have HZ:=hid hM
 have HL:Hid (ps.length≤1048576∧zs.length≤1048576):=⟨hl,hm⟩
 have HT:Hid (Tab w∧0<w.heap.size):=⟨tab,tb⟩
 obtain⟨a0,k0,rfl,_⟩:=h.r.shape
 obtain⟨a1,k1,rfl,_⟩:=h.c.shape
 obtain⟨a2,k2,rfl,_⟩:=h.i.shape
 obtain⟨a3,k3,rfl,_⟩:=h.o.shape
 clear h hP hl hM hm tab tb
 generalize hW:(w.alloc (.cells #[.slice a0 H.regs.length k0,.int .i64 H.pc,.slice a1 H.csr.length k1,.bool H.halted,.bool H.waiting,.bool H.rung,.int .i64 H.done,.slice a2 H.inn.length k2,.slice a3 H.out.length k3] 26)).alloc (.cells #[.int .i64 0,.int .i64 0,.int .i64 0,.slice none 0 0,.int .i64 0,.slice none 0 0,.bool false,.bool false,.bool false,.int .i64 0,.slice none 0 0,.slice none 0 0,.slice none 0 0] 31)=W
 have B0:Hid (Below w.heap.size w W):=by show Below _ _ _;rw[←hW];exact al (al (Below.refl _ _) _) _
 obtain⟨s,hS⟩:∃s,w.heap.size=s:=⟨_,rfl⟩
 have HS:=hid hS
 have VA:Hid (Vb W s #[.slice a0 H.regs.length k0,.int .i64 H.pc,.slice a1 H.csr.length k1,.bool H.halted,.bool H.waiting,.bool H.rung,.int .i64 H.done,.slice a2 H.inn.length k2,.slice a3 H.out.length k3] 26):=by
  show Vb _ _ _ _;rw[←hW,←hS];exact(Vb.new _ _ _).push _
 have VR:Hid (Vb W (s+1) #[.int .i64 0,.int .i64 0,.int .i64 0,.slice none 0 0,.int .i64 0,.slice none 0 0,.bool false,.bool false,.bool false,.int .i64 0,.slice none 0 0,.slice none 0 0,.slice none 0 0] 31):=by
  have z1:s+1=(w.alloc (.cells #[.slice a0 H.regs.length k0,.int .i64 H.pc,.slice a1 H.csr.length k1,.bool H.halted,.bool H.waiting,.bool H.rung,.int .i64 H.done,.slice a2 H.inn.length k2,.slice a3 H.out.length k3] 26)).heap.size:=by rw[←hS];simp
  show Vb _ _ _ _;rw[←hW,z1];exact Vb.new _ _ _
 obtain⟨q0,q1,q2,q3,q4,q5,q6,q7,q8⟩:=zc9 VA.out
 go_enter Tryz.func13,Tryz.ntmps13
 go_wp2_with fail
 clear hW hS q0 q1 q2 q3 q4 q5 q6 q7 q8
 refine(i_seen _ _ _ _ H pa pn pc ps ma mn mc zs b W (HM.out.keep B0.out) (HP.out.keep B0.out) HL.out.1 (HZ.out.keep B0.out) HL.out.2).mono ?_
 rintro e w1⟨rfl,b1⟩
 have B1:=hid (on B0.out b1)
 have VA1:=hid (VA.out.keep b1)
 have VR1:=hid (VR.out.keep b1)
 have M1:Hid (Hm w1 b _ _ _ _ H):=HM.out.keep B1.out
 have P1:=hid (HP.out.keep B1.out)
 have Z1:=hid (HZ.out.keep B1.out)
 clear b1 VA VR HM HP HZ
 rw[HF.out]
 obtain⟨p0,p1,p2,p3,p4,p5,p6,p7,p8,p9,p10,p11,p12⟩:=zc13 VR1.out
 obtain⟨f0,f1,f2,f3,f4,f5,f6,f7,f8,f9,f10,f11,f12⟩:=zf13 VR1.out
 go_wp2_with fail
 obtain⟨V,hzV,NN⟩:=zE13 VR1.out (.int .i64 f) (.int .i64 0) (.int .i64 0) (.slice none 0 0) (.int .i64 0) (.slice none 0 0) (.bool false) (.bool false) (.bool false) (.int .i64 0) (.slice none 0 0) (.slice none 0 0) (.slice none 0 0)
 clear p0 p1 p2 p3 p4 p5 p6 p7 p8 p9 p10 p11 p12 f0 f1 f2 f3 f4 f5 f6 f7 f8 f9 f10 f11 f12
 rw[hzV]
 clear hzV
 obtain⟨x0,x1,x2,x3,x4,x5,x6,x7,x8,x9,x10,x11,x12⟩:=zc13 NN.out.1
 exact bodyPost_ret (v:=.agg #[.int .i64 f,.int .i64 0,.int .i64 0,.slice none 0 0,.int .i64 0,.slice none 0 0,.bool false,.bool false,.bool false,.int .i64 0,.slice none 0 0,.slice none 0 0,.slice none 0 0]) (by simp[results,Tryz.results13,go_sem,x0,x1,x2,x3,x4,x5,x6,x7,x8,x9,x10,x11,x12]) rfl
  ⟨_,_,_,_,_,rfl,Tm.void _ _,Mq.under B1.out NN.out.2 fun k e=>by have:=HS.out;omega⟩
theorem im_low(r c i o:Value)(H:Ht)(pa:Option Addr)(pn pc:Nat)(ps:List (Int×Int))(ma:Option Addr)(mn mc:Nat)(zs:List Int)(n:Int)(b:Nat)(w:World)(h:Hm w b r c i o H)(hP:Prs 36 w b (.slice pa pn pc) ps)(hl:ps.length≤1048576)(hM:Nums w b (.slice ma mn mc) zs)(hm:zs.length≤1048576)(tab:Tab w)(tb:0<w.heap.size)(hf:seenC H ps zs=0)(hn:¬(0≤n∧n≤500))(h0:n<0):
  Calls Tryz.prog 13 #[.agg #[r,.int .i64 H.pc,c,.bool H.halted,.bool H.waiting,.bool H.rung,.int .i64 H.done,i,o],.slice pa pn pc,.slice ma mn mc,.int .i64 n] w fun e w'=>∃r' c' i' o' m',e=.returned (.agg #[.int .i64 (smV H ps zs n).code,.int .i64 (smV H ps zs n).ca,.int .i64 (smV H ps zs n).ri,r',.int .i64 (smV H ps zs n).H.pc,c',.bool (smV H ps zs n).H.halted,.bool (smV H ps zs n).H.waiting,.bool (smV H ps zs n).H.rung,.int .i64 (smV H ps zs n).H.done,i',o',m'])∧Tm w' w.heap.size r' c' i' o' m' (smV H ps zs n).H (smV H ps zs n).zs∧Below w.heap.size w w':=by
 have hv:smV H ps zs n=⟨3,0,0,voidH,[]⟩:=by unfold smV;rw[if_pos hf,if_neg hn]
 rw[hv]
 have HF:=hid hf
 clear hv hf
 have HM:=hid h
 have HP:=hid hP
 have HZ:=hid hM
 have HL:Hid (ps.length≤1048576∧zs.length≤1048576):=⟨hl,hm⟩
 have HT:Hid (Tab w∧0<w.heap.size):=⟨tab,tb⟩
 obtain⟨a0,k0,rfl,_⟩:=h.r.shape
 obtain⟨a1,k1,rfl,_⟩:=h.c.shape
 obtain⟨a2,k2,rfl,_⟩:=h.i.shape
 obtain⟨a3,k3,rfl,_⟩:=h.o.shape
 clear h hP hl hM hm tab tb
 generalize hW:(w.alloc (.cells #[.slice a0 H.regs.length k0,.int .i64 H.pc,.slice a1 H.csr.length k1,.bool H.halted,.bool H.waiting,.bool H.rung,.int .i64 H.done,.slice a2 H.inn.length k2,.slice a3 H.out.length k3] 26)).alloc (.cells #[.int .i64 0,.int .i64 0,.int .i64 0,.slice none 0 0,.int .i64 0,.slice none 0 0,.bool false,.bool false,.bool false,.int .i64 0,.slice none 0 0,.slice none 0 0,.slice none 0 0] 31)=W
 have B0:Hid (Below w.heap.size w W):=by show Below _ _ _;rw[←hW];exact al (al (Below.refl _ _) _) _
 obtain⟨s,hS⟩:∃s,w.heap.size=s:=⟨_,rfl⟩
 have HS:=hid hS
 have VA:Hid (Vb W s #[.slice a0 H.regs.length k0,.int .i64 H.pc,.slice a1 H.csr.length k1,.bool H.halted,.bool H.waiting,.bool H.rung,.int .i64 H.done,.slice a2 H.inn.length k2,.slice a3 H.out.length k3] 26):=by
  show Vb _ _ _ _;rw[←hW,←hS];exact(Vb.new _ _ _).push _
 have VR:Hid (Vb W (s+1) #[.int .i64 0,.int .i64 0,.int .i64 0,.slice none 0 0,.int .i64 0,.slice none 0 0,.bool false,.bool false,.bool false,.int .i64 0,.slice none 0 0,.slice none 0 0,.slice none 0 0] 31):=by
  have z1:s+1=(w.alloc (.cells #[.slice a0 H.regs.length k0,.int .i64 H.pc,.slice a1 H.csr.length k1,.bool H.halted,.bool H.waiting,.bool H.rung,.int .i64 H.done,.slice a2 H.inn.length k2,.slice a3 H.out.length k3] 26)).heap.size:=by rw[←hS];simp
  show Vb _ _ _ _;rw[←hW,z1];exact Vb.new _ _ _
 obtain⟨q0,q1,q2,q3,q4,q5,q6,q7,q8⟩:=zc9 VA.out
 go_enter Tryz.func13,Tryz.ntmps13
 go_wp2_with fail
 clear hW hS q0 q1 q2 q3 q4 q5 q6 q7 q8
 refine(i_seen _ _ _ _ H pa pn pc ps ma mn mc zs b W (HM.out.keep B0.out) (HP.out.keep B0.out) HL.out.1 (HZ.out.keep B0.out) HL.out.2).mono ?_
 rintro e w1⟨rfl,b1⟩
 have B1:=hid (on B0.out b1)
 have VA1:=hid (VA.out.keep b1)
 have VR1:=hid (VR.out.keep b1)
 have M1:Hid (Hm w1 b _ _ _ _ H):=HM.out.keep B1.out
 have P1:=hid (HP.out.keep B1.out)
 have Z1:=hid (HZ.out.keep B1.out)
 clear b1 VA VR HM HP HZ
 rw[HF.out]
 obtain⟨p0,p1,p2,p3,p4,p5,p6,p7,p8,p9,p10,p11,p12⟩:=zc13 VR1.out
 obtain⟨f0,f1,f2,f3,f4,f5,f6,f7,f8,f9,f10,f11,f12⟩:=zf13 VR1.out
 go_wp2_with fail
 obtain⟨V,hzV,NN⟩:=zE13 VR1.out (.int .i64 3) (.int .i64 0) (.int .i64 0) (.slice none 0 0) (.int .i64 0) (.slice none 0 0) (.bool false) (.bool false) (.bool false) (.int .i64 0) (.slice none 0 0) (.slice none 0 0) (.slice none 0 0)
 clear p0 p1 p2 p3 p4 p5 p6 p7 p8 p9 p10 p11 p12 f0 f1 f2 f3 f4 f5 f6 f7 f8 f9 f10 f11 f12
 rw[hzV]
 clear hzV
 obtain⟨x0,x1,x2,x3,x4,x5,x6,x7,x8,x9,x10,x11,x12⟩:=zc13 NN.out.1
 exact bodyPost_ret (v:=.agg #[.int .i64 3,.int .i64 0,.int .i64 0,.slice none 0 0,.int .i64 0,.slice none 0 0,.bool false,.bool false,.bool false,.int .i64 0,.slice none 0 0,.slice none 0 0,.slice none 0 0]) (by simp[results,Tryz.results13,go_sem,x0,x1,x2,x3,x4,x5,x6,x7,x8,x9,x10,x11,x12]) rfl
  ⟨_,_,_,_,_,rfl,Tm.void _ _,Mq.under B1.out NN.out.2 fun k e=>by have:=HS.out;omega⟩
theorem im_high(r c i o:Value)(H:Ht)(pa:Option Addr)(pn pc:Nat)(ps:List (Int×Int))(ma:Option Addr)(mn mc:Nat)(zs:List Int)(n:Int)(b:Nat)(w:World)(h:Hm w b r c i o H)(hP:Prs 36 w b (.slice pa pn pc) ps)(hl:ps.length≤1048576)(hM:Nums w b (.slice ma mn mc) zs)(hm:zs.length≤1048576)(tab:Tab w)(tb:0<w.heap.size)(hf:seenC H ps zs=0)(hn:¬(0≤n∧n≤500))(h0:¬n<0)(h5:500<n):
  Calls Tryz.prog 13 #[.agg #[r,.int .i64 H.pc,c,.bool H.halted,.bool H.waiting,.bool H.rung,.int .i64 H.done,i,o],.slice pa pn pc,.slice ma mn mc,.int .i64 n] w fun e w'=>∃r' c' i' o' m',e=.returned (.agg #[.int .i64 (smV H ps zs n).code,.int .i64 (smV H ps zs n).ca,.int .i64 (smV H ps zs n).ri,r',.int .i64 (smV H ps zs n).H.pc,c',.bool (smV H ps zs n).H.halted,.bool (smV H ps zs n).H.waiting,.bool (smV H ps zs n).H.rung,.int .i64 (smV H ps zs n).H.done,i',o',m'])∧Tm w' w.heap.size r' c' i' o' m' (smV H ps zs n).H (smV H ps zs n).zs∧Below w.heap.size w w':=by
 have hv:smV H ps zs n=⟨3,0,0,voidH,[]⟩:=by unfold smV;rw[if_pos hf,if_neg hn]
 rw[hv]
 have HF:=hid hf
 clear hv hf
 have hn0:0≤n:=by omega
 have HM:=hid h
 have HP:=hid hP
 have HZ:=hid hM
 have HL:Hid (ps.length≤1048576∧zs.length≤1048576):=⟨hl,hm⟩
 have HT:Hid (Tab w∧0<w.heap.size):=⟨tab,tb⟩
 obtain⟨a0,k0,rfl,_⟩:=h.r.shape
 obtain⟨a1,k1,rfl,_⟩:=h.c.shape
 obtain⟨a2,k2,rfl,_⟩:=h.i.shape
 obtain⟨a3,k3,rfl,_⟩:=h.o.shape
 clear h hP hl hM hm tab tb
 generalize hW:(w.alloc (.cells #[.slice a0 H.regs.length k0,.int .i64 H.pc,.slice a1 H.csr.length k1,.bool H.halted,.bool H.waiting,.bool H.rung,.int .i64 H.done,.slice a2 H.inn.length k2,.slice a3 H.out.length k3] 26)).alloc (.cells #[.int .i64 0,.int .i64 0,.int .i64 0,.slice none 0 0,.int .i64 0,.slice none 0 0,.bool false,.bool false,.bool false,.int .i64 0,.slice none 0 0,.slice none 0 0,.slice none 0 0] 31)=W
 have B0:Hid (Below w.heap.size w W):=by show Below _ _ _;rw[←hW];exact al (al (Below.refl _ _) _) _
 obtain⟨s,hS⟩:∃s,w.heap.size=s:=⟨_,rfl⟩
 have HS:=hid hS
 have VA:Hid (Vb W s #[.slice a0 H.regs.length k0,.int .i64 H.pc,.slice a1 H.csr.length k1,.bool H.halted,.bool H.waiting,.bool H.rung,.int .i64 H.done,.slice a2 H.inn.length k2,.slice a3 H.out.length k3] 26):=by
  show Vb _ _ _ _;rw[←hW,←hS];exact(Vb.new _ _ _).push _
 have VR:Hid (Vb W (s+1) #[.int .i64 0,.int .i64 0,.int .i64 0,.slice none 0 0,.int .i64 0,.slice none 0 0,.bool false,.bool false,.bool false,.int .i64 0,.slice none 0 0,.slice none 0 0,.slice none 0 0] 31):=by
  have z1:s+1=(w.alloc (.cells #[.slice a0 H.regs.length k0,.int .i64 H.pc,.slice a1 H.csr.length k1,.bool H.halted,.bool H.waiting,.bool H.rung,.int .i64 H.done,.slice a2 H.inn.length k2,.slice a3 H.out.length k3] 26)).heap.size:=by rw[←hS];simp
  show Vb _ _ _ _;rw[←hW,z1];exact Vb.new _ _ _
 obtain⟨q0,q1,q2,q3,q4,q5,q6,q7,q8⟩:=zc9 VA.out
 go_enter Tryz.func13,Tryz.ntmps13
 go_wp2_with fail
 clear hW hS q0 q1 q2 q3 q4 q5 q6 q7 q8
 refine(i_seen _ _ _ _ H pa pn pc ps ma mn mc zs b W (HM.out.keep B0.out) (HP.out.keep B0.out) HL.out.1 (HZ.out.keep B0.out) HL.out.2).mono ?_
 rintro e w1⟨rfl,b1⟩
 have B1:=hid (on B0.out b1)
 have VA1:=hid (VA.out.keep b1)
 have VR1:=hid (VR.out.keep b1)
 have M1:Hid (Hm w1 b _ _ _ _ H):=HM.out.keep B1.out
 have P1:=hid (HP.out.keep B1.out)
 have Z1:=hid (HZ.out.keep B1.out)
 clear b1 VA VR HM HP HZ
 rw[HF.out]
 obtain⟨p0,p1,p2,p3,p4,p5,p6,p7,p8,p9,p10,p11,p12⟩:=zc13 VR1.out
 obtain⟨f0,f1,f2,f3,f4,f5,f6,f7,f8,f9,f10,f11,f12⟩:=zf13 VR1.out
 go_wp2_with fail
 obtain⟨V,hzV,NN⟩:=zE13 VR1.out (.int .i64 3) (.int .i64 0) (.int .i64 0) (.slice none 0 0) (.int .i64 0) (.slice none 0 0) (.bool false) (.bool false) (.bool false) (.int .i64 0) (.slice none 0 0) (.slice none 0 0) (.slice none 0 0)
 clear p0 p1 p2 p3 p4 p5 p6 p7 p8 p9 p10 p11 p12 f0 f1 f2 f3 f4 f5 f6 f7 f8 f9 f10 f11 f12
 rw[hzV]
 clear hzV
 obtain⟨x0,x1,x2,x3,x4,x5,x6,x7,x8,x9,x10,x11,x12⟩:=zc13 NN.out.1
 exact bodyPost_ret (v:=.agg #[.int .i64 3,.int .i64 0,.int .i64 0,.slice none 0 0,.int .i64 0,.slice none 0 0,.bool false,.bool false,.bool false,.int .i64 0,.slice none 0 0,.slice none 0 0,.slice none 0 0]) (by simp[results,Tryz.results13,go_sem,x0,x1,x2,x3,x4,x5,x6,x7,x8,x9,x10,x11,x12]) rfl
  ⟨_,_,_,_,_,rfl,Tm.void _ _,Mq.under B1.out NN.out.2 fun k e=>by have:=HS.out;omega⟩
theorem im_good(r c i o:Value)(H:Ht)(pa:Option Addr)(pn pc:Nat)(ps:List (Int×Int))(ma:Option Addr)(mn mc:Nat)(zs:List Int)(n:Int)(b:Nat)(w:World)(h:Hm w b r c i o H)(hP:Prs 36 w b (.slice pa pn pc) ps)(hl:ps.length≤1048576)(hM:Nums w b (.slice ma mn mc) zs)(hm:zs.length≤1048576)(tab:Tab w)(tb:0<w.heap.size)(hf:seenC H ps zs=0)(hn:0≤n∧n≤500):
  Calls Tryz.prog 13 #[.agg #[r,.int .i64 H.pc,c,.bool H.halted,.bool H.waiting,.bool H.rung,.int .i64 H.done,i,o],.slice pa pn pc,.slice ma mn mc,.int .i64 n] w fun e w'=>∃r' c' i' o' m',e=.returned (.agg #[.int .i64 (smV H ps zs n).code,.int .i64 (smV H ps zs n).ca,.int .i64 (smV H ps zs n).ri,r',.int .i64 (smV H ps zs n).H.pc,c',.bool (smV H ps zs n).H.halted,.bool (smV H ps zs n).H.waiting,.bool (smV H ps zs n).H.rung,.int .i64 (smV H ps zs n).H.done,i',o',m'])∧Tm w' w.heap.size r' c' i' o' m' (smV H ps zs n).H (smV H ps zs n).zs∧Below w.heap.size w w':=by
 obtain⟨N,rfl⟩:∃N:Nat,n=(N:Int):=⟨n.toNat,by omega⟩
 have hv:smV H ps zs (N:Int)=⟨0,(manyV ps N (H,zs, -1, -1)).2.2.1,(manyV ps N (H,zs, -1, -1)).2.2.2,(manyV ps N (H,zs, -1, -1)).1,(manyV ps N (H,zs, -1, -1)).2.1⟩:=by unfold smV;rw[if_pos hf,if_pos hn];rfl
 rw[hv]
 obtain⟨Y,hY⟩:∃Y,manyV ps N (H,zs, -1, -1)=Y:=⟨_,rfl⟩
 rw[hY]
 have HY:=hid hY
 have HF:=hid hf
 have n5:(N:Int)≤500:=hn.2
 have n0:¬(N:Int)<0:=by omega
 have n6:¬(500:Int)<(N:Int):=by omega
 have HN:Hid (N≤500):=by show _≤_;omega
 clear hv hf hn hY
 have HM:=hid h
 have HP:=hid hP
 have HZ:=hid hM
 have HL:Hid (ps.length≤1048576∧zs.length≤1048576):=⟨hl,hm⟩
 have HT:Hid (Tab w∧0<w.heap.size):=⟨tab,tb⟩
 obtain⟨a0,k0,rfl,_⟩:=h.r.shape
 obtain⟨a1,k1,rfl,_⟩:=h.c.shape
 obtain⟨a2,k2,rfl,_⟩:=h.i.shape
 obtain⟨a3,k3,rfl,_⟩:=h.o.shape
 clear h hP hl hM hm tab tb
 generalize hW:(w.alloc (.cells #[.slice a0 H.regs.length k0,.int .i64 H.pc,.slice a1 H.csr.length k1,.bool H.halted,.bool H.waiting,.bool H.rung,.int .i64 H.done,.slice a2 H.inn.length k2,.slice a3 H.out.length k3] 26)).alloc (.cells #[.int .i64 0,.int .i64 0,.int .i64 0,.slice none 0 0,.int .i64 0,.slice none 0 0,.bool false,.bool false,.bool false,.int .i64 0,.slice none 0 0,.slice none 0 0,.slice none 0 0] 31)=W
 have B0:Hid (Below w.heap.size w W):=by show Below _ _ _;rw[←hW];exact al (al (Below.refl _ _) _) _
 obtain⟨s,hS⟩:∃s,w.heap.size=s:=⟨_,rfl⟩
 have HS:=hid hS
 have VA:Hid (Vb W s #[.slice a0 H.regs.length k0,.int .i64 H.pc,.slice a1 H.csr.length k1,.bool H.halted,.bool H.waiting,.bool H.rung,.int .i64 H.done,.slice a2 H.inn.length k2,.slice a3 H.out.length k3] 26):=by
  show Vb _ _ _ _;rw[←hW,←hS];exact(Vb.new _ _ _).push _
 have VR:Hid (Vb W (s+1) #[.int .i64 0,.int .i64 0,.int .i64 0,.slice none 0 0,.int .i64 0,.slice none 0 0,.bool false,.bool false,.bool false,.int .i64 0,.slice none 0 0,.slice none 0 0,.slice none 0 0] 31):=by
  have z1:s+1=(w.alloc (.cells #[.slice a0 H.regs.length k0,.int .i64 H.pc,.slice a1 H.csr.length k1,.bool H.halted,.bool H.waiting,.bool H.rung,.int .i64 H.done,.slice a2 H.inn.length k2,.slice a3 H.out.length k3] 26)).heap.size:=by rw[←hS];simp
  show Vb _ _ _ _;rw[←hW,z1];exact Vb.new _ _ _
 obtain⟨q0,q1,q2,q3,q4,q5,q6,q7,q8⟩:=zc9 VA.out
 go_enter Tryz.func13,Tryz.ntmps13
 go_wp2_with fail
 clear hW hS q0 q1 q2 q3 q4 q5 q6 q7 q8
 refine(i_seen _ _ _ _ H pa pn pc ps ma mn mc zs b W (HM.out.keep B0.out) (HP.out.keep B0.out) HL.out.1 (HZ.out.keep B0.out) HL.out.2).mono ?_
 rintro e w1⟨rfl,b1⟩
 have B1:=hid (on B0.out b1)
 have VA1:=hid (VA.out.keep b1)
 have VR1:=hid (VR.out.keep b1)
 have M1:Hid (Hm w1 b _ _ _ _ H):=HM.out.keep B1.out
 have P1:=hid (HP.out.keep B1.out)
 have Z1:=hid (HZ.out.keep B1.out)
 clear b1 VA VR HM HP HZ
 have hf:=HF.out
 rw[HF.out]
 obtain⟨p,sn⟩:=seen_ok hf
 have SN:=hid sn
 obtain rfl:mn=p*8:=by have:=Z1.out.len;have:=sn.zl;omega
 obtain⟨ga,gc,hv, -, -,hg⟩:=Z1.out.shape
 obtain⟨gm,hg⟩:=hg (by have:=sn.zl;have:=sn.p1;omega)
 simp only[Value.slice.injEq]at hv
 obtain⟨hv1, -, -⟩:=hv
 rw[hg]at hv1
 subst hv1
 clear hg
 obtain⟨pa',pc',hv, -, -,hg⟩:=P1.out.shape
 obtain⟨pg,hg⟩:=hg (by have:=sn.l8;omega)
 simp only[Value.slice.injEq]at hv
 obtain⟨hv1,hv2, -⟩:=hv
 rw[hg]at hv1
 subst hv1
 rw[sn.l8]at hv2
 subst hv2
 clear hg hf sn
 obtain⟨q0,q1,q2,q3,q4,q5,q6,q7,q8⟩:=zc9 VA1.out
 go_wp2_with fail
 clear q0 q1 q2 q3 q4 q5 q6 q7 q8
 refine(i_runnerX _ _ _ _ H (some ⟨pg,0,none⟩) 8 pc gm (p*8) mc zs b p w1 M1.out SN.out.hok Z1.out SN.out.zl SN.out.p24 SN.out.p1).mono ?_
 rintro e w2⟨i2,o2,g,rfl,mi,mo,ap,gs,b2,bo,bo1,bo2,bo3,bo4⟩
 obtain⟨xa,xk,rfl,_⟩:=mi.shape
 obtain⟨ya,yk,rfl,_⟩:=mo.shape
 have BI:=hid mi
 have BO:Hid (Nums w2 bo (.slice ya H.out.length yk) H.out∧w1.heap.size≤bo∧bo≤w2.heap.size∧∀k,(Value.slice xa H.inn.length xk).ownBlock=some k→k<bo∧k≠g):=⟨bo3,bo1,bo2,bo4⟩
 have hst:=mcr_store H xa H.inn.length xk ya H.out.length yk (some ⟨pg,0,none⟩) 8 pc (some ⟨g,0,none⟩) p p (-1) (-1) w2
 have hsz:=mcr_size H (.slice xa H.inn.length xk) (.slice ya H.out.length yk) (.slice (some ⟨pg,0,none⟩) 8 pc) (.slice (some ⟨g,0,none⟩) p p) (-1) (-1)
 generalize hxn:H.inn.length=xn at*
 generalize hyn:H.out.length=yn at*
 have GS:=hid gs
 have B2:=hid (on B1.out b2)
 have VR2:=hid (VR1.out.keep b2)
 have P2:=hid (P1.out.keep b2)
 have L2:Hid (w1.heap.size≤w2.heap.size):=b2.size
 clear mi mo ap b2 hxn hyn gs bo1 bo2 bo3 bo4
 go_upto_region 7 with fail
 generalize hW3:w2.alloc (.cells (mcr H (.slice xa xn xk) (.slice ya yn yk) (.slice (some ⟨pg,0,none⟩) 8 pc) (.slice (some ⟨g,0,none⟩) p p) (-1) (-1)) 78)=W3
 obtain⟨m,hm⟩:∃m,w2.heap.size=m:=⟨_,rfl⟩
 rw[hm]
 have V3:Vb W3 m (mcr H (.slice xa xn xk) (.slice ya yn yk) (.slice (some ⟨pg,0,none⟩) 8 pc) (.slice (some ⟨g,0,none⟩) p p) (-1) (-1)) 78:=by rw[←hW3,←hm];exact Vb.new _ _ _
 have bb:Below w2.heap.size w2 W3:=by rw[←hW3];exact al (Below.refl _ _) _
 have B3:=hid (on B2.out bb)
 have VR3:=hid (VR2.out.keep bb)
 have BA:Hid (s+2≤w1.heap.size∧w1.heap.size≤m∧w.heap.size≤w1.heap.size):=⟨by have:=VR1.out.lt;omega,by have:=L2.out;omega,B1.out.size⟩
 have RW0:Hid (∃i' o',Rw W3 w1.heap.size m i' o' pg pc ps g p zs H (-1) (-1) (fun _=>False)):=by
  refine⟨.slice xa xn xk,.slice ya yn yk,⟨V3,(BI.out.keep bb).rv,fun k e=>?_,⟨bo,BO.out.2.1,Nat.le_trans BO.out.2.2.1 bb.size,BO.out.1.keep bb,fun k e=>(BO.out.2.2.2 k e).1⟩,GS.out.keep bb,(P2.out.keep bb).mono (Nat.zero_le _),?_,BA.out.2.1,?_,SN.out,(HT.out.1.keep B2.out).keep bb,Nat.lt_of_lt_of_le HT.out.2 BA.out.2.2,fun k e=>e.elim⟩⟩
  ·obtain⟨h1,h2⟩:=BI.out.lt k e
   exact⟨h1,Nat.lt_of_lt_of_le h2 bb.size,by omega,(BO.out.2.2.2 k e).2⟩
  ·exact(P1.out.lt pg rfl).2
  ·have:=(World.ownsRow.lt GS.out g rfl).2
   omega
 clear hst hsz hW3 hm bb V3 GS P2 VR2 B2 BI BO L2
 go_wp2_with fail
 go_loopw [31] (fun k wr=>∃j:Nat,j≤N∧k=.int .i64 j∧(∃i' o',Rw wr w1.heap.size m i' o' pg pc ps g p (manyV ps j (H,zs, -1, -1)).2.1 (manyV ps j (H,zs, -1, -1)).1 (manyV ps j (H,zs, -1, -1)).2.2.1 (manyV ps j (H,zs, -1, -1)).2.2.2 (fun _=>False))∧Below w1.heap.size W3 wr) (fun k _=>N-(intOf k).toNat)
 case atStart=>exact⟨0,Nat.zero_le _,rfl,RW0.out,Below.refl _ _⟩
 case round=>
  obtain⟨j,hj,rfl,⟨i3,o3,hr⟩,hb⟩:=hrel
  have HR:Hid (Rw wr w1.heap.size m i3 o3 pg pc ps g p (manyV ps j (H,zs, -1, -1)).2.1 (manyV ps j (H,zs, -1, -1)).1 (manyV ps j (H,zs, -1, -1)).2.2.1 (manyV ps j (H,zs, -1, -1)).2.2.2 (fun _=>False)):=hr
  have HB:=hid hb
  clear hr hb
  by_cases hlt:j<N
  ·have hI:(j:Int)<(N:Int):=by omega
   have J:=hid hlt
   clear hlt
   have STEP:=r_step HR.out
   rw[show stepV (manyV ps j (H,zs, -1, -1)).1 ps (manyV ps j (H,zs, -1, -1)).2.1 (manyV ps j (H,zs, -1, -1)).2.2.1 (manyV ps j (H,zs, -1, -1)).2.2.2=manyV ps (j+1) (H,zs, -1, -1)from rfl]at STEP
   go_wp2_with (go_at_call 36;refine STEP.mono ?_;clear STEP;rintro e w4 ⟨rfl,i4,o4,r4,b4⟩)
   have HR4:Hid ((∃i' o',Rw w4 w1.heap.size m i' o' pg pc ps g p (manyV ps (j+1) (H,zs, -1, -1)).2.1 (manyV ps (j+1) (H,zs, -1, -1)).1 (manyV ps (j+1) (H,zs, -1, -1)).2.2.1 (manyV ps (j+1) (H,zs, -1, -1)).2.2.2 (fun _=>False))∧Below w1.heap.size W3 w4):=⟨⟨i4,o4,r4⟩,HB.out.trans b4⟩
   clear r4 b4
   go_wp2_with fail
   go_roundw
   case rel=>exact⟨j+1,by have:=J.out;omega,by go_num,HR4.out.1,HR4.out.2⟩
   case measure=>have:=J.out;simp[intOf];omega
  ·have hI:¬(j:Int)<(N:Int):=by omega
   obtain rfl:j=N:=by omega
   rw[HY.out]at HR
   have B5:Hid (Below w.heap.size w wr):=B3.out.trans (bless HB.out BA.out.2.2)
   have VR5:Hid (Vb wr (s+1) #[.int .i64 0,.int .i64 0,.int .i64 0,.slice none 0 0,.int .i64 0,.slice none 0 0,.bool false,.bool false,.bool false,.int .i64 0,.slice none 0 0,.slice none 0 0,.slice none 0 0] 31):=by
    show _=_
    rw[HB.out.block (s+1) (by have:=BA.out.1;omega)]
    exact VR3.out
   have RR:=r_result HR.out
   clear HR HY hlt hj
   go_wp2_with fail
   refine RR.mono ?_
   clear RR
   rintro e w6⟨u0,u1,u2,u3,u4,rfl,t6,b6⟩
   obtain⟨xa0,xk0,e0,_⟩:=t6.h.r.shape
   obtain⟨xa1,xk1,e1,_⟩:=t6.h.c.shape
   obtain⟨xa2,xk2,e2,_⟩:=t6.h.i.shape
   obtain⟨xa3,xk3,e3,_⟩:=t6.h.o.shape
   obtain⟨xa4,xk4,e4,_⟩:=t6.mm.shape
   subst e0 e1 e2 e3 e4
   generalize hn0:Y.1.regs.length=m0 at*
   generalize hn1:Y.1.csr.length=m1 at*
   generalize hn2:Y.1.inn.length=m2 at*
   generalize hn3:Y.1.out.length=m3 at*
   generalize hn4:Y.2.1.length=m4 at*
   have T6:Hid (Tm w6 w.heap.size (.slice xa0 m0 xk0) (.slice xa1 m1 xk1) (.slice xa2 m2 xk2) (.slice xa3 m3 xk3) (.slice xa4 m4 xk4) Y.1 Y.2.1):=t6.mono B5.out.size
   have T7:=hid t6
   have B6:=hid (on B5.out b6)
   have VR6:=hid (VR5.out.keep b6)
   have LR:Hid (s+1<wr.heap.size):=VR5.out.lt
   clear t6 b6 hn0 hn1 hn2 hn3 hn4
   obtain⟨p0,p1,p2,p3,p4,p5,p6,p7,p8,p9,p10,p11,p12⟩:=zc13 VR6.out
   obtain⟨f0,f1,f2,f3,f4,f5,f6,f7,f8,f9,f10,f11,f12⟩:=zf13 VR6.out
   go_wp2_with fail
   obtain⟨V,hzV,NN⟩:=zE13 VR6.out (.int .i64 0) (.int .i64 Y.2.2.1) (.int .i64 Y.2.2.2) (.slice xa0 m0 xk0) (.int .i64 Y.1.pc) (.slice xa1 m1 xk1) (.bool Y.1.halted) (.bool Y.1.waiting) (.bool Y.1.rung) (.int .i64 Y.1.done) (.slice xa2 m2 xk2) (.slice xa3 m3 xk3) (.slice xa4 m4 xk4)
   clear p0 p1 p2 p3 p4 p5 p6 p7 p8 p9 p10 p11 p12 f0 f1 f2 f3 f4 f5 f6 f7 f8 f9 f10 f11 f12
   rw[hzV]
   clear hzV
   have TV:Hid (Tm V w.heap.size (.slice xa0 m0 xk0) (.slice xa1 m1 xk1) (.slice xa2 m2 xk2) (.slice xa3 m3 xk3) (.slice xa4 m4 xk4) Y.1 Y.2.1):=(T7.out.ho (NN.out.2.ho fun k e=>by have:=LR.out;omega)).mono B5.out.size
   obtain⟨x0,x1,x2,x3,x4,x5,x6,x7,x8,x9,x10,x11,x12⟩:=zc13 NN.out.1
   exact bodyPost_ret (v:=.agg #[.int .i64 0,.int .i64 Y.2.2.1,.int .i64 Y.2.2.2,.slice xa0 m0 xk0,.int .i64 Y.1.pc,.slice xa1 m1 xk1,.bool Y.1.halted,.bool Y.1.waiting,.bool Y.1.rung,.int .i64 Y.1.done,.slice xa2 m2 xk2,.slice xa3 m3 xk3,.slice xa4 m4 xk4]) (by simp[results,Tryz.results13,go_sem,x0,x1,x2,x3,x4,x5,x6,x7,x8,x9,x10,x11,x12]) rfl
    ⟨_,_,_,_,_,rfl,TV.out,Mq.under B6.out NN.out.2 fun k e=>by have:=HS.out;omega⟩
theorem i_stepMany(r c i o:Value)(H:Ht)(pa:Option Addr)(pn pc:Nat)(ps:List (Int×Int))(ma:Option Addr)(mn mc:Nat)(zs:List Int)(n:Int)(b:Nat)(w:World)(h:Hm w b r c i o H)(hP:Prs 36 w b (.slice pa pn pc) ps)(hl:ps.length≤1048576)(hM:Nums w b (.slice ma mn mc) zs)(hm:zs.length≤1048576)(tab:Tab w)(tb:0<w.heap.size):
  Calls Tryz.prog 13 #[.agg #[r,.int .i64 H.pc,c,.bool H.halted,.bool H.waiting,.bool H.rung,.int .i64 H.done,i,o],.slice pa pn pc,.slice ma mn mc,.int .i64 n] w fun e w'=>∃r' c' i' o' m',e=.returned (.agg #[.int .i64 (smV H ps zs n).code,.int .i64 (smV H ps zs n).ca,.int .i64 (smV H ps zs n).ri,r',.int .i64 (smV H ps zs n).H.pc,c',.bool (smV H ps zs n).H.halted,.bool (smV H ps zs n).H.waiting,.bool (smV H ps zs n).H.rung,.int .i64 (smV H ps zs n).H.done,i',o',m'])∧Tm w' w.heap.size r' c' i' o' m' (smV H ps zs n).H (smV H ps zs n).zs∧Below w.heap.size w w':=by
 by_cases hf:seenC H ps zs=0
 ·by_cases hn:0≤n∧n≤500
  ·exact im_good r c i o H pa pn pc ps ma mn mc zs n b w h hP hl hM hm tab tb hf hn
  ·by_cases h0:n<0
   ·exact im_low r c i o H pa pn pc ps ma mn mc zs n b w h hP hl hM hm tab tb hf hn h0
   ·exact im_high r c i o H pa pn pc ps ma mn mc zs n b w h hP hl hM hm tab tb hf hn h0 (by omega)
 ·exact im_bad r c i o H pa pn pc ps ma mn mc zs n b w h hP hl hM hm tab tb hf
theorem ib_many(a0:Option Addr)(m0 k0:Nat)(a1:Option Addr)(m1 k1:Nat)(a2:Option Addr)(m2 k2:Nat)(a3:Option Addr)(m3 k3:Nat)(H:Ht)(la:Option Addr)(ln lk:Nat)(ma:Option Addr)(mn mk:Nat)(c:Int)(n:Int)(w:World)(hs:Sees w a0 m0 k0 a1 m1 k1 a2 m2 k2 a3 m3 k3 H la ln lk ma mn mk c)(hc:c≠0):
  Calls Tryz.prog 13 #[.agg #[.slice a0 m0 k0,.int .i64 H.pc,.slice a1 m1 k1,.bool H.halted,.bool H.waiting,.bool H.rung,.int .i64 H.done,.slice a2 m2 k2,.slice a3 m3 k3],.slice la ln lk,.slice ma mn mk,.int .i64 n] w fun e w'=>e=.returned (.agg #[.int .i64 c,.int .i64 0,.int .i64 0,.slice none 0 0,.int .i64 0,.slice none 0 0,.bool false,.bool false,.bool false,.int .i64 0,.slice none 0 0,.slice none 0 0,.slice none 0 0])∧Below w.heap.size w w':=by
 have SS:=hid hs
 have hc2:(c !=0)=true:=by simpa using hc
 clear hs hc
 generalize hW:(w.alloc (.cells #[.slice a0 m0 k0,.int .i64 H.pc,.slice a1 m1 k1,.bool H.halted,.bool H.waiting,.bool H.rung,.int .i64 H.done,.slice a2 m2 k2,.slice a3 m3 k3] 26)).alloc (.cells #[.int .i64 0,.int .i64 0,.int .i64 0,.slice none 0 0,.int .i64 0,.slice none 0 0,.bool false,.bool false,.bool false,.int .i64 0,.slice none 0 0,.slice none 0 0,.slice none 0 0] 31)=W
 have B0:Hid (Below w.heap.size w W):=by show Below _ _ _;rw[←hW];exact al (al (Below.refl _ _) _) _
 obtain⟨s,hS⟩:∃s,w.heap.size=s:=⟨_,rfl⟩
 have HS:=hid hS
 have VA:Hid (Vb W s #[.slice a0 m0 k0,.int .i64 H.pc,.slice a1 m1 k1,.bool H.halted,.bool H.waiting,.bool H.rung,.int .i64 H.done,.slice a2 m2 k2,.slice a3 m3 k3] 26):=by
  show Vb _ _ _ _;rw[←hW,←hS];exact(Vb.new _ _ _).push _
 have VR:Hid (Vb W (s+1) #[.int .i64 0,.int .i64 0,.int .i64 0,.slice none 0 0,.int .i64 0,.slice none 0 0,.bool false,.bool false,.bool false,.int .i64 0,.slice none 0 0,.slice none 0 0,.slice none 0 0] 31):=by
  have z1:s+1=(w.alloc (.cells #[.slice a0 m0 k0,.int .i64 H.pc,.slice a1 m1 k1,.bool H.halted,.bool H.waiting,.bool H.rung,.int .i64 H.done,.slice a2 m2 k2,.slice a3 m3 k3] 26)).heap.size:=by rw[←hS];simp
  show Vb _ _ _ _;rw[←hW,z1];exact Vb.new _ _ _
 obtain⟨q0,q1,q2,q3,q4,q5,q6,q7,q8⟩:=zc9 VA.out
 go_enter Tryz.func13,Tryz.ntmps13
 go_wp2_with fail
 clear hW hS q0 q1 q2 q3 q4 q5 q6 q7 q8
 refine(SS.out.1 W B0.out).mono ?_
 rintro e w1⟨rfl,b1⟩
 have B1:=hid (on B0.out b1)
 have VR1:=hid (VR.out.keep b1)
 clear b1 VA VR
 obtain⟨p0,p1,p2,p3,p4,p5,p6,p7,p8,p9,p10,p11,p12⟩:=zc13 VR1.out
 obtain⟨f0,f1,f2,f3,f4,f5,f6,f7,f8,f9,f10,f11,f12⟩:=zf13 VR1.out
 go_wp2_with fail
 obtain⟨V,hzV,NN⟩:=zE13 VR1.out (.int .i64 c) (.int .i64 0) (.int .i64 0) (.slice none 0 0) (.int .i64 0) (.slice none 0 0) (.bool false) (.bool false) (.bool false) (.int .i64 0) (.slice none 0 0) (.slice none 0 0) (.slice none 0 0)
 clear p0 f0 p1 f1 p2 f2 p3 f3 p4 f4 p5 f5 p6 f6 p7 f7 p8 f8 p9 f9 p10 f10 p11 f11 p12 f12
 rw[hzV]
 clear hzV
 obtain⟨x0,x1,x2,x3,x4,x5,x6,x7,x8,x9,x10,x11,x12⟩:=zc13 NN.out.1
 exact bodyPost_ret (v:=.agg #[.int .i64 c,.int .i64 0,.int .i64 0,.slice none 0 0,.int .i64 0,.slice none 0 0,.bool false,.bool false,.bool false,.int .i64 0,.slice none 0 0,.slice none 0 0,.slice none 0 0]) (by simp[results,Tryz.results13,go_sem,x0,x1,x2,x3,x4,x5,x6,x7,x8,x9,x10,x11,x12]) rfl
  ⟨rfl,Mq.under B1.out NN.out.2 fun k e=>by have:=HS.out;omega⟩
theorem ib_hart(a0:Option Addr)(m0 k0:Nat)(a1:Option Addr)(m1 k1:Nat)(a2:Option Addr)(m2 k2:Nat)(a3:Option Addr)(m3 k3:Nat)(H:Ht)(la:Option Addr)(ln lk:Nat)(ma:Option Addr)(mn mk:Nat)(c:Int)(w:World)(hs:Sees w a0 m0 k0 a1 m1 k1 a2 m2 k2 a3 m3 k3 H la ln lk ma mn mk c)(hc:c≠0):
  Calls Tryz.prog 8 #[.agg #[.slice a0 m0 k0,.int .i64 H.pc,.slice a1 m1 k1,.bool H.halted,.bool H.waiting,.bool H.rung,.int .i64 H.done,.slice a2 m2 k2,.slice a3 m3 k3],.slice la ln lk,.slice ma mn mk] w fun e w'=>e=.returned (.agg #[.int .i64 c,.int .i64 0,.int .i64 0,.slice none 0 0,.int .i64 0,.slice none 0 0,.bool false,.bool false,.bool false,.int .i64 0,.slice none 0 0,.slice none 0 0,.slice none 0 0])∧Below w.heap.size w w':=by
 have SS:=hid hs
 have hc2:(c !=0)=true:=by simpa using hc
 clear hs hc
 generalize hW:(w.alloc (.cells #[.slice a0 m0 k0,.int .i64 H.pc,.slice a1 m1 k1,.bool H.halted,.bool H.waiting,.bool H.rung,.int .i64 H.done,.slice a2 m2 k2,.slice a3 m3 k3] 26)).alloc (.cells #[.int .i64 0,.int .i64 0,.int .i64 0,.slice none 0 0,.int .i64 0,.slice none 0 0,.bool false,.bool false,.bool false,.int .i64 0,.slice none 0 0,.slice none 0 0,.slice none 0 0] 31)=W
 have B0:Hid (Below w.heap.size w W):=by show Below _ _ _;rw[←hW];exact al (al (Below.refl _ _) _) _
 obtain⟨s,hS⟩:∃s,w.heap.size=s:=⟨_,rfl⟩
 have HS:=hid hS
 have VA:Hid (Vb W s #[.slice a0 m0 k0,.int .i64 H.pc,.slice a1 m1 k1,.bool H.halted,.bool H.waiting,.bool H.rung,.int .i64 H.done,.slice a2 m2 k2,.slice a3 m3 k3] 26):=by
  show Vb _ _ _ _;rw[←hW,←hS];exact(Vb.new _ _ _).push _
 have VR:Hid (Vb W (s+1) #[.int .i64 0,.int .i64 0,.int .i64 0,.slice none 0 0,.int .i64 0,.slice none 0 0,.bool false,.bool false,.bool false,.int .i64 0,.slice none 0 0,.slice none 0 0,.slice none 0 0] 31):=by
  have z1:s+1=(w.alloc (.cells #[.slice a0 m0 k0,.int .i64 H.pc,.slice a1 m1 k1,.bool H.halted,.bool H.waiting,.bool H.rung,.int .i64 H.done,.slice a2 m2 k2,.slice a3 m3 k3] 26)).heap.size:=by rw[←hS];simp
  show Vb _ _ _ _;rw[←hW,z1];exact Vb.new _ _ _
 obtain⟨q0,q1,q2,q3,q4,q5,q6,q7,q8⟩:=zc9 VA.out
 go_enter Tryz.func8,Tryz.ntmps8
 go_wp2_with fail
 clear hW hS q0 q1 q2 q3 q4 q5 q6 q7 q8
 refine(ib_many a0 m0 k0 a1 m1 k1 a2 m2 k2 a3 m3 k3 H la ln lk ma mn mk c 1 W ⟨fun w1 b=>SS.out.1 w1 (on B0.out b),fun w1 q b hv=>SS.out.2 w1 q (on B0.out b) hv⟩ (by simpa using hc2)).mono ?_
 rintro e w1⟨rfl,b1⟩
 have B1:=hid (on B0.out b1)
 have VR1:=hid (VR.out.keep b1)
 clear b1 VA VR
 obtain⟨p0,p1,p2,p3,p4,p5,p6,p7,p8,p9,p10,p11,p12⟩:=zc13 VR1.out
 obtain⟨f0,f1,f2,f3,f4,f5,f6,f7,f8,f9,f10,f11,f12⟩:=zf13 VR1.out
 go_wp2_with fail
 obtain⟨V,hzV,NN⟩:=zE13 VR1.out (.int .i64 c) (.int .i64 0) (.int .i64 0) (.slice none 0 0) (.int .i64 0) (.slice none 0 0) (.bool false) (.bool false) (.bool false) (.int .i64 0) (.slice none 0 0) (.slice none 0 0) (.slice none 0 0)
 clear p0 f0 p1 f1 p2 f2 p3 f3 p4 f4 p5 f5 p6 f6 p7 f7 p8 f8 p9 f9 p10 f10 p11 f11 p12 f12
 rw[hzV]
 clear hzV
 obtain⟨x0,x1,x2,x3,x4,x5,x6,x7,x8,x9,x10,x11,x12⟩:=zc13 NN.out.1
 exact bodyPost_ret (v:=.agg #[.int .i64 c,.int .i64 0,.int .i64 0,.slice none 0 0,.int .i64 0,.slice none 0 0,.bool false,.bool false,.bool false,.int .i64 0,.slice none 0 0,.slice none 0 0,.slice none 0 0]) (by simp[results,Tryz.results8,go_sem,x0,x1,x2,x3,x4,x5,x6,x7,x8,x9,x10,x11,x12]) rfl
  ⟨rfl,Mq.under B1.out NN.out.2 fun k e=>by have:=HS.out;omega⟩
theorem sb_hart(a0:Option Addr)(m0 k0:Nat)(a1:Option Addr)(m1 k1:Nat)(a2:Option Addr)(m2 k2:Nat)(a3:Option Addr)(m3 k3:Nat)(H:Ht)(la:Option Addr)(ln lk:Nat)(ma:Option Addr)(mn mk:Nat)(c:Int)(w:World)(hs:Sees w a0 m0 k0 a1 m1 k1 a2 m2 k2 a3 m3 k3 H la ln lk ma mn mk c)(hc:c≠0):
  Calls Tryz.prog 9 #[.agg #[.slice a0 m0 k0,.int .i64 H.pc,.slice a1 m1 k1,.bool H.halted,.bool H.waiting,.bool H.rung,.int .i64 H.done,.slice a2 m2 k2,.slice a3 m3 k3],.slice la ln lk,.slice ma mn mk] w fun e w'=>e=.returned (.agg #[.int .i64 c,.int .i64 0,.int .i64 0,.slice none 0 0,.int .i64 0,.slice none 0 0,.bool false,.bool false,.bool false,.int .i64 0,.slice none 0 0,.slice none 0 0,.slice none 0 0])∧Below w.heap.size w w':=by
 have SS:=hid hs
 have hc2:(c !=0)=true:=by simpa using hc
 clear hs hc
 generalize hW:(w.alloc (.cells #[.slice a0 m0 k0,.int .i64 H.pc,.slice a1 m1 k1,.bool H.halted,.bool H.waiting,.bool H.rung,.int .i64 H.done,.slice a2 m2 k2,.slice a3 m3 k3] 26)).alloc (.cells #[.int .i64 0,.int .i64 0,.int .i64 0,.slice none 0 0,.int .i64 0,.slice none 0 0,.bool false,.bool false,.bool false,.int .i64 0,.slice none 0 0,.slice none 0 0,.slice none 0 0] 31)=W
 have B0:Hid (Below w.heap.size w W):=by show Below _ _ _;rw[←hW];exact al (al (Below.refl _ _) _) _
 obtain⟨s,hS⟩:∃s,w.heap.size=s:=⟨_,rfl⟩
 have HS:=hid hS
 have VA:Hid (Vb W s #[.slice a0 m0 k0,.int .i64 H.pc,.slice a1 m1 k1,.bool H.halted,.bool H.waiting,.bool H.rung,.int .i64 H.done,.slice a2 m2 k2,.slice a3 m3 k3] 26):=by
  show Vb _ _ _ _;rw[←hW,←hS];exact(Vb.new _ _ _).push _
 have VR:Hid (Vb W (s+1) #[.int .i64 0,.int .i64 0,.int .i64 0,.slice none 0 0,.int .i64 0,.slice none 0 0,.bool false,.bool false,.bool false,.int .i64 0,.slice none 0 0,.slice none 0 0,.slice none 0 0] 31):=by
  have z1:s+1=(w.alloc (.cells #[.slice a0 m0 k0,.int .i64 H.pc,.slice a1 m1 k1,.bool H.halted,.bool H.waiting,.bool H.rung,.int .i64 H.done,.slice a2 m2 k2,.slice a3 m3 k3] 26)).heap.size:=by rw[←hS];simp
  show Vb _ _ _ _;rw[←hW,z1];exact Vb.new _ _ _
 go_enter Tryz.func9,Tryz.ntmps9
 go_wp2_with fail
 clear hW hS
 refine(SS.out.2 W s B0.out VA.out).mono ?_
 rintro e w1⟨rfl,b1⟩
 have B1:=hid (on B0.out b1)
 have VR1:=hid (VR.out.keep b1)
 clear b1 VA VR
 obtain⟨p0,p1,p2,p3,p4,p5,p6,p7,p8,p9,p10,p11,p12⟩:=zc13 VR1.out
 obtain⟨f0,f1,f2,f3,f4,f5,f6,f7,f8,f9,f10,f11,f12⟩:=zf13 VR1.out
 go_wp2_with fail
 obtain⟨V,hzV,NN⟩:=zE13 VR1.out (.int .i64 c) (.int .i64 0) (.int .i64 0) (.slice none 0 0) (.int .i64 0) (.slice none 0 0) (.bool false) (.bool false) (.bool false) (.int .i64 0) (.slice none 0 0) (.slice none 0 0) (.slice none 0 0)
 clear p0 f0 p1 f1 p2 f2 p3 f3 p4 f4 p5 f5 p6 f6 p7 f7 p8 f8 p9 f9 p10 f10 p11 f11 p12 f12
 rw[hzV]
 clear hzV
 obtain⟨x0,x1,x2,x3,x4,x5,x6,x7,x8,x9,x10,x11,x12⟩:=zc13 NN.out.1
 exact bodyPost_ret (v:=.agg #[.int .i64 c,.int .i64 0,.int .i64 0,.slice none 0 0,.int .i64 0,.slice none 0 0,.bool false,.bool false,.bool false,.int .i64 0,.slice none 0 0,.slice none 0 0,.slice none 0 0]) (by simp[results,Tryz.results9,go_sem,x0,x1,x2,x3,x4,x5,x6,x7,x8,x9,x10,x11,x12]) rfl
  ⟨rfl,Mq.under B1.out NN.out.2 fun k e=>by have:=HS.out;omega⟩
theorem sn_seen{H:Ht}{ps:List (Int×Int)}{zs:List Int}{p:Nat}(s:Sn H ps zs p):seenC H ps zs=0:=by
 have h1:hfV H=0:=hfV_ok s.hok
 have h2:pgsV ps 24=0:=pgsV_ok (by decide) (by decide) s.l8 s.ok
 have hz:=s.zl
 have hp1:=s.p1
 have hp2:=s.p24
 have h3:memV zs=0:=by
  unfold memV
  rw[if_pos (by unfold formB;exact decide_eq_true (by omega)),if_pos s.zw]
 have h4:beyB ps zs.length=false:=by
  unfold beyB
  rw[List.any_eq_false]
  intro q hq
  obtain⟨i,hi,rfl⟩:=List.getElem_of_mem hq
  have:=s.tl i (by have:=s.l8;omega)
  rw[List.getD,List.getElem?_eq_getElem hi]at this
  simp at this ⊢
  omega
 unfold seenC
 rw[if_pos h1,if_pos h2,if_pos h3,h4]
 rfl
theorem smV_good{H:Ht}{ps:List (Int×Int)}{zs:List Int}{n:Int}(h:seenC H ps zs=0)(h0:0≤n)(h5:n≤500):smV H ps zs n=⟨0,(manyV ps n.toNat (H,zs, -1, -1)).2.2.1,(manyV ps n.toNat (H,zs, -1, -1)).2.2.2,(manyV ps n.toNat (H,zs, -1, -1)).1,(manyV ps n.toNat (H,zs, -1, -1)).2.1⟩:=by
 unfold smV
 rw[if_pos h,if_pos ⟨h0,h5⟩]
theorem smV_zero{H:Ht}{ps:List (Int×Int)}{zs:List Int}{n:Int}(h:(smV H ps zs n).code=0):seenC H ps zs=0∧0≤n∧n≤500:=by
 unfold smV at h
 split at h
 ·rename_i hs
  split at h
  ·rename_i hn
   exact⟨hs,hn.1,hn.2⟩
  ·exact absurd h (by decide)
 ·rename_i hs
  exact absurd h hs
end Go.Proofs.YtaefollmeoepkaaGreatDoor
