import Derived.Test.YtignbeibcakgpaaGreatDoorQ27
namespace Go.Proofs.YtignbeibcakgpaaGreatDoor
set_option maxRecDepth 20000
set_option maxHeartbeats 16000000
open Go.RowKit
set_option linter.unusedVariables false
def hartsV:List Ht→Int
 | []=>0
 |h::t=>if hfV h=0 then hartsV t else hfV h
theorem harts_step(hs:List Ht)(j:Nat)(h:j<hs.length):hartsV (hs.drop j)=if hfV (hs.getD j voidH)=0 then hartsV (hs.drop (j+1))else hfV (hs.getD j voidH):=by
 rw[drop_cons_getD hs voidH j h,hartsV]
def hoV(X:Hst):Int:=
 if pfV X.pol=0 then
  if wholeB X.mem=true∧X.harts.length=X.pol.own.length then
   if hartsV X.harts=0 then
    if ckOk X.clock=true then(if(tS X.pol X.clock).1=X.slot∧(tS X.pol X.clock).2=X.left then 0 else 1)else 3
   else hartsV X.harts
  else 1
 else pfV X.pol
theorem ho_ok{X:Hst}(h:hoV X=0):pfV X.pol=0∧0≤X.clock∧X.clock≤1000000:=by
 unfold hoV at h
 split at h
 ·rename_i h1
  split at h
  ·split at h
   ·split at h
    ·rename_i h4
     unfold ckOk at h4
     simp at h4
     exact⟨h1,h4⟩
    ·cases h
   ·rename_i h3
    exact absurd h h3
  ·cases h
 ·rename_i h1
  exact absurd h h1
structure Oj(w:World)(base:Nat)(a0:Option Addr)(n0 c0:Nat)(a1:Option Addr)(n1 c1:Nat)(a2:Option Addr)(n2 c2:Nat)(a3:Option Addr)(n3 c3:Nat)(m h:Value)(X:Hst):Prop where
 pol:Pl w a0 n0 c0 a1 n1 c1 a2 n2 c2 a3 n3 c3 X.pol
 mem:Nums w base m X.mem
 harts:Hl w base h X.harts
theorem Oj.keep{w w':World}{base:Nat}{a0:Option Addr}{n0 c0:Nat}{a1:Option Addr}{n1 c1:Nat}{a2:Option Addr}{n2 c2:Nat}{a3:Option Addr}{n3 c3:Nat}{m h:Value}{X:Hst}(d:Oj w base a0 n0 c0 a1 n1 c1 a2 n2 c2 a3 n3 c3 m h X)(b:Below w.heap.size w w'):Oj w' base a0 n0 c0 a1 n1 c1 a2 n2 c2 a3 n3 c3 m h X:=
 ⟨d.pol.stay b,d.mem.keep b,d.harts.keep b⟩
theorem pageV_own(ow:List Int)(ls:List Ln)(g:Int)(k:Nat)(h:k<ow.length):pageV ow ls g k=(ow.getD k 0,7):=by rw[pageV,if_pos h]
theorem pageV_not(ow:List Int)(ls:List Ln)(g:Int)(k:Nat)(h:¬k<ow.length):pageV ow ls g k=firstM g k ls:=by rw[pageV,if_neg h]
theorem match_one(g k:Int)(l:Ln)(h1:l.fr=g)(h2:l.af=k):matchL g k l=some (l.pg,3):=by unfold matchL;rw[if_pos ⟨h1,h2⟩]
theorem match_other(g k:Int)(l:Ln)(h:¬(l.fr=g∧l.af=k))(h1:l.dst=g)(h2:l.tt=k):matchL g k l=some (l.pg,1):=by unfold matchL;rw[if_neg h,if_pos ⟨h1,h2⟩]
theorem match_none(g k:Int)(l:Ln)(h:¬(l.fr=g∧l.af=k))(h1:¬(l.dst=g∧l.tt=k)):matchL g k l=none:=by unfold matchL;rw[if_neg h,if_neg h1]
theorem res_alloc{w:World}{s:Nat}(a b:Value)(o:Obj)(h:Rs w s):(((w.setCell ⟨s+1,0,none⟩ a).setCell ⟨s+1,1,none⟩ b).alloc o).cell? ⟨s+1,0,none⟩=some a∧(((w.setCell ⟨s+1,0,none⟩ a).setCell ⟨s+1,1,none⟩ b).alloc o).cell? ⟨s+1,1,none⟩=some b:=by
 have h0:(w.setCell ⟨s+1,0,none⟩ a).cell? ⟨s+1,0,none⟩=some a:=World.cell?_setCell_same _ _ _ h.1
 have h1:(w.setCell ⟨s+1,0,none⟩ a).cell? ⟨s+1,1,none⟩=some (.int .i64 0):=by rw[World.cell?_setCell_other _ _ _ _ (by intro e;cases e)];exact h.2.1
 refine⟨cell_push o ?_,cell_push o (World.cell?_setCell_same _ _ _ h1)⟩
 rw[World.cell?_setCell_other _ _ _ _ (by intro e;cases e)]
 exact h0
theorem i_pageAt(a0 a1 a2 a3:Option Addr)(n0 c0 n1 c1 n2 c2 n3 c3:Nat)(P:Plc)(g k:Nat)(w:World)(h:Pl w a0 n0 c0 a1 n1 c1 a2 n2 c2 a3 n3 c3 P)(hg:g<P.own.length)(hk:k<8):
  Calls Tryz.prog 54 #[.agg #[.slice a0 n0 c0,.slice a1 n1 c1,.slice a2 n2 c2,.slice a3 n3 c3],.int .i64 (g:Int),.int .i64 (k:Int)] w fun e w'=>e=.returned (.agg #[.int .i64 (pageV (P.own.getD g []) P.lanes (g:Int) k).1,.int .i64 (pageV (P.own.getD g []) P.lanes (g:Int) k).2])∧Below w.heap.size w w':=by
 generalize hW:((w.alloc (.cells #[.slice a0 n0 c0,.slice a1 n1 c1,.slice a2 n2 c2,.slice a3 n3 c3] 29))).alloc (.cells #[.int .i64 0,.int .i64 0] 89)=W
 have B0:Hid (Below w.heap.size w W):=by show Below _ _ _;rw[←hW];exact al (al (Below.refl _ _) _) _
 obtain⟨s,hS⟩:∃s,w.heap.size=s:=⟨_,rfl⟩
 have HSs:=hid hS
 have Q:Hid (W.cell? ⟨s,0,none⟩=some (.slice a0 n0 c0)∧W.cell? ⟨s,1,none⟩=some (.slice a1 n1 c1)):=by
  show _∧_
  rw[←hW,←hS]
  exact⟨cell_push _ (cell_new rfl),cell_push _ (cell_new rfl)⟩
 have R:Hid (Rs W s):=by
  have z1:s+1=((w.alloc (.cells #[.slice a0 n0 c0,.slice a1 n1 c1,.slice a2 n2 c2,.slice a3 n3 c3] 29))).heap.size:=by rw[←hS];simp
  show Rs W s
  unfold Rs
  rw[←hW,z1]
  exact⟨cell_new rfl,cell_new rfl,fz_new _ _ _ _,fz_new _ _ _ _,by simp⟩
 have HP:=hid (h.stay B0.out)
 have hgn:g<n0:=by have:=h.own.len;omega
 have hgI:(g:Int)<(n0:Int):=by omega
 have hn0:(n0:Int)≤9223372036854775807:=by have:=h.own.cap;unfold maxLen at this;omega
 have hmax1:(n1:Int)≤9223372036854775807:=by have:=h.lanes.cap;unfold maxLen at this;omega
 have HL1:Hid (n1=P.lanes.length):=h.lanes.len
 obtain⟨x,b,l,c,rfl,k1,k2⟩:=HP.out.own.at g hgn
 have K1:=hid k1
 have HN:=hid k2
 have HNL:Hid (l=(P.own.getD g []).length):=k2.len
 have hl1:(l:Int)≤9223372036854775807:=by have:=k2.cap;unfold maxLen at this;omega
 have hkI:(k:Int)<8:=by omega
 clear h hg k2
 have q0:=Q.out.1
 have q1:=Q.out.2
 by_cases hkl:k<l
 ·rcases HN.out with⟨_,h1,_,_⟩|⟨y,rfl,h1,h2,h3,h4⟩
  ·omega
  have d0:=h4 k hkl
  have hkL:(k:Int)<(l:Int):=by omega
  have PV:Hid (pageV (P.own.getD g []) P.lanes (g:Int) k=((P.own.getD g []).getD k 0,7)):=pageV_own _ _ _ _ (by have:=HNL.out;omega)
  obtain⟨r0,r1,f0,f1,lt⟩:=R.out
  generalize (P.own.getD g []).getD k 0=zz at*
  clear h1 h2 h3 h4 hkl
  go_enter Tryz.func54,Tryz.ntmps54
  go_wp2_with fail
  clear hW hS
  exact bodyPost_ret (v:=.agg #[.int .i64 zz,.int .i64 7]) (by simp[results,Tryz.results54,go_sem,r0,r1]) rfl ⟨by rw[PV.out],(B0.out.setCell (by have:=HSs.out;show w.heap.size≤s+1;omega) _).setCell (by have:=HSs.out;show w.heap.size≤s+1;omega) _⟩
 have hkL:¬(k:Int)<(l:Int):=by omega
 have PV:Hid (pageV (P.own.getD g []) P.lanes (g:Int) k=firstM (g:Int) (k:Int) P.lanes):=pageV_not _ _ _ _ (by have:=HNL.out;omega)
 clear hkl
 go_enter Tryz.func54,Tryz.ntmps54
 go_wp2_with fail
 clear hW hS q0 q1 k1
 go_loopw [9,27] (fun _ c wr=>∃i:Nat,i≤n1∧c=.int .i64 i∧Below W.heap.size W wr∧Hid (firstM (g:Int) (k:Int) P.lanes=firstM (g:Int) (k:Int) (P.lanes.drop i))) (fun _ c _=>n1-(intOf c).toNat)
 case atStart=>exact⟨0,Nat.zero_le _,rfl,Below.refl _ _,by show _=_;simp⟩
 case round=>
  obtain⟨i,hi,rfl,hB,hI⟩:=hrel
  have HB:Hid (Below _ W wr):=hB
  have RK:=hid (R.out.keep hB)
  obtain⟨r0,r1,f0,f1,lt⟩:=R.out.keep hB
  by_cases hlt:i<n1
  ·obtain⟨xl,rfl,k0,k1,k2,k3,k4⟩:=(HP.out.lanes.stay hB).at i hlt
   have hJ:(i:Int)<(n1:Int):=by omega
   have HLT:=hid hlt
   have ST:Hid (_=_):=firstM_step (g:Int) (k:Int) P.lanes i (by have:=HL1.out;omega)
   obtain⟨O,hO⟩:∃O,P.lanes.getD i lz=O:=⟨_,rfl⟩
   rw[hO]at k0 k1 k2 k3 k4 ST
   clear hO hlt hB
   by_cases e1:O.fr=(g:Int)∧O.af=(k:Int)
   ·have S2:Hid (firstM (g:Int) (k:Int) P.lanes=(O.pg,3)):=by show _=_;rw[hI.out,ST.out,match_one _ _ _ e1.1 e1.2]
    obtain⟨e1,e2⟩:=e1
    obtain⟨ofr,odst,opg,oaf,ott⟩:=O
    simp only at k0 k1 k2 k3 k4 e1 e2 S2
    subst e1 e2
    clear ST
    go_wp2_with fail
    exact bodyPost_ret (v:=.agg #[.int .i64 opg,.int .i64 3]) (by simp[results,Tryz.results54,go_sem,res_alloc _ _ _ RK.out]) rfl ⟨by rw[PV.out,S2.out],al (((on B0.out HB.out).setCell (by have:=HSs.out;show w.heap.size≤s+1;omega) _).setCell (by have:=HSs.out;show w.heap.size≤s+1;omega) _) _⟩
   by_cases e2:O.dst=(g:Int)∧O.tt=(k:Int)
   ·have S2:Hid (firstM (g:Int) (k:Int) P.lanes=(O.pg,1)):=by show _=_;rw[hI.out,ST.out,match_other _ _ _ e1 e2.1 e2.2]
    obtain⟨e3,e4⟩:=e2
    obtain⟨ofr,odst,opg,oaf,ott⟩:=O
    simp only at k0 k1 k2 k3 k4 e1 e3 e4 S2
    subst e3 e4
    clear ST
    by_cases e5:ofr=(g:Int)
    ·have e6:¬oaf=(k:Int):=fun e=>e1 ⟨e5,e⟩
     clear e1
     go_wp2_with fail
     exact bodyPost_ret (v:=.agg #[.int .i64 opg,.int .i64 1]) (by simp[results,Tryz.results54,go_sem,res_alloc _ _ _ RK.out]) rfl ⟨by rw[PV.out,S2.out],al (((on B0.out HB.out).setCell (by have:=HSs.out;show w.heap.size≤s+1;omega) _).setCell (by have:=HSs.out;show w.heap.size≤s+1;omega) _) _⟩
    ·clear e1
     go_wp2_with fail
     exact bodyPost_ret (v:=.agg #[.int .i64 opg,.int .i64 1]) (by simp[results,Tryz.results54,go_sem,res_alloc _ _ _ RK.out]) rfl ⟨by rw[PV.out,S2.out],al (((on B0.out HB.out).setCell (by have:=HSs.out;show w.heap.size≤s+1;omega) _).setCell (by have:=HSs.out;show w.heap.size≤s+1;omega) _) _⟩
   have S2:Hid (firstM (g:Int) (k:Int) P.lanes=firstM (g:Int) (k:Int) (P.lanes.drop (i+1))):=by show _=_;rw[hI.out,ST.out,match_none _ _ _ e1 e2]
   have BA:=al HB.out (.cells #[.int .i64 O.fr,.int .i64 O.dst,.int .i64 O.pg,.int .i64 O.af,.int .i64 O.tt] 42)
   have BH:Hid (Below W.heap.size W _):=BA
   clear ST BA
   by_cases e5:O.fr=(g:Int)
   ·have e6:¬O.af=(k:Int):=fun e=>e1 ⟨e5,e⟩
    clear e1
    by_cases e7:O.dst=(g:Int)
    ·have e8:¬O.tt=(k:Int):=fun e=>e2 ⟨e7,e⟩
     clear e2
     go_wp2_with fail
     go_roundw
     case rel=>exact⟨i+1,by have:=HLT.out;omega,by go_num,by first|exact BH.out|(simp only[e5,e7];exact al HB.out _)|exact al HB.out _,S2⟩
     case measure=>have:=HLT.out;simp[intOf];omega
    ·clear e2
     go_wp2_with fail
     go_roundw
     case rel=>exact⟨i+1,by have:=HLT.out;omega,by go_num,by first|exact BH.out|exact al HB.out _,S2⟩
     case measure=>have:=HLT.out;simp[intOf];omega
   ·clear e1
    by_cases e7:O.dst=(g:Int)
    ·have e8:¬O.tt=(k:Int):=fun e=>e2 ⟨e7,e⟩
     clear e2
     go_wp2_with fail
     go_roundw
     case rel=>exact⟨i+1,by have:=HLT.out;omega,by go_num,by first|exact BH.out|exact al HB.out _,S2⟩
     case measure=>have:=HLT.out;simp[intOf];omega
    ·clear e2
     go_wp2_with fail
     go_roundw
     case rel=>exact⟨i+1,by have:=HLT.out;omega,by go_num,by first|exact BH.out|exact al HB.out _,S2⟩
     case measure=>have:=HLT.out;simp[intOf];omega
  ·have hJ:¬(i:Int)<(n1:Int):=by omega
   have HJ:Hid (i=n1):=by show _=_;omega
   have S2:Hid (firstM (g:Int) (k:Int) P.lanes=(-1,0)):=by show _=_;rw[hI.out,List.drop_of_length_le (by have:=HL1.out;have:=HJ.out;omega)];rfl
   clear hlt hB
   go_wp2_with fail
   exact bodyPost_ret (v:=.agg #[.int .i64 (-1),.int .i64 0]) (by simp[results,Tryz.results54,go_sem,r0,r1]) rfl ⟨by have e:=PV.out;rw[S2.out]at e;first|rw[e]|(simp only[List.getD_eq_getElem?_getD]at e;rw[e]),((on B0.out HB.out).setCell (by have:=HSs.out;show w.heap.size≤s+1;omega) _).setCell (by have:=HSs.out;show w.heap.size≤s+1;omega) _⟩
theorem i_pages0(a0 a1 a2 a3:Option Addr)(n0 c0 n1 c1 n2 c2 n3 c3:Nat)(P:Plc)(gu:Int)(w:World)(h:Pl w a0 n0 c0 a1 n1 c1 a2 n2 c2 a3 n3 c3 P)(hgu:0≤gu∧gu<P.own.length):
  Calls Tryz.prog 27 #[.agg #[.slice a0 n0 c0,.slice a1 n1 c1,.slice a2 n2 c2,.slice a3 n3 c3],.int .i64 gu] w fun e w'=>∃v,e=.returned v∧Prs 89 w' w.heap.size v (pforL (P.own.getD gu.toNat []) P.lanes gu 8)∧Below w.heap.size w w':=by
 obtain⟨g,rfl⟩:=Int.eq_ofNat_of_zero_le hgu.1
 have HGN:Hid (g<P.own.length):=by have:=hgu.2;show _<_;omega
 rw[Int.toNat_natCast]
 generalize hW:(w.alloc (.cells #[.slice a0 n0 c0,.slice a1 n1 c1,.slice a2 n2 c2,.slice a3 n3 c3] 29))=W
 have B0:Hid (Below w.heap.size w W):=by show Below _ _ _;rw[←hW];exact al (Below.refl _ _) _
 obtain⟨s,hS⟩:∃s,w.heap.size=s:=⟨_,rfl⟩
 have Q:Hid (W.cell? ⟨s,0,none⟩=some (.slice a0 n0 c0)∧W.cell? ⟨s,1,none⟩=some (.slice a1 n1 c1)∧W.cell? ⟨s,2,none⟩=some (.slice a2 n2 c2)∧W.cell? ⟨s,3,none⟩=some (.slice a3 n3 c3)):=by
  show _∧_
  rw[←hW,←hS]
  exact⟨cell_new rfl,cell_new rfl,cell_new rfl,cell_new rfl⟩
 have HP:=hid (h.stay B0.out)
 clear h hgu
 have SU:=fun j=>pforL_succ (P.own.getD g []) P.lanes (g:Int) j
 have LN:=fun j=>pforL_len (P.own.getD g []) P.lanes (g:Int) j
 have PA:=fun j (hj:j<8) w1 (b1:Below W.heap.size W w1)=>i_pageAt _ _ _ _ _ _ _ _ _ _ _ _ P g j w1 (HP.out.stay b1) HGN.out hj
 generalize hD:pforL (P.own.getD g []) P.lanes (g:Int)=D at*
 generalize hE:pageV (P.own.getD g []) P.lanes (g:Int)=E at*
 have D0:Hid (D 0=[]):=by show _=_;rw[←hD];rfl
 clear hD hE
 have SUH:Hid (∀j,D (j+1)=D j++ [((E j).1,(E j).2)]):=SU
 have LNH:Hid (∀j,(D j).length=j):=LN
 clear SU LN
 go_enter Tryz.func27,Tryz.ntmps27
 go_wp2_with fail
 clear hW hS
 go_loopw [5,6,7] (fun v _ c wr=>∃j:Nat,j≤8∧c=.int .i64 j∧Prs 89 wr W.heap.size v (D j)∧Below W.heap.size W wr) (fun _ _ c _=>8-(intOf c).toNat)
 case atStart=>exact⟨0,Nat.zero_le _,rfl,by rw[D0.out];exact Prs.nil _ _ _,Below.refl _ _⟩
 case round=>
  obtain⟨j,hj,rfl,hN,hB⟩:=hrel
  have HN:Hid (Prs _ wr _ _ (D j)):=hN
  have HB:Hid (Below _ W wr):=hB
  obtain⟨ya,yc,hz,_,_,_⟩:=hN.shape
  generalize (D j).length=un at hz
  subst hz
  by_cases hlt:j<8
  ·have hJ:(j:Int)<8:=by omega
   have HLT:=hid hlt
   have q0:=cell_keep hB Q.out.1
   have q1:=cell_keep hB Q.out.2.1
   have q2:=cell_keep hB Q.out.2.2.1
   have q3:=cell_keep hB Q.out.2.2.2
   have PJ:=PA j hlt wr hB
   have S2:Hid (D (j+1)=D j++ [((E j).1,(E j).2)]):=SUH.out j
   generalize (E j).1=p1 at*
   generalize (E j).2=p2 at*
   clear hN hB hlt PA
   go_wp2_with fail
   refine PJ.mono ?_
   rintro e w2⟨rfl,b2⟩
   have B2:=hid (on HB.out b2)
   have N2:Hid (Prs _ w2 _ _ (D j)):=HN.out.keep b2
   have SZ:Hid (W.heap.size≤w2.heap.size):=(on HB.out b2).size
   clear b2 PJ q0 q1 q2 q3
   go_wp2_with (at_builtin;refine wp_pair 48 89 Tryz.underlying48 info_page _ rfl _ _ rfl W.heap.size _ _ rfl (N2.out.keep (al (Below.refl _ _) _)) w2.heap.size p1 p2 rfl (cell_new rfl) (cell_new rfl) (by rw[LNH.out];have:=HLT.out;omega) (by have:=SZ.out;simp;omega) ?_;intro v' w' hN' hG')
   have N':Hid (Prs _ w' _ v' _):=hN'
   have B':Hid (Below W.heap.size W w'):=(al B2.out _).grown hG' (by have:=SZ.out;simp;omega) (fun k hk=>(N2.out.lt k hk).1)
   clear hN' hG'
   go_wp2_with fail
   go_roundw
   case rel=>exact⟨j+1,by have:=HLT.out;omega,by go_num,by rw[S2.out];exact N'.out,B'.out⟩
   case measure=>have:=HLT.out;simp[intOf];omega
  ·have hJ:¬(j:Int)<8:=by omega
   obtain rfl:j=8:=by omega
   clear hN hB hlt PA
   go_wp2_with fail
   go_ret
   exact⟨_,rfl,HN.out.mono B0.out.size,on B0.out HB.out⟩
theorem neq_turn(a b c d e:Int)(w:World)(h:¬(a=d∧b=e)):(binOp .neq 67 (.agg #[.int .i64 a,.int .i64 b,.int .i64 c]) (.agg #[.int .i64 d,.int .i64 e,.int .i64 c])).run Tryz.prog w=.ok (.bool true) w:=by
 go_simp
 by_cases h1:a=d
 ·by_cases h2:b=e
  ·exact absurd ⟨h1,h2⟩ h
  ·simp[h1,h2]
 ·simp[h1]
theorem i_turnOf(a0 a1 a2 a3:Option Addr)(n0 c0 n1 c1 n2 c2 n3 c3:Nat)(am:Option Addr)(lm cm:Nat)(ah:Option Addr)(lh ch:Nat)(X:Hst)(w:World):
  Calls Tryz.prog 45 #[.agg #[.slice a0 n0 c0,.slice a1 n1 c1,.slice a2 n2 c2,.slice a3 n3 c3,.slice am lm cm,.slice ah lh ch,.int .i64 X.slot,.int .i64 X.left,.int .i64 X.clock]] w fun e w'=>e=.returned (.agg #[.int .i64 X.slot,.int .i64 X.left,.int .i64 X.clock])∧Below w.heap.size w w':=by
 go_enter Tryz.func45,Tryz.ntmps45
 go_wp2_with fail
 exact bodyPost_ret (v:=.agg #[.int .i64 X.slot,.int .i64 X.left,.int .i64 X.clock]) (by simp[results,Tryz.results45,go_sem]) rfl ⟨rfl,al (al (Below.refl _ _) _) _⟩
theorem i_hostFault(a0 a1 a2 a3:Option Addr)(n0 c0 n1 c1 n2 c2 n3 c3:Nat)(m h:Value)(X:Hst)(b:Nat)(w:World)(d:Oj w b a0 n0 c0 a1 n1 c1 a2 n2 c2 a3 n3 c3 m h X)(hg:w.cell? ⟨0,0,none⟩=some (.iface 240 (.agg #[.pointer (some ⟨2,134,none⟩)]))):
  Calls Tryz.prog 19 #[.agg #[.slice a0 n0 c0,.slice a1 n1 c1,.slice a2 n2 c2,.slice a3 n3 c3,m,h,.int .i64 X.slot,.int .i64 X.left,.int .i64 X.clock]] w fun e w'=>e=.returned (.int .i64 (hoV X))∧Below w.heap.size w w':=by
 obtain⟨am,cm,rfl,_⟩:=d.mem.shape
 obtain⟨ah,ch,rfl,_,lh2,gh⟩:=d.harts.shape
 obtain⟨V,hV⟩:∃V,hoV X=V:=⟨_,rfl⟩
 rw[hV]
 have HV:=hid hV
 clear hV
 obtain⟨lm,hlm⟩:∃n,X.mem.length=n:=⟨_,rfl⟩
 obtain⟨lh,hlh⟩:∃n,X.harts.length=n:=⟨_,rfl⟩
 rw[hlm,hlh]at d
 rw[hlh]at gh
 rw[hlm,hlh]
 have HLH:=hid hlh
 have GH:=hid gh
 have HL0:Hid (n0=X.pol.own.length):=d.pol.own.len
 have HM0:(n0:Int)≤9223372036854775807:=by have:=d.pol.own.cap;unfold maxLen at this;omega
 have HMH:(lh:Int)≤9223372036854775807:=by obtain⟨_,_,_,t1,t2,_⟩:=d.harts.shape;rw[hlh]at t1;unfold maxLen at t2;omega
 clear hlm hlh gh lh2
 generalize hW:w.alloc (.cells #[.slice a0 n0 c0,.slice a1 n1 c1,.slice a2 n2 c2,.slice a3 n3 c3,.slice am lm cm,.slice ah lh ch,.int .i64 X.slot,.int .i64 X.left,.int .i64 X.clock] 35)=W
 have B0:Hid (Below w.heap.size w W):=by show Below _ _ _;rw[←hW];exact al (Below.refl _ _) _
 obtain⟨s,hS⟩:∃s,w.heap.size=s:=⟨_,rfl⟩
 have Q:Hid (Vb W s #[.slice a0 n0 c0,.slice a1 n1 c1,.slice a2 n2 c2,.slice a3 n3 c3,.slice am lm cm,.slice ah lh ch,.int .i64 X.slot,.int .i64 X.left,.int .i64 X.clock] 35):=by show Vb _ _ _ _;rw[←hW,←hS];exact Vb.new _ _ _
 have D:=hid (d.keep B0.out)
 have HG:Hid (W.cell? ⟨0,0,none⟩=some (.iface 240 (.agg #[.pointer (some ⟨2,134,none⟩)]))):=cell_keep B0.out hg
 clear d hg
 have q0:=Q.out.cell 0 rfl
 have q1:=Q.out.cell 1 rfl
 have q2:=Q.out.cell 2 rfl
 have q3:=Q.out.cell 3 rfl
 go_enter Tryz.func19,Tryz.ntmps19
 go_wp2_with fail
 clear hW hS q0 q1 q2 q3
 refine(impl_policy _ _ _ _ _ _ _ _ _ _ _ _ X.pol _ D.out.pol HG.out).mono ?_
 rintro e w1⟨rfl,b1⟩
 have B1:=hid b1
 have Q1:=hid (Q.out.keep b1)
 clear b1
 by_cases hz:pfV X.pol=0
 case neg=>
  have E:Hid (pfV X.pol=V):=by show _=_;rw[←HV.out,hoV,if_neg hz]
  rw[E.out]at hz ⊢
  go_wp2_with fail
  go_ret
  exact⟨rfl,on B0.out B1.out⟩
 have PZ:=hid hz
 rw[hz]
 clear hz
 have q4:=Q1.out.cell 4 rfl
 have q5:=Q1.out.cell 5 rfl
 have q0:=Q1.out.cell 0 rfl
 cases hw:wholeB X.mem
 case false=>
  have E:Hid (1=V):=by show _=_;rw[←HV.out,hoV,if_pos PZ.out,if_neg (by rw[hw];simp)]
  go_wp2_with (go_at_call 24;refine(i_whole _ X.mem b _ (D.out.mem.keep B1.out)).mono ?_;rintro e w1 ⟨rfl,rfl⟩;rw[hw])
  go_ret
  exact⟨ret_i E.out,on B0.out B1.out⟩
 by_cases hn:lh=n0
 case neg=>
  have E:Hid (1=V):=by show _=_;rw[←HV.out,hoV,if_pos PZ.out,if_neg (by rw[HLH.out,←HL0.out];exact fun k=>hn k.2)]
  have hi:¬(lh:Int)=(n0:Int):=by omega
  go_wp2_with (go_at_call 24;refine(i_whole _ X.mem b _ (D.out.mem.keep B1.out)).mono ?_;rintro e w1 ⟨rfl,rfl⟩;rw[hw])
  go_ret
  exact⟨ret_i E.out,on B0.out B1.out⟩
 have ME:Hid (wholeB X.mem=true∧X.harts.length=X.pol.own.length):=⟨hw,by rw[HLH.out,←HL0.out];exact hn⟩
 have hi:(lh:Int)=(n0:Int):=by omega
 have HN0:=hid hn
 clear hn
 go_wp2_with (go_at_call 24;refine(i_whole _ X.mem b _ (D.out.mem.keep B1.out)).mono ?_;rintro e w1 ⟨rfl,rfl⟩;rw[hw])
 clear q0 q4 q5 hi HM0
 go_loopw [30] (fun c wr=>∃j:Nat,j≤lh∧c=.int .i64 j∧hartsV (X.harts.drop j)=hartsV X.harts∧Below W.heap.size W wr) (fun c _=>lh-(intOf c).toNat)
 case atStart=>exact⟨0,Nat.zero_le _,rfl,rfl,B1.out⟩
 case round=>
  obtain⟨j,hj,rfl,hT,hB⟩:=hrel
  have HT:=hid hT
  have HB:=hid hB
  clear hT hB
  by_cases hlt:j<lh
  ·obtain⟨x1,e1⟩:=GH.out (by omega)
   subst e1
   obtain⟨r,c,i,o,z1,z2,_⟩:=(D.out.harts.keep HB.out).at j (by rw[HLH.out];exact hlt)
   have ST:=harts_step X.harts j (by rw[HLH.out];exact hlt)
   obtain⟨H,hH⟩:∃H,X.harts.getD j voidH=H:=⟨_,rfl⟩
   rw[hH]at z1 z2 ST
   have HST:Hid (_=_):=ST
   obtain⟨xr,lr,rfl,_⟩:=z2.r.shape
   obtain⟨xc,lc,rfl,_⟩:=z2.c.shape
   obtain⟨xi,li,rfl,_⟩:=z2.i.shape
   obtain⟨xo,lo,rfl,_⟩:=z2.o.shape
   have Z2:Hid (Hm wr b _ _ _ _ H):=z2
   generalize H.regs.length=m0 at*
   generalize H.csr.length=m1 at*
   generalize H.inn.length=mi at*
   generalize H.out.length=mo at*
   have y0:=z1.c0
   have y1:=z1.c1
   have y2:=z1.c2
   have y3:=z1.c3
   have y4:=z1.c4
   have y5:=z1.c5
   have y6:=z1.c6
   have y7:=z1.c7
   have y8:=z1.c8
   have hI:(j:Int)<(lh:Int):=by omega
   have hI0:(j:Int)<(n0:Int):=by have:=HN0.out;omega
   have HL:=hid hlt
   have xl:x1<wr.heap.size:=block_of_cell z1.c0
   clear z1 z2 hH hlt ST
   go_wp2_with fail
   clear y0 y1 y2 y3 y4 y5 y6 y7 y8 xl
   refine(i_fault _ _ _ _ H b _ (Z2.out.keep (al (Below.refl _ _) _))).mono ?_
   rintro e w2⟨rfl,b2⟩
   have B2:Hid (Below W.heap.size W w2):=on HB.out (on (al (Below.refl _ _) _) b2)
   clear b2
   by_cases hf:hfV H=0
   ·have HT2:Hid (hartsV (X.harts.drop (j+1))=hartsV X.harts):=by
     have t:=HST.out
     rw[if_pos hf,HT.out]at t
     exact t.symm
    rw[hf]
    clear hf
    go_wp2_with fail
    go_roundw
    case rel=>exact⟨j+1,by have:=HL.out;omega,by go_num,HT2.out,B2.out⟩
    case measure=>have:=HL.out;simp[intOf];omega
   ·have HT2:Hid (hfV H=V):=by
     have t:=HST.out
     rw[if_neg hf,HT.out]at t
     show _=_
     rw[←HV.out,hoV,if_pos PZ.out,if_pos ME.out,if_neg (by rw[t];exact hf),t]
    rw[HT2.out]at hf ⊢
    go_wp2_with fail
    go_ret
    exact⟨rfl,on B0.out B2.out⟩
  ·have hJ:¬(j:Int)<(lh:Int):=by omega
   have hJ0:¬(j:Int)<(n0:Int):=by have:=HN0.out;omega
   have HZ:Hid (hartsV X.harts=0):=by
    show _=_
    rw[←HT.out,List.drop_of_length_le (by rw[HLH.out];omega)]
    rfl
   have Q2:=hid (Q.out.keep HB.out)
   have q8:=Q2.out.cell 8 rfl
   clear hlt
   cases hk:ckOk X.clock
   case false=>
    have E:Hid (3=V):=by show _=_;rw[←HV.out,hoV,if_pos PZ.out,if_pos ME.out,if_pos HZ.out,if_neg (by rw[hk];simp)]
    go_wp2_with (go_at_call 44;refine(i_clock _ _).mono ?_;rintro e w2 ⟨rfl,hw2⟩;rw[hw2];clear hw2 w2;rw[hk])
    go_ret
    exact⟨ret_i E.out,on B0.out HB.out⟩
   have CK:Hid (0≤X.clock∧X.clock≤1000000):=by show _∧_;unfold ckOk at hk;simpa using hk
   have E:Hid ((if(tS X.pol X.clock).1=X.slot∧(tS X.pol X.clock).2=X.left then(0:Int)else 1)=V):=by show _=_;rw[←HV.out,hoV,if_pos PZ.out,if_pos ME.out,if_pos HZ.out,if_pos hk]
   go_wp2_with (go_at_call 44;refine(i_clock _ _).mono ?_;rintro e w2 ⟨rfl,hw2⟩;rw[hw2];clear hw2 w2;rw[hk])
   clear q8 hk
   refine wp_region_held (S:=fun w'=>Below wr.heap.size wr w') (by kernel_rfl) ?_
   change wpAnyH _ _ _ _ _ _ _ _ (World.drew _)
   have SD:Hid (Below wr.heap.size wr wr.drew):=(Below.refl _ _).drew
   generalize wr.drew=x0 at*
   refine wpTe 0 44 (.agg #[.slice a0 n0 c0,.slice a1 n1 c1,.slice a2 n2 c2,.slice a3 n3 c3,.slice am lm cm,.slice ah lh ch,.int .i64 X.slot,.int .i64 X.left,.int .i64 X.clock]) rfl (Or.inl ⟨by rfl,fun w' hs=>by have hq:=Q2.out.keep hs;have y0:=hq.cell 0 rfl;have y1:=hq.cell 1 rfl;have y2:=hq.cell 2 rfl;have y3:=hq.cell 3 rfl;have y4:=hq.cell 4 rfl;have y5:=hq.cell 5 rfl;have y6:=hq.cell 6 rfl;have y7:=hq.cell 7 rfl;have y8:=hq.cell 8 rfl;go_simp⟩) SD.out ?_
   simp only[Act.put,zT,zZ,zS]
   refine wpTd 2 46 (.pointer (some ⟨s,0,none⟩)) rfl SD.out ?_
   simp only[Act.put,zT,zZ,zS]
   refine wpTe 3 47 (.agg #[.slice a0 n0 c0,.slice a1 n1 c1,.slice a2 n2 c2,.slice a3 n3 c3]) rfl (Or.inl ⟨by rfl,fun w' hs=>by have hq:=Q2.out.keep hs;have y0:=hq.cell 0 rfl;have y1:=hq.cell 1 rfl;have y2:=hq.cell 2 rfl;have y3:=hq.cell 3 rfl;go_simp⟩) SD.out ?_
   simp only[Act.put,zT,zZ,zS]
   refine wpTd 4 48 (.pointer (some ⟨s,8,none⟩)) rfl SD.out ?_
   simp only[Act.put,zT,zZ,zS]
   refine wpTe 5 49 (.int .i64 X.clock) rfl (Or.inl ⟨by rfl,fun w' hs=>by have hq:=Q2.out.keep hs;have y8:=hq.cell 8 rfl;go_simp⟩) SD.out ?_
   simp only[Act.put,zT,zZ,zS]
   refine zR 1 rfl fun K hK=>?_
   ·skip
    rw[if_pos (by rfl)]
    go_simp
    refine(i_turnOf _ _ _ _ _ _ _ _ _ _ _ _ _ _ _ _ _ _ X _).mono ?_
    rintro e w3⟨rfl,b3⟩
    have S3:=hid (on SD.out b3)
    clear b3
    refine hK.out _ _ S3.out (fun _=>?_)
    clear hK K
    refine zR 6 rfl fun K hK=>?_
    rw[if_pos (by rfl)]
    go_simp
    refine(i_turnAt _ _ _ _ _ _ _ _ _ _ _ _ X.pol X.clock _ ((D.out.pol.stay HB.out).stay S3.out) (cell_keep S3.out (cell_keep HB.out HG.out)) PZ.out CK.out.1 CK.out.2).mono ?_
    rintro e w4⟨rfl,b4⟩
    have S4:=hid (on S3.out b4)
    clear b4
    refine hK.out _ _ S4.out (fun _=>?_)
    clear hK K
    obtain⟨t1,ht1⟩:∃t,(tS X.pol X.clock).1=t:=⟨_,rfl⟩
    obtain⟨t2,ht2⟩:∃t,(tS X.pol X.clock).2=t:=⟨_,rfl⟩
    rw[ht1,ht2]at E ⊢
    clear ht1 ht2
    by_cases ht:t1=X.slot∧t2=X.left
    ·have E0:Hid (0=V):=by
      have t:=E.out
      rw[if_pos ht]at t
      exact t
     obtain⟨h1,h2⟩:=ht
     rw[h1,h2]
     refine wpTd 7 51 (.bool false) rfl S4.out ?_
     simp only[Act.put,zT,zZ,zS]
     refine wpAnyH_done (by kernel_rfl) ?_ _
     go_wp2_with fail
     go_ret
     exact⟨ret_i E0.out,on B0.out (on HB.out S4.out)⟩
    ·have E0:Hid (1=V):=by
      have t:=E.out
      rw[if_neg ht]at t
      exact t
     have hne:=fun w=>neq_turn X.slot X.left X.clock t1 t2 w (fun k=>ht ⟨k.1.symm,k.2.symm⟩)
     refine wpTe 7 51 (.bool true) rfl (Or.inl ⟨by rfl,fun w' hs=>by simp[go_sem,hne]⟩) S4.out ?_
     simp only[Act.put,zT,zZ,zS]
     refine wpAnyH_done (by kernel_rfl) ?_ _
     go_wp2_with fail
     go_ret
     exact⟨ret_i E0.out,on B0.out (on HB.out S4.out)⟩
theorem i_layImage(g b:Nat)(zs:List Int)(ap:Option Addr)(lp cp:Nat)(ow:List Int)(ai:Option Addr)(li ci:Nat)(img:List Int)(u w:World)
  (h:Pags w b (.slice (some ⟨g,0,none⟩) 24 24) 24 zs) (hu:Below u.heap.size u w) (hub:u.heap.size≤b) (hp:IsNs u ap lp cp ow) (hi:IsNs u ai li ci img) (hr:∀x ∈ ow,0≤x∧x≤23) (hl:ow.length≤5):
  Calls Tryz.prog 37 #[.slice (some ⟨g,0,none⟩) 24 24,.slice ap lp cp,.slice ai li ci] w fun e w'=>e=.returned (.tuple #[])∧Pags w' b (.slice (some ⟨g,0,none⟩) 24 24) 24 (layM ow img zs (min (8*ow.length) img.length))∧Below u.heap.size u w':=by
 have HZ:=hid h
 have HZL:Hid (zs.length=192):=h.len
 have HGB:Hid (b≤g):=(h.lt g rfl).1
 have HUB:=hid hub
 have HU:=hid hu
 have HP:=hid hp
 have HI:=hid hi
 have HR:=hid hr
 have HLP:Hid (lp=ow.length∧lp≤5):=⟨hp.len,by have:=hp.len;omega⟩
 have hlpI:(lp:Int)≤5:=by have:=HLP.out;omega
 have ML:Hid (∀i,(layM ow img zs i).length=192):=fun i=>by rw[layM_len];exact h.len
 have MS:Hid (∀i,layM ow img zs (i+1)=(layM ow img zs i).set ((ow.getD (i/8) 0).toNat*8+i%8) (wd (img.getD i 0))):=fun _=>rfl
 have M0:Hid (layM ow img zs 0=zs):=rfl
 generalize layM ow img zs=M at*
 clear h hu hub hp hi hr hl
 go_enter Tryz.func37,Tryz.ntmps37
 go_wp2_with fail
 go_loopw [2,7,8,9,12] (fun v _ _ _ c wr=>∃j:Nat,j≤lp∧c=.int .i64 j∧(∃a' n' c',v=.slice a' n' c'∧IsNs u a' n' c' (img.drop (8*j)))∧Pags wr b (.slice (some ⟨g,0,none⟩) 24 24) 24 (M (min (8*j) img.length))∧Below u.heap.size u wr) (fun _ _ _ _ c _=>lp-(intOf c).toNat)
 case atStart=>exact⟨0,Nat.zero_le _,rfl,⟨_,_,_,rfl,HI.out⟩,by rw[Nat.mul_zero,Nat.zero_min,M0.out];exact HZ.out,HU.out⟩
 case round=>
  obtain⟨j,hj,rfl,⟨a',n',c',rfl,hIm⟩,hN,hB⟩:=hrel
  have HIM:=hid hIm
  have HN:Hid (Pags wr b _ 24 (M (min (8*j) img.length))):=hN
  have HB:Hid (Below _ u wr):=hB
  by_cases hlt:j<lp
  ·rcases HP.out.stay hB with⟨_,e1,_,_⟩|⟨y,rfl,e1,e2,e3,e4⟩
   ·omega
   have d0:=e4 j hlt
   have hJ:(j:Int)<(lp:Int):=by omega
   have HLT:=hid hlt
   have hin:=HR.out _ (getD_mem ow 0 j (by have:=HLP.out;omega))
   obtain⟨z,hz⟩:∃z,ow.getD j 0=z:=⟨_,rfl⟩
   rw[hz]at d0 hin
   obtain⟨p,rfl⟩:=Int.eq_ofNat_of_zero_le hin.1
   have HPJ:=hid hz
   have hp24:(p:Int)<24:=by omega
   have HPN:Hid (p<24):=by show _<_;omega
   obtain⟨xs,hxs⟩:∃xs,(img.drop (8*j)).take 8=xs:=⟨_,rfl⟩
   obtain⟨sz,hsz⟩:∃sz,xs.length=sz:=⟨_,rfl⟩
   have HNL:Hid (n'=(img.drop (8*j)).length∧n'=img.length-8*j∧n'≤c'∧c'≤9223372036854775807):=⟨hIm.len,by have:=hIm.len;rw[List.length_drop]at this;exact this,hIm.cap.1,by have:=hIm.cap.2;unfold maxLen at this;exact this⟩
   have HSZ:Hid (sz=min 8 n'∧sz=min 8 (img.length-8*j)):=by
    have h1:=HNL.out
    rw[←hxs,List.length_take]at hsz
    constructor
    ·rw[h1.1];exact hsz.symm
    ·rw[List.length_drop]at hsz;exact hsz.symm
   have HXS:=hid hxs
   have HXL:=hid hsz
   have HS:Hid (0<sz→min (8*j) img.length=8*j):=fun h=>by have:=HSZ.out.2;omega
   have HS2:Hid (min (8*j) img.length+sz=min (8*(j+1)) img.length):=by show _=_;have:=HSZ.out.2;omega
   have HXG:Hid (∀k,k<sz→xs.drop k=img.getD (8*j+k) 0::xs.drop (k+1)):=fun k hk=>by
    have hk2:k<xs.length:=by rw[HXL.out];exact hk
    rw[List.drop_eq_getElem_cons hk2]
    congr 1
    have hlen:=HXL.out
    subst hxs
    simp[List.getD]at hk2 ⊢
    rw[List.getElem?_eq_getElem (by omega)]
    rfl
   generalize min (8*j) img.length=s0 at*
   have MLs:=ML.out s0
   have hh:=hN.heap
   have hNN:Hid (sz≤8):=by show _≤_;have:=HSZ.out.1;omega
   have CP:Hid (0<(xs.map (Value.int .i64)).length→some (⟨g,p*8,none⟩:Addr)=some ⟨g,p*8,none⟩∧∃ad,a'=some ad∧∀i v,(xs.map (Value.int .i64))[i]? =some v→wr.cell? (ad.add i)=some v):=fun h0=>by
    refine⟨rfl,?_⟩
    rw[List.length_map,HXL.out]at h0
    rcases HIM.out.stay HB.out with⟨_,k1,_,_⟩|⟨x,rfl,k1,k2,k3,k4⟩
    ·have:=HSZ.out.1;omega
    ·refine⟨x,rfl,fun i v hv=>?_⟩
     have hi8:i<xs.length:=by have:=(List.getElem?_eq_some_iff.1 hv).1;simpa using this
     have hil:i<n':=by rw[HXL.out]at hi8;have:=HSZ.out.1;omega
     rw[k4 i hil,←hv,List.getElem?_map,List.getElem?_eq_getElem hi8]
     have:(img.drop (8*j)).getD i 0=xs[i]:=by
      have h8:i<8:=by rw[HXL.out]at hi8;have:=hNN.out;omega
      have hd:i<(img.drop (8*j)).length:=by have:=HNL.out.1;omega
      subst hxs
      rw[List.getD,List.getElem?_eq_getElem hd,List.getElem_take]
      rfl
     rw[this]
     rfl
   obtain⟨X,hX⟩:∃X,X=xs.map (Value.int .i64):=⟨_,rfl⟩
   obtain⟨Y,hY⟩:∃Y,Y=(M s0).map (Value.int .i64):=⟨_,rfl⟩
   rw[←hX]at CP
   rw[←hY]at hh
   have HH:=hid hh
   have XL:Hid (X.length=sz):=by show _=_;rw[hX,List.length_map];exact HXL.out
   have YL:Hid (Y.length=192):=by show _=_;rw[hY,List.length_map];exact MLs
   have X1:Hid (∀v ∈ X,v.oneCell'=true):=by
    intro v hv
    rw[hX]at hv
    obtain⟨z,_,rfl⟩:=List.mem_map.1 hv
    rfl
   have SP:Hid (splice Y (p*8) X=(splice (M s0) (p*8) xs).map (Value.int .i64)):=by show _=_;rw[hX,hY,splice_map]
   clear hX hY hh MLs hxs hsz hin hz e1 e2 e3 e4 hlt hN hB hIm
   go_wp2_with (refine wpList_copy_splice rfl (.tmp 19) (.tmp 20) 32 32 rfl 2 Tryz.underlying32 (by kernel_rfl) (some ⟨g,p*8,none⟩) a' 8 8 n' c' (by simp[Act.eval]) (by simp[Act.eval]) g (p*8) Y 91 HH.out X (by rw[XL.out];have:=HSZ.out.1;show sz=min n' 8;omega) CP.out (by rw[XL.out,YL.out];have:=hNN.out;have:=HPN.out;omega) X1.out u.heap.size u HB.out (by have:=HUB.out;have:=HGB.out;omega) ?_;intro w2 hg2 hb2;rw[XL.out])
   have P2:Hid (Pags w2 b (.slice (some ⟨g,0,none⟩) 24 24) 24 (splice (M s0) (p*8) xs)):=by
    have h1:=hg2.out
    rw[SP.out]at h1
    exact Pags.of_heap h1 (by rw[splice_lenI _ _ _ (by rw[HXL.out,ML.out];have:=hNN.out;have:=HPN.out;omega),ML.out]) HGB.out (by unfold maxLen;omega)
   have B2:=hid hb2
   have hszI:(sz:Int)≤8:=by have:=hNN.out;omega
   clear hg2 hb2 SP X1 XL YL CP HH d0
   go_wp2_with fail
   go_loopw [9,23] (fun _ c wq=>∃k:Nat,k≤sz∧c=.int .i64 k∧Pags wq b (.slice (some ⟨g,0,none⟩) 24 24) 24 (splice (M (s0+k)) (p*8+k) (xs.drop k))∧Below u.heap.size u wq) (fun _ c _=>sz-(intOf c).toNat)
   case atStart=>exact⟨0,Nat.zero_le _,rfl,P2.out,B2.out⟩
   case round=>
    obtain⟨k,hk,rfl,hN,hB⟩:=hrel
    have HNk:Hid (Pags wr b _ 24 _):=hN
    have HBk:Hid (Below _ u wr):=hB
    by_cases hks:k<sz
    ·have HK:Hid (k<sz):=hks
     have hK:(k:Int)<(sz:Int):=by omega
     have hK8:(k:Int)<8:=by omega
     have E0:=HS.out (by omega)
     have XD:=HXG.out k hks
     have MS2:Hid (M (s0+(k+1))=(M (s0+k)).set (p*8+k) (wd (img.getD (8*j+k) 0))):=by
      show _=_
      have h1:=MS.out (s0+k)
      have hk8:k<8:=by omega
      rw[E0]at h1
      rw[show(8*j+k)/8=j by omega,show(8*j+k)%8=k by omega,HPJ.out,Int.toNat_natCast]at h1
      rw[←Nat.add_assoc,E0]
      exact h1
     rw[XD]at hN
     have LB:p*8+k+((xs.drop (k+1)).length+1)≤(M (s0+k)).length:=by
      rw[ML.out,List.length_drop,HXL.out]
      have:=hNN.out
      have:=HPN.out
      omega
     have c0:=hN.cell (p*8+k) (by have:=HPN.out;omega)
     rw[splice_get _ _ _ _ (by omega)]at c0
     have f0:=hN.free (p*8+k)
     have NXT:Hid (Pags (wr.setCell ⟨g,p*8+k,none⟩ (.int .i64 (wd (img.getD (8*j+k) 0)))) b (.slice (some ⟨g,0,none⟩) 24 24) 24 (splice (M (s0+(k+1))) (p*8+(k+1)) (xs.drop (k+1)))):=by
      have h1:=hN.store (p*8+k) (wd (img.getD (8*j+k) 0))
      rw[splice_set _ _ _ _ _ LB,←MS2.out]at h1
      exact h1
     have BXT:Hid (Below u.heap.size u (wr.setCell ⟨g,p*8+k,none⟩ (.int .i64 (wd (img.getD (8*j+k) 0))))):=HBk.out.setCell (by have:=HUB.out;have:=HGB.out;show u.heap.size≤g;omega) _
     have NXD:Hid (Pags (wr.drew.setCell ⟨g,p*8+k,none⟩ (.int .i64 (wd (img.getD (8*j+k) 0)))) b (.slice (some ⟨g,0,none⟩) 24 24) 24 (splice (M (s0+(k+1))) (p*8+(k+1)) (xs.drop (k+1)))):=NXT.out
     have BXD:Hid (Below u.heap.size u (wr.drew.setCell ⟨g,p*8+k,none⟩ (.int .i64 (wd (img.getD (8*j+k) 0))))):=⟨BXT.out.os,BXT.out.tape,BXT.out.output,BXT.out.size,BXT.out.block⟩
     generalize img.getD (8*j+k) 0=xv at*
     clear hN hB hks XD E0 LB MS2
     go_wp2_with fail
     go_region_with (go_at_call 64;refine(impl_wrap _ _).mono ?_;rintro e w9 ⟨rfl,hw9⟩;subst hw9)
     all_goals go_wp2_with fail
     all_goals go_roundw
     all_goals first
      |exact⟨k+1,by have:=HK.out;omega,by go_num,by first|exact NXD.out|exact NXT.out,by first|exact BXD.out|exact BXT.out⟩
      |(have:=HK.out;simp[intOf];omega)
    ·have hK:¬(k:Int)<(sz:Int):=by omega
     have HKS:Hid (k=sz):=by show _=_;omega
     have NE:Hid (Pags wr b (.slice (some ⟨g,0,none⟩) 24 24) 24 (M (min (8*(j+1)) img.length))):=by
      have h1:=HNk.out
      rw[HKS.out,List.drop_of_length_le (by rw[HXL.out];exact Nat.le_refl _),splice_nil,HS2.out]at h1
      exact h1
     have HSN:Hid (sz≤n'):=by show _≤_;have:=HSZ.out.1;omega
     have DD:Hid (sz<n'→img.drop (8*(j+1))=(img.drop (8*j)).drop sz):=fun hlt=>by
      have:=HSZ.out.1
      rw[List.drop_drop]
      congr 1
      omega
     have DE:Hid (sz=n'→img.drop (8*(j+1))=(img.drop (8*j)).drop sz):=fun he=>by
      have h1:=HNL.out
      have:=HSZ.out.1
      rw[List.drop_of_length_le (by omega),List.drop_of_length_le (by rw[List.length_drop];omega)]
     have DA:Hid (img.drop (8*(j+1))=(img.drop (8*j)).drop sz):=by
      rcases Nat.lt_or_ge sz n' with h|h
      ·exact DD.out h
      ·exact DE.out (by have:=HSN.out;omega)
     have hsn:(sz:Int)≤(n':Int):=by have:=HSN.out;omega
     have hnc:(n':Int)≤(c':Int):=by have:=HNL.out;omega
     have hcm:(c':Int)≤9223372036854775807:=by have:=HNL.out;omega
     cases a' with
     |none=>
      have hz0:n'=0∧c'=0∧sz=0:=by
       rcases HIM.out with⟨_,k1,k2,_⟩|⟨x,e,_⟩
       ·exact⟨k1,k2,by have:=HSN.out;omega⟩
       ·cases e
      have HIN:Hid (IsNs u none 0 0 (img.drop (8*(j+1)))):=by
       show IsNs _ _ _ _ _
       rw[DA.out,hz0.2.2,List.drop_zero]
       have:=HIM.out
       rw[hz0.1,hz0.2.1]at this
       exact this
      obtain⟨rfl,rfl,rfl⟩:=hz0
      clear hN hB hks
      go_wp2_with fail
      go_roundw
      case rel=>exact⟨j+1,by have:=HLT.out;omega,by go_num,⟨_,_,_,rfl,HIN.out⟩,NE.out,HBk.out⟩
      case measure=>have:=HLT.out;simp[intOf];omega
     |some x=>
      have HIN:Hid (IsNs u (if c'=sz then some x else some (x.add sz)) (n'-sz) (c'-sz) (img.drop (8*(j+1)))):=by
       show IsNs _ _ _ _ _
       rw[DA.out]
       exact HIM.out.cut sz HSN.out x rfl
      have hsc:sz≤n':=HSN.out
      clear hN hB hks
      by_cases hce:c'=sz
      ·rw[if_pos hce]at HIN
       go_wp2_with fail
       go_roundw
       case rel=>exact⟨j+1,by have:=HLT.out;omega,by go_num,⟨_,_,_,rfl,by first|exact HIN.out|(simp[hce]at*;exact HIN.out)⟩,NE.out,HBk.out⟩
       case measure=>have:=HLT.out;simp[intOf];omega
      ·rw[if_neg hce]at HIN
       go_wp2_with fail
       go_roundw
       case rel=>exact⟨j+1,by have:=HLT.out;omega,by go_num,⟨_,_,_,rfl,by first|exact HIN.out|(simp[hce]at*;exact HIN.out)⟩,NE.out,HBk.out⟩
       case measure=>have:=HLT.out;simp[intOf];omega
  ·have hJ:¬(j:Int)<(lp:Int):=by omega
   have HJ:Hid (j=ow.length):=by show _=_;have:=HLP.out;omega
   clear hlt hN hB hIm
   go_wp2_with fail
   refine bodyPost_end (v:=.tuple #[]) (by simp[results,Tryz.results37]) rfl ⟨rfl,?_,HB.out⟩
   rw[←HJ.out]
   exact HN.out
theorem apt_sep{a b:Value}{m:Nat}(ha:∀k,a.ownBlock=some k→k<m)(hb:∀k,b.ownBlock=some k→m≤k):Apt a b:=by
 cases e:a.ownBlock with
 |none=>exact .inl e
 |some k=>exact .inr fun f=>by rw[e]at f;have:=ha k e;have:=hb k f.symm;omega
theorem wp_shapes{w:World}{base:Nat}{v0 v1 v2 v3:Value}{P:Plc}(h:WpE w base v0 v1 v2 v3 P):∃b0 b1 b2 b3 d0 d1 d2 d3,v0=.slice b0 P.own.length d0∧v1=.slice b1 P.lanes.length d1∧v2=.slice b2 P.bells.length d2∧v3=.slice b3 P.plan.length d3:=by
 obtain⟨xs,h⟩:=h
 obtain⟨b0,d0,e0⟩:=row_shape h.own
 obtain⟨b1,d1,e1⟩:=row_shape h.lanes
 obtain⟨b2,d2,e2⟩:=row_shape h.bells
 obtain⟨b3,d3,e3⟩:=row_shape h.plan
 rw[h.xl]at e0
 exact⟨b0,b1,b2,b3,d0,d1,d2,d3,e0,e1,e2,e3⟩
theorem i_hostAt(a0 a1 a2 a3:Option Addr)(n0 c0 n1 c1 n2 c2 n3 c3:Nat)(P:Plc)(ma:Option Addr)(mn mc:Nat)(ha:Option Addr)(hn hc:Nat)(sl le cl:Int)(w:World)(h:Pl w a0 n0 c0 a1 n1 c1 a2 n2 c2 a3 n3 c3 P)(sm:Small n0 n1 n2 n3 P):
  Calls Tryz.prog 17 #[.agg #[.slice a0 n0 c0,.slice a1 n1 c1,.slice a2 n2 c2,.slice a3 n3 c3],.slice ma mn mc,.slice ha hn hc,.agg #[.int .i64 sl,.int .i64 le,.int .i64 cl]] w fun e w'=>∃v0 v1 v2 v3,e=.returned (.agg #[v0,v1,v2,v3,.slice ma mn mc,.slice ha hn hc,.int .i64 sl,.int .i64 le,.int .i64 cl])∧WpE w' w.heap.size v0 v1 v2 v3 P∧Below w.heap.size w w':=by
 generalize hW:((w.alloc (.cells #[.slice a0 n0 c0,.slice a1 n1 c1,.slice a2 n2 c2,.slice a3 n3 c3] 29)).alloc (.cells #[.int .i64 sl,.int .i64 le,.int .i64 cl] 67)).alloc (.cells #[.slice none 0 0,.slice none 0 0,.slice none 0 0,.slice none 0 0,.slice none 0 0,.slice none 0 0,.int .i64 0,.int .i64 0,.int .i64 0] 35)=W
 have B0:Hid (Below w.heap.size w W):=by show Below _ _ _;rw[←hW];exact al (al (al (Below.refl _ _) _) _) _
 obtain⟨s,hS⟩:∃s,w.heap.size=s:=⟨_,rfl⟩
 have HSs:=hid hS
 have z1:s+1=(w.alloc (.cells #[.slice a0 n0 c0,.slice a1 n1 c1,.slice a2 n2 c2,.slice a3 n3 c3] 29)).heap.size:=by rw[←hS];simp
 have z2:s+2=((w.alloc (.cells #[.slice a0 n0 c0,.slice a1 n1 c1,.slice a2 n2 c2,.slice a3 n3 c3] 29)).alloc (.cells #[.int .i64 sl,.int .i64 le,.int .i64 cl] 67)).heap.size:=by rw[←hS];simp
 have Q:Hid (Vb W s #[.slice a0 n0 c0,.slice a1 n1 c1,.slice a2 n2 c2,.slice a3 n3 c3] 29):=by show Vb _ _ _ _;rw[←hW,←hS];exact((Vb.new _ _ _).push _).push _
 have U:Hid (Vb W (s+1) #[.int .i64 sl,.int .i64 le,.int .i64 cl] 67):=by show Vb _ _ _ _;rw[←hW,z1];exact(Vb.new _ _ _).push _
 have R:Hid (Vb W (s+2) #[.slice none 0 0,.slice none 0 0,.slice none 0 0,.slice none 0 0,.slice none 0 0,.slice none 0 0,.int .i64 0,.int .i64 0,.int .i64 0] 35):=by show Vb _ _ _ _;rw[←hW,z2];exact Vb.new _ _ _
 have ZW:Hid (s+3=W.heap.size):=by show _=_;rw[←hW,←hS];simp
 clear z1 z2
 have D:=hid (h.stay B0.out)
 have SMP:=hid sm
 clear h sm
 have QL:Hid (∀w',SvN 9 W (s+2) w'→Vb w' s #[.slice a0 n0 c0,.slice a1 n1 c1,.slice a2 n2 c2,.slice a3 n3 c3] 29∧Vb w' (s+1) #[.int .i64 sl,.int .i64 le,.int .i64 cl] 67):=fun w' hs=>⟨hs.1.vb Q.out (by omega),hs.1.vb U.out (by omega)⟩
 have BS:Hid (∀w',SvN 9 W (s+2) w'→Below w.heap.size w w'):=fun w' hs=>Mq.under B0.out hs.1 fun k e=>by have:=HSs.out;omega
 have LT:Hid (s+2<W.heap.size):=R.out.lt
 have Sv0:Hid (SvN 9 W (s+2) W.drew):=SvN.step ⟨Mq.refl _ _,R.out.there 9 (by decide)⟩ LT.out (Below.refl _ _).drew
 have E0:Hid (Below W.heap.size W W.drew):=(Below.refl _ _).drew
 go_enter Tryz.func17,Tryz.ntmps17
 go_upto_region 1 with fail
 clear hW hS
 refine wp_region_held (S:=fun w'=>SvN 9 W (s+2) w') (by kernel_rfl) ?_
 change wpAnyH _ _ _ _ _ _ _ _ (World.drew _)
 generalize W.drew=u0 at*
 refine wpTe 0 9 ((.agg #[.slice a0 n0 c0,.slice a1 n1 c1,.slice a2 n2 c2,.slice a3 n3 c3])) rfl (Or.inl ⟨by rfl,fun w' hs=>by have qv:=(QL.out w' hs).1;have y0:=qv.cell 0 rfl;have y1:=qv.cell 1 rfl;have y2:=qv.cell 2 rfl;have y3:=qv.cell 3 rfl;go_simp⟩) Sv0.out ?_
 simp only[Act.put,zT,zZ,zS]
 refine wpTd 2 11 ((.slice ma mn mc)) rfl Sv0.out ?_
 simp only[Act.put,zT,zZ,zS]
 refine wpTd 3 12 ((.slice ha hn hc)) rfl Sv0.out ?_
 simp only[Act.put,zT,zZ,zS]
 refine wpTd 4 13 ((.pointer (some ⟨s+1,0,none⟩))) rfl Sv0.out ?_
 simp only[Act.put,zT,zZ,zS]
 refine wpTe 5 14 ((.int .i64 sl)) rfl (Or.inl ⟨by rfl,fun w' hs=>by have y:=(QL.out w' hs).2.cell 0 rfl;go_simp⟩) Sv0.out ?_
 simp only[Act.put,zT,zZ,zS]
 refine wpTd 6 15 ((.pointer (some ⟨s+1,1,none⟩))) rfl Sv0.out ?_
 simp only[Act.put,zT,zZ,zS]
 refine wpTe 7 16 ((.int .i64 le)) rfl (Or.inl ⟨by rfl,fun w' hs=>by have y:=(QL.out w' hs).2.cell 1 rfl;go_simp⟩) Sv0.out ?_
 simp only[Act.put,zT,zZ,zS]
 refine wpTd 8 17 ((.pointer (some ⟨s+1,2,none⟩))) rfl Sv0.out ?_
 simp only[Act.put,zT,zZ,zS]
 refine wpTe 9 18 ((.int .i64 cl)) rfl (Or.inl ⟨by rfl,fun w' hs=>by have y:=(QL.out w' hs).2.cell 2 rfl;go_simp⟩) Sv0.out ?_
 simp only[Act.put,zT,zZ,zS]
 refine zR 1 rfl fun K hK=>?_
 rw[if_pos (by rfl)]
 go_simp
 refine(i_copyPolicy _ _ _ _ _ _ _ _ _ _ _ _ P _ (D.out.stay E0.out) SMP.out).mono ?_
 rintro e u1⟨_,_,_,_,rfl,wp,b1⟩
 obtain⟨b0,b1a,b2,b3,d0,d1,d2,d3,e0,e1,e2,e3⟩:=wp_shapes wp
 subst e0 e1 e2 e3
 obtain⟨m0,hm0⟩:∃n,P.own.length=n:=⟨_,rfl⟩
 obtain⟨m1,hm1⟩:∃n,P.lanes.length=n:=⟨_,rfl⟩
 obtain⟨m2,hm2⟩:∃n,P.bells.length=n:=⟨_,rfl⟩
 obtain⟨m3,hm3⟩:∃n,P.plan.length=n:=⟨_,rfl⟩
 rw[hm0,hm1,hm2,hm3]at wp ⊢
 have WP:=hid wp
 have Sv1:Hid (SvN 9 W (s+2) u1):=Sv0.out.step LT.out b1
 clear wp b1 hm0 hm1 hm2 hm3
 refine hK.out _ _ Sv1.out (fun _=>?_)
 clear hK K
 refine wpTd 10 19 ((.agg #[.slice b0 m0 d0,.slice b1a m1 d1,.slice b2 m2 d2,.slice b3 m3 d3,.slice ma mn mc,.slice ha hn hc,.int .i64 sl,.int .i64 le,.int .i64 cl])) rfl Sv1.out ?_
 simp only[Act.put,zT,zZ,zS]
 refine zR 11 rfl fun K hK=>?_
 rw[if_pos (by rfl)]
 refine wp_store_mid 35 (.tmp 8) (.tmp 19) rfl (s+2) 0 #[.slice b0 m0 d0,.slice b1a m1 d1,.slice b2 m2 d2,.slice b3 m3 d3,.slice ma mn mc,.slice ha hn hc,.int .i64 sl,.int .i64 le,.int .i64 cl] rfl rfl Sv1.out.2 (by kernel_rfl) (by simp[Value.oneCell']) ?_
 change K (Act.put _ none undef) _
 simp only[Act.put]
 have S6:Hid (SvN 9 W (s+2) (u1.setCells (s+2) 0 #[.slice b0 m0 d0,.slice b1a m1 d1,.slice b2 m2 d2,.slice b3 m3 d3,.slice ma mn mc,.slice ha hn hc,.int .i64 sl,.int .i64 le,.int .i64 cl].toList)):=Sv1.out.set _
 have R6:Hid ((u1.setCells (s+2) 0 #[.slice b0 m0 d0,.slice b1a m1 d1,.slice b2 m2 d2,.slice b3 m3 d3,.slice ma mn mc,.slice ha hn hc,.int .i64 sl,.int .i64 le,.int .i64 cl].toList).rangeAt (s+2) 0 #[.slice b0 m0 d0,.slice b1a m1 d1,.slice b2 m2 d2,.slice b3 m3 d3,.slice ma mn mc,.slice ha hn hc,.int .i64 sl,.int .i64 le,.int .i64 cl].toList):=World.rangeAt_setCells_same _ _ _ _ Sv1.out.2
 have Q6:Hid (Mq (fun k=>k=s+2) u1 (u1.setCells (s+2) 0 #[.slice b0 m0 d0,.slice b1a m1 d1,.slice b2 m2 d2,.slice b3 m3 d3,.slice ma mn mc,.slice ha hn hc,.int .i64 sl,.int .i64 le,.int .i64 cl].toList)):=mq_cells (s+2) _ u1 0
 generalize u1.setCells (s+2) 0 #[.slice b0 m0 d0,.slice b1a m1 d1,.slice b2 m2 d2,.slice b3 m3 d3,.slice ma mn mc,.slice ha hn hc,.int .i64 sl,.int .i64 le,.int .i64 cl].toList=u6 at*
 refine hK.out _ _ S6.out (fun _=>?_)
 clear hK K
 refine wpAnyH_done (by kernel_rfl) ?_ _
 have O6:Ho (s+3) u1 u6:=Q6.out.ho fun k e=>by omega
 have F:Hid (WpE u6 w.heap.size (.slice b0 m0 d0) (.slice b1a m1 d1) (.slice b2 m2 d2) (.slice b3 m3 d3) P):=by
  obtain⟨xs,hx⟩:=WP.out
  exact⟨xs,((hx.mono (by have:=ZW.out;have:=E0.out.size;omega)).ho O6).mono (by have:=HSs.out;omega)⟩
 have B6:Hid (Below w.heap.size w u6):=BS.out _ S6.out
 have LD:=run_loadVar_mid (P:=Tryz.prog) u6 (s+2) 0 35 #[.slice b0 m0 d0,.slice b1a m1 d1,.slice b2 m2 d2,.slice b3 m3 d3,.slice ma mn mc,.slice ha hn hc,.int .i64 sl,.int .i64 le,.int .i64 cl].toList _ R6.out Tryz.underlying35 rfl (by kernel_rfl)
 go_wp2_with fail
 exact bodyPost_ret (v:=.agg #[.slice b0 m0 d0,.slice b1a m1 d1,.slice b2 m2 d2,.slice b3 m3 d3,.slice ma mn mc,.slice ha hn hc,.int .i64 sl,.int .i64 le,.int .i64 cl]) (by simp[results,Tryz.results17,asAddr];rw[LD]) rfl ⟨_,_,_,_,rfl,F.out,B6.out⟩
def nhC:List (List Int)→Int
 | []=>0
 |z::t=>if(newR z).1=0 then nhC t else(newR z).1
def bhC(P:Plc)(iss jss:List (List Int)):Int:=if loadC P iss=0 then(if jss.length=P.own.length then nhC jss else 2)else loadC P iss
def voidX:Hst:=⟨⟨[],[],[],[]⟩,[],[],0,0,0⟩
def bhX(P:Plc)(iss jss:List (List Int)):Hst:=if bhC P iss jss=0 then⟨P,loadZ P iss,jss.map newV,0,(P.plan.getD 0 (0,0)).2,0⟩else voidX
theorem bh_not(P:Plc)(iss jss:List (List Int))(h:bhC P iss jss≠0):bhX P iss jss=voidX:=by rw[bhX,if_neg h]
theorem bh_yes(P:Plc)(iss jss:List (List Int))(h:bhC P iss jss=0):bhX P iss jss=⟨P,loadZ P iss,jss.map newV,0,(P.plan.getD 0 (0,0)).2,0⟩:=by rw[bhX,if_pos h]
theorem nh_drop(jss:List (List Int))(j:Nat)(hj:j<jss.length)(h:(newR (jss.getD j [])).1=0):nhC (jss.drop j)=nhC (jss.drop (j+1)):=by
 rw[List.drop_eq_getElem_cons hj,nhC,if_pos]
 rw[List.getD,List.getElem?_eq_getElem hj]at h
 exact h
theorem nh_stop(jss:List (List Int))(j:Nat)(hj:j<jss.length)(h:(newR (jss.getD j [])).1≠0):nhC (jss.drop j)=(newR (jss.getD j [])).1:=by
 have e:jss.getD j []=jss[j]:=by rw[List.getD,List.getElem?_eq_getElem hj];rfl
 rw[e]at h ⊢
 rw[List.drop_eq_getElem_cons hj,nhC,if_neg h]
theorem tS_someX(P:Plc)(h:pfV P=0)(c:Int):∃j:Nat,j<P.plan.length∧(tS P c).1=(j:Int):=by
 have rp:=rd_pos P h
 have m0:0≤c%rdV P.plan:=Int.emod_nonneg _ (by omega)
 have m1:c%rdV P.plan<rdV P.plan:=Int.emod_lt_of_pos _ (by omega)
 obtain⟨m,hm⟩:∃m,c%rdV P.plan=m:=⟨_,rfl⟩
 rw[hm]at m0 m1
 have key:∀k,k≤P.plan.length→m<rdV (P.plan.take k)→∃j,j<k∧rdV (P.plan.take j)≤m∧m<rdV (P.plan.take (j+1)):=by
  intro k
  induction k with
  |zero=>intro _ h0;simp[rdV]at h0;omega
  |succ k ih=>
   intro hk h0
   by_cases h1:m<rdV (P.plan.take k)
   ·obtain⟨j,hj,h2⟩:=ih (by omega) h1
    exact⟨j,by omega,h2⟩
   ·exact⟨k,by omega,by omega,h0⟩
 obtain⟨j,hj,h0,h1⟩:=key P.plan.length (Nat.le_refl _) (by rw[List.take_length];exact m1)
 refine⟨j,hj,?_⟩
 rw[tS_at P h c j hj (by rw[hm];exact h0) (by rw[hm];exact h1)]
theorem load_pf{P:Plc}{iss:List (List Int)}(h:loadC P iss=0):pfV P=0:=by
 unfold loadC at h
 split at h
 ·assumption
 ·rename_i k;exact absurd h k
theorem plan_pos{P:Plc}(h:pfV P=0):0<P.plan.length:=by
 obtain⟨j,hj,_⟩:=tS_someX P h 0
 omega
theorem tS_zero{P:Plc}(h:pfV P=0):tS P 0=(0,(P.plan.getD 0 (0,0)).2):=by
 have h0:=plan_pos h
 have h1:=(pf_plan P h).2 0 h0
 obtain⟨z,hz⟩:∃z,(P.plan.getD 0 (0,0)).2=z:=⟨_,rfl⟩
 have t1:rdV (P.plan.take 1)=z:=by rw[←hz,rdV_take P.plan 0 h0];simp only[List.take_zero,rdV];omega
 have t0:rdV (P.plan.take 0)=0:=by simp only[List.take_zero,rdV]
 rw[hz]at h1 ⊢
 have e:=tS_at P h 0 0 h0 (by rw[t0];simp) (by rw[t1];simp;omega)
 rw[e,t1]
 simp
def SwN(w:World)(b:Nat)(a:Option Addr)(n c:Nat)(jss:List (List Int)):Prop:=
 (a=none∧n=0∧c=0∧jss=[])∨∃g,a=some ⟨g,0,none⟩∧n≤c∧c≤maxLen∧jss.length=n∧∀i,i<n→∃x l k,w.cell? ⟨g,i,none⟩=some (.slice x l k)∧Nums w b (.slice x l k) (jss.getD i [])
theorem SwN.keep{w w':World}{b n c:Nat}{a:Option Addr}{jss:List (List Int)}(h:SwN w b a n c jss)(B:Below w.heap.size w w'):SwN w' b a n c jss:=by
 rcases h with h|⟨g,h1,h2,h3,h4,h5⟩
 ·exact .inl h
 ·exact .inr ⟨g,h1,h2,h3,h4,fun i hi=>by obtain⟨x,l,k,k1,k2⟩:=h5 i hi;exact⟨x,l,k,cell_keep B k1,k2.keep B⟩⟩
theorem SwN.len{w:World}{b n c:Nat}{a:Option Addr}{jss:List (List Int)}(h:SwN w b a n c jss):jss.length=n∧n≤c∧c≤maxLen:=by
 rcases h with⟨_,rfl,rfl,rfl⟩|⟨g,_,h2,h3,h4,_⟩
 ·exact⟨rfl,Nat.le_refl _,by unfold maxLen;omega⟩
 ·exact⟨h4,h2,h3⟩
def OwE(w:World)(base:Nat)(v0 v1 v2 v3 v4 v5:Value)(X:Hst):Prop:=∃xs qs,Ow w base v0 v1 v2 v3 v4 v5 X xs qs
theorem OwE.keep{w w':World}{base:Nat}{v0 v1 v2 v3 v4 v5:Value}{X:Hst}(h:OwE w base v0 v1 v2 v3 v4 v5 X)(b:Below w.heap.size w w'):OwE w' base v0 v1 v2 v3 v4 v5 X:=by
 obtain⟨xs,qs,h⟩:=h;exact⟨xs,qs,h.keep b⟩
theorem range_new(w:World)(cs:Array Value)(t:TypeId):(w.alloc (.cells cs t)).rangeAt w.heap.size 0 cs.toList:=fun j v hv=>by
 rw[Nat.zero_add]
 exact cell_new (by rw[←Array.getElem?_toList];exact hv)
end Go.Proofs.YtignbeibcakgpaaGreatDoor
