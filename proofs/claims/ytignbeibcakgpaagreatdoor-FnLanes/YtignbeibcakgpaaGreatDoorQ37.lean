import Derived.Test.YtignbeibcakgpaaGreatDoorQ35
import Derived.Test.YtignbeibcakgpaaGreatDoorQ36
namespace Go.Proofs.YtignbeibcakgpaaGreatDoor
set_option maxRecDepth 20000
set_option maxHeartbeats 16000000
open Go.RowKit
set_option linter.unusedVariables false
theorem Nums.turn7{w w':World}{base b:Nat}{v:Value}{zs:List Int}(h:Nums w base v zs)(t:Turn b w w')(hb:b<base):Nums w' base v zs:=by
 refine h.kept (row:=some b) ⟨t.os,t.tape,t.output,t.size,fun k hk hn=>t.block k hk (fun e=>hn (by rw[e]))⟩ (.inr fun e=>?_)
 have:=(h.lt b e).1
 omega
theorem Turn.grown7{b:Nat}{w0 w w':World}{row:Option Nat}(t:Turn b w0 w)(g:w.grownBy w' row)(hr:∀k,row=some k→w0.heap.size≤k):Turn b w0 w':=
 ⟨g.os.trans t.os,g.tape.trans t.tape,g.output.trans t.output,Nat.le_trans t.size g.size,fun k hk hb=>(g.block k (Nat.lt_of_lt_of_le hk t.size) (fun e=>by have:=hr k e.symm;omega)).trans (t.block k hk hb)⟩
theorem Src.grown7{w w':World}{b k:Nat}{a:Option Addr}{len cap:Nat}{zs:List Int}{row:Option Nat}(s:Src w b k a len cap zs)(g:w.grownBy w' row)(hr:∀k,row=some k→b<k):Src w' b k a len cap zs:=by
 have h:=s.here
 have hne:∀p:Nat,p≤b→some p≠row:=fun p hp e=>by have:=hr p e.symm;omega
 refine⟨cell_grown g s.code (hne b (Nat.le_refl _)),cell_grown g s.count (hne b (Nat.le_refl _)),?_,?_,s.away,Nat.lt_of_lt_of_le h g.size⟩
 ·rw[←s.free]
  exact World.frozen?_of_block (w:=w) (g.block b h (hne b (Nat.le_refl _)))
 ·rcases s.row with h|⟨x,rfl,h1,h2,h3,h4,h5⟩
  ·exact .inl h
  ·refine .inr ⟨x,rfl,h1,h2,h3,fun i hi=>?_,h5⟩
   have hx:=s.away x rfl (by omega)
   exact cell_grown g (h4 i hi) (by rw[src_block];exact hne _ (by omega))
theorem Rn.one7{w:World}{g:Nat}{z:Int}(h:w.cell? ⟨g,0,none⟩=some (.int .i64 z)):Rn w (some ⟨g,0,none⟩) 1 1 [z]:=by
 refine .inr ⟨_,rfl,Nat.le_refl _,by unfold maxLen;decide,rfl,fun i hi=>?_⟩
 obtain rfl:i=0:=by omega
 exact h
variable{w:World}{b k:Nat}{a:Option Addr}{len cap:Nat}{zs:List Int}
theorem image_any(s:Src w b k a len cap zs)(hk:k≤30000)(n:Int)(hn:n≤100)(hn0: -1000≤n):
  Calls Tryz.prog 63 #[.pointer (some ⟨b,0,none⟩),.int .i64 n] w fun e w'=>∃(v:Value) (xs:List Int) (k':Nat),e=.returned v∧Nums w' w.heap.size v xs∧xs.length=n.toNat∧Turn b w w'∧Src w' b k' a len cap zs∧k'≤k+20*n.toNat:=by
 have fv:=field_value
 have HH:Hid (b<w.heap.size):=s.here
 have N0:Hid (Nums (w.alloc (.cells #[] 2)) w.heap.size (.slice (some ⟨w.heap.size,0,none⟩) 0 0) []):=nums_none w _ (Nat.le_refl _)
 have S0:Hid (Src (w.alloc (.cells #[] 2)) b k a len cap zs):=s.alloc _
 have T0:Hid (Turn b w (w.alloc (.cells #[] 2))):=Turn.alloc b w _
 obtain⟨N,hN⟩:∃N:Nat,n.toNat=N:=⟨_,rfl⟩
 have HNN:Hid (n.toNat=N∧n≤100∧k≤30000):=⟨hN,hn,hk⟩
 rw[hN]
 clear s hk
 by_cases hpos:n≤0
 ·have hz:¬0<n:=by omega
  have hN0:N=0:=by omega
  subst hN0
  clear hN
  go_enter Tryz.func63,Tryz.ntmps63
  go_wp2_with fail
  generalize w.alloc (.cells #[] 2)=W at*
  go_loopw [1,5,6] (fun c u _ wr=>c=.int .i64 n∧u=.slice (some ⟨w.heap.size,0,none⟩) 0 0∧wr=W) (fun _ _ _ _=>0)
  case atStart=>exact⟨rfl,rfl,rfl⟩
  case round=>
   obtain⟨rfl,rfl,rfl⟩:=hrel
   go_wp2_with fail
   go_ret
   exact⟨_,_,_,rfl,N0.out,rfl,T0.out,S0.out,by omega⟩
 ·obtain rfl:n=N:=by omega
  clear hN hpos hn hn0
  go_enter Tryz.func63,Tryz.ntmps63
  go_wp2_with fail
  generalize w.alloc (.cells #[] 2)=W at*
  go_loopw [1,5,6] (fun c u _ wr=>∃(j k':Nat) (xs:List Int),j≤N∧c=.int .i64 j∧xs.length+j=N∧k'+20*j≤k+20*N∧Nums wr w.heap.size u xs∧Turn b w wr∧Src wr b k' a len cap zs) (fun c _ _ _=>(intOf c).toNat)
  case atStart=>exact⟨N,k,[],Nat.le_refl _,rfl,by simp,by omega,N0.out,T0.out,S0.out⟩
  case round=>
   obtain⟨j,k',xs,hj,rfl,hxs,hk',hN,hT,hS⟩:=hrel
   have NJ:=hid hN
   have TJ:=hid hT
   have SJ:=hid hS
   have HX:Hid (xs.length+j=N∧k'+20*j≤k+20*N∧j≤N∧N≤100∧k≤30000):=⟨hxs,hk',hj,by have:=HNN.out;omega,by have:=HNN.out;omega⟩
   clear hN hT hS hxs hk' N0 T0 S0
   by_cases hlt:0<j
   ·have hJ:0<(j:Int):=by omega
    have hJ2:(j:Int)≤100:=by have:=HX.out;omega
    have HLT:=hid hlt
    clear hlt hj
    go_wp2_with fail
    refine(ins7_any SJ.out (by have:=HX.out;omega)).mono ?_
    rintro e w1⟨o1,d1,x1,i1,k1,rfl,t1,s1,hk1⟩
    have N1:Hid (Nums w1 w.heap.size u5 xs):=NJ.out.turn7 t1 HH.out
    have T1:Hid (Turn b w w1):=TJ.out.trans t1
    have S1:=hid s1
    have HK1:=hid hk1
    clear t1 s1 hk1 NJ TJ SJ
    go_wp2_with fail
    refine(spec_encode o1 d1 x1 i1 w1).mono ?_
    rintro e w2⟨rfl,b2⟩
    have N2:=hid (N1.out.keep b2)
    have T2:Hid (Turn b w w2):=T1.out.trans (Turn.of_below b2)
    have S2:=hid (S1.out.stay b2)
    clear b2 N1 T1 S1
    generalize encV o1 d1 x1 i1=ev
    go_wp2_with fail
    refine(chance_any S2.out (by have:=HX.out;have:=HK1.out;omega) _).mono ?_
    rintro e w3⟨c3,rfl,t3,s3⟩
    have N3:Hid (Nums w3 w.heap.size u5 xs):=N2.out.turn7 t3 HH.out
    have T3:Hid (Turn b w w3):=T2.out.trans t3
    have S3:=hid s3
    clear t3 s3 N2 T2 S2
    have hend:∀(z:Int) (w4:World) (k4:Nat),Nums w4 w.heap.size u5 xs→Turn b w w4→Src w4 b k4 a len cap zs→k4≤k1+6→True:=fun _ _ _ _ _ _ _=>trivial
    clear hend
    cases c3
    ·go_wp2_with (at_builtin;refine wp_appx _ rfl _ _ rfl w.heap.size u5 _ rfl (N3.out.keep (al (Below.refl _ _) _)) _ 1 1 [ev] rfl (Rn.one7 (cell_new rfl)) (by have:=HX.out;omega) (by have:=T3.out.size;simp;omega) ?_;intro v' w' hN' hG')
     have N4:Hid (Nums w' w.heap.size v' (xs++ [ev])):=hN'
     have T4:Hid (Turn b w w'):=(T3.out.trans (Turn.alloc b _ _)).grown7 hG' (fun q hq=>by have:=(N3.out.lt q hq).1;omega)
     have S4:Hid (Src w' b (k1+1) a len cap zs):=(S3.out.alloc _).grown7 hG' (fun q hq=>by have:=(N3.out.lt q hq).1;have:=HH.out;omega)
     clear hN' hG'
     go_wp2_with fail
     go_roundw
     case rel=>exact⟨j-1,k1+1,xs++ [ev],by have:=HX.out;omega,by have:=HLT.out;rw[show((j-1:Nat):Int)=(j:Int)-1 by omega],by have:=HX.out;have:=HLT.out;simp;omega,by have:=HX.out;have:=HK1.out;have:=HLT.out;omega,N4.out,T4.out,S4.out⟩
     case measure=>have:=HLT.out;show((j:Int)-1).toNat<((j:Int)).toNat;omega
    ·go_wp2_with fail
     refine(word_any S3.out (by have:=HX.out;have:=HK1.out;omega)).mono ?_
     rintro e w4⟨v4,rfl,h4,t4,s4⟩
     have N3b:Hid (Nums w4 w.heap.size u5 xs):=N3.out.turn7 t4 HH.out
     have T3b:Hid (Turn b w w4):=T3.out.trans t4
     have S3b:=hid s4
     clear t4 s4 h4 N3 T3 S3
     go_wp2_with (at_builtin;refine wp_appx _ rfl _ _ rfl w.heap.size u5 _ rfl (N3b.out.keep (al (Below.refl _ _) _)) _ 1 1 [v4] rfl (Rn.one7 (cell_new rfl)) (by have:=HX.out;omega) (by have:=T3b.out.size;simp;omega) ?_;intro v' w' hN' hG')
     have N4:Hid (Nums w' w.heap.size v' (xs++ [v4])):=hN'
     have T4:Hid (Turn b w w'):=(T3b.out.trans (Turn.alloc b _ _)).grown7 hG' (fun q hq=>by have:=(N3b.out.lt q hq).1;omega)
     have S4:Hid (Src w' b (k1+1+5) a len cap zs):=(S3b.out.alloc _).grown7 hG' (fun q hq=>by have:=(N3b.out.lt q hq).1;have:=HH.out;omega)
     clear hN' hG'
     go_wp2_with fail
     go_roundw
     case rel=>exact⟨j-1,k1+1+5,xs++ [v4],by have:=HX.out;omega,by have:=HLT.out;rw[show((j-1:Nat):Int)=(j:Int)-1 by omega],by have:=HX.out;have:=HLT.out;simp;omega,by have:=HX.out;have:=HK1.out;have:=HLT.out;omega,N4.out,T4.out,S4.out⟩
     case measure=>have:=HLT.out;show((j:Int)-1).toNat<((j:Int)).toNat;omega
   ·obtain rfl:j=0:=by omega
    clear hlt hj
    go_wp2_with fail
    go_ret
    exact⟨_,xs,k',rfl,NJ.out,by have:=HX.out;omega,TJ.out,SJ.out,by have:=HX.out;omega⟩
def lwordsC(P:Plc)(ms:List Int)(l:Int):Int:=if pfV P=0 then(if 0≤l∧l<P.lanes.length then(if wholeB ms=true then 0 else 1)else 4)else pfV P
def lwordsZ(P:Plc)(ms:List Int)(l:Int):List Int:=if lwordsC P ms l=0 then wordsL ms [(P.lanes.getD l.toNat lz).pg]else []
theorem lane_pg(own:List (List Int)):∀(ls ahead:List Ln),lanesV own ahead ls=0→∀l ∈ ls,0≤l.pg∧l.pg≤23:=by
 intro ls
 induction ls with
 |nil=>intro _ _ l hl;cases hl
 |cons a t ih=>
  intro ahead h l hl
  rw[lanesV]at h
  split at h
  ·rename_i h1
   rcases List.mem_cons.1 hl with rfl|hl
   ·rw[laneV]at h1
    split at h1
    ·split at h1
     ·cases h1
     ·rename_i h2
      simp only[not_or,Bool.not_eq_false]at h2
      simpa [pgOk]using h2.1
    ·rename_i h2
     exact absurd h1 h2
   ·exact ih _ h l hl
  ·rename_i h1
   exact absurd h h1
theorem pf_page(P:Plc)(h:pfV P=0)(j:Nat)(hj:j<P.lanes.length):0≤(P.lanes.getD j lz).pg∧(P.lanes.getD j lz).pg≤23:=
 lane_pg _ _ _ (pf_parts P h).2.2.1 _ (getD_mem P.lanes lz j hj)
def seeS(ps:List (Int×Int))(ms:List Int):Nat→List Int
 |0=>List.replicate 64 0
 |k+1=>if 0≤(ps.getD k (0,0)).1 then fzL (seeS ps ms k) k (eight ms (ps.getD k (0,0)).1.toNat) 8 else seeS ps ms k
theorem seeS_len(ps:List (Int×Int))(ms:List Int)(hm:ms.length=192)(hp:∀k,k<8→(ps.getD k (0,0)).1= -1∨(0≤(ps.getD k (0,0)).1∧(ps.getD k (0,0)).1≤23)):∀k,k≤8→(seeS ps ms k).length=64
 |0,_=>by simp[seeS]
 |k+1,hk=>by
  rw[seeS]
  split
  ·rename_i h
   have h1:=hp k (by omega)
   exact fz_len _ k _ 8 (seeS_len ps ms hm hp k (by omega)) (by omega) (eight_length ms 24 _ (by omega) (by omega)) (by decide)
  ·exact seeS_len ps ms hm hp k (by omega)
theorem setCells_app(b:Nat):∀(xs ys:List Value) (o:Nat) (w:World),w.setCells b o (xs++ys)=(w.setCells b o xs).setCells b (o+xs.length) ys
 | [],ys,o,w=>by simp[World.setCells]
 |x::xs,ys,o,w=>by
  rw[List.cons_append,World.setCells,World.setCells,setCells_app b xs ys (o+1),List.length_cons]
  congr 1
  omega
theorem vb_fz{w:World}{q p:Nat}{L ws:List Int}{t:TypeId}(h:Vb w q (L.map (Value.int .i64)).toArray t)(hl:L.length=64)(hp:p≤7)(hw:ws.length=8):∀n,n≤8→Vb (w.setCells q (p*8) ((ws.take n).map (Value.int .i64))) q ((fzL L p ws n).map (Value.int .i64)).toArray t
 |0,_=>by
  rw[fz_zero]
  simpa [World.setCells]using h
 |n+1,hn=>by
  have ih:=vb_fz h hl hp hw n (by omega)
  have e:ws.take (n+1)=ws.take n++ [ws.getD n 0]:=by
   rw[List.take_add_one,List.getD,List.getElem?_eq_getElem (by omega)]
   rfl
  rw[e,List.map_append,setCells_app,fz_succ L p ws n hl hp hw (by omega)]
  have s:=ih.set (p*8+n) (.int .i64 (ws.getD n 0))
  have el:((ws.take n).map (Value.int .i64)).length=n:=by rw[List.length_map,List.length_take];omega
  rw[el]
  show Vb (World.setCell _ _ _) _ _ _
  have ea:((fzL L p ws n).map (Value.int .i64)).toArray.setIfInBounds (p*8+n) (.int .i64 (ws.getD n 0))=(((fzL L p ws n).set (p*8+n) (ws.getD n 0)).map (Value.int .i64)).toArray:=by
   rw[List.setIfInBounds_toArray,List.map_set]
  rw[ea]at s
  exact s
theorem vb_pags{w:World}{base q:Nat}{L:List Int}(h:Vb w q (L.map (Value.int .i64)).toArray 91)(hb:base≤q)(hl:L.length=64):Pags w base (.slice (some ⟨q,0,none⟩) 8 8) 8 L:=
 ⟨by rw[List.length_map,hl],.inr ⟨q,8,_,rfl,hb,h,Nat.le_refl _,by decide,by rw[List.size_toArray,List.length_map,hl],by rw[List.take_of_length_le (by rw[List.length_map,hl];decide)]⟩⟩
theorem i_seen(pb pc:Nat)(ps:List (Int×Int))(gm n cap:Nat)(ms:List Int)(b:Nat)(w:World)(hl:Prs 89 w b (.slice (some ⟨pb,0,none⟩) 8 pc) ps)(h8:ps.length=8)(hm:Nums w b (.slice (some ⟨gm,0,none⟩) n cap) ms)(h192:ms.length=192)(hp:∀k,k<8→(ps.getD k (0,0)).1= -1∨(0≤(ps.getD k (0,0)).1∧(ps.getD k (0,0)).1≤23)):
  Calls Tryz.prog 31 #[.slice (some ⟨pb,0,none⟩) 8 pc,.slice (some ⟨gm,0,none⟩) n cap] w fun e w'=>∃v,e=.returned v∧Nums w' w.heap.size v (seeS ps ms 8)∧Below w.heap.size w w':=by
 have HL:Hid (Prs 89 w b (.slice (some ⟨pb,0,none⟩) 8 pc) ps∧8=ps.length):=⟨hl,h8.symm⟩
 have HM:Hid (Nums w b (.slice (some ⟨gm,0,none⟩) n cap) ms∧ms.length=192):=⟨hm,h192⟩
 have HP:=hid hp
 have SL:Hid (∀k,k≤8→(seeS ps ms k).length=64):=seeS_len ps ms h192 hp
 clear hl h8 hm h192 hp
 obtain⟨i,hi,hz0,hz1,hz2⟩:=info_parts info_wpage
 go_enter Tryz.func31,Tryz.ntmps31
 go_wp2_with fail
 refine(impl_cut gm n cap ms b 24 _ HM.out.1 (by rw[HM.out.2]) (by decide) (by decide)).mono ?_
 rintro e w1⟨g,rfl,pg,b1⟩
 have PGS:=hid pg
 have B1:=hid b1
 clear pg b1
 go_upto_region 3 with(at_make;refine wpList_make_full _ rfl _ _ 109 rfl w1.heap.size 91 i _ 8 Tryz.underlying109 hi hz0 hz1 _ _ _ _ 8 rfl rfl (by decide) (by decide) (by rw[hz2];decide) (by unfold maxLen;decide) (by simp) ?_;intro w2 hown hgrow;have b2:=(Below.refl _ _).grown hgrow (Nat.le_refl _) (by simp))
 have V2:Hid (Vb w2 w1.heap.size ((seeS ps ms 0).map (Value.int .i64)).toArray 91):=by
  refine Pags.heap (base:=w1.heap.size) (p:=8) ?_
  unfold Pags
  rw[show(Value.agg (Array.replicate 8 (.int .i64 0))).cells=Array.replicate 8 (.int .i64 0)from rfl,made_replicate _ _ _ (by decide)]at hown
  simpa [seeS]using hown
 have B2:=hid b2
 clear hown hgrow hi hz0 hz1 hz2 b2
 obtain⟨q,hq⟩:∃q,w1.heap.size=q:=⟨_,rfl⟩
 have HQ:=hid hq
 rw[hq]at V2 ⊢
 clear hq
 go_wp2_with fail
 go_loopw [7,8,16] (fun _ _ c wr=>∃k:Nat,k≤8∧c=.int .i64 (k:Int)∧Vb wr q ((seeS ps ms k).map (Value.int .i64)).toArray 91∧Below w1.heap.size w1 wr) (fun _ _ c _=>8-(intOf c).toNat)
 case atStart=>exact⟨0,by decide,rfl,V2.out,B2.out⟩
 case round=>
  obtain⟨k,hk,rfl,hV,hB⟩:=hrel
  have HV:=hid hV
  have HB:=hid hB
  clear hV
  by_cases hlt:k<8
  ·have hI:(k:Int)<8:=by omega
   have HLT:=hid hlt
   have cc:=HL.out.1.cell HL.out.2 k hlt
   have c0:=cell_keep hB (cell_keep B1.out cc.1)
   have c1:=cell_keep hB (cell_keep B1.out cc.2)
   have KP:=HP.out k hlt
   have SS:Hid (seeS ps ms (k+1)=if 0≤(ps.getD k (0,0)).1 then fzL (seeS ps ms k) k (eight ms (ps.getD k (0,0)).1.toNat) 8 else seeS ps ms k):=by show _=_;rw[seeS]
   obtain⟨tk,htk⟩:∃z,(ps.getD k (0,0)).1=z:=⟨_,rfl⟩
   obtain⟨dk,hdk⟩:∃z,(ps.getD k (0,0)).2=z:=⟨_,rfl⟩
   rw[htk]at c0 KP SS
   rw[hdk]at c1
   clear hlt htk hdk cc hB
   rcases KP with rfl|ht
   ·have SE:Hid (seeS ps ms (k+1)=seeS ps ms k):=by show _=_;rw[SS.out,if_neg (by decide)]
    go_wp2_with fail
    go_roundw
    case rel=>exact⟨k+1,by have:=HLT.out;omega,by go_num,by rw[SE.out];exact HV.out.push _,al HB.out _⟩
    case measure=>have:=HLT.out;simp[intOf];omega
   ·obtain⟨m,rfl⟩:=Int.eq_ofNat_of_zero_le ht.1
    have SE:Hid (seeS ps ms (k+1)=fzL (seeS ps ms k) k (eight ms m) 8):=by show _=_;rw[SS.out,if_pos ht.1,Int.toNat_natCast]
    have M24:Hid (m<24):=by show _<_;omega
    have hm24:(m:Int)<24:=by have:=M24.out;omega
    have E8:Hid ((eight ms m).length=8):=eight_length ms 24 m (by rw[HM.out.2]) M24.out
    have hne:((m:Int) != -1)=true:=by first|(simp;done)|(simp;omega)
    have hne2:¬(m:Int)= -1:=by omega
    clear ht
    go_upto_region 7 with fail
    generalize hU:wr.alloc (.cells #[.int .i64 (m:Int),.int .i64 dk] 89)=U
    have bU:Below wr.heap.size wr U:=by rw[←hU];exact al (Below.refl _ _) _
    have y0:U.cell? ⟨wr.heap.size,0,none⟩=some (.int .i64 (m:Int)):=by rw[←hU];exact cell_new rfl
    have VU:=hid (HV.out.keep bU)
    have BU:=hid (on HB.out bU)
    have RG:Hid (U.rangeAt g (m*8) ((eight ms m).map (Value.int .i64))):=by
     intro j v hv
     have hj:j<8:=by have:=(List.getElem?_eq_some_iff.1 hv).1;rw[List.length_map,E8.out]at this;exact this
     have hc:=cell_keep BU.out (PGS.out.cell (m*8+j) (by have:=M24.out;omega))
     rw[hc,←hv,List.getElem?_map,eight_list ms m (by have:=HM.out.2;have:=M24.out;omega)]
     have e:j=0∨j=1∨j=2∨j=3∨j=4∨j=5∨j=6∨j=7:=by omega
     rcases e with rfl|rfl|rfl|rfl|rfl|rfl|rfl|rfl<;>rfl
    generalize wr.heap.size=p at*
    clear hU bU c0 c1
    refine wp_region_lit ?_
    refine wpList_take (.slice (some ⟨q,0,none⟩) 8 8) (Or.inl ⟨by rfl,fun w' hs=>by subst hs;go_simp⟩) ?_
    change wpList _ _ _ _ (Act.put _ (some 24) _) _
    simp only[Act.put,zT,zZ,zS]
    refine wpList_take (.int .i64 (k:Int)) (Or.inl ⟨by rfl,fun w' hs=>by subst hs;go_simp⟩) ?_
    change wpList _ _ _ _ (Act.put _ (some 25) _) _
    simp only[Act.put,zT,zZ,zS]
    refine wpList_take (.slice (some ⟨g,0,none⟩) 24 24) (Or.inl ⟨by rfl,fun w' hs=>by subst hs;go_simp⟩) ?_
    change wpList _ _ _ _ (Act.put _ (some 26) _) _
    simp only[Act.put,zT,zZ,zS]
    refine wpList_take (.pointer (some ⟨p,0,none⟩)) (Or.inl ⟨by rfl,fun w' hs=>by subst hs;go_simp⟩) ?_
    change wpList _ _ _ _ (Act.put _ (some 27) _) _
    simp only[Act.put,zT,zZ,zS]
    refine wpList_take (.int .i64 (m:Int)) (Or.inl ⟨by rfl,fun w' hs=>by subst hs;go_simp⟩) ?_
    change wpList _ _ _ _ (Act.put _ (some 28) _) _
    simp only[Act.put,zT,zZ,zS]
    refine wpList_take (.pointer (some ⟨g,m*8,none⟩)) (Or.inl ⟨by rfl,fun w' hs=>by subst hs;go_simp⟩) ?_
    change wpList _ _ _ _ (Act.put _ (some 29) _) _
    simp only[Act.put,zT,zZ,zS]
    refine wpList_take (.agg ((eight ms m).map (Value.int .i64)).toArray) (yieldsIf_load_mid rfl 91 (.tmp 29) rfl g (m*8) rfl ((eight ms m).map (Value.int .i64)) _ (fun w' e=>by subst e;exact RG.out) Tryz.underlying91 rfl (by rw[List.length_map,E8.out];kernel_rfl)) ?_
    change wpList _ _ _ _ (Act.put _ (some 30) _) _
    simp only[Act.put,zT,zZ,zS]
    refine wpList_take (.pointer (some ⟨q,k*8,none⟩)) (Or.inl ⟨by rfl,fun w' hs=>by subst hs;go_simp⟩) ?_
    change wpList _ _ _ _ (Act.put _ (some 31) _) _
    simp only[Act.put,zT,zZ,zS]
    refine wpList_store_mid rfl 91 (.tmp 31) (.tmp 30) rfl q (k*8) ((eight ms m).map (Value.int .i64)).toArray rfl rfl (there_part (VU.out.there 64 (Nat.le_of_eq (by rw[List.size_toArray,List.length_map,SL.out k (by have:=HLT.out;omega)]))) _ _ (by rw[List.size_toArray,List.length_map,E8.out];have:=HLT.out;omega)) (by rw[List.size_toArray,List.length_map,E8.out];kernel_rfl) (by simp[Value.oneCell']) ?_
    change wpList _ _ _ _ (Act.put _ none undef) _
    simp only[Act.put]
    have V5:Hid (Vb (U.setCells q (k*8) ((eight ms m).map (Value.int .i64)).toArray.toList) q ((seeS ps ms (k+1)).map (Value.int .i64)).toArray 91):=by
     have h:=vb_fz (p:=k) (ws:=eight ms m) VU.out (SL.out k (by have:=HLT.out;omega)) (by have:=HLT.out;omega) E8.out 8 (Nat.le_refl _)
     rw[List.take_of_length_le (by rw[E8.out];exact Nat.le_refl _)]at h
     show Vb _ _ _ _
     rw[SE.out]
     exact h
    have B5:Hid (Below w1.heap.size w1 (U.setCells q (k*8) ((eight ms m).map (Value.int .i64)).toArray.toList)):=Mq.under BU.out (mq_cells q _ U _) fun k e=>by have:=HQ.out;omega
    generalize U.setCells q (k*8) ((eight ms m).map (Value.int .i64)).toArray.toList=U5 at*
    refine wpList_nil ?_
    clear y0
    go_wp2_with fail
    go_roundw
    case rel=>exact⟨k+1,by have:=HLT.out;omega,by go_num,V5.out,B5.out⟩
    case measure=>have:=HLT.out;simp[intOf];omega
  ·have hJ:¬(k:Int)<8:=by omega
   obtain rfl:k=8:=by omega
   clear hlt hB
   go_wp2_with fail
   refine(impl_join q 8 8 (seeS ps ms 8) w.heap.size _ (vb_pags HV.out (by have:=HQ.out;have:=B1.out.size;omega) (SL.out 8 (Nat.le_refl _))) (by decide)).mono ?_
   rintro e w3⟨v,rfl,n3,b3⟩
   have N3:Hid (Nums w3 w.heap.size v (seeS ps ms 8)):=n3.mono ((on B1.out HB.out).size)
   have B3:=hid (on (on B1.out HB.out) b3)
   clear n3 b3
   go_wp2_with fail
   go_ret
   exact⟨_,rfl,N3.out,B3.out⟩
theorem i_wordsOn(gm n cap b:Nat)(ms:List Int)(ap:Option Addr)(lp cp:Nat)(ps:List Int)(w:World)(h:Nums w b (.slice (some ⟨gm,0,none⟩) n cap) ms)(hm:ms.length=192)(hp:IsNs w ap lp cp ps)(hr:∀x ∈ ps,0≤x∧x≤23)(hl:1≤ps.length∧ps.length≤5):
  Calls Tryz.prog 25 #[.slice (some ⟨gm,0,none⟩) n cap,.slice ap lp cp] w fun e w'=>∃v,e=.returned v∧Nums w' w.heap.size v (wordsL ms ps)∧Below w.heap.size w w':=
 i_wordsN gm n cap b ms ap lp cp ps w h 24 (by decide) (by decide) (by omega) hp (fun x hx=>by have:=hr x hx;omega) hl.2
theorem i_laneWords(a0 a1 a2 a3:Option Addr)(n0 c0 n1 c1 n2 c2 n3 c3:Nat)(P:Plc)(b lm cm:Nat)(gm:Nat)(ms:List Int)(gu:Int)(w:World)(h:Pl w a0 n0 c0 a1 n1 c1 a2 n2 c2 a3 n3 c3 P)(hm:Nums w b (.slice (some ⟨gm,0,none⟩) lm cm) ms)(hg:w.cell? ⟨0,0,none⟩=some (.iface 240 (.agg #[.pointer (some ⟨2,134,none⟩)]))):
  Calls Tryz.prog 9 #[.agg #[.slice a0 n0 c0,.slice a1 n1 c1,.slice a2 n2 c2,.slice a3 n3 c3],.slice (some ⟨gm,0,none⟩) lm cm,.int .i64 gu] w fun e w'=>∃v,e=.returned (.agg #[.int .i64 (lwordsC P ms gu),v])∧Nums w' w.heap.size v (lwordsZ P ms gu)∧Below w.heap.size w w':=by
 generalize hW:((w.alloc (.cells #[.slice a0 n0 c0,.slice a1 n1 c1,.slice a2 n2 c2,.slice a3 n3 c3] 29))).alloc (.cells #[.int .i64 0,.slice none 0 0] 44)=W
 have B0:Hid (Below w.heap.size w W):=by show Below _ _ _;rw[←hW];exact al (al (Below.refl _ _) _) _
 obtain⟨s,hS⟩:∃s,w.heap.size=s:=⟨_,rfl⟩
 have HSs:=hid hS
 have Q:Hid (W.cell? ⟨s,0,none⟩=some (.slice a0 n0 c0)∧W.cell? ⟨s,1,none⟩=some (.slice a1 n1 c1)∧W.cell? ⟨s,2,none⟩=some (.slice a2 n2 c2)∧W.cell? ⟨s,3,none⟩=some (.slice a3 n3 c3)):=by
  show _∧_
  rw[←hW,←hS]
  exact⟨cell_push _ (cell_new rfl),cell_push _ (cell_new rfl),cell_push _ (cell_new rfl),cell_push _ (cell_new rfl)⟩
 have R:Hid (RsI W s):=by
  have z1:s+1=((w.alloc (.cells #[.slice a0 n0 c0,.slice a1 n1 c1,.slice a2 n2 c2,.slice a3 n3 c3] 29))).heap.size:=by rw[←hS];simp
  show RsI W s
  unfold RsI
  rw[←hW,z1]
  exact⟨cell_new rfl,cell_new rfl,fz_new _ _ _ _,fz_new _ _ _ _,by simp⟩
 have HP:=hid (h.stay B0.out)
 have HA:Hid (PolAt W s P):=⟨_,_,_,_,_,_,_,_,_,_,_,_,Q.out.1,Q.out.2.1,Q.out.2.2.1,Q.out.2.2.2,HP.out⟩
 have HM:=hid (hm.keep B0.out)
 have HG:Hid (_=_):=cell_keep B0.out hg
 clear h hg hm
 have hn1:(n1:Int)≤9223372036854775807:=by have:=HP.out.lanes.cap;unfold maxLen at this;omega
 have HL1:Hid (n1=P.lanes.length):=HP.out.lanes.len
 have q0:=Q.out.1
 have q1:=Q.out.2.1
 have q2:=Q.out.2.2.1
 have q3:=Q.out.2.2.2
 go_enter Tryz.func9,Tryz.ntmps9
 go_wp2_with fail
 clear hW hS
 refine(impl_policy _ _ _ _ _ _ _ _ _ _ _ _ P _ HP.out HG.out).mono ?_
 rintro e w1⟨rfl,b1⟩
 have B1:=hid (on B0.out b1)
 have R1:=hid (R.out.keep b1)
 obtain⟨r0,r1,f0,f1,lt⟩:=R1.out
 have Q1:Hid (w1.cell? ⟨s,0,none⟩=some (.slice a0 n0 c0)∧w1.cell? ⟨s,1,none⟩=some (.slice a1 n1 c1)):=⟨cell_keep b1 Q.out.1,cell_keep b1 Q.out.2.1⟩
 have HPw:=hid (HP.out.stay b1)
 have HMw:=hid (HM.out.keep b1)
 clear b1 q0 q1 q2 q3
 by_cases hz:pfV P=0
 case neg=>
  have CV:Hid (lwordsC P ms gu=pfV P):=by show _=_;rw[lwordsC,if_neg hz]
  have ZV:Hid (lwordsZ P ms gu=[]):=by show _=_;rw[lwordsZ,if_neg (by rw[CV.out];exact hz)]
  generalize hv:pfV P=v at*
  go_wp2_with fail
  exact bodyPost_ret (v:=.agg #[.int .i64 v,.slice none 0 0]) (by simp[results,Tryz.results9,go_sem,r0,r1]) rfl ⟨.slice none 0 0,by rw[CV.out],by rw[ZV.out];exact Nums.nil _ _,(B1.out.setCell (by have:=HSs.out;show w.heap.size≤s+1;omega) _).setCell (by have:=HSs.out;show w.heap.size≤s+1;omega) _⟩
 have AZ:=hid hz
 by_cases hl:0≤gu∧gu<P.lanes.length
 case neg=>
  have CV:Hid (lwordsC P ms gu=4):=by show _=_;rw[lwordsC,if_pos hz,if_neg hl]
  have ZV:Hid (lwordsZ P ms gu=[]):=by show _=_;rw[lwordsZ,if_neg (by rw[CV.out];decide)]
  rw[hz]
  have q1:=Q1.out.2
  have hl2:¬(0≤gu∧gu<n1):=by have:=HL1.out;omega
  clear hz hl
  by_cases hl0:gu<0
  ·clear hl2
   go_wp2_with fail
   exact bodyPost_ret (v:=.agg #[.int .i64 4,.slice none 0 0]) (by simp[results,Tryz.results9,go_sem,r0,r1]) rfl ⟨.slice none 0 0,by rw[CV.out],by rw[ZV.out];exact Nums.nil _ _,(B1.out.setCell (by have:=HSs.out;show w.heap.size≤s+1;omega) _).setCell (by have:=HSs.out;show w.heap.size≤s+1;omega) _⟩
  ·have hl3:(n1:Int)≤gu:=by omega
   clear hl2
   go_wp2_with fail
   exact bodyPost_ret (v:=.agg #[.int .i64 4,.slice none 0 0]) (by simp[results,Tryz.results9,go_sem,r0,r1]) rfl ⟨.slice none 0 0,by rw[CV.out],by rw[ZV.out];exact Nums.nil _ _,(B1.out.setCell (by have:=HSs.out;show w.heap.size≤s+1;omega) _).setCell (by have:=HSs.out;show w.heap.size≤s+1;omega) _⟩
 obtain⟨l,rfl⟩:=Int.eq_ofNat_of_zero_le hl.1
 have HLN:Hid (l<n1):=by have:=HL1.out;have:=hl.2;show _<_;omega
 have hlI:(l:Int)<(n1:Int):=by have:=HLN.out;omega
 have hd:(decide ((0:Int)≤(l:Int))&&decide ((l:Int)≤(n1:Int)-1))=true:=by simp;omega
 have HLL:Hid (0≤(l:Int)∧(l:Int)<P.lanes.length):=hl
 clear hl
 have q1:=Q1.out.2
 cases hw:wholeB ms with
 |false=>
  have CV:Hid (lwordsC P ms (l:Int)=1):=by show _=_;rw[lwordsC,if_pos AZ.out,if_pos HLL.out,hw];rfl
  have ZV:Hid (lwordsZ P ms (l:Int)=[]):=by show _=_;rw[lwordsZ,if_neg (by rw[CV.out];decide)]
  rw[hz]
  clear hz
  go_wp2_with (go_at_call 24;refine(i_whole _ ms b _ HMw.out).mono ?_;rintro e w1 ⟨rfl,rfl⟩;rw[hw])
  exact bodyPost_ret (v:=.agg #[.int .i64 1,.slice none 0 0]) (by simp[results,Tryz.results9,go_sem,r0,r1]) rfl ⟨.slice none 0 0,by rw[CV.out],by rw[ZV.out];exact Nums.nil _ _,(B1.out.setCell (by have:=HSs.out;show w.heap.size≤s+1;omega) _).setCell (by have:=HSs.out;show w.heap.size≤s+1;omega) _⟩
 |true=>
  have CV:Hid (lwordsC P ms (l:Int)=0):=by show _=_;rw[lwordsC,if_pos AZ.out,if_pos HLL.out,hw];rfl
  have hwW:wholeB ms=true:=hw
  have HWW:=hid hw
  clear hwW
  rw[hz]
  clear hz
  obtain⟨x,rfl,k0,k1,k2,k3,k4⟩:=HPw.out.lanes.at l HLN.out
  have PR:Hid (0≤(P.lanes.getD l lz).pg∧(P.lanes.getD l lz).pg≤23):=pf_page P AZ.out l (by have:=HLL.out;omega)
  have ZV:Hid (lwordsZ P ms (l:Int)=wordsL ms [(P.lanes.getD l lz).pg]):=by show _=_;rw[lwordsZ,if_pos CV.out,Int.toNat_natCast]
  generalize (P.lanes.getD l lz).pg=pg at*
  clear k0 k1 k3 k4
  go_wp2_with (go_at_call 24;refine(i_whole _ ms b _ HMw.out).mono ?_;rintro e w1 ⟨rfl,rfl⟩;rw[hw])
  have NSP:Hid (IsNs (w1.alloc (.cells #[.int .i64 pg] 2)) (some ⟨w1.heap.size,0,none⟩) 1 1 [pg]):=ns_one _ _ _
  have hwW:=HWW.out
  refine(i_wordsOn _ _ _ _ _ _ _ _ _ _ (HMw.out.keep (al (Below.refl _ _) _)) (by unfold wholeB at hwW;simp at hwW;exact hwW.1) NSP.out (by intro x hx;rw[List.mem_singleton]at hx;rw[hx];exact PR.out) ⟨by simp,by simp⟩).mono ?_
  rintro e w2⟨v,rfl,n2',b2⟩
  clear hwW
  have B2:Hid (Below w.heap.size w w2):=on B1.out (on (al (Below.refl _ _) _) b2)
  have D2:Hid (Below w1.heap.size w1 w2):=on (al (Below.refl _ _) _) b2
  obtain⟨ya,yc,hv,_,_,_⟩:=n2'.shape
  have NN:Hid (Nums w2 w.heap.size v (wordsL ms [pg])):=n2'.mono (Nat.le_trans B1.out.size (by simp))
  have NL:Hid (∀k,v.ownBlock=some k→w1.heap.size≤k):=fun k e=>Nat.le_trans (by simp) (n2'.lt k e).1
  have LT:Hid (s+1<w1.heap.size):=R1.out.2.2.2.2
  generalize (wordsL ms [pg]).length=ln at hv
  subst hv
  obtain⟨r0,r1,f0,f1,lt⟩:=R1.out.keep D2.out
  clear b2 n2'
  go_wp2_with fail
  refine bodyPost_ret (v:=.agg #[.int .i64 0,.slice ya ln yc]) (by simp[results,Tryz.results9,go_sem,r0,r1]) rfl ⟨.slice ya ln yc,by rw[CV.out],?_,(B2.out.setCell (by have:=HSs.out;show w.heap.size≤s+1;omega) _).setCell (by have:=HSs.out;show w.heap.size≤s+1;omega) _⟩
  have ne:(Value.slice ya ln yc).ownBlock≠some (s+1):=fun e=>by have:=NL.out _ e;have:=LT.out;omega
  rw[ZV.out]
  exact(NN.out.put ⟨s+1,0,none⟩ (.int .i64 0) ne).put ⟨s+1,1,none⟩ (.slice ya ln yc) ne
def frC(X:Hst)(g:Int):Int:=if hoV X=0 then(if isG X.pol.own.length g=true then 0 else 4)else hoV X
def frH(X:Hst)(g:Int):Ht:=if frC X g=0 then X.harts.getD g.toNat voidH else voidH
def frP(X:Hst)(g:Int):List (Int×Int):=if frC X g=0 then aloL (pforL (X.pol.own.getD g.toNat []) X.pol.lanes g 8)else []
def frZ(X:Hst)(g:Int):List Int:=if frC X g=0 then seeS (pforL (X.pol.own.getD g.toNat []) X.pol.lanes g 8) X.mem 8 else []
theorem fr_yes(X:Hst)(g:Int)(h:frC X g=0):frH X g=X.harts.getD g.toNat voidH∧frP X g=aloL (pforL (X.pol.own.getD g.toNat []) X.pol.lanes g 8)∧frZ X g=seeS (pforL (X.pol.own.getD g.toNat []) X.pol.lanes g 8) X.mem 8:=
 ⟨by rw[frH,if_pos h],by rw[frP,if_pos h],by rw[frZ,if_pos h]⟩
theorem harts_eachF:∀(hs:List Ht),hartsV hs=0→∀j,j<hs.length→hfV (hs.getD j voidH)=0
 | [],_,j,hj=>absurd hj (Nat.not_lt_zero _)
 |h::t,hv,j,hj=>by
  rw[hartsV]at hv
  split at hv
  ·rename_i h0
   match j,hj with
   |0,_=>exact h0
   |j+1,hj=>exact harts_eachF t hv j (by simpa using hj)
  ·rename_i h0
   exact absurd hv h0
structure Fok(X:Hst)(g:Nat):Prop where
 g0:g<X.pol.own.length
 hl:X.harts.length=X.pol.own.length
 hk:Hok (X.harts.getD g voidH)
 ml:X.mem.length=192
 pp:pfV X.pol=0
 pg:∀k,k<8→(pforL (X.pol.own.getD g []) X.pol.lanes (g:Int) 8).getD k (0,0)=(-1,0)∨((0≤((pforL (X.pol.own.getD g []) X.pol.lanes (g:Int) 8).getD k (0,0)).1∧((pforL (X.pol.own.getD g []) X.pol.lanes (g:Int) 8).getD k (0,0)).1≤23)∧((pforL (X.pol.own.getD g []) X.pol.lanes (g:Int) 8).getD k (0,0)).2≠0)
theorem Fok.to_{X:Hst}{g:Nat}(h:Fok X g):∀k,k<8→((pforL (X.pol.own.getD g []) X.pol.lanes (g:Int) 8).getD k (0,0)).1= -1∨(0≤((pforL (X.pol.own.getD g []) X.pol.lanes (g:Int) 8).getD k (0,0)).1∧((pforL (X.pol.own.getD g []) X.pol.lanes (g:Int) 8).getD k (0,0)).1≤23):=fun k hk=>by
 rcases h.pg k hk with e|e
 ·exact .inl (by rw[e])
 ·exact .inr e.1
theorem fok_of{X:Hst}{g:Nat}(h:hoV X=0)(hg:isG X.pol.own.length (g:Int)=true):Fok X g:=by
 obtain⟨hp,_,_⟩:=ho_ok h
 have hgl:g<X.pol.own.length:=by have:=(isG_iff _ _).1 hg;omega
 have hpp:=pf_parts X.pol hp
 have ho:=pf_own X.pol hp g hgl
 unfold hoV at h
 rw[if_pos hp]at h
 split at h
 case isFalse=>cases h
 rename_i hm
 split at h
 case isFalse h3=>exact absurd h h3
 rename_i hh
 have hml:X.mem.length=192:=by have:=hm.1;unfold wholeB at this;simp at this;exact this.1
 refine⟨hgl,hm.2,hok_of (harts_eachF X.harts hh g (by omega)),hml,hp,fun k hk=>?_⟩
 rw[pforL_at _ _ _ k hk]
 unfold pageV
 split
 ·rename_i h1
  right
  have h2:=ho.2.2 ((X.pol.own.getD g []).getD k 0) (getD_mem _ 0 k h1)
  exact⟨h2,by show(7:Int)≠0;decide⟩
 ·exact first_in _ _ _ (flanes_pg _ _ _ hpp.2.2.1)
theorem sv_someF{w:World}{base n cap:Nat}{a:Option Addr}{zs:List Int}(h:Nums w base (.slice a n cap) zs)(hz:0<zs.length):∃gm,a=some ⟨gm,0,none⟩:=by
 obtain⟨a',cap',e,_,_,hg⟩:=h.shape
 cases e
 exact hg hz
theorem ifr_good(a0 a1 a2 a3:Option Addr)(n0 c0 n1 c1 n2 c2 n3 c3:Nat)(m h:Value)(X:Hst)(g:Nat)(b:Nat)(w:World)(d:Oj w b a0 n0 c0 a1 n1 c1 a2 n2 c2 a3 n3 c3 m h X)(hg:w.cell? ⟨0,0,none⟩=some (.iface 240 (.agg #[.pointer (some ⟨2,134,none⟩)])))(hv:hoV X=0)(hgu:isG X.pol.own.length (g:Int)=true):
  Calls Tryz.prog 10 #[.agg #[.slice a0 n0 c0,.slice a1 n1 c1,.slice a2 n2 c2,.slice a3 n3 c3,m,h,.int .i64 X.slot,.int .i64 X.left,.int .i64 X.clock],.int .i64 (g:Int)] w fun e w'=>∃r' c' i' o' l' m',e=.returned (.agg #[.int .i64 (frC X (g:Int)),r',.int .i64 (frH X (g:Int)).pc,c',.bool (frH X (g:Int)).halted,.bool (frH X (g:Int)).waiting,.bool (frH X (g:Int)).rung,.int .i64 (frH X (g:Int)).done,i',o',l',m'])∧Sm w' w.heap.size r' c' i' o' l' m' (frH X (g:Int)) (frP X (g:Int)) (frZ X (g:Int))∧Below w.heap.size w w':=by
 have hx:frC X (g:Int)=0:=by rw[frC,if_pos hv,if_pos hgu]
 have hu:=fr_yes X (g:Int) hx
 rw[hu.1,hu.2.1,hu.2.2,hx,Int.toNat_natCast]
 obtain⟨PS,hPS⟩:∃PS,(pforL (X.pol.own.getD g []) X.pol.lanes (g:Int) 8)=PS:=⟨_,rfl⟩
 have HPS:=hid hPS
 rw[hPS]
 clear hPS
 have OK:Hid (Fok X g):=fok_of hv hgu
 have HV:=hid hv
 have HGU:Hid (isG n0 (g:Int)=true):=by show _=_;rw[d.pol.own.len];exact hgu
 clear hu hx hv hgu
 obtain⟨am,cm,rfl,_⟩:=d.mem.shape
 obtain⟨ah,ch,rfl,hlc1,hlc2,gh⟩:=d.harts.shape
 obtain⟨gm,hgm⟩:=sv_someF d.mem (by have:=OK.out.ml;omega)
 subst hgm
 obtain⟨hb,hhb⟩:=gh (by have:=OK.out.g0;have:=OK.out.hl;omega)
 subst hhb
 clear gh
 have GN:Hid (g<n0∧g<X.harts.length):=by have:=d.pol.own.len;have:=OK.out.g0;have:=OK.out.hl;exact⟨by omega,by omega⟩
 obtain⟨x,ob,ol,oc,rfl,ko1,ko2⟩:=d.pol.own.at g GN.out.1
 obtain⟨r,c,i,o,z1,z2,z3⟩:=d.harts.at g GN.out.2
 obtain⟨H,hH⟩:∃H,X.harts.getD g voidH=H:=⟨_,rfl⟩
 rw[hH]at z1 z2 ⊢
 have HK:Hid (Hok H):=by show Hok H;rw[←hH];exact OK.out.hk
 clear hH z3
 obtain⟨d0,k0,e0,_⟩:=z2.r.shape
 obtain⟨d1,k1,e1,_⟩:=z2.c.shape
 obtain⟨d2,k2,e2,_⟩:=z2.i.shape
 obtain⟨d3,k3,e3,_⟩:=z2.o.shape
 subst e0 e1 e2 e3
 obtain⟨m0,hm0⟩:∃n,H.regs.length=n:=⟨_,rfl⟩
 obtain⟨m1,hm1⟩:∃n,H.csr.length=n:=⟨_,rfl⟩
 obtain⟨m2,hm2⟩:∃n,H.inn.length=n:=⟨_,rfl⟩
 obtain⟨m3,hm3⟩:∃n,H.out.length=n:=⟨_,rfl⟩
 obtain⟨lm,hlm⟩:∃n,X.mem.length=n:=⟨_,rfl⟩
 obtain⟨lh,hlh⟩:∃n,X.harts.length=n:=⟨_,rfl⟩
 rw[hm0,hm1,hm2,hm3]at z1 z2
 rw[hlm,hlh]at d ⊢
 have hgI:(g:Int)<(n0:Int):=by have:=GN.out.1;omega
 have hgL:(g:Int)<(lh:Int):=by have:=GN.out.2;omega
 have hn0:(n0:Int)≤9223372036854775807:=by have:=d.pol.own.cap;unfold maxLen at this;omega
 have hnl:(lh:Int)≤9223372036854775807:=by rw[hlh]at hlc1;unfold maxLen at hlc2;omega
 have LI:Hid (((g:Int)<(n0:Int)∧(g:Int)<(lh:Int))∧(n0:Int)≤9223372036854775807∧(lh:Int)≤9223372036854775807):=⟨⟨hgI,hgL⟩,hn0,hnl⟩
 have ML:=hid hlm
 have D0:=hid d
 have KO:Hid (w.cell? (x.add g)=some (.slice ob ol oc)∧IsNs w ob ol oc (X.pol.own.getD g [])):=⟨ko1,ko2⟩
 have HC:=hid z1
 have HM:=hid z2
 clear hm0 hm1 hm2 hm3 hlm hlh ko1 ko2 z1 z2 hgI hgL hn0 hnl hlc1 hlc2 d
 generalize hW:(w.alloc (.cells #[.slice (some x) n0 c0,.slice a1 n1 c1,.slice a2 n2 c2,.slice a3 n3 c3,.slice (some ⟨gm,0,none⟩) lm cm,.slice (some ⟨hb,0,none⟩) lh ch,.int .i64 X.slot,.int .i64 X.left,.int .i64 X.clock] 35)).alloc (.cells #[.int .i64 0,.slice none 0 0,.int .i64 0,.slice none 0 0,.bool false,.bool false,.bool false,.int .i64 0,.slice none 0 0,.slice none 0 0,.slice none 0 0,.slice none 0 0] 52)=W
 have B0:Hid (Below w.heap.size w W):=by show Below _ _ _;rw[←hW];exact al (al (Below.refl _ _) _) _
 obtain⟨s,hS⟩:∃s,w.heap.size=s:=⟨_,rfl⟩
 have HSs:=hid hS
 have z1:s+1=(w.alloc (.cells #[.slice (some x) n0 c0,.slice a1 n1 c1,.slice a2 n2 c2,.slice a3 n3 c3,.slice (some ⟨gm,0,none⟩) lm cm,.slice (some ⟨hb,0,none⟩) lh ch,.int .i64 X.slot,.int .i64 X.left,.int .i64 X.clock] 35)).heap.size:=by rw[←hS];simp
 have Q:Hid (Vb W s #[.slice (some x) n0 c0,.slice a1 n1 c1,.slice a2 n2 c2,.slice a3 n3 c3,.slice (some ⟨gm,0,none⟩) lm cm,.slice (some ⟨hb,0,none⟩) lh ch,.int .i64 X.slot,.int .i64 X.left,.int .i64 X.clock] 35):=by show Vb _ _ _ _;rw[←hW,←hS];exact(Vb.new _ _ _).push _
 have R:Hid (Vb W (s+1) #[.int .i64 0,.slice none 0 0,.int .i64 0,.slice none 0 0,.bool false,.bool false,.bool false,.int .i64 0,.slice none 0 0,.slice none 0 0,.slice none 0 0,.slice none 0 0] 52):=by show Vb _ _ _ _;rw[←hW,z1];exact Vb.new _ _ _
 clear z1
 have D:=hid (D0.out.keep B0.out)
 have HGE:Hid (_=_):=cell_keep B0.out hg
 clear hg
 obtain⟨q0,q1,q2,q3,q4,q5,q6,q7,q8⟩:=zc9 Q.out
 go_enter Tryz.func10,Tryz.ntmps10
 go_wp2_with fail
 clear hW hS q0 q1 q2 q3 q4 q5 q6 q7 q8
 refine(i_hostFault _ _ _ _ _ _ _ _ _ _ _ _ _ _ X b _ D.out HGE.out).mono ?_
 rw[HV.out]
 rintro e w1⟨rfl,b1⟩
 have B1:=hid (on B0.out b1)
 have R1:=hid (R.out.keep b1)
 have Q1:=hid (Q.out.keep b1)
 clear b1 D
 have q0:=Q1.out.cell 0 rfl
 have q1:=Q1.out.cell 1 rfl
 have q2:=Q1.out.cell 2 rfl
 have q3:=Q1.out.cell 3 rfl
 go_wp2_with fail
 clear q0 q1 q2 q3
 refine(i_guest _ _ _ _ _ _ _ _ _ _ _ _ _ _ LI.out.2.1).mono ?_
 rintro e w2⟨rfl,hwz⟩
 rw[HGU.out]
 have b2:Below w1.heap.size w1 w2:=by rw[hwz];exact al (Below.refl _ _) _
 clear hwz
 have B2:=hid (on B1.out b2)
 have R2:=hid (R1.out.keep b2)
 have Q2:=hid (Q1.out.keep b2)
 clear b2
 have q0:=Q2.out.cell 0 rfl
 have q1:=Q2.out.cell 1 rfl
 have q2:=Q2.out.cell 2 rfl
 have q3:=Q2.out.cell 3 rfl
 go_wp2_with fail
 clear q0 q1 q2 q3
 refine(i_pages0 _ _ _ _ _ _ _ _ _ _ _ _ X.pol (g:Int) _ (D0.out.pol.stay B2.out) ⟨by omega,by have:=OK.out.g0;omega⟩).mono ?_
 rw[Int.toNat_natCast]
 rintro e w3⟨lv,rfl,pr,b3⟩
 obtain⟨la,lc,hle,_,_,hls⟩:=pr.shape
 rw[pforL_len]at hle hls
 obtain⟨pb,hpb⟩:=hls (by decide)
 subst hpb
 subst hle
 have PT:Hid (∀k,k<8→((pforL (X.pol.own.getD g []) X.pol.lanes (g:Int) 8).getD k (0,0)).1= -1∨(0≤((pforL (X.pol.own.getD g []) X.pol.lanes (g:Int) 8).getD k (0,0)).1∧((pforL (X.pol.own.getD g []) X.pol.lanes (g:Int) 8).getD k (0,0)).1≤23)):=OK.out.to_
 have PLen:Hid ((pforL (X.pol.own.getD g []) X.pol.lanes (g:Int) 8).length=8):=pforL_len _ _ _ _
 rw[HPS.out]at pr PT PLen
 clear hls
 have L3:Hid (Prs 89 w3 0 (.slice (some ⟨pb,0,none⟩) 8 lc) PS):=prs_mono pr (Nat.zero_le _)
 have B3:=hid (on B2.out b3)
 have R3:=hid (R2.out.keep b3)
 have Q3:=hid (Q2.out.keep b3)
 have LT:Hid (s+1<w3.heap.size):=R3.out.lt
 clear b3 pr
 have QS:Hid (∀w',SvN 12 w3 (s+1) w'→Vb w' s #[.slice (some x) n0 c0,.slice a1 n1 c1,.slice a2 n2 c2,.slice a3 n3 c3,.slice (some ⟨gm,0,none⟩) lm cm,.slice (some ⟨hb,0,none⟩) lh ch,.int .i64 X.slot,.int .i64 X.left,.int .i64 X.clock] 35):=fun w' hs=>hs.1.vb Q3.out (by omega)
 have BS:Hid (∀w',SvN 12 w3 (s+1) w'→Below w.heap.size w w'):=fun w' hs=>Mq.under B3.out hs.1 fun k e=>by have:=HSs.out;omega
 have Sv0:Hid (SvN 12 w3 (s+1) w3.drew):=SvN.step ⟨Mq.refl _ _,R3.out.there 12 (by decide)⟩ LT.out (Below.refl _ _).drew
 have E0:Hid (Below w3.heap.size w3 w3.drew):=(Below.refl _ _).drew
 go_upto_region 7 with fail
 refine wp_region_held (S:=fun w'=>SvN 12 w3 (s+1) w') (by kernel_rfl) ?_
 change wpAnyH _ _ _ _ _ _ _ _ (World.drew _)
 generalize w3.drew=u0 at*
 refine wpTd 0 23 ((.pointer (some ⟨s,5,none⟩))) rfl Sv0.out ?_
 simp only[Act.put,zT,zZ,zS]
 refine wpTe 1 24 ((.slice (some ⟨hb,0,none⟩) lh ch)) rfl (Or.inl ⟨by rfl,fun w' hs=>by have q5:=(QS.out w' hs).cell 5 rfl;go_simp⟩) Sv0.out ?_
 simp only[Act.put,zT,zZ,zS]
 refine wpTd 2 25 ((.int .i64 (g:Int))) rfl Sv0.out ?_
 simp only[Act.put,zT,zZ,zS]
 refine wpTe 3 26 ((.pointer (some ⟨hb,g*9,none⟩))) rfl (Or.inl ⟨by rfl,fun w' hs=>by have i1:=LI.out.1.1;have i2:=LI.out.1.2;have i3:=LI.out.2.1;have i4:=LI.out.2.2;have y0:=(HC.out.stay (BS.out w' hs)).c0;go_simp⟩) Sv0.out ?_
 simp only[Act.put,zT,zZ,zS]
 refine wpTe 4 27 ((.agg #[.slice d0 m0 k0,.int .i64 H.pc,.slice d1 m1 k1,.bool H.halted,.bool H.waiting,.bool H.rung,.int .i64 H.done,.slice d2 m2 k2,.slice d3 m3 k3])) rfl (Or.inl ⟨by rfl,fun w' hs=>by have hq:=HC.out.stay (BS.out w' hs);have y0:=hq.c0;have y1:=hq.c1;have y2:=hq.c2;have y3:=hq.c3;have y4:=hq.c4;have y5:=hq.c5;have y6:=hq.c6;have y7:=hq.c7;have y8:=hq.c8;go_simp⟩) Sv0.out ?_
 simp only[Act.put,zT,zZ,zS]
 refine wpTd 5 28 ((.slice (some ⟨pb,0,none⟩) 8 lc)) rfl Sv0.out ?_
 simp only[Act.put,zT,zZ,zS]
 refine wpTd 7 30 ((.slice (some ⟨pb,0,none⟩) 8 lc)) rfl Sv0.out ?_
 simp only[Act.put,zT,zZ,zS]
 refine wpTd 8 31 ((.pointer (some ⟨s,4,none⟩))) rfl Sv0.out ?_
 simp only[Act.put,zT,zZ,zS]
 refine wpTe 9 32 ((.slice (some ⟨gm,0,none⟩) lm cm)) rfl (Or.inl ⟨by rfl,fun w' hs=>by have q4:=(QS.out w' hs).cell 4 rfl;go_simp⟩) Sv0.out ?_
 simp only[Act.put,zT,zZ,zS]
 refine zR 6 rfl fun K hK=>?_
 rw[if_pos (by rfl)]
 go_simp
 refine(i_pagedOver _ _ _ _ H pb lc PS 0 u0 (((HM.out.keep B3.out).keep E0.out).mono (Nat.zero_le _)) HK.out (L3.out.keep E0.out) PLen.out).mono ?_
 rintro e u1⟨i',o',rfl,ni,no,ap,b4⟩
 obtain⟨xa,xk,xe,_⟩:=ni.shape
 obtain⟨ya,yk,ye,_⟩:=no.shape
 subst xe ye
 obtain⟨xn,hxn⟩:∃n,H.inn.length=n:=⟨_,rfl⟩
 obtain⟨yn,hyn⟩:∃n,H.out.length=n:=⟨_,rfl⟩
 rw[hxn]at ni
 rw[hyn]at no
 rw[hxn,hyn]at ap ⊢
 have N1:Hid (Nums u1 u0.heap.size (.slice xa xn xk) H.inn∧Nums u1 u0.heap.size (.slice ya yn yk) H.out):=⟨ni,no⟩
 have Sv1:Hid (SvN 12 w3 (s+1) u1):=Sv0.out.step LT.out b4
 have E1:=hid (on E0.out b4)
 clear ni no ap b4 hxn hyn
 refine hK.out _ _ Sv1.out (fun _=>?_)
 clear hK K
 refine zR 10 rfl fun K hK=>?_
 rw[if_pos (by rfl)]
 go_simp
 refine(i_seen pb lc PS gm lm cm X.mem 0 u1 (L3.out.keep E1.out) PLen.out (((D0.out.mem.keep B3.out).keep E1.out).mono (Nat.zero_le _)) OK.out.ml PT.out).mono ?_
 rintro e u2⟨sv,rfl,ns,b5⟩
 have SL:Hid ((seeS PS X.mem 8).length=64):=seeS_len PS X.mem OK.out.ml PT.out 8 (Nat.le_refl _)
 obtain⟨sa,sk,se,_,_,hss⟩:=ns.shape
 rw[SL.out]at se hss
 obtain⟨sg,hsg⟩:=hss (by decide)
 subst hsg
 subst se
 have N2:Hid (Nums u2 u0.heap.size (.slice xa xn xk) H.inn∧Nums u2 u0.heap.size (.slice ya yn yk) H.out):=⟨N1.out.1.keep b5,N1.out.2.keep b5⟩
 have M2:=hid ns
 have Sv2:Hid (SvN 12 w3 (s+1) u2):=Sv1.out.step LT.out b5
 clear ns b5 hss
 refine hK.out _ _ Sv2.out (fun _=>?_)
 clear hK K
 refine zR 11 rfl fun K hK=>?_
 rw[if_pos (by rfl)]
 go_simp
 refine(i_aloneWith H xa xn xk ya yn yk PS sg 64 sk u1.heap.size (seeS PS X.mem 8) u2 M2.out SL.out).mono ?_
 rintro e u3⟨rfl,b6⟩
 have N3:Hid (Nums u3 u0.heap.size (.slice xa xn xk) H.inn∧Nums u3 u0.heap.size (.slice ya yn yk) H.out):=⟨N2.out.1.keep b6,N2.out.2.keep b6⟩
 have Sv3:Hid (SvN 12 w3 (s+1) u3):=Sv2.out.step LT.out b6
 clear b6
 refine hK.out _ _ Sv3.out (fun _=>?_)
 clear hK K
 refine zR 12 rfl fun K hK=>?_
 rw[if_pos (by rfl)]
 go_simp
 refine(i_asSolo H xa xn xk ya yn yk (aloL PS) (seeS PS X.mem 8) u0.heap.size u3 N3.out.1 N3.out.2 HK.out (aloL_len _) SL.out).mono ?_
 rintro e u4⟨r',c',i',o',l',m',rfl,sm,b7⟩
 obtain⟨v0,k0',f0,_⟩:=sm.h.r.shape
 obtain⟨v1,k1',f1,_⟩:=sm.h.c.shape
 obtain⟨v2,k2',f2,_⟩:=sm.h.i.shape
 obtain⟨v3,k3',f3,_⟩:=sm.h.o.shape
 obtain⟨v4,k4',f4,_⟩:=sm.pl.shape
 obtain⟨v5,k5',f5,_⟩:=sm.mm.shape
 subst f0 f1 f2 f3 f4 f5
 obtain⟨e0,he0⟩:∃n,H.regs.length=n:=⟨_,rfl⟩
 obtain⟨e1,he1⟩:∃n,H.csr.length=n:=⟨_,rfl⟩
 obtain⟨e2,he2⟩:∃n,H.inn.length=n:=⟨_,rfl⟩
 obtain⟨e3,he3⟩:∃n,H.out.length=n:=⟨_,rfl⟩
 obtain⟨e4,he4⟩:∃n,(aloL PS).length=n:=⟨_,rfl⟩
 obtain⟨e5,he5⟩:∃n,(seeS PS X.mem 8).length=n:=⟨_,rfl⟩
 rw[he0,he1,he2,he3,he4,he5]at sm ⊢
 have V4:=hid sm
 have Sv4:Hid (SvN 12 w3 (s+1) u4):=Sv3.out.step LT.out b7
 have Z3:Hid (s+1<u3.heap.size∧w.heap.size≤u3.heap.size):=⟨Nat.lt_of_lt_of_le LT.out Sv3.out.1.size,(BS.out _ Sv3.out).size⟩
 clear sm b7 he0 he1 he2 he3 he4 he5
 refine hK.out _ _ Sv4.out (fun _=>?_)
 clear hK K
 refine wpTd 13 36 ((.agg #[.int .i64 0,.slice v0 e0 k0',.int .i64 H.pc,.slice v1 e1 k1',.bool H.halted,.bool H.waiting,.bool H.rung,.int .i64 H.done,.slice v2 e2 k2',.slice v3 e3 k3',.slice v4 e4 k4',.slice v5 e5 k5'])) rfl Sv4.out ?_
 simp only[Act.put,zT,zZ,zS]
 refine zR 14 rfl fun K hK=>?_
 rw[if_pos (by rfl)]
 refine wp_store_mid 52 (.tmp 4) (.tmp 36) rfl (s+1) 0 #[.int .i64 0,.slice v0 e0 k0',.int .i64 H.pc,.slice v1 e1 k1',.bool H.halted,.bool H.waiting,.bool H.rung,.int .i64 H.done,.slice v2 e2 k2',.slice v3 e3 k3',.slice v4 e4 k4',.slice v5 e5 k5'] rfl rfl Sv4.out.2 (by kernel_rfl) (by simp[Value.oneCell']) ?_
 change K (Act.put _ none undef) _
 simp only[Act.put]
 have S6:Hid (SvN 12 w3 (s+1) (u4.setCells (s+1) 0 #[.int .i64 0,.slice v0 e0 k0',.int .i64 H.pc,.slice v1 e1 k1',.bool H.halted,.bool H.waiting,.bool H.rung,.int .i64 H.done,.slice v2 e2 k2',.slice v3 e3 k3',.slice v4 e4 k4',.slice v5 e5 k5'].toList)):=Sv4.out.set _
 have R6:Hid ((u4.setCells (s+1) 0 #[.int .i64 0,.slice v0 e0 k0',.int .i64 H.pc,.slice v1 e1 k1',.bool H.halted,.bool H.waiting,.bool H.rung,.int .i64 H.done,.slice v2 e2 k2',.slice v3 e3 k3',.slice v4 e4 k4',.slice v5 e5 k5'].toList).rangeAt (s+1) 0 #[.int .i64 0,.slice v0 e0 k0',.int .i64 H.pc,.slice v1 e1 k1',.bool H.halted,.bool H.waiting,.bool H.rung,.int .i64 H.done,.slice v2 e2 k2',.slice v3 e3 k3',.slice v4 e4 k4',.slice v5 e5 k5'].toList):=World.rangeAt_setCells_same _ _ _ _ Sv4.out.2
 have Q6:Hid (Mq (fun k=>k=s+1) u4 (u4.setCells (s+1) 0 #[.int .i64 0,.slice v0 e0 k0',.int .i64 H.pc,.slice v1 e1 k1',.bool H.halted,.bool H.waiting,.bool H.rung,.int .i64 H.done,.slice v2 e2 k2',.slice v3 e3 k3',.slice v4 e4 k4',.slice v5 e5 k5'].toList)):=mq_cells (s+1) _ u4 0
 generalize u4.setCells (s+1) 0 #[.int .i64 0,.slice v0 e0 k0',.int .i64 H.pc,.slice v1 e1 k1',.bool H.halted,.bool H.waiting,.bool H.rung,.int .i64 H.done,.slice v2 e2 k2',.slice v3 e3 k3',.slice v4 e4 k4',.slice v5 e5 k5'].toList=u6 at*
 refine hK.out _ _ S6.out (fun _=>?_)
 clear hK K
 refine wpAnyH_done (by kernel_rfl) ?_ _
 have O6:Ho (s+2) u4 u6:=Q6.out.ho fun k e=>by omega
 have NE:∀k,(Value.slice v4 e4 k4').ownBlock=some k→¬k=s+1:=fun k e f=>by have:=(V4.out.pl.lt k e).1;have:=Z3.out;omega
 have F:Hid (Sm u6 w.heap.size (.slice v0 e0 k0') (.slice v1 e1 k1') (.slice v2 e2 k2') (.slice v3 e3 k3') (.slice v4 e4 k4') (.slice v5 e5 k5') H (aloL PS) (seeS PS X.mem 8)):=⟨((V4.out.h.mono (by have:=Z3.out;omega)).ho O6).mono (by have:=HSs.out;omega),V4.out.a,prs_mono (prs_mq V4.out.pl Q6.out NE) Z3.out.2,((V4.out.mm.mono (by have:=Z3.out;omega)).ho O6).mono (by have:=HSs.out;omega),V4.out.rm,V4.out.cm,V4.out.im,V4.out.om⟩
 have B6:Hid (Below w.heap.size w u6):=BS.out _ S6.out
 have LD:=run_loadVar_mid (P:=Tryz.prog) u6 (s+1) 0 52 #[.int .i64 0,.slice v0 e0 k0',.int .i64 H.pc,.slice v1 e1 k1',.bool H.halted,.bool H.waiting,.bool H.rung,.int .i64 H.done,.slice v2 e2 k2',.slice v3 e3 k3',.slice v4 e4 k4',.slice v5 e5 k5'].toList _ R6.out Tryz.underlying52 rfl (by kernel_rfl)
 go_wp2_with fail
 exact bodyPost_ret (v:=.agg #[.int .i64 0,.slice v0 e0 k0',.int .i64 H.pc,.slice v1 e1 k1',.bool H.halted,.bool H.waiting,.bool H.rung,.int .i64 H.done,.slice v2 e2 k2',.slice v3 e3 k3',.slice v4 e4 k4',.slice v5 e5 k5']) (by simp[results,Tryz.results10,asAddr];rw[LD]) rfl ⟨_,_,_,_,_,_,rfl,F.out,B6.out⟩
def Cq(pg:Int)(xs:List Int):Prop:=xs.Pairwise (· < ·)∧∀x ∈ xs,0≤x∧x<pg
theorem Cq.push{pg:Int}{xs:List Int}(h:Cq pg xs)(h0:0≤pg):Cq (pg+1) (xs++ [pg]):=by
 refine⟨List.pairwise_append.2 ⟨h.1,by simp,fun a ha b hb=>?_⟩,fun x hx=>?_⟩
 ·rw[List.mem_singleton]at hb;subst hb;exact(h.2 a ha).2
 ·rcases List.mem_append.1 hx with hx|hx
  ·have:=h.2 x hx;omega
  ·rw[List.mem_singleton]at hx;omega
theorem dup_no:∀(xs seen:List Int),xs.Pairwise (· < ·)→(∀a ∈ seen,∀b ∈ xs,a<b)→dupF seen xs=false
 | [],_,_,_=>rfl
 |z::t,seen,h,k=>by
  rw[dupF,if_neg (fun e=>Int.lt_irrefl z (k z e z (by simp)))]
  refine dup_no t _ (List.pairwise_cons.1 h).2 fun a ha b hb=>?_
  rcases List.mem_append.1 ha with ha|ha
  ·exact k a ha b (by simp[hb])
  ·rw[List.mem_singleton]at ha;subst ha;exact(List.pairwise_cons.1 h).1 b hb
theorem guests_ok:∀oss:List (List Int),(∀o ∈ oss,1≤o.length∧o.length≤3)→(∀x ∈ oss.flatten,0≤x∧x<13)→guestsV oss=0
 | [],_,_=>rfl
 |o::t,h,k=>by
  have h1:=h o (by simp)
  have h2:o.all pgOk=true:=List.all_eq_true.2 fun x hx=>by
   have:=k x (by simp[hx])
   unfold pgOk
   simp
   omega
  rw[guestsV,if_neg (by omega),if_neg (by rw[h2];simp)]
  exact guests_ok t (fun o' ho=>h o' (by simp[ho])) fun x hx=>k x (by simp only[List.flatten_cons,List.mem_append];exact .inr hx)
theorem owns_ok{P:Plc}(h:1≤P.own.length∧P.own.length≤3)(r:∀o ∈ P.own,1≤o.length∧o.length≤3){pg:Int}(c:Cq pg P.own.flatten)(hp:pg≤12):ownsV P=0:=by
 have g1:g1V P.own=0:=by
  unfold g1V
  rw[if_neg (by omega)]
  exact guests_ok _ r fun x hx=>by have:=c.2 x hx;omega
 have g2:g2V P.own=0:=by unfold g2V;rw[dup_no _ _ c.1 (by simp)];rfl
 unfold ownsV orV
 rw[g1,g2]
 rfl
theorem slots_push{n:Nat}{ps:List (Int×Int)}{s:Int×Int}(h:slotsV n ps=0)(k:slotV n s=0):slotsV n (ps++ [s])=0:=by
 induction ps with
 |nil=>rw[List.nil_append,slotsV,if_pos k];rfl
 |cons a t ih=>
  rw[slotsV]at h
  rw[List.cons_append,slotsV]
  split at h
  ·rename_i h0;rw[if_pos h0];exact ih h
  ·rename_i h0;exact absurd h h0
theorem slot_ok{n:Nat}{g st:Int}(h:0≤g∧g<n)(k:1≤st∧st≤9):slotV n (g,st)=0:=by
 unfold slotV isG stOk
 simp
 omega
theorem bell_ok{n:Nat}{f g:Int}(h:0≤f∧f<n)(k:0≤g∧g<n)(e:f≠g):bellsV n [] [(f,g)]=0:=by
 have h1:endsV n f g=0:=by
  unfold endsV isG
  simp
  omega
 have h2:bellV n [] (f,g)=0:=by
  unfold bellV
  rw[if_pos h1]
  rfl
 rw[bellsV,if_pos h2]
 rfl
theorem pf_make{P:Plc}(h1:ownsV P=0)(h2:linksV ⟨P.own,P.lanes,[],[]⟩=0)(hl:P.lanes.length≤3)(hb:P.bells.length≤1)(h3:bellsV P.own.length [] P.bells=0)(hp:1≤P.plan.length∧P.plan.length≤4)(h4:slotsV P.own.length P.plan=0):pfV P=0:=by
 have e1:g3V P=0:=by unfold g3V;rw[if_neg (by omega)]
 have e2:lanesV P.own [] P.lanes=0:=by
  unfold linksV orV at h2
  split at h2
  ·exact h2
  ·rename_i h;exact absurd h2 h
 have e3:g6V P=0:=by unfold g6V;rw[if_neg (by omega)];exact h4
 have e4:linksV P=0:=by unfold linksV orV;rw[if_pos e1];exact e2
 have e5:restV P=0:=by unfold restV orV;rw[if_pos h3];exact e3
 unfold pfV orV
 rw[if_pos h1,if_pos e4]
 exact e5
theorem policy_right(s:Src w b k a len cap zs)(hk:k≤80000):
  Calls Tryz.prog 33 #[.pointer (some ⟨b,0,none⟩)] w fun e w'=>∃(v0 v1 v2 v3:Value) (P:Plc) (k':Nat),e=.returned (.agg #[v0,v1,v2,v3])∧(pfV P=0∧∀o ∈ P.own,o.length≤3)∧Dv w' w.heap.size v0 v1 v2 v3 P∧k'≤k+100∧Turn b w w'∧Src w' b k' a len cap zs:=by
 have hb:=s.here
 have HS:=hid s
 have HK:=hid hk
 clear s hk
 go_enter Tryz.func33,Tryz.ntmps33
 go_wp2_with fail
 refine(next_any ((HS.out.alloc _).alloc _) (by have:=HK.out;omega) _).mono ?_
 rintro e w1⟨pg,rfl,hpg, -,t1,s1⟩
 obtain⟨pg0,pg1⟩:=hpg (by omega)
 have P1:Hid (Ps w w1 b (k+1) a len cap zs (.slice none 0 0) (.slice none 0 0) (.slice none 0 0) (.slice none 0 0) ⟨[],[],[],[]⟩):=by
  refine Ps.next ⟨(HS.out.alloc _).alloc _,(Turn.alloc _ w _).trans (Turn.alloc _ _ _),(Bk.new w _ _).keep (al (Below.refl _ _) _),?_,Dv.nil _ _⟩ hb t1 s1
  have:=Bk.new (w.alloc (.cells #[.slice none 0 0,.slice none 0 0,.slice none 0 0,.slice none 0 0] 29)) #[.slice none 0 0,.slice none 0 0,.slice none 0 0,.slice none 0 0] 29
  rw[World.size_alloc]at this
  exact this
 clear hpg t1 HS
 go_wp2_with fail
 have h1:=s1.here
 refine(pick_any (s1.alloc _) (by have:=HK.out;omega) (fun v=>1≤v∧v≤3) _ 4 (by omega) (by omega) (by simp) (by omega) ?_).mono ?_
 ·intro i hi
  have:i=0∨i=1∨i=2∨i=3:=by omega
  rcases this with rfl|rfl|rfl|rfl
  all_goals exact⟨_,cell_new rfl,by omega⟩
 rintro e w2⟨g0,rfl,⟨hg0,hg1⟩,t2,s2⟩
 obtain⟨n0,rfl⟩:=Int.eq_ofNat_of_zero_le (show 0≤g0 by omega)
 have P2:Hid (Ps w w2 b (k+1+1) a len cap zs (.slice none 0 0) (.slice none 0 0) (.slice none 0 0) (.slice none 0 0) ⟨[],[],[],[]⟩):=(P1.out.alloc hb _).next hb t2 s2
 have HN0:Hid (1≤n0∧n0≤3):=by show _∧_;omega
 have HPG:Hid (0≤pg∧pg<3):=⟨pg0,pg1⟩
 clear t2 s2 s1 P1 h1 hg0 hg1 pg0 pg1
 go_wp2_with fail
 go_loopw [4,5,6,7] (fun c4 c5 _ _ wr=>∃(pg:Int) (g kk:Nat) (v0:Value) (oss:List (List Int)),c4=.int .i64 pg∧c5=.int .i64 g∧0≤pg∧pg+3*g≤12∧Hid (oss.length+g=n0)∧Hid (∀o ∈ oss,1≤o.length∧o.length≤3)∧Hid (Cq pg oss.flatten)∧Hid (kk+g≤k+6)∧Hid (Ps w wr b kk a len cap zs v0 (.slice none 0 0) (.slice none 0 0) (.slice none 0 0) ⟨oss,[],[],[]⟩)) (fun _ c _ _ _=>(intOf c).toNat)
 case atStart=>exact⟨pg,n0,k+1+1,_,[],rfl,rfl,by have:=HPG.out;omega,by have:=HPG.out;have:=HN0.out;omega,by show _=_;simp,fun o ho=>(by cases ho),⟨List.Pairwise.nil,fun x hx=>(by cases hx)⟩,by show _≤_;have:=HN0.out;omega,P2.out⟩
 case round=>
  obtain⟨pg,g,kk,v0,oss,rfl,rfl,hp0,hp1,HOL,HOR,HCQ,HKK,PB⟩:=hrel
  rename World=>W
  by_cases hlt:0<g
  ·have hI:(0:Int)<(g:Int):=by omega
   have HLT:=hid hlt
   have HPP:Hid (0≤pg∧pg+3*g≤12):=⟨hp0,hp1⟩
   have hbr:b<W.heap.size:=PB.out.src.here
   clear hlt
   go_wp2_with fail
   refine(next_any (PB.out.src.alloc _) (by have:=HK.out;have:=HKK.out;omega) _).mono ?_
   rintro e w3⟨m0,rfl,hm, -,t3,s3⟩
   obtain⟨hm0,hm1⟩:=hm (by omega)
   obtain⟨m,rfl⟩:=Int.eq_ofNat_of_zero_le hm0
   have T3:Hid (Turn b W w3):=(Turn.alloc _ _ _).trans t3
   have S3:=hid s3
   have N3:Hid (Nums w3 W.heap.size (.slice (some ⟨W.heap.size,0,none⟩) 0 0) []):=(nums_empty W W.heap.size (Nat.le_refl _)).turn t3 hbr
   have HM:Hid (m≤2):=by show _≤_;omega
   clear t3 s3 hm hm0
   go_wp2_with fail
   go_loopw [4,6,7] (fun c4 y c7 wi=>∃(pg':Int) (j:Nat) (ys:List Int),c4=.int .i64 pg'∧c7=.int .i64 j∧pg'+j=pg+m+1∧0≤pg'∧j≤3∧Hid (ys.length+j=m+1)∧Hid (Cq pg' (oss.flatten++ys))∧Hid (Nums wi W.heap.size y ys)∧Hid (Turn b W wi)∧Hid (Src wi b (kk+1) a len cap zs)) (fun _ _ c _=>(intOf c).toNat)
   case atStart=>exact⟨pg,m+1,[],rfl,by congr 1;omega,by omega,hp0,by omega,by show _=_;simp,by show Cq _ _;rw[List.append_nil];exact HCQ.out,N3.out,T3.out,S3.out⟩
   case round=>
    obtain⟨pg',j,ys,rfl,rfl,hs,hp',hj3,HYL,HCY,NB,TB,SB⟩:=hrel
    obtain⟨ya,yc,rfl,_,_,_⟩:=NB.out.shape
    generalize hun:ys.length=un at*
    have HUN:=hid hun
    clear hun
    by_cases hlt:0<j
    ·have hI:(0:Int)<(j:Int):=by omega
     have HLJ:=hid hlt
     have HSS:Hid (pg'+j=pg+m+1∧0≤pg'∧j≤3):=⟨hs,hp',hj3⟩
     have hpw:pg'+1≤100:=by omega
     clear hlt hs
     go_wp2_with (at_builtin;refine wp_appn _ rfl _ _ rfl W.heap.size _ _ rfl (NB.out.keep (al (Below.refl _ _) _)) wr.heap.size 1 1 [pg'] rfl rfl (one_at (cell_new rfl)) (by have:=HYL.out;have:=HUN.out;simp;omega) (by have:=TB.out.size;simp;omega) ?_;intro v' w' hN' hG')
     have NN:Hid (Nums w' W.heap.size v' (ys++ [pg'])):=hN'
     have TN:Hid (Turn b W w'):=(TB.out.trans (Turn.alloc _ _ _)).rowed (NB.out.keep (al (Below.refl _ _) _)) (Nat.le_refl _) hG'
     have SN:Hid (Src w' b (kk+1) a len cap zs):=(SB.out.alloc _).rowed (NB.out.keep (al (Below.refl _ _) _)) hbr hG'
     clear hN' hG'
     go_wp2_with fail
     go_roundw
     case rel=>exact⟨pg'+1,j-1,ys++ [pg'],by first|rfl|go_num,by have:=HLJ.out;first|(congr 1;omega)|go_num,by have:=HSS.out;have:=HLJ.out;omega,by omega,by have:=HSS.out;omega,by show _=_;have:=HYL.out;have:=HUN.out;have:=HLJ.out;simp;omega,by show Cq _ _;rw[←List.append_assoc];exact HCY.out.push hp',NN.out,TN.out,SN.out⟩
     case measure=>have:=HLJ.out;simp[intOf];omega
    ·have hI:¬(0:Int)<(j:Int):=by omega
     obtain rfl:j=0:=by omega
     have PI:Hid (Ps w wr b (kk+1) a len cap zs v0 (.slice none 0 0) (.slice none 0 0) (.slice none 0 0) ⟨oss,[],[],[]⟩):=PB.out.next hb TB.out SB.out
     obtain⟨oa,oc,hv0,_⟩:=PI.out.dv.own.shape
     simp only at hv0
     subst hv0
     generalize hon:oss.length=on at*
     have HON:=hid hon
     clear hon
     have q0:=PI.out.var.cell (i:=0) rfl
     have y0:=PI.out.var.free 0
     have HSZ:=hid (PB.out.turn.size)
     have N9:Hid (Nums wr w.heap.size (.slice ya un yc) ys):=NB.out.monoD HSZ.out
     clear hlt
     go_wp2_with (at_builtin;refine wp_slo _ rfl _ _ rfl w.heap.size _ oss rfl (PI.out.dv.own.keep (al (Below.refl _ _) _)) wr.heap.size _ _ _ ys rfl (cell_new rfl) (N9.out.keep (al (Below.refl _ _) _)) (by have:=HOL.out;have:=HN0.out;have:=HON.out;omega) (by have:=PI.out.turn.size;simp;omega) ?_;intro v' w' hN' hG';obtain⟨va,vc,hv',_,_,_⟩:=hN'.shape;generalize hvn:List.length _=vn at hv';clear hvn;subst hv';obtain⟨R9,D9⟩:=(PI.out.alloc hb _).owned hb hN' hG';have RR:Hid (Rst w w' b (kk+1) a len cap zs _ _ _ _):=R9;have DD:Hid (Dv w' w.heap.size _ _ _ _ _):=D9;have q1:=R9.2.2.2.cell (i:=0) rfl;have y1:=R9.2.2.2.free 0;clear hN' hG' R9 D9)
     have PN:Hid (Ps w (w'.setCell ⟨w.heap.size+1,0,none⟩ (.slice va vn vc)) b (kk+1) a len cap zs _ _ _ _ _):=Ps.mk' hb RR.out DD.out (by rfl)
     go_roundw
     case rel=>exact⟨pg',g-1,kk+1,_,oss++ [ys],rfl,by have:=HLT.out;first|(congr 1;omega)|go_num,hp',by have:=HPP.out;have:=HM.out;have:=HLT.out;omega,by show _=_;have:=HOL.out;have:=HON.out;have:=HLT.out;simp;omega,(fun o ho=>by
      rcases List.mem_append.1 ho with ho|ho
      ·exact HOR.out o ho
      ·rw[List.mem_singleton]at ho;subst ho;have:=HYL.out;have:=HUN.out;have:=HM.out;omega),(by show Cq _ _;rw[List.flatten_append];simpa using HCY.out),by show _≤_;have:=HKK.out;have:=HLT.out;omega,PN.out⟩
     case measure=>have:=HLT.out;simp[intOf];omega
  ·have hI:¬(0:Int)<(g:Int):=by omega
   obtain rfl:g=0:=by omega
   obtain⟨oa,oc,hv0,_⟩:=PB.out.dv.own.shape
   simp only at hv0
   subst hv0
   have q0:=PB.out.var.cell (i:=0) rfl
   have HON:Hid (oss.length=n0):=HOL.out
   rw[HON.out]at q0
   have HPP:Hid (0≤pg∧pg≤12):=by show _∧_;omega
   have PB':Hid (Ps w W b kk a len cap zs (.slice oa n0 oc) (.slice none 0 0) (.slice none 0 0) (.slice none 0 0) ⟨oss,[],[],[]⟩):=by
    have h:=PB.out
    rw[HON.out]at h
    exact h
   have OWN:Hid (∀ls bs ps,ownsV ⟨oss,ls,bs,ps⟩=0):=fun ls bs ps=>owns_ok (P:=⟨oss,ls,bs,ps⟩) (by have:=HON.out;have:=HN0.out;show _≤oss.length∧oss.length≤_;omega) HOR.out HCQ.out HPP.out.2
   have HNB:Hid (n0≤3∧1≤n0):=by show _∧_;have:=HN0.out;omega
   clear hlt PB
   go_wp2_with fail
   refine(next_any PB'.out.src (by have:=HK.out;have:=HKK.out;omega) _).mono ?_
   rintro e w3⟨j0,rfl,hj, -,t3,s3⟩
   obtain⟨hj0,hj1⟩:=hj (by omega)
   obtain⟨j0,rfl⟩:=Int.eq_ofNat_of_zero_le hj0
   have P3:Hid (Ps w w3 b (kk+1) a len cap zs (.slice oa n0 oc) (.slice none 0 0) (.slice none 0 0) (.slice none 0 0) ⟨oss,[],[],[]⟩):=PB'.out.next hb t3 s3
   have HJ0:Hid (j0≤3):=by show _≤_;omega
   clear t3 s3 hj hj0 hj1 PB' q0
   go_wp2_with fail
   go_loopw [4,9,10] (fun c4 c9 _ wr=>∃(pg:Int) (j kk:Nat) (v1:Value) (ls:List Ln),c4=.int .i64 pg∧c9=.int .i64 j∧0≤pg∧pg+j≤16∧j≤3∧Hid (ls.length+j≤3)∧Hid (linksV ⟨oss,ls,[],[]⟩=0)∧Hid (kk+5*j≤k+22)∧Hid (Ps w wr b kk a len cap zs (.slice oa n0 oc) v1 (.slice none 0 0) (.slice none 0 0) ⟨oss,ls,[],[]⟩)) (fun _ c _ _=>(intOf c).toNat)
   case atStart=>exact⟨pg,j0,kk+1,_,[],rfl,rfl,HPP.out.1,by have:=HPP.out;have:=HJ0.out;omega,HJ0.out,by show _≤_;have:=HJ0.out;simp;omega,by show _=_;rfl,by show _≤_;have:=HKK.out;have:=HJ0.out;omega,P3.out⟩
   case round=>
    obtain⟨pg,j,kk,v1,ls,rfl,rfl,hp0,hp1,hj3,HLL,HLK,HKK,PB⟩:=hrel
    rename World=>W3
    obtain⟨la,lc,hv1,_⟩:=PB.out.dv.lanes.shape
    simp only at hv1
    subst hv1
    generalize hln:ls.length=ln at*
    have HLN:=hid hln
    clear hln
    by_cases hlt:0<j
    ·have hI:(0:Int)<(j:Int):=by omega
     have HLT:=hid hlt
     have q0:=PB.out.var.cell (i:=0) rfl
     have q1:=PB.out.var.cell (i:=1) rfl
     have q2:=PB.out.var.cell (i:=2) rfl
     have q3:=PB.out.var.cell (i:=3) rfl
     have hbr:b<W3.heap.size:=PB.out.src.here
     have HW:=hid (PB.out.turn.size)
     have hqW:w.heap.size+1<W3.heap.size:=PB.out.var.lt
     have q1':((W3.alloc (.cells #[.slice oa n0 oc,.slice la ln lc,.slice none 0 0,.slice none 0 0] 29)).alloc (.cells #[] 42)).cell? ⟨w.heap.size+1,1,none⟩=some (.slice la ln lc):=((PB.out.alloc hb _).alloc hb _).var.cell (i:=1) rfl
     clear hlt
     go_wp2_with (at_builtin;refine wp_lns _ rfl _ _ rfl (W3.heap.size+1) (W3.heap.size+1) rfl (by have:=World.ownsRow_lit (W3.alloc (.cells #[.slice oa n0 oc,.slice la ln lc,.slice none 0 0,.slice none 0 0] 29)) (base:=W3.heap.size+1) (e:=42) (size:=5) #[] 0 (by simp) (by decide) rfl;rw[World.size_alloc]at this;exact this) _ w.heap.size ls rfl ((PB.out.dv.lanes.keep (al (Below.refl _ _) _)).keep (al (Below.refl _ _) _)) (by have:=HLL.out;have:=HLN.out;omega) (by simp) ?_;intro v' w' hN' hG')
     have X5:Hid (Nxd W3 w' b kk a len cap zs (.slice oa n0 oc) (.slice la ln lc) (.slice none 0 0) (.slice none 0 0) v' ls):=
      ⟨((PB.out.src.alloc _).alloc _).gr hG' (fun x hx e=>by cases e;omega),((Turn.alloc _ W3 _).trans (Turn.alloc _ _ _)).gb hG' (by omega),((Bk.new W3 _ _).keep (al (Below.refl _ _) _)).gr hG' (fun e=>by have:=Option.some.inj e;omega),hN'⟩
     obtain⟨va,vc,hv',_⟩:=hN'.shape
     subst hv'
     clear hN' hG' q0 q1 q2 q3 q1'
     refine(next_any X5.out.src (by have:=HK.out;have:=HKK.out;omega) _).mono ?_
     rintro e x1⟨fr,rfl, -, -,t1,s1⟩
     have X6:=X5.out.next hbr t1 s1
     go_wp2_with fail
     refine(next_any X6.src (by have:=HK.out;have:=HKK.out;omega) _).mono ?_
     rintro e x2⟨dst,rfl, -, -,t2,s2⟩
     have X7:=X6.next hbr t2 s2
     go_wp2_with fail
     refine(next_any X7.src (by have:=HK.out;have:=HKK.out;omega) _).mono ?_
     rintro e x3⟨af,rfl,haf, -,t3,s3⟩
     have X8:=X7.next hbr t3 s3
     obtain⟨af0,af1⟩:=haf (by omega)
     clear haf
     go_wp2_with fail
     refine(next_any X8.src (by have:=HK.out;have:=HKK.out;omega) _).mono ?_
     rintro e x4⟨tt,rfl,htt, -,t4,s4⟩
     obtain⟨tt0,tt1⟩:=htt (by omega)
     have X9:Hid (Nxd W3 x4 b (kk+1+1+1+1) a len cap zs (.slice oa n0 oc) (.slice la ln lc) (.slice none 0 0) (.slice none 0 0) (.slice va ls.length vc) ls):=X8.next hbr t4 s4
     clear htt t1 t2 t3 t4 s1 s2 s3 s4 X5 X6 X7 X8
     go_wp2_with (at_builtin;refine wp_lane 25 42 Tryz.underlying25 info_lane _ rfl _ _ rfl (W3.heap.size+1) _ ls rfl (X9.out.alloc hbr _).lanes x4.heap.size ⟨fr,dst,pg,5+af,5+tt⟩ rfl (cell_new rfl) (cell_new rfl) (cell_new rfl) (cell_new rfl) (cell_new rfl) (by have:=HLL.out;have:=HLN.out;omega) (by have:=X9.out.turn.size;have:=X9.out.var.lt;simp;omega) ?_;intro v' w' hN' hG';obtain⟨ua,uc,hv',_,_,_⟩:=hN'.shape;generalize hvn:List.length _=un at hv';clear hvn;subst hv';have XN:Hid (Nxd W3 w' b _ a len cap zs _ _ _ _ (.slice ua un uc) _):=(X9.out.alloc hbr _).push hbr hN' hG';have q1:=XN.out.var.cell (i:=1) rfl;have y1:=XN.out.var.free 1;clear hN' hG')
     obtain⟨p8,b8,d8⟩:=Nxd.lay PB.out XN.out hb
     simp only at d8
     refine(l6_owns W3.heap.size _ _ (d8.polAt b8)).mono ?_
     rintro e w6⟨rfl,k6⟩
     have P6:Hid (Ps w w6 b (kk+1+1+1+1) a len cap zs (.slice oa n0 oc) (.slice la ln lc) (.slice none 0 0) (.slice none 0 0) ⟨oss,ls,[],[]⟩):=p8.below hb k6
     have B6:=hid (b8.keep k6)
     have D6:=hid (d8.keep k6)
     have HLN':Hid ((ls++ [(⟨fr,dst,pg,5+af,5+tt⟩:Ln)]).length=ln+1):=by show _=_;rw[List.length_append,HLN.out];rfl
     generalize hls:ls++ [(⟨fr,dst,pg,5+af,5+tt⟩:Ln)]=ls' at*
     clear hls p8 b8 d8 k6 XN X9 q1 y1 af0 af1 tt0 tt1
     generalize hov:ownsV _=ov at*
     clear hov
     by_cases hz:ov=0
     ·subst hz
      go_wp2_with fail
      refine(l6_lanes W3.heap.size _ _ (D6.out.polAt B6.out)).mono ?_
      rintro e w7⟨rfl,k7⟩
      have P7:Hid (Ps w w7 b (kk+1+1+1+1) a len cap zs (.slice oa n0 oc) (.slice la ln lc) (.slice none 0 0) (.slice none 0 0) ⟨oss,ls,[],[]⟩):=P6.out.below hb k7
      have B7:=hid (B6.out.keep k7)
      have D7:=hid (D6.out.keep k7)
      clear k7 P6 B6 D6
      generalize hov:linksV _=lv
      have HOV:Hid (_=lv):=hov
      clear hov
      by_cases hz:lv=0
      ·subst hz
       have c0:=B7.out.cell (i:=0) rfl
       have c1:=B7.out.cell (i:=1) rfl
       have c2:=B7.out.cell (i:=2) rfl
       have c3:=B7.out.cell (i:=3) rfl
       have q0:=P7.out.var.cell (i:=0) rfl
       have q1:=P7.out.var.cell (i:=1) rfl
       have q2:=P7.out.var.cell (i:=2) rfl
       have q3:=P7.out.var.cell (i:=3) rfl
       have y0:=P7.out.var.free 0
       have y1:=P7.out.var.free 1
       have y2:=P7.out.var.free 2
       have y3:=P7.out.var.free 3
       go_wp2_with fail
       go_roundw
       case rel=>exact⟨pg+1,j-1,kk+1+1+1+1,_,ls',by first|rfl|go_num,by have:=HLT.out;first|(congr 1;omega)|go_num,by omega,by have:=HLT.out;omega,by omega,by show _≤_;have:=HLL.out;have:=HLN'.out;have:=HLT.out;omega,HOV.out,by show _≤_;have:=HKK.out;have:=HLT.out;omega,P7.out.all4 hb D7.out⟩
       case measure=>have:=HLT.out;simp[intOf];omega
      ·go_wp2_with fail
       go_roundw
       case rel=>exact⟨pg,j-1,kk+1+1+1+1,_,ls,rfl,by have:=HLT.out;first|(congr 1;omega)|go_num,hp0,by have:=HLT.out;omega,by omega,by show _≤_;have:=HLL.out;have:=HLN.out;have:=HLT.out;omega,HLK.out,by show _≤_;have:=HKK.out;have:=HLT.out;omega,P7.out⟩
       case measure=>have:=HLT.out;simp[intOf];omega
     ·go_wp2_with fail
      go_roundw
      case rel=>exact⟨pg,j-1,kk+1+1+1+1,_,ls,rfl,by have:=HLT.out;first|(congr 1;omega)|go_num,hp0,by have:=HLT.out;omega,by omega,by show _≤_;have:=HLL.out;have:=HLN.out;have:=HLT.out;omega,HLK.out,by show _≤_;have:=HKK.out;have:=HLT.out;omega,P6.out⟩
      case measure=>have:=HLT.out;simp[intOf];omega
    ·have hI:¬(0:Int)<(j:Int):=by omega
     obtain rfl:j=0:=by omega
     have HL3:Hid (ls.length≤3):=by show _≤_;have:=HLL.out;have:=HLN.out;omega
     have hbr:b<W3.heap.size:=PB.out.src.here
     clear hlt hp0 hp1 hj3
     go_wp2_with fail
     refine(next_any PB.out.src (by have:=HK.out;have:=HKK.out;omega) _).mono ?_
     rintro e w4⟨j0,rfl,hj, -,t4,s4⟩
     obtain⟨hj0,hj1⟩:=hj (by omega)
     obtain⟨j0,rfl⟩:=Int.eq_ofNat_of_zero_le hj0
     have P4:Hid (Ps w w4 b (kk+1) a len cap zs (.slice oa n0 oc) (.slice la ln lc) (.slice none 0 0) (.slice none 0 0) ⟨oss,ls,[],[]⟩):=PB.out.next hb t4 s4
     have HJ0:Hid (j0≤2):=by show _≤_;omega
     clear t4 s4 hj hj0 hj1 PB
     go_wp2_with fail
     go_loopw [11,12] (fun c11 _ wr=>∃(j kk:Nat) (v2:Value) (bs:List (Int×Int)),c11=.int .i64 j∧j≤2∧Hid (bs.length≤1)∧Hid (bellsV n0 [] bs=0)∧Hid (kk+2*j≤k+27)∧Hid (Ps w wr b kk a len cap zs (.slice oa n0 oc) (.slice la ln lc) v2 (.slice none 0 0) ⟨oss,ls,bs,[]⟩)) (fun c _ _=>(intOf c).toNat)
     case atStart=>exact⟨j0,kk+1,_,[],rfl,HJ0.out,by show _≤_;simp,by show _=_;rfl,by show _≤_;have:=HKK.out;have:=HJ0.out;omega,P4.out⟩
     case round=>
      obtain⟨j,kk,v2,bs,rfl,hj2,HBL,HBV,HKK,PB⟩:=hrel
      rename World=>W4
      obtain⟨ba,bc,hv2,_⟩:=PB.out.dv.bells.shape
      simp only at hv2
      subst hv2
      generalize hbn:bs.length=bn at*
      have HBN:=hid hbn
      clear hbn
      by_cases hlt:0<j
      ·have hI:(0:Int)<(j:Int):=by omega
       have HLT:=hid hlt
       clear hlt
       go_wp2_with fail
       refine(next_any PB.out.src (by have:=HK.out;have:=HKK.out;omega) _).mono ?_
       rintro e x1⟨f,rfl,hf, -,t1,s1⟩
       have HF:Hid (0≤f∧f<(n0:Int)):=hf (by have:=HNB.out;omega)
       clear hf
       have P5:=PB.out.next hb t1 s1
       go_wp2_with fail
       refine(next_any P5.src (by have:=HK.out;have:=HKK.out;omega) _).mono ?_
       rintro e x2⟨g,rfl,hg, -,t2,s2⟩
       have HGG:Hid (0≤g∧g<(n0:Int)):=hg (by have:=HNB.out;omega)
       clear hg
       have P6:Hid (Ps w x2 b (kk+1+1) a len cap zs (.slice oa n0 oc) (.slice la ln lc) (.slice ba bn bc) (.slice none 0 0) ⟨oss,ls,bs,[]⟩):=P5.next hb t2 s2
       have P7:Hid (Ps w (x2.alloc (.cells #[.int .i64 f,.int .i64 g] 148)) b (kk+1+1) a len cap zs (.slice oa n0 oc) (.slice la ln lc) (.slice ba bn bc) (.slice none 0 0) ⟨oss,ls,bs,[]⟩):=P6.out.alloc hb _
       have q2:=P7.out.var.cell (i:=2) rfl
       clear t1 t2 s1 s2 P5 PB
       have hqx:w.heap.size+1<x2.heap.size:=P6.out.var.lt
       by_cases hfg:f=g
       ·subst hfg
        go_wp2_with fail
        go_roundw
        case rel=>exact⟨j-1,kk+1+1,_,bs,by have:=HLT.out;first|(congr 1;omega)|go_num,by omega,by show _≤_;have:=HBL.out;have:=HBN.out;omega,HBV.out,by show _≤_;have:=HKK.out;have:=HLT.out;omega,P7.out⟩
        case measure=>have:=HLT.out;simp[intOf];omega
       ·by_cases hb1:bn<1
        ·have HB1:Hid (bn<1):=hb1
         have HFG:Hid (f≠g):=hfg
         have hb1':(bn:Int)<1:=by omega
         go_wp2_with (at_builtin;refine wp_pair 26 148 Tryz.underlying26 info_bell _ rfl _ _ rfl w.heap.size _ bs rfl (P7.out.alloc hb _).dv.bells (x2.heap.size+1) f g rfl (cell_at2 (by simp) rfl) (cell_at2 (by simp) rfl) (by have:=HBL.out;have:=HBN.out;omega) (by simp;omega) ?_;intro v' w' hN' hG';obtain⟨va,vc,hv',_,_,_⟩:=hN'.shape;generalize hvn:List.length _=vn at hv';clear hvn;subst hv';obtain⟨R9,D9⟩:=(P7.out.alloc hb _).belled hb hN' hG';have RR:Hid (Rst w w' b (kk+1+1) a len cap zs _ _ _ _):=R9;have DD:Hid (Dv w' w.heap.size _ _ _ _ _):=D9;have q2':=R9.2.2.2.cell (i:=2) rfl;have y2':=R9.2.2.2.free 2;clear hN' hG' R9 D9)
         have PN:Hid (Ps w (w'.setCell ⟨w.heap.size+1,2,none⟩ (.slice va vn vc)) b (kk+1+1) a len cap zs _ _ _ _ _):=Ps.mk' hb RR.out DD.out (by rfl)
         go_roundw
         case rel=>exact⟨j-1,kk+1+1,_,bs++ [(f,g)],by have:=HLT.out;first|(congr 1;omega)|go_num,by omega,by show _≤_;have:=HB1.out;have:=HBN.out;rw[List.length_append,List.length_singleton];omega,(by
          have e:bs=[]:=List.eq_nil_of_length_eq_zero (by have:=HB1.out;have:=HBN.out;omega)
          show _=_
          rw[e,List.nil_append]
          exact bell_ok HF.out HGG.out HFG.out),by show _≤_;have:=HKK.out;have:=HLT.out;omega,PN.out⟩
         case measure=>have:=HLT.out;simp[intOf];omega
        ·have hb1':¬(bn:Int)<1:=by omega
         go_wp2_with fail
         go_roundw
         case rel=>exact⟨j-1,kk+1+1,_,bs,by have:=HLT.out;first|(congr 1;omega)|go_num,by omega,by show _≤_;have:=HBL.out;have:=HBN.out;omega,HBV.out,by show _≤_;have:=HKK.out;have:=HLT.out;omega,P7.out⟩
         case measure=>have:=HLT.out;simp[intOf];omega
      ·have hI:¬(0:Int)<(j:Int):=by omega
       obtain rfl:j=0:=by omega
       have HB1:Hid (bs.length≤1):=by show _≤_;have:=HBL.out;have:=HBN.out;omega
       clear hlt hj2
       go_wp2_with fail
       refine(next_any PB.out.src (by have:=HK.out;have:=HKK.out;omega) _).mono ?_
       rintro e w5⟨j0,rfl,hj, -,t5,s5⟩
       obtain⟨hj0,hj1⟩:=hj (by omega)
       obtain⟨j0,rfl⟩:=Int.eq_ofNat_of_zero_le hj0
       have P5:Hid (Ps w w5 b (kk+1) a len cap zs (.slice oa n0 oc) (.slice la ln lc) (.slice ba bn bc) (.slice none 0 0) ⟨oss,ls,bs,[]⟩):=PB.out.next hb t5 s5
       have HJ0:Hid (j0≤3):=by show _≤_;omega
       clear t5 s5 hj hj0 PB
       go_wp2_with fail
       go_loopw [13] (fun c13 wr=>∃(j kk:Nat) (v3:Value) (ps:List (Int×Int)),c13=.int .i64 j∧j≤4∧Hid (ps.length+j=j0+1)∧Hid (slotsV n0 ps=0)∧Hid (kk+2*j≤k+36)∧Hid (Ps w wr b kk a len cap zs (.slice oa n0 oc) (.slice la ln lc) (.slice ba bn bc) v3 ⟨oss,ls,bs,ps⟩)) (fun c _=>(intOf c).toNat)
       case atStart=>exact⟨j0+1,kk+1,_,[],by congr 1;omega,by have:=HJ0.out;omega,by show _=_;simp,by show _=_;rfl,by show _≤_;have:=HKK.out;have:=HJ0.out;omega,P5.out⟩
       case round=>
        obtain⟨j,kk,v3,ps,rfl,hj4,HPL,HPV,HKK,PB⟩:=hrel
        rename World=>W5
        obtain⟨sa,sc,hv3,_⟩:=PB.out.dv.plan.shape
        simp only at hv3
        subst hv3
        generalize hsn:ps.length=sn at*
        have HSN:=hid hsn
        clear hsn
        by_cases hlt:0<j
        ·have hI:(0:Int)<(j:Int):=by omega
         have HLT:=hid hlt
         have q3:=PB.out.var.cell (i:=3) rfl
         have PD:Hid (Ps w W5.drew b kk a len cap zs (.slice oa n0 oc) (.slice la ln lc) (.slice ba bn bc) (.slice sa sn sc) ⟨oss,ls,bs,ps⟩):=PB.out.below hb (Below.refl _ _).drew
         clear hlt
         have hqD:w.heap.size+1<W5.heap.size:=PB.out.var.lt
         go_wp2_with fail
         go_region_law (first
          |(refine step_pair2 27 119 Tryz.underlying27 info_slot rfl (.tmp 122) (.tmp 130) rfl w.heap.size (.slice sa sn sc) ps (by simp[Act.eval]) (PY.out.alloc hb _).dv.plan x2.heap.size gu (IntKind.i64.wrap (1+st)) (by simp[Act.eval]) (cell_new rfl) (cell_new rfl) (by have:=HPL.out;have:=HSN.out;have:=HJ0.out;omega) (by have:=PY.out.turn.size;simp;omega) ?_;intro v' w' hN' hG';obtain⟨va,vc,hv',_,_,_⟩:=hN'.out.shape;generalize hvn:List.length _=vn at hv';clear hvn;subst hv';obtain⟨R9,D9⟩:=(PY.out.alloc hb _).planned hb hN'.out hG';have RR:Hid (Rst w w' b (kk+1+1) a len cap zs _ _ _ _):=R9;have DD:Hid (Dv w' w.heap.size _ _ _ _ _):=D9;have q3':=R9.2.2.2.cell (i:=3) rfl;have y3':=R9.2.2.2.free 3;clear hN' hG' R9 D9)
          |(go_simp;go_wp2_with (first
            |(go_at_call 36;refine(next_any PX.out.src (by have:=HK.out;have:=HKK.out;omega) _).mono ?_;rintro e x2 ⟨st,rfl,hst, -,t2,s2⟩;obtain⟨st0,st1⟩:=hst (by omega);have HST:Hid (1≤IntKind.i64.wrap (1+st)∧IntKind.i64.wrap (1+st)≤9):=(by show _∧_;rw[IntKind.wrap_i64];omega);have PY:Hid (Ps w x2 b (kk+1+1) a len cap zs (.slice oa n0 oc) (.slice la ln lc) (.slice ba bn bc) (.slice sa sn sc) ⟨oss,ls,bs,ps⟩):=PX.out.next hb t2 s2;have q3:=PY.out.var.cell (i:=3) rfl;have q3a:∀o,(x2.alloc o).cell? ⟨w.heap.size+1,3,none⟩=some (.slice sa sn sc):=(fun o=>(PY.out.alloc hb o).var.cell (i:=3) rfl);clear hst t2 s2)
            |(go_at_call 36;refine(next_any PD.out.src (by have:=HK.out;have:=HKK.out;omega) _).mono ?_;rintro e x1 ⟨gu,rfl,hgu, -,t1,s1⟩;have HGU:Hid (0≤gu∧gu<(n0:Int)):=hgu (by have:=HNB.out;omega);clear hgu;have PX:Hid (Ps w x1 b (kk+1) a len cap zs (.slice oa n0 oc) (.slice la ln lc) (.slice ba bn bc) (.slice sa sn sc) ⟨oss,ls,bs,ps⟩):=PD.out.next hb t1 s1;have q3:=PX.out.var.cell (i:=3) rfl;clear t1 s1))))
         all_goals have PN:Hid (Ps w (w'.setCell ⟨w.heap.size+1,3,none⟩ (.slice va vn vc)) b (kk+1+1) a len cap zs _ _ _ _ _):=Ps.mk' hb RR.out DD.out (by rfl)
         all_goals go_wp2_with fail
         all_goals go_roundw
         all_goals first
          |(have:=HLT.out;simp[intOf];omega)
          |exact⟨j-1,kk+1+1,_,_,by have:=HLT.out;first|(congr 1;omega)|go_num,by omega,by show _=_;have:=HPL.out;have:=HSN.out;have:=HLT.out;rw[List.length_append,List.length_singleton];omega,slots_push HPV.out (slot_ok HGU.out HST.out),by show _≤_;have:=HKK.out;have:=HLT.out;omega,PN.out⟩
        ·have hI:¬(0:Int)<(j:Int):=by omega
         obtain rfl:j=0:=by omega
         have q0:=PB.out.var.cell (i:=0) rfl
         have q1:=PB.out.var.cell (i:=1) rfl
         have q2:=PB.out.var.cell (i:=2) rfl
         have q3:=PB.out.var.cell (i:=3) rfl
         have r0:=PB.out.res.cell (i:=0) rfl
         have r1:=PB.out.res.cell (i:=1) rfl
         have r2:=PB.out.res.cell (i:=2) rfl
         have r3:=PB.out.res.cell (i:=3) rfl
         have y0:=PB.out.res.free 0
         have y1:=PB.out.res.free 1
         have y2:=PB.out.res.free 2
         have y3:=PB.out.res.free 3
         go_wp2_with fail
         obtain⟨d,t,s,bk⟩:=PB.out.done hb
         have z0:=bk.cell (i:=0) rfl
         have z1:=bk.cell (i:=1) rfl
         have z2:=bk.cell (i:=2) rfl
         have z3:=bk.cell (i:=3) rfl
         exact bodyPost_ret (v:=.agg #[.slice oa n0 oc,.slice la ln lc,.slice ba bn bc,.slice sa sn sc]) (by simp[results,Tryz.results33,go_sem,z0,z1,z2,z3]) rfl ⟨_,_,_,_,rfl,_,⟨pf_make (OWN.out _ _ _) HLK.out HL3.out HB1.out (by show bellsV oss.length [] bs=0;rw[HON.out];exact HBV.out) (by have:=HPL.out;have:=HSN.out;have:=HJ0.out;simp only;omega) (by show slotsV oss.length ps=0;rw[HON.out];exact HPV.out),fun o ho=>(HOR.out o ho).2⟩,d,kk,by have:=HKK.out;omega,t,s⟩
theorem nums_lit3{w:World}{B base x:Nat}(hx:x≤3)(hB:Bk w B #[.int .i64 5,.int .i64 6,.int .i64 7] 2)(hb:base≤B):Nums w base (.slice (some ⟨B,0,none⟩) x 3) ([5,6,7].take x):=by
 have h:x=0∨x=1∨x=2∨x=3:=by omega
 rcases h with rfl|rfl|rfl|rfl<;>exact⟨rfl,.inr ⟨B,3,_,rfl,hb,hB,hx,by unfold maxLen;decide,rfl,rfl⟩⟩
theorem put4R{u:World}{q base:Nat}{v0 v1 v2 v3:Value}(b0:Bk u q #[.slice none 0 0,.slice none 0 0,.slice none 0 0,.slice none 0 0] 29):Bk ((((u.setCell ⟨q,0,none⟩ v0).setCell ⟨q,1,none⟩ v1).setCell ⟨q,2,none⟩ v2).setCell ⟨q,3,none⟩ v3) q #[v0,v1,v2,v3] 29∧∀{x0 x1 x2 x3:Value} {P:Plc},Dv u base x0 x1 x2 x3 P→Dv ((((u.setCell ⟨q,0,none⟩ v0).setCell ⟨q,1,none⟩ v1).setCell ⟨q,2,none⟩ v2).setCell ⟨q,3,none⟩ v3) base x0 x1 x2 x3 P:=by
 have b1:Bk (u.setCell ⟨q,0,none⟩ v0) q #[v0,.slice none 0 0,.slice none 0 0,.slice none 0 0] 29:=b0.set 0 _
 have b2:Bk ((u.setCell ⟨q,0,none⟩ v0).setCell ⟨q,1,none⟩ v1) q #[v0,v1,.slice none 0 0,.slice none 0 0] 29:=b1.set 1 _
 have b3:Bk (((u.setCell ⟨q,0,none⟩ v0).setCell ⟨q,1,none⟩ v1).setCell ⟨q,2,none⟩ v2) q #[v0,v1,v2,.slice none 0 0] 29:=b2.set 2 _
 have b4:Bk ((((u.setCell ⟨q,0,none⟩ v0).setCell ⟨q,1,none⟩ v1).setCell ⟨q,2,none⟩ v2).setCell ⟨q,3,none⟩ v3) q #[v0,v1,v2,v3] 29:=b3.set 3 _
 exact⟨b4,fun d=>(((d.put b0 _).put b1 _).put b2 _).put b3 _⟩
theorem So.mono{w:World}{base base':Nat}{v:Value}{oss:List (List Int)}(h:So w base v oss)(hb:base'≤base):So w base' v oss:=by
 obtain⟨xs,h0,h1,h2⟩:=h
 exact⟨xs,h0,row_up h1 hb,fun i hi=>(h2 i hi).monoD hb⟩
theorem Dv.monoR{w:World}{base base':Nat}{v0 v1 v2 v3:Value}{P:Plc}(h:Dv w base v0 v1 v2 v3 P)(hb:base'≤base):Dv w base' v0 v1 v2 v3 P:=⟨h.own.mono hb,row_up h.lanes hb,row_up h.bells hb,row_up h.plan hb⟩
theorem so_empty(w:World)(base:Nat)(hb:base≤w.heap.size):So (w.alloc (.cells #[] 32)) base (.slice (some ⟨w.heap.size,0,none⟩) 0 0) []:=
 ⟨[],rfl,World.ownsRow_lit w #[] 0 hb (by decide) rfl,fun i hi=>absurd hi (Nat.not_lt_zero _)⟩
theorem So.turn{w w':World}{base b:Nat}{v:Value}{oss:List (List Int)}(h:So w base v oss)(t:Turn b w w')(hb:b<base):So w' base v oss:=by
 have d:Dv w base v (.slice none 0 0) (.slice none 0 0) (.slice none 0 0) ⟨oss,[],[],[]⟩:=⟨h,Ls.nil _ _ _,Prs.nil _ _ _,Prs.nil _ _ _⟩
 exact(d.turn t hb).own
theorem images_right(s:Src w b k a len cap zs)(hk:k≤20000)(base:Nat)(a0 a1 a2 a3:Option Addr)(n0 c0 n1 c1 n2 c2 n3 c3:Nat)(P:Plc)(d:∀w',Turn b w w'→Dv w' base (.slice a0 n0 c0) (.slice a1 n1 c1) (.slice a2 n2 c2) (.slice a3 n3 c3) P)(fo:P.own.length≤4∧∀i,(P.own.getD i []).length≤3):
  Calls Tryz.prog 35 #[.pointer (some ⟨b,0,none⟩),.agg #[.slice a0 n0 c0,.slice a1 n1 c1,.slice a2 n2 c2,.slice a3 n3 c3]] w fun e w'=>∃(v:Value) (iss:List (List Int)) (k':Nat),e=.returned v∧So w' w.heap.size v iss∧(iss.length=n0∧∀i,i<iss.length→(iss.getD i []).length≤(P.own.getD i []).length*8)∧k'≤k+2500∧Turn b w w'∧Src w' b k' a len cap zs:=by
 have HS:=hid s
 have HD:=hid d
 have HK:Hid (k≤20000∧True∧b<w.heap.size):=⟨hk,trivial,s.here⟩
 have FO:=hid fo
 have hl0:n0=P.own.length:=(d w ⟨rfl,rfl,rfl,Nat.le_refl _,fun _ _ _=>rfl⟩).own.read.len
 have hn4:n0≤4:=by rw[hl0];exact fo.1
 have HN:Hid (n0=P.own.length∧n0≤4):=⟨hl0,hn4⟩
 obtain⟨s1,hs1⟩:∃s,w.heap.size=s:=⟨_,rfl⟩
 have SE:=hid hs1
 generalize hW:(w.alloc (.cells #[.slice a0 n0 c0,.slice a1 n1 c1,.slice a2 n2 c2,.slice a3 n3 c3] 29)).alloc (.cells #[] 32)=W
 have T1:Hid (Turn b w W):=by show Turn _ _ _;rw[←hW];exact(Turn.alloc _ _ _).trans (Turn.alloc _ _ _)
 have S1:Hid (Src W b k a len cap zs):=by show Src _ _ _ _ _ _ _;rw[←hW];exact(s.alloc _).alloc _
 have Q1:Hid (Bk W s1 #[.slice a0 n0 c0,.slice a1 n1 c1,.slice a2 n2 c2,.slice a3 n3 c3] 29):=by
  show Bk _ _ _ _
  have h:=Bk.new w #[.slice a0 n0 c0,.slice a1 n1 c1,.slice a2 n2 c2,.slice a3 n3 c3] 29
  rw[hs1]at h
  rw[←hW]
  exact h.keep (al (Below.refl _ _) _)
 have O1:Hid (So W w.heap.size (.slice (some ⟨s1+1,0,none⟩) 0 0) []):=by
  show So _ _ _ _
  have h:=so_empty (w.alloc (.cells #[.slice a0 n0 c0,.slice a1 n1 c1,.slice a2 n2 c2,.slice a3 n3 c3] 29)) w.heap.size (by simp)
  rw[World.size_alloc,hs1]at h
  rw[←hW,hs1]
  exact h
 clear s d hk fo hl0
 go_enter Tryz.func35,Tryz.ntmps35
 go_wp2_with fail
 try rw[hW]
 try rw[hs1]
 clear hW hs1
 go_loopw [5,6] (fun v c wr=>∃(j kk:Nat) (oss:List (List Int)),j≤n0∧c=.int .i64 j∧Hid (So wr w.heap.size v oss)∧Hid (oss.length=j)∧Hid (∀i,i<oss.length→(oss.getD i []).length≤(P.own.getD i []).length*8)∧Hid (kk≤k+600*j)∧Hid (Turn b w wr)∧Hid (Src wr b kk a len cap zs)∧Hid (Bk wr s1 #[.slice a0 n0 c0,.slice a1 n1 c1,.slice a2 n2 c2,.slice a3 n3 c3] 29)) (fun _ c _=>n0-(intOf c).toNat)
 case atStart=>exact⟨0,k,[],Nat.zero_le _,rfl,O1.out,rfl,(fun i hi=>absurd hi (Nat.not_lt_zero _)),by show _≤_;omega,T1.out,S1.out,Q1.out⟩
 case round=>
  obtain⟨j,kk,oss,hj,rfl,OB,OL,OF,KK,TB,SB,QB⟩:=hrel
  obtain⟨va,vc,ev,_,_,_⟩:=OB.out.shape
  rw[OL.out]at ev
  subst ev
  have q0:=QB.out.cell (i:=0) rfl
  by_cases hlt:j<n0
  ·have hI:(j:Int)<(n0:Int):=by omega
   have HL:=hid hlt
   have DW:Hid (Dv wr base (.slice a0 n0 c0) (.slice a1 n1 c1) (.slice a2 n2 c2) (.slice a3 n3 c3) P):=HD.out _ TB.out
   obtain⟨xa,ra,rl,rc,ea,k1,k2⟩:=DW.out.own.read.at j hlt
   subst ea
   have RL:Hid (rl≤3):=by show _≤_;rw[k2.len];exact FO.out.2 j
   have RE:Hid (rl=(P.own.getD j []).length):=by show _=_;rw[k2.len]
   clear hlt hj k2
   have hr3:(rl:Int)≤3:=by have:=RL.out;omega
   have w8:wrap64 ((rl:Int)*8)=(rl:Int)*8:=wrap64_id (by omega)
   have w81:wrap64 ((rl:Int)*8+1)=(rl:Int)*8+1:=wrap64_id (by omega)
   go_wp2_with fail
   clear q0 k1
   refine(next_any SB.out (by have:=KK.out;have:=HK.out;have:=HN.out;have:=HL.out;omega) _).mono ?_
   rintro e w2⟨x,rfl,hx, -,t2,s2⟩
   obtain⟨x0,x1⟩:=hx (by omega)
   have HX:Hid (0≤x∧x≤24∧x≤(rl:Int)*8):=⟨x0,by omega,by omega⟩
   have T2:Hid (Turn b w w2):=TB.out.trans t2
   have S2:=hid s2
   have O2:=hid (OB.out.turn t2 HK.out.2.2)
   have Q2:Hid (Bk w2 s1 #[.slice (some xa) n0 c0,.slice a1 n1 c1,.slice a2 n2 c2,.slice a3 n3 c3] 29):=QB.out.turn t2 (by have:=HK.out;have:=SE.out;omega)
   clear hx x0 x1 t2 s2 w8 w81 hr3
   go_wp2_with fail
   refine(image_any S2.out (by have:=KK.out;have:=HK.out;have:=HN.out;have:=HL.out;omega) x (by have:=HX.out;omega) (by have:=HX.out;omega)).mono ?_
   rintro e w3⟨u,xs,k3,rfl,nu,hxl,t3,s3,hk3⟩
   obtain⟨ua,uc,eu,_,_,_⟩:=nu.shape
   obtain⟨un,hun⟩:∃n,xs.length=n:=⟨_,rfl⟩
   rw[hun]at eu
   subst eu
   have KK3:Hid (k3≤kk+500):=by show _≤_;have:=HX.out;omega
   have T3:Hid (Turn b w w3):=T2.out.trans t3
   have S3:=hid s3
   have O3:=hid (O2.out.turn t3 HK.out.2.2)
   have Q3:Hid (Bk w3 s1 #[.slice (some xa) n0 c0,.slice a1 n1 c1,.slice a2 n2 c2,.slice a3 n3 c3] 29):=Q2.out.turn t3 (by have:=HK.out;have:=SE.out;omega)
   have N3:Hid (Nums w3 w.heap.size (.slice ua un uc) xs):=nu.monoD T2.out.size
   have XL:Hid (xs.length≤(P.own.getD j []).length*8):=by show _≤_;rw[hxl,←RE.out];have:=HX.out;omega
   clear t3 s3 nu hxl hk3 hun
   go_wp2_with (at_builtin;refine wp_slo _ rfl _ _ rfl w.heap.size _ oss rfl (O3.out.keep (al (Below.refl _ _) _)) w3.heap.size _ _ _ xs rfl (cell_new rfl) (N3.out.keep (al (Below.refl _ _) _)) (by have:=OL.out;have:=HN.out;have:=HL.out;omega) (by have:=T3.out.size;simp;omega) ?_;intro v' w' hN' hG')
   have OX:Hid (So (w3.alloc (.cells #[.slice ua un uc] 32)) w.heap.size (.slice va j vc) oss):=O3.out.keep (al (Below.refl _ _) _)
   have ON:Hid (So w' w.heap.size v' (oss++ [xs])):=hN'
   have TN:Hid (Turn b w w'):=by
    obtain⟨ys,_,h1,_⟩:=OX.out
    exact(T3.out.trans (Turn.alloc _ _ _)).rowed h1 (Nat.le_refl _) hG'
   have SN:Hid (Src w' b k3 a len cap zs):=by
    obtain⟨ys,_,h1,_⟩:=OX.out
    exact(S3.out.alloc _).rowed h1 HK.out.2.2 hG'
   have QN:Hid (Bk w' s1 #[.slice (some xa) n0 c0,.slice a1 n1 c1,.slice a2 n2 c2,.slice a3 n3 c3] 29):=by
    obtain⟨ys,_,h1,_⟩:=OX.out
    have q:Bk (w3.alloc (.cells #[.slice ua un uc] 32)) s1 #[.slice (some xa) n0 c0,.slice a1 n1 c1,.slice a2 n2 c2,.slice a3 n3 c3] 29:=Q3.out.keep (al (Below.refl _ _) _)
    exact q.gr hG' (q.row h1 (by decide)).symm
   clear hN' hG'
   go_wp2_with fail
   go_roundw
   case rel=>exact⟨j+1,k3,oss++ [xs],by have:=HL.out;omega,by go_num,ON.out,by show _=_;have:=OL.out;simp;omega,(fun i hi=>by
    rw[List.length_append,List.length_singleton]at hi
    by_cases e:i<oss.length
    ·rw[show(oss++ [xs]).getD i []=oss.getD i [] by rw[List.getD,List.getD,List.getElem?_append_left e]]
     exact OF.out i e
    ·obtain rfl:i=oss.length:=by omega
     rw[show(oss++ [xs]).getD oss.length []=xs by rw[List.getD,List.getElem?_append_right (Nat.le_refl _)];simp,OL.out]
     exact XL.out),by show _≤_;have:=KK.out;have:=KK3.out;omega,TN.out,SN.out,QN.out⟩
   case measure=>have:=HL.out;simp[intOf];omega
  ·have hI:¬(j:Int)<(n0:Int):=by omega
   go_wp2_with fail
   go_ret
   have r1:oss.length=n0:=by have:=OL.out;omega
   have r2:kk≤k+2500:=by have:=KK.out;have:=HN.out;omega
   exact⟨_,rfl,oss,OB.out,⟨r1,OF.out⟩,kk,r2,TB.out,SB.out⟩
variable{w:World}{a:Option Addr}{len cap:Nat}{zs:List Int}
theorem drawRI(hr:IsRow .u8 w a len cap zs)(hlen:len≤1048576)(base:Nat)(a0 a1 a2 a3:Option Addr)(n0 c0 n1 c1 n2 c2 n3 c3:Nat)(P:Plc)(d:Dv w base (.slice a0 n0 c0) (.slice a1 n1 c1) (.slice a2 n2 c2) (.slice a3 n3 c3) P)(fo:P.own.length≤4∧∀i,(P.own.getD i []).length≤3)(hb:base≤w.heap.size):
  Calls Tryz.prog 14 #[.slice a len cap,.agg #[.slice a0 n0 c0,.slice a1 n1 c1,.slice a2 n2 c2,.slice a3 n3 c3]] w fun e w'=>∃v iss u jss,e=.returned (.tuple #[v,u])∧So w' w.heap.size v iss∧(iss.length=n0∧∀i,i<iss.length→(iss.getD i []).length≤(P.own.getD i []).length*8)∧So w' w.heap.size u jss∧(jss.length=n0∧∀js ∈ jss,js=[5,6,7].take js.length)∧Below w.heap.size w w':=by
 have HDR:=hid hr
 have HD:=hid d
 have FO:=hid fo
 have HL:Hid (len≤1048576∧base≤w.heap.size):=⟨hlen,hb⟩
 clear hr d fo hlen hb
 go_enter Tryz.func14,Tryz.ntmps14
 go_wp2_with (at_builtin;refine wp_prepend _ rfl _ _ rfl (w.heap.size+1) 3 (by decide) rfl (by have:=heap_new (w.alloc (.cells #[.slice a0 n0 c0,.slice a1 n1 c1,.slice a2 n2 c2,.slice a3 n3 c3] 29)) (.cells #[.int .u8 3] 5);rw[World.size_alloc]at this;exact this) a len cap zs rfl ((HDR.out.below (al (Below.refl _ _) _)).below (al (Below.refl _ _) _)) (by have:=HL.out.1;omega) ?_;intro a' len' cap' zs' w2 r2 b2)
 have P0:Bk ((w.alloc (.cells #[.slice a0 n0 c0,.slice a1 n1 c1,.slice a2 n2 c2,.slice a3 n3 c3] 29)).alloc (.cells #[.int .u8 3] 5)) w.heap.size #[.slice a0 n0 c0,.slice a1 n1 c1,.slice a2 n2 c2,.slice a3 n3 c3] 29:=(Bk.new _ _ _).keep (al (Below.refl _ _) _)
 have Z0:((w.alloc (.cells #[.slice a0 n0 c0,.slice a1 n1 c1,.slice a2 n2 c2,.slice a3 n3 c3] 29)).alloc (.cells #[.int .u8 3] 5)).heap.size=w.heap.size+2:=by simp
 have A0:Below w.heap.size w ((w.alloc (.cells #[.slice a0 n0 c0,.slice a1 n1 c1,.slice a2 n2 c2,.slice a3 n3 c3] 29)).alloc (.cells #[.int .u8 3] 5)):=al (al (Below.refl _ _) _) _
 generalize (w.alloc (.cells #[.slice a0 n0 c0,.slice a1 n1 c1,.slice a2 n2 c2,.slice a3 n3 c3] 29)).alloc (.cells #[.int .u8 3] 5)=W at*
 have P2:Hid (Bk w2 w.heap.size #[.slice a0 n0 c0,.slice a1 n1 c1,.slice a2 n2 c2,.slice a3 n3 c3] 29):=(b2.block _ (by omega)).trans P0
 have B2:Hid (Below w.heap.size w w2):=A0.trans (b2.mono (by omega))
 have D2:=hid (HD.out.keep B2.out)
 clear P0 Z0 A0 b2
 refine(source_any r2).mono ?_
 rintro e w3⟨rfl,b3,s3⟩
 obtain⟨b,hb⟩:∃b,w2.heap.size=b:=⟨_,rfl⟩
 have HB:Hid (w2.heap.size=b∧w.heap.size<b):=⟨hb,by rw[←hb];exact P2.out.lt⟩
 have B3:=hid b3
 have DT:Hid (∀w',Turn b w3 w'→Dv w' base (.slice a0 n0 c0) (.slice a1 n1 c1) (.slice a2 n2 c2) (.slice a3 n3 c3) P∧Below w.heap.size w w'∧Bk w' w.heap.size #[.slice a0 n0 c0,.slice a1 n1 c1,.slice a2 n2 c2,.slice a3 n3 c3] 29):=fun w' t=>by
  have bt:Below w2.heap.size w2 w':=B3.out.trans (t.below (by have:=HB.out.1;omega) B3.out.size)
  exact⟨D2.out.keep bt,on B2.out bt,P2.out.keep bt⟩
 rw[hb]at s3 ⊢
 have S3:=hid s3
 have P3:=P2.out.keep b3
 have q0:=P3.cell (i:=0) rfl
 have q1:=P3.cell (i:=1) rfl
 have q2:=P3.cell (i:=2) rfl
 have q3:=P3.cell (i:=3) rfl
 clear b3 hb s3 P3 r2
 go_wp2_with fail
 clear q0 q1 q2 q3
 refine(images_right S3.out (by decide) base _ _ _ _ _ _ _ _ _ _ _ _ P (fun w' t=>(DT.out w' t).1) FO.out).mono ?_
 rintro e w4⟨v,iss,k4,rfl,so,il,hk4,t4,s4⟩
 obtain⟨ia,ic,ei,_,_,_⟩:=so.shape
 rw[il.1]at ei
 subst ei
 have T4:=hid t4
 have S4:Hid (Src w4 b k4 a' len' cap' zs'∧k4≤2500):=⟨s4,by omega⟩
 have SO:=hid so
 have IL:=hid il
 have N0:Hid (n0≤4):=by show _≤_;have e:=D2.out.own.read.len;have:=FO.out.1;omega
 clear so il hk4 t4 s4
 go_wp2_with fail
 obtain⟨s5,hs5⟩:∃s,w4.heap.size=s:=⟨_,rfl⟩
 have I5:Hid (So (w4.alloc (.cells #[] 32)) w4.heap.size (.slice (some ⟨s5,0,none⟩) 0 0) []):=by
  show So _ _ _ _
  rw[←hs5]
  exact so_empty w4 _ (Nat.le_refl _)
 have T5:Hid (Turn b w4 (w4.alloc (.cells #[] 32))):=Turn.alloc _ _ _
 have S5:Hid (Src (w4.alloc (.cells #[] 32)) b k4 a' len' cap' zs'):=S4.out.1.alloc _
 try rw[hs5]
 generalize w4.alloc (.cells #[] 32)=w5 at*
 clear hs5
 go_loopw [8,9] (fun v c wr=>∃(j kk:Nat) (jss:List (List Int)),j≤n0∧c=.int .i64 j∧Hid (So wr w4.heap.size v jss)∧Hid (jss.length=j)∧Hid (∀js ∈ jss,js=[5,6,7].take js.length)∧Hid (kk≤k4+j)∧Hid (Turn b w4 wr)∧Hid (Src wr b kk a' len' cap' zs')) (fun _ c _=>n0-(intOf c).toNat)
 case atStart=>exact⟨0,k4,[],Nat.zero_le _,rfl,I5.out,rfl,(fun js h=>by cases h),by show _≤_;omega,T5.out,S5.out⟩
 case round=>
  obtain⟨j,kk,jss,hj,rfl,OB,OL,OF,KK,TB,SB⟩:=hrel
  obtain⟨va,vc,ev,_,_,_⟩:=OB.out.shape
  rw[OL.out]at ev
  subst ev
  have P4:=(DT.out _ (T4.out.trans TB.out)).2.2
  have q0:=P4.cell (i:=0) rfl
  clear P4
  by_cases hlt:j<n0
  ·have hI:(j:Int)<(n0:Int):=by omega
   have HLT:=hid hlt
   clear hlt hj
   go_wp2_with fail
   clear q0
   refine(next_any (SB.out.alloc _) (by have:=KK.out;have:=S4.out.2;have:=N0.out;have:=HLT.out;omega) _).mono ?_
   rintro e w6⟨x,rfl,hx, -,t6,s6⟩
   obtain⟨x0,x1⟩:=hx (by omega)
   obtain⟨x,rfl⟩:=Int.eq_ofNat_of_zero_le x0
   have XL:Hid (x≤3):=by show _≤_;omega
   have hx3:(x:Int)≤3:=by omega
   have HBW:Hid (b<wr.heap.size∧w4.heap.size≤wr.heap.size):=⟨SB.out.here,TB.out.size⟩
   have T6:Hid (Turn b w4 w6):=(TB.out.trans (Turn.alloc _ _ _)).trans t6
   have O6:Hid (So w6 w4.heap.size (.slice va j vc) jss):=(OB.out.keep (al (Below.refl _ _) _)).turn t6 S4.out.1.here
   have L6:Hid (Bk w6 wr.heap.size #[.int .i64 5,.int .i64 6,.int .i64 7] 2):=((Bk.new wr _ _).turn t6 (by have:=HBW.out.1;omega))
   have S6:=hid s6
   clear hx x1 t6 s6
   go_wp2_with (at_builtin;refine wp_slo _ rfl _ _ rfl w4.heap.size _ jss rfl (O6.out.keep (al (Below.refl _ _) _)) w6.heap.size _ _ _ ([5,6,7].take x) rfl (cell_new rfl) ((nums_lit3 XL.out L6.out HBW.out.2).keep (al (Below.refl _ _) _)) (by have:=OL.out;have:=N0.out;have:=HLT.out;omega) (by have:=T6.out.size;simp;omega) ?_;intro v' w' hN' hG')
   have OX:Hid (So (w6.alloc (.cells #[.slice (some ⟨wr.heap.size,0,none⟩) x 3] 32)) w4.heap.size (.slice va j vc) jss):=O6.out.keep (al (Below.refl _ _) _)
   have ON:Hid (So w' w4.heap.size v' (jss++ [[5,6,7].take x])):=hN'
   have TN:Hid (Turn b w4 w'):=by
    obtain⟨ys,_,h1,_⟩:=OX.out
    exact(T6.out.trans (Turn.alloc _ _ _)).rowed h1 (Nat.le_refl _) hG'
   have SN:Hid (Src w' b (kk+1) a' len' cap' zs'):=by
    obtain⟨ys,_,h1,_⟩:=OX.out
    exact(S6.out.alloc _).rowed h1 S4.out.1.here hG'
   clear hN' hG'
   have wj:wrap64 ((j:Int)+1)=(j:Int)+1:=wrap64_id (by have:=HLT.out;have:=N0.out;omega)
   go_wp2_with fail
   go_roundw
   case rel=>exact⟨j+1,kk+1,jss++ [[5,6,7].take x],by have:=HLT.out;omega,by go_num,ON.out,by show _=_;have:=OL.out;simp;omega,(fun js h=>by
    rcases List.mem_append.1 h with h|h
    ·exact OF.out js h
    ·rw[List.mem_singleton]at h
     subst h
     have:=XL.out
     have e:(List.take x [(5:Int),6,7]).length=x:=by rw[List.length_take];exact Nat.min_eq_left this
     rw[e]),by show _≤_;have:=KK.out;omega,TN.out,SN.out⟩
   case measure=>have:=HLT.out;rw[wj];simp[intOf];omega
  ·have hI:¬(j:Int)<(n0:Int):=by omega
   go_wp2_with fail
   have TT:=T4.out.trans TB.out
   have D9:=DT.out _ TT
   have w34:=T4.out.size
   have j0:j=n0:=by omega
   have F1:So wr w.heap.size (.slice ia n0 ic) iss:=(SO.out.turn TB.out S3.out.here).mono (by have:=B3.out.size;have:=B2.out.size;omega)
   have F2:So wr w.heap.size (.slice va j vc) jss:=OB.out.mono (by have:=B3.out.size;have:=B2.out.size;omega)
   have F3:jss.length=n0:=by have:=OL.out;omega
   exact bodyPost_ret (v:=.tuple #[.slice ia n0 ic,.slice va j vc]) (by simp[results,Tryz.results14,go_sem]) rfl (by first|exact⟨_,iss,_,jss,rfl,F1,IL.out,F2,⟨F3,OF.out⟩,D9.2.1⟩|exact⟨_,_,rfl,iss,F1,IL.out,jss,F2,⟨F3,OF.out⟩,D9.2.1⟩|exact⟨_,iss,_,rfl,F1,IL.out,jss,F2,⟨F3,OF.out⟩,D9.2.1⟩)
theorem drawRP(hr:IsRow .u8 w a len cap zs):
  Calls Tryz.prog 13 #[.slice a len cap] w fun e w'=>∃v0 v1 v2 v3 P,e=.returned (.agg #[v0,v1,v2,v3])∧(pfV P=0∧∀o ∈ P.own,o.length≤3)∧Dv w' w.heap.size v0 v1 v2 v3 P∧Below w.heap.size w w':=by
 have HDR:=hid hr
 clear hr
 obtain⟨s0,hs0⟩:∃s,w.heap.size=s:=⟨_,rfl⟩
 have SE:=hid hs0
 go_enter Tryz.func13,Tryz.ntmps13
 go_wp2_with fail
 have A0:Hid (Below w.heap.size w (w.alloc (.cells #[.slice none 0 0,.slice none 0 0,.slice none 0 0,.slice none 0 0] 29))):=al (Below.refl _ _) _
 have R0:Hid (Bk (w.alloc (.cells #[.slice none 0 0,.slice none 0 0,.slice none 0 0,.slice none 0 0] 29)) s0 #[.slice none 0 0,.slice none 0 0,.slice none 0 0,.slice none 0 0] 29):=by show Bk _ _ _ _;rw[←hs0];exact Bk.new _ _ _
 try rw[hs0]
 generalize w.alloc (.cells #[.slice none 0 0,.slice none 0 0,.slice none 0 0,.slice none 0 0] 29)=W at*
 clear hs0
 refine(source_any (HDR.out.below A0.out)).mono ?_
 rintro e w1⟨rfl,b1,s1⟩
 have B1:=hid b1
 have S1:=hid s1
 clear b1 s1
 go_wp2_with fail
 refine(policy_right S1.out (by decide)).mono ?_
 rintro e w2⟨_,_,_,_,P,k2,rfl,pf,dv,hk2,t2,s2⟩
 obtain⟨a0,c0,a1,c1,a2,c2,a3,c3,e0,e1,e2,e3⟩:=dv.shape
 subst e0 e1 e2 e3
 obtain⟨n0,hn0⟩:∃n,P.own.length=n:=⟨_,rfl⟩
 obtain⟨n1,hn1⟩:∃n,P.lanes.length=n:=⟨_,rfl⟩
 obtain⟨n2,hn2⟩:∃n,P.bells.length=n:=⟨_,rfl⟩
 obtain⟨n3,hn3⟩:∃n,P.plan.length=n:=⟨_,rfl⟩
 rw[hn0,hn1,hn2,hn3]at dv ⊢
 have PF:=hid pf
 have LT:=R0.out.lt
 have DV:Hid (Dv w2 w.heap.size (.slice a0 n0 c0) (.slice a1 n1 c1) (.slice a2 n2 c2) (.slice a3 n3 c3) P):=dv.monoR (by have:=B1.out.size;have:=A0.out.size;omega)
 have DW:=hid dv
 have R2:Hid (Bk w2 s0 #[.slice none 0 0,.slice none 0 0,.slice none 0 0,.slice none 0 0] 29):=(R0.out.keep B1.out).turn t2 (by omega)
 have B2:Hid (Below w.heap.size w w2):=(on A0.out B1.out).trans (t2.below (by have:=A0.out.size;omega) (by have:=B1.out.size;have:=A0.out.size;omega))
 clear pf dv hk2 t2 s2 hn0 hn1 hn2 hn3 A0 R0 B1 LT
 have p0:=R2.out.cell (i:=0) rfl
 have p1:=R2.out.cell (i:=1) rfl
 have p2:=R2.out.cell (i:=2) rfl
 have p3:=R2.out.cell (i:=3) rfl
 have f0:=R2.out.free 0
 have f1:=R2.out.free 1
 have f2:=R2.out.free 2
 have f3:=R2.out.free 3
 go_wp2_with fail
 obtain⟨R9,KD⟩:=put4R (base:=w.heap.size) R2.out
 have D9:=KD DV.out
 have z0:=R9.cell (i:=0) rfl
 have z1:=R9.cell (i:=1) rfl
 have z2:=R9.cell (i:=2) rfl
 have z3:=R9.cell (i:=3) rfl
 have hle:w.heap.size≤s0:=by have:=SE.out;omega
 have B9:=(((B2.out.setCell (p:=⟨s0,0,none⟩) hle (.slice a0 n0 c0)).setCell (p:=⟨s0,1,none⟩) hle (.slice a1 n1 c1)).setCell (p:=⟨s0,2,none⟩) hle (.slice a2 n2 c2)).setCell (p:=⟨s0,3,none⟩) hle (.slice a3 n3 c3)
 exact bodyPost_ret (v:=.agg #[.slice a0 n0 c0,.slice a1 n1 c1,.slice a2 n2 c2,.slice a3 n3 c3]) (by simp[results,Tryz.results13,go_sem,z0,z1,z2,z3]) rfl ⟨_,_,_,_,P,rfl,PF.out,D9,B9⟩
theorem lw_policy(hr:IsRow .u8 w a len cap zs)(hlen:len≤1048576):
  Calls Tryz.prog 5 #[.slice a len cap] w fun e w'=>∃v0 v1 v2 v3 P v iss u jss,e=.returned (.tuple #[.agg #[v0,v1,v2,v3],v,u])∧pfV P=0∧Dv w' w.heap.size v0 v1 v2 v3 P∧So w' w.heap.size v iss∧(iss.length=P.own.length∧∀i,i<iss.length→(iss.getD i []).length≤(P.own.getD i []).length*8)∧So w' w.heap.size u jss∧(jss.length=P.own.length∧∀js ∈ jss,js=[5,6,7].take js.length)∧Below w.heap.size w w':=by
 have HDR:Hid (IsRow .u8 w a len cap zs∧len≤1048576):=⟨hr,hlen⟩
 clear hr hlen
 obtain⟨s0,hs0⟩:∃s,w.heap.size=s:=⟨_,rfl⟩
 have SE:=hid hs0
 go_enter Tryz.func5,Tryz.ntmps5
 go_wp2_with fail
 have A0:Hid (Below w.heap.size w (w.alloc (.cells #[.slice none 0 0,.slice none 0 0,.slice none 0 0,.slice none 0 0] 29))):=al (Below.refl _ _) _
 have R0:Hid (Bk (w.alloc (.cells #[.slice none 0 0,.slice none 0 0,.slice none 0 0,.slice none 0 0] 29)) s0 #[.slice none 0 0,.slice none 0 0,.slice none 0 0,.slice none 0 0] 29):=by show Bk _ _ _ _;rw[←hs0];exact Bk.new _ _ _
 try rw[hs0]
 generalize w.alloc (.cells #[.slice none 0 0,.slice none 0 0,.slice none 0 0,.slice none 0 0] 29)=W at*
 clear hs0
 refine(drawRP (HDR.out.1.below A0.out)).mono ?_
 rintro e w1⟨_,_,_,_,P,rfl,pf,dv,b1⟩
 obtain⟨a0,c0,a1,c1,a2,c2,a3,c3,e0,e1,e2,e3⟩:=dv.shape
 subst e0 e1 e2 e3
 obtain⟨n0,hn0⟩:∃n,P.own.length=n:=⟨_,rfl⟩
 obtain⟨n1,hn1⟩:∃n,P.lanes.length=n:=⟨_,rfl⟩
 obtain⟨n2,hn2⟩:∃n,P.bells.length=n:=⟨_,rfl⟩
 obtain⟨n3,hn3⟩:∃n,P.plan.length=n:=⟨_,rfl⟩
 rw[hn0,hn1,hn2,hn3]at dv ⊢
 have PF:Hid (pfV P=0∧P.own.length=n0∧(P.own.length≤4∧∀i,(P.own.getD i []).length≤3)):=⟨pf.1,hn0,by have:=(pf_parts P pf.1).1;omega,fun i=>by
  by_cases h:i<P.own.length
  ·rw[List.getD,List.getElem?_eq_getElem h];exact pf.2 _ (List.getElem_mem h)
  ·rw[List.getD,List.getElem?_eq_none (by omega)];exact Nat.zero_le _⟩
 have DW:=hid dv
 have B1:=hid b1
 have R1:=hid (R0.out.keep b1)
 have LT:Hid (s0<W.heap.size):=R0.out.lt
 obtain⟨s5,hs5⟩:∃s,w1.heap.size=s:=⟨_,rfl⟩
 generalize hX:w1.alloc (.cells #[.slice a0 n0 c0,.slice a1 n1 c1,.slice a2 n2 c2,.slice a3 n3 c3] 29)=X
 have AX:Hid (Below w1.heap.size w1 X):=by show Below _ _ _;rw[←hX];exact al (Below.refl _ _) _
 have QX:Hid (Bk X s5 #[.slice a0 n0 c0,.slice a1 n1 c1,.slice a2 n2 c2,.slice a3 n3 c3] 29):=by show Bk _ _ _ _;rw[←hX,←hs5];exact Bk.new _ _ _
 clear pf dv hn0 hn1 hn2 hn3 R0 b1
 go_upto_region 2 with fail
 try rw[hX]
 try rw[hs5]
 clear hX hs5
 have q0:=QX.out.cell (i:=0) rfl
 have q1:=QX.out.cell (i:=1) rfl
 have q2:=QX.out.cell (i:=2) rfl
 have q3:=QX.out.cell (i:=3) rfl
 go_wp2_with fail
 clear q0 q1 q2 q3
 refine(drawRI ((HDR.out.1.below (on A0.out B1.out)).below AX.out) HDR.out.2 W.heap.size _ _ _ _ _ _ _ _ _ _ _ _ P (DW.out.keep AX.out) PF.out.2.2 (on B1.out AX.out).size).mono ?_
 rintro e w2⟨v,iss,u,jss,rfl,so,il,su,jl,b2⟩
 obtain⟨ia,ic,ei,_,_,_⟩:=so.shape
 obtain⟨ja,jc,ej,_,_,_⟩:=su.shape
 rw[il.1]at ei
 rw[jl.1]at ej
 subst ei ej
 have hle:w.heap.size≤s0:=by have:=SE.out;omega
 have sz:=B1.out.size
 have sw:=A0.out.size
 have QX2:=hid (QX.out.keep b2)
 have sx:=AX.out.size
 have DV:Hid (Dv w2 w.heap.size (.slice a0 n0 c0) (.slice a1 n1 c1) (.slice a2 n2 c2) (.slice a3 n3 c3) P):=((DW.out.keep AX.out).keep b2).monoR (by omega)
 have I2:Hid (So w2 w.heap.size (.slice ia n0 ic) iss):=so.mono (by omega)
 have J2:Hid (So w2 w.heap.size (.slice ja n0 jc) jss):=su.mono (by omega)
 have FF:Hid (_∧_):=⟨il,jl⟩
 have R2:=hid ((R1.out.keep AX.out).keep b2)
 have B2:=hid (on (on (on A0.out B1.out) AX.out) b2)
 clear so su il jl b2 A0 R1 B1
 have q0:=QX2.out.cell (i:=0) rfl
 have q1:=QX2.out.cell (i:=1) rfl
 have q2:=QX2.out.cell (i:=2) rfl
 have q3:=QX2.out.cell (i:=3) rfl
 have p0:=R2.out.cell (i:=0) rfl
 have p1:=R2.out.cell (i:=1) rfl
 have p2:=R2.out.cell (i:=2) rfl
 have p3:=R2.out.cell (i:=3) rfl
 have f0:=R2.out.free 0
 have f1:=R2.out.free 1
 have f2:=R2.out.free 2
 have f3:=R2.out.free 3
 go_wp2_with fail
 obtain⟨R9,KD⟩:=put4R (base:=w.heap.size) R2.out
 have D9:=KD DV.out
 have so_put:=fun{v:Value} {oss:List (List Int)} (h:So w2 w.heap.size v oss)=>(KD (⟨h,Ls.nil _ _ _,Prs.nil _ _ _,Prs.nil _ _ _⟩:Dv w2 w.heap.size _ (.slice none 0 0) (.slice none 0 0) (.slice none 0 0) ⟨_,[],[],[]⟩)).own
 have z0:=R9.cell (i:=0) rfl
 have z1:=R9.cell (i:=1) rfl
 have z2:=R9.cell (i:=2) rfl
 have z3:=R9.cell (i:=3) rfl
 have hle:w.heap.size≤s0:=by have:=SE.out;omega
 have B9:=(((B2.out.setCell (p:=⟨s0,0,none⟩) hle (.slice a0 n0 c0)).setCell (p:=⟨s0,1,none⟩) hle (.slice a1 n1 c1)).setCell (p:=⟨s0,2,none⟩) hle (.slice a2 n2 c2)).setCell (p:=⟨s0,3,none⟩) hle (.slice a3 n3 c3)
 have e1:n0=P.own.length:=PF.out.2.1.symm
 exact bodyPost_ret (v:=.tuple #[.agg #[.slice a0 n0 c0,.slice a1 n1 c1,.slice a2 n2 c2,.slice a3 n3 c3],.slice ia n0 ic,.slice ja n0 jc]) (by simp[results,Tryz.results5,go_sem,z0,z1,z2,z3]) rfl ⟨_,_,_,_,P,_,iss,_,jss,rfl,PF.out.1,D9,so_put I2.out,by rw[←e1];exact FF.out.1,so_put J2.out,by rw[←e1];exact FF.out.2,B9⟩
end Go.Proofs.YtignbeibcakgpaaGreatDoor
