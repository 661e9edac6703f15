import Derived.Test.YtignbeibcakgpaaGreatDoorQ37
import Derived.Test.YtignbeibcakgpaaGreatDoorQ49
namespace Go.Proofs.YtignbeibcakgpaaGreatDoor
set_option maxRecDepth 20000
set_option maxHeartbeats 16000000
open Go.RowKit
set_option linter.unusedVariables false
theorem lane_first:∀(ls:List Ln),LnsOk ls→∀l ∈ ls,firstM l.fr l.af ls=(l.pg,3)∧firstM l.dst l.tt ls=(l.pg,1)
 | [],_,l,h=>by cases h
 |o::t,hk,l,h=>by
  obtain⟨k1,k2⟩:=hk
  have hp:=List.pairwise_cons.1 k2
  have ht:LnsOk t:=⟨fun x hx=>k1 x (List.mem_cons_of_mem _ hx),hp.2⟩
  rcases List.mem_cons.1 h with rfl|h
  ·have ok:=k1 l (by simp)
   have hne:¬l.fr=l.dst:=ok.1
   rw[firstM,firstM]
   unfold matchL
   rw[if_pos ⟨rfl,rfl⟩,if_neg (fun e=>hne e.1),if_pos ⟨rfl,rfl⟩]
   exact⟨rfl,rfl⟩
  ·obtain⟨u1,u2⟩:=hp.1 l h
   unfold usesV at u1 u2
   simp at u1 u2
   have m1:matchL l.fr l.af o=none:=by unfold matchL;rw[if_neg (fun e=>u1.1 e.1 e.2),if_neg (fun e=>u1.2 e.1 e.2)]
   have m2:matchL l.dst l.tt o=none:=by unfold matchL;rw[if_neg (fun e=>u2.1 e.1 e.2),if_neg (fun e=>u2.2 e.1 e.2)]
   rw[firstM,firstM,m1,m2]
   exact lane_first t ht l h
theorem eight_gt(ms:List Int)(p i:Nat)(hi:i<8):(eight ms p).getD i 0=ms.getD (p*8+i) 0:=by
 unfold eight
 rw[List.getD,List.getD,List.getElem?_take,if_pos hi,List.getElem?_drop]
theorem at_getD{l:List Int}{i:Nat}(h:i<l.length):l.getD i 0=l[i]:=by rw[List.getD,List.getElem?_eq_getElem h];rfl
theorem whole_of{Z:List Int}(l:Z.length=64)(w:Z.all isW=true):wholeS Z=true:=by
 have m:memV Z=0:=by
  unfold memV
  rw[if_pos (by rw[l];decide),if_pos w]
 unfold wholeS
 rw[l,m]
 rfl
variable{ps:List (Int×Int)}{ms:List Int}
theorem see_at(hm:ms.length=192)(hp:∀k,k<8→(ps.getD k (0,0)).1= -1∨(0≤(ps.getD k (0,0)).1∧(ps.getD k (0,0)).1≤23)):∀k,k≤8→∀t i,i<8→(seeS ps ms k).getD (t*8+i) 0=if t<k∧0≤(ps.getD t (0,0)).1 then ms.getD ((ps.getD t (0,0)).1.toNat*8+i) 0 else 0
 |0,_,t,i,hi=>by
  rw[if_neg (by omega),seeS,List.getD,List.getElem?_replicate]
  split<;>rfl
 |k+1,hk,t,i,hi=>by
  have ih:=see_at hm hp k (by omega) t i hi
  rw[seeS]
  split
  ·rename_i h0
   have h1:=hp k (by omega)
   rw[fz_at _ k _ (seeS_len ps ms hm hp k (by omega)) (by omega) (eight_length ms 24 _ (by omega) (by omega))]
   by_cases e:t=k
   ·subst e
    rw[if_pos ⟨by omega,by omega⟩,if_pos ⟨by omega,h0⟩,show t*8+i-t*8=i by omega,eight_gt _ _ _ hi]
   ·rw[if_neg (by omega),ih]
    by_cases f:t<k∧0≤(ps.getD t (0,0)).1
    ·rw[if_pos f,if_pos ⟨by omega,f.2⟩]
    ·rw[if_neg f,if_neg (fun g=>f ⟨by omega,g.2⟩)]
  ·rename_i h0
   rw[ih]
   by_cases e:t=k
   ·subst e
    rw[if_neg (by omega),if_neg (fun g=>h0 g.2)]
   ·by_cases f:t<k∧0≤(ps.getD t (0,0)).1
    ·rw[if_pos f,if_pos ⟨by omega,f.2⟩]
    ·rw[if_neg f,if_neg (fun g=>f ⟨by omega,g.2⟩)]
theorem see_page(hm:ms.length=192)(hp:∀k,k<8→(ps.getD k (0,0)).1= -1∨(0≤(ps.getD k (0,0)).1∧(ps.getD k (0,0)).1≤23))(t:Nat)(ht:t<8)(h0:0≤(ps.getD t (0,0)).1):eight (seeS ps ms 8) t=eight ms (ps.getD t (0,0)).1.toNat:=by
 have h1:=hp t ht
 have l1:=eight_length (seeS ps ms 8) 8 t (seeS_len ps ms hm hp 8 (Nat.le_refl _)) ht
 have l2:=eight_length ms 24 (ps.getD t (0,0)).1.toNat hm (by omega)
 apply List.ext_getElem (by rw[l1,l2])
 intro i k1 k2
 rw[←at_getD k1,←at_getD k2,eight_gt _ _ _ (by omega),eight_gt _ _ _ (by omega),see_at hm hp 8 (Nat.le_refl _) t i (by omega),if_pos ⟨ht,h0⟩]
theorem see_words(hm:ms.length=192)(hw:ms.all isW=true)(hp:∀k,k<8→(ps.getD k (0,0)).1= -1∨(0≤(ps.getD k (0,0)).1∧(ps.getD k (0,0)).1≤23)):(seeS ps ms 8).all isW=true:=by
 refine List.all_eq_true.2 fun x hx=>?_
 obtain⟨n,hn,e⟩:=List.mem_iff_getElem.1 hx
 have e1:(seeS ps ms 8).getD n 0=x:=by rw[List.getD,List.getElem?_eq_getElem hn,e];rfl
 have h:=see_at hm hp 8 (Nat.le_refl _) (n/8) (n%8) (Nat.mod_lt _ (by decide))
 rw[show n/8*8+n%8=n by omega,e1]at h
 rw[h]
 split
 ·have:=all_at hw ((ps.getD (n/8) (0,0)).1.toNat*8+n%8)
  unfold isW
  simp
  exact this
 ·rfl
theorem solo_from_ok{X:Hst}(hv:hoV X=0){g:Int}(hg:isG X.pol.own.length g=true):frC X g=0∧sfV (frH X g) (frP X g) (frZ X g)=0∧∀t,t<8→0≤((pforL (X.pol.own.getD g.toNat []) X.pol.lanes g 8).getD t (0,0)).1→swZ (frH X g) (frP X g) (frZ X g) (t:Int)=eight X.mem ((pforL (X.pol.own.getD g.toNat []) X.pol.lanes g 8).getD t (0,0)).1.toNat:=by
 obtain⟨k,rfl⟩:=Int.eq_ofNat_of_zero_le ((isG_iff _ _).1 hg).1
 have z:=hoz_of hv
 have F:=fok_of hv hg
 have c:frC X (k:Int)=0:=by unfold frC;rw[if_pos hv,if_pos hg]
 obtain⟨e1,e2,e3⟩:=fr_yes X _ c
 rw[Int.toNat_natCast]at e1 e2 e3 ⊢
 have hp:=F.to_
 have s:sfV (frH X k) (frP X k) (frZ X k)=0:=by
  rw[e1,e2,e3]
  unfold sfV
  have h2:pgsV (aloL (pforL (X.pol.own.getD k []) X.pol.lanes (k:Int) 8)) 8=0:=pgsV_ok (by decide) (by decide) (aloL_len _) fun i hi=>by
   have K:=pageV_kinds (X.pol.own.getD k []) X.pol.lanes (k:Int) i
   rw[←pforL_at _ _ _ i hi]at K
   rw[aloL_at _ i hi]
   unfold aloV
   split
   ·rfl
   ·exact pgC_ok ⟨by omega,by omega,K.1,K.2⟩ fun f=>by have:=f.1;omega
  have h3:=whole_of (seeS_len _ X.mem z.ml hp 8 (Nat.le_refl _)) (see_words z.ml z.mw hp)
  rw[if_pos (hfV_ok F.hk),if_pos h2,if_pos h3]
 refine⟨c,s,fun t ht h0=>?_⟩
 have sw:swC (frH X k) (frP X k) (frZ X k) (t:Int)=0:=by unfold swC;rw[if_pos s,if_pos ⟨by omega,by omega⟩]
 unfold swZ
 rw[if_pos sw,wordsL,wordsL,List.append_nil,Int.toNat_natCast,e3]
 exact see_page z.ml hp t ht h0
theorem lane_words{X:Hst}(hv:hoV X=0){i:Nat}(hi:i<X.pol.lanes.length):lwordsC X.pol X.mem (i:Int)=0∧
  swZ (frH X (X.pol.lanes.getD i lz).dst) (frP X (X.pol.lanes.getD i lz).dst) (frZ X (X.pol.lanes.getD i lz).dst) (X.pol.lanes.getD i lz).tt=lwordsZ X.pol X.mem (i:Int)∧
  swZ (frH X (X.pol.lanes.getD i lz).fr) (frP X (X.pol.lanes.getD i lz).fr) (frZ X (X.pol.lanes.getD i lz).fr) (X.pol.lanes.getD i lz).af=lwordsZ X.pol X.mem (i:Int):=by
 have z:=hoz_of hv
 have hw:wholeB X.mem=true:=by
  have m:memV X.mem=0:=by
   unfold memV
   rw[if_pos (by rw[z.ml];decide),if_pos z.mw]
  unfold wholeB;simp[z.ml,m]
 have c:lwordsC X.pol X.mem (i:Int)=0:=by unfold lwordsC;rw[if_pos z.pf,if_pos ⟨by omega,by omega⟩,if_pos hw]
 have m:X.pol.lanes.getD i lz ∈ X.pol.lanes:=by rw[List.getD,List.getElem?_eq_getElem hi];exact List.getElem_mem hi
 obtain⟨l,hl⟩:∃l,X.pol.lanes.getD i lz=l:=⟨_,rfl⟩
 rw[hl]at m ⊢
 have e:lwordsZ X.pol X.mem (i:Int)=eight X.mem l.pg.toNat:=by
  unfold lwordsZ
  rw[if_pos c,wordsL,wordsL,List.append_nil,Int.toNat_natCast,hl]
 have L:=pf_lanes X.pol z.pf
 obtain⟨f1,f2⟩:=lane_first _ L l m
 have ok:=L.1 l m
 have en:=lanes_ends _ _ _ (pf_parts X.pol z.pf).2.2.1 l m
 have pg:=flanes_pg _ _ _ (pf_parts X.pol z.pf).2.2.1 l m
 have key:∀(g k:Int) (n:Int),isG X.pol.own.length g=true→5≤k∧k≤6→firstM g k X.pol.lanes=(l.pg,n)→swZ (frH X g) (frP X g) (frZ X g) k=eight X.mem l.pg.toNat:=fun g k n hg hk hf=>by
  obtain⟨t,rfl⟩:=Int.eq_ofNat_of_zero_le (show 0≤k by omega)
  obtain⟨g,rfl⟩:=Int.eq_ofNat_of_zero_le ((isG_iff _ _).1 hg).1
  have o5:=pf_own X.pol z.pf g (by have:=(isG_iff _ _).1 hg;omega)
  have e1:(pforL (X.pol.own.getD ((g:Int)).toNat []) X.pol.lanes (g:Int) 8).getD t (0,0)=(l.pg,n):=by
   rw[Int.toNat_natCast,pforL_at _ _ _ t (by omega)]
   unfold pageV
   rw[if_neg (by omega)]
   exact hf
  have S:=(solo_from_ok hv hg).2.2 t (by omega) (by rw[e1];exact pg.1)
  rw[e1]at S
  exact S
 exact⟨c,by rw[e];exact key _ _ _ en.2 ok.2.2 f2,by rw[e];exact key _ _ _ en.1 ok.2.1 f1⟩
theorem w_isW(x:Int):isW (wd x)=true:=by
 have:=wd_in x
 simp[isW]
 omega
theorem lay_words(ow img:List Int){m:List Int}(h:m.all isW=true):∀n,(layM ow img m n).all isW=true
 |0=>h
 |n+1=>by
  rw[layM,putW]
  have ih:=lay_words ow img h n
  rw[List.all_eq_true]at ih ⊢
  intro y hy
  rcases List.mem_or_eq_of_mem_set hy with hy|rfl
  ·exact ih y hy
  ·exact w_isW _
theorem all_words(own iss:List (List Int)){m:List Int}(h:m.all isW=true):∀n,(allM own iss m n).all isW=true
 |0=>h
 |n+1=>by rw[allM];exact lay_words _ _ (all_words own iss h n) _
theorem load_fits{P:Plc}{iss:List (List Int)}(pf:pfV P=0)(il:iss.length=P.own.length∧∀i,i<iss.length→(iss.getD i []).length≤(P.own.getD i []).length*8):loadC P iss=0:=by
 unfold loadC imgC
 rw[if_pos pf,if_pos il.1]
 refine sizes_good _ _ _ fun j hj=>?_
 have:=il.2 j hj
 unfold badAt
 simp only[decide_eq_false_iff_not]
 omega
theorem new_five{z:List Int}(h:z=[5,6,7].take z.length):(newR z).1=0∧Hok (newV z):=by
 have hl:z.length≤3:=by rw[h,List.length_take];exact Nat.min_le_right _ _
 have hw:z.all isW=true:=by
  have:z.length=0∨z.length=1∨z.length=2∨z.length=3:=by omega
  rcases this with e|e|e|e<;>(rw[e]at h;rw[h];decide)
 unfold newR
 rw[if_neg (by omega),if_pos hw]
 exact⟨rfl,⟨rfl,rfl,rfl,by show(List.replicate 16 (0:Int)).all isW=true;decide,by show isW 0=true;decide,by show(List.replicate 11 (0:Int)).all isW=true;decide,hw,rfl,by show z.length≤40;omega,by show(0:Nat)≤40;decide,by show(0:Int)≤0;decide,by show(0:Int)≤1000000000;decide,by show standC (List.replicate 11 0)=true;decide⟩⟩
theorem nh_five:∀jss:List (List Int),(∀js ∈ jss,js=[5,6,7].take js.length)→nhC jss=0
 | [],_=>rfl
 |z::t,h=>by
  rw[nhC,if_pos (new_five (h z (by simp))).1]
  exact nh_five t fun js hj=>h js (by simp[hj])
theorem boot_right{P:Plc}{iss jss:List (List Int)}(pf:pfV P=0)(il:iss.length=P.own.length∧∀i,i<iss.length→(iss.getD i []).length≤(P.own.getD i []).length*8)(jl:jss.length=P.own.length∧∀js ∈ jss,js=[5,6,7].take js.length):bhC P iss jss=0∧(bhX P iss jss).pol=P∧(bhX P iss jss).clock=0∧hoV (bhX P iss jss)=0:=by
 have lc:=load_fits pf il
 have c:bhC P iss jss=0:=by unfold bhC;rw[if_pos lc,if_pos jl.1];exact nh_five _ jl.2
 have e:=bh_yes P iss jss c
 rw[e]
 have ez:loadZ P iss=allM P.own iss (List.replicate 192 0) iss.length:=by unfold loadZ;rw[if_pos lc]
 refine⟨c,rfl,rfl,ho_make pf ?_ ?_ ?_ ?_ (Int.le_refl _) (by show(0:Int)≤1000000;decide) (tS_zero pf)⟩
 ·show(loadZ P iss).length=192
  rw[ez,allM_len,List.length_replicate]
 ·show(loadZ P iss).all isW=true
  rw[ez]
  exact all_words _ _ (List.all_eq_true.2 fun x hx=>by rw[List.eq_of_mem_replicate hx];rfl) _
 ·show(jss.map newV).length=P.own.length
  rw[List.length_map]
  exact jl.1
 ·intro H hH
  obtain⟨z,hz,rfl⟩:=List.mem_map.1 hH
  exact(new_five (jl.2 z hz)).2
theorem So.swN{w:World}{base n c:Nat}{a:Option Addr}{oss:List (List Int)}(h:So w base (.slice a n c) oss):SwN w base a n c oss:=by
 obtain⟨xs,h0,h1,h2⟩:=h
 have h1':=h1
 obtain⟨k1,⟨hv,k3⟩|⟨g,c,cur,hv,_,_,k4,k5,_⟩⟩:=h1
 ·cases hv
  exact .inl ⟨rfl,rfl,rfl,List.eq_nil_of_length_eq_zero (by omega)⟩
 ·cases hv
  refine .inr ⟨g,rfl,k4,k5,rfl,fun i hi=>?_⟩
  have hc:=World.ownsRow.cellAt h1' i (by omega)
  have hx:=h2 i hi
  obtain⟨a',cap',hs,_⟩:=hx.shape
  refine⟨a',_,cap',?_,by rw[hs]at hx;exact hx⟩
  rw[hc,←hs,List.getD,List.getElem?_eq_getElem (by omega)]
  rfl
theorem owe_oj{w:World}{base:Nat}{a0 a1 a2 a3 a4 a5:Option Addr}{n0 n1 n2 n3 n4 n5 c0 c1 c2 c3 c4 c5:Nat}{X:Hst}(h:OwE w base (.slice a0 n0 c0) (.slice a1 n1 c1) (.slice a2 n2 c2) (.slice a3 n3 c3) (.slice a4 n4 c4) (.slice a5 n5 c5) X):Oj w base a0 n0 c0 a1 n1 c1 a2 n2 c2 a3 n3 c3 (.slice a4 n4 c4) (.slice a5 n5 c5) X:=by
 obtain⟨xs,qs,h⟩:=h
 have so:So w base (.slice a0 n0 c0) X.pol.own:=by
  refine⟨xs,h.xl,by rw[←h.xl];exact h.own,fun i hi=>h.rows i _ ?_⟩
  rw[List.getD,List.getElem?_eq_getElem (by rw[h.xl];exact hi)]
  rfl
 have ap:=(List.pairwise_cons.1 (List.pairwise_append.1 h.apart).2.1).2
 have hap:=(List.pairwise_flatMap.1 ap).1
 refine⟨⟨so.read,h.lanes.read,h.bells.read,h.plan.read⟩,h.mem,?_⟩
 have h':=h.harts
 have hq:=h.qh
 rw[←hq]
 obtain⟨_,⟨h2,h3⟩|⟨g,cap,cur,hv,hg,_,hc,hm,_⟩⟩:=h.harts
 ·exact .inl ⟨h2,by rw[List.length_eq_zero_iff.1 h3];rfl⟩
 ·rw[hv]
  rw[hv]at h'
  refine .inr ⟨g,cap,by rw[List.length_map],by rw[List.length_map];exact hc,hm,hg,fun k hk=>?_⟩
  rw[List.length_map]at hk
  rw[snd_getD qs k hk]
  have m:=getD_memQ qs k hk
  have p:=hap _ m
  simp only[V4.l,List.pairwise_cons,List.mem_cons,List.not_mem_nil,or_false,forall_eq_or_imp,forall_eq]at p
  exact⟨_,_,_,_,row_hc h' rfl k hk,h.lists _ m,⟨p.1.1,p.1.2.1,p.1.2.2,p.2.1.1,p.2.1.2,p.2.2.1⟩⟩
theorem i_soloGood(a0 a1 a2 a3:Option Addr)(n0 c0 n1 c1 n2 c2 n3 c3:Nat)(m h:Value)(X:Hst)(gu:Int)(b:Nat)(w:World)(d:Oj w b a0 n0 c0 a1 n1 c1 a2 n2 c2 a3 n3 c3 m h X)(hg:w.cell? ⟨0,0,none⟩=some (.iface 240 (.agg #[.pointer (some ⟨2,134,none⟩)])))(hv:hoV X=0)(hgu:isG X.pol.own.length gu=true):
  Calls Tryz.prog 10 #[.agg #[.slice a0 n0 c0,.slice a1 n1 c1,.slice a2 n2 c2,.slice a3 n3 c3,m,h,.int .i64 X.slot,.int .i64 X.left,.int .i64 X.clock],.int .i64 gu] w fun e w'=>∃a0 a1 a2 a3 a4 a5 n0 n1 n2 n3 n4 n5 c0 c1 c2 c3 c4 c5,e=.returned (.agg #[.int .i64 0,.slice a0 n0 c0,.int .i64 (frH X gu).pc,.slice a1 n1 c1,.bool (frH X gu).halted,.bool (frH X gu).waiting,.bool (frH X gu).rung,.int .i64 (frH X gu).done,.slice a2 n2 c2,.slice a3 n3 c3,.slice a4 n4 c4,.slice a5 n5 c5])∧Sm w' w.heap.size (.slice a0 n0 c0) (.slice a1 n1 c1) (.slice a2 n2 c2) (.slice a3 n3 c3) (.slice a4 n4 c4) (.slice a5 n5 c5) (frH X gu) (frP X gu) (frZ X gu)∧Below w.heap.size w w':=by
 obtain⟨g,rfl⟩:=Int.eq_ofNat_of_zero_le ((isG_iff _ _).1 hgu).1
 refine(ifr_good _ _ _ _ _ _ _ _ _ _ _ _ m h X g b w d hg hv hgu).mono ?_
 rintro e w'⟨r,c,i,o,l,mm,rfl,s,bb⟩
 obtain⟨_,_,e0,_⟩:=s.h.r.shape
 obtain⟨_,_,e1,_⟩:=s.h.c.shape
 obtain⟨_,_,e2,_⟩:=s.h.i.shape
 obtain⟨_,_,e3,_⟩:=s.h.o.shape
 obtain⟨_,_,e4,_⟩:=s.pl.shape
 obtain⟨_,_,e5,_⟩:=s.mm.shape
 subst e0 e1 e2 e3 e4 e5
 rw[(solo_from_ok hv hgu).1]
 exact⟨_,_,_,_,_,_,_,_,_,_,_,_,_,_,_,_,_,_,rfl,s,bb⟩
end Go.Proofs.YtignbeibcakgpaaGreatDoor
