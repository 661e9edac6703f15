import Derived.Test.YtignbeibcakgpaaGreatDoorQ09
namespace Go.Proofs.YtignbeibcakgpaaGreatDoor
set_option maxRecDepth 20000
set_option maxHeartbeats 16000000
open Go.RowKit
set_option linter.unusedVariables false
def PolAt(w:World)(q:Nat)(P:Plc):Prop:=
 ∃a0 n0 c0 a1 n1 c1 a2 n2 c2 a3 n3 c3,w.cell? ⟨q,0,none⟩=some (.slice a0 n0 c0)∧w.cell? ⟨q,1,none⟩=some (.slice a1 n1 c1)∧w.cell? ⟨q,2,none⟩=some (.slice a2 n2 c2)∧w.cell? ⟨q,3,none⟩=some (.slice a3 n3 c3)∧
  Pl w a0 n0 c0 a1 n1 c1 a2 n2 c2 a3 n3 c3 P
theorem PolAt.stay{w w':World}{q:Nat}{P:Plc}(h:PolAt w q P)(b:Below w.heap.size w w'):PolAt w' q P:=by
 obtain⟨a0,n0,c0,a1,n1,c1,a2,n2,c2,a3,n3,c3,h0,h1,h2,h3,h4⟩:=h
 exact⟨a0,n0,c0,a1,n1,c1,a2,n2,c2,a3,n3,c3,cell_keep b h0,cell_keep b h1,cell_keep b h2,cell_keep b h3,h4.stay b⟩
theorem l1_in(z a b:Int)(w:World):Calls Tryz.prog 82 #[.int .i64 z,.int .i64 a,.int .i64 b] w fun e w'=>e=.returned (.bool (decide (a≤z)&&decide (z≤b)))∧w'=w:=by
 by_cases h:a≤z
 ·go_enter Tryz.func82,Tryz.ntmps82
  go_wp2
  go_ret
  exact⟨by simp[h],rfl⟩
 ·go_enter Tryz.func82,Tryz.ntmps82
  go_wp2
  go_ret
  exact⟨by simp;omega,rfl⟩
theorem l1_pg(z:Int)(w:World):Calls Tryz.prog 82 #[.int .i64 z,.int .i64 0,.int .i64 23] w fun e w'=>e=.returned (.bool (pgOk z))∧w'=w:=l1_in z 0 23 w
theorem mem_drop_step(zs:List Int)(x:Int)(j:Nat)(h:j<zs.length):(x ∈ zs.drop j)↔(zs.getD j 0=x∨x ∈ zs.drop (j+1)):=by
 rw[drop_cons_getD zs 0 j h,List.mem_cons]
 constructor
 ·rintro(h|h)
  ·exact .inl h.symm
  ·exact .inr h
 ·rintro(h|h)
  ·exact .inl h.symm
  ·exact .inr h
theorem l1_has(a:Option Addr)(len cap:Nat)(x:Int)(zs:List Int)(w:World)(h:IsNs w a len cap zs):
  Calls Tryz.prog 83 #[.slice a len cap,.int .i64 x] w fun e w'=>e=.returned (.bool (decide (x ∈ zs)))∧w'=w:=by
 have HR:=hid h
 have hmax:(len:Int)≤9223372036854775807:=by have:=h.cap;unfold maxLen at this;omega
 have HL:Hid (len=zs.length):=h.len
 clear h
 go_enter Tryz.func83,Tryz.ntmps83
 go_wp2_with fail
 go_loop [5] (fun c=>∃j:Nat,j≤len∧c=.int .i64 j∧Hid ((x ∈ zs)↔(x ∈ zs.drop j))) (fun c=>len-(intOf c).toNat)
 case atStart=>exact⟨0,Nat.zero_le _,rfl,by show _↔_;simp⟩
 case round=>
  obtain⟨j,hj,rfl,hI⟩:=hrel
  by_cases hlt:j<len
  ·rcases HR.out with⟨_,h1,_,_⟩|⟨y,rfl,h1,h2,h3,h4⟩
   ·omega
   have c0:=h4 j hlt
   have hJ:(j:Int)<(len:Int):=by omega
   have HLT:=hid hlt
   have ST:Hid (_↔_):=mem_drop_step zs x j (by have:=HL.out;omega)
   clear h1 h2 h3 h4
   generalize hz:zs.getD j 0=z at*
   clear hz
   clear hlt
   by_cases hx:z=x
   ·go_wp2_with fail
    go_ret
    refine⟨?_,rfl⟩
    have:x ∈ zs:=hI.out.2 (ST.out.2 (.inl hx))
    simp[this]
   ·have HX:Hid (¬z=x):=hx
    go_wp2_with fail
    go_round
    case rel=>
     refine⟨j+1,by have:=HLT.out;omega,by go_num,?_⟩
     show _↔_
     rw[hI.out,ST.out]
     have:=HX.out
     simp[this]
    case measure=>have:=HLT.out;simp[intOf];omega
  ·have hJ:¬(j:Int)<(len:Int):=by omega
   have HJ:Hid (j=len):=by show _=_;omega
   clear hlt
   go_wp2_with fail
   go_ret
   refine⟨?_,rfl⟩
   have e:=hI.out
   rw[List.drop_of_length_le (by have:=HL.out;have:=HJ.out;omega)]at e
   simp at e
   simp[e]
theorem l6_guest(q:Nat)(g:Int)(P:Plc)(w:World)(h:PolAt w q P):
  Calls Tryz.prog 111 #[.pointer (some ⟨q,0,none⟩),.int .i64 g] w fun e w'=>e=.returned (.bool (isG P.own.length g))∧w'=w:=by
 obtain⟨a0,n0,c0,a1,n1,c1,a2,n2,c2,a3,n3,c3,h0,h1,h2,h3,h4⟩:=h
 have HL:Hid (n0=P.own.length):=h4.own.len
 have hmax:(n0:Int)≤9223372036854775807:=by have:=h4.own.cap;unfold maxLen at this;omega
 clear h1 h2 h3 h4
 go_enter Tryz.func111,Tryz.ntmps111
 go_wp2_with (go_at_call 82;refine(l1_in _ _ _ _).mono ?_;rintro e x ⟨rfl,rfl⟩)
 go_ret
 rw[isG,←HL.out]
 exact⟨rfl,rfl⟩
theorem l6_owner(q:Nat)(pg:Int)(P:Plc)(w:World)(h:PolAt w q P):
  Calls Tryz.prog 85 #[.pointer (some ⟨q,0,none⟩),.int .i64 pg] w fun e w'=>e=.returned (.int .i64 (ownerFrom 0 P.own pg))∧w'=w:=by
 obtain⟨a0,n0,c0,a1,n1,c1,a2,n2,c2,a3,n3,c3,h0,h1,h2,h3,h4⟩:=h
 have HL:Hid (n0=P.own.length):=h4.own.len
 have HO:Hid (IsS2 w a0 n0 c0 P.own):=h4.own
 have hmax:(n0:Int)≤9223372036854775807:=by have:=h4.own.cap;unfold maxLen at this;omega
 clear h1 h2 h3 h4
 go_enter Tryz.func85,Tryz.ntmps85
 go_wp2_with fail
 go_loop [5] (fun c=>∃j:Nat,j≤n0∧c=.int .i64 j∧Hid (ownerFrom 0 P.own pg=ownerFrom j (P.own.drop j) pg)) (fun c=>n0-(intOf c).toNat)
 case atStart=>exact⟨0,Nat.zero_le _,rfl,by show _=_;simp⟩
 case round=>
  obtain⟨j,hj,rfl,hI⟩:=hrel
  by_cases hlt:j<n0
  ·obtain⟨x,b,l,c,rfl,k1,k2⟩:=HO.out.at j hlt
   have HN:Hid (IsNs w b l c _):=k2
   have hJ:(j:Int)<(n0:Int):=by omega
   have HLT:=hid hlt
   have ST:Hid (_=_):=owner_step P.own pg j (by have:=HL.out;omega)
   clear k2 hlt
   by_cases hx:pg ∈ P.own.getD j []
   ·have HX:Hid (pg ∈ P.own.getD j []):=hx
    have hd:decide (pg ∈ P.own.getD j [])=true:=decide_eq_true hx
    clear hx
    go_wp2_with (go_at_call 83;refine(l1_has _ _ _ _ _ _ HN.out).mono ?_;rintro e x ⟨rfl,rfl⟩;rw[hd])
    go_ret
    rw[hI.out,ST.out,if_pos HX.out]
    exact⟨rfl,rfl⟩
   ·have HX:Hid (¬pg ∈ P.own.getD j []):=hx
    have hd:decide (pg ∈ P.own.getD j [])=false:=decide_eq_false hx
    clear hx
    go_wp2_with (go_at_call 83;refine(l1_has _ _ _ _ _ _ HN.out).mono ?_;rintro e x ⟨rfl,rfl⟩;rw[hd])
    go_round
    case rel=>
     refine⟨j+1,by have:=HLT.out;omega,by go_num,?_⟩
     show _=_
     rw[hI.out,ST.out,if_neg HX.out]
    case measure=>have:=HLT.out;simp[intOf];omega
  ·have hJ:¬(j:Int)<(n0:Int):=by omega
   have HJ:Hid (j=n0):=by show _=_;omega
   clear hlt
   go_wp2_with fail
   go_ret
   rw[hI.out,List.drop_of_length_le (by have:=HL.out;have:=HJ.out;omega)]
   exact⟨rfl,rfl⟩
theorem l6_at(l:Ln)(g p:Int)(w:World):Calls Tryz.prog 86 #[.agg #[.int .i64 l.fr,.int .i64 l.dst,.int .i64 l.pg,.int .i64 l.af,.int .i64 l.tt],.int .i64 g,.int .i64 p] w fun e w'=>e=.returned (.bool (usesV l g p))∧w'=w.alloc (.cells #[.int .i64 l.fr,.int .i64 l.dst,.int .i64 l.pg,.int .i64 l.af,.int .i64 l.tt] 42):=by
 obtain⟨a,b,c,d,z⟩:=l
 unfold usesV
 simp only
 have e0:∀x:Bool,decide (a=g∧d=p∨b=g∧z=p)=x→True:=fun _ _=>trivial
 by_cases h1:a=g<;>by_cases h2:d=p<;>by_cases h3:b=g<;>by_cases h4:z=p<;>
  (go_enter Tryz.func86,Tryz.ntmps86
   go_wp2_with fail
   go_ret
   exact⟨by simp[h1,h2,h3,h4],by first|rfl|simp[h1,h2,h3,h4]⟩)
theorem l6_ends(q:Nat)(f t:Int)(P:Plc)(w:World)(h:PolAt w q P):
  Calls Tryz.prog 84 #[.pointer (some ⟨q,0,none⟩),.int .i64 f,.int .i64 t] w fun e w'=>e=.returned (.int .i64 (endsV P.own.length f t))∧w'=w:=by
 have HP:=hid h
 clear h
 unfold endsV
 by_cases h1:isG P.own.length f=true
 ·by_cases h2:isG P.own.length t=true
  ·rw[if_neg (by simp[h1,h2])]
   by_cases h3:f=t
   ·rw[if_pos h3]
    go_enter Tryz.func84,Tryz.ntmps84
    go_wp2_with (go_at_call 111;refine(l6_guest _ _ P _ HP.out).mono ?_;rintro e x ⟨rfl,rfl⟩;first|rw[h1]|rw[h2])
    go_ret
    exact⟨rfl,rfl⟩
   ·rw[if_neg h3]
    go_enter Tryz.func84,Tryz.ntmps84
    go_wp2_with (go_at_call 111;refine(l6_guest _ _ P _ HP.out).mono ?_;rintro e x ⟨rfl,rfl⟩;first|rw[h1]|rw[h2])
    go_ret
    exact⟨rfl,rfl⟩
  ·rw[Bool.not_eq_true]at h2
   rw[if_pos (.inr h2)]
   go_enter Tryz.func84,Tryz.ntmps84
   go_wp2_with (go_at_call 111;refine(l6_guest _ _ P _ HP.out).mono ?_;rintro e x ⟨rfl,rfl⟩;first|rw[h1]|rw[h2])
   go_ret
   exact⟨rfl,rfl⟩
 ·rw[Bool.not_eq_true]at h1
  rw[if_pos (.inl h1)]
  go_enter Tryz.func84,Tryz.ntmps84
  go_wp2_with (go_at_call 111;refine(l6_guest _ _ P _ HP.out).mono ?_;rintro e x ⟨rfl,rfl⟩;rw[h1])
  go_ret
  exact⟨rfl,rfl⟩
theorem wp_appn{ops:Array Oper}{rest:List Oper}{o:Oper}{act:Act}{Q:Exit→Act→World→Prop}(w:World)(hgd:o.guard=none)(s x:Operand)
  (ho:o.op=.call { callee:=.builtin .append,args:=#[s,x],argTypes:=#[32,32]}) (base:Nat) (v:Value) (zs:List Int) (hs:act.eval s=v) (hN:Nums w base v zs)
  (B m c:Nat) (ys:List Int) (hx:act.eval x=.slice (some ⟨B,0,none⟩) m c) (hy:ys.length=m) (hc:∀i,i<m→w.cell? ⟨B,i,none⟩=some (.int .i64 (ys.getD i 0)))
  (hlen:zs.length+m≤1000000000) (hbase:base≤w.heap.size)
  (h:∀v' w',Nums w' base v' (zs++ys)→w.grownBy w' v.ownBlock→wpList Tryz.prog ops Q rest (act.put o.dst v') w'):wpList Tryz.prog ops Q (o::rest) act w:=by
 obtain⟨i,hi,hz0,hz1,hz2⟩:=info_parts info_i64
 refine wpList_append_own w hgd s x 32 ho base 2 i _ 1 8 Tryz.underlying32 hi hz0 hz1 hz2 rfl (by decide) v zs.length _ hs hN ⟨B,0,none⟩ m c (ys.map (Value.int .i64)) hx (by simpa using hy) ?_ ?_ (by unfold maxLen;omega) (by omega) hbase ?_
 ·intro j u hj
  have hjl:j<ys.length:=by have:=(List.getElem?_eq_some_iff.1 hj).1;simpa using this
  rw[List.getElem?_map,List.getElem?_eq_getElem hjl]at hj
  have:=hc j (by omega)
  rw[List.getD,List.getElem?_eq_getElem hjl]at this
  rw[show(⟨B,0,none⟩:Addr).add j=⟨B,j,none⟩ by rw[Addr.add_lit];simp,this]
  exact hj
 ·intro u hu
  obtain⟨z,_,rfl⟩:=List.mem_map.1 hu
  rfl
 ·intro v' w' hown hgrow _
  refine h v' w' ?_ hgrow
  unfold Nums
  rw[List.length_append,hy,List.map_append]
  exact hown
theorem nums_empty(w:World)(base:Nat)(hb:base≤w.heap.size):Nums (w.alloc (.cells #[] 2)) base (.slice (some ⟨w.heap.size,0,none⟩) 0 0) []:=
 World.ownsRow_lit w #[] 0 hb (by decide) rfl
theorem one_at{w:World}{g:Nat}{z:Int}(h:w.cell? ⟨g,0,none⟩=some (.int .i64 z)):∀i,i<1→w.cell? ⟨g,i,none⟩=some (.int .i64 (([z]:List Int).getD i 0)):=by
 intro i hi
 obtain rfl:i=0:=by omega
 exact h
structure BW(W:World) where
 w:World
 h:Below W.heap.size W w
theorem region_bw{id:Nat}{Q:Exit→Act→World→Prop}{a:Act}{W:World}{l:List Oper}(hB:Region.lexB .any l.toArray=true)
  (h:wpQuiet Tryz.prog l.toArray (fun w'=>∃p:BW W,w'=p.w) (fun a'=>∀w',(∃p:BW W,w'=p.w)→Q .normal a' w') l a):(Code.region id l.toArray true).wp Tryz.prog Q a W:=
 wp_region_quiet (C:=fun w'=>∃p:BW W,w'=p.w) (by kernel_rfl) hB ⟨⟨{ W with drawn:=W.drawn+1},(Below.refl _ _).drew⟩,rfl⟩ (by simpa using h)
theorem calls_bw{f:FuncId}{args:Array Value}{W:World}{p:BW W}{v:Value}
  (h:Calls Tryz.prog f args p.w fun e w'=>e=.returned v∧Below p.w.heap.size p.w w'):Calls Tryz.prog f args p.w fun e w''=>e=.returned v∧∃q:BW W,w''=q.w:=
 h.mono fun _ w' ⟨he,hb⟩=>⟨he,⟨w',on p.h hb⟩,rfl⟩
theorem BW.cell{W:World}{a:Addr}{v:Value}(h:W.cell? a=some v)(p:BW W):p.w.cell? a=some v:=cell_keep p.h h
theorem flat_seen(own:List (List Int))(i:Nat)(h:i<own.length):(own.take i).flatten=seenAt own i 0∧(own.drop i).flatten=leftAt own i 0:=by
 unfold seenAt leftAt
 rw[drop_cons_getD own [] i h]
 simp
theorem flat_next(own:List (List Int))(i:Nat)(h:i<own.length):seenAt own i (own.getD i []).length=(own.take (i+1)).flatten∧leftAt own i (own.getD i []).length=(own.drop (i+1)).flatten:=by
 unfold seenAt leftAt
 rw[take_succ_getD own [] i h]
 simp
theorem flat_len(own:List (List Int))(h:∀o ∈ own,o.length≤5):own.flatten.length≤5*own.length:=by
 induction own with
 |nil=>simp
 |cons o t ih=>
  have h1:=h o (List.mem_cons_self ..)
  have h2:=ih fun o ho=>h o (List.mem_cons_of_mem _ ho)
  simp only[List.flatten_cons,List.length_append,List.length_cons]
  omega
theorem seen_len(own:List (List Int))(i k:Nat)(h:guestsV own=0)(hn:own.length≤3):(seenAt own i k).length≤40:=by
 have ha:=guests_all own h
 have h1:=flat_len (own.take i) fun o ho=>(ha o (List.mem_of_mem_take ho)).2.1
 have h2:((own.getD i []).take k).length≤5:=by
  by_cases hi:i<own.length
  ·have:own.getD i [] ∈ own:=by rw[List.getD,List.getElem?_eq_getElem hi];exact List.getElem_mem hi
   have:=(ha _ this).2.1
   simp only[List.length_take];omega
  ·rw[List.getD,List.getElem?_eq_none (by omega)];simp
 unfold seenAt
 simp only[List.length_append,List.length_take]at*
 omega
theorem l6_owns(q:Nat)(P:Plc)(w:World)(h:PolAt w q P):
  Calls Tryz.prog 61 #[.pointer (some ⟨q,0,none⟩)] w fun e w'=>e=.returned (.int .i64 (ownsV P))∧Below w.heap.size w w':=by
 obtain⟨a0,n0,c0,a1,n1,c1,a2,n2,c2,a3,n3,c3,h0,h1,h2,h3,h4⟩:=h
 have HL:Hid (n0=P.own.length):=h4.own.len
 have HO:Hid (IsS2 w a0 n0 c0 P.own):=h4.own
 have hmax:(n0:Int)≤9223372036854775807:=by have:=h4.own.cap;unfold maxLen at this;omega
 have qb:q<w.heap.size:=block_of_cell h0
 have H0:=hid h0
 clear h1 h2 h3 h4
 by_cases hn:n0<1
 ·have hb:(n0:Int)<1:=by omega
  have E:Hid (ownsV P=2):=by show _=_;have:=HL.out;simp[ownsV,orV,g1V,show P.own.length<1 by omega]
  clear hn
  go_enter Tryz.func61,Tryz.ntmps61
  go_wp2_with fail
  go_ret
  rw[E.out]
  exact⟨rfl,Below.refl _ _⟩
 by_cases hm:3<n0
 ·have hb:¬(n0:Int)<1:=by omega
  have hb2:(3:Int)<n0:=by omega
  have E:Hid (ownsV P=2):=by show _=_;have:=HL.out;simp[ownsV,orV,g1V,show 3<P.own.length by omega]
  clear hn hm
  go_enter Tryz.func61,Tryz.ntmps61
  go_wp2_with fail
  go_ret
  rw[E.out]
  exact⟨rfl,Below.refl _ _⟩
 have E:Hid (ownsV P=orV (guestsV P.own) (g2V P.own)):=by
  show _=_
  have:=HL.out
  rw[ownsV,g1V,if_neg (by omega)]
 have HN3:Hid (1≤n0∧n0≤3):=⟨by omega,by omega⟩
 have hb:¬(n0:Int)<1:=by omega
 have hb2:¬(3:Int)<n0:=by omega
 clear hn hm
 go_enter Tryz.func61,Tryz.ntmps61
 go_wp2_with fail
 go_loop [3] (fun c=>∃j:Nat,j≤n0∧c=.int .i64 j∧Hid (guestsV P.own=guestsV (P.own.drop j))) (fun c=>n0-(intOf c).toNat)
 case atStart=>exact⟨0,Nat.zero_le _,rfl,by show _=_;simp⟩
 case round=>
  obtain⟨j,hj,rfl,hI⟩:=hrel
  by_cases hlt:j<n0
  ·obtain⟨x,b,l,c,rfl,k1,k2⟩:=HO.out.at j hlt
   have HN:Hid (IsNs w b l c _):=k2
   have HNL:Hid (l=(P.own.getD j []).length):=k2.len
   have hlmax:(l:Int)≤9223372036854775807:=by have:=k2.cap;unfold maxLen at this;omega
   have hJ:(j:Int)<(n0:Int):=by omega
   have HLT:=hid hlt
   have ST:Hid (_=_):=guests_step P.own j (by have:=HL.out;omega)
   clear k2 hlt
   by_cases hl1:l<1
   ·have hi1:(l:Int)<1:=by omega
    have HL1:=hid hl1
    clear hl1
    go_wp2_with fail
    go_ret
    rw[E.out,hI.out,ST.out,if_pos (.inl (by have:=HL1.out;have:=HNL.out;omega))]
    exact⟨rfl,Below.refl _ _⟩
   by_cases hl5:5<l
   ·have hi1:¬(l:Int)<1:=by omega
    have hi2:(5:Int)<l:=by omega
    have HL1:=hid hl5
    clear hl1 hl5
    go_wp2_with fail
    go_ret
    rw[E.out,hI.out,ST.out,if_pos (.inr (by have:=HL1.out;have:=HNL.out;omega))]
    exact⟨rfl,Below.refl _ _⟩
   have hi1:¬(l:Int)<1:=by omega
   have hi2:¬(5:Int)<l:=by omega
   have ST2:Hid (guestsV (P.own.drop j)=if(P.own.getD j []).all pgOk=false then 3 else guestsV (P.own.drop (j+1))):=by
    show _=_
    rw[ST.out,if_neg (by have:=HNL.out;omega)]
   clear hl1 hl5 ST
   go_wp2_with fail
   go_loop [4] (fun c=>∃k:Nat,k≤l∧c=.int .i64 k∧Hid ((P.own.getD j []).all pgOk=((P.own.getD j []).drop k).all pgOk)) (fun c=>l-(intOf c).toNat)
   case atStart=>exact⟨0,Nat.zero_le _,rfl,by show _=_;simp⟩
   case round=>
    obtain⟨k,hk,rfl,hK⟩:=hrel
    by_cases hkl:k<l
    ·rcases HN.out with⟨_,h1,_,_⟩|⟨y,rfl,h1,h2,h3,h4⟩
     ·omega
     have d0:=h4 k hkl
     have hK1:(k:Int)<(l:Int):=by omega
     have HKL:=hid hkl
     have SA:Hid (_=_):=all_step (P.own.getD j []) pgOk k (by have:=HNL.out;omega)
     clear h1 h2 h3 h4 hkl
     generalize hz:(P.own.getD j []).getD k 0=z at*
     clear hz
     by_cases hp:pgOk z=true
     ·have HP:Hid (pgOk z=true):=hp
      go_wp2_with (go_at_call 82;refine(l1_pg _ _).mono ?_;rintro e x ⟨rfl,rfl⟩;rw[hp])
      go_round
      case rel=>exact⟨k+1,by have:=HKL.out;omega,by go_num,by show _=_;rw[hK.out,SA.out,HP.out,Bool.true_and]⟩
      case measure=>have:=HKL.out;simp[intOf];omega
     ·rw[Bool.not_eq_true]at hp
      have HP:Hid (pgOk z=false):=hp
      go_wp2_with (go_at_call 82;refine(l1_pg _ _).mono ?_;rintro e x ⟨rfl,rfl⟩;rw[hp])
      go_ret
      rw[E.out,hI.out,ST2.out,if_pos (by rw[hK.out,SA.out,HP.out,Bool.false_and])]
      exact⟨rfl,Below.refl _ _⟩
    ·have hK1:¬(k:Int)<(l:Int):=by omega
     have HKL:Hid (k=l):=by show _=_;omega
     clear hkl
     go_wp2_with fail
     go_round
     case rel=>
      refine⟨j+1,by have:=HLT.out;omega,by go_num,?_⟩
      show _=_
      rw[hI.out,ST2.out,if_neg]
      rw[hK.out,List.drop_of_length_le (by have:=HKL.out;have:=HNL.out;omega)]
      simp
     case measure=>have:=HLT.out;simp[intOf];omega
  ·have hJ:¬(j:Int)<(n0:Int):=by omega
   have G0:Hid (guestsV P.own=0):=by
    show _=_
    rw[hI.out,List.drop_of_length_le (by have:=HL.out;omega)]
    rfl
   have E2:Hid (ownsV P=if dupF [] P.own.flatten then 6 else 0):=by
    show _=_
    rw[E.out,G0.out]
    rfl
   clear hlt hI E
   have N1:Hid (Nums _ w.heap.size _ []):=nums_empty w w.heap.size (Nat.le_refl _)
   have B1:Hid (Below w.heap.size w _):=al (Below.refl w.heap.size w) (.cells #[] 2)
   go_wp2_with fail
   go_loopw [5,6] (fun u c wr=>∃i:Nat,i≤n0∧c=.int .i64 i∧Nums wr w.heap.size u (P.own.take i).flatten∧Below w.heap.size w wr∧Hid (dupF [] P.own.flatten=dupF (P.own.take i).flatten (P.own.drop i).flatten)) (fun _ c _=>n0-(intOf c).toNat)
   case atStart=>exact⟨0,Nat.zero_le _,rfl,by simpa using N1.out,B1.out,by show _=_;simp⟩
   case round=>
    obtain⟨i,hi,rfl,hN,hB,hD⟩:=hrel
    have HNu:Hid (Nums wr _ _ _):=hN
    have HB:Hid (Below _ w wr):=hB
    have h0:=cell_keep hB H0.out
    clear hN hB
    by_cases hlt:i<n0
    ·obtain⟨x,b,l,c,rfl,k1,k2⟩:=HO.out.at i hlt
     have HN:Hid (IsNs w b l c _):=k2
     have HK1:=hid k1
     have k1:=cell_keep HB.out k1
     have HNL:Hid (l=(P.own.getD i []).length):=k2.len
     have hlmax:(l:Int)≤9223372036854775807:=by have:=k2.cap;unfold maxLen at this;omega
     have hJ:(i:Int)<(n0:Int):=by omega
     have HLT:=hid hlt
     obtain⟨s1,s2⟩:=flat_seen P.own i (by have:=HL.out;omega)
     have hns:=HNu.out
     rw[s1]at hns
     have HNs:Hid (Nums wr w.heap.size _ (seenAt P.own i 0)):=hns
     have HDs:Hid (dupF [] P.own.flatten=dupF (seenAt P.own i 0) (leftAt P.own i 0)):=by show _=_;rw[hD.out,s1,s2]
     obtain⟨t1,t2⟩:=flat_next P.own i (by have:=HL.out;omega)
     rw[←HNL.out]at t1 t2
     have T1:Hid (_=_):=t1
     have T2:Hid (_=_):=t2
     clear k2 hlt s1 s2 t1 t2 hns HNu hD
     go_wp2_with fail
     clear h0 k1
     go_loopw [5,7] (fun u c wq=>∃k:Nat,k≤l∧c=.int .i64 k∧Nums wq w.heap.size u (seenAt P.own i k)∧Below w.heap.size w wq∧Hid (dupF [] P.own.flatten=dupF (seenAt P.own i k) (leftAt P.own i k))) (fun _ c _=>l-(intOf c).toNat)
     case atStart=>exact⟨0,Nat.zero_le _,rfl,HNs.out,HB.out,HDs⟩
     case round=>
      obtain⟨k,hk,rfl,hN,hB,hD⟩:=hrel
      have HNu:Hid (Nums wr _ _ _):=hN
      have HBq:Hid (Below _ w wr):=hB
      have h0:=cell_keep hB H0.out
      have k1:=cell_keep hB HK1.out
      have SQ:Hid (w.heap.size≤wr.heap.size):=hB.size
      obtain⟨au,cu,rfl,_,_,_⟩:=hN.shape
      have HR:Hid (IsNs wr au _ cu _):=hN.read
      clear hN hB
      by_cases hkl:k<l
      ·rcases HN.out with⟨_,h1,_,_⟩|⟨y,rfl,h1,h2,h3,h4⟩
       ·omega
       have d0:=cell_keep HBq.out (h4 k hkl)
       have hK1:(k:Int)<(l:Int):=by omega
       have HKL:=hid hkl
       have DS:Hid (_=_):=dup_step P.own i k (by have:=HNL.out;omega)
       have SL:Hid ((seenAt P.own i k).length≤40):=seen_len P.own i k G0.out (by have:=HL.out;have:=HN3.out;omega)
       have SS:Hid (seenAt P.own i (k+1)=seenAt P.own i k++ [(P.own.getD i []).getD k 0]):=by
        show _=_
        unfold seenAt
        rw[take_succ_getD _ 0 k (by have:=HNL.out;omega),List.append_assoc]
       clear h1 h2 h3 h4 hkl
       generalize hz:(P.own.getD i []).getD k 0=z at*
       clear hz
       generalize hS:seenAt P.own i k=S at*
       have HS:=hid hS
       clear hS
       by_cases hm:z ∈ S
       ·have HM:Hid (z ∈ S):=hm
        have hd:decide (z ∈ S)=true:=decide_eq_true hm
        clear hm
        go_wp2_with (go_at_call 83;refine(l1_has _ _ _ _ _ _ HR.out).mono ?_;rintro e wr ⟨rfl,rfl⟩;rw[hd])
        go_ret
        rw[E2.out,hD.out,DS.out,if_pos HM.out]
        exact⟨rfl,HBq.out⟩
       ·have HM:Hid (¬z ∈ S):=hm
        have hd:decide (z ∈ S)=false:=decide_eq_false hm
        clear hm
        go_wp2_with (first
         |(go_at_call 83;refine(l1_has _ _ _ _ _ _ HR.out).mono ?_;rintro e wr ⟨rfl,rfl⟩;rw[hd])
         |(at_builtin;refine wp_appn _ rfl _ _ rfl w.heap.size _ _ rfl (HNu.out.keep (al (Below.refl _ _) _)) wr.heap.size 1 1 [z] rfl rfl (one_at (cell_new rfl)) (by have:=SL.out;simp;omega) (by have:=SQ.out;simp;omega) ?_;intro v' w' hN' hG'))
        have N':Hid (Nums w' _ v' _):=hN'
        have B':Hid (Below w.heap.size w w'):=(al HBq.out _).grown hG' (by have:=SQ.out;simp;omega) (fun k hk=>(HNu.out.lt k hk).1)
        clear hN' hG'
        go_wp2_with fail
        go_roundw
        case rel=>exact⟨k+1,by have:=HKL.out;omega,by go_num,by rw[SS.out];exact N'.out,B'.out,by show _=_;rw[hD.out,DS.out,if_neg HM.out]⟩
        case measure=>have:=HKL.out;simp[intOf];omega
      ·have hK1:¬(k:Int)<(l:Int):=by omega
       have HKL:Hid (k=l):=by show _=_;omega
       clear hkl
       go_wp2_with fail
       go_roundw
       case rel=>
        have e:=HKL.out
        subst e
        refine⟨i+1,by have:=HLT.out;omega,by go_num,?_,HBq.out,?_⟩
        ·rw[←T1.out];exact HNu.out
        ·show _=_;rw[hD.out,T1.out,T2.out]
       case measure=>have:=HLT.out;simp[intOf];omega
    ·have hJ:¬(i:Int)<(n0:Int):=by omega
     have HJ:Hid (i=n0):=by show _=_;omega
     clear hlt
     go_wp2_with fail
     go_ret
     rw[E2.out,hD.out,List.drop_of_length_le (by have:=HL.out;have:=HJ.out;omega)]
     exact⟨rfl,HB.out⟩
theorem any_take_step(zs:List Ln)(f:Ln→Bool)(j k:Nat)(hk:k<j)(hj:j≤zs.length):((zs.take j).drop k).any f=(f (zs.getD k lz)||((zs.take j).drop (k+1)).any f):=by
 rw[any_step lz (zs.take j) f k (by simp;omega)]
 have e:(zs.take j).getD k lz=zs.getD k lz:=by simp[List.getD,hk]
 rw[e]
theorem l6_lanes(q:Nat)(P:Plc)(w:World)(h:PolAt w q P):
  Calls Tryz.prog 62 #[.pointer (some ⟨q,0,none⟩)] w fun e w'=>e=.returned (.int .i64 (linksV P))∧Below w.heap.size w w':=by
 have HP:=hid h
 obtain⟨a0,n0,c0,a1,n1,c1,a2,n2,c2,a3,n3,c3,h0,h1,h2,h3,h4⟩:=h
 have HL1:Hid (n1=P.lanes.length):=h4.lanes.len
 have HL2:Hid (n2=P.bells.length):=h4.bells.len
 have HLa:Hid (IsLanes w a1 n1 c1 P.lanes):=h4.lanes
 have hmax:(n1:Int)≤9223372036854775807:=by have:=h4.lanes.cap;unfold maxLen at this;omega
 have hmax2:(n2:Int)≤9223372036854775807:=by have:=h4.bells.cap;unfold maxLen at this;omega
 have H1:=hid h1
 clear h0 h3 h4
 by_cases hn:4<n1
 ·have hb:(4:Int)<n1:=by omega
  have E:Hid (linksV P=2):=by show _=_;have:=HL1.out;simp[linksV,orV,g3V,show 4<P.lanes.length by omega]
  clear hn
  go_enter Tryz.func62,Tryz.ntmps62
  go_wp2_with fail
  go_ret
  rw[E.out]
  exact⟨rfl,Below.refl _ _⟩
 by_cases hm:4<n2
 ·have hb:¬(4:Int)<n1:=by omega
  have hb2:(4:Int)<n2:=by omega
  have E:Hid (linksV P=2):=by show _=_;have:=HL2.out;simp[linksV,orV,g3V,show 4<P.bells.length by omega]
  clear hn hm
  go_enter Tryz.func62,Tryz.ntmps62
  go_wp2_with fail
  go_ret
  rw[E.out]
  exact⟨rfl,Below.refl _ _⟩
 have E:Hid (linksV P=lanesV P.own [] P.lanes):=by
  show _=_
  have:=HL1.out
  have:=HL2.out
  rw[linksV,g3V,if_neg (by omega)]
  rfl
 have hb:¬(4:Int)<n1:=by omega
 have hb2:¬(4:Int)<n2:=by omega
 clear hn hm
 go_enter Tryz.func62,Tryz.ntmps62
 go_wp2_with fail
 clear h1 h2
 go_loopw [3] (fun c wr=>∃j:Nat,j≤n1∧c=.int .i64 j∧Below w.heap.size w wr∧Hid (lanesV P.own [] P.lanes=lanesV P.own (P.lanes.take j) (P.lanes.drop j))) (fun c _=>n1-(intOf c).toNat)
 case atStart=>exact⟨0,Nat.zero_le _,rfl,Below.refl _ _,by show _=_;simp⟩
 case round=>
  obtain⟨j,hj,rfl,hB,hI⟩:=hrel
  have HB:Hid (Below _ w wr):=hB
  have h1:=cell_keep hB H1.out
  clear hB
  by_cases hlt:j<n1
  ·obtain⟨x,rfl,k0,k1,k2,k3,k4⟩:=(HLa.out.stay HB.out).at j hlt
   have hJ:(j:Int)<(n1:Int):=by omega
   have HLT:=hid hlt
   have ST:Hid (_=_):=lanes_step P.own P.lanes j (by have:=HL1.out;omega)
   obtain⟨L,hL⟩:∃L,P.lanes.getD j lz=L:=⟨_,rfl⟩
   rw[hL]at k0 k1 k2 k3 k4 ST
   clear hL hlt
   have HPn:Hid (PolAt (wr.alloc (.cells #[.int .i64 L.fr,.int .i64 L.dst,.int .i64 L.pg,.int .i64 L.af,.int .i64 L.tt] 42)) q P):=(HP.out.stay HB.out).stay (al (Below.refl _ _) _)
   have HBn:Hid (Below w.heap.size w (wr.alloc (.cells #[.int .i64 L.fr,.int .i64 L.dst,.int .i64 L.pg,.int .i64 L.af,.int .i64 L.tt] 42))):=al HB.out _
   by_cases he:endsV P.own.length L.fr L.dst≠0
   ·have HE:Hid (laneV P.own (P.lanes.take j) L=endsV P.own.length L.fr L.dst):=by show _=_;rw[laneV,if_neg he]
    have HE2:Hid (¬endsV P.own.length L.fr L.dst=0):=he
    generalize hv:endsV P.own.length L.fr L.dst=v at*
    go_wp2_with (go_at_call 84;refine(l6_ends _ _ _ P _ HPn.out).mono ?_;rintro e wx ⟨rfl,rfl⟩;rw[hv])
    go_ret
    rw[E.out,hI.out,ST.out,HE.out,if_neg HE2.out]
    exact⟨rfl,HBn.out⟩
   have he0:endsV P.own.length L.fr L.dst=0:=Decidable.not_not.1 he
   have V0:Hid (laneV P.own (P.lanes.take j) L=if pgOk L.pg=false∨atOk L.af=false∨atOk L.tt=false then 3 else if 0≤ownerFrom 0 P.own L.pg then 6 else if(P.lanes.take j).any (fun o=>meetV o L)then 6 else 0):=by
    show _=_
    rw[laneV,if_pos he0]
   clear he
   by_cases hp:pgOk L.pg=false
   ·have HP1:Hid ((decide ((0:Int)≤L.pg)&&decide (L.pg≤23))=false):=hp
    have V1:Hid (laneV P.own (P.lanes.take j) L=3):=by show _=_;rw[V0.out,if_pos (.inl hp)]
    go_wp2_with (first
     |(go_at_call 84;refine(l6_ends _ _ _ P _ HPn.out).mono ?_;rintro e wx ⟨rfl,rfl⟩;rw[he0])
     |(go_at_call 82;refine(l1_in _ _ _ _).mono ?_;rintro e wx ⟨rfl,rfl⟩;rw[HP1.out]))
    go_ret
    rw[E.out,hI.out,ST.out,V1.out]
    exact⟨rfl,HBn.out⟩
   rw[Bool.not_eq_false]at hp
   have HP1:Hid ((decide ((0:Int)≤L.pg)&&decide (L.pg≤23))=true):=hp
   by_cases ha:atOk L.af=false
   ·have HA1:Hid ((decide ((5:Int)≤L.af)&&decide (L.af≤6))=false):=ha
    have V1:Hid (laneV P.own (P.lanes.take j) L=3):=by show _=_;rw[V0.out,if_pos (.inr (.inl ha))]
    go_wp2_with (first
     |(go_at_call 84;refine(l6_ends _ _ _ P _ HPn.out).mono ?_;rintro e wx ⟨rfl,rfl⟩;rw[he0])
     |(go_at_call 82;refine(l1_in _ _ _ _).mono ?_;rintro e wx ⟨rfl,rfl⟩;first|rw[HP1.out]|rw[HA1.out]))
    go_ret
    rw[E.out,hI.out,ST.out,V1.out]
    exact⟨rfl,HBn.out⟩
   rw[Bool.not_eq_false]at ha
   have HA1:Hid ((decide ((5:Int)≤L.af)&&decide (L.af≤6))=true):=ha
   by_cases ht:atOk L.tt=false
   ·have HT1:Hid ((decide ((5:Int)≤L.tt)&&decide (L.tt≤6))=false):=ht
    have V1:Hid (laneV P.own (P.lanes.take j) L=3):=by show _=_;rw[V0.out,if_pos (.inr (.inr ht))]
    go_wp2_with (first
     |(go_at_call 84;refine(l6_ends _ _ _ P _ HPn.out).mono ?_;rintro e wx ⟨rfl,rfl⟩;rw[he0])
     |(go_at_call 82;refine(l1_in _ _ _ _).mono ?_;rintro e wx ⟨rfl,rfl⟩;first|rw[HP1.out]|rw[HA1.out]|rw[HT1.out]))
    go_ret
    rw[E.out,hI.out,ST.out,V1.out]
    exact⟨rfl,HBn.out⟩
   rw[Bool.not_eq_false]at ht
   have HT1:Hid ((decide ((5:Int)≤L.tt)&&decide (L.tt≤6))=true):=ht
   have V2:Hid (laneV P.own (P.lanes.take j) L=if 0≤ownerFrom 0 P.own L.pg then 6 else if(P.lanes.take j).any (fun o=>meetV o L)then 6 else 0):=by
    show _=_
    rw[V0.out,if_neg (by rw[hp,ha,ht];simp)]
   clear V0
   by_cases ho:0≤ownerFrom 0 P.own L.pg
   ·have V1:Hid (laneV P.own (P.lanes.take j) L=6):=by show _=_;rw[V2.out,if_pos ho]
    generalize hv:ownerFrom 0 P.own L.pg=v at*
    go_wp2_with (first
     |(go_at_call 84;refine(l6_ends _ _ _ P _ HPn.out).mono ?_;rintro e wx ⟨rfl,rfl⟩;rw[he0])
     |(go_at_call 82;refine(l1_in _ _ _ _).mono ?_;rintro e wx ⟨rfl,rfl⟩;first|rw[HP1.out]|rw[HA1.out]|rw[HT1.out])
     |(go_at_call 85;refine(l6_owner _ _ P _ HPn.out).mono ?_;rintro e wx ⟨rfl,rfl⟩;rw[hv]))
    go_ret
    rw[E.out,hI.out,ST.out,V1.out]
    exact⟨rfl,HBn.out⟩
   have V3:Hid (laneV P.own (P.lanes.take j) L=if(P.lanes.take j).any (fun o=>meetV o L)then 6 else 0):=by
    show _=_
    rw[V2.out,if_neg ho]
   clear V2
   have q0:(wr.alloc (.cells #[.int .i64 L.fr,.int .i64 L.dst,.int .i64 L.pg,.int .i64 L.af,.int .i64 L.tt] 42)).cell? ⟨wr.heap.size,0,none⟩=some (.int .i64 L.fr):=cell_new rfl
   have q1:(wr.alloc (.cells #[.int .i64 L.fr,.int .i64 L.dst,.int .i64 L.pg,.int .i64 L.af,.int .i64 L.tt] 42)).cell? ⟨wr.heap.size,1,none⟩=some (.int .i64 L.dst):=cell_new rfl
   have q2:(wr.alloc (.cells #[.int .i64 L.fr,.int .i64 L.dst,.int .i64 L.pg,.int .i64 L.af,.int .i64 L.tt] 42)).cell? ⟨wr.heap.size,2,none⟩=some (.int .i64 L.pg):=cell_new rfl
   have q3:(wr.alloc (.cells #[.int .i64 L.fr,.int .i64 L.dst,.int .i64 L.pg,.int .i64 L.af,.int .i64 L.tt] 42)).cell? ⟨wr.heap.size,3,none⟩=some (.int .i64 L.af):=cell_new rfl
   have q4:(wr.alloc (.cells #[.int .i64 L.fr,.int .i64 L.dst,.int .i64 L.pg,.int .i64 L.af,.int .i64 L.tt] 42)).cell? ⟨wr.heap.size,4,none⟩=some (.int .i64 L.tt):=cell_new rfl
   have Q:Hid (_∧_∧_∧_∧_):=⟨q0,q1,q2,q3,q4⟩
   clear q0 q1 q2 q3 q4
   generalize hv:ownerFrom 0 P.own L.pg=v at*
   go_wp2_with (first
    |(go_at_call 84;refine(l6_ends _ _ _ P _ HPn.out).mono ?_;rintro e wx ⟨rfl,rfl⟩;rw[he0])
    |(go_at_call 82;refine(l1_in _ _ _ _).mono ?_;rintro e wx ⟨rfl,rfl⟩;first|rw[HP1.out]|rw[HA1.out]|rw[HT1.out])
    |(go_at_call 85;refine(l6_owner _ _ P _ HPn.out).mono ?_;rintro e wx ⟨rfl,rfl⟩;rw[hv]))
   generalize wr.alloc (.cells #[.int .i64 L.fr,.int .i64 L.dst,.int .i64 L.pg,.int .i64 L.af,.int .i64 L.tt] 42)=W1 at*
   clear k0 k1 k2 k3 k4 h1 hp ha ht ho hv he0
   generalize wr.heap.size=B at*
   clear HB
   go_loopw [6] (fun c wq=>∃k:Nat,k≤j∧c=.int .i64 k∧Below W1.heap.size W1 wq∧Hid ((P.lanes.take j).any (fun o=>meetV o L)=((P.lanes.take j).drop k).any (fun o=>meetV o L))) (fun c _=>j-(intOf c).toNat)
   case atStart=>exact⟨0,Nat.zero_le _,rfl,Below.refl _ _,by show _=_;simp⟩
   case round=>
    obtain⟨k,hk,rfl,hB,hK⟩:=hrel
    have HBq:Hid (Below _ W1 wr):=hB
    have HBw:=hid (on HBn.out hB)
    obtain⟨q0,q1,q2,q3,q4⟩:=Q.out
    have q0:=cell_keep hB q0
    have q1:=cell_keep hB q1
    have q2:=cell_keep hB q2
    have q3:=cell_keep hB q3
    have q4:=cell_keep hB q4
    have h1:=cell_keep HBw.out H1.out
    have bB:B<wr.heap.size:=block_of_cell q0
    clear hB
    by_cases hkj:k<j
    ·have hK1:(k:Int)<(j:Int):=by omega
     obtain⟨x,hx,k0,k1,k2,k3,k4⟩:=(HLa.out.stay HBw.out).at k (by have:=HLT.out;omega)
     cases hx
     have hkn:(k:Int)<(n1:Int):=by have:=HLT.out;omega
     have HKJ:=hid hkj
     have SA:Hid (_=_):=any_take_step P.lanes (fun o=>meetV o L) j k hkj (by have:=HLT.out;have:=HL1.out;omega)
     obtain⟨O,hO⟩:∃O,P.lanes.getD k lz=O:=⟨_,rfl⟩
     rw[hO]at k0 k1 k2 k3 k4 SA
     clear hO hkj
     have HBn2:Hid (Below w.heap.size w (wr.alloc (.cells #[.int .i64 O.fr,.int .i64 O.dst,.int .i64 O.pg,.int .i64 O.af,.int .i64 O.tt] 42))):=al HBw.out _
     have HBn3:Hid (Below W1.heap.size W1 (wr.alloc (.cells #[.int .i64 O.fr,.int .i64 O.dst,.int .i64 O.pg,.int .i64 O.af,.int .i64 O.tt] 42))):=al HBq.out _
     have MV:Hid (meetV O L=(decide (O.pg=L.pg)||usesV O L.fr L.af||usesV O L.dst L.tt)):=rfl
     by_cases hpg:O.pg=L.pg
     ·have V4:Hid (laneV P.own (P.lanes.take j) L=6):=by
       show _=_
       rw[V3.out,hK.out,SA.out,if_pos (by simp[meetV,hpg])]
      go_wp2_with fail
      go_ret
      rw[E.out,hI.out,ST.out,V4.out]
      exact⟨rfl,al HBw.out _⟩
     by_cases hu:usesV O L.fr L.af=true
     ·have V4:Hid (laneV P.own (P.lanes.take j) L=6):=by
       show _=_
       rw[V3.out,hK.out,SA.out,if_pos (by simp[meetV,hu])]
      go_wp2_with (go_at_call 86;refine(l6_at O _ _ _).mono ?_;rintro e wx ⟨rfl,rfl⟩;rw[hu])
      go_ret
      rw[E.out,hI.out,ST.out,V4.out]
      exact⟨rfl,al HBn2.out _⟩
     rw[Bool.not_eq_true]at hu
     by_cases hu2:usesV O L.dst L.tt=true
     ·have V4:Hid (laneV P.own (P.lanes.take j) L=6):=by
       show _=_
       rw[V3.out,hK.out,SA.out,if_pos (by simp[meetV,hu2])]
      go_wp2_with (go_at_call 86;refine(l6_at O _ _ _).mono ?_;rintro e wx ⟨rfl,rfl⟩;first|rw[hu]|rw[hu2])
      go_ret
      rw[E.out,hI.out,ST.out,V4.out]
      exact⟨rfl,al (al HBn2.out _) _⟩
     rw[Bool.not_eq_true]at hu2
     have M0:Hid (meetV O L=false):=by show _=_;rw[MV.out,hu,hu2];simp[hpg]
     go_wp2_with (go_at_call 86;refine(l6_at O _ _ _).mono ?_;rintro e wx ⟨rfl,rfl⟩;first|rw[hu]|rw[hu2])
     go_roundw
     case rel=>exact⟨k+1,by have:=HKJ.out;omega,by go_num,al (al HBn3.out _) _,by show _=_;rw[hK.out,SA.out,M0.out,Bool.false_or]⟩
     case measure=>have:=HKJ.out;simp[intOf];omega
    ·have hK1:¬(k:Int)<(j:Int):=by omega
     have HKJ:Hid (k=j):=by show _=_;omega
     clear hkj
     have V4:Hid (laneV P.own (P.lanes.take j) L=0):=by
      show _=_
      rw[V3.out,hK.out,List.drop_of_length_le (by have:=HKJ.out;simp;omega)]
      simp
     go_wp2_with fail
     go_roundw
     case rel=>exact⟨j+1,by have:=HLT.out;omega,by go_num,HBw.out,by show _=_;rw[hI.out,ST.out,V4.out];simp⟩
     case measure=>have:=HLT.out;simp[intOf];omega
  ·have hJ:¬(j:Int)<(n1:Int):=by omega
   have HJ:Hid (j=n1):=by show _=_;omega
   clear hlt
   go_wp2_with fail
   go_ret
   rw[E.out,hI.out,List.drop_of_length_le (by have:=HL1.out;have:=HJ.out;omega)]
   exact⟨rfl,HB.out⟩
end Go.Proofs.YtignbeibcakgpaaGreatDoor
