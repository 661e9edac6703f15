import Derived.Laws.AppendOwnNone
import Derived.Maps.AppendAt
import Derived.Test.YtignbeibcakgpaaGreatDoorQ14
import Derived.Test.YtignbeibcakgpaaGreatDoorQ17
namespace Go.Proofs.YtignbeibcakgpaaGreatDoor
set_option maxRecDepth 20000
set_option maxHeartbeats 16000000
open Go.RowKit
set_option linter.unusedVariables false
theorem mem_drop_pair(zs:List (Int×Int))(b:Int×Int)(k:Nat)(hk:k<zs.length):(b ∈ zs.drop k)↔(zs.getD k (0,0)=b∨b ∈ zs.drop (k+1)):=by
 rw[drop_cons_getD zs (0,0) k hk,List.mem_cons]
 constructor
 ·rintro(h|h)
  ·exact .inl h.symm
  ·exact .inr h
 ·rintro(h|h)
  ·exact .inl h.symm
  ·exact .inr h
theorem i_index(a:Option Addr)(len cap:Nat)(x:Int)(zs:List Int)(w:World)(h:IsNs w a len cap zs):
  Calls Tryz.prog 157 #[.slice a len cap,.int .i64 x] w fun e w'=>(∃v:Int,e=.returned (.int .i64 v)∧(0≤v↔x ∈ zs))∧w'=w:=by
 have HR:=hid h
 have hmax:(len:Int)≤9223372036854775807:=by have:=h.cap;unfold maxLen at this;omega
 have HL:Hid (len=zs.length):=h.len
 clear h
 go_enter Tryz.func157,Tryz.ntmps157
 go_wp2_with fail
 go_loop [8] (fun c=>∃j:Nat,j≤len∧c=.int .i64 j∧Hid ((x ∈ zs)↔(x ∈ zs.drop j))) (fun c=>len-(intOf c).toNat)
 case atStart=>exact⟨0,Nat.zero_le _,rfl,by show _↔_;simp⟩
 case round=>
  obtain⟨j,hj,rfl,hI⟩:=hrel
  by_cases hlt:j<len
  ·rcases HR.out with⟨_,h1,_,_⟩|⟨y,rfl,h1,h2,h3,h4⟩
   ·omega
   have c0:=h4 j hlt
   have hJ:(j:Int)<(len:Int):=by omega
   have HLT:=hid hlt
   have ST:Hid (_↔_):=mem_drop_step zs x j (by have:=HL.out;omega)
   clear h1 h2 h3 h4
   generalize hz:zs.getD j 0=z at*
   clear hz
   clear hlt
   by_cases hx:x=z
   ·have HX:Hid (x=z):=hx
    go_wp2_with fail
    go_ret
    exact⟨⟨_,rfl,⟨fun _=>by have:=hI.out.2 (ST.out.2 (.inl HX.out.symm));rw[HX.out]at this;exact this,fun _=>by omega⟩⟩,rfl⟩
   ·have HX:Hid (¬x=z):=hx
    go_wp2_with fail
    go_round
    case rel=>
     refine⟨j+1,by have:=HLT.out;omega,by go_num,?_⟩
     show _↔_
     rw[hI.out,ST.out]
     have:=HX.out
     exact⟨fun h=>h.elim (fun e=>absurd e.symm this) id,.inr⟩
    case measure=>have:=HLT.out;simp[intOf];omega
  ·have hJ:¬(j:Int)<(len:Int):=by omega
   have HJ:Hid (j=len):=by show _=_;omega
   clear hlt
   go_wp2_with fail
   go_ret
   refine⟨⟨_,rfl,?_⟩,rfl⟩
   rw[hI.out,List.drop_of_length_le (by have:=HL.out;have:=HJ.out;omega)]
   simp
theorem i_contains(a:Option Addr)(len cap:Nat)(x:Int)(zs:List Int)(w:World)(h:IsNs w a len cap zs):
  Calls Tryz.prog 136 #[.slice a len cap,.int .i64 x] w fun e w'=>e=.returned (.bool (decide (x ∈ zs)))∧w'=w:=by
 have HR:=hid h
 clear h
 go_enter Tryz.func136,Tryz.ntmps136
 go_wp2_with (go_at_call 157;refine(i_index _ _ _ _ _ _ HR.out).mono ?_;rintro e w1 ⟨⟨v,rfl,hv⟩,rfl⟩)
 go_ret
 exact⟨congrArg (fun b=>Ending.returned (.bool b)) (by apply Bool.eq_iff_iff.2;simp),rfl⟩
theorem i_indexB(a:Option Addr)(len cap:Nat)(f t:Int)(zs:List (Int×Int))(w:World)(h:IsPairs w a len cap zs):
  Calls Tryz.prog 130 #[.slice a len cap,.agg #[.int .i64 f,.int .i64 t]] w fun e w'=>(∃v:Int,e=.returned (.int .i64 v)∧(0≤v↔(f,t) ∈ zs))∧Below w.heap.size w w':=by
 have HR:=hid h
 have hmax:(len:Int)≤9223372036854775807:=by have:=h.cap;unfold maxLen at this;omega
 have HL:Hid (len=zs.length):=h.len
 clear h
 have q0:(w.alloc (.cells #[.int .i64 f,.int .i64 t] 148)).cell? ⟨w.heap.size,0,none⟩=some (.int .i64 f):=cell_new rfl
 have q1:(w.alloc (.cells #[.int .i64 f,.int .i64 t] 148)).cell? ⟨w.heap.size,1,none⟩=some (.int .i64 t):=cell_new rfl
 have Q:Hid (_∧_):=⟨q0,q1⟩
 have HB1:Hid (Below w.heap.size w (w.alloc (.cells #[.int .i64 f,.int .i64 t] 148))):=al (Below.refl _ _) _
 clear q0 q1
 go_enter Tryz.func130,Tryz.ntmps130
 go_wp2_with fail
 generalize w.alloc (.cells #[.int .i64 f,.int .i64 t] 148)=W1 at*
 obtain⟨B,hB⟩:∃B,w.heap.size=B:=⟨_,rfl⟩
 rw[hB]at Q ⊢
 have HBB:=hid hB
 clear hB
 go_loopw [8] (fun c wq=>∃j:Nat,j≤len∧c=.int .i64 j∧Below W1.heap.size W1 wq∧Hid (((f,t) ∈ zs)↔((f,t) ∈ zs.drop j))) (fun c _=>len-(intOf c).toNat)
 case atStart=>exact⟨0,Nat.zero_le _,rfl,Below.refl _ _,by show _↔_;simp⟩
 case round=>
  obtain⟨j,hj,rfl,hB,hI⟩:=hrel
  have HBq:Hid (Below _ W1 wr):=hB
  have HBw:=hid (on HB1.out hB)
  have q0:=cell_keep hB Q.out.1
  have q1:=cell_keep hB Q.out.2
  have bB:B<wr.heap.size:=block_of_cell q0
  by_cases hlt:j<len
  ·obtain⟨x,rfl,k0,k1⟩:=(HR.out.stay (on HB1.out hB)).at j hlt
   have hJ:(j:Int)<(len:Int):=by omega
   have HLT:=hid hlt
   have ST:Hid (_↔_):=mem_drop_pair zs (f,t) j (by have:=HL.out;omega)
   obtain⟨⟨o1,o2⟩,hO⟩:∃O,zs.getD j (0,0)=O:=⟨_,rfl⟩
   rw[hO]at k0 k1 ST
   simp only at k0 k1
   clear hO hlt hB
   by_cases h1:f=o1
   ·by_cases h2:t=o2
    ·subst h1 h2
     go_wp2_with fail
     go_quiet (fail)
     go_wp2_with fail
     go_ret
     exact⟨⟨_,rfl,⟨fun _=>hI.out.2 (ST.out.2 (.inl (by trivial))),fun _=>by omega⟩⟩,dr HBw.out _⟩
    ·have HX:Hid (¬t=o2):=h2
     go_wp2_with fail
     go_quiet (fail)
     go_wp2_with fail
     go_roundw
     case rel=>exact⟨j+1,by have:=HLT.out;omega,by go_num,dr HBq.out _,by show _↔_;rw[hI.out,ST.out];exact⟨fun h=>h.elim (fun e=>absurd (congrArg Prod.snd e).symm HX.out) id,.inr⟩⟩
     case measure=>have:=HLT.out;simp[intOf];omega
   ·have HX:Hid (¬f=o1):=h1
    go_wp2_with fail
    go_quiet (fail)
    go_wp2_with fail
    go_roundw
    case rel=>exact⟨j+1,by have:=HLT.out;omega,by go_num,dr HBq.out _,by show _↔_;rw[hI.out,ST.out];exact⟨fun h=>h.elim (fun e=>absurd (congrArg Prod.fst e).symm HX.out) id,.inr⟩⟩
    case measure=>have:=HLT.out;simp[intOf];omega
  ·have hJ:¬(j:Int)<(len:Int):=by omega
   have HJ:Hid (j=len):=by show _=_;omega
   clear hlt hB
   go_wp2_with fail
   go_ret
   refine⟨⟨_,rfl,?_⟩,HBw.out⟩
   rw[hI.out,List.drop_of_length_le (by have:=HL.out;have:=HJ.out;omega)]
   simp
theorem i_containsB(a:Option Addr)(len cap:Nat)(f t:Int)(zs:List (Int×Int))(w:World)(h:IsPairs w a len cap zs):
  Calls Tryz.prog 100 #[.slice a len cap,.agg #[.int .i64 f,.int .i64 t]] w fun e w'=>e=.returned (.bool (decide ((f,t) ∈ zs)))∧Below w.heap.size w w':=by
 have HR:Hid (IsPairs (w.alloc (.cells #[.int .i64 f,.int .i64 t] 148)) a len cap zs):=h.stay (al (Below.refl _ _) _)
 clear h
 go_enter Tryz.func100,Tryz.ntmps100
 go_wp2_with (go_at_call 130;refine(i_indexB _ _ _ _ _ _ _ HR.out).mono ?_;rintro e w1 ⟨⟨v,rfl,hv⟩,b1⟩)
 go_ret
 exact⟨congrArg (fun b=>Ending.returned (.bool b)) (by apply Bool.eq_iff_iff.2;simp),on (al (Below.refl _ _) _) b1⟩
theorem i_closure(a:Option Addr)(len cap g:Nat)(x:Int)(zs:List Int)(w:World)(h:IsNs w a len cap zs)(hg:w.cell? ⟨g,0,none⟩=some (.int .i64 x)):
  Calls Tryz.prog 135 #[.slice a len cap,.pointer (some ⟨g,0,none⟩)] w fun e w'=>e=.returned (.bool (decide (x ∈ zs)))∧w'=w:=by
 have HR:=hid h
 clear h
 go_enter Tryz.func135,Tryz.ntmps135
 go_wp2_with (go_at_call 136;refine(i_contains _ _ _ _ _ _ HR.out).mono ?_;rintro e w1 ⟨rfl,rfl⟩)
 go_ret
 exact⟨rfl,rfl⟩
theorem i_indexF(a:Option Addr)(n c g:Nat)(pg:Int)(own:List (List Int))(w:World)(h:IsS2 w a n c own)(hg:w.cell? ⟨g,0,none⟩=some (.int .i64 pg)):
  Calls Tryz.prog 134 #[.slice a n c,.func (.func 135) #[] #[.pointer (some ⟨g,0,none⟩)]] w fun e w'=>e=.returned (.int .i64 (ownerFrom 0 own pg))∧w'=w:=by
 have HL:Hid (n=own.length):=h.len
 have HO:=hid h
 have HG:=hid hg
 have hmax:(n:Int)≤9223372036854775807:=by have:=h.cap;unfold maxLen at this;omega
 clear h hg
 go_enter Tryz.func134,Tryz.ntmps134
 go_wp2_with fail
 go_loop [8] (fun c=>∃j:Nat,j≤n∧c=.int .i64 j∧Hid (ownerFrom 0 own pg=ownerFrom j (own.drop j) pg)) (fun c=>n-(intOf c).toNat)
 case atStart=>exact⟨0,Nat.zero_le _,rfl,by show _=_;simp⟩
 case round=>
  obtain⟨j,hj,rfl,hI⟩:=hrel
  by_cases hlt:j<n
  ·obtain⟨x,b,l,c,rfl,k1,k2⟩:=HO.out.at j hlt
   have HN:Hid (IsNs w b l c _):=k2
   have hJ:(j:Int)<(n:Int):=by omega
   have HLT:=hid hlt
   have ST:Hid (_=_):=owner_step own pg j (by have:=HL.out;omega)
   clear k2 hlt
   by_cases hx:pg ∈ own.getD j []
   ·have HX:Hid (pg ∈ own.getD j []):=hx
    have hd:decide (pg ∈ own.getD j [])=true:=decide_eq_true hx
    clear hx
    go_wp2_with (go_at_call 135;refine(i_closure _ _ _ _ _ _ _ HN.out HG.out).mono ?_;rintro e x ⟨rfl,rfl⟩;rw[hd])
    go_ret
    rw[hI.out,ST.out,if_pos HX.out]
    exact⟨rfl,rfl⟩
   ·have HX:Hid (¬pg ∈ own.getD j []):=hx
    have hd:decide (pg ∈ own.getD j [])=false:=decide_eq_false hx
    clear hx
    go_wp2_with (go_at_call 135;refine(i_closure _ _ _ _ _ _ _ HN.out HG.out).mono ?_;rintro e x ⟨rfl,rfl⟩;rw[hd])
    go_round
    case rel=>
     refine⟨j+1,by have:=HLT.out;omega,by go_num,?_⟩
     show _=_
     rw[hI.out,ST.out,if_neg HX.out]
    case measure=>have:=HLT.out;simp[intOf];omega
  ·have hJ:¬(j:Int)<(n:Int):=by omega
   have HJ:Hid (j=n):=by show _=_;omega
   clear hlt
   go_wp2_with fail
   go_ret
   rw[hI.out,List.drop_of_length_le (by have:=HL.out;have:=HJ.out;omega)]
   exact⟨rfl,rfl⟩
theorem i_owner(a0 a1 a2 a3:Option Addr)(n0 c0 n1 c1 n2 c2 n3 c3:Nat)(P:Plc)(pg:Int)(w:World)(h:Pl w a0 n0 c0 a1 n1 c1 a2 n2 c2 a3 n3 c3 P):
  Calls Tryz.prog 108 #[.agg #[.slice a0 n0 c0,.slice a1 n1 c1,.slice a2 n2 c2,.slice a3 n3 c3],.int .i64 pg] w fun e w'=>e=.returned (.int .i64 (ownerFrom 0 P.own pg))∧Below w.heap.size w w':=by
 have HO:Hid (IsS2 ((w.alloc (.cells #[.slice a0 n0 c0,.slice a1 n1 c1,.slice a2 n2 c2,.slice a3 n3 c3] 29)).alloc (.cells #[.int .i64 pg] 2)) a0 n0 c0 P.own):=h.own.stay (al (al (Below.refl _ _) _) _)
 have HG:Hid (((w.alloc (.cells #[.slice a0 n0 c0,.slice a1 n1 c1,.slice a2 n2 c2,.slice a3 n3 c3] 29)).alloc (.cells #[.int .i64 pg] 2)).cell? ⟨w.heap.size+1,0,none⟩=some (.int .i64 pg)):=by
  show _=_
  simp
 clear h
 go_enter Tryz.func108,Tryz.ntmps108
 go_wp2_with (go_at_call 134;refine(i_indexF _ _ _ _ _ _ _ HO.out HG.out).mono ?_;rintro e w1 ⟨rfl,rfl⟩)
 go_ret
 exact⟨rfl,al (al (Below.refl _ _) _) _⟩
variable{ops:Array Oper}{rest:List Oper}{o:Oper}{act:Act}{Q:Exit→Act→World→Prop}
theorem wp_appxA(w:World)(hgd:o.guard=none)(s x:Operand)
  (ho:o.op=.call { callee:=.builtin .append,args:=#[s,x],argTypes:=#[32,32]}) (base:Nat) (v:Value) (zs:List Int) (hs:act.eval s=v) (hN:Nums w base v zs)
  (p:Addr) (m c:Nat) (ys:List Int) (hx:act.eval x=.slice (some p) m c) (hR:Rn w (some p) m c ys)
  (hlen:zs.length+m≤1000000000) (hbase:base≤w.heap.size)
  (h:∀v' w',Nums w' base v' (zs++ys)→w.grownBy w' v.ownBlock→(v'.ownBlock=v.ownBlock∨v'.ownBlock=some w.heap.size)→wpList Tryz.prog ops Q rest (act.put o.dst v') w'):wpList Tryz.prog ops Q (o::rest) act w:=by
 have hy:ys.length=m:=hR.len.symm
 have hc:∀i,i<m→w.cell? (p.add i)=some (.int .i64 (ys.getD i 0)):=by
  intro i hi
  obtain⟨x,e,h⟩:=hR.at i hi
  cases e
  exact h
 obtain⟨i,hi,hz0,hz1,hz2⟩:=info_parts info_i64
 refine wpList_append_own_at w hgd s x 32 ho base 2 i _ 1 8 Tryz.underlying32 hi hz0 hz1 hz2 rfl (by decide) v zs.length _ hs hN p m c (ys.map (Value.int .i64)) hx (by simpa using hy) ?_ ?_ (by unfold maxLen;omega) (by omega) hbase ?_
 ·intro j u hj
  have hjl:j<ys.length:=by have:=(List.getElem?_eq_some_iff.1 hj).1;simpa using this
  rw[List.getElem?_map,List.getElem?_eq_getElem hjl]at hj
  have:=hc j (by omega)
  rw[List.getD,List.getElem?_eq_getElem hjl]at this
  rw[this]
  exact hj
 ·intro u hu
  obtain⟨z,_,rfl⟩:=List.mem_map.1 hu
  rfl
 ·intro v' w' hown hgrow _ hat
  refine h v' w' ?_ hgrow hat
  unfold Nums
  rw[List.length_append,hy,List.map_append]
  exact hown
theorem wp_appyA(w:World)(hgd:o.guard=none)(s x:Operand)
  (ho:o.op=.call { callee:=.builtin .append,args:=#[s,x],argTypes:=#[32,32]}) (base:Nat) (v:Value) (zs:List Int) (hs:act.eval s=v) (hN:Nums w base v zs)
  (p:Option Addr) (m c:Nat) (ys:List Int) (hx:act.eval x=.slice p m c) (hR:Rn w p m c ys)
  (hlen:zs.length+m≤1000000000) (hbase:base≤w.heap.size)
  (h:∀v' w',Nums w' base v' (zs++ys)→w.grownBy w' v.ownBlock→(v'.ownBlock=v.ownBlock∨v'.ownBlock=some w.heap.size)→wpList Tryz.prog ops Q rest (act.put o.dst v') w'):wpList Tryz.prog ops Q (o::rest) act w:=by
 cases p with
 |some p=>exact wp_appxA w hgd s x ho base v zs hs hN p m c ys hx hR hlen hbase h
 |none=>
  obtain⟨h1,h2,h3⟩:m=0∧c=0∧ys=[]:=by
   rcases hR with⟨_,h1,h2,h3⟩|⟨x,e,_⟩
   ·exact⟨h1,h2,h3⟩
   ·cases e
  subst h1 h2 h3
  obtain⟨i,hi,hz0,hz1,hz2⟩:=info_parts info_i64
  exact wpList_append_own_none hgd s x 32 ho base 2 i 1 Tryz.underlying32 hi v zs.length _ hs hN hx (h v w (by rw[List.append_nil];exact hN) (World.grownBy.refl _ _) (.inl rfl))
theorem i_queueA(m j:Nat)(cs:Array Value)(t:TypeId)(v:Value)(zs:List Int)(a:Option Addr)(n c:Nat)(ys:List Int)(b:Nat)(w:World)(hv:Vb w m cs t)(hj:cs[j]? =some v)(hN:Nums w b v zs)(ht:t≠2)(hR:Rn w a n c ys)(hf:zs.length+n≤40)(hb:b≤w.heap.size):
  Calls Tryz.prog 165 #[.pointer (some ⟨m,j,none⟩),.slice a n c] w fun e w'=>e=.returned (.bool true)∧∃v',Nums w' b v' (zs++ys)∧Vb w' m (cs.setIfInBounds j v') t∧Mq (fun k=>k=m∨v.ownBlock=some k) w w'∧(v'.ownBlock=v.ownBlock∨v'.ownBlock=some w.heap.size):=by
 obtain⟨x,cap,rfl,_⟩:=hN.shape
 obtain⟨l,hl⟩:∃l,zs.length=l:=⟨_,rfl⟩
 rw[hl]at hN hj hf ⊢
 have HL:=hid hl
 have HF:=hid hf
 have HN:=hid hN
 have HV:=hid hv
 have HT:=hid ht
 have HR:=hid hR
 have HB:=hid hb
 have h1:(l:Int)≤40:=by omega
 have h2:¬(40:Int)-(l:Int)<(n:Int):=by omega
 have h3:(n:Int)≤100000000:=by omega
 have c0:w.cell? ⟨m,j,none⟩=some (.slice x l cap):=hv.cell j hj
 have f0:=hv.free j
 clear hl hf hN hv ht hR hb hj
 have HC:Hid (∃u,cs[j]? =some u):=by
  show ∃u,_
  have:w.cell? ⟨m,j,none⟩=some (.slice x l cap):=c0
  have hv:=HV.out
  unfold Vb at hv
  simp[World.cell?,hv]at this
  exact⟨_,this⟩
 obtain⟨u,hu⟩:=HC.out
 have HU:=hid hu
 clear hu HC
 go_enter Tryz.func165,Tryz.ntmps165
 go_wp2_with (at_builtin;refine wp_appyA _ rfl _ _ rfl b _ zs rfl HN.out a n c ys rfl HR.out (by have:=HL.out;have:=HF.out;omega) HB.out ?_;intro v' w' hN' hG' hA';obtain⟨y,cap',hv',_⟩:=hN'.shape;obtain⟨L,hL⟩:∃L,(zs++ys).length=L:=⟨_,rfl⟩;rw[hL]at hv';clear hL;subst hv';have N1:Hid (Nums w' b (.slice y L cap') (zs++ys)):=hN';have G1:Hid (w.grownBy w' (Value.slice x l cap).ownBlock):=hG';have AT:Hid (_∨_):=hA';clear hA';have V1:Hid (Vb w' m cs t):=HV.out.gr hG' fun e=>HN.out.ne_vb HV.out HT.out e.symm;clear hN' hG' c0 f0;have c1:=V1.out.cell j HU.out;have f1:=V1.out.free j)
 go_ret
 refine⟨rfl,_,?_,V1.out.set j _,?_,AT.out⟩
 ·exact N1.out.put ⟨m,j,none⟩ _ (N1.out.ne_vb V1.out HT.out)
 ·exact(Mq.of G1.out fun k e=> .inr e.symm).set ⟨m,j,none⟩ _ (.inl rfl)
end Go.Proofs.YtignbeibcakgpaaGreatDoor
