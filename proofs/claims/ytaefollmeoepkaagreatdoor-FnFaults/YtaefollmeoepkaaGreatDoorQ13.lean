import Derived.Laws.EntriesVeiled
import Derived.Laws.AppendOwnNone
import Derived.Deep.Cut
import Derived.Test.YtaefollmeoepkaaGreatDoorQ11
namespace Go.Proofs.YtaefollmeoepkaaGreatDoor
set_option maxRecDepth 20000
set_option maxHeartbeats 16000000
open Go.RowKit
structure Src(w:World)(b k:Nat)(a:Option Addr)(len cap:Nat)(zs:List Int):Prop where
 code:w.cell? ⟨b,0,none⟩=some (.slice a len cap)
 count:w.cell? ⟨b,1,none⟩=some (.int .i64 k)
 free:w.frozen? ⟨b,1,none⟩=false
 row:IsRow .u8 w a len cap zs
 away:∀x,a=some x→0<len→x.block<b
 here:b<w.heap.size
theorem src_block(x:Addr)(i:Nat):(x.add i).block=x.block:=by
 unfold Addr.add
 split<;>rfl
theorem add_plain(bk off i:Nat):(⟨bk,off,none⟩:Addr).add i=⟨bk,off+i,none⟩:=by
 unfold Addr.add
 split
 ·next h=>subst h;rfl
 ·rfl
theorem IsRow.turn{k:IntKind}{w w':World}{a:Option Addr}{len cap b:Nat}{zs:List Int}(h:IsRow k w a len cap zs)(t:Turn b w w')(ha:∀x,a=some x→0<len→x.block<b)(hb:b≤w.heap.size):IsRow k w' a len cap zs:=by
 rcases h with h|⟨x,rfl,h1,h2,h3,h4,h5⟩
 ·exact .inl h
 ·refine .inr ⟨x,rfl,h1,h2,h3,fun i hi=>?_,h5⟩
  have hx:=ha x rfl (by omega)
  rw[t.cell (p:=x.add i) (by rw[src_block];omega) (by rw[src_block];omega)]
  exact h4 i hi
theorem IsRow.block{k:IntKind}{w:World}{a:Option Addr}{len cap:Nat}{zs:List Int}(h:IsRow k w a len cap zs):∀x,a=some x→0<len→x.block<w.heap.size:=by
 intro x hx hc
 rcases h with⟨h,_⟩|⟨y,rfl,h1,h2,h3,h4,h5⟩
 ·rw[h]at hx;cases hx
 ·have e:y=x:=by simpa using hx
  subst e
  have hcell:=h4 0 (by omega)
  have hb:(y.add 0).block=y.block:=src_block y 0
  rw[←hb]
  apply Classical.byContradiction
  intro hn
  have hz:w.heap[(y.add 0).block]? =none:=by simp;omega
  simp[World.cell?,hz]at hcell
theorem IsRow.below{k:IntKind}{w w':World}{a:Option Addr}{len cap:Nat}{zs:List Int}(h:IsRow k w a len cap zs)(b:Below w.heap.size w w'):IsRow k w' a len cap zs:=
 h.turn (Turn.of_below (b:=w.heap.size) b) h.block (Nat.le_refl _)
theorem Src.step{w:World}{b k:Nat}{a:Option Addr}{len cap:Nat}{zs:List Int}(s:Src w b k a len cap zs)(nq:Nat):
  Src ((w.setCell ⟨b,1,none⟩ (.int .i64 (k+1))).drewN nq) b (k+1) a len cap zs:=by
 refine⟨?_,?_,?_,s.row.turn (Turn.set b 1 w _ nq) s.away (Nat.le_of_lt s.here),s.away,?_⟩
 ·rw[World.cell?_drewN]
  have h:=s.code
  simp[go_sem,h]
 ·rw[World.cell?_drewN,World.cell?_setCell_same _ _ _ s.count]
  simp
 ·show((w.setCell ⟨b,1,none⟩ _)).frozen? _=false
  rw[World.frozen?_setCell]
  exact s.free
 ·show b<(w.setCell ⟨b,1,none⟩ _).heap.size
  simpa [World.setCell]using s.here
theorem Src.turn{w w':World}{b k c:Nat}{a:Option Addr}{len cap:Nat}{zs:List Int}(s:Src w b k a len cap zs)(t:Turn c w w')(hc:w.heap.size≤c):Src w' b k a len cap zs:=by
 have h:=s.here
 refine⟨?_,?_,?_,?_,s.away,Nat.lt_of_lt_of_le h t.size⟩
 ·rw[t.cell (p:=⟨b,0,none⟩) h (by show b≠c;omega)];exact s.code
 ·rw[t.cell (p:=⟨b,1,none⟩) h (by show b≠c;omega)];exact s.count
 ·rw[t.frozen (p:=⟨b,1,none⟩) h (by show b≠c;omega)];exact s.free
 ·rcases s.row with h|⟨x,rfl,h1,h2,h3,h4,h5⟩
  ·exact .inl h
  ·refine .inr ⟨x,rfl,h1,h2,h3,fun i hi=>?_,h5⟩
   have hx:=s.away x rfl (by omega)
   rw[t.cell (p:=x.add i) (by rw[src_block];omega) (by rw[src_block];omega)]
   exact h4 i hi
theorem Src.alloc{w:World}{b k:Nat}{a:Option Addr}{len cap:Nat}{zs:List Int}(s:Src w b k a len cap zs)(o:Obj):Src (w.alloc o) b k a len cap zs:=
 s.turn (Turn.alloc w.heap.size w o) (Nat.le_refl _)
theorem next_any{w:World}{b k:Nat}{a:Option Addr}{len cap:Nat}{zs:List Int}(s:Src w b k a len cap zs)(hk:k≤100000)(n:Int):
  Calls Tryz.prog 33 #[.pointer (some ⟨b,0,none⟩),.int .i64 n] w fun e w'=>∃v:Int,e=.returned (.int .i64 v)∧(1≤n→0≤v∧v<n)∧(n<1→v=0)∧Turn b w w'∧Src w' b (k+1) a len cap zs:=by
 by_cases hn:n<1
 ·refine(next_none b k n w hk hn s.count s.free).mono ?_
  rintro e w'⟨v,rfl,hv,nq,rfl⟩
  exact⟨v,rfl,fun h=>by omega,fun _=>hv,Turn.set _ _ _ _ _,s.step nq⟩
 have hn1:1≤n:=by omega
 by_cases hl:len=0
 ·subst hl
  refine(next_nil b a cap k n w hk hn1 s.code s.count s.free).mono ?_
  rintro e w'⟨v,rfl,hv,nq,rfl⟩
  exact⟨v,rfl,fun _=>hv,fun h=>by omega,Turn.set _ _ _ _ _,s.step nq⟩
 rcases s.row with⟨_,h,_⟩|⟨x,rfl,h1,h2,h3,h4,h5⟩
 ·exact absurd h hl
 obtain⟨bx,off,spot⟩:=x
 have hspot:spot=none:=by simpa [Addr.add]using World.cell?_spot (h4 0 (by omega))
 subst hspot
 have hz:∀i:Nat,0≤zs[i]?.getD 0∧zs[i]?.getD 0≤255:=range_u8 h5
 refine(next_row b bx off len cap k n w zs hk hn1 (by omega) (by omega) (s.away _ rfl (by omega)) s.code s.count s.free (fun i hi=>?_) hz).mono ?_
 ·rw[←add_plain];exact h4 i (by omega)
 rintro e w'⟨v,rfl,hv,nq,rfl⟩
 exact⟨v,rfl,fun _=>hv,fun h=>by omega,Turn.set _ _ _ _ _,s.step nq⟩
theorem pick_any{w:World}{b k:Nat}{a:Option Addr}{len cap:Nat}{zs:List Int}(s:Src w b k a len cap zs)(hk:k≤100000)
  (P:Int→Prop) (bl m:Nat) (hm:0<m) (hm2:m≤1000) (hbl:bl<w.heap.size) (hne:bl≠b)
  (hc:∀i,i<m→∃v:Int,w.cell? ⟨bl,i,none⟩=some (.int .i64 v)∧P v):
  Calls Tryz.prog 32 #[.pointer (some ⟨b,0,none⟩),.slice (some ⟨bl,0,none⟩) m m] w fun e w'=>∃v:Int,e=.returned (.int .i64 v)∧P v∧Turn b w w'∧Src w' b (k+1) a len cap zs:=by
 have HC:=hid hc
 clear hc
 go_enter Tryz.func32,Tryz.ntmps32
 go_wp2_with fail
 refine(next_any s hk _).mono ?_
 rintro e w'⟨v,rfl,hv, -,ht,hs⟩
 obtain⟨hv0,hv1⟩:=hv (by omega)
 clear hv
 obtain⟨i,rfl⟩:=Int.eq_ofNat_of_zero_le hv0
 have hi:i<m:=by omega
 obtain⟨v,hcv,hp⟩:=HC.out i hi
 have hcw:w'.cell? ⟨bl,i,none⟩=some (.int .i64 v):=by rw[ht.cell (p:=⟨bl,i,none⟩) hbl hne];exact hcv
 clear hcv
 go_wp2
 go_ret
 exact⟨v,rfl,hp,ht,hs⟩
theorem spec_add(a b:Int)(w:World):Calls Tryz.prog 100 #[.int .i64 a,.int .i64 b] w fun e w'=>e=.returned (.int .i64 (addV a b))∧w'=w:=by
 go_enter Tryz.func100,Tryz.ntmps100
 go_wp2
 go_ret
 exact⟨ret_i64 (by unfold addV;simp),rfl⟩
theorem spec_mul(a b:Int)(w:World):Calls Tryz.prog 136 #[.int .i64 a,.int .i64 b] w fun e w'=>e=.returned (.int .i64 (mulV a b))∧w'=w:=by
 go_enter Tryz.func136,Tryz.ntmps136
 go_wp2
 go_ret
 exact⟨ret_i64 (by unfold mulV;rfl),rfl⟩
theorem spec_div(a b:Int)(w:World):Calls Tryz.prog 137 #[.int .i64 a,.int .i64 b] w fun e w'=>e=.returned (.int .i64 (divV a b))∧w'=w:=by
 by_cases h:b%4294967296=0
 ·have h2:(b%4294967296==0)=true:=by rw[beq_iff_eq];exact h
  have e:divV a b=4294967295:=by unfold divV;rw[if_pos h]
  rw[e]
  clear h e
  go_enter Tryz.func137,Tryz.ntmps137
  go_wp2
  go_ret
  exact⟨rfl,rfl⟩
 ·have h2:(b%4294967296==0)=false:=by rw[beq_eq_false_iff_ne];exact h
  have h3:¬wrap64 (wrap32 (b%4294967296))=0:=fun e=>h ((sgn_zero b).1 e)
  have e:divV a b=wrap64 ((sgn a).tdiv (sgn b))%4294967296:=by unfold divV;rw[if_neg h]
  rw[e]
  clear h e
  go_enter Tryz.func137,Tryz.ntmps137
  go_wp2
  go_ret
  exact⟨ret_i64 (by unfold sgn;rfl),rfl⟩
theorem spec_rem(a b:Int)(w:World):Calls Tryz.prog 138 #[.int .i64 a,.int .i64 b] w fun e w'=>e=.returned (.int .i64 (remV a b))∧w'=w:=by
 by_cases h:b%4294967296=0
 ·have h2:(b%4294967296==0)=true:=by rw[beq_iff_eq];exact h
  have e:remV a b=a%4294967296:=by unfold remV;rw[if_pos h]
  rw[e]
  clear h e
  go_enter Tryz.func138,Tryz.ntmps138
  go_wp2
  go_ret
  exact⟨rfl,rfl⟩
 ·have h2:(b%4294967296==0)=false:=by rw[beq_eq_false_iff_ne];exact h
  have h3:¬wrap64 (wrap32 (b%4294967296))=0:=fun e=>h ((sgn_zero b).1 e)
  have e:remV a b=(sgn a).tmod (sgn b)%4294967296:=by unfold remV;rw[if_neg h]
  rw[e]
  clear h e
  go_enter Tryz.func138,Tryz.ntmps138
  go_wp2
  go_ret
  exact⟨ret_i64 (by unfold sgn;rfl),rfl⟩
theorem spec_shr(a k:Int)(w:World):Calls Tryz.prog 140 #[.int .i64 a,.int .i64 k,.bool false] w fun e w'=>e=.returned (.int .i64 (shrV a k))∧w'=w:=by
 go_enter Tryz.func140,Tryz.ntmps140
 go_wp2
 go_ret
 exact⟨ret_i64 (by unfold shrV;simp),rfl⟩
def aluV(op a b:Int):Int:=
 if op=1 then addV a b else if op=2 then(a-b)%4294967296 else if op=3 then mulV a b else if op=4 then divV a b else if op=5 then remV a b else if op=6 then bitV 1 a b else if op=7 then bitV 2 a b else if op=8 then bitV 3 a b else if op=9 then shlV a b else if op=10 then shrV a b else if sgn a<sgn b then 1 else 0
theorem sub_eq(a b:Int):(a%4294967296-b%4294967296)%4294967296=(a-b)%4294967296:=by omega
theorem impl_sub(a b:Int)(w:World):Calls Tryz.prog 141 #[.int .i64 a,.int .i64 b] w fun e w'=>e=.returned (.int .i64 ((a-b)%4294967296))∧w'=w:=by
 go_enter Tryz.func141,Tryz.ntmps141
 go_wp2
 go_ret
 exact⟨ret_i64 (by first|rfl|simp|exact sub_eq a b),rfl⟩
theorem impl_less(a b:Int)(w:World):Calls Tryz.prog 152 #[.int .i64 a,.int .i64 b] w fun e w'=>e=.returned (.int .i64 (if sgn a<sgn b then 1 else 0))∧w'=w:=by
 by_cases h:sgn a<sgn b
 all_goals
  first|rw[if_pos h]|rw[if_neg h]
  go_enter Tryz.func152,Tryz.ntmps152
  go_wp2_with (go_at_call 116;refine(impl_signed _ _).mono ?_;rintro e w1 ⟨rfl,rfl⟩)
  go_ret
  exact⟨rfl,rfl⟩
theorem impl_clos1(a b:Int)(w:World):Calls Tryz.prog 145 #[.int .i64 a,.int .i64 b] w fun e w'=>e=.returned (.int .i64 (bitV 1 a b))∧Below w.heap.size w w':=by
 have hf:=field_value
 go_enter Tryz.func145,Tryz.ntmps145
 go_wp2_with (go_at_call 146;refine(impl_bit _ _ _ _).mono ?_;rintro e w1 ⟨rfl,hb⟩)
 go_ret
 exact⟨rfl,hb⟩
theorem impl_clos2(a b:Int)(w:World):Calls Tryz.prog 147 #[.int .i64 a,.int .i64 b] w fun e w'=>e=.returned (.int .i64 (bitV 2 a b))∧Below w.heap.size w w':=by
 have hf:=field_value
 go_enter Tryz.func147,Tryz.ntmps147
 go_wp2_with (go_at_call 146;refine(impl_bit _ _ _ _).mono ?_;rintro e w1 ⟨rfl,hb⟩)
 go_ret
 exact⟨rfl,hb⟩
theorem impl_clos3(a b:Int)(w:World):Calls Tryz.prog 148 #[.int .i64 a,.int .i64 b] w fun e w'=>e=.returned (.int .i64 (bitV 3 a b))∧Below w.heap.size w w':=by
 have hf:=field_value
 go_enter Tryz.func148,Tryz.ntmps148
 go_wp2_with (go_at_call 146;refine(impl_bit _ _ _ _).mono ?_;rintro e w1 ⟨rfl,hb⟩)
 go_ret
 exact⟨rfl,hb⟩
theorem impl_clos4(a b:Int)(w:World):Calls Tryz.prog 149 #[.int .i64 a,.int .i64 b] w fun e w'=>e=.returned (.int .i64 (shlV a b))∧w'=w:=by
 go_enter Tryz.func149,Tryz.ntmps149
 go_wp2_with (go_at_call 150;refine(impl_shl _ _ _).mono ?_;rintro e w1 ⟨rfl,rfl⟩)
 go_ret
 exact⟨rfl,rfl⟩
theorem impl_clos5(a b:Int)(w:World):Calls Tryz.prog 151 #[.int .i64 a,.int .i64 b] w fun e w'=>e=.returned (.int .i64 (shrV a b))∧w'=w:=by
 go_enter Tryz.func151,Tryz.ntmps151
 go_wp2_with (go_at_call 150;refine(impl_shr _ _ _).mono ?_;rintro e w1 ⟨rfl,rfl⟩)
 go_ret
 exact⟨rfl,rfl⟩
theorem aluV1(a b:Int):aluV 1 a b=(addV a b):=by simp[aluV]
theorem aluV2(a b:Int):aluV 2 a b=((a-b)%4294967296):=by simp[aluV]
theorem aluV3(a b:Int):aluV 3 a b=(mulV a b):=by simp[aluV]
theorem aluV4(a b:Int):aluV 4 a b=(divV a b):=by simp[aluV]
theorem aluV5(a b:Int):aluV 5 a b=(remV a b):=by simp[aluV]
theorem aluV6(a b:Int):aluV 6 a b=(bitV 1 a b):=by simp[aluV]
theorem aluV7(a b:Int):aluV 7 a b=(bitV 2 a b):=by simp[aluV]
theorem aluV8(a b:Int):aluV 8 a b=(bitV 3 a b):=by simp[aluV]
theorem aluV9(a b:Int):aluV 9 a b=(shlV a b):=by simp[aluV]
theorem aluV10(a b:Int):aluV 10 a b=(shrV a b):=by simp[aluV]
theorem aluV11(a b:Int):aluV 11 a b=(if sgn a<sgn b then 1 else 0):=by simp[aluV]
set_option linter.unusedVariables false
theorem wp_appy{ops:Array Oper}{rest:List Oper}{o:Oper}{act:Act}{Q:Exit→Act→World→Prop}(w:World)(hgd:o.guard=none)(s x:Operand)
  (ho:o.op=.call { callee:=.builtin .append,args:=#[s,x],argTypes:=#[24,24]}) (base:Nat) (v:Value) (zs:List Int) (hs:act.eval s=v) (hN:Nums w base v zs)
  (p:Option Addr) (m c:Nat) (ys:List Int) (hx:act.eval x=.slice p m c) (hR:Rn w p m c ys)
  (hlen:zs.length+m≤1000000000) (hbase:base≤w.heap.size)
  (h:∀v' w',Nums w' base v' (zs++ys)→w.grownBy w' v.ownBlock→wpList Tryz.prog ops Q rest (act.put o.dst v') w'):wpList Tryz.prog ops Q (o::rest) act w:=by
 cases p with
 |some p=>exact wp_appx w hgd s x ho base v zs hs hN p m c ys hx hR hlen hbase h
 |none=>
  obtain⟨h1,h2,h3⟩:m=0∧c=0∧ys=[]:=by
   rcases hR with⟨_,h1,h2,h3⟩|⟨x,e,_⟩
   ·exact⟨h1,h2,h3⟩
   ·cases e
  subst h1 h2 h3
  obtain⟨i,hi,hz0,hz1,hz2⟩:=info_parts info_i64
  exact wpList_append_own_none hgd s x 24 ho base 2 i 1 Tryz.underlying24 hi v zs.length _ hs hN hx (h v w (by rw[List.append_nil];exact hN) (World.grownBy.refl _ _))
structure Cy(w v:World)(s:Nat)(A:Array Value):Prop where
 A:Vb v s A 26
 R:Vb v (s+1) #[.slice none 0 0,.int .i64 0,.slice none 0 0,.bool false,.bool false,.bool false,.int .i64 0,.slice none 0 0,.slice none 0 0] 26
 b:Below w.heap.size w v
 s:w.heap.size=s
theorem Cy.keep{w v v':World}{s:Nat}{A:Array Value}(h:Cy w v s A)(b:Below v.heap.size v v'):Cy w v' s A:=⟨h.A.keep b,h.R.keep b,on h.b b,h.s⟩
theorem Cy.put{w v:World}{s:Nat}{A:Array Value}(h:Cy w v s A)(j:Nat)(u:Value):Cy w (v.setCell ⟨s,j,none⟩ u) s (A.setIfInBounds j u):=
 ⟨h.A.set j u,h.R.put _ _ (by show s+1≠s;omega),h.b.setCell (by have:=h.s;show w.heap.size≤s;omega) _,h.s⟩
theorem pend_eq(H:Ht)(a b c:Int)(ha:(if gt H.csr 9≠0∧gt H.csr 9≤H.done then(1:Int)else 0)=a)(hb:(if H.rung then(2:Int)else 0)=b)(hc:(if 0<H.inn.length then(4:Int)else 0)=c):a+b+c=pendV H:=by
 subst ha hb hc
 rfl
theorem i_pending(m:Nat)(i o:Value)(H:Ht)(b:Nat)(w:World)(hv:Vb w m (mca H i o) 74)(hi:Nums w b i H.inn):
  Calls Tryz.prog 127 #[.pointer (some ⟨m,0,none⟩)] w fun e w'=>e=.returned (.int .i64 (pendV H))∧w'=w:=by
 obtain⟨a2,k2,rfl,_⟩:=hi.shape
 have hl:(H.inn.length:Int)≤9223372036854775807:=by have:=hi.lens;unfold maxLen at this;omega
 obtain⟨z9,h9⟩:∃z,gt H.csr 9=z:=⟨_,rfl⟩
 obtain⟨d,hd⟩:∃z,H.done=z:=⟨_,rfl⟩
 obtain⟨n2,hn2⟩:∃z,H.inn.length=z:=⟨_,rfl⟩
 have Z9:Hid (gt H.csr 9=z9∧H.done=d∧H.inn.length=n2):=⟨h9,hd,hn2⟩
 have c9:w.cell? ⟨m,26,none⟩=some (.int .i64 z9):=by rw[←h9];exact hv.cell 26 rfl
 have cd:w.cell? ⟨m,31,none⟩=some (.int .i64 d):=by rw[←hd];exact hv.cell 31 rfl
 have cr:w.cell? ⟨m,30,none⟩=some (.bool H.rung):=hv.cell 30 rfl
 have ci:w.cell? ⟨m,32,none⟩=some (.slice a2 n2 k2):=by rw[←hn2];exact hv.cell 32 rfl
 rw[hn2]at hl
 clear hv hi
 clear h9 hd hn2
 by_cases h0:z9=0
 ·have PA:Hid ((if gt H.csr 9≠0∧gt H.csr 9≤H.done then(1:Int)else 0)=0):=by show _=_;rw[Z9.out.1,if_neg (fun k=>k.1 h0)]
  subst h0
  cases hru:H.rung
  ·have PB:Hid ((if H.rung then(2:Int)else 0)=0):=by show _=_;rw[hru];rfl
   rw[hru]at cr
   by_cases hn:0<n2
   ·have PC:Hid ((if 0<H.inn.length then(4:Int)else 0)=4):=by show _=_;rw[Z9.out.2.2,if_pos hn]
    have hI:(0:Int)<(n2:Int):=by omega
    go_enter Tryz.func127,Tryz.ntmps127
    go_wp2_with fail
    go_ret
    exact⟨ret_i ((by decide:(4:Int)=0+0+4).trans (pend_eq H 0 0 4 PA.out PB.out PC.out)),rfl⟩
   ·have PC:Hid ((if 0<H.inn.length then(4:Int)else 0)=0):=by show _=_;rw[Z9.out.2.2,if_neg hn]
    have hI:¬(0:Int)<(n2:Int):=by omega
    go_enter Tryz.func127,Tryz.ntmps127
    go_wp2_with fail
    go_ret
    exact⟨ret_i ((by decide:(0:Int)=0+0+0).trans (pend_eq H 0 0 0 PA.out PB.out PC.out)),rfl⟩
  ·have PB:Hid ((if H.rung then(2:Int)else 0)=2):=by show _=_;rw[hru];rfl
   rw[hru]at cr
   by_cases hn:0<n2
   ·have PC:Hid ((if 0<H.inn.length then(4:Int)else 0)=4):=by show _=_;rw[Z9.out.2.2,if_pos hn]
    have hI:(0:Int)<(n2:Int):=by omega
    go_enter Tryz.func127,Tryz.ntmps127
    go_wp2_with fail
    go_ret
    exact⟨ret_i ((by decide:(6:Int)=0+2+4).trans (pend_eq H 0 2 4 PA.out PB.out PC.out)),rfl⟩
   ·have PC:Hid ((if 0<H.inn.length then(4:Int)else 0)=0):=by show _=_;rw[Z9.out.2.2,if_neg hn]
    have hI:¬(0:Int)<(n2:Int):=by omega
    go_enter Tryz.func127,Tryz.ntmps127
    go_wp2_with fail
    go_ret
    exact⟨ret_i ((by decide:(2:Int)=0+2+0).trans (pend_eq H 0 2 0 PA.out PB.out PC.out)),rfl⟩
 have hI0:(z9 !=0)=true:=by simp[h0]
 by_cases h1:z9≤d
 ·have PA:Hid ((if gt H.csr 9≠0∧gt H.csr 9≤H.done then(1:Int)else 0)=1):=by show _=_;rw[Z9.out.1,Z9.out.2.1,if_pos ⟨h0,h1⟩]
  cases hru:H.rung
  ·have PB:Hid ((if H.rung then(2:Int)else 0)=0):=by show _=_;rw[hru];rfl
   rw[hru]at cr
   by_cases hn:0<n2
   ·have PC:Hid ((if 0<H.inn.length then(4:Int)else 0)=4):=by show _=_;rw[Z9.out.2.2,if_pos hn]
    have hI:(0:Int)<(n2:Int):=by omega
    go_enter Tryz.func127,Tryz.ntmps127
    go_wp2_with fail
    go_ret
    exact⟨ret_i ((by decide:(5:Int)=1+0+4).trans (pend_eq H 1 0 4 PA.out PB.out PC.out)),rfl⟩
   ·have PC:Hid ((if 0<H.inn.length then(4:Int)else 0)=0):=by show _=_;rw[Z9.out.2.2,if_neg hn]
    have hI:¬(0:Int)<(n2:Int):=by omega
    go_enter Tryz.func127,Tryz.ntmps127
    go_wp2_with fail
    go_ret
    exact⟨ret_i ((by decide:(1:Int)=1+0+0).trans (pend_eq H 1 0 0 PA.out PB.out PC.out)),rfl⟩
  ·have PB:Hid ((if H.rung then(2:Int)else 0)=2):=by show _=_;rw[hru];rfl
   rw[hru]at cr
   by_cases hn:0<n2
   ·have PC:Hid ((if 0<H.inn.length then(4:Int)else 0)=4):=by show _=_;rw[Z9.out.2.2,if_pos hn]
    have hI:(0:Int)<(n2:Int):=by omega
    go_enter Tryz.func127,Tryz.ntmps127
    go_wp2_with fail
    go_ret
    exact⟨ret_i ((by decide:(7:Int)=1+2+4).trans (pend_eq H 1 2 4 PA.out PB.out PC.out)),rfl⟩
   ·have PC:Hid ((if 0<H.inn.length then(4:Int)else 0)=0):=by show _=_;rw[Z9.out.2.2,if_neg hn]
    have hI:¬(0:Int)<(n2:Int):=by omega
    go_enter Tryz.func127,Tryz.ntmps127
    go_wp2_with fail
    go_ret
    exact⟨ret_i ((by decide:(3:Int)=1+2+0).trans (pend_eq H 1 2 0 PA.out PB.out PC.out)),rfl⟩
 ·have PA:Hid ((if gt H.csr 9≠0∧gt H.csr 9≤H.done then(1:Int)else 0)=0):=by show _=_;rw[Z9.out.1,Z9.out.2.1,if_neg (fun k=>h1 k.2)]
  have hI1:d<z9:=by omega
  cases hru:H.rung
  ·have PB:Hid ((if H.rung then(2:Int)else 0)=0):=by show _=_;rw[hru];rfl
   rw[hru]at cr
   by_cases hn:0<n2
   ·have PC:Hid ((if 0<H.inn.length then(4:Int)else 0)=4):=by show _=_;rw[Z9.out.2.2,if_pos hn]
    have hI:(0:Int)<(n2:Int):=by omega
    go_enter Tryz.func127,Tryz.ntmps127
    go_wp2_with fail
    go_ret
    exact⟨ret_i ((by decide:(4:Int)=0+0+4).trans (pend_eq H 0 0 4 PA.out PB.out PC.out)),rfl⟩
   ·have PC:Hid ((if 0<H.inn.length then(4:Int)else 0)=0):=by show _=_;rw[Z9.out.2.2,if_neg hn]
    have hI:¬(0:Int)<(n2:Int):=by omega
    go_enter Tryz.func127,Tryz.ntmps127
    go_wp2_with fail
    go_ret
    exact⟨ret_i ((by decide:(0:Int)=0+0+0).trans (pend_eq H 0 0 0 PA.out PB.out PC.out)),rfl⟩
  ·have PB:Hid ((if H.rung then(2:Int)else 0)=2):=by show _=_;rw[hru];rfl
   rw[hru]at cr
   by_cases hn:0<n2
   ·have PC:Hid ((if 0<H.inn.length then(4:Int)else 0)=4):=by show _=_;rw[Z9.out.2.2,if_pos hn]
    have hI:(0:Int)<(n2:Int):=by omega
    go_enter Tryz.func127,Tryz.ntmps127
    go_wp2_with fail
    go_ret
    exact⟨ret_i ((by decide:(6:Int)=0+2+4).trans (pend_eq H 0 2 4 PA.out PB.out PC.out)),rfl⟩
   ·have PC:Hid ((if 0<H.inn.length then(4:Int)else 0)=0):=by show _=_;rw[Z9.out.2.2,if_neg hn]
    have hI:¬(0:Int)<(n2:Int):=by omega
    go_enter Tryz.func127,Tryz.ntmps127
    go_wp2_with fail
    go_ret
    exact⟨ret_i ((by decide:(2:Int)=0+2+0).trans (pend_eq H 0 2 0 PA.out PB.out PC.out)),rfl⟩
end Go.Proofs.YtaefollmeoepkaaGreatDoor
