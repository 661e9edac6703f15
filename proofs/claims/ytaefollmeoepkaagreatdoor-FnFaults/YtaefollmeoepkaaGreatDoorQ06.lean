import Derived.Laws.AppendOwn
import Derived.Test.YtaefollmeoepkaaGreatDoorQ05
namespace Go.Proofs.YtaefollmeoepkaaGreatDoor
set_option maxRecDepth 20000
set_option maxHeartbeats 16000000
open Go.RowKit
set_option linter.unusedVariables false
def Rn(w:World)(a:Option Addr)(len cap:Nat)(zs:List Int):Prop:=
 (a=none∧len=0∧cap=0∧zs=[])∨
 ∃x,a=some x∧len≤cap∧cap≤maxLen∧zs.length=len∧∀i,i<len→w.cell? (x.add i)=some (.int .i64 (zs.getD i 0))
theorem Rn.stay{w w':World}{a:Option Addr}{len cap:Nat}{zs:List Int}(h:Rn w a len cap zs)(b:Below w.heap.size w w'):Rn w' a len cap zs:=by
 rcases h with h|⟨x,rfl,h1,h2,h3,h4⟩
 ·exact .inl h
 ·exact .inr ⟨x,rfl,h1,h2,h3,fun i hi=>cell_keep b (h4 i hi)⟩
theorem Rn.len{w:World}{a:Option Addr}{len cap:Nat}{zs:List Int}(h:Rn w a len cap zs):len=zs.length:=by
 rcases h with⟨_,h1,_,rfl⟩|⟨x,_,_,_,h1,_⟩
 ·simpa using h1
 ·exact h1.symm
theorem Rn.cap{w:World}{a:Option Addr}{len cap:Nat}{zs:List Int}(h:Rn w a len cap zs):len≤cap∧cap≤maxLen:=by
 rcases h with⟨_,h1,h2,_⟩|⟨x,_,h1,h2,_⟩
 ·subst h1 h2;exact⟨Nat.le_refl _,Nat.zero_le _⟩
 ·exact⟨h1,h2⟩
theorem Rn.at{w:World}{a:Option Addr}{len cap:Nat}{zs:List Int}(h:Rn w a len cap zs)(i:Nat)(hi:i<len):∃x,a=some x∧w.cell? (x.add i)=some (.int .i64 (zs.getD i 0)):=by
 rcases h with⟨_,h1,_,_⟩|⟨x,rfl,_,_,_,h4⟩
 ·omega
 ·exact⟨x,rfl,h4 i hi⟩
theorem IsRow.rn{w:World}{a:Option Addr}{len cap:Nat}{zs:List Int}(h:IsRow .i64 w a len cap zs):Rn w a len cap zs:=by
 rcases h with h|⟨x,h0,h1,h2,h3,h4,_⟩
 ·exact .inl h
 ·exact .inr ⟨x,h0,h1,h2,h3,h4⟩
theorem Nums.rn{w:World}{base n cap:Nat}{a:Option Addr}{zs:List Int}(h:Nums w base (.slice a n cap) zs):Rn w a n cap zs:=by
 obtain⟨a',cap',hv,l1,l2,hg⟩:=h.shape
 cases hv
 by_cases hz:0<zs.length
 ·obtain⟨g,rfl⟩:=hg hz
  refine .inr ⟨_,rfl,l1,l2,rfl,fun i hi=>?_⟩
  have:=h.cell rfl i hi
  simpa [Addr.add_lit]using this
 ·have h0:zs=[]:=by cases zs with
   |nil=>rfl
   |cons x t=>exact absurd (Nat.succ_pos _) hz
  subst h0
  cases a with
  |none=>
   obtain⟨h1,⟨hq,h3⟩|⟨g,cap,cur,hq,_⟩⟩:=h
   ·cases hq;exact .inl ⟨rfl,rfl,rfl,rfl⟩
   ·cases hq
  |some x=>exact .inr ⟨x,rfl,l1,l2,rfl,fun i hi=>absurd hi (Nat.not_lt_zero _)⟩
def Rv(w:World)(v:Value)(zs:List Int):Prop:=∃a cap,v=.slice a zs.length cap∧Rn w a zs.length cap zs
theorem Rv.stay{w w':World}{v:Value}{zs:List Int}(h:Rv w v zs)(b:Below w.heap.size w w'):Rv w' v zs:=by
 obtain⟨a,cap,h1,h2⟩:=h
 exact⟨a,cap,h1,h2.stay b⟩
theorem Nums.rv{w:World}{base:Nat}{v:Value}{zs:List Int}(h:Nums w base v zs):Rv w v zs:=by
 obtain⟨a,cap,rfl,_⟩:=h.shape
 exact⟨a,cap,rfl,h.rn⟩
theorem Rn.rv{w:World}{a:Option Addr}{len cap:Nat}{zs:List Int}(h:Rn w a len cap zs):Rv w (.slice a len cap) zs:=by
 have:=h.len
 subst this
 exact⟨a,cap,rfl,h⟩
theorem IsRow.ln{k:IntKind}{w:World}{a:Option Addr}{len cap:Nat}{zs:List Int}(h:IsRow k w a len cap zs):len=zs.length∧len≤9223372036854775807:=by
 rcases h with⟨_,h1,_,rfl⟩|⟨x,_,h1,h2,h3,_⟩
 ·exact⟨by simpa using h1,by omega⟩
 ·exact⟨h3.symm,by unfold maxLen at h2;omega⟩
theorem wp_appx{ops:Array Oper}{rest:List Oper}{o:Oper}{act:Act}{Q:Exit→Act→World→Prop}(w:World)(hgd:o.guard=none)(s x:Operand)
  (ho:o.op=.call { callee:=.builtin .append,args:=#[s,x],argTypes:=#[24,24]}) (base:Nat) (v:Value) (zs:List Int) (hs:act.eval s=v) (hN:Nums w base v zs)
  (p:Addr) (m c:Nat) (ys:List Int) (hx:act.eval x=.slice (some p) m c) (hR:Rn w (some p) m c ys)
  (hlen:zs.length+m≤1000000000) (hbase:base≤w.heap.size)
  (h:∀v' w',Nums w' base v' (zs++ys)→w.grownBy w' v.ownBlock→wpList Tryz.prog ops Q rest (act.put o.dst v') w'):wpList Tryz.prog ops Q (o::rest) act w:=by
 have hy:ys.length=m:=hR.len.symm
 have hc:∀i,i<m→w.cell? (p.add i)=some (.int .i64 (ys.getD i 0)):=by
  intro i hi
  obtain⟨x,e,h⟩:=hR.at i hi
  cases e
  exact h
 obtain⟨i,hi,hz0,hz1,hz2⟩:=info_parts info_i64
 refine wpList_append_own w hgd s x 24 ho base 2 i _ 1 8 Tryz.underlying24 hi hz0 hz1 hz2 rfl (by decide) v zs.length _ hs hN p m c (ys.map (Value.int .i64)) hx (by simpa using hy) ?_ ?_ (by unfold maxLen;omega) (by omega) hbase ?_
 ·intro j u hj
  have hjl:j<ys.length:=by have:=(List.getElem?_eq_some_iff.1 hj).1;simpa using this
  rw[List.getElem?_map,List.getElem?_eq_getElem hjl]at hj
  have:=hc j (by omega)
  rw[List.getD,List.getElem?_eq_getElem hjl]at this
  rw[this]
  exact hj
 ·intro u hu
  obtain⟨z,_,rfl⟩:=List.mem_map.1 hu
  rfl
 ·intro v' w' hown hgrow _
  refine h v' w' ?_ hgrow
  unfold Nums
  rw[List.length_append,hy,List.map_append]
  exact hown
theorem nums_none(w:World)(base:Nat)(hb:base≤w.heap.size):Nums (w.alloc (.cells #[] 2)) base (.slice (some ⟨w.heap.size,0,none⟩) 0 0) []:=
 World.ownsRow_lit w #[] 0 hb (by decide) rfl
def Vb(w:World)(q:Nat)(cs:Array Value)(t:TypeId):Prop:=w.heap[q]? =some (.cells cs t (0,0))
variable{w:World}{q:Nat}{cs:Array Value}{t:TypeId}
theorem Vb.cell(h:Vb w q cs t)(i:Nat){v:Value}(hi:cs[i]? =some v):w.cell? ⟨q,i,none⟩=some v:=by
 unfold Vb at h
 simp[World.cell?,h,hi]
theorem Vb.free(h:Vb w q cs t)(i:Nat):w.frozen? ⟨q,i,none⟩=false:=by
 unfold Vb at h
 simp[World.frozen?,h]
theorem Vb.lt(h:Vb w q cs t):q<w.heap.size:=by
 rcases Nat.lt_or_ge q w.heap.size with h1|h1
 ·exact h1
 ·unfold Vb at h
  rw[Array.getElem?_eq_none h1]at h
  cases h
theorem Vb.new(w:World)(cs:Array Value)(t:TypeId):Vb (w.alloc (.cells cs t)) w.heap.size cs t:=heap_alloc_new w _
theorem Vb.gr{w w':World}{q:Nat}{cs:Array Value}{t:TypeId}{row:Option Nat}(h:Vb w q cs t)(g:w.grownBy w' row)(hn:some q≠row):Vb w' q cs t:=(g.block q h.lt hn).trans h
theorem Vb.keep{w w':World}{q:Nat}{cs:Array Value}{t:TypeId}(h:Vb w q cs t)(b:Below w.heap.size w w'):Vb w' q cs t:=(b.block q h.lt).trans h
theorem Vb.put(h:Vb w q cs t)(p:Addr)(u:Value)(hp:q≠p.block):Vb (w.setCell p u) q cs t:=(heap_setCell_other w p q u hp).trans h
theorem Vb.set(h:Vb w q cs t)(i:Nat)(u:Value):Vb (w.setCell ⟨q,i,none⟩ u) q (cs.setIfInBounds i u) t:=heap_setCell_same w q i cs t u h
theorem Vb.push(h:Vb w q cs t)(o:Obj):Vb (w.alloc o) q cs t:=h.keep (al (Below.refl _ _) o)
structure Ho(base:Nat)(w w':World):Prop where
 size:w.heap.size≤w'.heap.size
 block:∀k,base≤k→k<w.heap.size→w'.heap[k]? =w.heap[k]?
theorem Ho.refl(base:Nat)(w:World):Ho base w w:=⟨Nat.le_refl _,fun _ _ _=>rfl⟩
theorem Ho.trans{base:Nat}{a b c:World}(h:Ho base a b)(k:Ho base b c):Ho base a c:=
 ⟨Nat.le_trans h.size k.size,fun i hb hi=>(k.block i hb (Nat.lt_of_lt_of_le hi h.size)).trans (h.block i hb hi)⟩
theorem Ho.of{base:Nat}{w w':World}(h:Below w.heap.size w w'):Ho base w w':=⟨h.size,fun k _ hk=>h.block k hk⟩
theorem Ho.set{base:Nat}(w:World)(p:Addr)(u:Value)(h:p.block<base):Ho base w (w.setCell p u):=
 ⟨(grown_set w p u).size,fun k hb hk=>(grown_set w p u).block k hk (fun e=>by cases e;omega)⟩
theorem Nums.ho{base:Nat}{v:Value}{w w':World}{zs:List Int}(h:Nums w base v zs)(H:Ho base w w'):Nums w' base v zs:=by
 obtain⟨h1,h2|⟨g,cap,cur,hv,hg,hr,rest⟩⟩:=h
 ·exact⟨h1,.inl h2⟩
 ·refine⟨h1,.inr ⟨g,cap,cur,hv,hg,?_,rest⟩⟩
  rw[H.block g hg ((Array.getElem?_eq_some_iff.1 hr).1)]
  exact hr
theorem zc2{w:World}{q:Nat}{t:TypeId}{z0 z1:Value}(h:Vb w q #[z0,z1] t):w.cell? ⟨q,0,none⟩=some z0∧w.cell? ⟨q,1,none⟩=some z1:=⟨h.cell 0 rfl,h.cell 1 rfl⟩
theorem zc5{w:World}{q:Nat}{t:TypeId}{z0 z1 z2 z3 z4:Value}(h:Vb w q #[z0,z1,z2,z3,z4] t):w.cell? ⟨q,0,none⟩=some z0∧w.cell? ⟨q,1,none⟩=some z1∧w.cell? ⟨q,2,none⟩=some z2∧w.cell? ⟨q,3,none⟩=some z3∧w.cell? ⟨q,4,none⟩=some z4:=⟨h.cell 0 rfl,h.cell 1 rfl,h.cell 2 rfl,h.cell 3 rfl,h.cell 4 rfl⟩
theorem zc9{w:World}{q:Nat}{t:TypeId}{z0 z1 z2 z3 z4 z5 z6 z7 z8:Value}(h:Vb w q #[z0,z1,z2,z3,z4,z5,z6,z7,z8] t):w.cell? ⟨q,0,none⟩=some z0∧w.cell? ⟨q,1,none⟩=some z1∧w.cell? ⟨q,2,none⟩=some z2∧w.cell? ⟨q,3,none⟩=some z3∧w.cell? ⟨q,4,none⟩=some z4∧w.cell? ⟨q,5,none⟩=some z5∧w.cell? ⟨q,6,none⟩=some z6∧w.cell? ⟨q,7,none⟩=some z7∧w.cell? ⟨q,8,none⟩=some z8:=⟨h.cell 0 rfl,h.cell 1 rfl,h.cell 2 rfl,h.cell 3 rfl,h.cell 4 rfl,h.cell 5 rfl,h.cell 6 rfl,h.cell 7 rfl,h.cell 8 rfl⟩
theorem zc13{w:World}{q:Nat}{t:TypeId}{z0 z1 z2 z3 z4 z5 z6 z7 z8 z9 z10 z11 z12:Value}(h:Vb w q #[z0,z1,z2,z3,z4,z5,z6,z7,z8,z9,z10,z11,z12] t):w.cell? ⟨q,0,none⟩=some z0∧w.cell? ⟨q,1,none⟩=some z1∧w.cell? ⟨q,2,none⟩=some z2∧w.cell? ⟨q,3,none⟩=some z3∧w.cell? ⟨q,4,none⟩=some z4∧w.cell? ⟨q,5,none⟩=some z5∧w.cell? ⟨q,6,none⟩=some z6∧w.cell? ⟨q,7,none⟩=some z7∧w.cell? ⟨q,8,none⟩=some z8∧w.cell? ⟨q,9,none⟩=some z9∧w.cell? ⟨q,10,none⟩=some z10∧w.cell? ⟨q,11,none⟩=some z11∧w.cell? ⟨q,12,none⟩=some z12:=⟨h.cell 0 rfl,h.cell 1 rfl,h.cell 2 rfl,h.cell 3 rfl,h.cell 4 rfl,h.cell 5 rfl,h.cell 6 rfl,h.cell 7 rfl,h.cell 8 rfl,h.cell 9 rfl,h.cell 10 rfl,h.cell 11 rfl,h.cell 12 rfl⟩
variable{w:World}{q:Nat}{t:TypeId}{cs:Array Value}
theorem zf2(h:Vb w q cs t):w.frozen? ⟨q,0,none⟩=false∧w.frozen? ⟨q,1,none⟩=false:=⟨h.free 0,h.free 1⟩
theorem zf5(h:Vb w q cs t):w.frozen? ⟨q,0,none⟩=false∧w.frozen? ⟨q,1,none⟩=false∧w.frozen? ⟨q,2,none⟩=false∧w.frozen? ⟨q,3,none⟩=false∧w.frozen? ⟨q,4,none⟩=false:=⟨h.free 0,h.free 1,h.free 2,h.free 3,h.free 4⟩
theorem zf9(h:Vb w q cs t):w.frozen? ⟨q,0,none⟩=false∧w.frozen? ⟨q,1,none⟩=false∧w.frozen? ⟨q,2,none⟩=false∧w.frozen? ⟨q,3,none⟩=false∧w.frozen? ⟨q,4,none⟩=false∧w.frozen? ⟨q,5,none⟩=false∧w.frozen? ⟨q,6,none⟩=false∧w.frozen? ⟨q,7,none⟩=false∧w.frozen? ⟨q,8,none⟩=false:=⟨h.free 0,h.free 1,h.free 2,h.free 3,h.free 4,h.free 5,h.free 6,h.free 7,h.free 8⟩
theorem zf13(h:Vb w q cs t):w.frozen? ⟨q,0,none⟩=false∧w.frozen? ⟨q,1,none⟩=false∧w.frozen? ⟨q,2,none⟩=false∧w.frozen? ⟨q,3,none⟩=false∧w.frozen? ⟨q,4,none⟩=false∧w.frozen? ⟨q,5,none⟩=false∧w.frozen? ⟨q,6,none⟩=false∧w.frozen? ⟨q,7,none⟩=false∧w.frozen? ⟨q,8,none⟩=false∧w.frozen? ⟨q,9,none⟩=false∧w.frozen? ⟨q,10,none⟩=false∧w.frozen? ⟨q,11,none⟩=false∧w.frozen? ⟨q,12,none⟩=false:=⟨h.free 0,h.free 1,h.free 2,h.free 3,h.free 4,h.free 5,h.free 6,h.free 7,h.free 8,h.free 9,h.free 10,h.free 11,h.free 12⟩
end Go.Proofs.YtaefollmeoepkaaGreatDoor
