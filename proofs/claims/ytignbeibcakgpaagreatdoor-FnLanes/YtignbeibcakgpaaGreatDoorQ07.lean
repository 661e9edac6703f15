import Derived.Laws.AppendOwn
import Derived.Deep.WholeRow
import Derived.Lib.BufferMore
import Derived.Test.YtignbeibcakgpaaGreatDoorQ05
namespace Go.Proofs.YtignbeibcakgpaaGreatDoor
set_option maxRecDepth 20000
set_option maxHeartbeats 16000000
open Go.RowKit
set_option linter.unusedVariables false
def Rn(w:World)(a:Option Addr)(len cap:Nat)(zs:List Int):Prop:=
 (a=none∧len=0∧cap=0∧zs=[])∨
 ∃x,a=some x∧len≤cap∧cap≤maxLen∧zs.length=len∧∀i,i<len→w.cell? (x.add i)=some (.int .i64 (zs.getD i 0))
theorem Rn.stay{w w':World}{a:Option Addr}{len cap:Nat}{zs:List Int}(h:Rn w a len cap zs)(b:Below w.heap.size w w'):Rn w' a len cap zs:=by
 rcases h with h|⟨x,rfl,h1,h2,h3,h4⟩
 ·exact .inl h
 ·exact .inr ⟨x,rfl,h1,h2,h3,fun i hi=>cell_keep b (h4 i hi)⟩
theorem Rn.len{w:World}{a:Option Addr}{len cap:Nat}{zs:List Int}(h:Rn w a len cap zs):len=zs.length:=by
 rcases h with⟨_,h1,_,rfl⟩|⟨x,_,_,_,h1,_⟩
 ·simpa using h1
 ·exact h1.symm
theorem Rn.cap{w:World}{a:Option Addr}{len cap:Nat}{zs:List Int}(h:Rn w a len cap zs):len≤cap∧cap≤maxLen:=by
 rcases h with⟨_,h1,h2,_⟩|⟨x,_,h1,h2,_⟩
 ·subst h1 h2;exact⟨Nat.le_refl _,Nat.zero_le _⟩
 ·exact⟨h1,h2⟩
theorem Rn.at{w:World}{a:Option Addr}{len cap:Nat}{zs:List Int}(h:Rn w a len cap zs)(i:Nat)(hi:i<len):∃x,a=some x∧w.cell? (x.add i)=some (.int .i64 (zs.getD i 0)):=by
 rcases h with⟨_,h1,_,_⟩|⟨x,rfl,_,_,_,h4⟩
 ·omega
 ·exact⟨x,rfl,h4 i hi⟩
theorem IsRow.rn{w:World}{a:Option Addr}{len cap:Nat}{zs:List Int}(h:IsRow .i64 w a len cap zs):Rn w a len cap zs:=by
 rcases h with h|⟨x,h0,h1,h2,h3,h4,_⟩
 ·exact .inl h
 ·exact .inr ⟨x,h0,h1,h2,h3,h4⟩
theorem Nums.rn{w:World}{base n cap:Nat}{a:Option Addr}{zs:List Int}(h:Nums w base (.slice a n cap) zs):Rn w a n cap zs:=by
 obtain⟨a',cap',hv,l1,l2,hg⟩:=h.shape
 cases hv
 by_cases hz:0<zs.length
 ·obtain⟨g,rfl⟩:=hg hz
  refine .inr ⟨_,rfl,l1,l2,rfl,fun i hi=>?_⟩
  have:=h.cell rfl i hi
  simpa [Addr.add_lit]using this
 ·have h0:zs=[]:=by cases zs with
   |nil=>rfl
   |cons x t=>exact absurd (Nat.succ_pos _) hz
  subst h0
  cases a with
  |none=>
   obtain⟨h1,⟨hq,h3⟩|⟨g,cap,cur,hq,_⟩⟩:=h
   ·cases hq;exact .inl ⟨rfl,rfl,rfl,rfl⟩
   ·cases hq
  |some x=>exact .inr ⟨x,rfl,l1,l2,rfl,fun i hi=>absurd hi (Nat.not_lt_zero _)⟩
def Rv(w:World)(v:Value)(zs:List Int):Prop:=∃a cap,v=.slice a zs.length cap∧Rn w a zs.length cap zs
theorem Rv.stay{w w':World}{v:Value}{zs:List Int}(h:Rv w v zs)(b:Below w.heap.size w w'):Rv w' v zs:=by
 obtain⟨a,cap,h1,h2⟩:=h
 exact⟨a,cap,h1,h2.stay b⟩
theorem Nums.rv{w:World}{base:Nat}{v:Value}{zs:List Int}(h:Nums w base v zs):Rv w v zs:=by
 obtain⟨a,cap,rfl,_⟩:=h.shape
 exact⟨a,cap,rfl,h.rn⟩
theorem Rn.rv{w:World}{a:Option Addr}{len cap:Nat}{zs:List Int}(h:Rn w a len cap zs):Rv w (.slice a len cap) zs:=by
 have:=h.len
 subst this
 exact⟨a,cap,rfl,h⟩
theorem IsRow.ln{k:IntKind}{w:World}{a:Option Addr}{len cap:Nat}{zs:List Int}(h:IsRow k w a len cap zs):len=zs.length∧len≤9223372036854775807:=by
 rcases h with⟨_,h1,_,rfl⟩|⟨x,_,h1,h2,h3,_⟩
 ·exact⟨by simpa using h1,by omega⟩
 ·exact⟨h3.symm,by unfold maxLen at h2;omega⟩
theorem wp_appx{ops:Array Oper}{rest:List Oper}{o:Oper}{act:Act}{Q:Exit→Act→World→Prop}(w:World)(hgd:o.guard=none)(s x:Operand)
  (ho:o.op=.call { callee:=.builtin .append,args:=#[s,x],argTypes:=#[32,32]}) (base:Nat) (v:Value) (zs:List Int) (hs:act.eval s=v) (hN:Nums w base v zs)
  (p:Addr) (m c:Nat) (ys:List Int) (hx:act.eval x=.slice (some p) m c) (hR:Rn w (some p) m c ys)
  (hlen:zs.length+m≤1000000000) (hbase:base≤w.heap.size)
  (h:∀v' w',Nums w' base v' (zs++ys)→w.grownBy w' v.ownBlock→wpList Tryz.prog ops Q rest (act.put o.dst v') w'):wpList Tryz.prog ops Q (o::rest) act w:=by
 have hy:ys.length=m:=hR.len.symm
 have hc:∀i,i<m→w.cell? (p.add i)=some (.int .i64 (ys.getD i 0)):=by
  intro i hi
  obtain⟨x,e,h⟩:=hR.at i hi
  cases e
  exact h
 obtain⟨i,hi,hz0,hz1,hz2⟩:=info_parts info_i64
 refine wpList_append_own w hgd s x 32 ho base 2 i _ 1 8 Tryz.underlying32 hi hz0 hz1 hz2 rfl (by decide) v zs.length _ hs hN p m c (ys.map (Value.int .i64)) hx (by simpa using hy) ?_ ?_ (by unfold maxLen;omega) (by omega) hbase ?_
 ·intro j u hj
  have hjl:j<ys.length:=by have:=(List.getElem?_eq_some_iff.1 hj).1;simpa using this
  rw[List.getElem?_map,List.getElem?_eq_getElem hjl]at hj
  have:=hc j (by omega)
  rw[List.getD,List.getElem?_eq_getElem hjl]at this
  rw[this]
  exact hj
 ·intro u hu
  obtain⟨z,_,rfl⟩:=List.mem_map.1 hu
  rfl
 ·intro v' w' hown hgrow _
  refine h v' w' ?_ hgrow
  unfold Nums
  rw[List.length_append,hy,List.map_append]
  exact hown
theorem nums_none(w:World)(base:Nat)(hb:base≤w.heap.size):Nums (w.alloc (.cells #[] 2)) base (.slice (some ⟨w.heap.size,0,none⟩) 0 0) []:=
 World.ownsRow_lit w #[] 0 hb (by decide) rfl
def Vb(w:World)(q:Nat)(cs:Array Value)(t:TypeId):Prop:=w.heap[q]? =some (.cells cs t (0,0))
variable{w:World}{q:Nat}{cs:Array Value}{t:TypeId}
theorem Vb.cell(h:Vb w q cs t)(i:Nat){v:Value}(hi:cs[i]? =some v):w.cell? ⟨q,i,none⟩=some v:=by
 unfold Vb at h
 simp[World.cell?,h,hi]
theorem Vb.free(h:Vb w q cs t)(i:Nat):w.frozen? ⟨q,i,none⟩=false:=by
 unfold Vb at h
 simp[World.frozen?,h]
theorem Vb.lt(h:Vb w q cs t):q<w.heap.size:=by
 rcases Nat.lt_or_ge q w.heap.size with h1|h1
 ·exact h1
 ·unfold Vb at h
  rw[Array.getElem?_eq_none h1]at h
  cases h
theorem Vb.new(w:World)(cs:Array Value)(t:TypeId):Vb (w.alloc (.cells cs t)) w.heap.size cs t:=heap_alloc_new w _
theorem Vb.gr{w w':World}{q:Nat}{cs:Array Value}{t:TypeId}{row:Option Nat}(h:Vb w q cs t)(g:w.grownBy w' row)(hn:some q≠row):Vb w' q cs t:=(g.block q h.lt hn).trans h
theorem Vb.keep{w w':World}{q:Nat}{cs:Array Value}{t:TypeId}(h:Vb w q cs t)(b:Below w.heap.size w w'):Vb w' q cs t:=(b.block q h.lt).trans h
theorem Vb.put(h:Vb w q cs t)(p:Addr)(u:Value)(hp:q≠p.block):Vb (w.setCell p u) q cs t:=(heap_setCell_other w p q u hp).trans h
theorem Vb.set(h:Vb w q cs t)(i:Nat)(u:Value):Vb (w.setCell ⟨q,i,none⟩ u) q (cs.setIfInBounds i u) t:=heap_setCell_same w q i cs t u h
theorem Vb.push(h:Vb w q cs t)(o:Obj):Vb (w.alloc o) q cs t:=h.keep (al (Below.refl _ _) o)
structure Ho(base:Nat)(w w':World):Prop where
 size:w.heap.size≤w'.heap.size
 block:∀k,base≤k→k<w.heap.size→w'.heap[k]? =w.heap[k]?
theorem Ho.refl(base:Nat)(w:World):Ho base w w:=⟨Nat.le_refl _,fun _ _ _=>rfl⟩
theorem Ho.trans{base:Nat}{a b c:World}(h:Ho base a b)(k:Ho base b c):Ho base a c:=
 ⟨Nat.le_trans h.size k.size,fun i hb hi=>(k.block i hb (Nat.lt_of_lt_of_le hi h.size)).trans (h.block i hb hi)⟩
theorem Ho.of{base:Nat}{w w':World}(h:Below w.heap.size w w'):Ho base w w':=⟨h.size,fun k _ hk=>h.block k hk⟩
theorem Ho.set{base:Nat}(w:World)(p:Addr)(u:Value)(h:p.block<base):Ho base w (w.setCell p u):=
 ⟨(grown_set w p u).size,fun k hb hk=>(grown_set w p u).block k hk (fun e=>by cases e;omega)⟩
theorem Nums.ho{base:Nat}{v:Value}{w w':World}{zs:List Int}(h:Nums w base v zs)(H:Ho base w w'):Nums w' base v zs:=by
 obtain⟨h1,h2|⟨g,cap,cur,hv,hg,hr,rest⟩⟩:=h
 ·exact⟨h1,.inl h2⟩
 ·refine⟨h1,.inr ⟨g,cap,cur,hv,hg,?_,rest⟩⟩
  rw[H.block g hg ((Array.getElem?_eq_some_iff.1 hr).1)]
  exact hr
theorem zc2{w:World}{q:Nat}{t:TypeId}{z0 z1:Value}(h:Vb w q #[z0,z1] t):w.cell? ⟨q,0,none⟩=some z0∧w.cell? ⟨q,1,none⟩=some z1:=⟨h.cell 0 rfl,h.cell 1 rfl⟩
theorem zc5{w:World}{q:Nat}{t:TypeId}{z0 z1 z2 z3 z4:Value}(h:Vb w q #[z0,z1,z2,z3,z4] t):w.cell? ⟨q,0,none⟩=some z0∧w.cell? ⟨q,1,none⟩=some z1∧w.cell? ⟨q,2,none⟩=some z2∧w.cell? ⟨q,3,none⟩=some z3∧w.cell? ⟨q,4,none⟩=some z4:=⟨h.cell 0 rfl,h.cell 1 rfl,h.cell 2 rfl,h.cell 3 rfl,h.cell 4 rfl⟩
theorem zc9{w:World}{q:Nat}{t:TypeId}{z0 z1 z2 z3 z4 z5 z6 z7 z8:Value}(h:Vb w q #[z0,z1,z2,z3,z4,z5,z6,z7,z8] t):w.cell? ⟨q,0,none⟩=some z0∧w.cell? ⟨q,1,none⟩=some z1∧w.cell? ⟨q,2,none⟩=some z2∧w.cell? ⟨q,3,none⟩=some z3∧w.cell? ⟨q,4,none⟩=some z4∧w.cell? ⟨q,5,none⟩=some z5∧w.cell? ⟨q,6,none⟩=some z6∧w.cell? ⟨q,7,none⟩=some z7∧w.cell? ⟨q,8,none⟩=some z8:=⟨h.cell 0 rfl,h.cell 1 rfl,h.cell 2 rfl,h.cell 3 rfl,h.cell 4 rfl,h.cell 5 rfl,h.cell 6 rfl,h.cell 7 rfl,h.cell 8 rfl⟩
theorem zc13{w:World}{q:Nat}{t:TypeId}{z0 z1 z2 z3 z4 z5 z6 z7 z8 z9 z10 z11 z12:Value}(h:Vb w q #[z0,z1,z2,z3,z4,z5,z6,z7,z8,z9,z10,z11,z12] t):w.cell? ⟨q,0,none⟩=some z0∧w.cell? ⟨q,1,none⟩=some z1∧w.cell? ⟨q,2,none⟩=some z2∧w.cell? ⟨q,3,none⟩=some z3∧w.cell? ⟨q,4,none⟩=some z4∧w.cell? ⟨q,5,none⟩=some z5∧w.cell? ⟨q,6,none⟩=some z6∧w.cell? ⟨q,7,none⟩=some z7∧w.cell? ⟨q,8,none⟩=some z8∧w.cell? ⟨q,9,none⟩=some z9∧w.cell? ⟨q,10,none⟩=some z10∧w.cell? ⟨q,11,none⟩=some z11∧w.cell? ⟨q,12,none⟩=some z12:=⟨h.cell 0 rfl,h.cell 1 rfl,h.cell 2 rfl,h.cell 3 rfl,h.cell 4 rfl,h.cell 5 rfl,h.cell 6 rfl,h.cell 7 rfl,h.cell 8 rfl,h.cell 9 rfl,h.cell 10 rfl,h.cell 11 rfl,h.cell 12 rfl⟩
variable{w:World}{q:Nat}{t:TypeId}{cs:Array Value}
theorem zf2(h:Vb w q cs t):w.frozen? ⟨q,0,none⟩=false∧w.frozen? ⟨q,1,none⟩=false:=⟨h.free 0,h.free 1⟩
theorem zf5(h:Vb w q cs t):w.frozen? ⟨q,0,none⟩=false∧w.frozen? ⟨q,1,none⟩=false∧w.frozen? ⟨q,2,none⟩=false∧w.frozen? ⟨q,3,none⟩=false∧w.frozen? ⟨q,4,none⟩=false:=⟨h.free 0,h.free 1,h.free 2,h.free 3,h.free 4⟩
theorem zf9(h:Vb w q cs t):w.frozen? ⟨q,0,none⟩=false∧w.frozen? ⟨q,1,none⟩=false∧w.frozen? ⟨q,2,none⟩=false∧w.frozen? ⟨q,3,none⟩=false∧w.frozen? ⟨q,4,none⟩=false∧w.frozen? ⟨q,5,none⟩=false∧w.frozen? ⟨q,6,none⟩=false∧w.frozen? ⟨q,7,none⟩=false∧w.frozen? ⟨q,8,none⟩=false:=⟨h.free 0,h.free 1,h.free 2,h.free 3,h.free 4,h.free 5,h.free 6,h.free 7,h.free 8⟩
theorem zf13(h:Vb w q cs t):w.frozen? ⟨q,0,none⟩=false∧w.frozen? ⟨q,1,none⟩=false∧w.frozen? ⟨q,2,none⟩=false∧w.frozen? ⟨q,3,none⟩=false∧w.frozen? ⟨q,4,none⟩=false∧w.frozen? ⟨q,5,none⟩=false∧w.frozen? ⟨q,6,none⟩=false∧w.frozen? ⟨q,7,none⟩=false∧w.frozen? ⟨q,8,none⟩=false∧w.frozen? ⟨q,9,none⟩=false∧w.frozen? ⟨q,10,none⟩=false∧w.frozen? ⟨q,11,none⟩=false∧w.frozen? ⟨q,12,none⟩=false:=⟨h.free 0,h.free 1,h.free 2,h.free 3,h.free 4,h.free 5,h.free 6,h.free 7,h.free 8,h.free 9,h.free 10,h.free 11,h.free 12⟩
structure Ht where
 regs:List Int
 pc:Int
 csr:List Int
 halted:Bool
 waiting:Bool
 rung:Bool
 done:Int
 inn:List Int
 out:List Int
def Ht.form(H:Ht):Bool:=decide (H.regs.length=16)&&decide (H.csr.length=11)&&decide (H.regs.getD 0 0=0)
def Ht.words(H:Ht):Bool:=H.regs.all isW&&isW H.pc&&H.csr.all isW&&H.inn.all isW&&H.out.all isW
def Ht.few(H:Ht):Bool:=decide (H.inn.length≤40)&&decide (H.out.length≤40)
def Ht.nice(H:Ht):Bool:=decide (0≤H.done)&&decide (H.done≤1000000000)
def standC(zs:List Int):Bool:=decide (zs.getD 0 0≤3)&&decide (zs.getD 7 0≤7)&&decide (zs.getD 10 0≤8)&&decide (zs.getD 6 0=0)&&decide (zs.getD 8 0=0)
def hfV(H:Ht):Int:=if H.form then(if H.words then(if H.few then(if H.nice then(if standC H.csr then 0 else 1)else 3)else 2)else 3)else 1
def standV(k w:Int):Int:=if k=0 then w%4 else if k=7 then w%8 else if k=10 then(if 8<w then 0 else w)else if k=6 then 0 else if k=8 then 0 else w
structure Hok(H:Ht):Prop where
 r16:H.regs.length=16
 c11:H.csr.length=11
 r0:H.regs.getD 0 0=0
 rw:H.regs.all isW=true
 pw:isW H.pc=true
 cw:H.csr.all isW=true
 iw:H.inn.all isW=true
 ow:H.out.all isW=true
 i40:H.inn.length≤40
 o40:H.out.length≤40
 d0:0≤H.done
 d9:H.done≤1000000000
 st:standC H.csr=true
variable{H:Ht}
theorem hok_of(h:hfV H=0):Hok H:=by
 unfold hfV at h
 split at h
 next h1=>
  split at h
  next h2=>
   split at h
   next h3=>
    split at h
    next h4=>
     split at h
     next h5=>
      simp only[Ht.form,Ht.words,Ht.few,Ht.nice,Bool.and_eq_true,decide_eq_true_eq]at h1 h2 h3 h4
      exact⟨h1.1.1,h1.1.2,h1.2,h2.1.1.1.1,h2.1.1.1.2,h2.1.1.2,h2.1.2,h2.2,h3.1,h3.2,h4.1,h4.2,h5⟩
     next=>exact absurd h (by decide)
    next=>exact absurd h (by decide)
   next=>exact absurd h (by decide)
  next=>exact absurd h (by decide)
 next=>exact absurd h (by decide)
theorem hfV_ok(h:Hok H):hfV H=0:=by
 have h1:H.form=true:=by simp only[Ht.form,Bool.and_eq_true,decide_eq_true_eq];exact⟨⟨h.r16,h.c11⟩,h.r0⟩
 have h2:H.words=true:=by simp only[Ht.words,Bool.and_eq_true];exact⟨⟨⟨⟨h.rw,h.pw⟩,h.cw⟩,h.iw⟩,h.ow⟩
 have h3:H.few=true:=by simp only[Ht.few,Bool.and_eq_true,decide_eq_true_eq];exact⟨h.i40,h.o40⟩
 have h4:H.nice=true:=by simp only[Ht.nice,Bool.and_eq_true,decide_eq_true_eq];exact⟨h.d0,h.d9⟩
 simp[hfV,h1,h2,h3,h4,h.st]
theorem isW_iff{z:Int}:isW z=true↔0≤z∧z≤4294967295:=by simp[isW]
theorem all_at{zs:List Int}(h:zs.all isW=true)(i:Nat):0≤zs.getD i 0∧zs.getD i 0≤4294967295:=by
 by_cases hi:i<zs.length
 ·have:=List.all_eq_true.1 h _ (List.getElem_mem hi)
  rw[List.getD,List.getElem?_eq_getElem hi]
  exact isW_iff.1 this
 ·rw[List.getD,List.getElem?_eq_none (by omega)]
  exact⟨by decide,by decide⟩
theorem stand_all{zs:List Int}(h:zs.all isW=true)(hl:zs.length=11):(∀k:Nat,k<11→standV k (zs.getD k 0)=zs.getD k 0)↔standC zs=true:=by
 have w0:=all_at h 0
 have w7:=all_at h 7
 have w10:=all_at h 10
 simp only[standC,Bool.and_eq_true,decide_eq_true_eq]
 constructor
 ·intro k
  have k0:=k 0 (by omega)
  have k7:=k 7 (by omega)
  have k10:=k 10 (by omega)
  have k6:=k 6 (by omega)
  have k8:=k 8 (by omega)
  clear k
  generalize zs.getD 0 0=z0 at*
  generalize zs.getD 7 0=z7 at*
  generalize zs.getD 10 0=z10 at*
  generalize zs.getD 6 0=z6 at*
  generalize zs.getD 8 0=z8 at*
  simp[standV]at k0 k7 k10 k6 k8
  refine⟨⟨⟨⟨by omega,by omega⟩,?_⟩,by omega⟩,by omega⟩
  by_cases h8:8<z10
  ·have:=k10 h8
   omega
  ·omega
 ·rintro⟨⟨⟨⟨a,b⟩,c⟩,d⟩,e⟩ k hk
  unfold standV
  split
  ·rename_i h0
   obtain rfl:k=0:=by omega
   omega
  split
  ·rename_i h0
   obtain rfl:k=7:=by omega
   omega
  split
  ·rename_i h0
   obtain rfl:k=10:=by omega
   rw[if_neg (by omega)]
  split
  ·rename_i h0
   obtain rfl:k=6:=by omega
   omega
  split
  ·rename_i h0
   obtain rfl:k=8:=by omega
   omega
  rfl
def pendV(H:Ht):Int:=(if H.csr.getD 9 0≠0∧H.csr.getD 9 0≤H.done then 1 else 0)+(if H.rung then 2 else 0)+(if 0<H.inn.length then 4 else 0)
theorem pend_range(H:Ht):0≤pendV H∧pendV H≤7:=by
 unfold pendV
 split<;>split<;>split<;>omega
def getV(H:Ht)(k:Int):Int:=if k=6 then pendV H else if k=8 then H.done else H.csr.getD k.toNat 0
def setV(H:Ht)(k w:Int):Ht:={ H with csr:=H.csr.set k.toNat (standV k (wd w)),rung:=H.rung&& !(decide (k=6)&&decide (2≤wd w%4))}
def trapV(H:Ht)(cause tval:Int):Ht:={ H with csr:=(((H.csr.set 2 H.pc).set 3 cause).set 4 tval).set 0 (H.csr.getD 0 0%2*2),pc:=H.csr.getD 1 0,waiting:=false}
def backV(H:Ht):Ht:={ H with csr:=H.csr.set 0 (2+H.csr.getD 0 0/2),pc:=H.csr.getD 2 0}
def bothV(H:Ht):Int:=((pendV H).toNat&&&(H.csr.getD 7 0).toNat:Nat)
def lowV(b:Int):Int:=if b%2=1 then 0 else if b/2%2=1 then 1 else 2
def dueV(H:Ht):Int:=if H.csr.getD 0 0%2=0∨bothV H=0 then -1 else lowV (bothV H)
def newV(input:List Int):Ht:=⟨List.replicate 16 0,0,List.replicate 11 0,false,false,false,0,input,[]⟩
def voidH:Ht:=⟨[],0,[],false,false,false,0,[],[]⟩
theorem ret_b{a b:Bool}(h:a=b):Ending.returned (.bool a)=.returned (.bool b):=by rw[h]
theorem i_words(a:Option Addr)(n cap:Nat)(zs:List Int)(w:World)(h:Rn w a n cap zs):
  Calls Tryz.prog 39 #[.slice a n cap] w fun e w'=>e=.returned (.bool (zs.all isW))∧w'=w:=by
 have HN:Hid (n=zs.length):=h.len
 have HZ:=hid h
 have hl:(n:Int)≤9223372036854775807:=by have:=h.cap;unfold maxLen at this;omega
 clear h
 go_enter Tryz.func39,Tryz.ntmps39
 go_wp2_with fail
 go_loop [4,7] (fun _ i=>∃j:Nat,j≤n∧i=.int .i64 j∧Hid ((zs.take j).all isW=true)) (fun _ i=>n-(intOf i).toNat)
 case atStart=>exact⟨0,Nat.zero_le _,rfl,rfl⟩
 case round=>
  obtain⟨j,hj,rfl,hA⟩:=hrel
  by_cases hlt:j<n
  ·obtain⟨x,rfl,c1⟩:=HZ.out.at j hlt
   have hJ:(j:Int)<(n:Int):=by omega
   have HL:Hid (j<zs.length):=by show _<_;have:=HN.out;omega
   obtain⟨z,hz⟩:∃z,zs.getD j 0=z:=⟨_,rfl⟩
   rw[hz]at c1
   have HZZ:=hid hz
   clear hz hlt
   cases hw:isW z
   ·have HW:Hid (isW z=false):=hw
    go_wp2_with (go_at_call 65;refine(impl_isWord _ _).mono ?_;rintro e x ⟨rfl,rfl⟩;rw[hw])
    go_ret
    exact⟨ret_b (all_not zs j HL.out (by rw[HZZ.out];exact HW.out)).symm,rfl⟩
   ·have HW:Hid (isW z=true):=hw
    go_wp2_with (go_at_call 65;refine(impl_isWord _ _).mono ?_;rintro e x ⟨rfl,rfl⟩;rw[hw])
    go_round
    case rel=>exact⟨j+1,by have:=HL.out;have:=HN.out;omega,by go_num,by show _=_;rw[all_take zs j HL.out,hA.out,HZZ.out,HW.out];rfl⟩
    case measure=>have:=HL.out;have:=HN.out;simp[intOf];omega
  ·have hJ:¬(j:Int)<(n:Int):=by omega
   obtain rfl:j=n:=by omega
   go_wp2_with fail
   go_ret
   exact⟨ret_b (by have:=hA.out;rw[List.take_of_length_le (Nat.le_of_eq HN.out.symm)]at this;exact this.symm),rfl⟩
theorem stand_tmod(z m:Int)(h:0≤z):z.tmod m=z%m:=Int.tmod_eq_emod_of_nonneg h
theorem i_stand(k z:Int)(w:World)(hz:0≤z)(hz2:z≤4294967295):
  Calls Tryz.prog 92 #[.int .i64 k,.int .i64 z] w fun e w'=>e=.returned (.int .i64 (standV k z))∧w'=w:=by
 have t4:=stand_tmod z 4 hz
 have t8:=stand_tmod z 8 hz
 by_cases h0:k=0
 ·subst h0
  go_enter Tryz.func92,Tryz.ntmps92
  go_wp2_with fail
  go_ret
  exact⟨by simp[standV],rfl⟩
 by_cases h7:k=7
 ·subst h7
  go_enter Tryz.func92,Tryz.ntmps92
  go_wp2_with fail
  go_ret
  exact⟨by simp[standV],rfl⟩
 by_cases h10:k=10
 ·subst h10
  by_cases h8:8<z
  ·go_enter Tryz.func92,Tryz.ntmps92
   go_wp2_with fail
   go_ret
   exact⟨by simp[standV,h8],rfl⟩
  ·go_enter Tryz.func92,Tryz.ntmps92
   go_wp2_with fail
   go_ret
   exact⟨ret_i (by unfold standV;rw[if_neg (by decide),if_neg (by decide),if_pos rfl,if_neg (by omega)]),rfl⟩
 by_cases h6:k=6
 ·subst h6
  go_enter Tryz.func92,Tryz.ntmps92
  go_wp2_with fail
  go_ret
  exact⟨by simp[standV],rfl⟩
 by_cases h8:k=8
 ·subst h8
  go_enter Tryz.func92,Tryz.ntmps92
  go_wp2_with fail
  go_ret
  exact⟨by simp[standV],rfl⟩
 have hv:standV k z=z:=by simp[standV,h0,h7,h10,h6,h8]
 rw[hv]
 clear hv
 go_enter Tryz.func92,Tryz.ntmps92
 go_wp2_with fail
 go_ret
 exact⟨rfl,rfl⟩
theorem i_allStand(x:Addr)(cap:Nat)(zs:List Int)(w:World)(h:Rn w (some x) 11 cap zs)(hw:zs.all isW=true):
  Calls Tryz.prog 70 #[.slice (some x) 11 cap] w fun e w'=>e=.returned (.bool (standC zs))∧w'=w:=by
 have HN:Hid (zs.length=11):=h.len.symm
 have HZ:=hid h
 have HW:=hid hw
 have HC:Hid ((∀k:Nat,k<11→standV k (zs.getD k 0)=zs.getD k 0)↔standC zs=true):=stand_all hw h.len.symm
 clear h hw
 go_enter Tryz.func70,Tryz.ntmps70
 go_wp2_with fail
 go_loop [3,4,7] (fun _ _ i=>∃j:Nat,j≤11∧i=.int .i64 j∧Hid (∀k:Nat,k<j→standV k (zs.getD k 0)=zs.getD k 0)) (fun _ _ i=>11-(intOf i).toNat)
 case atStart=>exact⟨0,Nat.zero_le _,rfl,fun k hk=>absurd hk (Nat.not_lt_zero _)⟩
 case round=>
  obtain⟨j,hj,rfl,hA⟩:=hrel
  by_cases hlt:j<11
  ·obtain⟨x',e,c1⟩:=HZ.out.at j hlt
   cases e
   have hJ:(j:Int)<11:=by omega
   have HL:=hid hlt
   have ha:=all_at HW.out j
   obtain⟨z,hz⟩:∃z,zs.getD j 0=z:=⟨_,rfl⟩
   rw[hz]at c1 ha
   have HA:=hid ha
   have HZZ:=hid hz
   obtain⟨u,hu⟩:∃u,standV (j:Int) z=u:=⟨_,rfl⟩
   have HU:=hid hu
   clear hz hlt ha hu
   by_cases hs:u=z
   ·have HS:Hid (u=z):=hs
    subst hs
    go_wp2_with (go_at_call 92;refine(i_stand _ _ _ HA.out.1 HA.out.2).mono ?_;rintro e x ⟨rfl,rfl⟩;rw[HU.out])
    go_round
    case rel=>exact⟨j+1,by have:=HL.out;omega,by go_num,fun k hk=>by
     by_cases e:k=j
     ·subst e;rw[HZZ.out];exact HU.out
     ·exact hA.out k (by omega)⟩
    case measure=>have:=HL.out;simp[intOf];omega
   ·have HS:Hid (¬u=z):=hs
    go_wp2_with (go_at_call 92;refine(i_stand _ _ _ HA.out.1 HA.out.2).mono ?_;rintro e x ⟨rfl,rfl⟩;rw[HU.out])
    go_ret
    refine⟨?_,rfl⟩
    cases hc:standC zs
    ·rfl
    ·exact absurd (HU.out.symm.trans (by have:=HC.out.2 hc j HL.out;rw[HZZ.out]at this;exact this)) HS.out
  ·have hJ:¬(j:Int)<11:=by omega
   obtain rfl:j=11:=by omega
   go_wp2_with fail
   go_ret
   exact⟨ret_b (HC.out.1 hA.out).symm,rfl⟩
structure Hm(w:World)(base:Nat)(r c i o:Value)(H:Ht):Prop where
 r:Nums w base r H.regs
 c:Nums w base c H.csr
 i:Nums w base i H.inn
 o:Nums w base o H.out
theorem Hm.keep{w w':World}{base:Nat}{r c i o:Value}{H:Ht}(h:Hm w base r c i o H)(b:Below w.heap.size w w'):Hm w' base r c i o H:=⟨h.r.keep b,h.c.keep b,h.i.keep b,h.o.keep b⟩
theorem Hm.mono{w:World}{base base':Nat}{r c i o:Value}{H:Ht}(h:Hm w base r c i o H)(hb:base'≤base):Hm w base' r c i o H:=⟨h.r.mono hb,h.c.mono hb,h.i.mono hb,h.o.mono hb⟩
theorem Hm.ho{w w':World}{base:Nat}{r c i o:Value}{H:Ht}(h:Hm w base r c i o H)(k:Ho base w w'):Hm w' base r c i o H:=⟨h.r.ho k,h.c.ho k,h.i.ho k,h.o.ho k⟩
def Apt(a b:Value):Prop:=a.ownBlock=none∨a.ownBlock≠b.ownBlock
structure Ha(r c i o:Value):Prop where
 rc:Apt r c
 ri:Apt r i
 ro:Apt r o
 ci:Apt c i
 co:Apt c o
 io:Apt i o
theorem Apt.swap{a b:Value}(h:Apt a b):Apt b a:=by
 rcases h with h|h
 ·by_cases hb:b.ownBlock=none
  ·exact .inl hb
  ·exact .inr (by rw[h];exact hb)
 ·exact .inr (Ne.symm h)
structure Mq(S:Nat→Prop)(w w':World):Prop where
 os:w'.os=w.os
 tape:w'.tape=w.tape
 output:w'.output=w.output
 size:w.heap.size≤w'.heap.size
 block:∀k,k<w.heap.size→¬S k→w'.heap[k]? =w.heap[k]?
theorem Mq.of{S:Nat→Prop}{w w':World}{row:Option Nat}(g:w.grownBy w' row)(h:∀k,some k=row→S k):Mq S w w':=
 ⟨g.os,g.tape,g.output,g.size,fun k hk hn=>g.block k hk fun e=>hn (h k e)⟩
theorem Mq.trans{S:Nat→Prop}{a b c:World}(h:Mq S a b)(k:Mq S b c):Mq S a c:=
 ⟨k.os.trans h.os,k.tape.trans h.tape,k.output.trans h.output,Nat.le_trans h.size k.size,fun i hi hn=>(k.block i (Nat.lt_of_lt_of_le hi h.size) hn).trans (h.block i hi hn)⟩
theorem Mq.vb{S:Nat→Prop}{w w':World}{q:Nat}{cs:Array Value}{t:TypeId}(m:Mq S w w')(h:Vb w q cs t)(hn:¬S q):Vb w' q cs t:=(m.block q h.lt hn).trans h
theorem Mq.nums{S:Nat→Prop}{w w':World}{base:Nat}{v:Value}{zs:List Int}(m:Mq S w w')(h:Nums w base v zs)(hn:∀k,v.ownBlock=some k→¬S k):Nums w' base v zs:=by
 obtain⟨h1,h2|⟨g,cap,cur,hv,hg,hr,rest⟩⟩:=h
 ·exact⟨h1,.inl h2⟩
 ·refine⟨h1,.inr ⟨g,cap,cur,hv,hg,?_,rest⟩⟩
  rw[m.block g ((Array.getElem?_eq_some_iff.1 hr).1) (hn g (by rw[hv];rfl))]
  exact hr
theorem Mq.below{S:Nat→Prop}{a w w':World}(h:Below a.heap.size a w)(m:Mq S w w')(hn:∀k,S k→a.heap.size≤k):Below a.heap.size a w':=
 ⟨m.os.trans h.os,m.tape.trans h.tape,m.output.trans h.output,Nat.le_trans h.size m.size,fun k hk=>(m.block k (Nat.lt_of_lt_of_le hk h.size) (fun s=>by have:=hn k s;omega)).trans (h.block k hk)⟩
def Own4(r c i o:Value)(k:Nat):Prop:=r.ownBlock=some k∨c.ownBlock=some k∨i.ownBlock=some k∨o.ownBlock=some k
theorem Mq.hm{S:Nat→Prop}{w w':World}{base:Nat}{r c i o:Value}{H:Ht}(m:Mq S w w')(h:Hm w base r c i o H)(hn:∀k,Own4 r c i o k→¬S k):Hm w' base r c i o H:=
 ⟨m.nums h.r fun k e=>hn k (.inl e),m.nums h.c fun k e=>hn k (.inr (.inl e)),m.nums h.i fun k e=>hn k (.inr (.inr (.inl e))),m.nums h.o fun k e=>hn k (.inr (.inr (.inr e)))⟩
theorem Hm.own{w:World}{base:Nat}{r c i o:Value}{H:Ht}(h:Hm w base r c i o H)(k:Nat)(e:Own4 r c i o k):base≤k∧k<w.heap.size:=by
 rcases e with e|e|e|e
 ·exact h.r.lt k e
 ·exact h.c.lt k e
 ·exact h.i.lt k e
 ·exact h.o.lt k e
theorem hf_form(h:¬(H.regs.length=16∧H.csr.length=11∧H.regs.getD 0 0=0)):hfV H=1:=by
 have:H.form=false:=by
  cases hf:H.form
  ·rfl
  ·simp only[Ht.form,Bool.and_eq_true,decide_eq_true_eq]at hf
   exact absurd ⟨hf.1.1,hf.1.2,hf.2⟩ h
 simp[hfV,this]
theorem hf_words(h:H.regs.length=16∧H.csr.length=11∧H.regs.getD 0 0=0)(k:H.words=false):hfV H=3:=by
 have:H.form=true:=by simp only[Ht.form,Bool.and_eq_true,decide_eq_true_eq];exact⟨⟨h.1,h.2.1⟩,h.2.2⟩
 simp[hfV,this,k]
theorem hf_few(h:H.regs.length=16∧H.csr.length=11∧H.regs.getD 0 0=0)(k:H.words=true)(m:¬(H.inn.length≤40∧H.out.length≤40)):hfV H=2:=by
 have h1:H.form=true:=by simp only[Ht.form,Bool.and_eq_true,decide_eq_true_eq];exact⟨⟨h.1,h.2.1⟩,h.2.2⟩
 have h2:H.few=false:=by
  cases hf:H.few
  ·rfl
  ·simp only[Ht.few,Bool.and_eq_true,decide_eq_true_eq]at hf
   exact absurd hf m
 simp[hfV,h1,k,h2]
theorem hf_nice(h:H.regs.length=16∧H.csr.length=11∧H.regs.getD 0 0=0)(k:H.words=true)(m:H.inn.length≤40∧H.out.length≤40)(d:¬(0≤H.done∧H.done≤1000000000)):hfV H=3:=by
 have h1:H.form=true:=by simp only[Ht.form,Bool.and_eq_true,decide_eq_true_eq];exact⟨⟨h.1,h.2.1⟩,h.2.2⟩
 have h2:H.few=true:=by simp only[Ht.few,Bool.and_eq_true,decide_eq_true_eq];exact m
 have h3:H.nice=false:=by
  cases hf:H.nice
  ·rfl
  ·simp only[Ht.nice,Bool.and_eq_true,decide_eq_true_eq]at hf
   exact absurd hf d
 simp[hfV,h1,k,h2,h3]
theorem hf_stand(h:H.regs.length=16∧H.csr.length=11∧H.regs.getD 0 0=0)(k:H.words=true)(m:H.inn.length≤40∧H.out.length≤40)(d:0≤H.done∧H.done≤1000000000):hfV H=if standC H.csr then 0 else 1:=by
 have h1:H.form=true:=by simp only[Ht.form,Bool.and_eq_true,decide_eq_true_eq];exact⟨⟨h.1,h.2.1⟩,h.2.2⟩
 have h2:H.few=true:=by simp only[Ht.few,Bool.and_eq_true,decide_eq_true_eq];exact m
 have h3:H.nice=true:=by simp only[Ht.nice,Bool.and_eq_true,decide_eq_true_eq];exact d
 simp[hfV,h1,k,h2,h3]
theorem add_block(x:Addr)(i:Nat):(x.add i).block=x.block:=by unfold Addr.add;split<;>rfl
theorem Nums.ne_vb{w:World}{b m:Nat}{v:Value}{zs:List Int}{cs:Array Value}{t:TypeId}(h:Nums w b v zs)(hv:Vb w m cs t)(ht:t≠2):v.ownBlock≠some m:=by
 obtain⟨h1,⟨rfl,_⟩|⟨g,cap,cur,rfl,hg,hr,_⟩⟩:=h
 ·intro e;cases e
 ·intro e
  have e:g=m:=by simpa [Value.ownBlock]using e
  subst e
  unfold Vb at hv
  rw[hv]at hr
  cases hr
  exact ht rfl
theorem Rn.mq{S:Nat→Prop}{w w':World}{a:Option Addr}{len cap:Nat}{zs:List Int}(h:Rn w a len cap zs)(m:Mq S w w')(hn:∀x,a=some x→x.block<w.heap.size→¬S x.block):Rn w' a len cap zs:=by
 rcases h with h|⟨x,rfl,h1,h2,h3,h4⟩
 ·exact .inl h
 ·refine .inr ⟨x,rfl,h1,h2,h3,fun i hi=>?_⟩
  have hc:=h4 i hi
  have hl:x.block<w.heap.size:=by have:=World.block_lt_of_cell? w (x.add i) hc;rwa[add_block]at this
  rw[←hc]
  exact World.cell?_of_block (a:=x.add i) (by rw[add_block];exact m.block x.block hl (hn x rfl hl))
theorem Rv.mq{S:Nat→Prop}{w w':World}{v:Value}{zs:List Int}(h:Rv w v zs)(m:Mq S w w')(hn:∀k,v.ownBlock=some k→k<w.heap.size→¬S k):Rv w' v zs:=by
 obtain⟨a,cap,rfl,h2⟩:=h
 exact⟨a,cap,rfl,h2.mq m fun x e hl=>hn x.block (by rw[e];rfl) hl⟩
structure Hr(w:World)(r c i o:Value)(H:Ht):Prop where
 r:Rv w r H.regs
 c:Rv w c H.csr
 i:Rv w i H.inn
 o:Rv w o H.out
theorem Hr.stay{w w':World}{r c i o:Value}{H:Ht}(h:Hr w r c i o H)(b:Below w.heap.size w w'):Hr w' r c i o H:=⟨h.r.stay b,h.c.stay b,h.i.stay b,h.o.stay b⟩
theorem Hm.hr{w:World}{base:Nat}{r c i o:Value}{H:Ht}(h:Hm w base r c i o H):Hr w r c i o H:=⟨h.r.rv,h.c.rv,h.i.rv,h.o.rv⟩
theorem Hr.mq{S:Nat→Prop}{w w':World}{r c i o:Value}{H:Ht}(h:Hr w r c i o H)(m:Mq S w w')(hn:∀k,Own4 r c i o k→k<w.heap.size→¬S k):Hr w' r c i o H:=
 ⟨h.r.mq m fun k e=>hn k (.inl e),h.c.mq m fun k e=>hn k (.inr (.inl e)),h.i.mq m fun k e=>hn k (.inr (.inr (.inl e))),h.o.mq m fun k e=>hn k (.inr (.inr (.inr e)))⟩
theorem Nums.apt{w w':World}{base base':Nat}{v u:Value}{zs ys:List Int}(h:Nums w base v zs)(k:Nums w' base' u ys)(hb:w.heap.size≤base'):Apt v u:=own_ne h k hb
theorem Mq.refl(S:Nat→Prop)(w:World):Mq S w w:=⟨rfl,rfl,rfl,Nat.le_refl _,fun _ _ _=>rfl⟩
theorem Mq.set{S:Nat→Prop}{a w:World}(m:Mq S a w)(p:Addr)(u:Value)(hp:S p.block):Mq S a (w.setCell p u):=m.trans (Mq.of (grown_set w p u) fun k e=>by cases e;exact hp)
theorem Mq.ho{S:Nat→Prop}{base:Nat}{w w':World}(m:Mq S w w')(h:∀k,S k→k<base):Ho base w w':=⟨m.size,fun k hb hk=>m.block k hk fun e=>by have:=h k e;omega⟩
theorem Mq.under{S:Nat→Prop}{a w w':World}(b:Below a.heap.size a w)(m:Mq S w w')(h:∀k,S k→a.heap.size≤k):Below a.heap.size a w':=Mq.below b m h
variable{v:World}{q:Nat}{t:TypeId}{z0 z1 z2 z3 z4 z5 z6 z7 z8:Value}
theorem nine(h:Vb v q #[z0,z1,z2,z3,z4,z5,z6,z7,z8] t)(u0 u1 u2 u3 u4 u5 u6 u7 u8:Value):
  Vb (((((((((v.setCell ⟨q,0,none⟩ u0).setCell ⟨q,1,none⟩ u1).setCell ⟨q,2,none⟩ u2).setCell ⟨q,3,none⟩ u3).setCell ⟨q,4,none⟩ u4).setCell ⟨q,5,none⟩ u5).setCell ⟨q,6,none⟩ u6).setCell ⟨q,7,none⟩ u7).setCell ⟨q,8,none⟩ u8) q #[u0,u1,u2,u3,u4,u5,u6,u7,u8] t∧Mq (fun k=>k=q) v (((((((((v.setCell ⟨q,0,none⟩ u0).setCell ⟨q,1,none⟩ u1).setCell ⟨q,2,none⟩ u2).setCell ⟨q,3,none⟩ u3).setCell ⟨q,4,none⟩ u4).setCell ⟨q,5,none⟩ u5).setCell ⟨q,6,none⟩ u6).setCell ⟨q,7,none⟩ u7).setCell ⟨q,8,none⟩ u8):=by
 have h0:Vb (v.setCell ⟨q,0,none⟩ u0) q #[u0,z1,z2,z3,z4,z5,z6,z7,z8] t:=h.set 0 u0
 have h1:Vb ((v.setCell ⟨q,0,none⟩ u0).setCell ⟨q,1,none⟩ u1) q #[u0,u1,z2,z3,z4,z5,z6,z7,z8] t:=h0.set 1 u1
 have h2:Vb (((v.setCell ⟨q,0,none⟩ u0).setCell ⟨q,1,none⟩ u1).setCell ⟨q,2,none⟩ u2) q #[u0,u1,u2,z3,z4,z5,z6,z7,z8] t:=h1.set 2 u2
 have h3:Vb ((((v.setCell ⟨q,0,none⟩ u0).setCell ⟨q,1,none⟩ u1).setCell ⟨q,2,none⟩ u2).setCell ⟨q,3,none⟩ u3) q #[u0,u1,u2,u3,z4,z5,z6,z7,z8] t:=h2.set 3 u3
 have h4:Vb (((((v.setCell ⟨q,0,none⟩ u0).setCell ⟨q,1,none⟩ u1).setCell ⟨q,2,none⟩ u2).setCell ⟨q,3,none⟩ u3).setCell ⟨q,4,none⟩ u4) q #[u0,u1,u2,u3,u4,z5,z6,z7,z8] t:=h3.set 4 u4
 have h5:Vb ((((((v.setCell ⟨q,0,none⟩ u0).setCell ⟨q,1,none⟩ u1).setCell ⟨q,2,none⟩ u2).setCell ⟨q,3,none⟩ u3).setCell ⟨q,4,none⟩ u4).setCell ⟨q,5,none⟩ u5) q #[u0,u1,u2,u3,u4,u5,z6,z7,z8] t:=h4.set 5 u5
 have h6:Vb (((((((v.setCell ⟨q,0,none⟩ u0).setCell ⟨q,1,none⟩ u1).setCell ⟨q,2,none⟩ u2).setCell ⟨q,3,none⟩ u3).setCell ⟨q,4,none⟩ u4).setCell ⟨q,5,none⟩ u5).setCell ⟨q,6,none⟩ u6) q #[u0,u1,u2,u3,u4,u5,u6,z7,z8] t:=h5.set 6 u6
 have h7:Vb ((((((((v.setCell ⟨q,0,none⟩ u0).setCell ⟨q,1,none⟩ u1).setCell ⟨q,2,none⟩ u2).setCell ⟨q,3,none⟩ u3).setCell ⟨q,4,none⟩ u4).setCell ⟨q,5,none⟩ u5).setCell ⟨q,6,none⟩ u6).setCell ⟨q,7,none⟩ u7) q #[u0,u1,u2,u3,u4,u5,u6,u7,z8] t:=h6.set 7 u7
 have h8:Vb (((((((((v.setCell ⟨q,0,none⟩ u0).setCell ⟨q,1,none⟩ u1).setCell ⟨q,2,none⟩ u2).setCell ⟨q,3,none⟩ u3).setCell ⟨q,4,none⟩ u4).setCell ⟨q,5,none⟩ u5).setCell ⟨q,6,none⟩ u6).setCell ⟨q,7,none⟩ u7).setCell ⟨q,8,none⟩ u8) q #[u0,u1,u2,u3,u4,u5,u6,u7,u8] t:=h7.set 8 u8
 exact⟨h8,(((((((((Mq.refl (fun k=>k=q) v).set ⟨q,0,none⟩ u0 rfl).set ⟨q,1,none⟩ u1 rfl).set ⟨q,2,none⟩ u2 rfl).set ⟨q,3,none⟩ u3 rfl).set ⟨q,4,none⟩ u4 rfl).set ⟨q,5,none⟩ u5 rfl).set ⟨q,6,none⟩ u6 rfl).set ⟨q,7,none⟩ u7 rfl).set ⟨q,8,none⟩ u8 rfl⟩
theorem ten{v:World}{q:Nat}{t:TypeId}{z0 z1 z2 z3 z4 z5 z6 z7 z8 z9:Value}(h:Vb v q #[z0,z1,z2,z3,z4,z5,z6,z7,z8,z9] t)(u0 u1 u2 u3 u4 u5 u6 u7 u8 u9:Value):
  Vb ((((((((((v.setCell ⟨q,0,none⟩ u0).setCell ⟨q,1,none⟩ u1).setCell ⟨q,2,none⟩ u2).setCell ⟨q,3,none⟩ u3).setCell ⟨q,4,none⟩ u4).setCell ⟨q,5,none⟩ u5).setCell ⟨q,6,none⟩ u6).setCell ⟨q,7,none⟩ u7).setCell ⟨q,8,none⟩ u8).setCell ⟨q,9,none⟩ u9) q #[u0,u1,u2,u3,u4,u5,u6,u7,u8,u9] t∧Mq (fun k=>k=q) v ((((((((((v.setCell ⟨q,0,none⟩ u0).setCell ⟨q,1,none⟩ u1).setCell ⟨q,2,none⟩ u2).setCell ⟨q,3,none⟩ u3).setCell ⟨q,4,none⟩ u4).setCell ⟨q,5,none⟩ u5).setCell ⟨q,6,none⟩ u6).setCell ⟨q,7,none⟩ u7).setCell ⟨q,8,none⟩ u8).setCell ⟨q,9,none⟩ u9):=by
 have h0:Vb (v.setCell ⟨q,0,none⟩ u0) q #[u0,z1,z2,z3,z4,z5,z6,z7,z8,z9] t:=h.set 0 u0
 have h1:Vb ((v.setCell ⟨q,0,none⟩ u0).setCell ⟨q,1,none⟩ u1) q #[u0,u1,z2,z3,z4,z5,z6,z7,z8,z9] t:=h0.set 1 u1
 have h2:Vb (((v.setCell ⟨q,0,none⟩ u0).setCell ⟨q,1,none⟩ u1).setCell ⟨q,2,none⟩ u2) q #[u0,u1,u2,z3,z4,z5,z6,z7,z8,z9] t:=h1.set 2 u2
 have h3:Vb ((((v.setCell ⟨q,0,none⟩ u0).setCell ⟨q,1,none⟩ u1).setCell ⟨q,2,none⟩ u2).setCell ⟨q,3,none⟩ u3) q #[u0,u1,u2,u3,z4,z5,z6,z7,z8,z9] t:=h2.set 3 u3
 have h4:Vb (((((v.setCell ⟨q,0,none⟩ u0).setCell ⟨q,1,none⟩ u1).setCell ⟨q,2,none⟩ u2).setCell ⟨q,3,none⟩ u3).setCell ⟨q,4,none⟩ u4) q #[u0,u1,u2,u3,u4,z5,z6,z7,z8,z9] t:=h3.set 4 u4
 have h5:Vb ((((((v.setCell ⟨q,0,none⟩ u0).setCell ⟨q,1,none⟩ u1).setCell ⟨q,2,none⟩ u2).setCell ⟨q,3,none⟩ u3).setCell ⟨q,4,none⟩ u4).setCell ⟨q,5,none⟩ u5) q #[u0,u1,u2,u3,u4,u5,z6,z7,z8,z9] t:=h4.set 5 u5
 have h6:Vb (((((((v.setCell ⟨q,0,none⟩ u0).setCell ⟨q,1,none⟩ u1).setCell ⟨q,2,none⟩ u2).setCell ⟨q,3,none⟩ u3).setCell ⟨q,4,none⟩ u4).setCell ⟨q,5,none⟩ u5).setCell ⟨q,6,none⟩ u6) q #[u0,u1,u2,u3,u4,u5,u6,z7,z8,z9] t:=h5.set 6 u6
 have h7:Vb ((((((((v.setCell ⟨q,0,none⟩ u0).setCell ⟨q,1,none⟩ u1).setCell ⟨q,2,none⟩ u2).setCell ⟨q,3,none⟩ u3).setCell ⟨q,4,none⟩ u4).setCell ⟨q,5,none⟩ u5).setCell ⟨q,6,none⟩ u6).setCell ⟨q,7,none⟩ u7) q #[u0,u1,u2,u3,u4,u5,u6,u7,z8,z9] t:=h6.set 7 u7
 have h8:Vb (((((((((v.setCell ⟨q,0,none⟩ u0).setCell ⟨q,1,none⟩ u1).setCell ⟨q,2,none⟩ u2).setCell ⟨q,3,none⟩ u3).setCell ⟨q,4,none⟩ u4).setCell ⟨q,5,none⟩ u5).setCell ⟨q,6,none⟩ u6).setCell ⟨q,7,none⟩ u7).setCell ⟨q,8,none⟩ u8) q #[u0,u1,u2,u3,u4,u5,u6,u7,u8,z9] t:=h7.set 8 u8
 have h9:Vb ((((((((((v.setCell ⟨q,0,none⟩ u0).setCell ⟨q,1,none⟩ u1).setCell ⟨q,2,none⟩ u2).setCell ⟨q,3,none⟩ u3).setCell ⟨q,4,none⟩ u4).setCell ⟨q,5,none⟩ u5).setCell ⟨q,6,none⟩ u6).setCell ⟨q,7,none⟩ u7).setCell ⟨q,8,none⟩ u8).setCell ⟨q,9,none⟩ u9) q #[u0,u1,u2,u3,u4,u5,u6,u7,u8,u9] t:=h8.set 9 u9
 exact⟨h9,((((((((((Mq.refl (fun k=>k=q) v).set ⟨q,0,none⟩ u0 rfl).set ⟨q,1,none⟩ u1 rfl).set ⟨q,2,none⟩ u2 rfl).set ⟨q,3,none⟩ u3 rfl).set ⟨q,4,none⟩ u4 rfl).set ⟨q,5,none⟩ u5 rfl).set ⟨q,6,none⟩ u6 rfl).set ⟨q,7,none⟩ u7 rfl).set ⟨q,8,none⟩ u8 rfl).set ⟨q,9,none⟩ u9 rfl⟩
theorem zE9(h:Vb v q #[z0,z1,z2,z3,z4,z5,z6,z7,z8] t)(u0 u1 u2 u3 u4 u5 u6 u7 u8:Value):∃V,(((((((((v.setCell ⟨q,0,none⟩ u0).setCell ⟨q,1,none⟩ u1).setCell ⟨q,2,none⟩ u2).setCell ⟨q,3,none⟩ u3).setCell ⟨q,4,none⟩ u4).setCell ⟨q,5,none⟩ u5).setCell ⟨q,6,none⟩ u6).setCell ⟨q,7,none⟩ u7).setCell ⟨q,8,none⟩ u8)=V∧Hid (Vb V q #[u0,u1,u2,u3,u4,u5,u6,u7,u8] t∧Mq (fun k=>k=q) v V):=⟨_,rfl,nine h u0 u1 u2 u3 u4 u5 u6 u7 u8⟩
theorem i_clone(a:Option Addr)(n cap:Nat)(zs:List Int)(w:World)(h:Rn w a n cap zs)(hn:n≤100000000):
  Calls Tryz.prog 66 #[.slice a n cap] w fun e w'=>∃v,e=.returned v∧Nums w' w.heap.size v zs∧Below w.heap.size w w':=by
 cases a with
 |none=>
  obtain⟨h1,h2,h3⟩:n=0∧cap=0∧zs=[]:=by
   rcases h with⟨_,h1,h2,h3⟩|⟨x,e,_⟩
   ·exact⟨h1,h2,h3⟩
   ·cases e
  subst h1 h2 h3
  have hnil:∀W,(binOp .eql 32 (.slice none 0 0) (.slice none 0 0)).run Tryz.prog W=.ok (.bool true) W:=fun W=>Lib.run_eql_slice_nil_nil W _ _ Tryz.underlying32
  go_enter Tryz.func66,Tryz.ntmps66
  go_wp2_with fail
  go_ret
  exact⟨_,rfl,Nums.nil _ _,Below.refl _ _⟩
 |some x=>
  have HR:=hid h
  have HL:=hid hn
  clear h hn
  have hnil:∀W,(binOp .eql 32 (.slice (some x) n cap) (.slice none 0 0)).run Tryz.prog W=.ok (.bool false) W:=fun W=>Lib.run_eql_slice_some_nil W _ _ _ Tryz.underlying32
  go_enter Tryz.func66,Tryz.ntmps66
  go_wp2_with (at_builtin;refine wp_appx _ rfl _ _ rfl w.heap.size _ [] rfl (nums_none _ _ (Nat.le_refl _)) x n cap zs rfl (HR.out.stay (al (Below.refl _ _) _)) (by have:=HL.out;simp;omega) (by simp) ?_;intro v' w' hN' hG')
  have B:Below w.heap.size w w':=below_of_grown (al (Below.refl _ _) _) hG' (nums_none _ _ (Nat.le_refl _)) (Nat.le_refl _)
  go_wp2_with fail
  go_ret
  exact⟨_,rfl,by simpa using hN',B⟩
def gt(zs:List Int)(j:Nat):Int:=zs.getD j 0
def mca(H:Ht)(i o:Value):Array Value:=#[.int .i64 (gt H.regs 0),.int .i64 (gt H.regs 1),.int .i64 (gt H.regs 2),.int .i64 (gt H.regs 3),.int .i64 (gt H.regs 4),.int .i64 (gt H.regs 5),.int .i64 (gt H.regs 6),.int .i64 (gt H.regs 7),.int .i64 (gt H.regs 8),.int .i64 (gt H.regs 9),.int .i64 (gt H.regs 10),.int .i64 (gt H.regs 11),.int .i64 (gt H.regs 12),.int .i64 (gt H.regs 13),.int .i64 (gt H.regs 14),.int .i64 (gt H.regs 15),.int .i64 H.pc,.int .i64 (gt H.csr 0),.int .i64 (gt H.csr 1),.int .i64 (gt H.csr 2),.int .i64 (gt H.csr 3),.int .i64 (gt H.csr 4),.int .i64 (gt H.csr 5),.int .i64 (gt H.csr 6),.int .i64 (gt H.csr 7),.int .i64 (gt H.csr 8),.int .i64 (gt H.csr 9),.int .i64 (gt H.csr 10),.bool H.halted,.bool H.waiting,.bool H.rung,.int .i64 H.done,i,o]
theorem mca_lit(H:Ht)(i o:Value): #[.int .i64 (gt H.regs 0),.int .i64 (gt H.regs 1),.int .i64 (gt H.regs 2),.int .i64 (gt H.regs 3),.int .i64 (gt H.regs 4),.int .i64 (gt H.regs 5),.int .i64 (gt H.regs 6),.int .i64 (gt H.regs 7),.int .i64 (gt H.regs 8),.int .i64 (gt H.regs 9),.int .i64 (gt H.regs 10),.int .i64 (gt H.regs 11),.int .i64 (gt H.regs 12),.int .i64 (gt H.regs 13),.int .i64 (gt H.regs 14),.int .i64 (gt H.regs 15),.int .i64 H.pc,.int .i64 (gt H.csr 0),.int .i64 (gt H.csr 1),.int .i64 (gt H.csr 2),.int .i64 (gt H.csr 3),.int .i64 (gt H.csr 4),.int .i64 (gt H.csr 5),.int .i64 (gt H.csr 6),.int .i64 (gt H.csr 7),.int .i64 (gt H.csr 8),.int .i64 (gt H.csr 9),.int .i64 (gt H.csr 10),.bool H.halted,.bool H.waiting,.bool H.rung,.int .i64 H.done,i,o]=mca H i o:=rfl
theorem mca_one(H:Ht)(i o:Value)(hi:i.oneCell'=true)(ho:o.oneCell'=true):(mca H i o).all (·.oneCell')=true:=by
 have h1:∀z:Int,(Value.int .i64 z).oneCell'=true:=fun _=>rfl
 have h2:∀z:Bool,(Value.bool z).oneCell'=true:=fun _=>rfl
 simp[mca,h1,h2,hi,ho]
end Go.Proofs.YtignbeibcakgpaaGreatDoor
