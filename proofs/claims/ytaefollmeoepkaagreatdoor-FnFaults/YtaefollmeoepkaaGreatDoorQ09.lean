import Derived.Test.YtaefollmeoepkaaGreatDoorQ06
import Derived.Test.YtaefollmeoepkaaGreatDoorQ07
namespace Go.Proofs.YtaefollmeoepkaaGreatDoor
set_option maxRecDepth 20000
set_option maxHeartbeats 16000000
open Go.RowKit
set_option linter.unusedVariables false
structure Hm(w:World)(base:Nat)(r c i o:Value)(H:Ht):Prop where
 r:Nums w base r H.regs
 c:Nums w base c H.csr
 i:Nums w base i H.inn
 o:Nums w base o H.out
theorem Hm.keep{w w':World}{base:Nat}{r c i o:Value}{H:Ht}(h:Hm w base r c i o H)(b:Below w.heap.size w w'):Hm w' base r c i o H:=⟨h.r.keep b,h.c.keep b,h.i.keep b,h.o.keep b⟩
theorem Hm.mono{w:World}{base base':Nat}{r c i o:Value}{H:Ht}(h:Hm w base r c i o H)(hb:base'≤base):Hm w base' r c i o H:=⟨h.r.mono hb,h.c.mono hb,h.i.mono hb,h.o.mono hb⟩
theorem Hm.ho{w w':World}{base:Nat}{r c i o:Value}{H:Ht}(h:Hm w base r c i o H)(k:Ho base w w'):Hm w' base r c i o H:=⟨h.r.ho k,h.c.ho k,h.i.ho k,h.o.ho k⟩
def Apt(a b:Value):Prop:=a.ownBlock=none∨a.ownBlock≠b.ownBlock
structure Ha(r c i o:Value):Prop where
 rc:Apt r c
 ri:Apt r i
 ro:Apt r o
 ci:Apt c i
 co:Apt c o
 io:Apt i o
theorem Apt.swap{a b:Value}(h:Apt a b):Apt b a:=by
 rcases h with h|h
 ·by_cases hb:b.ownBlock=none
  ·exact .inl hb
  ·exact .inr (by rw[h];exact hb)
 ·exact .inr (Ne.symm h)
structure Mq(S:Nat→Prop)(w w':World):Prop where
 os:w'.os=w.os
 tape:w'.tape=w.tape
 output:w'.output=w.output
 size:w.heap.size≤w'.heap.size
 block:∀k,k<w.heap.size→¬S k→w'.heap[k]? =w.heap[k]?
theorem Mq.of{S:Nat→Prop}{w w':World}{row:Option Nat}(g:w.grownBy w' row)(h:∀k,some k=row→S k):Mq S w w':=
 ⟨g.os,g.tape,g.output,g.size,fun k hk hn=>g.block k hk fun e=>hn (h k e)⟩
theorem Mq.trans{S:Nat→Prop}{a b c:World}(h:Mq S a b)(k:Mq S b c):Mq S a c:=
 ⟨k.os.trans h.os,k.tape.trans h.tape,k.output.trans h.output,Nat.le_trans h.size k.size,fun i hi hn=>(k.block i (Nat.lt_of_lt_of_le hi h.size) hn).trans (h.block i hi hn)⟩
theorem Mq.vb{S:Nat→Prop}{w w':World}{q:Nat}{cs:Array Value}{t:TypeId}(m:Mq S w w')(h:Vb w q cs t)(hn:¬S q):Vb w' q cs t:=(m.block q h.lt hn).trans h
theorem Mq.nums{S:Nat→Prop}{w w':World}{base:Nat}{v:Value}{zs:List Int}(m:Mq S w w')(h:Nums w base v zs)(hn:∀k,v.ownBlock=some k→¬S k):Nums w' base v zs:=by
 obtain⟨h1,h2|⟨g,cap,cur,hv,hg,hr,rest⟩⟩:=h
 ·exact⟨h1,.inl h2⟩
 ·refine⟨h1,.inr ⟨g,cap,cur,hv,hg,?_,rest⟩⟩
  rw[m.block g ((Array.getElem?_eq_some_iff.1 hr).1) (hn g (by rw[hv];rfl))]
  exact hr
theorem Mq.below{S:Nat→Prop}{a w w':World}(h:Below a.heap.size a w)(m:Mq S w w')(hn:∀k,S k→a.heap.size≤k):Below a.heap.size a w':=
 ⟨m.os.trans h.os,m.tape.trans h.tape,m.output.trans h.output,Nat.le_trans h.size m.size,fun k hk=>(m.block k (Nat.lt_of_lt_of_le hk h.size) (fun s=>by have:=hn k s;omega)).trans (h.block k hk)⟩
def Own4(r c i o:Value)(k:Nat):Prop:=r.ownBlock=some k∨c.ownBlock=some k∨i.ownBlock=some k∨o.ownBlock=some k
theorem Mq.hm{S:Nat→Prop}{w w':World}{base:Nat}{r c i o:Value}{H:Ht}(m:Mq S w w')(h:Hm w base r c i o H)(hn:∀k,Own4 r c i o k→¬S k):Hm w' base r c i o H:=
 ⟨m.nums h.r fun k e=>hn k (.inl e),m.nums h.c fun k e=>hn k (.inr (.inl e)),m.nums h.i fun k e=>hn k (.inr (.inr (.inl e))),m.nums h.o fun k e=>hn k (.inr (.inr (.inr e)))⟩
theorem Hm.own{w:World}{base:Nat}{r c i o:Value}{H:Ht}(h:Hm w base r c i o H)(k:Nat)(e:Own4 r c i o k):base≤k∧k<w.heap.size:=by
 rcases e with e|e|e|e
 ·exact h.r.lt k e
 ·exact h.c.lt k e
 ·exact h.i.lt k e
 ·exact h.o.lt k e
end Go.Proofs.YtaefollmeoepkaaGreatDoor
