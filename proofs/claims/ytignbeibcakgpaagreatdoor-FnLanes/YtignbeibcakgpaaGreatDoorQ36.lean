import Derived.Test.YtignbeibcakgpaaGreatDoorQ34
namespace Go.Proofs.YtignbeibcakgpaaGreatDoor
set_option maxRecDepth 20000
set_option maxHeartbeats 16000000
open Go.RowKit
set_option linter.unusedVariables false
theorem Turn.grown{b:Nat}{w w':World}(t:Turn b w w'):w.grownBy w' (some b):=⟨t.os,t.tape,t.output,t.size,fun k hk hn=>t.block k hk (fun e=>hn (by rw[e]))⟩
theorem Src.gr{w w':World}{b k:Nat}{a:Option Addr}{len cap:Nat}{zs:List Int}{row:Option Nat}(s:Src w b k a len cap zs)(g:w.grownBy w' row)(hn:∀x,x≤b→some x≠row):Src w' b k a len cap zs:=by
 have hh:=s.here
 refine⟨cell_grown g s.code (hn b (Nat.le_refl _)),cell_grown g s.count (hn b (Nat.le_refl _)),?_,?_,s.away,Nat.lt_of_lt_of_le hh g.size⟩
 ·rw[World.frozen?_of_block (w:=w) (g.block b hh (hn b (Nat.le_refl _)))];exact s.free
 ·rcases s.row with h0|⟨x,rfl,h1,h2,h3,h4,h5⟩
  ·exact .inl h0
  ·refine .inr ⟨x,rfl,h1,h2,h3,fun i hi=>cell_grown g (h4 i hi) ?_,h5⟩
   have hx:=s.away x rfl (by omega)
   rw[src_block]
   exact hn _ (by omega)
theorem Src.put{w:World}{b k:Nat}{a:Option Addr}{len cap:Nat}{zs:List Int}(s:Src w b k a len cap zs)(p:Addr)(u:Value)(hp:b<p.block):Src (w.setCell p u) b k a len cap zs:=
 s.gr (grown_set w p u) fun x hx e=>by have:=Option.some.inj e;omega
theorem Src.rowed{w w':World}{b k base e sz n:Nat}{a:Option Addr}{len cap:Nat}{zs:List Int}{v:Value}{xs:List Value}(s:Src w b k a len cap zs)(h:w.ownsRow base e sz v n xs)(hb:b<base)(g:w.grownBy w' v.ownBlock):Src w' b k a len cap zs:=
 s.gr g fun x hx e=>by have:=(World.ownsRow.lt h x e.symm).1;omega
theorem Turn.put{b:Nat}{a w:World}(t:Turn b a w)(p:Addr)(u:Value)(hp:a.heap.size≤p.block):Turn b a (w.setCell p u):=
 ⟨t.os,t.tape,t.output,by have:=t.size;simpa [World.setCell]using this,fun k hk hn=>by rw[heap_setCell_other w p k u (by omega)];exact t.block k hk hn⟩
theorem Turn.rowed{b base e sz n:Nat}{a w w':World}{v:Value}{xs:List Value}(t:Turn b a w)(h:w.ownsRow base e sz v n xs)(hb:a.heap.size≤base)(g:w.grownBy w' v.ownBlock):Turn b a w':=
 ⟨g.os.trans t.os,g.tape.trans t.tape,g.output.trans t.output,Nat.le_trans t.size g.size,fun k hk hn=>by
  rw[g.block k (Nat.lt_of_lt_of_le hk t.size) (fun e=>by have:=(World.ownsRow.lt h k e.symm).1;omega)]
  exact t.block k hk hn⟩
def Bk(w:World)(q:Nat)(cs:Array Value)(t:TypeId):Prop:=w.heap[q]? =some (.cells cs t (0,0))
variable{w:World}{q:Nat}{cs:Array Value}{t:TypeId}
theorem Bk.cell(h:Bk w q cs t){i:Nat}{v:Value}(hi:cs[i]? =some v):w.cell? ⟨q,i,none⟩=some v:=by
 unfold Bk at h
 simp[World.cell?,h,hi]
theorem Bk.free(h:Bk w q cs t)(i:Nat):w.frozen? ⟨q,i,none⟩=false:=by
 unfold Bk at h
 simp[World.frozen?,h]
theorem Bk.lt(h:Bk w q cs t):q<w.heap.size:=by
 rcases Nat.lt_or_ge q w.heap.size with h1|h1
 ·exact h1
 ·unfold Bk at h
  rw[Array.getElem?_eq_none h1]at h
  cases h
theorem Bk.new(w:World)(cs:Array Value)(t:TypeId):Bk (w.alloc (.cells cs t)) w.heap.size cs t:=heap_alloc_new w _
theorem Bk.gr{w w':World}{q:Nat}{cs:Array Value}{t:TypeId}{row:Option Nat}(h:Bk w q cs t)(g:w.grownBy w' row)(hn:some q≠row):Bk w' q cs t:=(g.block q h.lt hn).trans h
theorem Bk.keep{w w':World}{q:Nat}{cs:Array Value}{t:TypeId}(h:Bk w q cs t)(b:Below w.heap.size w w'):Bk w' q cs t:=(b.block q h.lt).trans h
theorem Bk.turn{w w':World}{q b:Nat}{cs:Array Value}{t:TypeId}(h:Bk w q cs t)(k:Turn b w w')(hb:q≠b):Bk w' q cs t:=(k.block q h.lt hb).trans h
theorem Bk.put(h:Bk w q cs t)(p:Addr)(u:Value)(hp:q≠p.block):Bk (w.setCell p u) q cs t:=(heap_setCell_other w p q u hp).trans h
theorem Bk.set(h:Bk w q cs t)(i:Nat)(u:Value):Bk (w.setCell ⟨q,i,none⟩ u) q (cs.setIfInBounds i u) t:=heap_setCell_same w q i cs t u h
theorem Bk.row{w:World}{q base e sz n:Nat}{cs:Array Value}{t:TypeId}{v:Value}{xs:List Value}(h:Bk w q cs t)(k:w.ownsRow base e sz v n xs)(hne:e≠t):v.ownBlock≠some q:=by
 obtain⟨h1,⟨rfl,h3⟩|⟨g,cap,cur,rfl,hg,hr,rest⟩⟩:=k
 ·intro e;cases e
 ·intro e
  cases e
  unfold Bk at h
  rw[hr]at h
  cases h
  exact hne rfl
def Off(w:World)(base:Nat)(row:Option Nat):Prop:=∀q,row=some q→q<base∨∃cs,Bk w q cs 29
theorem Off.own{w:World}{base e sz n:Nat}{row:Option Nat}{v:Value}{xs:List Value}(h:Off w base row)(k:w.ownsRow base e sz v n xs)(hne:e≠29):v.ownBlock=none∨v.ownBlock≠row:=by
 cases hv:v.ownBlock with
 |none=>exact .inl rfl
 |some g=>
  refine .inr fun e=>?_
  rcases h g e.symm with h1|⟨cs,h1⟩
  ·have:=(World.ownsRow.lt k g hv).1
   omega
  ·exact h1.row k hne hv
def So(w:World)(base:Nat)(v:Value)(oss:List (List Int)):Prop:=
 ∃xs:List Value,xs.length=oss.length∧w.ownsRow base 32 1 v oss.length xs∧∀i,i<oss.length→Nums w base (xs.getD i (.slice none 0 0)) (oss.getD i [])
theorem So.nil(w:World)(base:Nat):So w base (.slice none 0 0) []:=⟨[],rfl,World.ownsRow_nil w base _ _,fun i hi=>absurd hi (Nat.not_lt_zero _)⟩
theorem So.shape{w:World}{base:Nat}{v:Value}{oss:List (List Int)}(h:So w base v oss):∃a cap,v=.slice a oss.length cap∧oss.length≤cap∧cap≤maxLen∧(0<oss.length→∃g,a=some ⟨g,0,none⟩):=by
 obtain⟨xs,h0,h',_⟩:=h
 obtain⟨h1,⟨rfl,h3⟩|⟨g,cap,cur,rfl,_,_,h4,h5,_⟩⟩:=h'
 ·exact⟨none,0,by rw[h3],by omega,by unfold maxLen;omega,fun hz=>by omega⟩
 ·exact⟨_,_,rfl,h4,h5,fun _=>⟨g,rfl⟩⟩
theorem So.off{w w':World}{base:Nat}{v:Value}{oss:List (List Int)}{row:Option Nat}(h:So w base v oss)(g:w.grownBy w' row)(ho:Off w base row):So w' base v oss:=by
 obtain⟨xs,h0,h1,h2⟩:=h
 exact⟨xs,h0,World.ownsRow.kept h1 g (ho.own h1 (by decide)),fun i hi=>(h2 i hi).kept g (ho.own (h2 i hi) (by decide))⟩
theorem So.other{w w':World}{base base' e sz n:Nat}{v u:Value}{oss:List (List Int)}{ys:List Value}(h:So w base v oss)(k:w.ownsRow base' e sz u n ys)(g:w.grownBy w' u.ownBlock)(h1:e≠2)(h2:e≠32):So w' base v oss:=by
 obtain⟨xs,h0,ha,hb⟩:=h
 exact⟨xs,h0,World.ownsRow.kept ha g (own_types ha k (Ne.symm h2)),fun i hi=>(hb i hi).kept g (own_types (hb i hi) k (Ne.symm h1))⟩
theorem So.keep{w w':World}{base:Nat}{v:Value}{oss:List (List Int)}(h:So w base v oss)(b:Below w.heap.size w w'):So w' base v oss:=
 h.off (below_grown b none) fun q e=>by cases e
theorem So.push{w w':World}{base:Nat}{v v' x:Value}{oss:List (List Int)}{zs:List Int}(h:So w base v oss)(hx:Nums w base x zs)
  (hr:∀xs:List Value,xs.length=oss.length→w.ownsRow base 32 1 v oss.length xs→w'.ownsRow base 32 1 v' (oss.length+1) (xs++ [x])) (hg:w.grownBy w' v.ownBlock):So w' base v' (oss++ [zs]):=by
 obtain⟨xs,h0,h1,h2⟩:=h
 have hk:∀{u:Value} {rs:List Int},Nums w base u rs→Nums w' base u rs:=fun hu=>hu.kept hg (own_types hu h1 (by decide))
 refine⟨xs++ [x],by simp[h0],by rw[List.length_append];exact hr xs h0 h1,fun i hi=>?_⟩
 rw[List.length_append,List.length_singleton]at hi
 by_cases e:i<oss.length
 ·have e1:(xs++ [x]).getD i (.slice none 0 0)=xs.getD i (.slice none 0 0):=by
   rw[List.getD,List.getD,List.getElem?_append_left (by omega)]
  have e2:(oss++ [zs]).getD i []=oss.getD i []:=by rw[List.getD,List.getD,List.getElem?_append_left e]
  rw[e1,e2]
  exact hk (h2 i e)
 ·obtain rfl:i=oss.length:=by omega
  have e1:(xs++ [x]).getD oss.length (.slice none 0 0)=x:=by
   rw[List.getD,List.getElem?_append_right (by omega),h0];simp
  have e2:(oss++ [zs]).getD oss.length []=zs:=by rw[List.getD,List.getElem?_append_right (Nat.le_refl _)];simp
  rw[e1,e2]
  exact hk hx
theorem So.read{w:World}{base n cap:Nat}{a:Option Addr}{oss:List (List Int)}(h:So w base (.slice a n cap) oss):IsS2 w a n cap oss:=by
 obtain⟨xs,h0,h1,h2⟩:=h
 have h1':=h1
 obtain⟨k1,⟨hv,k3⟩|⟨g,c,cur,hv,_,_,k4,k5,_⟩⟩:=h1
 ·cases hv
  exact .inl ⟨rfl,rfl,rfl,List.eq_nil_of_length_eq_zero (by omega)⟩
 ·cases hv
  refine .inr ⟨⟨g,0,none⟩,rfl,k4,k5,rfl,fun i hi=>?_⟩
  have hc:=World.ownsRow.cellAt h1' i (by omega)
  have hx:=h2 i hi
  obtain⟨a',cap',hs,_⟩:=hx.shape
  refine⟨a',_,cap',?_,by rw[hs]at hx;exact hx.read⟩
  rw[Addr.add_lit,Nat.zero_add,hc,←hs,List.getD,List.getElem?_eq_getElem (by omega)]
  rfl
variable{ops:Array Oper}{rest:List Oper}{o:Oper}{act:Act}{Q:Exit→Act→World→Prop}
theorem wp_slo(w:World)(hgd:o.guard=none)(s x:Operand)
  (ho:o.op=.call { callee:=.builtin .append,args:=#[s,x],argTypes:=#[24,24]}) (base:Nat) (v:Value) (oss:List (List Int)) (hs:act.eval s=v) (hN:So w base v oss)
  (g:Nat) (a1:Option Addr) (n1 c1:Nat) (zs:List Int) (hx:act.eval x=.slice (some ⟨g,0,none⟩) 1 1) (hc:w.cell? ⟨g,0,none⟩=some (.slice a1 n1 c1)) (hb:Nums w base (.slice a1 n1 c1) zs)
  (hlen:oss.length≤1000) (hbase:base≤w.heap.size)
  (h:∀v' w',So w' base v' (oss++ [zs])→w.grownBy w' v.ownBlock→wpList Tryz.prog ops Q rest (act.put o.dst v') w'):wpList Tryz.prog ops Q (o::rest) act w:=by
 obtain⟨i,hi,hz0,hz1,hz2⟩:=info_parts info_sl
 have hN':=hN
 obtain⟨xs,h0,h1,h2⟩:=hN
 refine wpList_append_own w hgd s x 24 ho base 32 i _ 1 24 Tryz.underlying24 hi hz0 hz1 hz2 rfl (by decide) v oss.length _ hs h1 ⟨g,0,none⟩ 1 1 [.slice a1 n1 c1] hx rfl ?_ (by intro u hu;rw[List.mem_singleton]at hu;subst hu;rfl) (by unfold maxLen;omega) (by omega) hbase ?_
 ·intro j u hj
  rw[Addr.add_lit,Nat.zero_add]
  match j,hj with
  |0,hj=>rw[hc];exact hj
  |j+1,hj=>simp at hj
 ·intro v' w' hown hgrow _
  refine h v' w' ?_ hgrow
  have hk:∀{u:Value} {rs:List Int},Nums w base u rs→Nums w' base u rs:=fun hu=>hu.kept hgrow (own_types hu h1 (by decide))
  refine⟨xs++ [.slice a1 n1 c1],by simp[h0],by rw[List.length_append];exact hown,fun i hi=>?_⟩
  rw[List.length_append,List.length_singleton]at hi
  by_cases e:i<oss.length
  ·have e1:(xs++ [Value.slice a1 n1 c1]).getD i (.slice none 0 0)=xs.getD i (.slice none 0 0):=by
    rw[List.getD,List.getD,List.getElem?_append_left (by omega)]
   have e2:(oss++ [zs]).getD i []=oss.getD i []:=by rw[List.getD,List.getD,List.getElem?_append_left e]
   rw[e1,e2]
   exact hk (h2 i e)
  ·obtain rfl:i=oss.length:=by omega
   have e1:(xs++ [Value.slice a1 n1 c1]).getD oss.length (.slice none 0 0)=.slice a1 n1 c1:=by
    rw[List.getD,List.getElem?_append_right (by omega),h0];simp
   have e2:(oss++ [zs]).getD oss.length []=zs:=by rw[List.getD,List.getElem?_append_right (Nat.le_refl _)];simp
   rw[e1,e2]
   exact hk hb
structure Dv(w:World)(base:Nat)(v0 v1 v2 v3:Value)(P:Plc):Prop where
 own:So w base v0 P.own
 lanes:Ls 42 w base v1 P.lanes
 bells:Prs 148 w base v2 P.bells
 plan:Prs 119 w base v3 P.plan
theorem Dv.nil(w:World)(base:Nat):Dv w base (.slice none 0 0) (.slice none 0 0) (.slice none 0 0) (.slice none 0 0) ⟨[],[],[],[]⟩:=⟨So.nil _ _,Ls.nil _ _ _,Prs.nil _ _ _,Prs.nil _ _ _⟩
theorem Dv.off{w w':World}{base:Nat}{v0 v1 v2 v3:Value}{P:Plc}{row:Option Nat}(h:Dv w base v0 v1 v2 v3 P)(g:w.grownBy w' row)(ho:Off w base row):Dv w' base v0 v1 v2 v3 P:=
 ⟨h.own.off g ho,World.ownsRow.kept h.lanes g (ho.own h.lanes (by decide)),World.ownsRow.kept h.bells g (ho.own h.bells (by decide)),World.ownsRow.kept h.plan g (ho.own h.plan (by decide))⟩
theorem Dv.keep{w w':World}{base:Nat}{v0 v1 v2 v3:Value}{P:Plc}(h:Dv w base v0 v1 v2 v3 P)(b:Below w.heap.size w w'):Dv w' base v0 v1 v2 v3 P:=
 h.off (below_grown b none) fun q e=>by cases e
theorem Dv.turn{w w':World}{base b:Nat}{v0 v1 v2 v3:Value}{P:Plc}(h:Dv w base v0 v1 v2 v3 P)(t:Turn b w w')(hb:b<base):Dv w' base v0 v1 v2 v3 P:=
 h.off t.grown fun q e=> .inl (by cases e;exact hb)
theorem Dv.put{w:World}{base q i:Nat}{v0 v1 v2 v3:Value}{P:Plc}{cs:Array Value}(h:Dv w base v0 v1 v2 v3 P)(hq:Bk w q cs 29)(u:Value):Dv (w.setCell ⟨q,i,none⟩ u) base v0 v1 v2 v3 P:=
 h.off (grown_set w _ u) fun k e=> .inr ⟨cs,by cases e;exact hq⟩
theorem Dv.shape{w:World}{base:Nat}{v0 v1 v2 v3:Value}{P:Plc}(h:Dv w base v0 v1 v2 v3 P):∃a0 c0 a1 c1 a2 c2 a3 c3,v0=.slice a0 P.own.length c0∧v1=.slice a1 P.lanes.length c1∧v2=.slice a2 P.bells.length c2∧v3=.slice a3 P.plan.length c3:=by
 obtain⟨a0,c0,h0,_⟩:=h.own.shape
 obtain⟨a1,c1,h1,_⟩:=h.lanes.shape
 obtain⟨a2,c2,h2,_⟩:=h.bells.shape
 obtain⟨a3,c3,h3,_⟩:=h.plan.shape
 exact⟨a0,c0,a1,c1,a2,c2,a3,c3,h0,h1,h2,h3⟩
theorem Dv.pl{w:World}{base:Nat}{a0 a1 a2 a3:Option Addr}{n0 c0 n1 c1 n2 c2 n3 c3:Nat}{P:Plc}(h:Dv w base (.slice a0 n0 c0) (.slice a1 n1 c1) (.slice a2 n2 c2) (.slice a3 n3 c3) P):Pl w a0 n0 c0 a1 n1 c1 a2 n2 c2 a3 n3 c3 P:=
 ⟨h.own.read,h.lanes.read,h.bells.read,h.plan.read⟩
theorem Dv.polAt{w:World}{base q:Nat}{v0 v1 v2 v3:Value}{P:Plc}(h:Dv w base v0 v1 v2 v3 P)(hq:Bk w q #[v0,v1,v2,v3] 29):PolAt w q P:=by
 obtain⟨a0,c0,a1,c1,a2,c2,a3,c3,rfl,rfl,rfl,rfl⟩:=h.shape
 exact⟨a0,_,c0,a1,_,c1,a2,_,c2,a3,_,c3,hq.cell rfl,hq.cell rfl,hq.cell rfl,hq.cell rfl,h.pl⟩
theorem Dv.setOwn{w w':World}{base:Nat}{v0 v1 v2 v3 v0':Value}{P:Plc}{oss:List (List Int)}(h:Dv w base v0 v1 v2 v3 P)(k:So w' base v0' oss)(g:w.grownBy w' v0.ownBlock):Dv w' base v0' v1 v2 v3 ⟨oss,P.lanes,P.bells,P.plan⟩:=by
 obtain⟨xs,h0,h1,h2⟩:=h.own
 exact⟨k,World.ownsRow.kept h.lanes g (own_types h.lanes h1 (by decide)),World.ownsRow.kept h.bells g (own_types h.bells h1 (by decide)),World.ownsRow.kept h.plan g (own_types h.plan h1 (by decide))⟩
variable{w w':World}{base:Nat}{v0 v1 v2 v3 v':Value}{P:Plc}{rs:List (Int×Int)}
theorem Dv.setBells(h:Dv w base v0 v1 v2 v3 P)(k:Prs 148 w' base v' rs)(g:w.grownBy w' v2.ownBlock):Dv w' base v0 v1 v' v3 ⟨P.own,P.lanes,rs,P.plan⟩:=
 ⟨h.own.other h.bells g (by decide) (by decide),World.ownsRow.kept h.lanes g (own_types h.lanes h.bells (by decide)),k,World.ownsRow.kept h.plan g (own_types h.plan h.bells (by decide))⟩
theorem Dv.setPlan(h:Dv w base v0 v1 v2 v3 P)(k:Prs 119 w' base v' rs)(g:w.grownBy w' v3.ownBlock):Dv w' base v0 v1 v2 v' ⟨P.own,P.lanes,P.bells,rs⟩:=
 ⟨h.own.other h.plan g (by decide) (by decide),World.ownsRow.kept h.lanes g (own_types h.lanes h.plan (by decide)),World.ownsRow.kept h.bells g (own_types h.bells h.plan (by decide)),k⟩
theorem Nums.turn{w w':World}{base b:Nat}{v:Value}{zs:List Int}(h:Nums w base v zs)(t:Turn b w w')(hb:b<base):Nums w' base v zs:=
 h.kept t.grown (.inr fun e=>by have:=(h.lt b e).1;omega)
theorem Nums.monoD{w:World}{base base':Nat}{v:Value}{zs:List Int}(h:Nums w base v zs)(hb:base'≤base):Nums w base' v zs:=row_up h hb
structure Ps(w wr:World)(b kk:Nat)(a:Option Addr)(len cap:Nat)(zs:List Int)(v0 v1 v2 v3:Value)(P:Plc):Prop where
 src:Src wr b kk a len cap zs
 turn:Turn b w wr
 res:Bk wr w.heap.size #[.slice none 0 0,.slice none 0 0,.slice none 0 0,.slice none 0 0] 29
 var:Bk wr (w.heap.size+1) #[v0,v1,v2,v3] 29
 dv:Dv wr w.heap.size v0 v1 v2 v3 P
theorem Ps.next{w wr w':World}{b kk k2:Nat}{a:Option Addr}{len cap:Nat}{zs:List Int}{v0 v1 v2 v3:Value}{P:Plc}(h:Ps w wr b kk a len cap zs v0 v1 v2 v3 P)(hb:b<w.heap.size)(t:Turn b wr w')(s:Src w' b k2 a len cap zs):Ps w w' b k2 a len cap zs v0 v1 v2 v3 P:=
 ⟨s,h.turn.trans t,h.res.turn t (by omega),h.var.turn t (by omega),h.dv.turn t hb⟩
theorem Ps.below{w wr w':World}{b kk:Nat}{a:Option Addr}{len cap:Nat}{zs:List Int}{v0 v1 v2 v3:Value}{P:Plc}(h:Ps w wr b kk a len cap zs v0 v1 v2 v3 P)(hb:b<w.heap.size)(t:Below wr.heap.size wr w'):Ps w w' b kk a len cap zs v0 v1 v2 v3 P:=
 h.next hb (Turn.of_below t) (h.src.turn (Turn.of_below (b:=wr.heap.size) t) (Nat.le_refl _))
variable{w wr:World}{b kk:Nat}{a:Option Addr}{len cap:Nat}{zs:List Int}{v0 v1 v2 v3:Value}{P:Plc}
theorem Ps.alloc(h:Ps w wr b kk a len cap zs v0 v1 v2 v3 P)(hb:b<w.heap.size)(o:Obj):Ps w (wr.alloc o) b kk a len cap zs v0 v1 v2 v3 P:=
 h.below hb (al (Below.refl _ _) _)
theorem Ps.rowed{w wr w':World}{b kk e sz n:Nat}{a:Option Addr}{len cap:Nat}{zs:List Int}{v0 v1 v2 v3 u:Value}{P:Plc}{xs:List Value}(h:Ps w wr b kk a len cap zs v0 v1 v2 v3 P)(hb:b<w.heap.size)(k:wr.ownsRow w.heap.size e sz u n xs)(he:e≠29)(g:wr.grownBy w' u.ownBlock):
  Src w' b kk a len cap zs∧Turn b w w'∧Bk w' w.heap.size #[.slice none 0 0,.slice none 0 0,.slice none 0 0,.slice none 0 0] 29∧Bk w' (w.heap.size+1) #[v0,v1,v2,v3] 29:=
 ⟨h.src.rowed k hb g,h.turn.rowed k (Nat.le_refl _) g,h.res.gr g (Ne.symm (h.res.row k he)),h.var.gr g (Ne.symm (h.var.row k he))⟩
theorem Ps.mk'{w w':World}{b kk i:Nat}{a:Option Addr}{len cap:Nat}{zs:List Int}{v0 v1 v2 v3 u0 u1 u2 u3 u:Value}{P:Plc}(hb:b<w.heap.size)(h:Src w' b kk a len cap zs∧Turn b w w'∧Bk w' w.heap.size #[.slice none 0 0,.slice none 0 0,.slice none 0 0,.slice none 0 0] 29∧Bk w' (w.heap.size+1) #[v0,v1,v2,v3] 29)
  (hd:Dv w' w.heap.size u0 u1 u2 u3 P) (hu: #[v0,v1,v2,v3].setIfInBounds i u=#[u0,u1,u2,u3]):Ps w (w'.setCell ⟨w.heap.size+1,i,none⟩ u) b kk a len cap zs u0 u1 u2 u3 P:=
 ⟨h.1.put _ _ (by show b<w.heap.size+1;omega),h.2.1.put _ _ (by show w.heap.size≤w.heap.size+1;omega),h.2.2.1.put _ _ (by show w.heap.size≠w.heap.size+1;omega),hu▸h.2.2.2.set i u,hd.put h.2.2.2 u⟩
def Rst(w w':World)(b kk:Nat)(a:Option Addr)(len cap:Nat)(zs:List Int)(v0 v1 v2 v3:Value):Prop:=
 Src w' b kk a len cap zs∧Turn b w w'∧Bk w' w.heap.size #[.slice none 0 0,.slice none 0 0,.slice none 0 0,.slice none 0 0] 29∧Bk w' (w.heap.size+1) #[v0,v1,v2,v3] 29
theorem Ps.owned{w wr w':World}{b kk:Nat}{a:Option Addr}{len cap:Nat}{zs:List Int}{v0 v1 v2 v3 v':Value}{P:Plc}{oss:List (List Int)}(h:Ps w wr b kk a len cap zs v0 v1 v2 v3 P)(hb:b<w.heap.size)(k:So w' w.heap.size v' oss)(g:wr.grownBy w' v0.ownBlock):
  Rst w w' b kk a len cap zs v0 v1 v2 v3∧Dv w' w.heap.size v' v1 v2 v3 ⟨oss,P.lanes,P.bells,P.plan⟩:=by
 obtain⟨xs,_,hr,_⟩:=h.dv.own
 exact⟨h.rowed hb hr (by decide) g,h.dv.setOwn k g⟩
variable{w wr w':World}{b kk:Nat}{a:Option Addr}{len cap:Nat}{zs:List Int}{v0 v1 v2 v3 v':Value}{P:Plc}{rs:List (Int×Int)}
theorem Ps.belled(h:Ps w wr b kk a len cap zs v0 v1 v2 v3 P)(hb:b<w.heap.size)(k:Prs 148 w' w.heap.size v' rs)(g:wr.grownBy w' v2.ownBlock):
  Rst w w' b kk a len cap zs v0 v1 v2 v3∧Dv w' w.heap.size v0 v1 v' v3 ⟨P.own,P.lanes,rs,P.plan⟩:=
 ⟨h.rowed hb h.dv.bells (by decide) g,h.dv.setBells k g⟩
theorem Ps.planned(h:Ps w wr b kk a len cap zs v0 v1 v2 v3 P)(hb:b<w.heap.size)(k:Prs 119 w' w.heap.size v' rs)(g:wr.grownBy w' v3.ownBlock):
  Rst w w' b kk a len cap zs v0 v1 v2 v3∧Dv w' w.heap.size v0 v1 v2 v' ⟨P.own,P.lanes,P.bells,rs⟩:=
 ⟨h.rowed hb h.dv.plan (by decide) g,h.dv.setPlan k g⟩
theorem Ls.turn{e:TypeId}{w w':World}{base b:Nat}{v:Value}{rs:List Ln}(h:Ls e w base v rs)(t:Turn b w w')(hb:b<base):Ls e w' base v rs:=
 World.ownsRow.kept h t.grown (.inr fun e=>by have:=(h.lt b e).1;omega)
variable{ops:Array Oper}{rest:List Oper}{o:Oper}{act:Act}{Q:Exit→Act→World→Prop}
theorem wp_lns(w:World)(hgd:o.guard=none)(s x:Operand)
  (ho:o.op=.call { callee:=.builtin .append,args:=#[s,x],argTypes:=#[25,25]}) (base g:Nat) (hs:act.eval s=.slice (some ⟨g,0,none⟩) 0 0) (hN:Ls 42 w base (.slice (some ⟨g,0,none⟩) 0 0) [])
  (v:Value) (B:Nat) (rs:List Ln) (hx:act.eval x=v) (hR:Ls 42 w B v rs) (hlen:rs.length≤1000) (hbase:base≤w.heap.size)
  (h:∀v' w',Ls 42 w' base v' rs→w.grownBy w' (some g)→wpList Tryz.prog ops Q rest (act.put o.dst v') w'):wpList Tryz.prog ops Q (o::rest) act w:=by
 obtain⟨i,hi,hz0,hz1,hz2⟩:=info_parts info_lane
 have hR':=hR
 obtain⟨k1,⟨rfl,k3⟩|⟨g',c,cur,rfl,_,_,k4,k5,_⟩⟩:=hR
 ·have h0:rs=[]:=List.eq_nil_of_length_eq_zero k3
  subst h0
  refine wpList_plain hgd fun K hK=>?_
  have hrun:=run_append_room_src (P:=Tryz.prog) w 25 25 o.type 42 i Tryz.underlying25 hi g 0 0 0 (.slice none 0 0) 0 [] (Go.Src.ofNil w Tryz.underlying25 0) (by omega) (fun j hj=>by simp at hj) (fun j hj=>by simp at hj)
  unfold Oper.wp
  simp[execOp,ho,resolve,invoke,builtin,hs,hx,hrun,Result.andThen]
  refine hK _ _ ?_
  exact h _ _ hN ⟨rfl,rfl,rfl,Nat.le_refl _,fun _ _ _=>rfl⟩
 ·refine wpList_append_own w hgd s x 25 ho base 42 i _ 5 40 Tryz.underlying25 hi hz0 hz1 hz2 rfl (by decide) _ 0 _ hs hN ⟨g',0,none⟩ rs.length c (flat5 rs) hx (flat5_length rs) ?_ (flat5_one _) (by unfold maxLen;omega) (by omega) hbase ?_
  ·intro j u hj
   rw[Addr.add_lit,Nat.zero_add,World.ownsRow.cellAt hR' j (by have:=(List.getElem?_eq_some_iff.1 hj).1;rw[flat5_length]at this;exact this)]
   exact hj
  ·intro v' w' hown hgrow _
   refine h v' w' ?_ hgrow
   unfold Ls
   rw[Nat.zero_add]at hown
   exact hown
theorem Ps.all4{w wr:World}{b kk:Nat}{a:Option Addr}{len cap:Nat}{zs:List Int}{v0 v1 v2 v3 u0 u1 u2 u3:Value}{P P':Plc}(h:Ps w wr b kk a len cap zs v0 v1 v2 v3 P)(hb:b<w.heap.size)(hd:Dv wr w.heap.size u0 u1 u2 u3 P'):
  Ps w ((((wr.setCell ⟨w.heap.size+1,0,none⟩ u0).setCell ⟨w.heap.size+1,1,none⟩ u1).setCell ⟨w.heap.size+1,2,none⟩ u2).setCell ⟨w.heap.size+1,3,none⟩ u3) b kk a len cap zs u0 u1 u2 u3 P':=by
 have p1:=Ps.mk' (i:=0) (u:=u0) (v0:=v0) (v1:=v1) (v2:=v2) (v3:=v3) (u0:=u0) (u1:=v1) (u2:=v2) (u3:=v3) hb ⟨h.src,h.turn,h.res,h.var⟩ (show Dv wr w.heap.size u0 v1 v2 v3 ⟨P'.own,P.lanes,P.bells,P.plan⟩from⟨hd.own,h.dv.lanes,h.dv.bells,h.dv.plan⟩) rfl
 have d1:=hd.put (i:=0) h.var u0
 have p2:=Ps.mk' (i:=1) (u:=u1) (u0:=u0) (u1:=u1) (u2:=v2) (u3:=v3) hb ⟨p1.src,p1.turn,p1.res,p1.var⟩ (show Dv _ w.heap.size u0 u1 v2 v3 ⟨P'.own,P'.lanes,P.bells,P.plan⟩from⟨d1.own,d1.lanes,p1.dv.bells,p1.dv.plan⟩) rfl
 have d2:=d1.put (i:=1) p1.var u1
 have p3:=Ps.mk' (i:=2) (u:=u2) (u0:=u0) (u1:=u1) (u2:=u2) (u3:=v3) hb ⟨p2.src,p2.turn,p2.res,p2.var⟩ (show Dv _ w.heap.size u0 u1 u2 v3 ⟨P'.own,P'.lanes,P'.bells,P.plan⟩from⟨d2.own,d2.lanes,d2.bells,p2.dv.plan⟩) rfl
 have d3:=d2.put (i:=2) p2.var u2
 exact Ps.mk' (i:=3) (u:=u3) (u0:=u0) (u1:=u1) (u2:=u2) (u3:=u3) hb ⟨p3.src,p3.turn,p3.res,p3.var⟩ (show Dv _ w.heap.size u0 u1 u2 u3 P' from⟨d3.own,d3.lanes,d3.bells,d3.plan⟩) rfl
theorem Turn.gb{b q:Nat}{a w w':World}(t:Turn b a w)(g:w.grownBy w' (some q))(hq:a.heap.size≤q):Turn b a w':=
 ⟨g.os.trans t.os,g.tape.trans t.tape,g.output.trans t.output,Nat.le_trans t.size g.size,fun k hk hn=>by
  rw[g.block k (Nat.lt_of_lt_of_le hk t.size) (fun e=>by cases e;omega)]
  exact t.block k hk hn⟩
structure Nxd(W wr:World)(b:Nat)(kk:Nat)(a:Option Addr)(len cap:Nat)(zs:List Int)(v0 v1 v2 v3 u:Value)(ls:List Ln):Prop where
 src:Src wr b kk a len cap zs
 turn:Turn b W wr
 var:Bk wr W.heap.size #[v0,v1,v2,v3] 29
 lanes:Ls 42 wr (W.heap.size+1) u ls
theorem Nxd.next{W wr w':World}{b kk k2:Nat}{a:Option Addr}{len cap:Nat}{zs:List Int}{v0 v1 v2 v3 u:Value}{ls:List Ln}(h:Nxd W wr b kk a len cap zs v0 v1 v2 v3 u ls)(hb:b<W.heap.size)(t:Turn b wr w')(s:Src w' b k2 a len cap zs):Nxd W w' b k2 a len cap zs v0 v1 v2 v3 u ls:=
 ⟨s,h.turn.trans t,h.var.turn t (by omega),h.lanes.turn t (by omega)⟩
theorem Nxd.alloc{W wr:World}{b kk:Nat}{a:Option Addr}{len cap:Nat}{zs:List Int}{v0 v1 v2 v3 u:Value}{ls:List Ln}(h:Nxd W wr b kk a len cap zs v0 v1 v2 v3 u ls)(hb:b<W.heap.size)(o:Obj):Nxd W (wr.alloc o) b kk a len cap zs v0 v1 v2 v3 u ls:=
 h.next hb (Turn.alloc _ _ _) (h.src.alloc _)
theorem Nxd.push{W wr w':World}{b kk:Nat}{a:Option Addr}{len cap:Nat}{zs:List Int}{v0 v1 v2 v3 u u':Value}{ls ls':List Ln}(h:Nxd W wr b kk a len cap zs v0 v1 v2 v3 u ls)(hb:b<W.heap.size)(k:Ls 42 w' (W.heap.size+1) u' ls')(g:wr.grownBy w' u.ownBlock):Nxd W w' b kk a len cap zs v0 v1 v2 v3 u' ls':=
 ⟨h.src.rowed h.lanes (by omega) g,h.turn.rowed h.lanes (by omega) g,h.var.gr g (Ne.symm (h.var.row h.lanes (by decide))),k⟩
theorem Nxd.lay{w W wr:World}{b kk k0:Nat}{a:Option Addr}{len cap:Nat}{zs:List Int}{v0 v1 v2 v3 u:Value}{P:Plc}{ls:List Ln}(p:Ps w W b k0 a len cap zs v0 v1 v2 v3 P)(h:Nxd W wr b kk a len cap zs v0 v1 v2 v3 u ls)(hb:b<w.heap.size):
  Ps w (wr.setCell ⟨W.heap.size,1,none⟩ u) b kk a len cap zs v0 v1 v2 v3 P∧Bk (wr.setCell ⟨W.heap.size,1,none⟩ u) W.heap.size #[v0,u,v2,v3] 29∧Dv (wr.setCell ⟨W.heap.size,1,none⟩ u) w.heap.size v0 u v2 v3 ⟨P.own,ls,P.bells,P.plan⟩:=by
 have hs:=p.turn.size
 have hp:=p.next hb h.turn h.src
 refine⟨p.next hb (h.turn.put _ _ (Nat.le_refl _)) (h.src.put _ _ (Nat.lt_of_lt_of_le hb hs)),h.var.set 1 u,?_⟩
 exact(show Dv wr w.heap.size v0 u v2 v3 ⟨P.own,ls,P.bells,P.plan⟩from⟨hp.dv.own,row_up h.lanes (by omega),hp.dv.bells,hp.dv.plan⟩).put h.var u
theorem step_pair2{ops:Array Oper}{o:Oper}{act:Act}{w:World}{K:Act→World→Prop}{Q:Exit→Act→World→Prop}{E:Prop}(t e:TypeId)(he:Tryz.prog.underlying t=some (.slice e))(hinfo:(Tryz.prog.info? e).map (fun i=>(i.zero,i.size,i.bytes))=some (some (.agg #[.int .i64 0,.int .i64 0]),2,16))
  (hgd:o.guard=none) (s x:Operand)
  (ho:o.op=.call { callee:=.builtin .append,args:=#[s,x],argTypes:=#[t,t]}) (base:Nat) (v:Value) (rs:List (Int×Int)) (hs:act.eval s=v) (hN:Prs e w base v rs)
  (B:Nat) (a b:Int) (hx:act.eval x=.slice (some ⟨B,0,none⟩) 1 1) (h0:w.cell? ⟨B,0,none⟩=some (.int .i64 a)) (h1:w.cell? ⟨B,1,none⟩=some (.int .i64 b))
  (hlen:rs.length≤1000000000) (hbase:base≤w.heap.size)
  (h:∀v' w',Hid (Prs e w' base v' (rs++ [(a,b)]))→w.grownBy w' v.ownBlock→K (act.put o.dst v') w'):
  if Region.wanted o (yielded ops act.tmps)=true then Oper.wp Tryz.prog o act w K Q else E:=by
 have hw:Region.wanted o (yielded ops act.tmps)=true:=by simp[Region.wanted,hgd]
 rw[if_pos hw]
 obtain⟨i,hi,hz0,hz1,hz2⟩:=info_parts hinfo
 refine wp_append_own w s x t ho base e i _ 2 16 he hi hz0 hz1 hz2 rfl (by decide) v rs.length _ hs hN ⟨B,0,none⟩ 1 1 (flat [(a,b)]) hx rfl ?_ (flat_one _) (by unfold maxLen;omega) (by omega) hbase ?_
 ·intro j u hj
  rw[Addr.add_lit,Nat.zero_add]
  match j,hj with
  |0,hj=>rw[h0];exact hj
  |1,hj=>rw[h1];exact hj
  |j+2,hj=>simp[flat]at hj
 ·intro v' w' hown hgrow _
  refine h v' w' ?_ hgrow
  show Prs e w' base v' (rs++ [(a,b)])
  unfold Prs
  rw[List.length_append,flat_append]
  exact hown
theorem cell_at2{w:World}{cs:Array Value}{t:TypeId}{i n:Nat}{v:Value}(hn:w.heap.size=n)(h:cs[i]? =some v):(w.alloc (.cells cs t)).cell? ⟨n,i,none⟩=some v:=by
 subst hn
 exact cell_new h
variable{w wr:World}{b kk:Nat}{a:Option Addr}{len cap:Nat}{zs:List Int}{v0 v1 v2 v3:Value}{P:Plc}
theorem Ps.done(h:Ps w wr b kk a len cap zs v0 v1 v2 v3 P)(hb:b<w.heap.size):
  let W:=(((wr.setCell ⟨w.heap.size,0,none⟩ v0).setCell ⟨w.heap.size,1,none⟩ v1).setCell ⟨w.heap.size,2,none⟩ v2).setCell ⟨w.heap.size,3,none⟩ v3
  Dv W w.heap.size v0 v1 v2 v3 P∧Turn b w W∧Src W b kk a len cap zs∧Bk W w.heap.size #[v0,v1,v2,v3] 29:=by
 have b1:=h.res.set 0 v0
 have b2:=b1.set 1 v1
 have b3:=b2.set 2 v2
 have b4:=b3.set 3 v3
 have le:=Nat.le_refl w.heap.size
 exact⟨(((h.dv.put h.res v0).put b1 v1).put b2 v2).put b3 v3,(((h.turn.put _ _ le).put _ _ le).put _ _ le).put _ _ le,(((h.src.put _ _ hb).put _ _ hb).put _ _ hb).put _ _ hb,b4⟩
def Ra(base:Nat)(a0 a1 a2 a3:Option Addr)(n0 c0 n1 c1 n2 c2 n3 c3 lh:Nat)(X:Hst)(e:Ending)(w':World):Prop:=∃(q g:Nat) (v:Value) (rs:List Gs),e=.returned (.pointer (some ⟨q,0,none⟩))∧Vb w' q #[.int .i64 X.slot,.int .i64 X.left,.int .i64 X.clock,.slice a0 n0 c0,.slice a1 n1 c1,.slice a2 n2 c2,.slice a3 n3 c3,.slice (some ⟨g,0,none⟩) 24 24,v] 126∧Pags w' base (.slice (some ⟨g,0,none⟩) 24 24) 24 X.mem∧Gw w' base (.slice (some ⟨g,0,none⟩) 24 24) v X.harts X.pol lh rs∧base≤q
def Sq5(B q g t:Nat)(wr w':World):Prop:=Mq (fun k=>(B≤k∧k≠t)∨k=q) wr w'∧w'.cell? ⟨q,7,none⟩=some (.slice (some ⟨g,0,none⟩) 24 24)
theorem Sq5.step{B q g t:Nat}{wr u u':World}(h:Sq5 B q g t wr u)(b:Below u.heap.size u u'):Sq5 B q g t wr u':=⟨h.1.trans (mq_belowX b),cell_keep b h.2⟩
theorem i_runningOf(a0 a1 a2 a3:Option Addr)(n0 c0 n1 c1 n2 c2 n3 c3:Nat)(am:Option Addr)(lm cm:Nat)(ah:Option Addr)(lh ch:Nat)(X:Hst)(b:Nat)(w:World)(d:Oj w b a0 n0 c0 a1 n1 c1 a2 n2 c2 a3 n3 c3 (.slice am lm cm) (.slice ah lh ch) X)(z:Hoz X):
  Calls Tryz.prog 20 #[.agg #[.slice a0 n0 c0,.slice a1 n1 c1,.slice a2 n2 c2,.slice a3 n3 c3,.slice am lm cm,.slice ah lh ch,.int .i64 X.slot,.int .i64 X.left,.int .i64 X.clock]] w fun e w'=>Ra w.heap.size a0 a1 a2 a3 n0 c0 n1 c1 n2 c2 n3 c3 lh X e w'∧Below w.heap.size w w':=by
 generalize hW:w.alloc (.cells #[.slice a0 n0 c0,.slice a1 n1 c1,.slice a2 n2 c2,.slice a3 n3 c3,.slice am lm cm,.slice ah lh ch,.int .i64 X.slot,.int .i64 X.left,.int .i64 X.clock] 35)=W
 have B0:Hid (Below w.heap.size w W):=by show Below _ _ _;rw[←hW];exact al (Below.refl _ _) _
 obtain⟨s,hS⟩:∃s,w.heap.size=s:=⟨_,rfl⟩
 have HSs:=hid hS
 have Q:Hid (Vb W s #[.slice a0 n0 c0,.slice a1 n1 c1,.slice a2 n2 c2,.slice a3 n3 c3,.slice am lm cm,.slice ah lh ch,.int .i64 X.slot,.int .i64 X.left,.int .i64 X.clock] 35):=by show Vb _ _ _ _;rw[←hW,←hS];exact Vb.new _ _ _
 have ZW:Hid (s+1=W.heap.size):=by show _=_;rw[←hW,←hS];simp
 have D:=hid (d.keep B0.out)
 have HZ:=hid z
 have LH:Hid (lh=X.harts.length):=by obtain⟨_,_,e,_⟩:=d.harts.shape;simp at e;exact e.2.1
 have N0:Hid (n0=X.pol.own.length):=d.pol.own.len
 have lh3:(lh:Int)≤3:=by have:=z.hl;have:=z.own;have:=LH.out;omega
 obtain⟨gm,hgm⟩:∃g,am=some ⟨g,0,none⟩:=by
  obtain⟨_,_,e,_,_,hg⟩:=d.mem.shape
  simp at e
  obtain⟨g,eg⟩:=hg (by rw[z.ml];decide)
  exact⟨g,by rw[e.1,eg]⟩
 subst hgm
 clear d z
 go_enter Tryz.func20,Tryz.ntmps20
 go_upto_region 1 with fail
 clear hW hS
 have SU:Hid (Below W.heap.size W W.drew):=(Below.refl _ _).drew
 refine wp_region_held (S:=fun w'=>Below W.heap.size W w') (by kernel_rfl) ?_
 change wpAnyH _ _ _ _ _ _ _ _ (World.drew _)
 generalize W.drew=u0 at*
 refine wpTe 0 6 ((.agg #[.slice a0 n0 c0,.slice a1 n1 c1,.slice a2 n2 c2,.slice a3 n3 c3,.slice (some ⟨gm,0,none⟩) lm cm,.slice ah lh ch,.int .i64 X.slot,.int .i64 X.left,.int .i64 X.clock])) rfl (Or.inl ⟨by rfl,fun w' hs=>by have qv:=Q.out.keep hs;have y0:=qv.cell 0 rfl;have y1:=qv.cell 1 rfl;have y2:=qv.cell 2 rfl;have y3:=qv.cell 3 rfl;have y4:=qv.cell 4 rfl;have y5:=qv.cell 5 rfl;have y6:=qv.cell 6 rfl;have y7:=qv.cell 7 rfl;have y8:=qv.cell 8 rfl;go_simp⟩) SU.out ?_
 simp only[Act.put,zT,zZ,zS]
 refine wpTd 2 8 ((.pointer (some ⟨s,0,none⟩))) rfl SU.out ?_
 simp only[Act.put,zT,zZ,zS]
 refine wpTe 3 9 ((.agg #[.slice a0 n0 c0,.slice a1 n1 c1,.slice a2 n2 c2,.slice a3 n3 c3])) rfl (Or.inl ⟨by rfl,fun w' hs=>by have qv:=Q.out.keep hs;have y0:=qv.cell 0 rfl;have y1:=qv.cell 1 rfl;have y2:=qv.cell 2 rfl;have y3:=qv.cell 3 rfl;go_simp⟩) SU.out ?_
 simp only[Act.put,zT,zZ,zS]
 refine wpTd 4 10 ((.pointer (some ⟨s,4,none⟩))) rfl SU.out ?_
 simp only[Act.put,zT,zZ,zS]
 refine wpTe 5 11 ((.slice (some ⟨gm,0,none⟩) lm cm)) rfl (Or.inl ⟨by rfl,fun w' hs=>by have y:=(Q.out.keep hs).cell 4 rfl;go_simp⟩) SU.out ?_
 simp only[Act.put,zT,zZ,zS]
 refine zR 1 rfl fun K hK=>?_
 rw[if_pos (by rfl)]
 go_simp
 refine(i_turnOf _ _ _ _ _ _ _ _ _ _ _ _ _ _ _ _ _ _ X _).mono ?_
 rintro e u1⟨rfl,b1⟩
 replace SU:=hid (on SU.out b1)
 clear b1
 refine hK.out _ _ SU.out (fun _=>?_)
 clear hK K
 refine zR 6 rfl fun K hK=>?_
 rw[if_pos (by rfl)]
 go_simp
 refine(impl_cut gm lm cm X.mem b 24 _ (D.out.mem.keep SU.out) (by rw[HZ.out.ml]) (by decide) (by decide)).mono ?_
 rintro e u2⟨g,rfl,pg,b2⟩
 have PGS:Hid (Pags u2 W.heap.size (.slice (some ⟨g,0,none⟩) 24 24) 24 X.mem):=row_monoX pg SU.out.size
 replace SU:=hid (on SU.out b2)
 clear pg b2
 refine hK.out _ _ SU.out (fun _=>?_)
 clear hK K
 refine wpTd 7 13 ((.agg #[.int .i64 X.slot,.int .i64 X.left,.int .i64 X.clock,.slice a0 n0 c0,.slice a1 n1 c1,.slice a2 n2 c2,.slice a3 n3 c3,.slice (some ⟨g,0,none⟩) 24 24,.slice none 0 0])) rfl SU.out ?_
 simp only[Act.put,zT,zZ,zS]
 refine zR 8 rfl fun K hK=>?_
 rw[if_pos (by rfl)]
 go_simp
 have bq:Below u2.heap.size u2 (u2.alloc (.cells #[.int .i64 X.slot,.int .i64 X.left,.int .i64 X.clock,.slice a0 n0 c0,.slice a1 n1 c1,.slice a2 n2 c2,.slice a3 n3 c3,.slice (some ⟨g,0,none⟩) 24 24,.slice none 0 0] 126)):=al (Below.refl _ _) _
 have VQ:Hid (Vb (u2.alloc (.cells #[.int .i64 X.slot,.int .i64 X.left,.int .i64 X.clock,.slice a0 n0 c0,.slice a1 n1 c1,.slice a2 n2 c2,.slice a3 n3 c3,.slice (some ⟨g,0,none⟩) 24 24,.slice none 0 0] 126)) u2.heap.size #[.int .i64 X.slot,.int .i64 X.left,.int .i64 X.clock,.slice a0 n0 c0,.slice a1 n1 c1,.slice a2 n2 c2,.slice a3 n3 c3,.slice (some ⟨g,0,none⟩) 24 24,.slice none 0 0] 126):=Vb.new _ _ _
 obtain⟨q,hq⟩:∃q,u2.heap.size=q:=⟨_,rfl⟩
 have QB:Hid (W.heap.size≤q):=by show _≤_;rw[←hq];exact SU.out.size
 replace PGS:Hid (Pags (u2.alloc (.cells #[.int .i64 X.slot,.int .i64 X.left,.int .i64 X.clock,.slice a0 n0 c0,.slice a1 n1 c1,.slice a2 n2 c2,.slice a3 n3 c3,.slice (some ⟨g,0,none⟩) 24 24,.slice none 0 0] 126)) W.heap.size (.slice (some ⟨g,0,none⟩) 24 24) 24 X.mem):=row_keepX PGS.out bq
 replace SU:=hid (on SU.out bq)
 rw[hq]at VQ ⊢
 generalize u2.alloc (.cells #[.int .i64 X.slot,.int .i64 X.left,.int .i64 X.clock,.slice a0 n0 c0,.slice a1 n1 c1,.slice a2 n2 c2,.slice a3 n3 c3,.slice (some ⟨g,0,none⟩) 24 24,.slice none 0 0] 126)=V at*
 have BVS:Hid (W.heap.size≤V.heap.size):=SU.out.size
 clear bq hq
 refine hK.out _ _ SU.out (fun _=>?_)
 clear hK K
 refine wpTd 9 3 ((.pointer (some ⟨q,0,none⟩))) rfl SU.out ?_
 simp only[Act.put,zT,zZ,zS]
 refine wpAnyH_done (by kernel_rfl) ?_ _
 have w2:=(Q.out.keep SU.out).cell 5 rfl
 go_wp2_with fail
 clear w2
 go_loopw [4,5,18] (fun _ _ c wr=>∃(j:Nat) (v:Value) (rs:List Gs),j≤lh∧c=.int .i64 (j:Int)∧Vb wr q #[.int .i64 X.slot,.int .i64 X.left,.int .i64 X.clock,.slice a0 n0 c0,.slice a1 n1 c1,.slice a2 n2 c2,.slice a3 n3 c3,.slice (some ⟨g,0,none⟩) 24 24,v] 126∧Pags wr W.heap.size (.slice (some ⟨g,0,none⟩) 24 24) 24 X.mem∧Gw wr V.heap.size (.slice (some ⟨g,0,none⟩) 24 24) v X.harts X.pol j rs∧Below W.heap.size W wr∧V.heap.size≤wr.heap.size) (fun _ _ c _=>lh-(intOf c).toNat)
 case atStart=>exact⟨0,.slice none 0 0,[],Nat.zero_le _,rfl,VQ.out,PGS.out,⟨rfl,World.ownsRow_nil _ _ _ _,fun i q e=>by simp at e,by simp⟩,SU.out,Nat.le_refl _⟩
 case round=>
  obtain⟨j,v,rs,hj,rfl,hX,hP,hG,hB,hZ⟩:=hrel
  obtain⟨va,vc,hv⟩:=row_shape hG.row
  rw[hG.len]at hv
  subst hv
  have HX:=hid hX
  have HP:=hid hP
  have HG:=hid hG
  have HB:Hid (Below W.heap.size W wr∧V.heap.size≤wr.heap.size):=⟨hB,hZ⟩
  have HZ2:=hid hZ
  clear hX hP hG hZ
  by_cases hlt:j<lh
  ·have hI:(j:Int)<(lh:Int):=by omega
   have HLT:=hid hlt
   obtain⟨gh,hgh⟩:∃g,ah=some ⟨g,0,none⟩:=by
    obtain⟨_,_,e,_,_,hg⟩:=D.out.harts.shape
    simp at e
    obtain⟨e1,e2,_⟩:=e
    obtain⟨g,eg⟩:=hg (by omega)
    exact⟨g,by rw[e1,eg]⟩
   subst hgh
   obtain⟨r,c,i,o,y1,y2,_⟩:=((D.out.harts.keep hB).at j (by have:=LH.out;omega))
   have HOJ:Hid (Hok (X.harts.getD j voidH)):=HZ.out.ok j (by have:=LH.out;omega)
   obtain⟨H,hH⟩:∃H,X.harts.getD j voidH=H:=⟨_,rfl⟩
   have HHE:=hid hH
   rw[hH]at y1 y2 HOJ
   obtain⟨xr,kr,e0,_⟩:=y2.r.shape
   obtain⟨xc,kc,e1,_⟩:=y2.c.shape
   obtain⟨xi,ki,e2,_⟩:=y2.i.shape
   obtain⟨xo,ko,e3,_⟩:=y2.o.shape
   subst e0 e1 e2 e3
   obtain⟨lr,hlr⟩:∃n,H.regs.length=n:=⟨_,rfl⟩
   obtain⟨lc,hlc⟩:∃n,H.csr.length=n:=⟨_,rfl⟩
   obtain⟨li,hli⟩:∃n,H.inn.length=n:=⟨_,rfl⟩
   obtain⟨lo,hlo⟩:∃n,H.out.length=n:=⟨_,rfl⟩
   rw[hlr,hlc,hli,hlo]at y1 y2
   have k0:=y1.c0
   have k1:=y1.c1
   have k2:=y1.c2
   have k3:=y1.c3
   have k4:=y1.c4
   have k5:=y1.c5
   have k6:=y1.c6
   have k7:=y1.c7
   have k8:=y1.c8
   have Y2:=hid y2
   clear hlt hB hj y1 y2 hH hlr hlc hli hlo
   go_upto_region 5 with fail
   clear k0 k1 k2 k3 k4 k5 k6 k7 k8
   have AL:Hid (Below wr.heap.size wr (wr.alloc (.cells #[.slice xr lr kr,.int .i64 H.pc,.slice xc lc kc,.bool H.halted,.bool H.waiting,.bool H.rung,.int .i64 H.done,.slice xi li ki,.slice xo lo ko] 47))):=al (Below.refl _ _) _
   have VT:Hid (Vb (wr.alloc (.cells #[.slice xr lr kr,.int .i64 H.pc,.slice xc lc kc,.bool H.halted,.bool H.waiting,.bool H.rung,.int .i64 H.done,.slice xi li ki,.slice xo lo ko] 47)) wr.heap.size #[.slice xr lr kr,.int .i64 H.pc,.slice xc lc kc,.bool H.halted,.bool H.waiting,.bool H.rung,.int .i64 H.done,.slice xi li ki,.slice xo lo ko] 47):=Vb.new _ _ _
   replace HX:=hid (HX.out.keep AL.out)
   replace HP:Hid (Pags (wr.alloc (.cells #[.slice xr lr kr,.int .i64 H.pc,.slice xc lc kc,.bool H.halted,.bool H.waiting,.bool H.rung,.int .i64 H.done,.slice xi li ki,.slice xo lo ko] 47)) W.heap.size (.slice (some ⟨g,0,none⟩) 24 24) 24 X.mem):=row_keepX HP.out AL.out
   replace HG:=hid (HG.out.keep AL.out)
   replace Y2:=hid (Y2.out.keep AL.out)
   replace HB:Hid (Below W.heap.size W (wr.alloc (.cells #[.slice xr lr kr,.int .i64 H.pc,.slice xc lc kc,.bool H.halted,.bool H.waiting,.bool H.rung,.int .i64 H.done,.slice xi li ki,.slice xo lo ko] 47))∧V.heap.size≤(wr.alloc (.cells #[.slice xr lr kr,.int .i64 H.pc,.slice xc lc kc,.bool H.halted,.bool H.waiting,.bool H.rung,.int .i64 H.done,.slice xi li ki,.slice xo lo ko] 47)).heap.size):=⟨on HB.out.1 AL.out,Nat.le_trans HB.out.2 AL.out.size⟩
   have QT:Hid (V.heap.size≤wr.heap.size∧q<V.heap.size):=⟨by have:=HB.out.2;have:=HZ2.out;omega,VQ.out.lt⟩
   generalize wr.alloc (.cells #[.slice xr lr kr,.int .i64 H.pc,.slice xc lc kc,.bool H.halted,.bool H.waiting,.bool H.rung,.int .i64 H.done,.slice xi li ki,.slice xo lo ko] 47)=W5 at*
   obtain⟨t,ht⟩:∃t,wr.heap.size=t:=⟨_,rfl⟩
   rw[ht]at VT QT ⊢
   have SD:Hid (Sq5 V.heap.size q g t W5 W5.drew):=Sq5.step ⟨Mq.refl _ _,HX.out.cell 7 rfl⟩ (Below.refl _ _).drew
   have QL:Hid (∀w',Sq5 V.heap.size q g t W5 w'→Vb w' s #[.slice a0 n0 c0,.slice a1 n1 c1,.slice a2 n2 c2,.slice a3 n3 c3,.slice (some ⟨gm,0,none⟩) lm cm,.slice (some ⟨gh,0,none⟩) lh ch,.int .i64 X.slot,.int .i64 X.left,.int .i64 X.clock] 35∧Vb w' t #[.slice xr lr kr,.int .i64 H.pc,.slice xc lc kc,.bool H.halted,.bool H.waiting,.bool H.rung,.int .i64 H.done,.slice xi li ki,.slice xo lo ko] 47):=fun w' hs=>⟨hs.1.vb (Q.out.keep HB.out.1) (by have:=QB.out;have:=ZW.out;have:=QT.out;omega),hs.1.vb VT.out (by have:=QT.out;omega)⟩
   refine wp_region_held (S:=fun w'=>Sq5 V.heap.size q g t W5 w') (by kernel_rfl) ?_
   change wpAnyH _ _ _ _ _ _ _ _ (World.drew _)
   have BU:Hid (Below W5.heap.size W5 W5.drew):=(Below.refl _ _).drew
   generalize W5.drew=v0 at*
   have MU:Hid (Sq5 V.heap.size q g t W5 v0):=SD.out
   refine wpTd 0 23 ((.pointer (some ⟨q,0,none⟩))) rfl SD.out ?_
   simp only[Act.put,zT,zZ,zS]
   refine wpTd 1 24 ((.pointer (some ⟨q,0,none⟩))) rfl SD.out ?_
   simp only[Act.put,zT,zZ,zS]
   refine wpTd 2 25 ((.pointer (some ⟨q,0,none⟩))) rfl SD.out ?_
   simp only[Act.put,zT,zZ,zS]
   refine wpTd 3 26 ((.pointer (some ⟨q,8,none⟩))) rfl SD.out ?_
   simp only[Act.put,zT,zZ,zS]
   refine wpTe 5 28 ((.agg #[.slice xr lr kr,.int .i64 H.pc,.slice xc lc kc,.bool H.halted,.bool H.waiting,.bool H.rung,.int .i64 H.done,.slice xi li ki,.slice xo lo ko])) rfl (Or.inl ⟨by rfl,fun w' hs=>by have qv:=(QL.out w' hs).2;have y0:=qv.cell 0 rfl;have y1:=qv.cell 1 rfl;have y2:=qv.cell 2 rfl;have y3:=qv.cell 3 rfl;have y4:=qv.cell 4 rfl;have y5:=qv.cell 5 rfl;have y6:=qv.cell 6 rfl;have y7:=qv.cell 7 rfl;have y8:=qv.cell 8 rfl;go_simp⟩) SD.out ?_
   simp only[Act.put,zT,zZ,zS]
   refine wpTd 6 29 ((.pointer (some ⟨s,0,none⟩))) rfl SD.out ?_
   simp only[Act.put,zT,zZ,zS]
   refine wpTe 7 30 ((.agg #[.slice a0 n0 c0,.slice a1 n1 c1,.slice a2 n2 c2,.slice a3 n3 c3])) rfl (Or.inl ⟨by rfl,fun w' hs=>by have qv:=(QL.out w' hs).1;have y0:=qv.cell 0 rfl;have y1:=qv.cell 1 rfl;have y2:=qv.cell 2 rfl;have y3:=qv.cell 3 rfl;go_simp⟩) SD.out ?_
   simp only[Act.put,zT,zZ,zS]
   refine wpTd 8 31 ((.int .i64 (j:Int))) rfl SD.out ?_
   simp only[Act.put,zT,zZ,zS]
   refine wpTd 10 33 ((.pointer (some ⟨q,0,none⟩))) rfl SD.out ?_
   simp only[Act.put,zT,zZ,zS]
   refine wpTd 11 34 ((.pointer (some ⟨q,0,none⟩))) rfl SD.out ?_
   simp only[Act.put,zT,zZ,zS]
   refine wpTd 12 35 ((.pointer (some ⟨q,7,none⟩))) rfl SD.out ?_
   simp only[Act.put,zT,zZ,zS]
   refine wpTe 13 36 ((.slice (some ⟨g,0,none⟩) 24 24)) rfl (Or.inl ⟨by rfl,fun w' hs=>by have y:=hs.2;go_simp⟩) SD.out ?_
   simp only[Act.put,zT,zZ,zS]
   refine wpAnyH_ready (rs:=[4,9]) (by kernel_rfl) (by simp) ?_
   refine AllReadyH.cons rfl (fun K hK=>?_) (AllReadyH.cons rfl (fun K hK=>?_) AllReadyH.nil)
   ·skip
    rw[if_pos (by rfl)]
    have y:=(HX.out.keep BU.out).cell 8 rfl
    go_simp
    clear y
    refine hK.out _ _ MU.out (fun _=>?_)
    clear hK K
    refine zR 9 rfl fun K hK=>?_
    rw[if_pos (by rfl)]
    go_simp
    refine(i_pages0 _ _ _ _ _ _ _ _ _ _ _ _ X.pol (j:Int) _ ((D.out.pol.stay HB.out.1).stay BU.out) ⟨by omega,by have:=HLT.out;have:=LH.out;have:=HZ.out.hl;omega⟩).mono ?_
    rintro e u1⟨lv,rfl,pr,bq⟩
    rw[Int.toNat_natCast]at pr
    obtain⟨la,lk,e0⟩:=row_shape pr
    subst e0
    obtain⟨ln,hln⟩:∃n,(pforL (X.pol.own.getD j []) X.pol.lanes (j:Int) 8).length=n:=⟨_,rfl⟩
    rw[hln]at pr ⊢
    have PR:Hid (Prs 89 u1 W5.heap.size (.slice la ln lk) (pforL (X.pol.own.getD j []) X.pol.lanes (j:Int) 8)):=row_monoX pr BU.out.size
    replace BU:=hid (on BU.out bq)
    replace MU:Hid (Sq5 V.heap.size q g t W5 u1):=MU.out.step bq
    clear pr bq hln
    refine hK.out _ _ MU.out (fun _=>?_)
    clear hK K
    refine zR 14 rfl fun K hK=>?_
    rw[if_pos (by rfl)]
    go_simp
    refine(i_runnerOver _ _ _ _ H la ln lk (some ⟨g,0,none⟩) 24 24 b _ (Y2.out.keep BU.out) HOJ.out).mono ?_
    rintro e u2⟨i1,o1,rfl,ni,no,ap,bq,bo,h1,h2,h3,h4⟩
    have RN1:Hid (Gr u2 W5.heap.size (⟨⟨i1,o1,.slice la ln lk⟩,H,pforL (X.pol.own.getD j []) X.pol.lanes (j:Int) 8, -1, -1⟩:Gs)∧Apt i1 o1):=⟨⟨ni.mono BU.out.size,⟨bo,Nat.le_trans BU.out.size h1,h2,h3,h4⟩,row_keepX PR.out bq,pforL_len _ _ _ _⟩,ap⟩
    have OC:Hid (i1.oneCell'=true∧o1.oneCell'=true):=by
     obtain⟨_,_,f0,_⟩:=ni.shape
     obtain⟨_,_,f1,_⟩:=no.shape
     subst f0 f1
     exact⟨rfl,rfl⟩
    replace BU:=hid (on BU.out bq)
    replace MU:Hid (Sq5 V.heap.size q g t W5 u2):=MU.out.step bq
    clear ni no ap bq h1 h2 h3 h4
    refine hK.out _ _ MU.out (fun _=>?_)
    clear hK K
    refine zR 15 rfl fun K hK=>?_
    rw[if_pos (by rfl)]
    refine wp_bsR (.tmp 37) rfl (mcr H i1 o1 (.slice la ln lk) (.slice (some ⟨g,0,none⟩) 24 24) (-1) (-1)) rfl rfl ?_
    change K (Act.put _ (some 38) _) _
    simp only[Act.put,zT,zZ,zS]
    have bq:Below u2.heap.size u2 (u2.alloc (.cells (mcr H i1 o1 (.slice la ln lk) (.slice (some ⟨g,0,none⟩) 24 24) (-1) (-1)) 129)):=al (Below.refl _ _) _
    have C3:Hid ((u2.alloc (.cells (mcr H i1 o1 (.slice la ln lk) (.slice (some ⟨g,0,none⟩) 24 24) (-1) (-1)) 129)).rangeAt u2.heap.size 0 (cel38 (.slice (some ⟨g,0,none⟩) 24 24) (⟨⟨i1,o1,.slice la ln lk⟩,H,pforL (X.pol.own.getD j []) X.pol.lanes (j:Int) 8, -1, -1⟩:Gs))):=range_new _ _ _
    replace RN1:Hid (Gr (u2.alloc (.cells (mcr H i1 o1 (.slice la ln lk) (.slice (some ⟨g,0,none⟩) 24 24) (-1) (-1)) 129)) W5.heap.size (⟨⟨i1,o1,.slice la ln lk⟩,H,pforL (X.pol.own.getD j []) X.pol.lanes (j:Int) 8, -1, -1⟩:Gs)∧Apt i1 o1):=⟨RN1.out.1.keep bq,RN1.out.2⟩
    replace BU:=hid (on BU.out bq)
    obtain⟨gf,hgf⟩:∃g,u2.heap.size=g:=⟨_,rfl⟩
    rw[hgf]at C3 ⊢
    replace MU:Hid (Sq5 V.heap.size q g t W5 (u2.alloc (.cells (mcr H i1 o1 (.slice la ln lk) (.slice (some ⟨g,0,none⟩) 24 24) (-1) (-1)) 129))):=MU.out.step bq
    generalize u2.alloc (.cells (mcr H i1 o1 (.slice la ln lk) (.slice (some ⟨g,0,none⟩) 24 24) (-1) (-1)) 129)=u3 at*
    clear bq hgf
    refine hK.out _ _ MU.out (fun _=>?_)
    clear hK K
    refine zR 16 rfl fun K hK=>?_
    refine step_runX rfl (.tmp 27) (.tmp 38) rfl V.heap.size (.slice (some ⟨g,0,none⟩) 24 24) (.slice va j vc) rs rfl (row_keepX HG.out.row BU.out) gf (⟨⟨i1,o1,.slice la ln lk⟩,H,pforL (X.pol.own.getD j []) X.pol.lanes (j:Int) 8, -1, -1⟩:Gs) rfl C3.out ⟨OC.out.1,OC.out.2,rfl⟩ rfl j HG.out.len (by have:=HLT.out;have:=HZ.out.hl;have:=HZ.out.own;have:=LH.out;omega) (Nat.le_trans HB.out.2 BU.out.size) ?_
    intro wa wc u4 hO4 hG4
    change K (Act.put _ (some 39) _) _
    simp only[Act.put,zT,zZ,zS]
    have KY:Ky (some 129) u3 u4:=ky_row (row_keepX HG.out.row BU.out) hG4
    have V4':Hid (Vb u4 q #[.int .i64 X.slot,.int .i64 X.left,.int .i64 X.clock,.slice a0 n0 c0,.slice a1 n1 c1,.slice a2 n2 c2,.slice a3 n3 c3,.slice (some ⟨g,0,none⟩) 24 24,.slice va j vc] 126):=KY.vb (HX.out.keep BU.out) (by decide)
    have M4:Hid (Sq5 V.heap.size q g t W5 u4):=⟨MU.out.1.trans (Mq.of hG4 fun k e=> .inl ⟨(World.ownsRow.lt HG.out.row k e.symm).1,fun f=>by subst f;exact row_ne_vb (row_keepX HG.out.row BU.out) ((VT.out).keep BU.out) (by decide) e.symm⟩),V4'.out.cell 7 rfl⟩
    have MN:Hid (Gw u4 V.heap.size (.slice (some ⟨g,0,none⟩) 24 24) (.slice wa (j+1) wc) X.harts X.pol (j+1) (rs++ [(⟨⟨i1,o1,.slice la ln lk⟩,H,pforL (X.pol.own.getD j []) X.pol.lanes (j:Int) 8, -1, -1⟩:Gs)])):=HG.out.step BU.out RN1.out.1 RN1.out.2 HB.out.2 HHE.out.symm rfl rfl rfl hO4 hG4
    have P4:Hid (Pags u4 W.heap.size (.slice (some ⟨g,0,none⟩) 24 24) 24 X.mem):=KY.row (row_keepX HP.out BU.out) (by decide)
    have L4:Hid (u3.heap.size≤u4.heap.size):=hG4.size
    clear hO4 hG4 KY
    refine hK.out _ _ M4.out (fun _=>?_)
    clear hK K
    refine wpTd 17 40 ((.pointer (some ⟨q,0,none⟩))) rfl M4.out ?_
    simp only[Act.put,zT,zZ,zS]
    refine wpTd 18 41 ((.pointer (some ⟨q,8,none⟩))) rfl M4.out ?_
    simp only[Act.put,zT,zZ,zS]
    refine zR 19 rfl fun K hK=>?_
    rw[if_pos (by rfl)]
    have y0:=V4'.out.cell 8 rfl
    have f0:=V4'.out.free 8
    have lt:=V4'.out.lt
    go_simp
    clear y0 f0 lt
    have V5:Hid (Vb (u4.setCell ⟨q,8,none⟩ (.slice wa (j+1) wc)) q #[.int .i64 X.slot,.int .i64 X.left,.int .i64 X.clock,.slice a0 n0 c0,.slice a1 n1 c1,.slice a2 n2 c2,.slice a3 n3 c3,.slice (some ⟨g,0,none⟩) 24 24,.slice wa (j+1) wc] 126):=V4'.out.set 8 _
    have M5:Hid (Mq (fun k=>k=q) u4 (u4.setCell ⟨q,8,none⟩ (.slice wa (j+1) wc))):=(Mq.refl _ _).set _ _ rfl
    have K5:Hid (Ky (some 126) u4 (u4.setCell ⟨q,8,none⟩ (.slice wa (j+1) wc))):=ky_set V4'.out M5.out
    have M6:Hid (Sq5 V.heap.size q g t W5 (u4.setCell ⟨q,8,none⟩ (.slice wa (j+1) wc))):=⟨M4.out.1.set _ _ (.inr rfl),V5.out.cell 7 rfl⟩
    generalize u4.setCell ⟨q,8,none⟩ (.slice wa (j+1) wc)=u5 at*
    refine hK.out _ _ M6.out (fun _=>?_)
    clear hK K
    refine wpAnyH_done (by kernel_rfl) ?_ _
    have B5:Hid (Below W.heap.size W u5):=Mq.under HB.out.1 M6.out.1 fun k e=>by have:=QB.out;have:=BVS.out;omega
    have Z5:Hid (V.heap.size≤u5.heap.size):=Nat.le_trans HB.out.2 M6.out.1.size
    go_wp2_with fail
    go_roundw
    case rel=>exact⟨j+1,_,_,by have:=HLT.out;omega,by go_num,V5.out,K5.out.row P4.out (by decide),MN.out.ky K5.out M5.out.size (by decide) (by decide) (by decide),B5.out,Z5.out⟩
    case measure=>have:=HLT.out;simp[intOf];omega
   ·skip
    rw[if_pos (by rfl)]
    go_simp
    refine(i_pages0 _ _ _ _ _ _ _ _ _ _ _ _ X.pol (j:Int) _ ((D.out.pol.stay HB.out.1).stay BU.out) ⟨by omega,by have:=HLT.out;have:=LH.out;have:=HZ.out.hl;omega⟩).mono ?_
    rintro e u1⟨lv,rfl,pr,bq⟩
    rw[Int.toNat_natCast]at pr
    obtain⟨la,lk,e0⟩:=row_shape pr
    subst e0
    obtain⟨ln,hln⟩:∃n,(pforL (X.pol.own.getD j []) X.pol.lanes (j:Int) 8).length=n:=⟨_,rfl⟩
    rw[hln]at pr ⊢
    have PR:Hid (Prs 89 u1 W5.heap.size (.slice la ln lk) (pforL (X.pol.own.getD j []) X.pol.lanes (j:Int) 8)):=row_monoX pr BU.out.size
    replace BU:=hid (on BU.out bq)
    replace MU:Hid (Sq5 V.heap.size q g t W5 u1):=MU.out.step bq
    clear pr bq hln
    refine hK.out _ _ MU.out (fun _=>?_)
    clear hK K
    refine wpAnyH_ready (rs:=[4,14]) (by kernel_rfl) (by simp) ?_
    refine AllReadyH.cons rfl (fun K hK=>?_) (AllReadyH.cons rfl (fun K hK=>?_) AllReadyH.nil)
    ·skip
     rw[if_pos (by rfl)]
     have y:=(HX.out.keep BU.out).cell 8 rfl
     go_simp
     clear y
     refine hK.out _ _ MU.out (fun _=>?_)
     clear hK K
     refine zR 14 rfl fun K hK=>?_
     rw[if_pos (by rfl)]
     go_simp
     refine(i_runnerOver _ _ _ _ H la ln lk (some ⟨g,0,none⟩) 24 24 b _ (Y2.out.keep BU.out) HOJ.out).mono ?_
     rintro e u2⟨i1,o1,rfl,ni,no,ap,bq,bo,h1,h2,h3,h4⟩
     have RN1:Hid (Gr u2 W5.heap.size (⟨⟨i1,o1,.slice la ln lk⟩,H,pforL (X.pol.own.getD j []) X.pol.lanes (j:Int) 8, -1, -1⟩:Gs)∧Apt i1 o1):=⟨⟨ni.mono BU.out.size,⟨bo,Nat.le_trans BU.out.size h1,h2,h3,h4⟩,row_keepX PR.out bq,pforL_len _ _ _ _⟩,ap⟩
     have OC:Hid (i1.oneCell'=true∧o1.oneCell'=true):=by
      obtain⟨_,_,f0,_⟩:=ni.shape
      obtain⟨_,_,f1,_⟩:=no.shape
      subst f0 f1
      exact⟨rfl,rfl⟩
     replace BU:=hid (on BU.out bq)
     replace MU:Hid (Sq5 V.heap.size q g t W5 u2):=MU.out.step bq
     clear ni no ap bq h1 h2 h3 h4
     refine hK.out _ _ MU.out (fun _=>?_)
     clear hK K
     refine zR 15 rfl fun K hK=>?_
     rw[if_pos (by rfl)]
     refine wp_bsR (.tmp 37) rfl (mcr H i1 o1 (.slice la ln lk) (.slice (some ⟨g,0,none⟩) 24 24) (-1) (-1)) rfl rfl ?_
     change K (Act.put _ (some 38) _) _
     simp only[Act.put,zT,zZ,zS]
     have bq:Below u2.heap.size u2 (u2.alloc (.cells (mcr H i1 o1 (.slice la ln lk) (.slice (some ⟨g,0,none⟩) 24 24) (-1) (-1)) 129)):=al (Below.refl _ _) _
     have C3:Hid ((u2.alloc (.cells (mcr H i1 o1 (.slice la ln lk) (.slice (some ⟨g,0,none⟩) 24 24) (-1) (-1)) 129)).rangeAt u2.heap.size 0 (cel38 (.slice (some ⟨g,0,none⟩) 24 24) (⟨⟨i1,o1,.slice la ln lk⟩,H,pforL (X.pol.own.getD j []) X.pol.lanes (j:Int) 8, -1, -1⟩:Gs))):=range_new _ _ _
     replace RN1:Hid (Gr (u2.alloc (.cells (mcr H i1 o1 (.slice la ln lk) (.slice (some ⟨g,0,none⟩) 24 24) (-1) (-1)) 129)) W5.heap.size (⟨⟨i1,o1,.slice la ln lk⟩,H,pforL (X.pol.own.getD j []) X.pol.lanes (j:Int) 8, -1, -1⟩:Gs)∧Apt i1 o1):=⟨RN1.out.1.keep bq,RN1.out.2⟩
     replace BU:=hid (on BU.out bq)
     obtain⟨gf,hgf⟩:∃g,u2.heap.size=g:=⟨_,rfl⟩
     rw[hgf]at C3 ⊢
     replace MU:Hid (Sq5 V.heap.size q g t W5 (u2.alloc (.cells (mcr H i1 o1 (.slice la ln lk) (.slice (some ⟨g,0,none⟩) 24 24) (-1) (-1)) 129))):=MU.out.step bq
     generalize u2.alloc (.cells (mcr H i1 o1 (.slice la ln lk) (.slice (some ⟨g,0,none⟩) 24 24) (-1) (-1)) 129)=u3 at*
     clear bq hgf
     refine hK.out _ _ MU.out (fun _=>?_)
     clear hK K
     refine zR 16 rfl fun K hK=>?_
     refine step_runX rfl (.tmp 27) (.tmp 38) rfl V.heap.size (.slice (some ⟨g,0,none⟩) 24 24) (.slice va j vc) rs rfl (row_keepX HG.out.row BU.out) gf (⟨⟨i1,o1,.slice la ln lk⟩,H,pforL (X.pol.own.getD j []) X.pol.lanes (j:Int) 8, -1, -1⟩:Gs) rfl C3.out ⟨OC.out.1,OC.out.2,rfl⟩ rfl j HG.out.len (by have:=HLT.out;have:=HZ.out.hl;have:=HZ.out.own;have:=LH.out;omega) (Nat.le_trans HB.out.2 BU.out.size) ?_
     intro wa wc u4 hO4 hG4
     change K (Act.put _ (some 39) _) _
     simp only[Act.put,zT,zZ,zS]
     have KY:Ky (some 129) u3 u4:=ky_row (row_keepX HG.out.row BU.out) hG4
     have V4':Hid (Vb u4 q #[.int .i64 X.slot,.int .i64 X.left,.int .i64 X.clock,.slice a0 n0 c0,.slice a1 n1 c1,.slice a2 n2 c2,.slice a3 n3 c3,.slice (some ⟨g,0,none⟩) 24 24,.slice va j vc] 126):=KY.vb (HX.out.keep BU.out) (by decide)
     have M4:Hid (Sq5 V.heap.size q g t W5 u4):=⟨MU.out.1.trans (Mq.of hG4 fun k e=> .inl ⟨(World.ownsRow.lt HG.out.row k e.symm).1,fun f=>by subst f;exact row_ne_vb (row_keepX HG.out.row BU.out) ((VT.out).keep BU.out) (by decide) e.symm⟩),V4'.out.cell 7 rfl⟩
     have MN:Hid (Gw u4 V.heap.size (.slice (some ⟨g,0,none⟩) 24 24) (.slice wa (j+1) wc) X.harts X.pol (j+1) (rs++ [(⟨⟨i1,o1,.slice la ln lk⟩,H,pforL (X.pol.own.getD j []) X.pol.lanes (j:Int) 8, -1, -1⟩:Gs)])):=HG.out.step BU.out RN1.out.1 RN1.out.2 HB.out.2 HHE.out.symm rfl rfl rfl hO4 hG4
     have P4:Hid (Pags u4 W.heap.size (.slice (some ⟨g,0,none⟩) 24 24) 24 X.mem):=KY.row (row_keepX HP.out BU.out) (by decide)
     have L4:Hid (u3.heap.size≤u4.heap.size):=hG4.size
     clear hO4 hG4 KY
     refine hK.out _ _ M4.out (fun _=>?_)
     clear hK K
     refine wpTd 17 40 ((.pointer (some ⟨q,0,none⟩))) rfl M4.out ?_
     simp only[Act.put,zT,zZ,zS]
     refine wpTd 18 41 ((.pointer (some ⟨q,8,none⟩))) rfl M4.out ?_
     simp only[Act.put,zT,zZ,zS]
     refine zR 19 rfl fun K hK=>?_
     rw[if_pos (by rfl)]
     have y0:=V4'.out.cell 8 rfl
     have f0:=V4'.out.free 8
     have lt:=V4'.out.lt
     go_simp
     clear y0 f0 lt
     have V5:Hid (Vb (u4.setCell ⟨q,8,none⟩ (.slice wa (j+1) wc)) q #[.int .i64 X.slot,.int .i64 X.left,.int .i64 X.clock,.slice a0 n0 c0,.slice a1 n1 c1,.slice a2 n2 c2,.slice a3 n3 c3,.slice (some ⟨g,0,none⟩) 24 24,.slice wa (j+1) wc] 126):=V4'.out.set 8 _
     have M5:Hid (Mq (fun k=>k=q) u4 (u4.setCell ⟨q,8,none⟩ (.slice wa (j+1) wc))):=(Mq.refl _ _).set _ _ rfl
     have K5:Hid (Ky (some 126) u4 (u4.setCell ⟨q,8,none⟩ (.slice wa (j+1) wc))):=ky_set V4'.out M5.out
     have M6:Hid (Sq5 V.heap.size q g t W5 (u4.setCell ⟨q,8,none⟩ (.slice wa (j+1) wc))):=⟨M4.out.1.set _ _ (.inr rfl),V5.out.cell 7 rfl⟩
     generalize u4.setCell ⟨q,8,none⟩ (.slice wa (j+1) wc)=u5 at*
     refine hK.out _ _ M6.out (fun _=>?_)
     clear hK K
     refine wpAnyH_done (by kernel_rfl) ?_ _
     have B5:Hid (Below W.heap.size W u5):=Mq.under HB.out.1 M6.out.1 fun k e=>by have:=QB.out;have:=BVS.out;omega
     have Z5:Hid (V.heap.size≤u5.heap.size):=Nat.le_trans HB.out.2 M6.out.1.size
     go_wp2_with fail
     go_roundw
     case rel=>exact⟨j+1,_,_,by have:=HLT.out;omega,by go_num,V5.out,K5.out.row P4.out (by decide),MN.out.ky K5.out M5.out.size (by decide) (by decide) (by decide),B5.out,Z5.out⟩
     case measure=>have:=HLT.out;simp[intOf];omega
    ·skip
     rw[if_pos (by rfl)]
     go_simp
     refine(i_runnerOver _ _ _ _ H la ln lk (some ⟨g,0,none⟩) 24 24 b _ (Y2.out.keep BU.out) HOJ.out).mono ?_
     rintro e u2⟨i1,o1,rfl,ni,no,ap,bq,bo,h1,h2,h3,h4⟩
     have RN1:Hid (Gr u2 W5.heap.size (⟨⟨i1,o1,.slice la ln lk⟩,H,pforL (X.pol.own.getD j []) X.pol.lanes (j:Int) 8, -1, -1⟩:Gs)∧Apt i1 o1):=⟨⟨ni.mono BU.out.size,⟨bo,Nat.le_trans BU.out.size h1,h2,h3,h4⟩,row_keepX PR.out bq,pforL_len _ _ _ _⟩,ap⟩
     have OC:Hid (i1.oneCell'=true∧o1.oneCell'=true):=by
      obtain⟨_,_,f0,_⟩:=ni.shape
      obtain⟨_,_,f1,_⟩:=no.shape
      subst f0 f1
      exact⟨rfl,rfl⟩
     replace BU:=hid (on BU.out bq)
     replace MU:Hid (Sq5 V.heap.size q g t W5 u2):=MU.out.step bq
     clear ni no ap bq h1 h2 h3 h4
     refine hK.out _ _ MU.out (fun _=>?_)
     clear hK K
     refine wpAnyH_ready (rs:=[4,15]) (by kernel_rfl) (by simp) ?_
     refine AllReadyH.cons rfl (fun K hK=>?_) (AllReadyH.cons rfl (fun K hK=>?_) AllReadyH.nil)
     ·skip
      rw[if_pos (by rfl)]
      have y:=(HX.out.keep BU.out).cell 8 rfl
      go_simp
      clear y
      refine hK.out _ _ MU.out (fun _=>?_)
      clear hK K
      refine zR 15 rfl fun K hK=>?_
      rw[if_pos (by rfl)]
      refine wp_bsR (.tmp 37) rfl (mcr H i1 o1 (.slice la ln lk) (.slice (some ⟨g,0,none⟩) 24 24) (-1) (-1)) rfl rfl ?_
      change K (Act.put _ (some 38) _) _
      simp only[Act.put,zT,zZ,zS]
      have bq:Below u2.heap.size u2 (u2.alloc (.cells (mcr H i1 o1 (.slice la ln lk) (.slice (some ⟨g,0,none⟩) 24 24) (-1) (-1)) 129)):=al (Below.refl _ _) _
      have C3:Hid ((u2.alloc (.cells (mcr H i1 o1 (.slice la ln lk) (.slice (some ⟨g,0,none⟩) 24 24) (-1) (-1)) 129)).rangeAt u2.heap.size 0 (cel38 (.slice (some ⟨g,0,none⟩) 24 24) (⟨⟨i1,o1,.slice la ln lk⟩,H,pforL (X.pol.own.getD j []) X.pol.lanes (j:Int) 8, -1, -1⟩:Gs))):=range_new _ _ _
      replace RN1:Hid (Gr (u2.alloc (.cells (mcr H i1 o1 (.slice la ln lk) (.slice (some ⟨g,0,none⟩) 24 24) (-1) (-1)) 129)) W5.heap.size (⟨⟨i1,o1,.slice la ln lk⟩,H,pforL (X.pol.own.getD j []) X.pol.lanes (j:Int) 8, -1, -1⟩:Gs)∧Apt i1 o1):=⟨RN1.out.1.keep bq,RN1.out.2⟩
      replace BU:=hid (on BU.out bq)
      obtain⟨gf,hgf⟩:∃g,u2.heap.size=g:=⟨_,rfl⟩
      rw[hgf]at C3 ⊢
      replace MU:Hid (Sq5 V.heap.size q g t W5 (u2.alloc (.cells (mcr H i1 o1 (.slice la ln lk) (.slice (some ⟨g,0,none⟩) 24 24) (-1) (-1)) 129))):=MU.out.step bq
      generalize u2.alloc (.cells (mcr H i1 o1 (.slice la ln lk) (.slice (some ⟨g,0,none⟩) 24 24) (-1) (-1)) 129)=u3 at*
      clear bq hgf
      refine hK.out _ _ MU.out (fun _=>?_)
      clear hK K
      refine zR 16 rfl fun K hK=>?_
      refine step_runX rfl (.tmp 27) (.tmp 38) rfl V.heap.size (.slice (some ⟨g,0,none⟩) 24 24) (.slice va j vc) rs rfl (row_keepX HG.out.row BU.out) gf (⟨⟨i1,o1,.slice la ln lk⟩,H,pforL (X.pol.own.getD j []) X.pol.lanes (j:Int) 8, -1, -1⟩:Gs) rfl C3.out ⟨OC.out.1,OC.out.2,rfl⟩ rfl j HG.out.len (by have:=HLT.out;have:=HZ.out.hl;have:=HZ.out.own;have:=LH.out;omega) (Nat.le_trans HB.out.2 BU.out.size) ?_
      intro wa wc u4 hO4 hG4
      change K (Act.put _ (some 39) _) _
      simp only[Act.put,zT,zZ,zS]
      have KY:Ky (some 129) u3 u4:=ky_row (row_keepX HG.out.row BU.out) hG4
      have V4':Hid (Vb u4 q #[.int .i64 X.slot,.int .i64 X.left,.int .i64 X.clock,.slice a0 n0 c0,.slice a1 n1 c1,.slice a2 n2 c2,.slice a3 n3 c3,.slice (some ⟨g,0,none⟩) 24 24,.slice va j vc] 126):=KY.vb (HX.out.keep BU.out) (by decide)
      have M4:Hid (Sq5 V.heap.size q g t W5 u4):=⟨MU.out.1.trans (Mq.of hG4 fun k e=> .inl ⟨(World.ownsRow.lt HG.out.row k e.symm).1,fun f=>by subst f;exact row_ne_vb (row_keepX HG.out.row BU.out) ((VT.out).keep BU.out) (by decide) e.symm⟩),V4'.out.cell 7 rfl⟩
      have MN:Hid (Gw u4 V.heap.size (.slice (some ⟨g,0,none⟩) 24 24) (.slice wa (j+1) wc) X.harts X.pol (j+1) (rs++ [(⟨⟨i1,o1,.slice la ln lk⟩,H,pforL (X.pol.own.getD j []) X.pol.lanes (j:Int) 8, -1, -1⟩:Gs)])):=HG.out.step BU.out RN1.out.1 RN1.out.2 HB.out.2 HHE.out.symm rfl rfl rfl hO4 hG4
      have P4:Hid (Pags u4 W.heap.size (.slice (some ⟨g,0,none⟩) 24 24) 24 X.mem):=KY.row (row_keepX HP.out BU.out) (by decide)
      have L4:Hid (u3.heap.size≤u4.heap.size):=hG4.size
      clear hO4 hG4 KY
      refine hK.out _ _ M4.out (fun _=>?_)
      clear hK K
      refine wpTd 17 40 ((.pointer (some ⟨q,0,none⟩))) rfl M4.out ?_
      simp only[Act.put,zT,zZ,zS]
      refine wpTd 18 41 ((.pointer (some ⟨q,8,none⟩))) rfl M4.out ?_
      simp only[Act.put,zT,zZ,zS]
      refine zR 19 rfl fun K hK=>?_
      rw[if_pos (by rfl)]
      have y0:=V4'.out.cell 8 rfl
      have f0:=V4'.out.free 8
      have lt:=V4'.out.lt
      go_simp
      clear y0 f0 lt
      have V5:Hid (Vb (u4.setCell ⟨q,8,none⟩ (.slice wa (j+1) wc)) q #[.int .i64 X.slot,.int .i64 X.left,.int .i64 X.clock,.slice a0 n0 c0,.slice a1 n1 c1,.slice a2 n2 c2,.slice a3 n3 c3,.slice (some ⟨g,0,none⟩) 24 24,.slice wa (j+1) wc] 126):=V4'.out.set 8 _
      have M5:Hid (Mq (fun k=>k=q) u4 (u4.setCell ⟨q,8,none⟩ (.slice wa (j+1) wc))):=(Mq.refl _ _).set _ _ rfl
      have K5:Hid (Ky (some 126) u4 (u4.setCell ⟨q,8,none⟩ (.slice wa (j+1) wc))):=ky_set V4'.out M5.out
      have M6:Hid (Sq5 V.heap.size q g t W5 (u4.setCell ⟨q,8,none⟩ (.slice wa (j+1) wc))):=⟨M4.out.1.set _ _ (.inr rfl),V5.out.cell 7 rfl⟩
      generalize u4.setCell ⟨q,8,none⟩ (.slice wa (j+1) wc)=u5 at*
      refine hK.out _ _ M6.out (fun _=>?_)
      clear hK K
      refine wpAnyH_done (by kernel_rfl) ?_ _
      have B5:Hid (Below W.heap.size W u5):=Mq.under HB.out.1 M6.out.1 fun k e=>by have:=QB.out;have:=BVS.out;omega
      have Z5:Hid (V.heap.size≤u5.heap.size):=Nat.le_trans HB.out.2 M6.out.1.size
      go_wp2_with fail
      go_roundw
      case rel=>exact⟨j+1,_,_,by have:=HLT.out;omega,by go_num,V5.out,K5.out.row P4.out (by decide),MN.out.ky K5.out M5.out.size (by decide) (by decide) (by decide),B5.out,Z5.out⟩
      case measure=>have:=HLT.out;simp[intOf];omega
     ·skip
      rw[if_pos (by rfl)]
      refine wp_bsR (.tmp 37) rfl (mcr H i1 o1 (.slice la ln lk) (.slice (some ⟨g,0,none⟩) 24 24) (-1) (-1)) rfl rfl ?_
      change K (Act.put _ (some 38) _) _
      simp only[Act.put,zT,zZ,zS]
      have bq:Below u2.heap.size u2 (u2.alloc (.cells (mcr H i1 o1 (.slice la ln lk) (.slice (some ⟨g,0,none⟩) 24 24) (-1) (-1)) 129)):=al (Below.refl _ _) _
      have C3:Hid ((u2.alloc (.cells (mcr H i1 o1 (.slice la ln lk) (.slice (some ⟨g,0,none⟩) 24 24) (-1) (-1)) 129)).rangeAt u2.heap.size 0 (cel38 (.slice (some ⟨g,0,none⟩) 24 24) (⟨⟨i1,o1,.slice la ln lk⟩,H,pforL (X.pol.own.getD j []) X.pol.lanes (j:Int) 8, -1, -1⟩:Gs))):=range_new _ _ _
      replace RN1:Hid (Gr (u2.alloc (.cells (mcr H i1 o1 (.slice la ln lk) (.slice (some ⟨g,0,none⟩) 24 24) (-1) (-1)) 129)) W5.heap.size (⟨⟨i1,o1,.slice la ln lk⟩,H,pforL (X.pol.own.getD j []) X.pol.lanes (j:Int) 8, -1, -1⟩:Gs)∧Apt i1 o1):=⟨RN1.out.1.keep bq,RN1.out.2⟩
      replace BU:=hid (on BU.out bq)
      obtain⟨gf,hgf⟩:∃g,u2.heap.size=g:=⟨_,rfl⟩
      rw[hgf]at C3 ⊢
      replace MU:Hid (Sq5 V.heap.size q g t W5 (u2.alloc (.cells (mcr H i1 o1 (.slice la ln lk) (.slice (some ⟨g,0,none⟩) 24 24) (-1) (-1)) 129))):=MU.out.step bq
      generalize u2.alloc (.cells (mcr H i1 o1 (.slice la ln lk) (.slice (some ⟨g,0,none⟩) 24 24) (-1) (-1)) 129)=u3 at*
      clear bq hgf
      refine hK.out _ _ MU.out (fun _=>?_)
      clear hK K
      refine zR 4 rfl fun K hK=>?_
      rw[if_pos (by rfl)]
      have y:=(HX.out.keep BU.out).cell 8 rfl
      go_simp
      clear y
      refine hK.out _ _ MU.out (fun _=>?_)
      clear hK K
      refine zR 16 rfl fun K hK=>?_
      refine step_runX rfl (.tmp 27) (.tmp 38) rfl V.heap.size (.slice (some ⟨g,0,none⟩) 24 24) (.slice va j vc) rs rfl (row_keepX HG.out.row BU.out) gf (⟨⟨i1,o1,.slice la ln lk⟩,H,pforL (X.pol.own.getD j []) X.pol.lanes (j:Int) 8, -1, -1⟩:Gs) rfl C3.out ⟨OC.out.1,OC.out.2,rfl⟩ rfl j HG.out.len (by have:=HLT.out;have:=HZ.out.hl;have:=HZ.out.own;have:=LH.out;omega) (Nat.le_trans HB.out.2 BU.out.size) ?_
      intro wa wc u4 hO4 hG4
      change K (Act.put _ (some 39) _) _
      simp only[Act.put,zT,zZ,zS]
      have KY:Ky (some 129) u3 u4:=ky_row (row_keepX HG.out.row BU.out) hG4
      have V4':Hid (Vb u4 q #[.int .i64 X.slot,.int .i64 X.left,.int .i64 X.clock,.slice a0 n0 c0,.slice a1 n1 c1,.slice a2 n2 c2,.slice a3 n3 c3,.slice (some ⟨g,0,none⟩) 24 24,.slice va j vc] 126):=KY.vb (HX.out.keep BU.out) (by decide)
      have M4:Hid (Sq5 V.heap.size q g t W5 u4):=⟨MU.out.1.trans (Mq.of hG4 fun k e=> .inl ⟨(World.ownsRow.lt HG.out.row k e.symm).1,fun f=>by subst f;exact row_ne_vb (row_keepX HG.out.row BU.out) ((VT.out).keep BU.out) (by decide) e.symm⟩),V4'.out.cell 7 rfl⟩
      have MN:Hid (Gw u4 V.heap.size (.slice (some ⟨g,0,none⟩) 24 24) (.slice wa (j+1) wc) X.harts X.pol (j+1) (rs++ [(⟨⟨i1,o1,.slice la ln lk⟩,H,pforL (X.pol.own.getD j []) X.pol.lanes (j:Int) 8, -1, -1⟩:Gs)])):=HG.out.step BU.out RN1.out.1 RN1.out.2 HB.out.2 HHE.out.symm rfl rfl rfl hO4 hG4
      have P4:Hid (Pags u4 W.heap.size (.slice (some ⟨g,0,none⟩) 24 24) 24 X.mem):=KY.row (row_keepX HP.out BU.out) (by decide)
      have L4:Hid (u3.heap.size≤u4.heap.size):=hG4.size
      clear hO4 hG4 KY
      refine hK.out _ _ M4.out (fun _=>?_)
      clear hK K
      refine wpTd 17 40 ((.pointer (some ⟨q,0,none⟩))) rfl M4.out ?_
      simp only[Act.put,zT,zZ,zS]
      refine wpTd 18 41 ((.pointer (some ⟨q,8,none⟩))) rfl M4.out ?_
      simp only[Act.put,zT,zZ,zS]
      refine zR 19 rfl fun K hK=>?_
      rw[if_pos (by rfl)]
      have y0:=V4'.out.cell 8 rfl
      have f0:=V4'.out.free 8
      have lt:=V4'.out.lt
      go_simp
      clear y0 f0 lt
      have V5:Hid (Vb (u4.setCell ⟨q,8,none⟩ (.slice wa (j+1) wc)) q #[.int .i64 X.slot,.int .i64 X.left,.int .i64 X.clock,.slice a0 n0 c0,.slice a1 n1 c1,.slice a2 n2 c2,.slice a3 n3 c3,.slice (some ⟨g,0,none⟩) 24 24,.slice wa (j+1) wc] 126):=V4'.out.set 8 _
      have M5:Hid (Mq (fun k=>k=q) u4 (u4.setCell ⟨q,8,none⟩ (.slice wa (j+1) wc))):=(Mq.refl _ _).set _ _ rfl
      have K5:Hid (Ky (some 126) u4 (u4.setCell ⟨q,8,none⟩ (.slice wa (j+1) wc))):=ky_set V4'.out M5.out
      have M6:Hid (Sq5 V.heap.size q g t W5 (u4.setCell ⟨q,8,none⟩ (.slice wa (j+1) wc))):=⟨M4.out.1.set _ _ (.inr rfl),V5.out.cell 7 rfl⟩
      generalize u4.setCell ⟨q,8,none⟩ (.slice wa (j+1) wc)=u5 at*
      refine hK.out _ _ M6.out (fun _=>?_)
      clear hK K
      refine wpAnyH_done (by kernel_rfl) ?_ _
      have B5:Hid (Below W.heap.size W u5):=Mq.under HB.out.1 M6.out.1 fun k e=>by have:=QB.out;have:=BVS.out;omega
      have Z5:Hid (V.heap.size≤u5.heap.size):=Nat.le_trans HB.out.2 M6.out.1.size
      go_wp2_with fail
      go_roundw
      case rel=>exact⟨j+1,_,_,by have:=HLT.out;omega,by go_num,V5.out,K5.out.row P4.out (by decide),MN.out.ky K5.out M5.out.size (by decide) (by decide) (by decide),B5.out,Z5.out⟩
      case measure=>have:=HLT.out;simp[intOf];omega
  ·have hJ:¬(j:Int)<(lh:Int):=by omega
   have JN:j=lh:=by omega
   subst JN
   clear hlt hB hj
   go_wp2_with fail
   exact bodyPost_ret (v:=.pointer (some ⟨q,0,none⟩)) (by simp[results,Tryz.results20,go_sem]) rfl ⟨⟨q,g,_,rs,rfl,HX.out,row_monoX HP.out B0.out.size,⟨HG.out.len,row_monoX HG.out.row (Nat.le_trans B0.out.size BVS.out),fun k s e=>by obtain⟨k1,k2,k3,k4,k5⟩:=HG.out.one k s e;exact⟨k1,k2,k3,k4,k5.mono (Nat.le_trans B0.out.size BVS.out)⟩,HG.out.apart⟩,by have:=QB.out;have:=B0.out.size;omega⟩,on B0.out HB.out.1⟩
end Go.Proofs.YtignbeibcakgpaaGreatDoor
