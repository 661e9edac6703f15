import Derived.Deep.SlicePairs
import Derived.Deep.WholeRow
import Derived.Lib.BufferMore
import Derived.Test.YtaefollmeoepkaaGreatDoorQ10
namespace Go.Proofs.YtaefollmeoepkaaGreatDoor
set_option maxRecDepth 20000
set_option maxHeartbeats 16000000
open Go.RowKit
set_option linter.unusedVariables false
def flat:List (Int×Int)→List Value
 | []=> []
 |r::t=> .int .i64 r.1:: .int .i64 r.2::flat t
theorem flat_length(rs:List (Int×Int)):(flat rs).length=rs.length*2:=by
 induction rs with
 |nil=>rfl
 |cons r t ih=>simp[flat,ih];omega
theorem flat_append(rs qs:List (Int×Int)):flat (rs++qs)=flat rs++flat qs:=by
 induction rs with
 |nil=>rfl
 |cons r t ih=>simp[flat,ih]
theorem flat_get(rs:List (Int×Int))(i:Nat)(h:i<rs.length):(flat rs)[i*2]? =some (.int .i64 (rs.getD i (0,0)).1)∧(flat rs)[i*2+1]? =some (.int .i64 (rs.getD i (0,0)).2):=by
 induction rs generalizing i with
 |nil=>simp at h
 |cons r t ih=>
  cases i with
  |zero=>exact⟨rfl,rfl⟩
  |succ i=>
   have h2:=ih i (by simpa using h)
   rw[show(i+1)*2=i*2+1+1 by omega]
   simpa [flat]using h2
theorem flat_set(rs:List (Int×Int))(i:Nat)(a b:Int)(h:i<rs.length):flat (rs.set i (a,b))=((flat rs).set (i*2) (.int .i64 a)).set (i*2+1) (.int .i64 b):=by
 induction rs generalizing i with
 |nil=>simp at h
 |cons r t ih=>
  cases i with
  |zero=>rfl
  |succ i=>
   rw[show(i+1)*2=i*2+1+1 by omega]
   simp[flat,ih i (by simpa using h)]
theorem flat_one(rs:List (Int×Int)):∀u ∈ flat rs,u.oneCell'=true:=by
 induction rs with
 |nil=>intro u hu;cases hu
 |cons r t ih=>
  intro u hu
  rcases List.mem_cons.1 hu with rfl|hu
  ·rfl
  rcases List.mem_cons.1 hu with rfl|hu
  ·rfl
  exact ih u hu
def Prs(e:TypeId)(w:World)(base:Nat)(v:Value)(rs:List (Int×Int)):Prop:=w.ownsRow base e 2 v rs.length (flat rs)
theorem Prs.keep{e:TypeId}{w w':World}{base:Nat}{v:Value}{rs:List (Int×Int)}(h:Prs e w base v rs)(hb:Below w.heap.size w w'):Prs e w' base v rs:=by
 refine World.ownsRow.kept h (below_grown hb none) ?_
 cases v.ownBlock<;>simp
variable{e:TypeId}{w:World}{base:Nat}{v:Value}{rs:List (Int×Int)}
theorem Prs.lt(h:Prs e w base v rs):∀k,v.ownBlock=some k→base≤k∧k<w.heap.size:=World.ownsRow.lt h
theorem Prs.nil(e:TypeId)(w:World)(base:Nat):Prs e w base (.slice none 0 0) []:=World.ownsRow_nil w base _ _
variable{e:TypeId}{w:World}{base g n cap:Nat}{rs:List (Int×Int)}
theorem Prs.cell(h:Prs e w base (.slice (some ⟨g,0,none⟩) n cap) rs)(hn:n=rs.length)(i:Nat)(hi:i<n):
  w.cell? ⟨g,i*2,none⟩=some (.int .i64 (rs.getD i (0,0)).1)∧w.cell? ⟨g,i*2+1,none⟩=some (.int .i64 (rs.getD i (0,0)).2):=by
 subst hn
 rw[World.ownsRow.cellAt h (i*2) (by omega),World.ownsRow.cellAt h (i*2+1) (by omega)]
 exact flat_get rs i hi
theorem Prs.free(h:Prs e w base (.slice (some ⟨g,0,none⟩) n cap) rs)(hn:n=rs.length)(i:Nat):w.frozen? ⟨g,i,none⟩=false:=by
 subst hn
 exact World.ownsRow.frozenAt h i
variable{e:TypeId}{w:World}{base:Nat}{v:Value}{rs:List (Int×Int)}
theorem Prs.shape(h:Prs e w base v rs):∃a cap,v=.slice a rs.length cap∧rs.length≤cap∧cap≤maxLen∧(0<rs.length→∃g,a=some ⟨g,0,none⟩):=by
 have h':=h
 obtain⟨h1,⟨rfl,h3⟩|⟨g,cap,cur,rfl,_,_,h4,h5,_⟩⟩:=h'
 ·exact⟨none,0,by rw[h3],by omega,by unfold maxLen;omega,fun hz=>by omega⟩
 ·exact⟨_,_,rfl,h4,h5,fun _=>⟨g,rfl⟩⟩
variable{e:TypeId}{w:World}{base g n cap:Nat}{rs:List (Int×Int)}
theorem Prs.store(h:Prs e w base (.slice (some ⟨g,0,none⟩) n cap) rs)(hn:n=rs.length)(j:Nat)(a b:Int)(hj:j<n):
  Prs e ((w.setCell ⟨g,j*2,none⟩ (.int .i64 a)).setCell ⟨g,j*2+1,none⟩ (.int .i64 b)) base (.slice (some ⟨g,0,none⟩) n cap) (rs.set j (a,b)):=by
 subst hn
 have h1:=(World.ownsRow.stored h (j*2) (.int .i64 a)).1
 have h2:=(World.ownsRow.stored h1 (j*2+1) (.int .i64 b)).1
 unfold Prs
 rw[List.length_set,flat_set rs j a b hj]
 exact h2
theorem wp_pair{ops:Array Oper}{rest:List Oper}{o:Oper}{act:Act}{Q:Exit→Act→World→Prop}(t e:TypeId)(he:Tryz.prog.underlying t=some (.slice e))(hinfo:(Tryz.prog.info? e).map (fun i=>(i.zero,i.size,i.bytes))=some (some (.agg #[.int .i64 0,.int .i64 0]),2,16))
  (w:World) (hgd:o.guard=none) (s x:Operand)
  (ho:o.op=.call { callee:=.builtin .append,args:=#[s,x],argTypes:=#[t,t]}) (base:Nat) (v:Value) (rs:List (Int×Int)) (hs:act.eval s=v) (hN:Prs e w base v rs)
  (B:Nat) (a b:Int) (hx:act.eval x=.slice (some ⟨B,0,none⟩) 1 1) (h0:w.cell? ⟨B,0,none⟩=some (.int .i64 a)) (h1:w.cell? ⟨B,1,none⟩=some (.int .i64 b))
  (hlen:rs.length≤1000000000) (hbase:base≤w.heap.size)
  (h:∀v' w',Prs e w' base v' (rs++ [(a,b)])→w.grownBy w' v.ownBlock→wpList Tryz.prog ops Q rest (act.put o.dst v') w'):wpList Tryz.prog ops Q (o::rest) act w:=by
 obtain⟨i,hi,hz0,hz1,hz2⟩:=info_parts hinfo
 refine wpList_append_own w hgd s x t ho base e i _ 2 16 he hi hz0 hz1 hz2 rfl (by decide) v rs.length _ hs hN ⟨B,0,none⟩ 1 1 (flat [(a,b)]) hx rfl ?_ (flat_one _) (by unfold maxLen;omega) (by omega) hbase ?_
 ·intro j u hj
  rw[Addr.add_lit,Nat.zero_add]
  match j,hj with
  |0,hj=>rw[h0];exact hj
  |1,hj=>rw[h1];exact hj
  |j+2,hj=>simp[flat]at hj
 ·intro v' w' hown hgrow _
  refine h v' w' ?_ hgrow
  unfold Prs
  rw[List.length_append,flat_append]
  exact hown
theorem add_block(x:Addr)(i:Nat):(x.add i).block=x.block:=by unfold Addr.add;split<;>rfl
theorem Nums.ne_vb{w:World}{b m:Nat}{v:Value}{zs:List Int}{cs:Array Value}{t:TypeId}(h:Nums w b v zs)(hv:Vb w m cs t)(ht:t≠2):v.ownBlock≠some m:=by
 obtain⟨h1,⟨rfl,_⟩|⟨g,cap,cur,rfl,hg,hr,_⟩⟩:=h
 ·intro e;cases e
 ·intro e
  have e:g=m:=by simpa [Value.ownBlock]using e
  subst e
  unfold Vb at hv
  rw[hv]at hr
  cases hr
  exact ht rfl
theorem Rn.mq{S:Nat→Prop}{w w':World}{a:Option Addr}{len cap:Nat}{zs:List Int}(h:Rn w a len cap zs)(m:Mq S w w')(hn:∀x,a=some x→x.block<w.heap.size→¬S x.block):Rn w' a len cap zs:=by
 rcases h with h|⟨x,rfl,h1,h2,h3,h4⟩
 ·exact .inl h
 ·refine .inr ⟨x,rfl,h1,h2,h3,fun i hi=>?_⟩
  have hc:=h4 i hi
  have hl:x.block<w.heap.size:=by have:=World.block_lt_of_cell? w (x.add i) hc;rwa[add_block]at this
  rw[←hc]
  exact World.cell?_of_block (a:=x.add i) (by rw[add_block];exact m.block x.block hl (hn x rfl hl))
theorem Rv.mq{S:Nat→Prop}{w w':World}{v:Value}{zs:List Int}(h:Rv w v zs)(m:Mq S w w')(hn:∀k,v.ownBlock=some k→k<w.heap.size→¬S k):Rv w' v zs:=by
 obtain⟨a,cap,rfl,h2⟩:=h
 exact⟨a,cap,rfl,h2.mq m fun x e hl=>hn x.block (by rw[e];rfl) hl⟩
structure Hr(w:World)(r c i o:Value)(H:Ht):Prop where
 r:Rv w r H.regs
 c:Rv w c H.csr
 i:Rv w i H.inn
 o:Rv w o H.out
theorem Hr.stay{w w':World}{r c i o:Value}{H:Ht}(h:Hr w r c i o H)(b:Below w.heap.size w w'):Hr w' r c i o H:=⟨h.r.stay b,h.c.stay b,h.i.stay b,h.o.stay b⟩
theorem Hm.hr{w:World}{base:Nat}{r c i o:Value}{H:Ht}(h:Hm w base r c i o H):Hr w r c i o H:=⟨h.r.rv,h.c.rv,h.i.rv,h.o.rv⟩
theorem Hr.mq{S:Nat→Prop}{w w':World}{r c i o:Value}{H:Ht}(h:Hr w r c i o H)(m:Mq S w w')(hn:∀k,Own4 r c i o k→k<w.heap.size→¬S k):Hr w' r c i o H:=
 ⟨h.r.mq m fun k e=>hn k (.inl e),h.c.mq m fun k e=>hn k (.inr (.inl e)),h.i.mq m fun k e=>hn k (.inr (.inr (.inl e))),h.o.mq m fun k e=>hn k (.inr (.inr (.inr e)))⟩
theorem Nums.apt{w w':World}{base base':Nat}{v u:Value}{zs ys:List Int}(h:Nums w base v zs)(k:Nums w' base' u ys)(hb:w.heap.size≤base'):Apt v u:=own_ne h k hb
theorem Mq.refl(S:Nat→Prop)(w:World):Mq S w w:=⟨rfl,rfl,rfl,Nat.le_refl _,fun _ _ _=>rfl⟩
theorem Mq.set{S:Nat→Prop}{a w:World}(m:Mq S a w)(p:Addr)(u:Value)(hp:S p.block):Mq S a (w.setCell p u):=m.trans (Mq.of (grown_set w p u) fun k e=>by cases e;exact hp)
theorem Mq.ho{S:Nat→Prop}{base:Nat}{w w':World}(m:Mq S w w')(h:∀k,S k→k<base):Ho base w w':=⟨m.size,fun k hb hk=>m.block k hk fun e=>by have:=h k e;omega⟩
theorem Mq.under{S:Nat→Prop}{a w w':World}(b:Below a.heap.size a w)(m:Mq S w w')(h:∀k,S k→a.heap.size≤k):Below a.heap.size a w':=Mq.below b m h
variable{v:World}{q:Nat}{t:TypeId}{z0 z1 z2 z3 z4 z5 z6 z7 z8:Value}
theorem nine(h:Vb v q #[z0,z1,z2,z3,z4,z5,z6,z7,z8] t)(u0 u1 u2 u3 u4 u5 u6 u7 u8:Value):
  Vb (((((((((v.setCell ⟨q,0,none⟩ u0).setCell ⟨q,1,none⟩ u1).setCell ⟨q,2,none⟩ u2).setCell ⟨q,3,none⟩ u3).setCell ⟨q,4,none⟩ u4).setCell ⟨q,5,none⟩ u5).setCell ⟨q,6,none⟩ u6).setCell ⟨q,7,none⟩ u7).setCell ⟨q,8,none⟩ u8) q #[u0,u1,u2,u3,u4,u5,u6,u7,u8] t∧Mq (fun k=>k=q) v (((((((((v.setCell ⟨q,0,none⟩ u0).setCell ⟨q,1,none⟩ u1).setCell ⟨q,2,none⟩ u2).setCell ⟨q,3,none⟩ u3).setCell ⟨q,4,none⟩ u4).setCell ⟨q,5,none⟩ u5).setCell ⟨q,6,none⟩ u6).setCell ⟨q,7,none⟩ u7).setCell ⟨q,8,none⟩ u8):=by
 have h0:Vb (v.setCell ⟨q,0,none⟩ u0) q #[u0,z1,z2,z3,z4,z5,z6,z7,z8] t:=h.set 0 u0
 have h1:Vb ((v.setCell ⟨q,0,none⟩ u0).setCell ⟨q,1,none⟩ u1) q #[u0,u1,z2,z3,z4,z5,z6,z7,z8] t:=h0.set 1 u1
 have h2:Vb (((v.setCell ⟨q,0,none⟩ u0).setCell ⟨q,1,none⟩ u1).setCell ⟨q,2,none⟩ u2) q #[u0,u1,u2,z3,z4,z5,z6,z7,z8] t:=h1.set 2 u2
 have h3:Vb ((((v.setCell ⟨q,0,none⟩ u0).setCell ⟨q,1,none⟩ u1).setCell ⟨q,2,none⟩ u2).setCell ⟨q,3,none⟩ u3) q #[u0,u1,u2,u3,z4,z5,z6,z7,z8] t:=h2.set 3 u3
 have h4:Vb (((((v.setCell ⟨q,0,none⟩ u0).setCell ⟨q,1,none⟩ u1).setCell ⟨q,2,none⟩ u2).setCell ⟨q,3,none⟩ u3).setCell ⟨q,4,none⟩ u4) q #[u0,u1,u2,u3,u4,z5,z6,z7,z8] t:=h3.set 4 u4
 have h5:Vb ((((((v.setCell ⟨q,0,none⟩ u0).setCell ⟨q,1,none⟩ u1).setCell ⟨q,2,none⟩ u2).setCell ⟨q,3,none⟩ u3).setCell ⟨q,4,none⟩ u4).setCell ⟨q,5,none⟩ u5) q #[u0,u1,u2,u3,u4,u5,z6,z7,z8] t:=h4.set 5 u5
 have h6:Vb (((((((v.setCell ⟨q,0,none⟩ u0).setCell ⟨q,1,none⟩ u1).setCell ⟨q,2,none⟩ u2).setCell ⟨q,3,none⟩ u3).setCell ⟨q,4,none⟩ u4).setCell ⟨q,5,none⟩ u5).setCell ⟨q,6,none⟩ u6) q #[u0,u1,u2,u3,u4,u5,u6,z7,z8] t:=h5.set 6 u6
 have h7:Vb ((((((((v.setCell ⟨q,0,none⟩ u0).setCell ⟨q,1,none⟩ u1).setCell ⟨q,2,none⟩ u2).setCell ⟨q,3,none⟩ u3).setCell ⟨q,4,none⟩ u4).setCell ⟨q,5,none⟩ u5).setCell ⟨q,6,none⟩ u6).setCell ⟨q,7,none⟩ u7) q #[u0,u1,u2,u3,u4,u5,u6,u7,z8] t:=h6.set 7 u7
 have h8:Vb (((((((((v.setCell ⟨q,0,none⟩ u0).setCell ⟨q,1,none⟩ u1).setCell ⟨q,2,none⟩ u2).setCell ⟨q,3,none⟩ u3).setCell ⟨q,4,none⟩ u4).setCell ⟨q,5,none⟩ u5).setCell ⟨q,6,none⟩ u6).setCell ⟨q,7,none⟩ u7).setCell ⟨q,8,none⟩ u8) q #[u0,u1,u2,u3,u4,u5,u6,u7,u8] t:=h7.set 8 u8
 exact⟨h8,(((((((((Mq.refl (fun k=>k=q) v).set ⟨q,0,none⟩ u0 rfl).set ⟨q,1,none⟩ u1 rfl).set ⟨q,2,none⟩ u2 rfl).set ⟨q,3,none⟩ u3 rfl).set ⟨q,4,none⟩ u4 rfl).set ⟨q,5,none⟩ u5 rfl).set ⟨q,6,none⟩ u6 rfl).set ⟨q,7,none⟩ u7 rfl).set ⟨q,8,none⟩ u8 rfl⟩
theorem ten{v:World}{q:Nat}{t:TypeId}{z0 z1 z2 z3 z4 z5 z6 z7 z8 z9:Value}(h:Vb v q #[z0,z1,z2,z3,z4,z5,z6,z7,z8,z9] t)(u0 u1 u2 u3 u4 u5 u6 u7 u8 u9:Value):
  Vb ((((((((((v.setCell ⟨q,0,none⟩ u0).setCell ⟨q,1,none⟩ u1).setCell ⟨q,2,none⟩ u2).setCell ⟨q,3,none⟩ u3).setCell ⟨q,4,none⟩ u4).setCell ⟨q,5,none⟩ u5).setCell ⟨q,6,none⟩ u6).setCell ⟨q,7,none⟩ u7).setCell ⟨q,8,none⟩ u8).setCell ⟨q,9,none⟩ u9) q #[u0,u1,u2,u3,u4,u5,u6,u7,u8,u9] t∧Mq (fun k=>k=q) v ((((((((((v.setCell ⟨q,0,none⟩ u0).setCell ⟨q,1,none⟩ u1).setCell ⟨q,2,none⟩ u2).setCell ⟨q,3,none⟩ u3).setCell ⟨q,4,none⟩ u4).setCell ⟨q,5,none⟩ u5).setCell ⟨q,6,none⟩ u6).setCell ⟨q,7,none⟩ u7).setCell ⟨q,8,none⟩ u8).setCell ⟨q,9,none⟩ u9):=by
 have h0:Vb (v.setCell ⟨q,0,none⟩ u0) q #[u0,z1,z2,z3,z4,z5,z6,z7,z8,z9] t:=h.set 0 u0
 have h1:Vb ((v.setCell ⟨q,0,none⟩ u0).setCell ⟨q,1,none⟩ u1) q #[u0,u1,z2,z3,z4,z5,z6,z7,z8,z9] t:=h0.set 1 u1
 have h2:Vb (((v.setCell ⟨q,0,none⟩ u0).setCell ⟨q,1,none⟩ u1).setCell ⟨q,2,none⟩ u2) q #[u0,u1,u2,z3,z4,z5,z6,z7,z8,z9] t:=h1.set 2 u2
 have h3:Vb ((((v.setCell ⟨q,0,none⟩ u0).setCell ⟨q,1,none⟩ u1).setCell ⟨q,2,none⟩ u2).setCell ⟨q,3,none⟩ u3) q #[u0,u1,u2,u3,z4,z5,z6,z7,z8,z9] t:=h2.set 3 u3
 have h4:Vb (((((v.setCell ⟨q,0,none⟩ u0).setCell ⟨q,1,none⟩ u1).setCell ⟨q,2,none⟩ u2).setCell ⟨q,3,none⟩ u3).setCell ⟨q,4,none⟩ u4) q #[u0,u1,u2,u3,u4,z5,z6,z7,z8,z9] t:=h3.set 4 u4
 have h5:Vb ((((((v.setCell ⟨q,0,none⟩ u0).setCell ⟨q,1,none⟩ u1).setCell ⟨q,2,none⟩ u2).setCell ⟨q,3,none⟩ u3).setCell ⟨q,4,none⟩ u4).setCell ⟨q,5,none⟩ u5) q #[u0,u1,u2,u3,u4,u5,z6,z7,z8,z9] t:=h4.set 5 u5
 have h6:Vb (((((((v.setCell ⟨q,0,none⟩ u0).setCell ⟨q,1,none⟩ u1).setCell ⟨q,2,none⟩ u2).setCell ⟨q,3,none⟩ u3).setCell ⟨q,4,none⟩ u4).setCell ⟨q,5,none⟩ u5).setCell ⟨q,6,none⟩ u6) q #[u0,u1,u2,u3,u4,u5,u6,z7,z8,z9] t:=h5.set 6 u6
 have h7:Vb ((((((((v.setCell ⟨q,0,none⟩ u0).setCell ⟨q,1,none⟩ u1).setCell ⟨q,2,none⟩ u2).setCell ⟨q,3,none⟩ u3).setCell ⟨q,4,none⟩ u4).setCell ⟨q,5,none⟩ u5).setCell ⟨q,6,none⟩ u6).setCell ⟨q,7,none⟩ u7) q #[u0,u1,u2,u3,u4,u5,u6,u7,z8,z9] t:=h6.set 7 u7
 have h8:Vb (((((((((v.setCell ⟨q,0,none⟩ u0).setCell ⟨q,1,none⟩ u1).setCell ⟨q,2,none⟩ u2).setCell ⟨q,3,none⟩ u3).setCell ⟨q,4,none⟩ u4).setCell ⟨q,5,none⟩ u5).setCell ⟨q,6,none⟩ u6).setCell ⟨q,7,none⟩ u7).setCell ⟨q,8,none⟩ u8) q #[u0,u1,u2,u3,u4,u5,u6,u7,u8,z9] t:=h7.set 8 u8
 have h9:Vb ((((((((((v.setCell ⟨q,0,none⟩ u0).setCell ⟨q,1,none⟩ u1).setCell ⟨q,2,none⟩ u2).setCell ⟨q,3,none⟩ u3).setCell ⟨q,4,none⟩ u4).setCell ⟨q,5,none⟩ u5).setCell ⟨q,6,none⟩ u6).setCell ⟨q,7,none⟩ u7).setCell ⟨q,8,none⟩ u8).setCell ⟨q,9,none⟩ u9) q #[u0,u1,u2,u3,u4,u5,u6,u7,u8,u9] t:=h8.set 9 u9
 exact⟨h9,((((((((((Mq.refl (fun k=>k=q) v).set ⟨q,0,none⟩ u0 rfl).set ⟨q,1,none⟩ u1 rfl).set ⟨q,2,none⟩ u2 rfl).set ⟨q,3,none⟩ u3 rfl).set ⟨q,4,none⟩ u4 rfl).set ⟨q,5,none⟩ u5 rfl).set ⟨q,6,none⟩ u6 rfl).set ⟨q,7,none⟩ u7 rfl).set ⟨q,8,none⟩ u8 rfl).set ⟨q,9,none⟩ u9 rfl⟩
theorem zE9(h:Vb v q #[z0,z1,z2,z3,z4,z5,z6,z7,z8] t)(u0 u1 u2 u3 u4 u5 u6 u7 u8:Value):∃V,(((((((((v.setCell ⟨q,0,none⟩ u0).setCell ⟨q,1,none⟩ u1).setCell ⟨q,2,none⟩ u2).setCell ⟨q,3,none⟩ u3).setCell ⟨q,4,none⟩ u4).setCell ⟨q,5,none⟩ u5).setCell ⟨q,6,none⟩ u6).setCell ⟨q,7,none⟩ u7).setCell ⟨q,8,none⟩ u8)=V∧Hid (Vb V q #[u0,u1,u2,u3,u4,u5,u6,u7,u8] t∧Mq (fun k=>k=q) v V):=⟨_,rfl,nine h u0 u1 u2 u3 u4 u5 u6 u7 u8⟩
theorem i_clone(a:Option Addr)(n cap:Nat)(zs:List Int)(w:World)(h:Rn w a n cap zs)(hn:n≤100000000):
  Calls Tryz.prog 88 #[.slice a n cap] w fun e w'=>∃v,e=.returned v∧Nums w' w.heap.size v zs∧Below w.heap.size w w':=by
 cases a with
 |none=>
  obtain⟨h1,h2,h3⟩:n=0∧cap=0∧zs=[]:=by
   rcases h with⟨_,h1,h2,h3⟩|⟨x,e,_⟩
   ·exact⟨h1,h2,h3⟩
   ·cases e
  subst h1 h2 h3
  have hnil:∀W,(binOp .eql 24 (.slice none 0 0) (.slice none 0 0)).run Tryz.prog W=.ok (.bool true) W:=fun W=>Lib.run_eql_slice_nil_nil W _ _ Tryz.underlying24
  go_enter Tryz.func88,Tryz.ntmps88
  go_wp2_with fail
  go_ret
  exact⟨_,rfl,Nums.nil _ _,Below.refl _ _⟩
 |some x=>
  have HR:=hid h
  have HL:=hid hn
  clear h hn
  have hnil:∀W,(binOp .eql 24 (.slice (some x) n cap) (.slice none 0 0)).run Tryz.prog W=.ok (.bool false) W:=fun W=>Lib.run_eql_slice_some_nil W _ _ _ Tryz.underlying24
  go_enter Tryz.func88,Tryz.ntmps88
  go_wp2_with (at_builtin;refine wp_appx _ rfl _ _ rfl w.heap.size _ [] rfl (nums_none _ _ (Nat.le_refl _)) x n cap zs rfl (HR.out.stay (al (Below.refl _ _) _)) (by have:=HL.out;simp;omega) (by simp) ?_;intro v' w' hN' hG')
  have B:Below w.heap.size w w':=below_of_grown (al (Below.refl _ _) _) hG' (nums_none _ _ (Nat.le_refl _)) (Nat.le_refl _)
  go_wp2_with fail
  go_ret
  exact⟨_,rfl,by simpa using hN',B⟩
def gt(zs:List Int)(j:Nat):Int:=zs.getD j 0
def mca(H:Ht)(i o:Value):Array Value:=#[.int .i64 (gt H.regs 0),.int .i64 (gt H.regs 1),.int .i64 (gt H.regs 2),.int .i64 (gt H.regs 3),.int .i64 (gt H.regs 4),.int .i64 (gt H.regs 5),.int .i64 (gt H.regs 6),.int .i64 (gt H.regs 7),.int .i64 (gt H.regs 8),.int .i64 (gt H.regs 9),.int .i64 (gt H.regs 10),.int .i64 (gt H.regs 11),.int .i64 (gt H.regs 12),.int .i64 (gt H.regs 13),.int .i64 (gt H.regs 14),.int .i64 (gt H.regs 15),.int .i64 H.pc,.int .i64 (gt H.csr 0),.int .i64 (gt H.csr 1),.int .i64 (gt H.csr 2),.int .i64 (gt H.csr 3),.int .i64 (gt H.csr 4),.int .i64 (gt H.csr 5),.int .i64 (gt H.csr 6),.int .i64 (gt H.csr 7),.int .i64 (gt H.csr 8),.int .i64 (gt H.csr 9),.int .i64 (gt H.csr 10),.bool H.halted,.bool H.waiting,.bool H.rung,.int .i64 H.done,i,o]
theorem mca_size(H:Ht)(i o:Value):(mca H i o).size=34:=rfl
theorem mca_lit(H:Ht)(i o:Value): #[.int .i64 (gt H.regs 0),.int .i64 (gt H.regs 1),.int .i64 (gt H.regs 2),.int .i64 (gt H.regs 3),.int .i64 (gt H.regs 4),.int .i64 (gt H.regs 5),.int .i64 (gt H.regs 6),.int .i64 (gt H.regs 7),.int .i64 (gt H.regs 8),.int .i64 (gt H.regs 9),.int .i64 (gt H.regs 10),.int .i64 (gt H.regs 11),.int .i64 (gt H.regs 12),.int .i64 (gt H.regs 13),.int .i64 (gt H.regs 14),.int .i64 (gt H.regs 15),.int .i64 H.pc,.int .i64 (gt H.csr 0),.int .i64 (gt H.csr 1),.int .i64 (gt H.csr 2),.int .i64 (gt H.csr 3),.int .i64 (gt H.csr 4),.int .i64 (gt H.csr 5),.int .i64 (gt H.csr 6),.int .i64 (gt H.csr 7),.int .i64 (gt H.csr 8),.int .i64 (gt H.csr 9),.int .i64 (gt H.csr 10),.bool H.halted,.bool H.waiting,.bool H.rung,.int .i64 H.done,i,o]=mca H i o:=rfl
theorem mca_one(H:Ht)(i o:Value)(hi:i.oneCell'=true)(ho:o.oneCell'=true):(mca H i o).all (·.oneCell')=true:=by
 have h1:∀z:Int,(Value.int .i64 z).oneCell'=true:=fun _=>rfl
 have h2:∀z:Bool,(Value.bool z).oneCell'=true:=fun _=>rfl
 simp[mca,h1,h2,hi,ho]
theorem nums_range{w:World}{base g n cap:Nat}{zs:List Int}(h:Nums w base (.slice (some ⟨g,0,none⟩) n cap) zs)(m:Nat)(hm:n=m){cs:List Value}(hc:∀j v,cs[j]? =some v→j<m∧v=.int .i64 (gt zs j)):w.rangeAt g 0 cs:=fun j v hv=>by
 obtain⟨h1,rfl⟩:=hc j v hv
 rw[Nat.zero_add]
 exact h.cell h.len j (by omega)
def Sk(W:World)(q:Nat)(w':World):Prop:=Mq (fun k=>k=q) W w'∧w'.there q 0 34
theorem there_below{w w':World}{q n:Nat}(h:w.there q 0 n)(hq:q<w.heap.size)(b:Below w.heap.size w w'):w'.there q 0 n:=fun j hj=>by
 obtain⟨h1,h2⟩:=h j hj
 refine⟨?_,?_⟩
 ·rw[b.cell (p:=⟨q,0+j,none⟩) hq];exact h1
 ·rw[b.frozen (p:=⟨q,0+j,none⟩) hq];exact h2
theorem Vb.there{w:World}{q:Nat}{cs:Array Value}{t:TypeId}(h:Vb w q cs t)(n:Nat)(hn:n≤cs.size):w.there q 0 n:=fun j hj=>by
 refine⟨?_,h.free _⟩
 rw[h.cell (0+j) (v:=cs[0+j]'(by omega)) (Array.getElem?_eq_getElem (by omega))]
 rfl
theorem Sk.step{W w w':World}{q:Nat}(h:Sk W q w)(hq:q<W.heap.size)(b:Below w.heap.size w w'):Sk W q w':=
 ⟨h.1.trans (Mq.of (below_grown b none) fun k e=>by cases e),there_below h.2 (Nat.lt_of_lt_of_le hq h.1.size) b⟩
theorem mq_cells(q:Nat):∀(vs:List Value) (w:World) (o:Nat),Mq (fun k=>k=q) w (w.setCells q o vs)
 | [],w,o=>Mq.refl _ _
 |v::vs,w,o=>((Mq.refl (fun k=>k=q) w).set ⟨q,o,none⟩ v rfl).trans (mq_cells q vs _ (o+1))
variable{W w:World}{q:Nat}
theorem Sk.set(h:Sk W q w)(vs:List Value):Sk W q (w.setCells q 0 vs):=⟨h.1.trans (mq_cells q vs w 0),World.there_setCells h.2 _ _ _⟩
theorem cells16(zs:List Int):∀(j:Nat) (v:Value),([.int .i64 (gt zs 0),.int .i64 (gt zs 1),.int .i64 (gt zs 2),.int .i64 (gt zs 3),.int .i64 (gt zs 4),.int .i64 (gt zs 5),.int .i64 (gt zs 6),.int .i64 (gt zs 7),.int .i64 (gt zs 8),.int .i64 (gt zs 9),.int .i64 (gt zs 10),.int .i64 (gt zs 11),.int .i64 (gt zs 12),.int .i64 (gt zs 13),.int .i64 (gt zs 14),.int .i64 (gt zs 15)]:List Value)[j]? =some v→j<16∧v=.int .i64 (gt zs j):=by
 intro j v hv
 have hj:j<16:=by have:=(List.getElem?_eq_some_iff.1 hv).1;simpa using this
 refine⟨hj,?_⟩
 have e:j=0∨j=1∨j=2∨j=3∨j=4∨j=5∨j=6∨j=7∨j=8∨j=9∨j=10∨j=11∨j=12∨j=13∨j=14∨j=15:=by omega
 rcases e with rfl|rfl|rfl|rfl|rfl|rfl|rfl|rfl|rfl|rfl|rfl|rfl|rfl|rfl|rfl|rfl<;>exact(Option.some.inj hv).symm
theorem cells11(zs:List Int):∀(j:Nat) (v:Value),([.int .i64 (gt zs 0),.int .i64 (gt zs 1),.int .i64 (gt zs 2),.int .i64 (gt zs 3),.int .i64 (gt zs 4),.int .i64 (gt zs 5),.int .i64 (gt zs 6),.int .i64 (gt zs 7),.int .i64 (gt zs 8),.int .i64 (gt zs 9),.int .i64 (gt zs 10)]:List Value)[j]? =some v→j<11∧v=.int .i64 (gt zs j):=by
 intro j v hv
 have hj:j<11:=by have:=(List.getElem?_eq_some_iff.1 hv).1;simpa using this
 refine⟨hj,?_⟩
 have e:j=0∨j=1∨j=2∨j=3∨j=4∨j=5∨j=6∨j=7∨j=8∨j=9∨j=10:=by omega
 rcases e with rfl|rfl|rfl|rfl|rfl|rfl|rfl|rfl|rfl|rfl|rfl<;>exact(Option.some.inj hv).symm
theorem i_machineX(r c i o:Value)(H:Ht)(b:Nat)(w:World)(h:Hm w b r c i o H)(hr:H.regs.length=16)(hc:H.csr.length=11)(hi:H.inn.length≤1000)(ho:H.out.length≤1000):
  Calls Tryz.prog 44 #[.agg #[r,.int .i64 H.pc,c,.bool H.halted,.bool H.waiting,.bool H.rung,.int .i64 H.done,i,o]] w fun e w'=>∃i' o',e=.returned (.agg (mca H i' o'))∧Nums w' w.heap.size i' H.inn∧Nums w' w.heap.size o' H.out∧Apt i' o'∧Below w.heap.size w w'∧∃bo,w.heap.size≤bo∧bo≤w'.heap.size∧Nums w' bo o' H.out∧∀k,i'.ownBlock=some k→k<bo:=by
 have HM:=hid h
 obtain⟨a0,k0,rfl,_,_,g0⟩:=h.r.shape
 obtain⟨a1,k1,rfl,_,_,g1⟩:=h.c.shape
 obtain⟨a2,k2,rfl,_⟩:=h.i.shape
 obtain⟨a3,k3,rfl,_⟩:=h.o.shape
 obtain⟨y0,rfl⟩:=g0 (by omega)
 obtain⟨y1,rfl⟩:=g1 (by omega)
 have HL:Hid (H.inn.length≤1000∧H.out.length≤1000):=⟨hi,ho⟩
 have HR:Hid (H.regs.length=16∧H.csr.length=11):=⟨hr,hc⟩
 rw[hr]at HM ⊢
 rw[hc]at HM ⊢
 generalize H.inn.length=n2 at*
 generalize H.out.length=n3 at*
 clear h g0 g1 hr hc hi ho
 generalize hW:(w.alloc (.cells #[.slice (some ⟨y0,0,none⟩) 16 k0,.int .i64 H.pc,.slice (some ⟨y1,0,none⟩) 11 k1,.bool H.halted,.bool H.waiting,.bool H.rung,.int .i64 H.done,.slice a2 n2 k2,.slice a3 n3 k3] 26)).alloc (.cells #[.int .i64 0,.int .i64 0,.int .i64 0,.int .i64 0,.int .i64 0,.int .i64 0,.int .i64 0,.int .i64 0,.int .i64 0,.int .i64 0,.int .i64 0,.int .i64 0,.int .i64 0,.int .i64 0,.int .i64 0,.int .i64 0,.int .i64 0,.int .i64 0,.int .i64 0,.int .i64 0,.int .i64 0,.int .i64 0,.int .i64 0,.int .i64 0,.int .i64 0,.int .i64 0,.int .i64 0,.int .i64 0,.bool false,.bool false,.bool false,.int .i64 0,.slice none 0 0,.slice none 0 0] 74)=W
 have B0:Hid (Below w.heap.size w W):=by show Below _ _ _;rw[←hW];exact al (al (Below.refl _ _) _) _
 obtain⟨s,hS⟩:∃s,w.heap.size=s:=⟨_,rfl⟩
 have HS:=hid hS
 have SZ:Hid (W.heap.size=s+2):=by show _=_;rw[←hW,←hS];simp
 have VA:Hid (Vb W s #[.slice (some ⟨y0,0,none⟩) 16 k0,.int .i64 H.pc,.slice (some ⟨y1,0,none⟩) 11 k1,.bool H.halted,.bool H.waiting,.bool H.rung,.int .i64 H.done,.slice a2 n2 k2,.slice a3 n3 k3] 26):=by
  show Vb _ _ _ _;rw[←hW,←hS];exact(Vb.new _ _ _).push _
 have VR:Hid (Vb W (s+1) #[.int .i64 0,.int .i64 0,.int .i64 0,.int .i64 0,.int .i64 0,.int .i64 0,.int .i64 0,.int .i64 0,.int .i64 0,.int .i64 0,.int .i64 0,.int .i64 0,.int .i64 0,.int .i64 0,.int .i64 0,.int .i64 0,.int .i64 0,.int .i64 0,.int .i64 0,.int .i64 0,.int .i64 0,.int .i64 0,.int .i64 0,.int .i64 0,.int .i64 0,.int .i64 0,.int .i64 0,.int .i64 0,.bool false,.bool false,.bool false,.int .i64 0,.slice none 0 0,.slice none 0 0] 74):=by
  have z1:s+1=(w.alloc (.cells #[.slice (some ⟨y0,0,none⟩) 16 k0,.int .i64 H.pc,.slice (some ⟨y1,0,none⟩) 11 k1,.bool H.halted,.bool H.waiting,.bool H.rung,.int .i64 H.done,.slice a2 n2 k2,.slice a3 n3 k3] 26)).heap.size:=by rw[←hS];simp
  show Vb _ _ _ _;rw[←hW,z1];exact Vb.new _ _ _
 have MW:Hid (Hm W b _ _ _ _ H):=HM.out.keep B0.out
 have OW:Hid (∀k,Own4 (.slice (some ⟨y0,0,none⟩) 16 k0) (.slice (some ⟨y1,0,none⟩) 11 k1) (.slice a2 n2 k2) (.slice a3 n3 k3) k→¬k=s+1):=fun k e f=>by have:=(HM.out.own k e).2;have:=HS.out;omega
 have MS:Hid (∀w',Sk W (s+1) w'→Hm w' b _ _ _ _ H):=fun w' hs=>hs.1.hm MW.out OW.out
 have VS:Hid (∀w',Sk W (s+1) w'→Vb w' s #[.slice (some ⟨y0,0,none⟩) 16 k0,.int .i64 H.pc,.slice (some ⟨y1,0,none⟩) 11 k1,.bool H.halted,.bool H.waiting,.bool H.rung,.int .i64 H.done,.slice a2 n2 k2,.slice a3 n3 k3] 26):=fun w' hs=>hs.1.vb VA.out (by omega)
 have q0:∀w',Sk W (s+1) w'→w'.cell? ⟨s,0,none⟩=some (.slice (some ⟨y0,0,none⟩) 16 k0):=fun w' hs=>(VS.out w' hs).cell 0 rfl
 have q1:∀w',Sk W (s+1) w'→w'.cell? ⟨s,1,none⟩=some (.int .i64 H.pc):=fun w' hs=>(VS.out w' hs).cell 1 rfl
 have q2:∀w',Sk W (s+1) w'→w'.cell? ⟨s,2,none⟩=some (.slice (some ⟨y1,0,none⟩) 11 k1):=fun w' hs=>(VS.out w' hs).cell 2 rfl
 have q3:∀w',Sk W (s+1) w'→w'.cell? ⟨s,3,none⟩=some (.bool H.halted):=fun w' hs=>(VS.out w' hs).cell 3 rfl
 have q4:∀w',Sk W (s+1) w'→w'.cell? ⟨s,4,none⟩=some (.bool H.waiting):=fun w' hs=>(VS.out w' hs).cell 4 rfl
 have q5:∀w',Sk W (s+1) w'→w'.cell? ⟨s,5,none⟩=some (.bool H.rung):=fun w' hs=>(VS.out w' hs).cell 5 rfl
 have q6:∀w',Sk W (s+1) w'→w'.cell? ⟨s,6,none⟩=some (.int .i64 H.done):=fun w' hs=>(VS.out w' hs).cell 6 rfl
 have q7:∀w',Sk W (s+1) w'→w'.cell? ⟨s,7,none⟩=some (.slice a2 n2 k2):=fun w' hs=>(VS.out w' hs).cell 7 rfl
 have q8:∀w',Sk W (s+1) w'→w'.cell? ⟨s,8,none⟩=some (.slice a3 n3 k3):=fun w' hs=>(VS.out w' hs).cell 8 rfl
 have ha0:∀w',(Instr.arrayAt 69 (.slice (some ⟨y0,0,none⟩) 16 k0)).run Tryz.prog w'=.ok (.pointer (some ⟨y0,0,none⟩)) w':=fun w'=>by simp[Instr.arrayAt,Sem.run_bind,run_underlying Tryz.underlying69]
 have ha1:∀w',(Instr.arrayAt 70 (.slice (some ⟨y1,0,none⟩) 11 k1)).run Tryz.prog w'=.ok (.pointer (some ⟨y1,0,none⟩)) w':=fun w'=>by simp[Instr.arrayAt,Sem.run_bind,run_underlying Tryz.underlying70]
 have R0:Hid (∀w',Sk W (s+1) w'→w'.rangeAt y0 0 [.int .i64 (gt H.regs 0),.int .i64 (gt H.regs 1),.int .i64 (gt H.regs 2),.int .i64 (gt H.regs 3),.int .i64 (gt H.regs 4),.int .i64 (gt H.regs 5),.int .i64 (gt H.regs 6),.int .i64 (gt H.regs 7),.int .i64 (gt H.regs 8),.int .i64 (gt H.regs 9),.int .i64 (gt H.regs 10),.int .i64 (gt H.regs 11),.int .i64 (gt H.regs 12),.int .i64 (gt H.regs 13),.int .i64 (gt H.regs 14),.int .i64 (gt H.regs 15)]):=fun w' hs=>nums_range (MS.out w' hs).r 16 rfl (cells16 _)
 have R1:Hid (∀w',Sk W (s+1) w'→w'.rangeAt y1 0 [.int .i64 (gt H.csr 0),.int .i64 (gt H.csr 1),.int .i64 (gt H.csr 2),.int .i64 (gt H.csr 3),.int .i64 (gt H.csr 4),.int .i64 (gt H.csr 5),.int .i64 (gt H.csr 6),.int .i64 (gt H.csr 7),.int .i64 (gt H.csr 8),.int .i64 (gt H.csr 9),.int .i64 (gt H.csr 10)]):=fun w' hs=>nums_range (MS.out w' hs).c 11 rfl (cells11 _)
 have hst:∀w',Sk W (s+1) w'→∀(xa:Option Addr) (xn xk:Nat) (ya:Option Addr) (yn yk:Nat),(Instr.storeAt 74 (.pointer (some ⟨s+1,0,none⟩)) (.agg #[.int .i64 (gt H.regs 0),.int .i64 (gt H.regs 1),.int .i64 (gt H.regs 2),.int .i64 (gt H.regs 3),.int .i64 (gt H.regs 4),.int .i64 (gt H.regs 5),.int .i64 (gt H.regs 6),.int .i64 (gt H.regs 7),.int .i64 (gt H.regs 8),.int .i64 (gt H.regs 9),.int .i64 (gt H.regs 10),.int .i64 (gt H.regs 11),.int .i64 (gt H.regs 12),.int .i64 (gt H.regs 13),.int .i64 (gt H.regs 14),.int .i64 (gt H.regs 15),.int .i64 H.pc,.int .i64 (gt H.csr 0),.int .i64 (gt H.csr 1),.int .i64 (gt H.csr 2),.int .i64 (gt H.csr 3),.int .i64 (gt H.csr 4),.int .i64 (gt H.csr 5),.int .i64 (gt H.csr 6),.int .i64 (gt H.csr 7),.int .i64 (gt H.csr 8),.int .i64 (gt H.csr 9),.int .i64 (gt H.csr 10),.bool H.halted,.bool H.waiting,.bool H.rung,.int .i64 H.done,.slice xa xn xk,.slice ya yn yk])).run Tryz.prog w'=.ok () (w'.setCells (s+1) 0 (mca H (.slice xa xn xk) (.slice ya yn yk)).toList):=fun w' hs xa xn xk ya yn yk=>
  run_storeAt_mid w' (s+1) 0 74 (mca H (.slice xa xn xk) (.slice ya yn yk)) hs.2 (by kernel_rfl) (mca_one _ _ _ rfl rfl)
 have LT:Hid (s+1<W.heap.size):=VR.out.lt
 have S0:Hid (Sk W (s+1) W):=⟨Mq.refl _ _,VR.out.there 34 (by decide)⟩
 go_enter Tryz.func44,Tryz.ntmps44
 go_wp2_with fail
 have SD:Hid (Sk W (s+1) W.drew):=S0.out.step LT.out (Below.refl _ _).drew
 refine wp_region_held (S:=fun w'=>Sk W (s+1) w') (by kernel_rfl) ?_
 change wpAnyH _ _ _ _ _ _ _ _ (World.drew _)
 refine wpTd 0 3 (.pointer (some ⟨s,0,none⟩)) rfl SD.out ?_
 simp only[Act.put,zT,zZ,zS]
 refine wpTd 1 4 (.slice (some ⟨y0,0,none⟩) 16 k0) rfl SD.out ?_
 simp only[Act.put,zT,zZ,zS]
 refine wpTd 2 5 (.pointer (some ⟨y0,0,none⟩)) rfl SD.out ?_
 simp only[Act.put,zT,zZ,zS]
 refine wpTe 3 6 (.agg #[.int .i64 (gt H.regs 0),.int .i64 (gt H.regs 1),.int .i64 (gt H.regs 2),.int .i64 (gt H.regs 3),.int .i64 (gt H.regs 4),.int .i64 (gt H.regs 5),.int .i64 (gt H.regs 6),.int .i64 (gt H.regs 7),.int .i64 (gt H.regs 8),.int .i64 (gt H.regs 9),.int .i64 (gt H.regs 10),.int .i64 (gt H.regs 11),.int .i64 (gt H.regs 12),.int .i64 (gt H.regs 13),.int .i64 (gt H.regs 14),.int .i64 (gt H.regs 15)]) rfl (yieldsIf_load_mid (by rfl) 69 (.tmp 5) rfl y0 0 rfl [.int .i64 (gt H.regs 0),.int .i64 (gt H.regs 1),.int .i64 (gt H.regs 2),.int .i64 (gt H.regs 3),.int .i64 (gt H.regs 4),.int .i64 (gt H.regs 5),.int .i64 (gt H.regs 6),.int .i64 (gt H.regs 7),.int .i64 (gt H.regs 8),.int .i64 (gt H.regs 9),.int .i64 (gt H.regs 10),.int .i64 (gt H.regs 11),.int .i64 (gt H.regs 12),.int .i64 (gt H.regs 13),.int .i64 (gt H.regs 14),.int .i64 (gt H.regs 15)] _ R0.out Tryz.underlying69 rfl (by kernel_rfl)) SD.out ?_
 simp only[Act.put,zT,zZ,zS]
 refine wpTd 4 7 (.pointer (some ⟨s,1,none⟩)) rfl SD.out ?_
 simp only[Act.put,zT,zZ,zS]
 refine wpTd 5 8 (.int .i64 H.pc) rfl SD.out ?_
 simp only[Act.put,zT,zZ,zS]
 refine wpTd 6 9 (.pointer (some ⟨s,2,none⟩)) rfl SD.out ?_
 simp only[Act.put,zT,zZ,zS]
 refine wpTd 7 10 (.slice (some ⟨y1,0,none⟩) 11 k1) rfl SD.out ?_
 simp only[Act.put,zT,zZ,zS]
 refine wpTd 8 11 (.pointer (some ⟨y1,0,none⟩)) rfl SD.out ?_
 simp only[Act.put,zT,zZ,zS]
 refine wpTe 9 12 (.agg #[.int .i64 (gt H.csr 0),.int .i64 (gt H.csr 1),.int .i64 (gt H.csr 2),.int .i64 (gt H.csr 3),.int .i64 (gt H.csr 4),.int .i64 (gt H.csr 5),.int .i64 (gt H.csr 6),.int .i64 (gt H.csr 7),.int .i64 (gt H.csr 8),.int .i64 (gt H.csr 9),.int .i64 (gt H.csr 10)]) rfl (yieldsIf_load_mid (by rfl) 70 (.tmp 11) rfl y1 0 rfl [.int .i64 (gt H.csr 0),.int .i64 (gt H.csr 1),.int .i64 (gt H.csr 2),.int .i64 (gt H.csr 3),.int .i64 (gt H.csr 4),.int .i64 (gt H.csr 5),.int .i64 (gt H.csr 6),.int .i64 (gt H.csr 7),.int .i64 (gt H.csr 8),.int .i64 (gt H.csr 9),.int .i64 (gt H.csr 10)] _ R1.out Tryz.underlying70 rfl (by kernel_rfl)) SD.out ?_
 simp only[Act.put,zT,zZ,zS]
 refine wpTd 10 13 (.agg #[.int .i64 (gt H.regs 0),.int .i64 (gt H.regs 1),.int .i64 (gt H.regs 2),.int .i64 (gt H.regs 3),.int .i64 (gt H.regs 4),.int .i64 (gt H.regs 5),.int .i64 (gt H.regs 6),.int .i64 (gt H.regs 7),.int .i64 (gt H.regs 8),.int .i64 (gt H.regs 9),.int .i64 (gt H.regs 10),.int .i64 (gt H.regs 11),.int .i64 (gt H.regs 12),.int .i64 (gt H.regs 13),.int .i64 (gt H.regs 14),.int .i64 (gt H.regs 15),.int .i64 H.pc,.int .i64 (gt H.csr 0),.int .i64 (gt H.csr 1),.int .i64 (gt H.csr 2),.int .i64 (gt H.csr 3),.int .i64 (gt H.csr 4),.int .i64 (gt H.csr 5),.int .i64 (gt H.csr 6),.int .i64 (gt H.csr 7),.int .i64 (gt H.csr 8),.int .i64 (gt H.csr 9),.int .i64 (gt H.csr 10)]) rfl SD.out ?_
 simp only[Act.put,zT,zZ,zS]
 refine wpTd 11 14 (.pointer (some ⟨s,3,none⟩)) rfl SD.out ?_
 simp only[Act.put,zT,zZ,zS]
 refine wpTd 12 15 (.bool H.halted) rfl SD.out ?_
 simp only[Act.put,zT,zZ,zS]
 refine wpTd 13 16 (.pointer (some ⟨s,4,none⟩)) rfl SD.out ?_
 simp only[Act.put,zT,zZ,zS]
 refine wpTd 14 17 (.bool H.waiting) rfl SD.out ?_
 simp only[Act.put,zT,zZ,zS]
 refine wpTd 15 18 (.pointer (some ⟨s,5,none⟩)) rfl SD.out ?_
 simp only[Act.put,zT,zZ,zS]
 refine wpTd 16 19 (.bool H.rung) rfl SD.out ?_
 simp only[Act.put,zT,zZ,zS]
 refine wpTd 17 20 (.pointer (some ⟨s,6,none⟩)) rfl SD.out ?_
 simp only[Act.put,zT,zZ,zS]
 refine wpTd 18 21 (.int .i64 H.done) rfl SD.out ?_
 simp only[Act.put,zT,zZ,zS]
 refine wpTd 19 22 (.pointer (some ⟨s,7,none⟩)) rfl SD.out ?_
 simp only[Act.put,zT,zZ,zS]
 refine wpTd 20 23 (.slice a2 n2 k2) rfl SD.out ?_
 simp only[Act.put,zT,zZ,zS]
 refine wpTd 22 25 (.pointer (some ⟨s,8,none⟩)) rfl SD.out ?_
 simp only[Act.put,zT,zZ,zS]
 refine wpTd 23 26 (.slice a3 n3 k3) rfl SD.out ?_
 simp only[Act.put,zT,zZ,zS]
 refine zR 21 rfl fun K hK=>?_
 rw[if_pos (by rfl)]
 go_simp
 refine(i_clone a2 n2 k2 H.inn _ (MS.out _ SD.out).i.rn (by have:=HL.out.1;omega)).mono ?_
 rintro e w1⟨v1,rfl,m1,b1⟩
 obtain⟨xa,xk,rfl,_⟩:=m1.shape
 have S1:Hid (Sk W (s+1) w1):=SD.out.step LT.out b1
 have N1:=hid m1
 clear m1 b1
 refine hK.out _ _ S1.out (fun _=>?_)
 clear hK K
 refine zR 24 rfl fun K hK=>?_
 rw[if_pos (by rfl)]
 go_simp
 refine(i_clone a3 n3 k3 H.out _ (MS.out _ S1.out).o.rn (by have:=HL.out.2;omega)).mono ?_
 rintro e w2⟨v2,rfl,m2,b2⟩
 obtain⟨ya,yk,rfl,_⟩:=m2.shape
 have S2:Hid (Sk W (s+1) w2):=S1.out.step LT.out b2
 have N2:=hid m2
 have N12:=hid (N1.out.keep b2)
 have AP:Hid (Apt (.slice xa H.inn.length xk) (.slice ya H.out.length yk)):=N1.out.apt N2.out (Nat.le_refl _)
 have L12:Hid (w1.heap.size≤w2.heap.size):=b2.size
 have LI:Hid (∀k,(Value.slice xa H.inn.length xk).ownBlock=some k→k<w1.heap.size):=fun k e=>(N1.out.lt k e).2
 clear m2 b2
 refine hK.out _ _ S2.out (fun _=>?_)
 clear hK K
 refine wpTe 25 28 (.agg (mca H (.slice xa H.inn.length xk) (.slice ya H.out.length yk))) rfl (Or.inl ⟨by rfl,fun w' hs=>by rw[←mca_lit];go_simp⟩) S2.out ?_
 simp only[Act.put,zT,zZ,zS]
 refine zR 26 rfl fun K hK=>?_
 rw[if_pos (by rfl)]
 refine wp_store_mid 74 (.tmp 2) (.tmp 28) rfl (s+1) 0 (mca H (.slice xa H.inn.length xk) (.slice ya H.out.length yk)) rfl rfl S2.out.2 (by kernel_rfl) (mca_one _ _ _ rfl rfl) ?_
 change K (Act.put _ none undef) _
 simp only[Act.put]
 have S3:Hid (Sk W (s+1) (w2.setCells (s+1) 0 (mca H (.slice xa H.inn.length xk) (.slice ya H.out.length yk)).toList)):=S2.out.set _
 have R3:Hid ((w2.setCells (s+1) 0 (mca H (.slice xa H.inn.length xk) (.slice ya H.out.length yk)).toList).rangeAt (s+1) 0 (mca H (.slice xa H.inn.length xk) (.slice ya H.out.length yk)).toList):=World.rangeAt_setCells_same _ _ _ _ S2.out.2
 have O3:Hid (Ho W.heap.size w2 (w2.setCells (s+1) 0 (mca H (.slice xa H.inn.length xk) (.slice ya H.out.length yk)).toList)):=(mq_cells (s+1) _ w2 0).ho fun k e=>by have:=LT.out;omega
 generalize w2.setCells (s+1) 0 (mca H (.slice xa H.inn.length xk) (.slice ya H.out.length yk)).toList=w3 at*
 refine hK.out _ _ S3.out (fun _=>?_)
 clear hK K
 refine wpAnyH_done (by kernel_rfl) ?_ _
 have X3:Nums w3 W.heap.size (.slice xa H.inn.length xk) H.inn:=N12.out.ho O3.out
 have Y3:Nums w3 W.heap.size (.slice ya H.out.length yk) H.out:=(N2.out.mono (show W.heap.size≤w1.heap.size from S1.out.1.size)).ho O3.out
 have B3:Below w.heap.size w w3:=Mq.under B0.out S3.out.1 fun k e=>by have:=HS.out;omega
 have LD:=run_loadVar_mid (P:=Tryz.prog) w3 (s+1) 0 74 (mca H (.slice xa H.inn.length xk) (.slice ya H.out.length yk)).toList _ R3.out Tryz.underlying74 rfl (by kernel_rfl)
 go_wp2_with fail
 exact bodyPost_ret (v:=.agg (mca H (.slice xa H.inn.length xk) (.slice ya H.out.length yk))) (by simp[results,Tryz.results44,asAddr];rw[LD]) rfl
  ⟨_,_,rfl,X3.mono B0.out.size,Y3.mono B0.out.size,AP.out,B3,w1.heap.size,Nat.le_trans B0.out.size S1.out.1.size,Nat.le_trans L12.out O3.out.size,N2.out.ho ⟨O3.out.size,fun k hb hk=>O3.out.block k (Nat.le_trans S1.out.1.size hb) hk⟩,LI.out⟩
theorem i_machine(r c i o:Value)(H:Ht)(b:Nat)(w:World)(h:Hm w b r c i o H)(hr:H.regs.length=16)(hc:H.csr.length=11)(hi:H.inn.length≤1000)(ho:H.out.length≤1000):
  Calls Tryz.prog 44 #[.agg #[r,.int .i64 H.pc,c,.bool H.halted,.bool H.waiting,.bool H.rung,.int .i64 H.done,i,o]] w fun e w'=>∃i' o',e=.returned (.agg (mca H i' o'))∧Nums w' w.heap.size i' H.inn∧Nums w' w.heap.size o' H.out∧Apt i' o'∧Below w.heap.size w w':=
 (i_machineX r c i o H b w h hr hc hi ho).mono fun _ _ ⟨i',o',h1,h2,h3,h4,h5,_⟩=>⟨i',o',h1,h2,h3,h4,h5⟩
def Vc(w:World)(m:Nat)(cs:Array Value):Prop:=∃(C:Array Value) (t:TypeId),Vb w m C t∧∀(j:Nat) (x:Value),cs[j]? =some x→C[j]? =some x
theorem Vc.cell{w:World}{m:Nat}{cs:Array Value}(h:Vc w m cs)(j:Nat){x:Value}(hx:cs[j]? =some x):w.cell? ⟨m,j,none⟩=some x:=by
 obtain⟨C,t,hv,hc⟩:=h
 exact hv.cell j (hc j x hx)
theorem Vc.keep{w w':World}{m:Nat}{cs:Array Value}(h:Vc w m cs)(b:Below w.heap.size w w'):Vc w' m cs:=by
 obtain⟨C,t,hv,hc⟩:=h
 exact⟨C,t,hv.keep b,hc⟩
theorem Vc.lt{w:World}{m:Nat}{cs:Array Value}(h:Vc w m cs):m<w.heap.size:=by
 obtain⟨C,t,hv,hc⟩:=h
 exact hv.lt
theorem Vc.mq{S:Nat→Prop}{w w':World}{m:Nat}{cs:Array Value}(h:Vc w m cs)(q:Mq S w w')(hn:¬S m):Vc w' m cs:=by
 obtain⟨C,t,hv,hc⟩:=h
 exact⟨C,t,q.vb hv hn,hc⟩
theorem Vb.vc{w:World}{m:Nat}{cs:Array Value}{t:TypeId}(h:Vb w m cs t):Vc w m cs:=⟨cs,t,h,fun _ _ e=>e⟩
def Sj(W:World)(q:Nat)(w':World):Prop:=Mq (fun k=>k=q) W w'∧w'.there q 0 9
theorem Sj.step{W w w':World}{q:Nat}(h:Sj W q w)(hq:q<W.heap.size)(b:Below w.heap.size w w'):Sj W q w':=
 ⟨h.1.trans (Mq.of (below_grown b none) fun k e=>by cases e),there_below h.2 (Nat.lt_of_lt_of_le hq h.1.size) b⟩
theorem Sj.put(h:Sj W q w)(j:Nat)(u:Value):Sj W q (w.setCell ⟨q,j,none⟩ u):=⟨h.1.set _ _ rfl,World.there_setCells h.2 q j [u]⟩
theorem Sj.at(h:Sj W q w)(j:Nat)(hj:j<9):(∃v,w.cell? ⟨q,j,none⟩=some v)∧w.frozen? ⟨q,j,none⟩=false:=by
 obtain⟨h1,h2⟩:=h.2 j hj
 rw[Nat.zero_add]at h1 h2
 exact⟨Option.isSome_iff_exists.1 h1,h2⟩
theorem Sj.set(h:Sj W q w)(vs:List Value):Sj W q (w.setCells q 0 vs):=⟨h.1.trans (mq_cells q vs w 0),World.there_setCells h.2 _ _ _⟩
end Go.Proofs.YtaefollmeoepkaaGreatDoor
