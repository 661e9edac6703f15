import Derived.Great.BuildSlice
import Derived.Test.YtignbeibcakgpaaGreatDoorQ28
import Derived.Test.YtignbeibcakgpaaGreatDoorQ33
namespace Go.Proofs.YtignbeibcakgpaaGreatDoor
set_option maxRecDepth 20000
set_option maxHeartbeats 16000000
open Go.RowKit
set_option linter.unusedVariables false
theorem Turn.putC{b:Nat}{w x:World}(t:Turn b w x){p:Addr}(hp:w.heap.size≤p.block)(u:Value):Turn b w (x.setCell p u):=
 ⟨t.os,t.tape,t.output,by have:=t.size;simpa [World.setCell]using this,fun k hk hb=>by rw[Below.heap_setCell x p u k (by omega)];exact t.block k hk hb⟩
theorem Turn.push{b:Nat}{w x:World}(t:Turn b w x)(o:Obj):Turn b w (x.alloc o):=t.trans (Turn.alloc b x o)
theorem Src.putC{w:World}{b k:Nat}{a:Option Addr}{len cap:Nat}{zs:List Int}(s:Src w b k a len cap zs){p:Addr}(hp:b<p.block)(u:Value):Src (w.setCell p u) b k a len cap zs:=by
 have hb:∀q:Addr,q.block≤b→(w.setCell p u).cell? q=w.cell? q:=fun q hq=>World.cell?_of_block (w:=w) (Below.heap_setCell w p u q.block (by omega))
 refine⟨by rw[hb _ (Nat.le_refl _)];exact s.code,by rw[hb _ (Nat.le_refl _)];exact s.count,?_,?_,s.away,by have:=s.here;simpa [World.setCell]using this⟩
 ·rw[World.frozen?_setCell];exact s.free
 ·rcases s.row with h|⟨x,rfl,h1,h2,h3,h4,h5⟩
  ·exact .inl h
  ·refine .inr ⟨x,rfl,h1,h2,h3,fun i hi=>?_,h5⟩
   have hx:=s.away x rfl (by omega)
   rw[hb _ (by rw[src_block];omega)]
   exact h4 i hi
theorem Src.stay{w w':World}{b k:Nat}{a:Option Addr}{len cap:Nat}{zs:List Int}(s:Src w b k a len cap zs)(h:Below w.heap.size w w'):Src w' b k a len cap zs:=s.turn (c:=w.heap.size) (Turn.of_below h) (Nat.le_refl _)
def small(v:Int):Prop:= -100000≤v∧v≤100000
theorem ins_class{o:Int}(h:1≤o∧o≤26):
  ((bareD o=false∧bareA o=false∧bareI o=false)∧o≤11∧(o==21)=false∧(o==22)=false)∨
  ((bareD o=false∧bareA o=false∧bareI o=false)∧¬o≤11∧(o==21)=false∧(o==22)=false)∨
  ((bareD o=false∧bareA o=true∧bareI o=false)∧¬o≤11∧(o==21)=false∧(o==22)=false)∨
  ((bareD o=false∧bareA o=true∧bareI o=false)∧o=21)∨
  ((bareD o=true∧bareA o=false∧bareI o=false)∧o=22)∨
  ((bareD o=true∧bareA o=true∧bareI o=true)∧¬o≤11∧(o==21)=false∧(o==22)=false):=by
 simp only[bareD,bareA,bareI,decide_eq_true_eq,decide_eq_false_iff_not,beq_eq_false_iff_ne]
 omega
theorem ins_any{w:World}{b k:Nat}{a:Option Addr}{len cap:Nat}{zs:List Int}(s:Src w b k a len cap zs)(hk:k≤50000):
  Calls Tryz.prog 113 #[.pointer (some ⟨b,0,none⟩)] w fun e w'=>∃o d x i:Int,e=.returned (.agg #[.int .i64 o,.int .i64 d,.int .i64 x,.int .i64 i])∧small o∧small d∧small x∧small i∧Turn b w w'∧Src w' b (k+7) a len cap zs:=by
 have HH:Hid (b<w.heap.size):=s.here
 have s0:=s.alloc (.cells #[.int .i64 0,.int .i64 0,.int .i64 0,.int .i64 0] 175)
 have T0:Turn b w (w.alloc (.cells #[.int .i64 0,.int .i64 0,.int .i64 0,.int .i64 0] 175)):=Turn.alloc b w _
 have K0:Hid ((w.alloc (.cells #[.int .i64 0,.int .i64 0,.int .i64 0,.int .i64 0] 175)).heap[w.heap.size]? =some (.cells #[.int .i64 0,.int .i64 0,.int .i64 0,.int .i64 0] 175 (0,0))):=by
  show(w.heap.push _)[w.heap.size]? =_
  rw[Array.getElem?_push,if_pos rfl]
 go_enter Tryz.func113,Tryz.ntmps113
 go_wp2_with fail
 refine(next_any s0 (by omega) _).mono ?_
 rintro e w1⟨v1,rfl,h1, -,t1,s1⟩
 obtain⟨l1,u1⟩:=h1 (by omega)
 clear h1
 go_wp2_with fail
 refine(next_any s1 (by omega) _).mono ?_
 rintro e w2⟨v2,rfl,h2, -,t2,s2⟩
 obtain⟨l2,u2⟩:=h2 (by omega)
 clear h2
 go_wp2_with fail
 refine(next_any s2 (by omega) _).mono ?_
 rintro e w3⟨v3,rfl,h3, -,t3,s3⟩
 obtain⟨l3,u3⟩:=h3 (by omega)
 clear h3
 go_wp2_with fail
 refine(next_any s3 (by omega) _).mono ?_
 rintro e w4⟨v4,rfl,h4, -,t4,s4⟩
 obtain⟨l4,u4⟩:=h4 (by omega)
 clear h4
 go_wp2_with fail
 refine(next_any s4 (by omega) _).mono ?_
 rintro e w5⟨v5,rfl,h5, -,t5,s5⟩
 obtain⟨l5,u5⟩:=h5 (by omega)
 clear h5
 go_wp2_with fail
 refine(next_any s5 (by omega) _).mono ?_
 rintro e w6⟨v6,rfl,h6, -,t6,s6⟩
 obtain⟨l6,u6⟩:=h6 (by omega)
 clear h6
 go_wp2_with fail
 have hb:=s6.here
 refine(pick_any (s6.alloc _) (by omega) (fun v=>0≤v∧v≤65535) _ 3 (by omega) (by omega) (by simp) (by omega) ?_).mono ?_
 ·intro i hi
  have:i=0∨i=1∨i=2:=by omega
  rcases this with rfl|rfl|rfl
  all_goals exact⟨_,cell_new rfl,by omega⟩
 rintro e w7⟨v7,rfl,h7,t7,s7⟩
 obtain⟨l7,u7⟩:=h7
 have TT:=((((((t1.trans t2).trans t3).trans t4).trans t5).trans t6).trans (Turn.alloc b w6 _)).trans t7
 have T7:Hid (Turn b w w7):=T0.trans TT
 have S7:=hid s7
 have K7:w7.heap[w.heap.size]? =some (.cells #[.int .i64 0,.int .i64 0,.int .i64 0,.int .i64 0] 175 (0,0)):=by
  rw[TT.block w.heap.size (by simp) (by have:=HH.out;omega)]
  exact K0.out
 have k0:w7.cell? ⟨w.heap.size,0,none⟩=some (.int .i64 0):=by simp[World.cell?,K7]
 have k1:w7.cell? ⟨w.heap.size,1,none⟩=some (.int .i64 0):=by simp[World.cell?,K7]
 have k2:w7.cell? ⟨w.heap.size,2,none⟩=some (.int .i64 0):=by simp[World.cell?,K7]
 have k3:w7.cell? ⟨w.heap.size,3,none⟩=some (.int .i64 0):=by simp[World.cell?,K7]
 have f0:w7.frozen? ⟨w.heap.size,0,none⟩=false:=by simp[World.frozen?,K7]
 have f1:w7.frozen? ⟨w.heap.size,1,none⟩=false:=by simp[World.frozen?,K7]
 have f2:w7.frozen? ⟨w.heap.size,2,none⟩=false:=by simp[World.frozen?,K7]
 have f3:w7.frozen? ⟨w.heap.size,3,none⟩=false:=by simp[World.frozen?,K7]
 have sz:w.heap.size<w7.heap.size:=block_of_cell k0
 clear t1 t2 t3 t4 t5 t6 t7 s1 s2 s3 s4 s5 s6 s7 s0 T0 K0 TT K7 hb l4 u4 l5 u5 l6 u6
 have hcl:=ins_class (o:=1+v1) (by omega)
 have fb:=fun w=>spec_bare (1+v1) w (by omega)
 have ho:1+v1≤26:=by omega
 have ho1:1≤1+v1:=by omega
 clear l1 u1
 generalize 1+v1=o at*
 rcases hcl with⟨⟨e1,e2,e3⟩,g1,g2,g3⟩|⟨⟨e1,e2,e3⟩,g1,g2,g3⟩|⟨⟨e1,e2,e3⟩,g1,g2,g3⟩|⟨⟨e1,e2,e3⟩,rfl⟩|⟨⟨e1,e2,e3⟩,rfl⟩|⟨⟨e1,e2,e3⟩,g1,g2,g3⟩
 all_goals rw[e1,e2,e3]at fb
 all_goals clear e1 e2 e3
 all_goals go_wp2_with (go_at_call 138;refine(fb _).mono ?_;rintro e x ⟨rfl,rfl⟩)
 ·exact bodyPost_ret (v:=.agg #[.int .i64 o,.int .i64 v2,.int .i64 v3,.int .i64 (v7%16)]) (by simp[results,Tryz.results113,go_sem,k0,k1,k2,k3,sz]) rfl ⟨_,_,_,_,rfl,by unfold small;omega,by unfold small;omega,by unfold small;omega,by unfold small;omega,((((T7.out.putC (p:=⟨w.heap.size,0,none⟩) (Nat.le_refl _) _).putC (p:=⟨w.heap.size,1,none⟩) (Nat.le_refl _) _).putC (p:=⟨w.heap.size,2,none⟩) (Nat.le_refl _) _).putC (p:=⟨w.heap.size,3,none⟩) (Nat.le_refl _) _).push _,((((S7.out.putC (p:=⟨w.heap.size,0,none⟩) HH.out _).putC (p:=⟨w.heap.size,1,none⟩) HH.out _).putC (p:=⟨w.heap.size,2,none⟩) HH.out _).putC (p:=⟨w.heap.size,3,none⟩) HH.out _).alloc _⟩
 ·exact bodyPost_ret (v:=.agg #[.int .i64 o,.int .i64 v2,.int .i64 v3,.int .i64 v7]) (by simp[results,Tryz.results113,go_sem,k0,k1,k2,k3,sz]) rfl ⟨_,_,_,_,rfl,by unfold small;omega,by unfold small;omega,by unfold small;omega,by unfold small;omega,((((T7.out.putC (p:=⟨w.heap.size,0,none⟩) (Nat.le_refl _) _).putC (p:=⟨w.heap.size,1,none⟩) (Nat.le_refl _) _).putC (p:=⟨w.heap.size,2,none⟩) (Nat.le_refl _) _).putC (p:=⟨w.heap.size,3,none⟩) (Nat.le_refl _) _).push _,((((S7.out.putC (p:=⟨w.heap.size,0,none⟩) HH.out _).putC (p:=⟨w.heap.size,1,none⟩) HH.out _).putC (p:=⟨w.heap.size,2,none⟩) HH.out _).putC (p:=⟨w.heap.size,3,none⟩) HH.out _).alloc _⟩
 ·exact bodyPost_ret (v:=.agg #[.int .i64 o,.int .i64 v2,.int .i64 0,.int .i64 v7]) (by simp[results,Tryz.results113,go_sem,k0,k1,k2,k3,sz]) rfl ⟨_,_,_,_,rfl,by unfold small;omega,by unfold small;omega,by unfold small;omega,by unfold small;omega,((((T7.out.putC (p:=⟨w.heap.size,0,none⟩) (Nat.le_refl _) _).putC (p:=⟨w.heap.size,1,none⟩) (Nat.le_refl _) _).putC (p:=⟨w.heap.size,2,none⟩) (Nat.le_refl _) _).putC (p:=⟨w.heap.size,3,none⟩) (Nat.le_refl _) _).push _,((((S7.out.putC (p:=⟨w.heap.size,0,none⟩) HH.out _).putC (p:=⟨w.heap.size,1,none⟩) HH.out _).putC (p:=⟨w.heap.size,2,none⟩) HH.out _).putC (p:=⟨w.heap.size,3,none⟩) HH.out _).alloc _⟩
 ·exact bodyPost_ret (v:=.agg #[.int .i64 21,.int .i64 v2,.int .i64 0,.int .i64 (v7%11)]) (by simp[results,Tryz.results113,go_sem,k0,k1,k2,k3,sz]) rfl ⟨_,_,_,_,rfl,by unfold small;omega,by unfold small;omega,by unfold small;omega,by unfold small;omega,((((T7.out.putC (p:=⟨w.heap.size,0,none⟩) (Nat.le_refl _) _).putC (p:=⟨w.heap.size,1,none⟩) (Nat.le_refl _) _).putC (p:=⟨w.heap.size,2,none⟩) (Nat.le_refl _) _).putC (p:=⟨w.heap.size,3,none⟩) (Nat.le_refl _) _).push _,((((S7.out.putC (p:=⟨w.heap.size,0,none⟩) HH.out _).putC (p:=⟨w.heap.size,1,none⟩) HH.out _).putC (p:=⟨w.heap.size,2,none⟩) HH.out _).putC (p:=⟨w.heap.size,3,none⟩) HH.out _).alloc _⟩
 ·exact bodyPost_ret (v:=.agg #[.int .i64 22,.int .i64 0,.int .i64 v3,.int .i64 (v7%11)]) (by simp[results,Tryz.results113,go_sem,k0,k1,k2,k3,sz]) rfl ⟨_,_,_,_,rfl,by unfold small;omega,by unfold small;omega,by unfold small;omega,by unfold small;omega,((((T7.out.putC (p:=⟨w.heap.size,0,none⟩) (Nat.le_refl _) _).putC (p:=⟨w.heap.size,1,none⟩) (Nat.le_refl _) _).putC (p:=⟨w.heap.size,2,none⟩) (Nat.le_refl _) _).putC (p:=⟨w.heap.size,3,none⟩) (Nat.le_refl _) _).push _,((((S7.out.putC (p:=⟨w.heap.size,0,none⟩) HH.out _).putC (p:=⟨w.heap.size,1,none⟩) HH.out _).putC (p:=⟨w.heap.size,2,none⟩) HH.out _).putC (p:=⟨w.heap.size,3,none⟩) HH.out _).alloc _⟩
 ·exact bodyPost_ret (v:=.agg #[.int .i64 o,.int .i64 0,.int .i64 0,.int .i64 0]) (by simp[results,Tryz.results113,go_sem,k0,k1,k2,k3,sz]) rfl ⟨_,_,_,_,rfl,by unfold small;omega,by unfold small;omega,by unfold small;omega,by unfold small;omega,((((T7.out.putC (p:=⟨w.heap.size,0,none⟩) (Nat.le_refl _) _).putC (p:=⟨w.heap.size,1,none⟩) (Nat.le_refl _) _).putC (p:=⟨w.heap.size,2,none⟩) (Nat.le_refl _) _).putC (p:=⟨w.heap.size,3,none⟩) (Nat.le_refl _) _).push _,((((S7.out.putC (p:=⟨w.heap.size,0,none⟩) HH.out _).putC (p:=⟨w.heap.size,1,none⟩) HH.out _).putC (p:=⟨w.heap.size,2,none⟩) HH.out _).putC (p:=⟨w.heap.size,3,none⟩) HH.out _).alloc _⟩
def tenL(qs:List (Int×Int))(zs:List Int)(k:Nat):List Value:=[.int .i64 (qs.getD k (0,0)).1,.int .i64 (qs.getD k (0,0)).2,.int .i64 (zs.getD (k*8) 0),.int .i64 (zs.getD (k*8+1) 0),.int .i64 (zs.getD (k*8+2) 0),.int .i64 (zs.getD (k*8+3) 0),.int .i64 (zs.getD (k*8+4) 0),.int .i64 (zs.getD (k*8+5) 0),.int .i64 (zs.getD (k*8+6) 0),.int .i64 (zs.getD (k*8+7) 0)]
theorem tenL_len(qs:List (Int×Int))(zs:List Int)(k:Nat):(tenL qs zs k).length=10:=rfl
def tensL(qs:List (Int×Int))(zs:List Int):Nat→List Value
 |0=> []
 |n+1=>tensL qs zs n++tenL qs zs n
theorem tensL_len(qs:List (Int×Int))(zs:List Int):∀n,(tensL qs zs n).length=n*10
 |0=>rfl
 |n+1=>by rw[tensL,List.length_append,tensL_len qs zs n,tenL_len];omega
def oplL(H:Ht)(i o:Value)(qs:List (Int×Int))(zs:List Int):List Value:=(mca H i o).toList++tensL qs zs 8
theorem oplL_len(H:Ht)(i o:Value)(qs:List (Int×Int))(zs:List Int):(oplL H i o qs zs).length=114:=by rw[oplL,List.length_append,tensL_len];rfl
theorem tenL_one(qs:List (Int×Int))(zs:List Int)(k:Nat):(tenL qs zs k).toArray.all (·.oneCell')=true:=by simp[tenL,Value.oneCell']
theorem oplL_one(H:Ht)(i o:Value)(qs:List (Int×Int))(zs:List Int)(hi:i.oneCell'=true)(ho:o.oneCell'=true):(oplL H i o qs zs).toArray.all (·.oneCell')=true:=by
 have ht:∀n,(tensL qs zs n).all (·.oneCell')=true:=by
  intro n
  induction n with
  |zero=>rfl
  |succ n ih=>rw[tensL,List.all_append,ih];simp[tenL,Value.oneCell']
 have hm:=mca_one H i o hi ho
 rw[←Array.all_toList]at hm
 rw[List.all_toArray,oplL,List.all_append,ht,Bool.and_true]
 exact hm
theorem range_app{w:World}{q o:Nat}{xs ys:List Value}(h:w.rangeAt q o xs)(k:w.rangeAt q (o+xs.length) ys):w.rangeAt q o (xs++ys):=by
 intro j v hv
 by_cases hj:j<xs.length
 ·rw[List.getElem?_append_left hj]at hv
  exact h j v hv
 ·rw[List.getElem?_append_right (by omega)]at hv
  have:=k (j-xs.length) v hv
  rw[show o+j=o+xs.length+(j-xs.length) by omega]
  exact this
theorem range_left{w:World}{q o:Nat}{xs ys:List Value}(h:w.rangeAt q o (xs++ys)):w.rangeAt q o xs:=fun j v hv=>h j v (by rw[List.getElem?_append_left (List.getElem?_eq_some_iff.1 hv).1];exact hv)
theorem range_nil(w:World)(q o:Nat):w.rangeAt q o []:=fun j v hv=>by simp at hv
theorem range_keep{w w':World}{q o:Nat}{xs:List Value}(h:w.rangeAt q o xs)(b:Below w.heap.size w w'):w'.rangeAt q o xs:=fun j v hv=>cell_keep b (h j v hv)
structure Ko(w:World)(q:Nat)(wr:World)(ma:List Value)(qs:List (Int×Int))(zs:List Int)(k:Nat):Prop where
 b:Below w.heap.size w wr
 hq:w.heap.size≤q∧q<wr.heap.size
 t:wr.there q 0 114
 m:wr.rangeAt q 0 ma
 p:wr.rangeAt q 34 (tensL qs zs k)
theorem there_part{w:World}{b n:Nat}(h:w.there b 0 n)(o m:Nat)(hm:o+m≤n):w.there b o m:=fun j hj=>by have:=h (o+j) (by omega);rw[Nat.zero_add]at this;exact this
theorem there_mq{S:Nat→Prop}{w w':World}{b n:Nat}(h:w.there b 0 n)(hl:b<w.heap.size)(m:Mq S w w')(hn:¬S b):w'.there b 0 n:=by
 have e:=m.block b hl hn
 intro j hj
 have:=h j hj
 unfold World.cell? World.frozen? at this ⊢
 simp only[e]
 exact this
theorem Ko.step{w wr w':World}{q k:Nat}{ma:List Value}{qs:List (Int×Int)}{zs:List Int}(h:Ko w q wr ma qs zs k)(b:Below wr.heap.size wr w'):Ko w q w' ma qs zs k:=
 ⟨on h.b b,⟨h.hq.1,Nat.lt_of_lt_of_le h.hq.2 b.size⟩,there_below h.t h.hq.2 b,range_keep h.m b,range_keep h.p b⟩
theorem Ko.put{w wr:World}{q k:Nat}{ma:List Value}{qs:List (Int×Int)}{zs:List Int}(h:Ko w q wr ma qs zs k)(hm:ma.length=34)(hk:k<8):Ko w q (wr.setCells q (34+k*10) (tenL qs zs k)) ma qs zs (k+1):=by
 have hs:Mq (fun k=>k=q) wr (wr.setCells q (34+k*10) (tenL qs zs k)):=mq_cells q _ wr _
 refine⟨Mq.under h.b hs fun k e=>by have:=h.hq.1;omega,⟨h.hq.1,Nat.lt_of_lt_of_le h.hq.2 hs.size⟩,World.there_setCells h.t _ _ _,World.rangeAt_setCells_apart h.m _ _ _ (.inr (.inl (by omega))),?_⟩
 rw[tensL]
 refine range_app (World.rangeAt_setCells_apart h.p _ _ _ (.inr (.inl (by rw[tensL_len];omega)))) ?_
 rw[tensL_len]
 exact World.rangeAt_setCells_same _ _ _ _ (there_part h.t _ _ (by rw[tenL_len];omega))
theorem Ko.all{w wr:World}{q:Nat}{H:Ht}{i o:Value}{qs:List (Int×Int)}{zs:List Int}(h:Ko w q wr (mca H i o).toList qs zs 8):wr.rangeAt q 0 (oplL H i o qs zs):=
 range_app h.m (by have:=h.p;rwa[show 0+(mca H i o).toList.length=34 from rfl])
variable{ops:Array Oper}{rest:List Oper}{op:Oper}{a:Act}{w:World}{Q:Exit→Act→World→Prop}
theorem wpList_build(hgd:op.guard=none)(t:TypeId)(parts:Array (Nat×Operand))(ho:op.op=.build t parts)(cells:Array Value)(hb:Tryz.prog.built t (parts.map fun(i,x)=>(i,a.eval x)).toList=some cells)
  (h:wpList Tryz.prog ops Q rest (a.put op.dst (.agg cells)) w):wpList Tryz.prog ops Q (op::rest) a w:=
 wpList_plain hgd fun K hK=>by
  unfold Oper.wp execOp
  simp only[ho,Sem.run_bind,run_build (P:=Tryz.prog) w t _ cells hb,Sem.run_pure,Result.andThen_ok]
  exact hK _ _ h
theorem wpList_take(v:Value)(hy:YieldsIf Tryz.prog ops (fun w'=>w'=w) op v a)
  (h:wpList Tryz.prog ops Q rest (a.put op.dst v) w):wpList Tryz.prog ops Q (op::rest) a w:=
 wpList_step fun K hK=>by
  rcases hy with⟨hw,hv⟩|⟨hw,rfl⟩
  ·simp only[hw,if_true,Oper.wp,hv w rfl,Oper.upon];exact hK _ _ h
  ·simp only[hw,Bool.false_eq_true,if_false];exact hK _ _ h
def pgL(ps:List (Int×Int)):List Value:=[.int .i64 (ps.getD 0 (0,0)).1,.int .i64 (ps.getD 0 (0,0)).2,.int .i64 (ps.getD 1 (0,0)).1,.int .i64 (ps.getD 1 (0,0)).2,.int .i64 (ps.getD 2 (0,0)).1,.int .i64 (ps.getD 2 (0,0)).2,.int .i64 (ps.getD 3 (0,0)).1,.int .i64 (ps.getD 3 (0,0)).2,.int .i64 (ps.getD 4 (0,0)).1,.int .i64 (ps.getD 4 (0,0)).2,.int .i64 (ps.getD 5 (0,0)).1,.int .i64 (ps.getD 5 (0,0)).2,.int .i64 (ps.getD 6 (0,0)).1,.int .i64 (ps.getD 6 (0,0)).2,.int .i64 (ps.getD 7 (0,0)).1,.int .i64 (ps.getD 7 (0,0)).2]
theorem idx_0(ps:List (Int×Int))(w:World):(Instr.index 98 (.agg (pgL ps).toArray) (.int .i64 ((0:Nat):Int))).run Tryz.prog w=.ok (.agg #[.int .i64 (ps.getD 0 (0,0)).1,.int .i64 (ps.getD 0 (0,0)).2]) w:=by kernel_rfl
theorem idx_1(ps:List (Int×Int))(w:World):(Instr.index 98 (.agg (pgL ps).toArray) (.int .i64 ((1:Nat):Int))).run Tryz.prog w=.ok (.agg #[.int .i64 (ps.getD 1 (0,0)).1,.int .i64 (ps.getD 1 (0,0)).2]) w:=by kernel_rfl
theorem idx_2(ps:List (Int×Int))(w:World):(Instr.index 98 (.agg (pgL ps).toArray) (.int .i64 ((2:Nat):Int))).run Tryz.prog w=.ok (.agg #[.int .i64 (ps.getD 2 (0,0)).1,.int .i64 (ps.getD 2 (0,0)).2]) w:=by kernel_rfl
theorem idx_3(ps:List (Int×Int))(w:World):(Instr.index 98 (.agg (pgL ps).toArray) (.int .i64 ((3:Nat):Int))).run Tryz.prog w=.ok (.agg #[.int .i64 (ps.getD 3 (0,0)).1,.int .i64 (ps.getD 3 (0,0)).2]) w:=by kernel_rfl
theorem idx_4(ps:List (Int×Int))(w:World):(Instr.index 98 (.agg (pgL ps).toArray) (.int .i64 ((4:Nat):Int))).run Tryz.prog w=.ok (.agg #[.int .i64 (ps.getD 4 (0,0)).1,.int .i64 (ps.getD 4 (0,0)).2]) w:=by kernel_rfl
theorem idx_5(ps:List (Int×Int))(w:World):(Instr.index 98 (.agg (pgL ps).toArray) (.int .i64 ((5:Nat):Int))).run Tryz.prog w=.ok (.agg #[.int .i64 (ps.getD 5 (0,0)).1,.int .i64 (ps.getD 5 (0,0)).2]) w:=by kernel_rfl
theorem idx_6(ps:List (Int×Int))(w:World):(Instr.index 98 (.agg (pgL ps).toArray) (.int .i64 ((6:Nat):Int))).run Tryz.prog w=.ok (.agg #[.int .i64 (ps.getD 6 (0,0)).1,.int .i64 (ps.getD 6 (0,0)).2]) w:=by kernel_rfl
theorem idx_7(ps:List (Int×Int))(w:World):(Instr.index 98 (.agg (pgL ps).toArray) (.int .i64 ((7:Nat):Int))).run Tryz.prog w=.ok (.agg #[.int .i64 (ps.getD 7 (0,0)).1,.int .i64 (ps.getD 7 (0,0)).2]) w:=by kernel_rfl
theorem pg_index(ps:List (Int×Int))(k:Nat)(hk:k<8)(w:World):(Instr.index 98 (.agg (pgL ps).toArray) (.int .i64 (k:Int))).run Tryz.prog w=.ok (.agg #[.int .i64 (ps.getD k (0,0)).1,.int .i64 (ps.getD k (0,0)).2]) w:=by
 match k,hk with
 |0,_=>exact idx_0 ps w
 |1,_=>exact idx_1 ps w
 |2,_=>exact idx_2 ps w
 |3,_=>exact idx_3 ps w
 |4,_=>exact idx_4 ps w
 |5,_=>exact idx_5 ps w
 |6,_=>exact idx_6 ps w
 |7,_=>exact idx_7 ps w
theorem mcp_head(H:Ht)(i o:Value)(ps:List (Int×Int)):((mcp H i o ps).extract 0 (0+34)).toList=(mca H i o).toList:=by kernel_rfl
theorem mcp_tail(H:Ht)(i o:Value)(ps:List (Int×Int)):((mcp H i o ps).extract 34 (34+16)).toList=pgL ps:=by kernel_rfl
theorem mcp_range{w:World}{s:Nat}{H:Ht}{i o:Value}{ps:List (Int×Int)}{t:TypeId}(h:Vb w s (mcp H i o ps) t):w.rangeAt s 0 (mca H i o).toList∧w.rangeAt s 34 (pgL ps):=by
 refine⟨?_,?_⟩
 ·rw[←mcp_head H i o ps];exact World.rangeAt_of_block h 0 34
 ·rw[←mcp_tail H i o ps];exact World.rangeAt_of_block h 34 16
def own0(H:Ht)(i o:Value):Array Value:=mca H i o++(List.replicate 80 (Value.int .i64 0)).toArray
theorem own0_size(H:Ht)(i o:Value):(own0 H i o).size=114:=by kernel_rfl
theorem own0_list(H:Ht)(i o:Value):(own0 H i o).toList=(mca H i o).toList++List.replicate 80 (Value.int .i64 0):=by simp[own0]
theorem own0_one(H:Ht)(i o:Value)(hi:i.oneCell'=true)(ho:o.oneCell'=true):(own0 H i o).all (·.oneCell')=true:=by
 rw[own0,Array.all_append,mca_one H i o hi ho,Bool.true_and,List.all_toArray,List.all_replicate]
 rfl
theorem tn_in(zs:List (Int×Int))(hp:∀s ∈ zs,1≤s.2):∀r:Int,0≤r→r<rdV zs→
  0≤(tnV zs r).1∧(tnV zs r).1<zs.length∧1≤(tnV zs r).2∧(tnV zs r).2≤(zs.getD (tnV zs r).1.toNat (0,0)).2:=by
 induction zs with
 |nil=>intro r h0 h1;simp[rdV]at h1;omega
 |cons s t ih=>
  intro r h0 h1
  rw[rdV]at h1
  rw[tnV]
  split
  ·rename_i hs
   obtain⟨k0,k1,k2,k3⟩:=ih (fun x hx=>hp x (by simp[hx])) (r-s.2) (by omega) (by omega)
   have e:((tnV t (r-s.2)).1+1).toNat=(tnV t (r-s.2)).1.toNat+1:=by omega
   refine⟨by simp only;omega,by simp only[List.length_cons];omega,k2,?_⟩
   simp only[e,List.getD_cons_succ]
   exact k3
  ·rename_i hs
   refine⟨by simp,by simp only[List.length_cons];omega,by simp only;omega,?_⟩
   simp
   omega
theorem slot_guests(n:Nat)(zs:List (Int×Int))(h:slotsV n zs=0):∀s ∈ zs,0≤s.1∧s.1<n:=by
 induction zs with
 |nil=>intro s hs;cases hs
 |cons a t ih=>
  rw[slotsV]at h
  split at h
  ·rename_i h1
   intro s hs
   rcases List.mem_cons.1 hs with rfl|hs
   ·rw[slotV]at h1
    split at h1
    ·cases h1
    ·rename_i h2
     have:isG n s.1=true:=by simpa using h2
     simp[isG]at this
     omega
   ·exact ih h s hs
  ·rename_i h1
   exact absurd h h1
theorem tS_in(P:Plc)(h:pfV P=0)(c:Int):0≤(tS P c).1∧(tS P c).1<P.plan.length∧1≤(tS P c).2∧(tS P c).2≤(P.plan.getD (tS P c).1.toNat (0,0)).2:=
 tn_in P.plan (fun s hs=>(pf_each P h s hs).1) _ (Int.emod_nonneg c (by have:=(rd_pos P h).1;omega)) (Int.emod_lt_of_pos c (by have:=(rd_pos P h).1;omega))
theorem rd_succ(zs:List (Int×Int))(j:Nat)(h:j<zs.length):rdV (zs.take (j+1))=rdV (zs.take j)+(zs.getD j (0,0)).2:=by
 induction zs generalizing j with
 |nil=>simp at h
 |cons s t ih=>
  cases j with
  |zero=>simp[rdV]
  |succ j=>
   have:=ih j (by simpa using h)
   simp only[List.take_succ_cons,rdV,this,List.getD_cons_succ]
   omega
theorem rd_mono(zs:List (Int×Int))(hp:∀s ∈ zs,1≤s.2)(j:Nat)(h:j≤zs.length):rdV (zs.take j)≤rdV zs:=by
 induction zs generalizing j with
 |nil=>simp[rdV]
 |cons s t ih=>
  cases j with
  |zero=>
   have h1:=rd_nonneg (s::t) hp
   simpa [rdV]using h1
  |succ j=>
   have:=ih (fun x hx=>hp x (by simp[hx])) j (by simpa using h)
   simp only[List.take_succ_cons,rdV]
   omega
theorem tn_place(zs:List (Int×Int))(hp:∀s ∈ zs,1≤s.2):∀r:Int,0≤r→r<rdV zs→∃j:Nat,j<zs.length∧rdV (zs.take j)≤r∧r<rdV (zs.take (j+1)):=by
 induction zs with
 |nil=>intro r h0 h1;simp[rdV]at h1;omega
 |cons s t ih=>
  intro r h0 h1
  by_cases h:s.2≤r
  ·rw[rdV]at h1
   obtain⟨j,hj,h2,h3⟩:=ih (fun x hx=>hp x (by simp[hx])) (r-s.2) (by omega) (by omega)
   refine⟨j+1,by simpa using hj,?_,?_⟩
   ·simp only[List.take_succ_cons,rdV];omega
   ·simp only[List.take_succ_cons,rdV]at h3 ⊢;omega
  ·exact⟨0,by simp,by simpa [rdV]using h0,by simp[rdV];omega⟩
theorem getD_mem2(zs:List (Int×Int))(j:Nat)(h:j<zs.length):zs.getD j (0,0) ∈ zs:=by
 rw[List.getD,List.getElem?_eq_getElem h]
 exact List.getElem_mem h
def nxS(P:Plc)(t:Int×Int):Int×Int:=if t.2-1=0 then((t.1+1)%P.plan.length,(P.plan.getD ((t.1+1)%P.plan.length).toNat (0,0)).2)else(t.1,t.2-1)
theorem tS_next(P:Plc)(h:pfV P=0)(c:Int)(hc:0≤c):tS P (c+1)=nxS P (tS P c):=by
 have hp:∀s ∈ P.plan,1≤s.2:=fun s hs=>(pf_each P h s hs).1
 have hR:=rd_pos P h
 obtain⟨R,hRe⟩:∃R,rdV P.plan=R:=⟨_,rfl⟩
 have r0:0≤c%rdV P.plan:=Int.emod_nonneg c (by omega)
 have r1:c%rdV P.plan<rdV P.plan:=Int.emod_lt_of_pos c (by omega)
 obtain⟨j,hj,h0,h1⟩:=tn_place P.plan hp _ r0 r1
 have e:=tS_at P h c j hj h0 h1
 have hs:=rd_succ P.plan j hj
 have hle:=rd_mono P.plan hp (j+1) (by omega)
 rw[e,nxS]
 simp only
 by_cases hn:c%rdV P.plan+1<rdV (P.plan.take (j+1))
 ·have em:(c+1)%rdV P.plan=c%rdV P.plan+1:=by
   rw[hRe]at*
   rw[Int.add_emod,Int.emod_eq_of_lt (a:=1) (by omega) (by omega),Int.emod_eq_of_lt (by omega) (by omega)]
  rw[if_neg (by omega),tS_at P h (c+1) j hj (by rw[em];omega) (by rw[em];exact hn),em]
  exact Prod.ext rfl (by simp;omega)
 ·have hq:c%rdV P.plan+1=rdV (P.plan.take (j+1)):=by omega
  rw[if_pos (by omega)]
  by_cases hl:j+1<P.plan.length
  ·have hs2:=rd_succ P.plan (j+1) hl
   have hg:=hp _ (getD_mem2 P.plan (j+1) hl)
   have hle2:=rd_mono P.plan hp (j+1+1) (by omega)
   have em:(c+1)%rdV P.plan=c%rdV P.plan+1:=by
    rw[hRe]at*
    rw[Int.add_emod,Int.emod_eq_of_lt (a:=1) (by omega) (by omega),Int.emod_eq_of_lt (by omega) (by omega)]
   have ej:((j:Int)+1)%(P.plan.length:Int)=((j+1:Nat):Int):=by rw[Int.emod_eq_of_lt (by omega) (by omega)];rfl
   rw[tS_at P h (c+1) (j+1) hl (by rw[em];omega) (by rw[em];omega),em,ej,Int.toNat_natCast]
   exact Prod.ext rfl (by simp only;omega)
  ·have el:j+1=P.plan.length:=by omega
   have ef:rdV (P.plan.take (j+1))=rdV P.plan:=by rw[el,List.take_length]
   have em:(c+1)%rdV P.plan=0:=by
    have hd:c=rdV P.plan*(c/rdV P.plan)+c%rdV P.plan:=(Int.mul_ediv_add_emod c (rdV P.plan)).symm
    have:c+1=rdV P.plan*(c/rdV P.plan+1):=by rw[Int.mul_add,Int.mul_one];omega
    rw[this,Int.mul_emod_right]
   have h1p:0<P.plan.length:=by omega
   have hs0:=rd_succ P.plan 0 h1p
   have hg:=hp _ (getD_mem2 P.plan 0 h1p)
   have ez:rdV (P.plan.take 0)=0:=by simp[rdV]
   have ej:((j:Int)+1)%(P.plan.length:Int)=0:=by rw[show((j:Int)+1)=(P.plan.length:Int) by omega,Int.emod_self]
   rw[tS_at P h (c+1) 0 h1p (by rw[em,ez];exact Int.le_refl _) (by rw[em];omega),em,ej]
   exact Prod.ext rfl (by simp only[Int.toNat_zero];omega)
theorem ho_turn{X:Hst}(h:hoV X=0):(tS X.pol X.clock).1=X.slot∧(tS X.pol X.clock).2=X.left:=by
 unfold hoV at h
 split at h
 ·split at h
  ·split at h
   ·split at h
    ·split at h
     ·assumption
     ·cases h
    ·cases h
   ·rename_i h3
    exact absurd h h3
  ·cases h
 ·rename_i h1
  exact absurd h h1
theorem flanes_pg(own:List (List Int)):∀(ls ahead:List Ln),lanesV own ahead ls=0→∀l ∈ ls,0≤l.pg∧l.pg<24:=by
 intro ls
 induction ls with
 |nil=>intro ahead _ l hl;cases hl
 |cons a t ih=>
  intro ahead h
  rw[lanesV]at h
  split at h
  ·rename_i h1
   intro l hl
   rcases List.mem_cons.1 hl with rfl|hl
   ·unfold laneV at h1
    split at h1
    ·split at h1
     ·cases h1
     ·rename_i h2
      have h3:pgOk l.pg=true:=by
       cases e:pgOk l.pg
       ·exact absurd (.inl e) h2
       ·rfl
      unfold pgOk at h3
      simp at h3
      omega
    ·rename_i h2
     exact absurd h1 h2
   ·exact ih _ h l hl
  ·rename_i h1
   exact absurd h h1
theorem first_in(g k:Int):∀ls:List Ln,(∀l ∈ ls,0≤l.pg∧l.pg<24)→firstM g k ls=(-1,0)∨((0≤(firstM g k ls).1∧(firstM g k ls).1≤23)∧(firstM g k ls).2≠0)
 | [],_=> .inl rfl
 |l::t,h=>by
  rw[firstM]
  unfold matchL
  have h1:=h l (by simp)
  split
  ·rename_i x hx
   right
   split at hx
   ·simp at hx;subst hx;exact⟨⟨h1.1,by show l.pg≤23;omega⟩,by show(3:Int)≠0;decide⟩
   ·split at hx
    ·simp at hx;subst hx;exact⟨⟨h1.1,by show l.pg≤23;omega⟩,by show(1:Int)≠0;decide⟩
    ·cases hx
  ·exact first_in g k t fun x hx=>h x (by simp[hx])
theorem pforL_at(ow:List Int)(ls:List Ln)(g:Int)(k:Nat)(hk:k<8):(pforL ow ls g 8).getD k (0,0)=pageV ow ls g k:=by
 unfold pforL
 rw[List.getD,List.getElem?_map,List.getElem?_range hk]
 rfl
theorem pg_each{P:Plc}{g:Nat}(hp:pfV P=0)(hgl:g<P.own.length):∀k,k<8→(pforL (P.own.getD g []) P.lanes (g:Int) 8).getD k (0,0)=(-1,0)∨((0≤((pforL (P.own.getD g []) P.lanes (g:Int) 8).getD k (0,0)).1∧((pforL (P.own.getD g []) P.lanes (g:Int) 8).getD k (0,0)).1≤23)∧((pforL (P.own.getD g []) P.lanes (g:Int) 8).getD k (0,0)).2≠0):=fun k hk=>by
 have hpp:=pf_parts P hp
 have ho:=pf_own P hp g hgl
 rw[pforL_at _ _ _ k hk]
 unfold pageV
 split
 ·rename_i h1
  right
  have h2:=ho.2.2 ((P.own.getD g []).getD k 0) (getD_mem _ 0 k h1)
  exact⟨h2,by show(7:Int)≠0;decide⟩
 ·exact first_in _ _ _ (flanes_pg _ _ _ hpp.2.2.1)
theorem i_passR(q j:Nat)(l c:Int)(x:Addr)(n cap:Nat)(rs:List (Int×Int))(p0 p1 p2 p3 p4 p5:Value)(w0 w:World)(hv:Vb w q #[.int .i64 (j:Int),.int .i64 l,.int .i64 c,p0,p1,p2,p3,p4,p5] 126)(b0:Below w0.heap.size w0 w)(hq:w0.heap.size≤q)(hp:IsPairs w0 (some x) n cap rs)(hj:j<n)(h8:n≤8)(hl:1≤l∧l≤50)(hc:0≤c∧c≤2000000):
  CallsD Tryz.prog 71 #[.pointer (some ⟨q,0,none⟩),.slice (some x) n cap] .returning w fun e u' w'=>u'=.returning∧e=.returned (.tuple #[])∧Vb w' q #[.int .i64 (if l-1=0 then((j:Int)+1)%n else(j:Int)),.int .i64 (if l-1=0 then(rs.getD (((j:Int)+1)%n).toNat (0,0)).2 else l-1),.int .i64 (c+1),p0,p1,p2,p3,p4,p5] 126∧Mq (fun k=>k=q) w w':=by
 have HV:=hid hv
 have v0:w.cell? ⟨q,0,none⟩=some (.int .i64 (j:Int)):=hv.cell 0 rfl
 have v1:w.cell? ⟨q,1,none⟩=some (.int .i64 l):=hv.cell 1 rfl
 have v2:w.cell? ⟨q,2,none⟩=some (.int .i64 c):=hv.cell 2 rfl
 have f0:=hv.free 0
 have f1:=hv.free 1
 have f2:=hv.free 2
 have lt:=hv.lt
 have c0:=hc.1
 have c1:=hc.2
 have l0:=hl.1
 have l1:=hl.2
 by_cases h1:l-1=0
 ·obtain rfl:l=1:=by omega
  rw[if_pos (by decide),if_pos (by decide)]
  have hm0:0≤((j:Int)+1)%(n:Int):=Int.emod_nonneg _ (by omega)
  have hm1:((j:Int)+1)%(n:Int)<(n:Int):=Int.emod_lt_of_pos _ (by omega)
  have tm:((j:Int)+1).tmod (n:Int)=((j:Int)+1)%(n:Int):=Int.tmod_eq_emod_of_nonneg (by omega)
  obtain⟨i,hi⟩:=Int.eq_ofNat_of_zero_le hm0
  rw[hi]at tm hm0 hm1 ⊢
  rw[Int.toNat_natCast]
  have iN:i<n:=by omega
  have n8:(n:Int)≤8:=by omega
  have n0:¬(n:Int)=0:=by omega
  have j8:(j:Int)<8:=by omega
  have HPP:=hid hp
  obtain⟨x',hx',_,k1⟩:=hp.at i iN
  rw[←Option.some.inj hx']at k1
  have K1:Hid (∀u,Below w0.heap.size w0 u→u.cell? ⟨(x.add (i*2)).block,(x.add (i*2)).off+1,none⟩=some (.int .i64 (rs.getD i (0,0)).2)):=fun u hu=>cell_keep hu k1
  obtain⟨z,hz⟩:∃z,(rs.getD i (0,0)).2=z:=⟨_,rfl⟩
  rw[hz]at K1 ⊢
  have B0:=hid b0
  have HQ:=hid hq
  clear hx' k1 hz hi hc hl h1 hp hv b0 hq
  have wr1:IntKind.i64.wrap (c+1)=c+1:=by rw[IntKind.wrap_i64];omega
  have wr2:IntKind.i64.wrap ((j:Int)+1)=(j:Int)+1:=by rw[IntKind.wrap_i64];omega
  refine callsD_of_wp (R:=fun e w'=>_∧_) Tryz.func71 rfl ?_
  simp only[Tryz.ntmps71,List.size_toArray,List.length_cons,List.length_nil,Nat.reduceAdd,Nat.reduceSub,Array.replicate_succ,Array.replicate_zero,List.push_toArray,List.append_toArray,List.nil_append,List.cons_append]
  go_upto_region 4 with fail
  generalize hU:((w.setCell ⟨q,2,none⟩ (.int .i64 (c+1))).setCell ⟨q,1,none⟩ (.int .i64 0)).setCell ⟨q,0,none⟩ (.int .i64 (i:Int))=U
  have VU:Hid (Vb U q #[.int .i64 (i:Int),.int .i64 0,.int .i64 (c+1),p0,p1,p2,p3,p4,p5] 126):=by
   show Vb _ _ _ _
   rw[←hU]
   exact((HV.out.set 2 (.int .i64 (c+1))).set 1 (.int .i64 0)).set 0 (.int .i64 (i:Int))
  have MU:Hid (Mq (fun k=>k=q) w U):=by
   show Mq _ _ _
   rw[←hU]
   exact(((Mq.refl (fun k=>k=q) w).set ⟨q,2,none⟩ _ rfl).set ⟨q,1,none⟩ _ rfl).set ⟨q,0,none⟩ _ rfl
  have k1:=K1.out U (Mq.under B0.out MU.out fun k e=>by have:=HQ.out;omega)
  clear hU v0 v1 v2 f0 f1 f2 lt
  have v0:U.cell? ⟨q,0,none⟩=some (.int .i64 (i:Int)):=VU.out.cell 0 rfl
  have v1:U.cell? ⟨q,1,none⟩=some (.int .i64 0):=VU.out.cell 1 rfl
  have f1:=VU.out.free 1
  have lt:=VU.out.lt
  go_wp2_with fail
  exact bodyPost_end (results_none rfl _ _ _) rfl ⟨rfl,VU.out.set 1 (.int .i64 z),MU.out.set ⟨q,1,none⟩ _ rfl⟩
 ·rw[if_neg h1,if_neg h1]
  have h2:¬l=1:=by omega
  have wr1:IntKind.i64.wrap (c+1)=c+1:=by rw[IntKind.wrap_i64];omega
  have wr2:IntKind.i64.wrap (l-1)=l-1:=by rw[IntKind.wrap_i64];omega
  have h3:(l-1==0)=false:=by simp[h1]
  clear hc hl hp hv b0 hq h2
  refine callsD_of_wp (R:=fun e w'=>_∧_) Tryz.func71 rfl ?_
  simp only[Tryz.ntmps71,List.size_toArray,List.length_cons,List.length_nil,Nat.reduceAdd,Nat.reduceSub,Array.replicate_succ,Array.replicate_zero,List.push_toArray,List.append_toArray,List.nil_append,List.cons_append]
  go_wp2_with fail
  exact bodyPost_end (results_none rfl _ _ _) rfl ⟨rfl,(HV.out.set 2 (.int .i64 (c+1))).set 1 (.int .i64 (l-1)),((Mq.refl (fun k=>k=q) w).set ⟨q,2,none⟩ _ rfl).set ⟨q,1,none⟩ _ rfl⟩
theorem imgC_len(own iss:List (List Int))(h:¬iss.length=own.length):imgC own iss=2:=by rw[imgC,if_neg h]
theorem imgC_bad(own iss:List (List Int))(h:iss.length=own.length)(j:Nat)(hj:j<iss.length)(hb:badAt own iss j=true):imgC own iss=8:=by rw[imgC,if_pos h,sizes_bad own iss j hb _ hj]
theorem imgC_good(own iss:List (List Int))(h:iss.length=own.length)(hb:∀j,j<iss.length→badAt own iss j=false):imgC own iss=0:=by rw[imgC,if_pos h,sizes_good own iss _ hb]
theorem imgC_ok(own iss:List (List Int))(h:imgC own iss=0):iss.length=own.length∧∀j,j<iss.length→(iss.getD j []).length≤(own.getD j []).length*8:=by
 unfold imgC at h
 split at h
 ·rename_i h1
  refine⟨h1,fun j hj=>?_⟩
  have:=sizes_all own iss _ h j hj
  unfold badAt at this
  have:=of_decide_eq_false this
  omega
 ·cases h
theorem bad_iff(own iss:List (List Int))(j:Nat):badAt own iss j=decide ((own.getD j []).length*8<(iss.getD j []).length):=rfl
theorem i_load(a0 a1 a2 a3:Option Addr)(n0 c0 n1 c1 n2 c2 n3 c3:Nat)(P:Plc)(ai:Option Addr)(ni ci:Nat)(iss:List (List Int))(w:World)(h:Pl w a0 n0 c0 a1 n1 c1 a2 n2 c2 a3 n3 c3 P)(hi:IsS2 w ai ni ci iss)(hg:w.cell? ⟨0,0,none⟩=some (.iface 240 (.agg #[.pointer (some ⟨2,134,none⟩)]))):
  Calls Tryz.prog 15 #[.agg #[.slice a0 n0 c0,.slice a1 n1 c1,.slice a2 n2 c2,.slice a3 n3 c3],.slice ai ni ci] w fun e w'=>∃v,e=.returned (.agg #[.int .i64 (loadC P iss),v])∧Nums w' w.heap.size v (loadZ P iss)∧Below w.heap.size w w':=by
 generalize hW:((w.alloc (.cells #[.slice a0 n0 c0,.slice a1 n1 c1,.slice a2 n2 c2,.slice a3 n3 c3] 29))).alloc (.cells #[.int .i64 0,.slice none 0 0] 60)=W
 have B0:Hid (Below w.heap.size w W):=by show Below _ _ _;rw[←hW];exact al (al (Below.refl _ _) _) _
 obtain⟨s,hS⟩:∃s,w.heap.size=s:=⟨_,rfl⟩
 have HSs:=hid hS
 have Q:Hid (W.cell? ⟨s,0,none⟩=some (.slice a0 n0 c0)∧W.cell? ⟨s,1,none⟩=some (.slice a1 n1 c1)∧W.cell? ⟨s,2,none⟩=some (.slice a2 n2 c2)∧W.cell? ⟨s,3,none⟩=some (.slice a3 n3 c3)):=by
  show _∧_
  rw[←hW,←hS]
  exact⟨cell_push _ (cell_new rfl),cell_push _ (cell_new rfl),cell_push _ (cell_new rfl),cell_push _ (cell_new rfl)⟩
 have R:Hid (RsI W s):=by
  have z1:s+1=((w.alloc (.cells #[.slice a0 n0 c0,.slice a1 n1 c1,.slice a2 n2 c2,.slice a3 n3 c3] 29))).heap.size:=by rw[←hS];simp
  show RsI W s
  unfold RsI
  rw[←hW,z1]
  exact⟨cell_new rfl,cell_new rfl,fz_new _ _ _ _,fz_new _ _ _ _,by simp⟩
 have HP:=hid (h.stay B0.out)
 have HA:Hid (PolAt W s P):=⟨_,_,_,_,_,_,_,_,_,_,_,_,Q.out.1,Q.out.2.1,Q.out.2.2.1,Q.out.2.2.2,HP.out⟩
 have HI:=hid (hi.stay B0.out)
 have HG:Hid (_=_):=cell_keep B0.out hg
 clear h hg hi
 have q0:=Q.out.1
 have q1:=Q.out.2.1
 have q2:=Q.out.2.2.1
 have q3:=Q.out.2.2.2
 go_enter Tryz.func15,Tryz.ntmps15
 go_wp2_with fail
 clear hW hS
 refine(impl_policy _ _ _ _ _ _ _ _ _ _ _ _ P _ HP.out HG.out).mono ?_
 rintro e w1⟨rfl,b1⟩
 have BX:=hid (on B0.out b1)
 have R1:=hid (R.out.keep b1)
 obtain⟨r0,r1,f0,f1,lt⟩:=R1.out
 have Q1:Hid (w1.cell? ⟨s,0,none⟩=some (.slice a0 n0 c0)):=cell_keep b1 Q.out.1
 have HPw:=hid (HP.out.stay b1)
 have HAw:=hid (HA.out.stay b1)
 have HIw:=hid (HI.out.stay b1)
 clear b1 q0 q1 q2 q3
 by_cases hz:pfV P=0
 case neg=>
  have CV:Hid (loadC P iss=pfV P):=by show _=_;rw[loadC,if_neg hz]
  have ZV:Hid (loadZ P iss=[]):=by show _=_;rw[loadZ,if_neg (by rw[CV.out];exact hz)]
  generalize hv:pfV P=v at*
  go_wp2_with fail
  exact bodyPost_ret (v:=.agg #[.int .i64 v,.slice none 0 0]) (by simp[results,Tryz.results15,go_sem,r0,r1]) rfl ⟨.slice none 0 0,by rw[CV.out],by rw[ZV.out];exact Nums.nil _ _,(BX.out.setCell (by have:=HSs.out;show w.heap.size≤s+1;omega) _).setCell (by have:=HSs.out;show w.heap.size≤s+1;omega) _⟩
 have PZ:=hid hz
 have CE:Hid (loadC P iss=imgC P.own iss):=by show _=_;rw[loadC,if_pos hz]
 rw[hz]
 clear hz
 obtain⟨i0,hi0,hz0,hz1,hz2⟩:=info_parts info_wpage
 have HL0:Hid (n0=P.own.length):=HPw.out.own.len
 have HLI:Hid (ni=iss.length):=HIw.out.len
 have hn0:(n0:Int)≤3:=by have:=HL0.out;have:=(pf_parts P PZ.out).1;omega
 have hniM:(ni:Int)≤9223372036854775807:=by have:=HIw.out.cap;unfold maxLen at this;omega
 have OW:Hid (∀j,j<n0→(P.own.getD j []).length≤5∧∀x ∈ P.own.getD j [],0≤x∧x≤23):=fun j hj=>(pf_own P PZ.out j (by have:=HL0.out;omega)).2
 have q0:=Q1.out
 by_cases hne:ni=n0
 case neg=>
  have CV:Hid (loadC P iss=2):=by show _=_;rw[CE.out];exact imgC_len _ _ (by have:=HL0.out;have:=HLI.out;omega)
  have ZV:Hid (loadZ P iss=[]):=by show _=_;rw[loadZ,if_neg (by rw[CV.out];decide)]
  have hneI:¬(ni:Int)=(n0:Int):=by omega
  clear hi0 hz0 hz1 hz2
  go_wp2_with fail
  exact bodyPost_ret (v:=.agg #[.int .i64 2,.slice none 0 0]) (by simp[results,Tryz.results15,go_sem,r0,r1]) rfl ⟨.slice none 0 0,by rw[CV.out],by rw[ZV.out];exact Nums.nil _ _,(BX.out.setCell (by have:=HSs.out;show w.heap.size≤s+1;omega) _).setCell (by have:=HSs.out;show w.heap.size≤s+1;omega) _⟩
 have HEQ:Hid (iss.length=P.own.length):=by show _=_;have:=HL0.out;have:=HLI.out;omega
 subst hne
 go_wp2_with fail
 clear q0
 go_loop [6,7,26] (fun _ _ c=>∃j:Nat,j≤ni∧c=.int .i64 j∧Hid (∀i,i<j→badAt P.own iss i=false)) (fun _ _ c=>ni-(intOf c).toNat)
 case atStart=>exact⟨0,Nat.zero_le _,rfl,fun i hi=>absurd hi (Nat.not_lt_zero _)⟩
 case round=>
  obtain⟨j,hj,rfl,hI⟩:=hrel
  by_cases hlt:j<ni
  ·obtain⟨x,b,l,c,rfl,k1,k2⟩:=HPw.out.own.at j hlt
   obtain⟨y,b2,l2,c2,rfl,m1,m2⟩:=HIw.out.at j hlt
   have q0:=Q1.out
   have hJ:(j:Int)<(ni:Int):=by omega
   have HLT:=hid hlt
   have E1:Hid (l=(P.own.getD j []).length):=k2.len
   have E2:Hid (l2=(iss.getD j []).length):=m2.len
   have hl5:(l:Int)≤5:=by have:=k2.len;have:=(OW.out j hlt).1;omega
   have hl2M:(l2:Int)≤9223372036854775807:=by have:=m2.cap;unfold maxLen at this;omega
   have BD:Hid (badAt P.own iss j=decide (l*8<l2)):=by show _=_;rw[bad_iff,←E1.out,←E2.out]
   clear k2 m2 hlt
   by_cases hb:l*8<l2
   ·have hbI:(l:Int)*8<(l2:Int):=by omega
    have CV:Hid (loadC P iss=8):=by show _=_;rw[CE.out];exact imgC_bad _ _ HEQ.out j (by have:=HLT.out;have:=HLI.out;omega) (by rw[BD.out];exact decide_eq_true hb)
    have ZV:Hid (loadZ P iss=[]):=by show _=_;rw[loadZ,if_neg (by rw[CV.out];decide)]
    clear hb BD hi0 hz0 hz1 hz2
    go_wp2_with fail
    exact bodyPost_ret (v:=.agg #[.int .i64 8,.slice none 0 0]) (by simp[results,Tryz.results15,go_sem,r0,r1]) rfl ⟨.slice none 0 0,by rw[CV.out],by rw[ZV.out];exact Nums.nil _ _,(BX.out.setCell (by have:=HSs.out;show w.heap.size≤s+1;omega) _).setCell (by have:=HSs.out;show w.heap.size≤s+1;omega) _⟩
   ·have hbI:¬(l:Int)*8<(l2:Int):=by omega
    have S2:Hid (∀i,i<j+1→badAt P.own iss i=false):=fun i hi=>by
     rcases Nat.lt_or_ge i j with h|h
     ·exact hI.out i h
     ·obtain rfl:i=j:=by omega
      rw[BD.out]
      exact decide_eq_false hb
    clear hb BD hi0 hz0 hz1 hz2
    go_wp2_with fail
    go_round
    case rel=>exact⟨j+1,by have:=HLT.out;omega,by go_num,S2⟩
    case measure=>have:=HLT.out;simp[intOf];omega
  ·have hJ:¬(j:Int)<(ni:Int):=by omega
   have CZ:Hid (imgC P.own iss=0):=imgC_good _ _ HEQ.out (fun i hi=>hI.out i (by have:=HLI.out;omega))
   have CV:Hid (loadC P iss=0):=by show _=_;rw[CE.out,CZ.out]
   have ZV:Hid (loadZ P iss=allM P.own iss (List.replicate 192 0) iss.length):=by show _=_;rw[loadZ,if_pos CV.out]
   have IL:Hid (∀j,j<ni→(iss.getD j []).length≤(P.own.getD j []).length*8):=fun j hj=>(imgC_ok _ _ CZ.out).2 j (by have:=HLI.out;omega)
   clear hlt hI
   go_wp2_with (at_make;refine wpList_make_full _ rfl _ _ 109 rfl w1.heap.size 91 i0 _ 8 Tryz.underlying109 hi0 hz0 hz1 _ _ _ _ 24 rfl rfl rfl rfl (by rw[hz2];omega) (by unfold maxLen;omega) (Nat.le_refl _) ?_;intro w2 hown hgrow)
   have P2:Hid (Pags w2 w1.heap.size (.slice (some ⟨w1.heap.size,0,none⟩) 24 24) 24 (List.replicate 192 0)):=by
    show Pags _ _ _ _ _
    unfold Pags
    rw[show(Value.agg (Array.replicate 8 (.int .i64 0))).cells=Array.replicate 8 (.int .i64 0)from rfl,made_replicate _ _ _ (by decide)]at hown
    simpa using hown
   have B2:Hid (Below w1.heap.size w1 w2):=(Below.refl _ _).grown hgrow (Nat.le_refl _) (by simp)
   clear hown hgrow hi0 hz0 hz1 hz2
   go_wp2_with fail
   go_loopw [9,10,46] (fun _ _ c wr=>∃j:Nat,j≤ni∧c=.int .i64 j∧Pags wr w1.heap.size (.slice (some ⟨w1.heap.size,0,none⟩) 24 24) 24 (allM P.own iss (List.replicate 192 0) j)∧Below w1.heap.size w1 wr) (fun _ _ c _=>ni-(intOf c).toNat)
   case atStart=>exact⟨0,Nat.zero_le _,rfl,P2.out,B2.out⟩
   case round=>
    clear P2 B2
    obtain⟨j,hj,rfl,hN,hB⟩:=hrel
    have HN:Hid (Pags wr _ _ 24 (allM P.own iss (List.replicate 192 0) j)):=hN
    have HB:Hid (Below _ w1 wr):=hB
    by_cases hlt:j<ni
    ·obtain⟨x,b,l,c,rfl,k1,k2⟩:=HPw.out.own.at j hlt
     obtain⟨y,b2,l2,c2,rfl,m1,m2⟩:=HIw.out.at j hlt
     have q0:=cell_keep hB Q1.out
     have k1:=cell_keep hB k1
     have m1:=cell_keep hB m1
     have hJ3:(j:Int)<(ni:Int):=by omega
     have HLT:=hid hlt
     have CL:=i_layImage w1.heap.size w1.heap.size _ b l c _ b2 l2 c2 _ w1 wr hN hB (Nat.le_refl _) k2 m2 (OW.out j hlt).2 (OW.out j hlt).1
     rw[show min (8*(P.own.getD j []).length) (iss.getD j []).length=(iss.getD j []).length by have:=IL.out j hlt;omega]at CL
     clear k2 m2 hN hB hlt
     go_wp2_with fail
     refine CL.mono ?_
     rintro e w4⟨rfl,p4,b4⟩
     have P4:=hid p4
     have B4:=hid b4
     clear p4 b4 CL
     go_wp2_with fail
     go_roundw
     case rel=>exact⟨j+1,by have:=HLT.out;omega,by go_num,P4.out,B4.out⟩
     case measure=>have:=HLT.out;simp[intOf];omega
    ·have hJ3:¬(j:Int)<(ni:Int):=by omega
     have HJ:Hid (j=iss.length):=by show _=_;have:=HLI.out;omega
     have HBJ:=hid hB
     have PE:Hid (Pags wr w1.heap.size (.slice (some ⟨w1.heap.size,0,none⟩) 24 24) 24 (allM P.own iss (List.replicate 192 0) iss.length)):=by rw[←HJ.out];exact hN
     clear hlt hN hB HN
     go_wp2_with fail
     refine(impl_join _ _ _ _ _ _ PE.out (by decide)).mono ?_
     rintro e w3⟨v,rfl,n2',b3⟩
     have B3:=hid (on BX.out (on HBJ.out b3))
     have D3:=hid (on HBJ.out b3)
     obtain⟨ya,yc,hv,_,_,_⟩:=n2'.shape
     have NN:Hid (Nums w3 w.heap.size v (allM P.own iss (List.replicate 192 0) iss.length)):=n2'.mono (Nat.le_trans BX.out.size HBJ.out.size)
     have NL:Hid (∀k,v.ownBlock=some k→w1.heap.size≤k):=fun k e=>Nat.le_trans HBJ.out.size (n2'.lt k e).1
     have LT:Hid (s+1<w1.heap.size):=R1.out.2.2.2.2
     generalize (allM P.own iss (List.replicate 192 0) iss.length).length=ln at hv
     subst hv
     obtain⟨r0,r1,f0,f1,lt⟩:=R1.out.keep D3.out
     clear b3 n2'
     go_wp2_with fail
     refine bodyPost_ret (v:=.agg #[.int .i64 0,.slice ya ln yc]) (by simp[results,Tryz.results15,go_sem,r0,r1]) rfl ⟨.slice ya ln yc,by rw[CV.out],?_,(B3.out.setCell (by have:=HSs.out;show w.heap.size≤s+1;omega) _).setCell (by have:=HSs.out;show w.heap.size≤s+1;omega) _⟩
     have ne:(Value.slice ya ln yc).ownBlock≠some (s+1):=fun e=>by have:=NL.out _ e;have:=LT.out;omega
     rw[ZV.out]
     exact(NN.out.put ⟨s+1,0,none⟩ (.int .i64 0) ne).put ⟨s+1,1,none⟩ (.slice ya ln yc) ne
theorem hm_keptX{w w':World}{base:Nat}{r c i o:Value}{H:Ht}{row:Option Nat}(h:Hm w base r c i o H)(hG:w.grownBy w' row)(hne:∀v zs,Nums w base v zs→v.ownBlock=none∨v.ownBlock≠row):Hm w' base r c i o H:=
 ⟨h.r.kept hG (hne _ _ h.r),h.c.kept hG (hne _ _ h.c),h.i.kept hG (hne _ _ h.i),h.o.kept hG (hne _ _ h.o)⟩
theorem ha_pw{r c i o:Value}(h:Ha r c i o):(V4.l ⟨r,c,i,o⟩).Pairwise Apt:=by
 simp only[V4.l,List.pairwise_cons,List.mem_cons,List.not_mem_nil,or_false,forall_eq_or_imp,forall_eq]
 exact⟨⟨h.rc,h.ri,h.ro⟩,⟨h.ci,h.co⟩,h.io,by simp,List.Pairwise.nil⟩
structure Mw(w:World)(base:Nat)(v:Value)(jss:List (List Int))(j:Nat)(qs:List (V4×Ht)):Prop where
 len:qs.length=j
 row:w.ownsRow base 47 9 v qs.length (flat9 qs)
 one:∀(i:Nat) (q:V4×Ht),qs[i]? =some q→q.2=newV (jss.getD i [])∧Hm w base q.1.r q.1.c q.1.i q.1.o q.2
 apart:(qs.flatMap fun q=>q.1.l).Pairwise Apt
variable{w w':World}{base j:Nat}{v:Value}{jss:List (List Int)}{qs:List (V4×Ht)}
theorem Mw.keep(h:Mw w base v jss j qs)(b:Below w.heap.size w w'):Mw w' base v jss j qs:=
 ⟨h.len,row_keepX h.row b,fun i q e=>⟨(h.one i q e).1,(h.one i q e).2.keep b⟩,h.apart⟩
theorem Mw.lists{w:World}{base j:Nat}{v:Value}{jss:List (List Int)}{qs:List (V4×Ht)}(h:Mw w base v jss j qs):∀u ∈ (qs.flatMap fun q=>q.1.l),∃zs,Nums w base u zs:=fun u hu=>by
 obtain⟨q,hq,hv⟩:=List.mem_flatMap.1 hu
 obtain⟨i,hi,e⟩:=List.mem_iff_getElem.1 hq
 have m:=(h.one i q (by rw[List.getElem?_eq_getElem hi,e])).2
 simp only[V4.l,List.mem_cons,List.not_mem_nil,or_false]at hv
 rcases hv with rfl|rfl|rfl|rfl
 ·exact⟨_,m.r⟩
 ·exact⟨_,m.c⟩
 ·exact⟨_,m.i⟩
 ·exact⟨_,m.o⟩
theorem Mw.step{wr w w':World}{base j:Nat}{v v' r c i o:Value}{jss:List (List Int)}{qs:List (V4×Ht)}{H:Ht}(h:Mw wr base v jss j qs)(b:Below wr.heap.size wr w)(hm:Hm w wr.heap.size r c i o H)(ha:Ha r c i o)(hb:base≤wr.heap.size)(hH:H=newV (jss.getD j []))(hO:w'.ownsRow base 47 9 v' (qs++ [((⟨r,c,i,o⟩:V4),H)]).length (flat9 (qs++ [((⟨r,c,i,o⟩:V4),H)])))(hG:w.grownBy w' v.ownBlock):Mw w' base v' jss (j+1) (qs++ [((⟨r,c,i,o⟩:V4),H)]):=by
 have hne:∀(bs:Nat) (u:Value) (zs:List Int),Nums w bs u zs→u.ownBlock=none∨u.ownBlock≠v.ownBlock:=fun bs u zs hu=>row_typesX hu (row_keepX h.row b) (by decide)
 refine⟨by rw[List.length_append,h.len];rfl,hO,fun k q e=>?_,?_⟩
 ·by_cases hk:k<qs.length
  ·rw[List.getElem?_append_left hk]at e
   exact⟨(h.one k q e).1,hm_keptX ((h.one k q e).2.keep b) hG (hne base)⟩
  ·rw[List.getElem?_append_right (by omega)]at e
   have hk0:k-qs.length=0:=by
    rcases Nat.eq_zero_or_pos (k-qs.length)with h0|h0
    ·exact h0
    ·rw[List.getElem?_eq_none (by simp;omega)]at e;cases e
   rw[hk0]at e
   cases e
   have:k=j:=by have:=h.len;omega
   subst this
   exact⟨hH,(hm_keptX hm hG (hne _)).mono hb⟩
 ·rw[List.flatMap_append,List.pairwise_append]
  refine⟨h.apart,by simpa using ha_pw ha,fun a ha' b' hb'=>?_⟩
  obtain⟨_,na⟩:=h.lists a ha'
  have hb2:b' ∈ V4.l ⟨r,c,i,o⟩:=by simpa using hb'
  have nb:∃zs,Nums w wr.heap.size b' zs:=by
   simp only[V4.l,List.mem_cons,List.not_mem_nil,or_false]at hb2
   rcases hb2 with rfl|rfl|rfl|rfl
   ·exact⟨_,hm.r⟩
   ·exact⟨_,hm.c⟩
   ·exact⟨_,hm.i⟩
   ·exact⟨_,hm.o⟩
  obtain⟨_,nb⟩:=nb
  exact apt_sep (m:=wr.heap.size) (fun k e=>(na.lt k e).2) (fun k e=>(nb.lt k e).1)
theorem ow_of{w:World}{base t1 t2 t3:Nat}{v0 v1 v2 v3 v4 v5:Value}{P:Plc}{ms:List Int}{jss:List (List Int)}{qs:List (V4×Ht)}{sl le cl:Int}{j:Nat}(hp:WpE w t3 v0 v1 v2 v3 P)(hm:Nums w t1 v4 ms)(hml:∀k,v4.ownBlock=some k→k<t2)(hw:Mw w t2 v5 jss j qs)(hwl:∀u ∈ (qs.flatMap fun q=>q.1.l),∀k,u.ownBlock=some k→k<t3)(hl:jss.length=j)(h1:base≤t1)(h2:base≤t2)(h3:base≤t3)(h23:t2≤t3):
  OwE w base v0 v1 v2 v3 v4 v5 ⟨P,ms,jss.map newV,sl,le,cl⟩:=by
 obtain⟨xs,hx⟩:=hp
 refine⟨xs,qs,row_monoX hx.own h3,hx.xl,fun i x e=>(hx.rows i x e).mono h3,row_monoX hx.lanes h3,row_monoX hx.bells h3,row_monoX hx.plan h3,hm.mono h1,row_monoX hw.row h2,?_,fun q hq=>?_,?_⟩
 ·apply List.ext_getElem (by rw[List.length_map,hw.len,←hl,List.length_map])
  intro i k1 k2
  rw[List.length_map]at k1
  have e:=(hw.one i qs[i] (List.getElem?_eq_getElem k1)).1
  rw[List.getElem_map,List.getElem_map,e]
  rw[List.getD,List.getElem?_eq_getElem (by rw[List.length_map]at k2;exact k2)]
  rfl
 ·obtain⟨i,hi,e⟩:=List.mem_iff_getElem.1 hq
  exact(hw.one i q (by rw[List.getElem?_eq_getElem hi,e])).2.mono h2
 ·rw[List.pairwise_append]
  have hxn:∀x ∈ xs,∀k,x.ownBlock=some k→t3≤k:=fun x hxm k e=>by
   obtain⟨i,hi,e2⟩:=List.mem_iff_getElem.1 hxm
   exact((hx.rows i x (by rw[List.getElem?_eq_getElem hi,e2])).lt k e).1
  refine⟨hx.apart,List.pairwise_cons.2 ⟨fun u hu=>?_,hw.apart⟩,fun a ha b hb=>?_⟩
  ·obtain⟨_,nu⟩:=hw.lists u hu
   exact apt_sep (m:=t2) hml (fun k e=>(nu.lt k e).1)
  ·rcases List.mem_cons.1 hb with rfl|hb
   ·exact(apt_sep (m:=t3) (fun k e=>by have:=hml k e;omega) (hxn a ha)).swap
   ·exact(apt_sep (m:=t3) (hwl b hb) (hxn a ha)).swap
theorem ibh_run(a0 a1 a2 a3:Option Addr)(n0 c0 n1 c1 n2 c2 n3 c3:Nat)(P:Plc)(ia:Option Addr)(il ic:Nat)(iss:List (List Int))(ja:Option Addr)(jl jc:Nat)(jss:List (List Int))(b:Nat)(w:World)(h:Pl w a0 n0 c0 a1 n1 c1 a2 n2 c2 a3 n3 c3 P)(sm:Small n0 n1 n2 n3 P)(hi:IsS2 w ia il ic iss)(hj:SwN w b ja jl jc jss)(hg:w.cell? ⟨0,0,none⟩=some (.iface 240 (.agg #[.pointer (some ⟨2,134,none⟩)])))(hv:loadC P iss=0)(hl:jss.length=P.own.length):
  Calls Tryz.prog 6 #[.agg #[.slice a0 n0 c0,.slice a1 n1 c1,.slice a2 n2 c2,.slice a3 n3 c3],.slice ia il ic,.slice ja jl jc] w fun e w'=>∃v0 v1 v2 v3 v4 v5,e=.returned (.agg #[.int .i64 (bhC P iss jss),v0,v1,v2,v3,v4,v5,.int .i64 (bhX P iss jss).slot,.int .i64 (bhX P iss jss).left,.int .i64 (bhX P iss jss).clock])∧OwE w' w.heap.size v0 v1 v2 v3 v4 v5 (bhX P iss jss)∧Below w.heap.size w w':=by
 have hx:bhC P iss jss=nhC jss:=by rw[bhC,if_pos hv,if_pos hl]
 obtain⟨BC,hBC⟩:∃c,bhC P iss jss=c:=⟨_,rfl⟩
 obtain⟨BX,hBX⟩:∃c,bhX P iss jss=c:=⟨_,rfl⟩
 have HBX:Hid (bhC P iss jss=BC∧bhX P iss jss=BX∧nhC jss=BC):=⟨hBC,hBX,by rw[←hx];exact hBC⟩
 rw[hBC,hBX]
 have HLC:=hid hv
 have HL:=hid hl
 have PP:Hid (pfV P=0):=load_pf hv
 clear hx hv hl hBC hBX
 generalize hW:(w.alloc (.cells #[.slice a0 n0 c0,.slice a1 n1 c1,.slice a2 n2 c2,.slice a3 n3 c3] 29)).alloc (.cells #[.int .i64 0,.slice none 0 0,.slice none 0 0,.slice none 0 0,.slice none 0 0,.slice none 0 0,.slice none 0 0,.int .i64 0,.int .i64 0,.int .i64 0] 37)=W
 have B0:Hid (Below w.heap.size w W):=by show Below _ _ _;rw[←hW];exact al (al (Below.refl _ _) _) _
 obtain⟨s,hS⟩:∃s,w.heap.size=s:=⟨_,rfl⟩
 have HSs:=hid hS
 have z1:s+1=(w.alloc (.cells #[.slice a0 n0 c0,.slice a1 n1 c1,.slice a2 n2 c2,.slice a3 n3 c3] 29)).heap.size:=by rw[←hS];simp
 have Q:Hid (Vb W s #[.slice a0 n0 c0,.slice a1 n1 c1,.slice a2 n2 c2,.slice a3 n3 c3] 29):=by show Vb _ _ _ _;rw[←hW,←hS];exact(Vb.new _ _ _).push _
 have R:Hid (Vb W (s+1) #[.int .i64 0,.slice none 0 0,.slice none 0 0,.slice none 0 0,.slice none 0 0,.slice none 0 0,.slice none 0 0,.int .i64 0,.int .i64 0,.int .i64 0] 37):=by show Vb _ _ _ _;rw[←hW,z1];exact Vb.new _ _ _
 have ZW:Hid (s+2=W.heap.size):=by show _=_;rw[←hW,←hS];simp
 clear z1
 have D:=hid (h.stay B0.out)
 have SMP:=hid sm
 have N0:Hid (n0=P.own.length):=h.own.len
 have NI:Hid (IsS2 W ia il ic iss∧SwN W b ja jl jc jss):=⟨hi.stay B0.out,hj.keep B0.out⟩
 have JL:Hid (jss.length=jl∧jl≤jc∧jc≤maxLen):=hj.len
 have HGE:Hid (_=_):=cell_keep B0.out hg
 clear hg
 clear h hi hj sm
 have q0:=Q.out.cell 0 rfl
 have q1:=Q.out.cell 1 rfl
 have q2:=Q.out.cell 2 rfl
 have q3:=Q.out.cell 3 rfl
 go_enter Tryz.func6,Tryz.ntmps6
 go_wp2_with fail
 clear hW hS q0 q1 q2 q3
 refine(i_load _ _ _ _ _ _ _ _ _ _ _ _ P _ _ _ iss _ D.out NI.out.1 HGE.out).mono ?_
 rw[HLC.out]
 rintro e w1⟨mv,rfl,nm,b1⟩
 obtain⟨la,lk,e0,_⟩:=nm.shape
 subst e0
 obtain⟨ll,hll⟩:∃n,(loadZ P iss).length=n:=⟨_,rfl⟩
 rw[hll]at nm ⊢
 clear hll
 have AL:Hid (Below w1.heap.size w1 (w1.alloc (.cells #[.int .i64 0,.slice la ll lk] 60))):=al (Below.refl _ _) _
 have E2:Hid (Below W.heap.size W (w1.alloc (.cells #[.int .i64 0,.slice la ll lk] 60))):=al b1 _
 have B2:=hid (on B0.out E2.out)
 have R2:=hid (R.out.keep E2.out)
 have Q2:=hid (Q.out.keep E2.out)
 have V2:Hid (Vb (w1.alloc (.cells #[.int .i64 0,.slice la ll lk] 60)) w1.heap.size #[.int .i64 0,.slice la ll lk] 60):=Vb.new _ _ _
 have NM:=hid (nm.keep AL.out)
 have LTs:Hid (s+2≤w1.heap.size∧w1.heap.size+1=(w1.alloc (.cells #[.int .i64 0,.slice la ll lk] 60)).heap.size):=⟨by have:=ZW.out;have:=b1.size;omega,by simp⟩
 clear nm b1 AL
 go_upto_region 2 with fail
 generalize (w1.alloc (.cells #[.int .i64 0,.slice la ll lk] 60))=W2 at*
 obtain⟨t2,ht2⟩:∃t,w1.heap.size=t:=⟨_,rfl⟩
 rw[ht2]at V2 LTs ⊢
 clear ht2
 have v0:=V2.out.cell 0 rfl
 have q0:=Q2.out.cell 0 rfl
 have hne:(jl:Int)=(n0:Int):=by have:=HL.out;have:=N0.out;have:=JL.out.1;omega
 have hne2:jl=n0:=by omega
 have hjm:(jl:Int)≤9223372036854775807:=by have:=JL.out.2;unfold maxLen at this;omega
 have NJ:=hid hne2
 rw[←hne2]at Q2 D SMP N0 q0 ⊢
 clear hne hne2
 go_wp2_with fail
 clear v0 q0
 go_loopw [8,10,11,30] (fun v _ _ c wr=>∃(j:Nat) (qs:List (V4×Ht)),j≤jl∧c=.int .i64 (j:Int)∧Mw wr W2.heap.size v jss j qs∧Hid (nhC jss=nhC (jss.drop j))∧Below W2.heap.size W2 wr) (fun _ _ _ c _=>jl-(intOf c).toNat)
 case atStart=>exact⟨0,[],Nat.zero_le _,rfl,⟨rfl,World.ownsRow_nil _ _ _ _,fun i q e=>by simp at e,by simp⟩,rfl,Below.refl _ _⟩
 case round=>
  obtain⟨j,qs,hj,rfl,hM,HD,hB⟩:=hrel
  obtain⟨va,vc,hv⟩:=row_shape hM.row
  rw[hM.len]at hv
  subst hv
  have HM:=hid hM
  have HB:=hid hB
  clear hM
  by_cases hlt:j<jl
  ·have hI:(j:Int)<(jl:Int):=by omega
   have HLT:=hid hlt
   obtain⟨gj,hgj,_,_,_,hrow⟩:∃g,ja=some ⟨g,0,none⟩∧jl≤jc∧jc≤maxLen∧jss.length=jl∧∀i,i<jl→∃x l k,wr.cell? ⟨g,i,none⟩=some (.slice x l k)∧Nums wr b (.slice x l k) (jss.getD i []):=by
    rcases(NI.out.2.keep E2.out).keep hB with⟨_,h0,_,_⟩|h
    ·omega
    ·exact h
   subst hgj
   obtain⟨rx,rl,rk,k1,k2⟩:=hrow j hlt
   obtain⟨zs,hzs⟩:∃z,jss.getD j []=z:=⟨_,rfl⟩
   have HZS:=hid hzs
   rw[hzs]at k2
   have KN:=hid k2
   clear hlt hB k2 hrow hzs
   go_wp2_with fail
   clear k1
   refine(i_newHart _ zs b _ KN.out).mono ?_
   rintro e w3⟨rv,cv,iv,ov,rfl,hm,ha,b3⟩
   obtain⟨da,dk,e0,_⟩:=hm.r.shape
   obtain⟨db,dl,e1,_⟩:=hm.c.shape
   obtain⟨dc,dm,e2,_⟩:=hm.i.shape
   obtain⟨dd,dn,e3,_⟩:=hm.o.shape
   subst e0 e1 e2 e3
   obtain⟨CX,hCX⟩:∃c,(newR zs).1=c:=⟨_,rfl⟩
   obtain⟨H,hH⟩:∃c,(newR zs).2=c:=⟨_,rfl⟩
   rw[hCX,hH]
   rw[hH]at hm ha
   obtain⟨d0,hd0⟩:∃n,H.regs.length=n:=⟨_,rfl⟩
   obtain⟨d1,hd1⟩:∃n,H.csr.length=n:=⟨_,rfl⟩
   obtain⟨d2,hd2⟩:∃n,H.inn.length=n:=⟨_,rfl⟩
   obtain⟨d3,hd3⟩:∃n,H.out.length=n:=⟨_,rfl⟩
   rw[hd0,hd1,hd2,hd3]at hm ha ⊢
   have HCH:Hid ((newR zs).1=CX∧(newR zs).2=H):=⟨hCX,hH⟩
   clear hd0 hd1 hd2 hd3 hCX hH
   have AL:Hid (Below w3.heap.size w3 (w3.alloc (.cells #[.int .i64 CX,.slice da d0 dk,.int .i64 H.pc,.slice db d1 dl,.bool H.halted,.bool H.waiting,.bool H.rung,.int .i64 H.done,.slice dc d2 dm,.slice dd d3 dn] 63))):=al (Below.refl _ _) _
   have E3:Hid (Below wr.heap.size wr (w3.alloc (.cells #[.int .i64 CX,.slice da d0 dk,.int .i64 H.pc,.slice db d1 dl,.bool H.halted,.bool H.waiting,.bool H.rung,.int .i64 H.done,.slice dc d2 dm,.slice dd d3 dn] 63))):=al b3 _
   have V3:Hid (Vb (w3.alloc (.cells #[.int .i64 CX,.slice da d0 dk,.int .i64 H.pc,.slice db d1 dl,.bool H.halted,.bool H.waiting,.bool H.rung,.int .i64 H.done,.slice dc d2 dm,.slice dd d3 dn] 63)) w3.heap.size #[.int .i64 CX,.slice da d0 dk,.int .i64 H.pc,.slice db d1 dl,.bool H.halted,.bool H.waiting,.bool H.rung,.int .i64 H.done,.slice dc d2 dm,.slice dd d3 dn] 63):=Vb.new _ _ _
   have HM3:Hid (Hm (w3.alloc (.cells #[.int .i64 CX,.slice da d0 dk,.int .i64 H.pc,.slice db d1 dl,.bool H.halted,.bool H.waiting,.bool H.rung,.int .i64 H.done,.slice dc d2 dm,.slice dd d3 dn] 63)) wr.heap.size (.slice da d0 dk) (.slice db d1 dl) (.slice dc d2 dm) (.slice dd d3 dn) H∧Ha (.slice da d0 dk) (.slice db d1 dl) (.slice dc d2 dm) (.slice dd d3 dn)):=⟨hm.keep AL.out,ha⟩
   clear hm ha b3 AL
   go_upto_region 11 with fail
   generalize (w3.alloc (.cells #[.int .i64 CX,.slice da d0 dk,.int .i64 H.pc,.slice db d1 dl,.bool H.halted,.bool H.waiting,.bool H.rung,.int .i64 H.done,.slice dc d2 dm,.slice dd d3 dn] 63))=W3 at*
   generalize w3.heap.size=t3 at*
   have v0:=V3.out.cell 0 rfl
   by_cases hc0:CX=0
   ·subst hc0
    have HOK:Hid (H=newV (jss.getD j [])):=by
     have h1:=HCH.out.1
     have h2:=HCH.out.2
     rw[HZS.out,←h2]
     unfold newR at h1 ⊢
     split at h1
     ·cases h1
     rename_i hq
     rw[if_neg hq]
     cases ew:zs.all isW with
     |false=>rw[ew]at h1;cases h1
     |true=>rfl
    have ND:Hid (nhC jss=nhC (jss.drop (j+1))):=by
     show _=_
     rw[HD.out]
     exact nh_drop jss j (by have:=HLT.out;have:=JL.out.1;omega) (by rw[HZS.out];exact HCH.out.1)
    have v1:=V3.out.cell 1 rfl
    have v2:=V3.out.cell 2 rfl
    have v3:=V3.out.cell 3 rfl
    have v4:=V3.out.cell 4 rfl
    have v5:=V3.out.cell 5 rfl
    have v6:=V3.out.cell 6 rfl
    have v7:=V3.out.cell 7 rfl
    have v8:=V3.out.cell 8 rfl
    have v9:=V3.out.cell 9 rfl
    have WL:Hid (W2.heap.size≤W3.heap.size∧W2.heap.size≤wr.heap.size):=⟨(on HB.out E3.out).size,HB.out.size⟩
    go_wp2_with (at_builtin;refine wp_hartsX _ rfl _ _ rfl W2.heap.size (.slice va j vc) qs rfl ((row_keepX HM.out.row E3.out).alloc _) W3.heap.size (⟨.slice da d0 dk,.slice db d1 dl,.slice dc d2 dm,.slice dd d3 dn⟩:V4) H rfl (range_new _ _ _) (by intro u hu;simp only[V4.l,List.mem_cons,List.not_mem_nil,or_false]at hu;rcases hu with rfl|rfl|rfl|rfl<;>rfl) (by have:=HM.out.len;have:=HLT.out;have:=JL.out.1;have:=HL.out;have:=SMP.out.own;omega) (by have:=WL.out.1;simp;omega) ?_;intro v' w' hN' hG')
    have MN:Hid (Mw w' W2.heap.size v' jss (j+1) (qs++ [((⟨.slice da d0 dk,.slice db d1 dl,.slice dc d2 dm,.slice dd d3 dn⟩:V4),H)])):=HM.out.step (on E3.out (al (Below.refl _ _) _)) (HM3.out.1.keep (al (Below.refl _ _) _)) HM3.out.2 WL.out.2 HOK.out hN' hG'
    have B':Hid (Below W2.heap.size W2 w'):=(al (on HB.out E3.out) _:Below W2.heap.size W2 (W3.alloc (.cells #[.slice da d0 dk,.int .i64 H.pc,.slice db d1 dl,.bool H.halted,.bool H.waiting,.bool H.rung,.int .i64 H.done,.slice dc d2 dm,.slice dd d3 dn] 47))).grown hG' (by have:=WL.out.1;simp;omega) (fun k e=>(HM.out.row.lt k e).1)
    clear hN' hG' v0 v1 v2 v3 v4 v5 v6 v7 v8 v9
    go_wp2_with fail
    go_roundw
    case rel=>exact⟨j+1,qs++ [((⟨.slice da d0 dk,.slice db d1 dl,.slice dc d2 dm,.slice dd d3 dn⟩:V4),H)],by have:=HLT.out;omega,by go_num,MN.out,ND.out,B'.out⟩
    case measure=>have:=HLT.out;simp[intOf];omega
   ·have eBC:Hid (BC=CX∧BX=voidX):=by
     have hs:=nh_stop jss j (by have:=HLT.out;have:=JL.out.1;omega) (by rw[HZS.out,HCH.out.1];exact hc0)
     have e1:BC=CX:=by rw[←HBX.out.2.2,HD.out,hs,HZS.out,HCH.out.1]
     exact⟨e1,by rw[←HBX.out.2.1];exact bh_not _ _ _ (by rw[HBX.out.1,e1];exact hc0)⟩
    have R3:=hid ((R2.out.keep HB.out).keep E3.out)
    have B3:=hid (on (on B2.out HB.out) E3.out)
    have p0:=R3.out.cell 0 rfl
    have p1:=R3.out.cell 1 rfl
    have p2:=R3.out.cell 2 rfl
    have p3:=R3.out.cell 3 rfl
    have p4:=R3.out.cell 4 rfl
    have p5:=R3.out.cell 5 rfl
    have p6:=R3.out.cell 6 rfl
    have p7:=R3.out.cell 7 rfl
    have p8:=R3.out.cell 8 rfl
    have p9:=R3.out.cell 9 rfl
    have f0:=R3.out.free 0
    have f1:=R3.out.free 1
    have f2:=R3.out.free 2
    have f3:=R3.out.free 3
    have f4:=R3.out.free 4
    have f5:=R3.out.free 5
    have f6:=R3.out.free 6
    have f7:=R3.out.free 7
    have f8:=R3.out.free 8
    have f9:=R3.out.free 9
    have lt:=R3.out.lt
    go_wp2_with fail
    clear lt p0 f0 p1 f1 p2 f2 p3 f3 p4 f4 p5 f5 p6 f6 p7 f7 p8 f8 p9 f9
    have NN:Hid (_∧_):=ten R3.out (.int .i64 CX) (.slice none 0 0) (.slice none 0 0) (.slice none 0 0) (.slice none 0 0) (.slice none 0 0) (.slice none 0 0) (.int .i64 0) (.int .i64 0) (.int .i64 0)
    generalize ((((((((((W3.setCell ⟨s+1,0,none⟩ (.int .i64 CX)).setCell ⟨s+1,1,none⟩ (.slice none 0 0)).setCell ⟨s+1,2,none⟩ (.slice none 0 0)).setCell ⟨s+1,3,none⟩ (.slice none 0 0)).setCell ⟨s+1,4,none⟩ (.slice none 0 0)).setCell ⟨s+1,5,none⟩ (.slice none 0 0)).setCell ⟨s+1,6,none⟩ (.slice none 0 0)).setCell ⟨s+1,7,none⟩ (.int .i64 0)).setCell ⟨s+1,8,none⟩ (.int .i64 0)).setCell ⟨s+1,9,none⟩ (.int .i64 0))=W9 at*
    have x0:=NN.out.1.cell 0 rfl
    have x1:=NN.out.1.cell 1 rfl
    have x2:=NN.out.1.cell 2 rfl
    have x3:=NN.out.1.cell 3 rfl
    have x4:=NN.out.1.cell 4 rfl
    have x5:=NN.out.1.cell 5 rfl
    have x6:=NN.out.1.cell 6 rfl
    have x7:=NN.out.1.cell 7 rfl
    have x8:=NN.out.1.cell 8 rfl
    have x9:=NN.out.1.cell 9 rfl
    exact bodyPost_ret (v:=.agg #[.int .i64 CX,.slice none 0 0,.slice none 0 0,.slice none 0 0,.slice none 0 0,.slice none 0 0,.slice none 0 0,.int .i64 0,.int .i64 0,.int .i64 0]) (by simp[results,Tryz.results6,go_sem,x0,x1,x2,x3,x4,x5,x6,x7,x8,x9]) rfl ⟨_,_,_,_,_,_,by rw[eBC.out.1,eBC.out.2];rfl,by rw[eBC.out.2];exact⟨[],[],ow_void _ _⟩,Mq.under B3.out NN.out.2 fun k e=>by have:=HSs.out;omega⟩
  ·have hJ:¬(j:Int)<(jl:Int):=by omega
   have JN:Hid (j=jl):=by show _=_;omega
   clear hlt hB hj
   have NZ:Hid (BC=0∧BX=⟨P,loadZ P iss,jss.map newV,0,(P.plan.getD 0 (0,0)).2,0⟩):=by
    have e0:nhC jss=0:=by rw[HD.out,JN.out,←JL.out.1,List.drop_length];rfl
    have e1:BC=0:=by rw[←HBX.out.2.2,e0]
    exact⟨e1,by rw[←HBX.out.2.1];exact bh_yes _ _ _ (by rw[HBX.out.1,e1])⟩
   have Q4':Hid (Vb wr s #[.slice a0 jl c0,.slice a1 n1 c1,.slice a2 n2 c2,.slice a3 n3 c3] 29):=Q2.out.keep HB.out
   have V4':Hid (Vb wr t2 #[.int .i64 0,.slice la ll lk] 60):=V2.out.keep HB.out
   have QL:Hid (∀w',SvN 10 wr (s+1) w'→Vb w' s #[.slice a0 jl c0,.slice a1 n1 c1,.slice a2 n2 c2,.slice a3 n3 c3] 29∧Vb w' t2 #[.int .i64 0,.slice la ll lk] 60):=fun w' hs=>⟨hs.1.vb Q4'.out (by omega),hs.1.vb V4'.out (by have:=LTs.out;omega)⟩
   have BS:Hid (∀w',SvN 10 wr (s+1) w'→Below w.heap.size w w'):=fun w' hs=>Mq.under (on B2.out HB.out) hs.1 fun k e=>by have:=HSs.out;omega
   have LT:=hid ((R2.out.keep HB.out).lt)
   have Sv0:Hid (SvN 10 wr (s+1) wr.drew):=SvN.step ⟨Mq.refl _ _,(R2.out.keep HB.out).there 10 (by decide)⟩ LT.out (Below.refl _ _).drew
   have E0:Hid (Below wr.heap.size wr wr.drew):=(Below.refl _ _).drew
   go_upto_region 15 with fail
   refine wp_region_held (S:=fun w'=>SvN 10 wr (s+1) w') (by kernel_rfl) ?_
   change wpAnyH _ _ _ _ _ _ _ _ (World.drew _)
   generalize wr.drew=u0 at*
   refine wpTe 0 48 ((.agg #[.slice a0 jl c0,.slice a1 n1 c1,.slice a2 n2 c2,.slice a3 n3 c3])) rfl (Or.inl ⟨by rfl,fun w' hs=>by have qv:=(QL.out w' hs).1;have y0:=qv.cell 0 rfl;have y1:=qv.cell 1 rfl;have y2:=qv.cell 2 rfl;have y3:=qv.cell 3 rfl;go_simp⟩) Sv0.out ?_
   simp only[Act.put,zT,zZ,zS]
   refine wpTd 1 49 ((.pointer (some ⟨t2,1,none⟩))) rfl Sv0.out ?_
   simp only[Act.put,zT,zZ,zS]
   refine wpTe 2 50 ((.slice la ll lk)) rfl (Or.inl ⟨by rfl,fun w' hs=>by have y:=(QL.out w' hs).2.cell 1 rfl;go_simp⟩) Sv0.out ?_
   simp only[Act.put,zT,zZ,zS]
   refine wpTd 3 51 ((.slice va j vc)) rfl Sv0.out ?_
   simp only[Act.put,zT,zZ,zS]
   refine wpTe 4 52 ((.agg #[.slice a0 jl c0,.slice a1 n1 c1,.slice a2 n2 c2,.slice a3 n3 c3])) rfl (Or.inl ⟨by rfl,fun w' hs=>by have qv:=(QL.out w' hs).1;have y0:=qv.cell 0 rfl;have y1:=qv.cell 1 rfl;have y2:=qv.cell 2 rfl;have y3:=qv.cell 3 rfl;go_simp⟩) Sv0.out ?_
   simp only[Act.put,zT,zZ,zS]
   refine zR 5 rfl fun K hK=>?_
   rw[if_pos (by rfl)]
   go_simp
   refine(i_turnAt _ _ _ _ _ _ _ _ _ _ _ _ P 0 _ ((((D.out.stay E2.out).stay HB.out).stay E0.out)) (cell_keep E0.out (cell_keep HB.out (cell_keep E2.out HGE.out))) PP.out (by decide) (by decide)).mono ?_
   obtain⟨LV,hLV⟩:∃z,(P.plan.getD 0 (0,0)).2=z:=⟨_,rfl⟩
   rw[show tS P 0=(0,LV) by rw[tS_zero PP.out,hLV]]
   rw[hLV]at NZ
   clear hLV
   rintro e u1⟨rfl,b1⟩
   have E1:=hid (on E0.out b1)
   have Sv1:Hid (SvN 10 wr (s+1) u1):=Sv0.out.step LT.out b1
   clear b1
   refine hK.out _ _ Sv1.out (fun _=>?_)
   clear hK K
   refine zR 6 rfl fun K hK=>?_
   rw[if_pos (by rfl)]
   go_simp
   refine(i_hostAt _ _ _ _ _ _ _ _ _ _ _ _ P _ _ _ _ _ _ _ _ _ _ (((D.out.stay E2.out).stay HB.out).stay E1.out) SMP.out).mono ?_
   rintro e u2⟨_,_,_,_,rfl,wp,b2⟩
   obtain⟨b0,b1a,b2a,b3,g0,g1,g2,g3,e0,e1,e2,e3⟩:=wp_shapes wp
   subst e0 e1 e2 e3
   obtain⟨m0,hm0⟩:∃n,P.own.length=n:=⟨_,rfl⟩
   obtain⟨m1,hm1⟩:∃n,P.lanes.length=n:=⟨_,rfl⟩
   obtain⟨m2,hm2⟩:∃n,P.bells.length=n:=⟨_,rfl⟩
   obtain⟨m3,hm3⟩:∃n,P.plan.length=n:=⟨_,rfl⟩
   rw[hm0,hm1,hm2,hm3]at wp ⊢
   have WP:=hid wp
   have Sv2:Hid (SvN 10 wr (s+1) u2):=Sv1.out.step LT.out b2
   have C2:=hid b2
   clear wp b2 hm0 hm1 hm2 hm3
   refine hK.out _ _ Sv2.out (fun _=>?_)
   clear hK K
   refine wpTd 7 55 ((.agg #[.int .i64 0,.slice b0 m0 g0,.slice b1a m1 g1,.slice b2a m2 g2,.slice b3 m3 g3,.slice la ll lk,.slice va j vc,.int .i64 0,.int .i64 LV,.int .i64 0])) rfl Sv2.out ?_
   simp only[Act.put,zT,zZ,zS]
   refine zR 8 rfl fun K hK=>?_
   rw[if_pos (by rfl)]
   refine wp_store_mid 37 (.tmp 6) (.tmp 55) rfl (s+1) 0 #[.int .i64 0,.slice b0 m0 g0,.slice b1a m1 g1,.slice b2a m2 g2,.slice b3 m3 g3,.slice la ll lk,.slice va j vc,.int .i64 0,.int .i64 LV,.int .i64 0] rfl rfl Sv2.out.2 (by kernel_rfl) (by simp[Value.oneCell']) ?_
   change K (Act.put _ none undef) _
   simp only[Act.put]
   have S6:Hid (SvN 10 wr (s+1) (u2.setCells (s+1) 0 #[.int .i64 0,.slice b0 m0 g0,.slice b1a m1 g1,.slice b2a m2 g2,.slice b3 m3 g3,.slice la ll lk,.slice va j vc,.int .i64 0,.int .i64 LV,.int .i64 0].toList)):=Sv2.out.set _
   have R6:Hid ((u2.setCells (s+1) 0 #[.int .i64 0,.slice b0 m0 g0,.slice b1a m1 g1,.slice b2a m2 g2,.slice b3 m3 g3,.slice la ll lk,.slice va j vc,.int .i64 0,.int .i64 LV,.int .i64 0].toList).rangeAt (s+1) 0 #[.int .i64 0,.slice b0 m0 g0,.slice b1a m1 g1,.slice b2a m2 g2,.slice b3 m3 g3,.slice la ll lk,.slice va j vc,.int .i64 0,.int .i64 LV,.int .i64 0].toList):=World.rangeAt_setCells_same _ _ _ _ Sv2.out.2
   have Q6:Hid (Mq (fun k=>k=s+1) u2 (u2.setCells (s+1) 0 #[.int .i64 0,.slice b0 m0 g0,.slice b1a m1 g1,.slice b2a m2 g2,.slice b3 m3 g3,.slice la ll lk,.slice va j vc,.int .i64 0,.int .i64 LV,.int .i64 0].toList)):=mq_cells (s+1) _ u2 0
   generalize u2.setCells (s+1) 0 #[.int .i64 0,.slice b0 m0 g0,.slice b1a m1 g1,.slice b2a m2 g2,.slice b3 m3 g3,.slice la ll lk,.slice va j vc,.int .i64 0,.int .i64 LV,.int .i64 0].toList=u6 at*
   refine hK.out _ _ S6.out (fun _=>?_)
   clear hK K
   refine wpAnyH_done (by kernel_rfl) ?_ _
   have O6:Ho (s+2) u2 u6:=Q6.out.ho fun k e=>by omega
   have W2s:s+2≤W2.heap.size∧W2.heap.size≤u1.heap.size:=by have:=LTs.out;have:=HB.out.size;have:=E1.out.size;exact⟨by omega,by omega⟩
   have F:Hid (OwE u6 w.heap.size (.slice b0 m0 g0) (.slice b1a m1 g1) (.slice b2a m2 g2) (.slice b3 m3 g3) (.slice la ll lk) (.slice va j vc) ⟨P,loadZ P iss,jss.map newV,0,LV,0⟩):=by
    have hw2:=(HM.out.keep E1.out).keep C2.out
    have hwl:∀u ∈ (qs.flatMap fun q=>q.1.l),∀k,u.ownBlock=some k→k<u1.heap.size:=fun u hu k e=>by
     obtain⟨_,nu⟩:=(HM.out.keep E1.out).lists u hu
     exact(nu.lt k e).2
    have hml:∀k,(Value.slice la ll lk).ownBlock=some k→k<W2.heap.size:=fun k e=>(NM.out.lt k e).2
    have nm2:=((NM.out.keep HB.out).keep E1.out).keep C2.out
    obtain⟨xs,qs',hO⟩:=ow_of (base:=s+2) (t1:=W.heap.size) (t2:=W2.heap.size) (t3:=u1.heap.size) (sl:=0) (le:=LV) (cl:=0) WP.out nm2 hml hw2 hwl (by rw[JL.out.1,JN.out]) (by have:=ZW.out;omega) W2s.1 (by omega) W2s.2
    exact⟨xs,qs',(hO.ho O6).mono (by have:=HSs.out;omega)⟩
   have B6:Hid (Below w.heap.size w u6):=BS.out _ S6.out
   have LD:=run_loadVar_mid (P:=Tryz.prog) u6 (s+1) 0 37 #[.int .i64 0,.slice b0 m0 g0,.slice b1a m1 g1,.slice b2a m2 g2,.slice b3 m3 g3,.slice la ll lk,.slice va j vc,.int .i64 0,.int .i64 LV,.int .i64 0].toList _ R6.out Tryz.underlying37 rfl (by kernel_rfl)
   go_wp2_with fail
   exact bodyPost_ret (v:=.agg #[.int .i64 0,.slice b0 m0 g0,.slice b1a m1 g1,.slice b2a m2 g2,.slice b3 m3 g3,.slice la ll lk,.slice va j vc,.int .i64 0,.int .i64 LV,.int .i64 0]) (by simp[results,Tryz.results6,asAddr];rw[LD]) rfl ⟨_,_,_,_,_,_,by rw[NZ.out.1,NZ.out.2],by rw[NZ.out.2];exact F.out,B6.out⟩
theorem ho_lessX{b b':Nat}{w w':World}(h:Ho b w w')(hb:b≤b'):Ho b' w w':=⟨h.size,fun k hk=>h.block k (by omega)⟩
theorem Mw.ky{E:TypeId}{w w':World}{base j:Nat}{v:Value}{jss:List (List Int)}{qs:List (V4×Ht)}(h:Mw w base v jss j qs)(k:Ky (some E) w w')(h1:E≠47)(h2:E≠2):Mw w' base v jss j qs:=
 ⟨h.len,k.row h.row (fun e=>h1 (by injection e with e;exact e.symm)),fun i q e=>⟨(h.one i q e).1,have m:=(h.one i q e).2;have ne:some 2≠some E:=fun e=>h2 (by injection e with e;exact e.symm);⟨k.row m.r ne,k.row m.c ne,k.row m.i ne,k.row m.o ne⟩⟩,h.apart⟩
theorem Mw.hoX(h:Mw w base v jss j qs)(k:Ho base w w'):Mw w' base v jss j qs:=
 ⟨h.len,row_hoX h.row k,fun i q e=>⟨(h.one i q e).1,(h.one i q e).2.ho k⟩,h.apart⟩
structure Mc(w:World)(base:Nat)(v:Value)(hs:List Ht)(j:Nat)(qs:List (V4×Ht)):Prop where
 len:qs.length=j
 row:w.ownsRow base 47 9 v qs.length (flat9 qs)
 one:∀(i:Nat) (q:V4×Ht),qs[i]? =some q→q.2=hs.getD i voidH∧Hm w base q.1.r q.1.c q.1.i q.1.o q.2
 apart:(qs.flatMap fun q=>q.1.l).Pairwise Apt
variable{w w':World}{base j:Nat}{v:Value}{hs:List Ht}{qs:List (V4×Ht)}
theorem Mc.keep(h:Mc w base v hs j qs)(b:Below w.heap.size w w'):Mc w' base v hs j qs:=
 ⟨h.len,row_keepX h.row b,fun i q e=>⟨(h.one i q e).1,(h.one i q e).2.keep b⟩,h.apart⟩
theorem Mc.lists{w:World}{base j:Nat}{v:Value}{hs:List Ht}{qs:List (V4×Ht)}(h:Mc w base v hs j qs):∀u ∈ (qs.flatMap fun q=>q.1.l),∃zs,Nums w base u zs:=fun u hu=>by
 obtain⟨q,hq,hv⟩:=List.mem_flatMap.1 hu
 obtain⟨i,hi,e⟩:=List.mem_iff_getElem.1 hq
 have m:=(h.one i q (by rw[List.getElem?_eq_getElem hi,e])).2
 simp only[V4.l,List.mem_cons,List.not_mem_nil,or_false]at hv
 rcases hv with rfl|rfl|rfl|rfl
 ·exact⟨_,m.r⟩
 ·exact⟨_,m.c⟩
 ·exact⟨_,m.i⟩
 ·exact⟨_,m.o⟩
theorem Mc.step{wr w w':World}{base j:Nat}{v v' r c i o:Value}{hs:List Ht}{qs:List (V4×Ht)}{H:Ht}(h:Mc wr base v hs j qs)(b:Below wr.heap.size wr w)(hm:Hm w wr.heap.size r c i o H)(ha:Ha r c i o)(hb:base≤wr.heap.size)(hH:H=hs.getD j voidH)(hO:w'.ownsRow base 47 9 v' (qs++ [((⟨r,c,i,o⟩:V4),H)]).length (flat9 (qs++ [((⟨r,c,i,o⟩:V4),H)])))(hG:w.grownBy w' v.ownBlock):Mc w' base v' hs (j+1) (qs++ [((⟨r,c,i,o⟩:V4),H)]):=by
 have hne:∀(bs:Nat) (u:Value) (zs:List Int),Nums w bs u zs→u.ownBlock=none∨u.ownBlock≠v.ownBlock:=fun bs u zs hu=>row_typesX hu (row_keepX h.row b) (by decide)
 refine⟨by rw[List.length_append,h.len];rfl,hO,fun k q e=>?_,?_⟩
 ·by_cases hk:k<qs.length
  ·rw[List.getElem?_append_left hk]at e
   exact⟨(h.one k q e).1,hm_keptX ((h.one k q e).2.keep b) hG (hne base)⟩
  ·rw[List.getElem?_append_right (by omega)]at e
   have hk0:k-qs.length=0:=by
    rcases Nat.eq_zero_or_pos (k-qs.length)with h0|h0
    ·exact h0
    ·rw[List.getElem?_eq_none (by simp;omega)]at e;cases e
   rw[hk0]at e
   cases e
   have:k=j:=by have:=h.len;omega
   subst this
   exact⟨hH,(hm_keptX hm hG (hne _)).mono hb⟩
 ·rw[List.flatMap_append,List.pairwise_append]
  refine⟨h.apart,by simpa using ha_pw ha,fun a ha' b' hb'=>?_⟩
  obtain⟨_,na⟩:=h.lists a ha'
  have hb2:b' ∈ V4.l ⟨r,c,i,o⟩:=by simpa using hb'
  have nb:∃zs,Nums w wr.heap.size b' zs:=by
   simp only[V4.l,List.mem_cons,List.not_mem_nil,or_false]at hb2
   rcases hb2 with rfl|rfl|rfl|rfl
   ·exact⟨_,hm.r⟩
   ·exact⟨_,hm.c⟩
   ·exact⟨_,hm.i⟩
   ·exact⟨_,hm.o⟩
  obtain⟨_,nb⟩:=nb
  exact apt_sep (m:=wr.heap.size) (fun k e=>(na.lt k e).2) (fun k e=>(nb.lt k e).1)
theorem Mc.ky{E:TypeId}{w w':World}{base j:Nat}{v:Value}{hs:List Ht}{qs:List (V4×Ht)}(h:Mc w base v hs j qs)(k:Ky (some E) w w')(h1:E≠47)(h2:E≠2):Mc w' base v hs j qs:=
 ⟨h.len,k.row h.row (fun e=>h1 (by injection e with e;exact e.symm)),fun i q e=>⟨(h.one i q e).1,have m:=(h.one i q e).2;have ne:some 2≠some E:=fun e=>h2 (by injection e with e;exact e.symm);⟨k.row m.r ne,k.row m.c ne,k.row m.i ne,k.row m.o ne⟩⟩,h.apart⟩
theorem Mc.hoX(h:Mc w base v hs j qs)(k:Ho base w w'):Mc w' base v hs j qs:=
 ⟨h.len,row_hoX h.row k,fun i q e=>⟨(h.one i q e).1,(h.one i q e).2.ho k⟩,h.apart⟩
structure Hoz(X:Hst):Prop where
 pf:pfV X.pol=0
 ml:X.mem.length=192
 mw:X.mem.all isW=true
 hl:X.harts.length=X.pol.own.length
 ok:∀k,k<X.harts.length→Hok (X.harts.getD k voidH)
 own:X.pol.own.length≤3
 own1:1≤X.pol.own.length
theorem harts_eachG:∀(hs:List Ht),hartsV hs=0→∀j,j<hs.length→hfV (hs.getD j voidH)=0
 | [],_,j,hj=>absurd hj (Nat.not_lt_zero _)
 |h::t,hv,j,hj=>by
  rw[hartsV]at hv
  split at hv
  ·rename_i h0
   match j,hj with
   |0,_=>exact h0
   |j+1,hj=>exact harts_eachG t hv j (by simpa using hj)
  ·rename_i h0
   exact absurd hv h0
theorem hoz_of{X:Hst}(h:hoV X=0):Hoz X:=by
 obtain⟨hp,_,_⟩:=ho_ok h
 have hpp:=pf_parts X.pol hp
 unfold hoV at h
 rw[if_pos hp]at h
 split at h
 case isFalse=>cases h
 rename_i hm
 split at h
 case isFalse h3=>exact absurd h h3
 rename_i hh
 have hml:=hm.1
 unfold wholeB at hml
 simp at hml
 have hw:X.mem.all isW=true:=by
  have h1:=hml.2
  unfold memV at h1
  split at h1
  ·split at h1
   ·assumption
   ·cases h1
  ·cases h1
 exact⟨hp,hml.1,hw,hm.2,fun k hk=>hok_of (harts_eachG X.harts hh k hk),hpp.1,hpp.2.2.2.2.2.2⟩
structure Gv where
 i:Value
 o:Value
 l:Value
structure Gs where
 q:Gv
 H:Ht
 ps:List (Int×Int)
 ca:Int
 ri:Int
def gsz:Gs:=⟨⟨.slice none 0 0,.slice none 0 0,.slice none 0 0⟩,voidH,[],0,0⟩
def cel38(g:Value)(s:Gs):List Value:=(mcr s.H s.q.i s.q.o s.q.l g s.ca s.ri).toList
theorem cel38_len(g:Value)(s:Gs):(cel38 g s).length=38:=rfl
def flatR(g:Value):List Gs→List Value
 | []=> []
 |s::t=>cel38 g s++flatR g t
theorem flatR_len(g:Value):∀rs:List Gs,(flatR g rs).length=rs.length*38
 | []=>rfl
 |s::t=>by
  rw[flatR,List.length_append,flatR_len g t,List.length_cons,cel38_len]
  omega
theorem flatR_app(g:Value):∀(a b:List Gs),flatR g (a++b)=flatR g a++flatR g b
 | [],b=>rfl
 |s::t,b=>by rw[List.cons_append,flatR,flatR,flatR_app g t b,List.append_assoc]
theorem flatR_get(g:Value):∀(rs:List Gs) (k t:Nat),k<rs.length→t<38→(flatR g rs)[k*38+t]? =(cel38 g (rs.getD k gsz))[t]?
 | [],k,t,hk,_=>by simp at hk
 |s::r,0,t,_,ht=>by
  rw[flatR,Nat.zero_mul,Nat.zero_add,List.getElem?_append_left (by rw[cel38_len];exact ht)]
  rfl
 |s::r,k+1,t,hk,ht=>by
  rw[flatR,List.getElem?_append_right (by rw[cel38_len];omega),cel38_len]
  have:=flatR_get g r k t (by simpa using hk) ht
  rw[show(k+1)*38+t-38=k*38+t by omega,this]
  rfl
theorem flatR_one(g:Value)(hg:g.oneCell'=true):∀(rs:List Gs),(∀s ∈ rs,s.q.i.oneCell'=true∧s.q.o.oneCell'=true∧s.q.l.oneCell'=true)→∀u ∈ flatR g rs,u.oneCell'=true
 | [],_,u,hu=>by cases hu
 |s::t,h,u,hu=>by
  rw[flatR]at hu
  rcases List.mem_append.1 hu with hu|hu
  ·obtain⟨h1,h2,h3⟩:=h s (by simp)
   have:=mcr_one s.H s.q.i s.q.o s.q.l g s.ca s.ri h1 h2 h3 hg
   rw[Array.all_eq_true']at this
   exact this u (by rw[←Array.mem_toList_iff];exact hu)
  ·exact flatR_one g hg t (fun s' hs=>h s' (by simp[hs])) u hu
theorem info_runner:(Tryz.prog.info? 129).map (fun i=>(i.zero,i.size,i.bytes))=some (some (.agg mrz),38,352):=by kernel_rfl
structure Gr(w:World)(base:Nat)(s:Gs):Prop where
 i:Nums w base s.q.i s.H.inn
 o:∃bo,base≤bo∧bo≤w.heap.size∧Nums w bo s.q.o s.H.out∧∀k,s.q.i.ownBlock=some k→k<bo
 l:Prs 89 w base s.q.l s.ps
 l8:s.ps.length=8
theorem Gr.keep{w w':World}{base:Nat}{s:Gs}(h:Gr w base s)(b:Below w.heap.size w w'):Gr w' base s:=
 ⟨h.i.keep b,by obtain⟨bo,h1,h2,h3,h4⟩:=h.o;exact⟨bo,h1,Nat.le_trans h2 b.size,h3.keep b,h4⟩,h.l.keep b,h.l8⟩
theorem Gr.mono{w:World}{base base':Nat}{s:Gs}(h:Gr w base s)(hb:base'≤base):Gr w base' s:=
 ⟨h.i.mono hb,by obtain⟨bo,h1,h2,h3,h4⟩:=h.o;exact⟨bo,Nat.le_trans hb h1,h2,h3,h4⟩,row_monoX h.l hb,h.l8⟩
theorem Gr.ky{E:TypeId}{w w':World}{base:Nat}{s:Gs}(h:Gr w base s)(k:Ky (some E) w w')(hs:w.heap.size≤w'.heap.size)(h1:E≠2)(h2:E≠89):Gr w' base s:=by
 have n1:some 2≠some E:=fun e=>h1 (by injection e with e;exact e.symm)
 have n2:some 89≠some E:=fun e=>h2 (by injection e with e;exact e.symm)
 exact⟨k.row h.i n1,by obtain⟨bo,h1,h2,h3,h4⟩:=h.o;exact⟨bo,h1,Nat.le_trans h2 hs,k.row h3 n1,h4⟩,k.row h.l n2,h.l8⟩
theorem Gr.hoX{w w':World}{base:Nat}{s:Gs}(h:Gr w base s)(k:Ho base w w'):Gr w' base s:=
 ⟨h.i.ho k,by obtain⟨bo,h1,h2,h3,h4⟩:=h.o;exact⟨bo,h1,Nat.le_trans h2 k.size,h3.ho (ho_lessX k h1),h4⟩,row_hoX h.l k,h.l8⟩
def Gv.two(q:Gv):List Value:=[q.i,q.o]
structure Gw(w:World)(base:Nat)(g v:Value)(hs:List Ht)(P:Plc)(j:Nat)(rs:List Gs):Prop where
 len:rs.length=j
 row:w.ownsRow base 129 38 v rs.length (flatR g rs)
 one:∀(k:Nat) (s:Gs),rs[k]? =some s→s.H=hs.getD k voidH∧s.ps=pforL (P.own.getD k []) P.lanes (k:Int) 8∧s.ca= -1∧s.ri= -1∧Gr w base s
 apart:(rs.flatMap fun s=>s.q.two).Pairwise Apt
variable{w w':World}{base j:Nat}{g v:Value}{hs:List Ht}{P:Plc}{rs:List Gs}
theorem Gw.keep(h:Gw w base g v hs P j rs)(b:Below w.heap.size w w'):Gw w' base g v hs P j rs:=
 ⟨h.len,row_keepX h.row b,fun k s e=>by obtain⟨h1,h2,h3,h4,h5⟩:=h.one k s e;exact⟨h1,h2,h3,h4,h5.keep b⟩,h.apart⟩
theorem Gw.ky{E:TypeId}{w w':World}{base j:Nat}{g v:Value}{hs:List Ht}{P:Plc}{rs:List Gs}(h:Gw w base g v hs P j rs)(k:Ky (some E) w w')(hs':w.heap.size≤w'.heap.size)(h1:E≠129)(h2:E≠2)(h3:E≠89):Gw w' base g v hs P j rs:=
 ⟨h.len,k.row h.row (fun e=>h1 (by injection e with e;exact e.symm)),fun i s e=>by obtain⟨k1,k2,k3,k4,k5⟩:=h.one i s e;exact⟨k1,k2,k3,k4,k5.ky k hs' h2 h3⟩,h.apart⟩
theorem Gw.hoX(h:Gw w base g v hs P j rs)(k:Ho base w w'):Gw w' base g v hs P j rs:=
 ⟨h.len,row_hoX h.row k,fun i s e=>by obtain⟨k1,k2,k3,k4,k5⟩:=h.one i s e;exact⟨k1,k2,k3,k4,k5.hoX k⟩,h.apart⟩
theorem Gw.lists{w:World}{base j:Nat}{g v:Value}{hs:List Ht}{P:Plc}{rs:List Gs}(h:Gw w base g v hs P j rs):∀u ∈ (rs.flatMap fun s=>s.q.two),∃zs,Nums w base u zs:=fun u hu=>by
 obtain⟨s,hs,hv⟩:=List.mem_flatMap.1 hu
 obtain⟨i,hi,e⟩:=List.mem_iff_getElem.1 hs
 obtain⟨_,_,_,_,m⟩:=h.one i s (by rw[List.getElem?_eq_getElem hi,e])
 simp only[Gv.two,List.mem_cons,List.not_mem_nil,or_false]at hv
 rcases hv with rfl|rfl
 ·exact⟨_,m.i⟩
 ·obtain⟨bo,h1,_,h3,_⟩:=m.o;exact⟨_,h3.mono h1⟩
theorem Gw.step{wr w w':World}{base j:Nat}{g v v':Value}{hs:List Ht}{P:Plc}{rs:List Gs}{s:Gs}(h:Gw wr base g v hs P j rs)(b:Below wr.heap.size wr w)(hm:Gr w wr.heap.size s)(ha:Apt s.q.i s.q.o)(hb:base≤wr.heap.size)(e1:s.H=hs.getD j voidH)(e2:s.ps=pforL (P.own.getD j []) P.lanes (j:Int) 8)(e3:s.ca= -1)(e4:s.ri= -1)(hO:w'.ownsRow base 129 38 v' (rs++ [s]).length (flatR g (rs++ [s])))(hG:w.grownBy w' v.ownBlock):Gw w' base g v' hs P (j+1) (rs++ [s]):=by
 have hro:=row_keepX h.row b
 have hg:∀{s:Gs} {bb:Nat},Gr w bb s→Gr w' bb s:=fun{s bb} m=>by
  have ne:∀(bs:Nat) (u:Value) (zs:List Int),Nums w bs u zs→u.ownBlock=none∨u.ownBlock≠v.ownBlock:=fun bs u zs hu=>row_typesX hu hro (by decide)
  refine⟨m.i.kept hG (ne _ _ _ m.i),?_,World.ownsRow.kept m.l hG (row_typesX m.l hro (by decide)),m.l8⟩
  obtain⟨bo,h1,h2,h3,h4⟩:=m.o
  exact⟨bo,h1,Nat.le_trans h2 hG.size,h3.kept hG (ne _ _ _ h3),h4⟩
 refine⟨by rw[List.length_append,h.len];rfl,hO,fun k q e=>?_,?_⟩
 ·by_cases hk:k<rs.length
  ·rw[List.getElem?_append_left hk]at e
   obtain⟨k1,k2,k3,k4,k5⟩:=h.one k q e
   exact⟨k1,k2,k3,k4,hg (k5.keep b)⟩
  ·rw[List.getElem?_append_right (by omega)]at e
   have hk0:k-rs.length=0:=by
    rcases Nat.eq_zero_or_pos (k-rs.length)with h0|h0
    ·exact h0
    ·rw[List.getElem?_eq_none (by simp;omega)]at e;cases e
   rw[hk0]at e
   cases e
   have:k=j:=by have:=h.len;omega
   subst this
   exact⟨e1,e2,e3,e4,(hg hm).mono hb⟩
 ·rw[List.flatMap_append,List.pairwise_append]
  refine⟨h.apart,by simpa [Gv.two]using ha,fun a ha' b' hb'=>?_⟩
  obtain⟨_,na⟩:=h.lists a ha'
  have hb2:b' ∈ s.q.two:=by simpa using hb'
  have nb:∃zs,Nums w wr.heap.size b' zs:=by
   simp only[Gv.two,List.mem_cons,List.not_mem_nil,or_false]at hb2
   rcases hb2 with rfl|rfl
   ·exact⟨_,hm.i⟩
   ·obtain⟨bo,h1,_,h3,_⟩:=hm.o;exact⟨_,h3.mono h1⟩
  obtain⟨_,nb⟩:=nb
  exact apt_sep (m:=wr.heap.size) (fun k e=>(na.lt k e).2) (fun k e=>(nb.lt k e).1)
theorem step_runX{ops:Array Oper}{o:Oper}{act:Act}{w:World}{K:Act→World→Prop}{Q:Exit→Act→World→Prop}{F:Prop}(hgd:o.guard=none)(s x:Operand)
  (ho:o.op=.call { callee:=.builtin .append,args:=#[s,x],argTypes:=#[124,124]}) (base:Nat) (g v:Value) (rs:List Gs) (hs:act.eval s=v) (hN:w.ownsRow base 129 38 v rs.length (flatR g rs))
  (b:Nat) (r:Gs) (hx:act.eval x=.slice (some ⟨b,0,none⟩) 1 1) (hc:w.rangeAt b 0 (cel38 g r)) (h1:r.q.i.oneCell'=true∧r.q.o.oneCell'=true∧r.q.l.oneCell'=true) (hg1:g.oneCell'=true) (m:Nat) (hxm:rs.length=m) (hlen:m≤1000) (hbase:base≤w.heap.size)
  (h:∀wa wc w',w'.ownsRow base 129 38 (.slice wa (m+1) wc) (rs++ [r]).length (flatR g (rs++ [r]))→w.grownBy w' v.ownBlock→K (act.put o.dst (.slice wa (m+1) wc)) w'):
  if Region.wanted o (yielded ops act.tmps)=true then Oper.wp Tryz.prog o act w K Q else F:=by
 have hw:Region.wanted o (yielded ops act.tmps)=true:=by simp[Region.wanted,hgd]
 rw[if_pos hw]
 obtain⟨i,hi,hz0,hz1,hz2⟩:=info_parts info_runner
 obtain⟨v',w',hr,h5,h6,_⟩:=run_append_own (P:=Tryz.prog) w base 124 o.type 129 i _ 38 352 Tryz.underlying124 hi hz0 hz1 hz2 rfl (by decide) _ rs.length _ hN ⟨b,0,none⟩ 1 1 (cel38 g r) rfl (by
  intro j u' hj
  rw[Addr.add_lit,Nat.zero_add]
  have:=hc j u' hj
  rwa[Nat.zero_add]at this) (fun u hu=>flatR_one g hg1 [r] (fun q' hq'=>by rw[List.mem_singleton]at hq';subst hq';exact h1) u (by rw[flatR,flatR,List.append_nil];exact hu)) (by unfold maxLen;omega) (by omega) hbase
 unfold Oper.wp execOp
 simp only[ho,resolve,invoke,builtin,Sem.run_bind,Sem.run_pure,Result.andThen_ok,List.map_toArray,List.map_cons,List.map_nil,hs,hx,hr]
 have h7:w'.ownsRow base 129 38 v' (rs++ [r]).length (flatR g (rs++ [r])):=by
  rw[List.length_append,flatR_app,show flatR g [r]=cel38 g r by rw[flatR,flatR,List.append_nil]]
  exact h5
 obtain⟨wa,wc,e⟩:=row_shape h7
 rw[List.length_append,hxm]at e
 subst e
 exact h wa wc w' h7 h6
theorem wp_bsR{o:Oper}{a:Act}{w:World}{K:Act→World→Prop}{Q:Exit→Act→World→Prop}(s:Operand)(ho:o.op=.buildSlice 124 1 #[(0,s)])(cs:Array Value)(hs:a.eval s=.agg cs)(hc:cs.size=38)
  (h:K (a.put o.dst (.slice (some ⟨w.heap.size,0,none⟩) 1 1)) (w.alloc (.cells cs 129))):o.wp Tryz.prog a w K Q:=by
 obtain⟨i,hi,hz0,hz1,hz2⟩:=info_parts info_runner
 refine wp_buildSlice 124 129 1 #[(0,s)] ho cs i (.agg mrz) Tryz.underlying124 hi hz0 (by rw[hz1];decide) (by rw[hz1];decide) ?_ h
 have e:=Great.fill_whole (s:=38) (by decide) [Value.agg cs] ((Array.range (1*i.size)).map ((Value.agg mrz).cells[· %(Value.agg mrz).cells.size]!)) (by intro v hv;rw[List.mem_singleton]at hv;subst hv;exact hc) (by simp[hz1])
 simpa [hs,hz1,Value.cells]using e
theorem gw_vd{w:World}{base n cap:Nat}{g:Value}{b:Nat}{rs:List Gs}(h:w.ownsRow base 129 38 (.slice (some ⟨b,0,none⟩) n cap) n (flatR g rs))(hn:n=rs.length)(k:Nat)(hk:k<rs.length):Vd w b (k*38) (mca (rs.getD k gsz).H (rs.getD k gsz).q.i (rs.getD k gsz).q.o):=by
 obtain⟨h1,⟨e,_⟩|⟨g',cap',cur,e,_,hr,hc,_,hcs,ht⟩⟩:=h
 ·cases e
 have e1:g'=b∧cap'=cap:=by simp at e;exact⟨e.1.symm,e.2.symm⟩
 obtain⟨rfl,rfl⟩:=e1
 refine⟨cur,_,hr,fun t x ex=>?_⟩
 have ht34:t<34:=by have:=(Array.getElem?_eq_some_iff.1 ex).1;exact this
 have e2:=flatR_get g rs k t hk (by omega)
 have e3:(cel38 g (rs.getD k gsz))[t]? =some x:=by
  have m:∀s:Gs,∀y,(mca s.H s.q.i s.q.o)[t]? =some y→(cel38 g s)[t]? =some y:=fun s y hy=>by
   have:t=0∨t=1∨t=2∨t=3∨t=4∨t=5∨t=6∨t=7∨t=8∨t=9∨t=10∨t=11∨t=12∨t=13∨t=14∨t=15∨t=16∨t=17∨t=18∨t=19∨t=20∨t=21∨t=22∨t=23∨t=24∨t=25∨t=26∨t=27∨t=28∨t=29∨t=30∨t=31∨t=32∨t=33:=by omega
   rcases this with rfl|rfl|rfl|rfl|rfl|rfl|rfl|rfl|rfl|rfl|rfl|rfl|rfl|rfl|rfl|rfl|rfl|rfl|rfl|rfl|rfl|rfl|rfl|rfl|rfl|rfl|rfl|rfl|rfl|rfl|rfl|rfl|rfl|rfl<;>exact hy
  exact m _ _ ex
 rw[e3,←ht,List.getElem?_take]at e2
 split at e2
 ·rw[←Array.getElem?_toList];exact e2
 ·cases e2
theorem ow_ofC{w:World}{base t1 t2 t3:Nat}{v0 v1 v2 v3 v4 v5:Value}{X:Hst}{qs:List (V4×Ht)}{j:Nat}(hp:WpE w t3 v0 v1 v2 v3 X.pol)(hm:Nums w t1 v4 X.mem)(hw:Mc w t2 v5 X.harts j qs)(hwl:∀u ∈ (qs.flatMap fun q=>q.1.l),∀k,u.ownBlock=some k→k<t1)(hml:∀k,v4.ownBlock=some k→k<t3)(hl:X.harts.length=j)(h1:base≤t1)(h2:base≤t2)(h3:base≤t3)(h13:t1≤t3):
  OwE w base v0 v1 v2 v3 v4 v5 X:=by
 obtain⟨xs,hx⟩:=hp
 refine⟨xs,qs,row_monoX hx.own h3,hx.xl,fun i x e=>(hx.rows i x e).mono h3,row_monoX hx.lanes h3,row_monoX hx.bells h3,row_monoX hx.plan h3,hm.mono h1,row_monoX hw.row h2,?_,fun q hq=>?_,?_⟩
 ·apply List.ext_getElem (by rw[List.length_map,hw.len,←hl])
  intro i k1 k2
  rw[List.length_map]at k1
  have e:=(hw.one i qs[i] (List.getElem?_eq_getElem k1)).1
  rw[List.getElem_map,e,List.getD,List.getElem?_eq_getElem k2]
  rfl
 ·obtain⟨i,hi,e⟩:=List.mem_iff_getElem.1 hq
  exact(hw.one i q (by rw[List.getElem?_eq_getElem hi,e])).2.mono h2
 ·rw[List.pairwise_append]
  have hxn:∀x ∈ xs,∀k,x.ownBlock=some k→t3≤k:=fun x hxm k e=>by
   obtain⟨i,hi,e2⟩:=List.mem_iff_getElem.1 hxm
   exact((hx.rows i x (by rw[List.getElem?_eq_getElem hi,e2])).lt k e).1
  refine⟨hx.apart,List.pairwise_cons.2 ⟨fun u hu=>?_,hw.apart⟩,fun a ha b hb=>?_⟩
  ·exact(apt_sep (m:=t1) (hwl u hu) (fun k e=>(hm.lt k e).1)).swap
  ·rcases List.mem_cons.1 hb with rfl|hb
   ·exact(apt_sep (m:=t3) hml (hxn a ha)).swap
   ·exact(apt_sep (m:=t3) (fun k e=>by have:=hwl b hb k e;omega) (hxn a ha)).swap
end Go.Proofs.YtignbeibcakgpaaGreatDoor
