import Derived.Deep.AppendSrc
import Derived.Test.YtaefollmeoepkaaGreatDoorQ21
import Derived.Test.YtaefollmeoepkaaGreatDoorQ29
namespace Go.Proofs.YtaefollmeoepkaaGreatDoor
set_option maxRecDepth 20000
set_option maxHeartbeats 16000000
open Go.RowKit
set_option linter.unusedVariables false
theorem Turn.putC{b:Nat}{w x:World}(t:Turn b w x){p:Addr}(hp:w.heap.size≤p.block)(u:Value):Turn b w (x.setCell p u):=
 ⟨t.os,t.tape,t.output,by have:=t.size;simpa [World.setCell]using this,fun k hk hb=>by rw[Below.heap_setCell x p u k (by omega)];exact t.block k hk hb⟩
theorem Turn.push{b:Nat}{w x:World}(t:Turn b w x)(o:Obj):Turn b w (x.alloc o):=t.trans (Turn.alloc b x o)
theorem Src.putC{w:World}{b k:Nat}{a:Option Addr}{len cap:Nat}{zs:List Int}(s:Src w b k a len cap zs){p:Addr}(hp:b<p.block)(u:Value):Src (w.setCell p u) b k a len cap zs:=by
 have hb:∀q:Addr,q.block≤b→(w.setCell p u).cell? q=w.cell? q:=fun q hq=>World.cell?_of_block (w:=w) (Below.heap_setCell w p u q.block (by omega))
 refine⟨by rw[hb _ (Nat.le_refl _)];exact s.code,by rw[hb _ (Nat.le_refl _)];exact s.count,?_,?_,s.away,by have:=s.here;simpa [World.setCell]using this⟩
 ·rw[World.frozen?_setCell];exact s.free
 ·rcases s.row with h|⟨x,rfl,h1,h2,h3,h4,h5⟩
  ·exact .inl h
  ·refine .inr ⟨x,rfl,h1,h2,h3,fun i hi=>?_,h5⟩
   have hx:=s.away x rfl (by omega)
   rw[hb _ (by rw[src_block];omega)]
   exact h4 i hi
theorem Src.stay{w w':World}{b k:Nat}{a:Option Addr}{len cap:Nat}{zs:List Int}(s:Src w b k a len cap zs)(h:Below w.heap.size w w'):Src w' b k a len cap zs:=s.turn (c:=w.heap.size) (Turn.of_below h) (Nat.le_refl _)
def small(v:Int):Prop:= -100000≤v∧v≤100000
theorem ins_class{o:Int}(h:1≤o∧o≤26):
  ((bareD o=false∧bareA o=false∧bareI o=false)∧o≤11∧(o==21)=false∧(o==22)=false)∨
  ((bareD o=false∧bareA o=false∧bareI o=false)∧¬o≤11∧(o==21)=false∧(o==22)=false)∨
  ((bareD o=false∧bareA o=true∧bareI o=false)∧¬o≤11∧(o==21)=false∧(o==22)=false)∨
  ((bareD o=false∧bareA o=true∧bareI o=false)∧o=21)∨
  ((bareD o=true∧bareA o=false∧bareI o=false)∧o=22)∨
  ((bareD o=true∧bareA o=true∧bareI o=true)∧¬o≤11∧(o==21)=false∧(o==22)=false):=by
 simp only[bareD,bareA,bareI,decide_eq_true_eq,decide_eq_false_iff_not,beq_eq_false_iff_ne]
 omega
theorem ins_any{w:World}{b k:Nat}{a:Option Addr}{len cap:Nat}{zs:List Int}(s:Src w b k a len cap zs)(hk:k≤50000):
  Calls Tryz.prog 130 #[.pointer (some ⟨b,0,none⟩)] w fun e w'=>∃o d x i:Int,e=.returned (.agg #[.int .i64 o,.int .i64 d,.int .i64 x,.int .i64 i])∧small o∧small d∧small x∧small i∧Turn b w w'∧Src w' b (k+7) a len cap zs:=by
 have HH:Hid (b<w.heap.size):=s.here
 have s0:=s.alloc (.cells #[.int .i64 0,.int .i64 0,.int .i64 0,.int .i64 0] 43)
 have T0:Turn b w (w.alloc (.cells #[.int .i64 0,.int .i64 0,.int .i64 0,.int .i64 0] 43)):=Turn.alloc b w _
 have K0:Hid ((w.alloc (.cells #[.int .i64 0,.int .i64 0,.int .i64 0,.int .i64 0] 43)).heap[w.heap.size]? =some (.cells #[.int .i64 0,.int .i64 0,.int .i64 0,.int .i64 0] 43 (0,0))):=by
  show(w.heap.push _)[w.heap.size]? =_
  rw[Array.getElem?_push,if_pos rfl]
 go_enter Tryz.func130,Tryz.ntmps130
 go_wp2_with fail
 refine(next_any s0 (by omega) _).mono ?_
 rintro e w1⟨v1,rfl,h1, -,t1,s1⟩
 obtain⟨l1,u1⟩:=h1 (by omega)
 clear h1
 go_wp2_with fail
 refine(next_any s1 (by omega) _).mono ?_
 rintro e w2⟨v2,rfl,h2, -,t2,s2⟩
 obtain⟨l2,u2⟩:=h2 (by omega)
 clear h2
 go_wp2_with fail
 refine(next_any s2 (by omega) _).mono ?_
 rintro e w3⟨v3,rfl,h3, -,t3,s3⟩
 obtain⟨l3,u3⟩:=h3 (by omega)
 clear h3
 go_wp2_with fail
 refine(next_any s3 (by omega) _).mono ?_
 rintro e w4⟨v4,rfl,h4, -,t4,s4⟩
 obtain⟨l4,u4⟩:=h4 (by omega)
 clear h4
 go_wp2_with fail
 refine(next_any s4 (by omega) _).mono ?_
 rintro e w5⟨v5,rfl,h5, -,t5,s5⟩
 obtain⟨l5,u5⟩:=h5 (by omega)
 clear h5
 go_wp2_with fail
 refine(next_any s5 (by omega) _).mono ?_
 rintro e w6⟨v6,rfl,h6, -,t6,s6⟩
 obtain⟨l6,u6⟩:=h6 (by omega)
 clear h6
 go_wp2_with fail
 have hb:=s6.here
 refine(pick_any (s6.alloc _) (by omega) (fun v=>0≤v∧v≤65535) _ 3 (by omega) (by omega) (by simp) (by omega) ?_).mono ?_
 ·intro i hi
  have:i=0∨i=1∨i=2:=by omega
  rcases this with rfl|rfl|rfl
  all_goals exact⟨_,cell_new rfl,by omega⟩
 rintro e w7⟨v7,rfl,h7,t7,s7⟩
 obtain⟨l7,u7⟩:=h7
 have TT:=((((((t1.trans t2).trans t3).trans t4).trans t5).trans t6).trans (Turn.alloc b w6 _)).trans t7
 have T7:Hid (Turn b w w7):=T0.trans TT
 have S7:=hid s7
 have K7:w7.heap[w.heap.size]? =some (.cells #[.int .i64 0,.int .i64 0,.int .i64 0,.int .i64 0] 43 (0,0)):=by
  rw[TT.block w.heap.size (by simp) (by have:=HH.out;omega)]
  exact K0.out
 have k0:w7.cell? ⟨w.heap.size,0,none⟩=some (.int .i64 0):=by simp[World.cell?,K7]
 have k1:w7.cell? ⟨w.heap.size,1,none⟩=some (.int .i64 0):=by simp[World.cell?,K7]
 have k2:w7.cell? ⟨w.heap.size,2,none⟩=some (.int .i64 0):=by simp[World.cell?,K7]
 have k3:w7.cell? ⟨w.heap.size,3,none⟩=some (.int .i64 0):=by simp[World.cell?,K7]
 have f0:w7.frozen? ⟨w.heap.size,0,none⟩=false:=by simp[World.frozen?,K7]
 have f1:w7.frozen? ⟨w.heap.size,1,none⟩=false:=by simp[World.frozen?,K7]
 have f2:w7.frozen? ⟨w.heap.size,2,none⟩=false:=by simp[World.frozen?,K7]
 have f3:w7.frozen? ⟨w.heap.size,3,none⟩=false:=by simp[World.frozen?,K7]
 have sz:w.heap.size<w7.heap.size:=block_of_cell k0
 clear t1 t2 t3 t4 t5 t6 t7 s1 s2 s3 s4 s5 s6 s7 s0 T0 K0 TT K7 hb l4 u4 l5 u5 l6 u6
 have hcl:=ins_class (o:=1+v1) (by omega)
 have fb:=fun w=>spec_bare (1+v1) w (by omega)
 have ho:1+v1≤26:=by omega
 have ho1:1≤1+v1:=by omega
 clear l1 u1
 generalize 1+v1=o at*
 rcases hcl with⟨⟨e1,e2,e3⟩,g1,g2,g3⟩|⟨⟨e1,e2,e3⟩,g1,g2,g3⟩|⟨⟨e1,e2,e3⟩,g1,g2,g3⟩|⟨⟨e1,e2,e3⟩,rfl⟩|⟨⟨e1,e2,e3⟩,rfl⟩|⟨⟨e1,e2,e3⟩,g1,g2,g3⟩
 all_goals rw[e1,e2,e3]at fb
 all_goals clear e1 e2 e3
 all_goals go_wp2_with (go_at_call 131;refine(fb _).mono ?_;rintro e x ⟨rfl,rfl⟩)
 ·exact bodyPost_ret (v:=.agg #[.int .i64 o,.int .i64 v2,.int .i64 v3,.int .i64 (v7%16)]) (by simp[results,Tryz.results130,go_sem,k0,k1,k2,k3,sz]) rfl ⟨_,_,_,_,rfl,by unfold small;omega,by unfold small;omega,by unfold small;omega,by unfold small;omega,((((T7.out.putC (p:=⟨w.heap.size,0,none⟩) (Nat.le_refl _) _).putC (p:=⟨w.heap.size,1,none⟩) (Nat.le_refl _) _).putC (p:=⟨w.heap.size,2,none⟩) (Nat.le_refl _) _).putC (p:=⟨w.heap.size,3,none⟩) (Nat.le_refl _) _).push _,((((S7.out.putC (p:=⟨w.heap.size,0,none⟩) HH.out _).putC (p:=⟨w.heap.size,1,none⟩) HH.out _).putC (p:=⟨w.heap.size,2,none⟩) HH.out _).putC (p:=⟨w.heap.size,3,none⟩) HH.out _).alloc _⟩
 ·exact bodyPost_ret (v:=.agg #[.int .i64 o,.int .i64 v2,.int .i64 v3,.int .i64 v7]) (by simp[results,Tryz.results130,go_sem,k0,k1,k2,k3,sz]) rfl ⟨_,_,_,_,rfl,by unfold small;omega,by unfold small;omega,by unfold small;omega,by unfold small;omega,((((T7.out.putC (p:=⟨w.heap.size,0,none⟩) (Nat.le_refl _) _).putC (p:=⟨w.heap.size,1,none⟩) (Nat.le_refl _) _).putC (p:=⟨w.heap.size,2,none⟩) (Nat.le_refl _) _).putC (p:=⟨w.heap.size,3,none⟩) (Nat.le_refl _) _).push _,((((S7.out.putC (p:=⟨w.heap.size,0,none⟩) HH.out _).putC (p:=⟨w.heap.size,1,none⟩) HH.out _).putC (p:=⟨w.heap.size,2,none⟩) HH.out _).putC (p:=⟨w.heap.size,3,none⟩) HH.out _).alloc _⟩
 ·exact bodyPost_ret (v:=.agg #[.int .i64 o,.int .i64 v2,.int .i64 0,.int .i64 v7]) (by simp[results,Tryz.results130,go_sem,k0,k1,k2,k3,sz]) rfl ⟨_,_,_,_,rfl,by unfold small;omega,by unfold small;omega,by unfold small;omega,by unfold small;omega,((((T7.out.putC (p:=⟨w.heap.size,0,none⟩) (Nat.le_refl _) _).putC (p:=⟨w.heap.size,1,none⟩) (Nat.le_refl _) _).putC (p:=⟨w.heap.size,2,none⟩) (Nat.le_refl _) _).putC (p:=⟨w.heap.size,3,none⟩) (Nat.le_refl _) _).push _,((((S7.out.putC (p:=⟨w.heap.size,0,none⟩) HH.out _).putC (p:=⟨w.heap.size,1,none⟩) HH.out _).putC (p:=⟨w.heap.size,2,none⟩) HH.out _).putC (p:=⟨w.heap.size,3,none⟩) HH.out _).alloc _⟩
 ·exact bodyPost_ret (v:=.agg #[.int .i64 21,.int .i64 v2,.int .i64 0,.int .i64 (v7%11)]) (by simp[results,Tryz.results130,go_sem,k0,k1,k2,k3,sz]) rfl ⟨_,_,_,_,rfl,by unfold small;omega,by unfold small;omega,by unfold small;omega,by unfold small;omega,((((T7.out.putC (p:=⟨w.heap.size,0,none⟩) (Nat.le_refl _) _).putC (p:=⟨w.heap.size,1,none⟩) (Nat.le_refl _) _).putC (p:=⟨w.heap.size,2,none⟩) (Nat.le_refl _) _).putC (p:=⟨w.heap.size,3,none⟩) (Nat.le_refl _) _).push _,((((S7.out.putC (p:=⟨w.heap.size,0,none⟩) HH.out _).putC (p:=⟨w.heap.size,1,none⟩) HH.out _).putC (p:=⟨w.heap.size,2,none⟩) HH.out _).putC (p:=⟨w.heap.size,3,none⟩) HH.out _).alloc _⟩
 ·exact bodyPost_ret (v:=.agg #[.int .i64 22,.int .i64 0,.int .i64 v3,.int .i64 (v7%11)]) (by simp[results,Tryz.results130,go_sem,k0,k1,k2,k3,sz]) rfl ⟨_,_,_,_,rfl,by unfold small;omega,by unfold small;omega,by unfold small;omega,by unfold small;omega,((((T7.out.putC (p:=⟨w.heap.size,0,none⟩) (Nat.le_refl _) _).putC (p:=⟨w.heap.size,1,none⟩) (Nat.le_refl _) _).putC (p:=⟨w.heap.size,2,none⟩) (Nat.le_refl _) _).putC (p:=⟨w.heap.size,3,none⟩) (Nat.le_refl _) _).push _,((((S7.out.putC (p:=⟨w.heap.size,0,none⟩) HH.out _).putC (p:=⟨w.heap.size,1,none⟩) HH.out _).putC (p:=⟨w.heap.size,2,none⟩) HH.out _).putC (p:=⟨w.heap.size,3,none⟩) HH.out _).alloc _⟩
 ·exact bodyPost_ret (v:=.agg #[.int .i64 o,.int .i64 0,.int .i64 0,.int .i64 0]) (by simp[results,Tryz.results130,go_sem,k0,k1,k2,k3,sz]) rfl ⟨_,_,_,_,rfl,by unfold small;omega,by unfold small;omega,by unfold small;omega,by unfold small;omega,((((T7.out.putC (p:=⟨w.heap.size,0,none⟩) (Nat.le_refl _) _).putC (p:=⟨w.heap.size,1,none⟩) (Nat.le_refl _) _).putC (p:=⟨w.heap.size,2,none⟩) (Nat.le_refl _) _).putC (p:=⟨w.heap.size,3,none⟩) (Nat.le_refl _) _).push _,((((S7.out.putC (p:=⟨w.heap.size,0,none⟩) HH.out _).putC (p:=⟨w.heap.size,1,none⟩) HH.out _).putC (p:=⟨w.heap.size,2,none⟩) HH.out _).putC (p:=⟨w.heap.size,3,none⟩) HH.out _).alloc _⟩
theorem Vb.turn{w w':World}{b q:Nat}{cs:Array Value}{t:TypeId}(h:Vb w q cs t)(k:Turn b w w')(hn:q≠b):Vb w' q cs t:=(k.block q h.lt hn).trans h
theorem ins7_any{w:World}{b k:Nat}{a:Option Addr}{len cap:Nat}{zs:List Int}(s:Src w b k a len cap zs)(hk:k≤40000):
  Calls Tryz.prog 94 #[.pointer (some ⟨b,0,none⟩)] w fun e w'=>∃(o d x i:Int) (k':Nat),e=.returned (.agg #[.int .i64 o,.int .i64 d,.int .i64 x,.int .i64 i])∧Turn b w w'∧Src w' b k' a len cap zs∧k'≤k+10:=by
 have HH:Hid (b<w.heap.size):=s.here
 have s0:=s.alloc (.cells #[.int .i64 0,.int .i64 0,.int .i64 0,.int .i64 0] 43)
 have V0:Hid (Vb (w.alloc (.cells #[.int .i64 0,.int .i64 0,.int .i64 0,.int .i64 0] 43)) w.heap.size #[.int .i64 0,.int .i64 0,.int .i64 0,.int .i64 0] 43):=Vb.new _ _ _
 go_enter Tryz.func94,Tryz.ntmps94
 go_wp2_with fail
 refine(next_any s0 (by omega) _).mono ?_
 rintro e w1⟨v1,rfl,h1, -,t1,s1⟩
 obtain⟨l1,u1⟩:=h1 (by omega)
 clear h1
 go_wp2_with fail
 refine(next_any s1 (by omega) _).mono ?_
 rintro e w2⟨v2,rfl,h2, -,t2,s2⟩
 obtain⟨l2,u2⟩:=h2 (by omega)
 have T2:Hid (Turn b w w2):=(Turn.alloc b w _).trans (t1.trans t2)
 have V2:Hid (Vb w2 w.heap.size #[.int .i64 0,.int .i64 0,.int .i64 0,.int .i64 0] 43):=(V0.out.turn t1 (by have:=HH.out;omega)).turn t2 (by have:=HH.out;omega)
 clear h2 t1 t2 s0 s1 V0
 have hv:v2=0∨v2=1∨v2=2∨v2=3∨v2=4∨v2=5∨v2=6∨v2=7∨v2=8∨v2=9∨v2=10∨v2=11∨v2=12∨v2=13:=by omega
 clear l2 u2
 rcases hv with rfl|rfl|rfl|rfl|rfl|rfl|rfl|rfl|rfl|rfl|rfl|rfl|rfl|rfl
 ·skip
  go_wp2_with fail
  refine(next_any s2 (by omega) _).mono ?_
  rintro e w3⟨v3,rfl,h3, -,t3,s3⟩
  obtain⟨l3,u3⟩:=h3 (by omega)
  have T3:Hid (Turn b w w3):=T2.out.trans t3
  have V3:Hid (Vb w3 w.heap.size #[.int .i64 0,.int .i64 0,.int .i64 0,.int .i64 0] 43):=V2.out.turn t3 (by have:=HH.out;omega)
  clear h3 t3 T2 V2
  go_wp2_with fail
  refine(next_any s3 (by omega) _).mono ?_
  rintro e w4⟨v4,rfl,h4, -,t4,s4⟩
  obtain⟨l4,u4⟩:=h4 (by omega)
  have T4:Hid (Turn b w w4):=T3.out.trans t4
  have V4:Hid (Vb w4 w.heap.size #[.int .i64 0,.int .i64 0,.int .i64 0,.int .i64 0] 43):=V3.out.turn t4 (by have:=HH.out;omega)
  clear h4 t4 T3 V3
  go_wp2_with fail
  refine(next_any s4 (by omega) _).mono ?_
  rintro e w5⟨v5,rfl,h5, -,t5,s5⟩
  obtain⟨l5,u5⟩:=h5 (by omega)
  have T5:Hid (Turn b w w5):=T4.out.trans t5
  have V5:Hid (Vb w5 w.heap.size #[.int .i64 0,.int .i64 0,.int .i64 0,.int .i64 0] 43):=V4.out.turn t5 (by have:=HH.out;omega)
  clear h5 t5 T4 V4
  go_wp2_with fail
  refine(next_any s5 (by omega) _).mono ?_
  rintro e w6⟨v6,rfl,h6, -,t6,s6⟩
  obtain⟨l6,u6⟩:=h6 (by omega)
  have T6:Hid (Turn b w w6):=T5.out.trans t6
  have V6:Hid (Vb w6 w.heap.size #[.int .i64 0,.int .i64 0,.int .i64 0,.int .i64 0] 43):=V5.out.turn t6 (by have:=HH.out;omega)
  clear h6 t6 T5 V5
  go_wp2_with fail
  have hb7:=s6.here
  refine(pick_any (s6.alloc _) (by omega) (fun _=>True) _ 4 (by omega) (by omega) (by simp) (by omega) ?_).mono ?_
  ·intro i hi
   have:i=0∨i=1∨i=2∨i=3:=by omega
   rcases this with rfl|rfl|rfl|rfl
   all_goals exact⟨_,cell_new rfl,trivial⟩
  rintro e w7⟨v7,rfl, -,t7,s7⟩
  have T7:Hid (Turn b w w7):=T6.out.trans ((Turn.alloc b _ _).trans t7)
  have V7:Hid (Vb w7 w.heap.size #[.int .i64 0,.int .i64 0,.int .i64 0,.int .i64 0] 43):=(V6.out.push _).turn t7 (by have:=HH.out;omega)
  clear t7 T6 V6 hb7
  have S7:Hid (Src w7 b _ a len cap zs):=s7
  have k0:=V7.out.cell 0 rfl
  have k1:=V7.out.cell 1 rfl
  have k2:=V7.out.cell 2 rfl
  have k3:=V7.out.cell 3 rfl
  have f0:=V7.out.free 0
  have f1:=V7.out.free 1
  have f2:=V7.out.free 2
  have f3:=V7.out.free 3
  have sz:=V7.out.lt
  clear s2 s3 s4 s5 s6 s7
  go_wp2_with fail
  exact bodyPost_ret (v:=.agg #[.int .i64 (12),.int .i64 (1+v1),.int .i64 (v3),.int .i64 (v7)]) (by simp[results,Tryz.results94,go_sem,k0,k1,k2,k3]) rfl ⟨_,_,_,_,_,rfl,(((T7.out.putC (p:=⟨w.heap.size,0,none⟩) (Nat.le_refl _) _).putC (p:=⟨w.heap.size,1,none⟩) (Nat.le_refl _) _).putC (p:=⟨w.heap.size,2,none⟩) (Nat.le_refl _) _).putC (p:=⟨w.heap.size,3,none⟩) (Nat.le_refl _) _,(((S7.out.putC (p:=⟨w.heap.size,0,none⟩) HH.out _).putC (p:=⟨w.heap.size,1,none⟩) HH.out _).putC (p:=⟨w.heap.size,2,none⟩) HH.out _).putC (p:=⟨w.heap.size,3,none⟩) HH.out _,by omega⟩
 ·skip
  go_wp2_with fail
  refine(next_any s2 (by omega) _).mono ?_
  rintro e w3⟨v3,rfl,h3, -,t3,s3⟩
  obtain⟨l3,u3⟩:=h3 (by omega)
  have T3:Hid (Turn b w w3):=T2.out.trans t3
  have V3:Hid (Vb w3 w.heap.size #[.int .i64 0,.int .i64 0,.int .i64 0,.int .i64 0] 43):=V2.out.turn t3 (by have:=HH.out;omega)
  clear h3 t3 T2 V2
  go_wp2_with fail
  refine(next_any s3 (by omega) _).mono ?_
  rintro e w4⟨v4,rfl,h4, -,t4,s4⟩
  obtain⟨l4,u4⟩:=h4 (by omega)
  have T4:Hid (Turn b w w4):=T3.out.trans t4
  have V4:Hid (Vb w4 w.heap.size #[.int .i64 0,.int .i64 0,.int .i64 0,.int .i64 0] 43):=V3.out.turn t4 (by have:=HH.out;omega)
  clear h4 t4 T3 V3
  go_wp2_with fail
  refine(next_any s4 (by omega) _).mono ?_
  rintro e w5⟨v5,rfl,h5, -,t5,s5⟩
  obtain⟨l5,u5⟩:=h5 (by omega)
  have T5:Hid (Turn b w w5):=T4.out.trans t5
  have V5:Hid (Vb w5 w.heap.size #[.int .i64 0,.int .i64 0,.int .i64 0,.int .i64 0] 43):=V4.out.turn t5 (by have:=HH.out;omega)
  clear h5 t5 T4 V4
  go_wp2_with fail
  refine(next_any s5 (by omega) _).mono ?_
  rintro e w6⟨v6,rfl,h6, -,t6,s6⟩
  obtain⟨l6,u6⟩:=h6 (by omega)
  have T6:Hid (Turn b w w6):=T5.out.trans t6
  have V6:Hid (Vb w6 w.heap.size #[.int .i64 0,.int .i64 0,.int .i64 0,.int .i64 0] 43):=V5.out.turn t6 (by have:=HH.out;omega)
  clear h6 t6 T5 V5
  go_wp2_with fail
  have hb7:=s6.here
  refine(pick_any (s6.alloc _) (by omega) (fun _=>True) _ 4 (by omega) (by omega) (by simp) (by omega) ?_).mono ?_
  ·intro i hi
   have:i=0∨i=1∨i=2∨i=3:=by omega
   rcases this with rfl|rfl|rfl|rfl
   all_goals exact⟨_,cell_new rfl,trivial⟩
  rintro e w7⟨v7,rfl, -,t7,s7⟩
  have T7:Hid (Turn b w w7):=T6.out.trans ((Turn.alloc b _ _).trans t7)
  have V7:Hid (Vb w7 w.heap.size #[.int .i64 0,.int .i64 0,.int .i64 0,.int .i64 0] 43):=(V6.out.push _).turn t7 (by have:=HH.out;omega)
  clear t7 T6 V6 hb7
  have S7:Hid (Src w7 b _ a len cap zs):=s7
  have k0:=V7.out.cell 0 rfl
  have k1:=V7.out.cell 1 rfl
  have k2:=V7.out.cell 2 rfl
  have k3:=V7.out.cell 3 rfl
  have f0:=V7.out.free 0
  have f1:=V7.out.free 1
  have f2:=V7.out.free 2
  have f3:=V7.out.free 3
  have sz:=V7.out.lt
  clear s2 s3 s4 s5 s6 s7
  go_wp2_with fail
  exact bodyPost_ret (v:=.agg #[.int .i64 (12),.int .i64 (1+v1),.int .i64 (v3),.int .i64 (v7)]) (by simp[results,Tryz.results94,go_sem,k0,k1,k2,k3]) rfl ⟨_,_,_,_,_,rfl,(((T7.out.putC (p:=⟨w.heap.size,0,none⟩) (Nat.le_refl _) _).putC (p:=⟨w.heap.size,1,none⟩) (Nat.le_refl _) _).putC (p:=⟨w.heap.size,2,none⟩) (Nat.le_refl _) _).putC (p:=⟨w.heap.size,3,none⟩) (Nat.le_refl _) _,(((S7.out.putC (p:=⟨w.heap.size,0,none⟩) HH.out _).putC (p:=⟨w.heap.size,1,none⟩) HH.out _).putC (p:=⟨w.heap.size,2,none⟩) HH.out _).putC (p:=⟨w.heap.size,3,none⟩) HH.out _,by omega⟩
 ·skip
  go_wp2_with fail
  refine(next_any s2 (by omega) _).mono ?_
  rintro e w3⟨v3,rfl,h3, -,t3,s3⟩
  obtain⟨l3,u3⟩:=h3 (by omega)
  have T3:Hid (Turn b w w3):=T2.out.trans t3
  have V3:Hid (Vb w3 w.heap.size #[.int .i64 0,.int .i64 0,.int .i64 0,.int .i64 0] 43):=V2.out.turn t3 (by have:=HH.out;omega)
  clear h3 t3 T2 V2
  go_wp2_with fail
  refine(next_any s3 (by omega) _).mono ?_
  rintro e w4⟨v4,rfl,h4, -,t4,s4⟩
  obtain⟨l4,u4⟩:=h4 (by omega)
  have T4:Hid (Turn b w w4):=T3.out.trans t4
  have V4:Hid (Vb w4 w.heap.size #[.int .i64 0,.int .i64 0,.int .i64 0,.int .i64 0] 43):=V3.out.turn t4 (by have:=HH.out;omega)
  clear h4 t4 T3 V3
  go_wp2_with fail
  refine(next_any s4 (by omega) _).mono ?_
  rintro e w5⟨v5,rfl,h5, -,t5,s5⟩
  obtain⟨l5,u5⟩:=h5 (by omega)
  have T5:Hid (Turn b w w5):=T4.out.trans t5
  have V5:Hid (Vb w5 w.heap.size #[.int .i64 0,.int .i64 0,.int .i64 0,.int .i64 0] 43):=V4.out.turn t5 (by have:=HH.out;omega)
  clear h5 t5 T4 V4
  go_wp2_with fail
  refine(next_any s5 (by omega) _).mono ?_
  rintro e w6⟨v6,rfl,h6, -,t6,s6⟩
  obtain⟨l6,u6⟩:=h6 (by omega)
  have T6:Hid (Turn b w w6):=T5.out.trans t6
  have V6:Hid (Vb w6 w.heap.size #[.int .i64 0,.int .i64 0,.int .i64 0,.int .i64 0] 43):=V5.out.turn t6 (by have:=HH.out;omega)
  clear h6 t6 T5 V5
  go_wp2_with fail
  have hb7:=s6.here
  refine(pick_any (s6.alloc _) (by omega) (fun _=>True) _ 4 (by omega) (by omega) (by simp) (by omega) ?_).mono ?_
  ·intro i hi
   have:i=0∨i=1∨i=2∨i=3:=by omega
   rcases this with rfl|rfl|rfl|rfl
   all_goals exact⟨_,cell_new rfl,trivial⟩
  rintro e w7⟨v7,rfl, -,t7,s7⟩
  have T7:Hid (Turn b w w7):=T6.out.trans ((Turn.alloc b _ _).trans t7)
  have V7:Hid (Vb w7 w.heap.size #[.int .i64 0,.int .i64 0,.int .i64 0,.int .i64 0] 43):=(V6.out.push _).turn t7 (by have:=HH.out;omega)
  clear t7 T6 V6 hb7
  have S7:Hid (Src w7 b _ a len cap zs):=s7
  have k0:=V7.out.cell 0 rfl
  have k1:=V7.out.cell 1 rfl
  have k2:=V7.out.cell 2 rfl
  have k3:=V7.out.cell 3 rfl
  have f0:=V7.out.free 0
  have f1:=V7.out.free 1
  have f2:=V7.out.free 2
  have f3:=V7.out.free 3
  have sz:=V7.out.lt
  clear s2 s3 s4 s5 s6 s7
  go_wp2_with fail
  exact bodyPost_ret (v:=.agg #[.int .i64 (12),.int .i64 (1+v1),.int .i64 (v3),.int .i64 (v7)]) (by simp[results,Tryz.results94,go_sem,k0,k1,k2,k3]) rfl ⟨_,_,_,_,_,rfl,(((T7.out.putC (p:=⟨w.heap.size,0,none⟩) (Nat.le_refl _) _).putC (p:=⟨w.heap.size,1,none⟩) (Nat.le_refl _) _).putC (p:=⟨w.heap.size,2,none⟩) (Nat.le_refl _) _).putC (p:=⟨w.heap.size,3,none⟩) (Nat.le_refl _) _,(((S7.out.putC (p:=⟨w.heap.size,0,none⟩) HH.out _).putC (p:=⟨w.heap.size,1,none⟩) HH.out _).putC (p:=⟨w.heap.size,2,none⟩) HH.out _).putC (p:=⟨w.heap.size,3,none⟩) HH.out _,by omega⟩
 ·skip
  go_wp2_with fail
  refine(next_any s2 (by omega) _).mono ?_
  rintro e w3⟨v3,rfl,h3, -,t3,s3⟩
  obtain⟨l3,u3⟩:=h3 (by omega)
  have T3:Hid (Turn b w w3):=T2.out.trans t3
  have V3:Hid (Vb w3 w.heap.size #[.int .i64 0,.int .i64 0,.int .i64 0,.int .i64 0] 43):=V2.out.turn t3 (by have:=HH.out;omega)
  clear h3 t3 T2 V2
  go_wp2_with fail
  refine(next_any s3 (by omega) _).mono ?_
  rintro e w4⟨v4,rfl,h4, -,t4,s4⟩
  obtain⟨l4,u4⟩:=h4 (by omega)
  have T4:Hid (Turn b w w4):=T3.out.trans t4
  have V4:Hid (Vb w4 w.heap.size #[.int .i64 0,.int .i64 0,.int .i64 0,.int .i64 0] 43):=V3.out.turn t4 (by have:=HH.out;omega)
  clear h4 t4 T3 V3
  go_wp2_with fail
  refine(next_any s4 (by omega) _).mono ?_
  rintro e w5⟨v5,rfl,h5, -,t5,s5⟩
  obtain⟨l5,u5⟩:=h5 (by omega)
  have T5:Hid (Turn b w w5):=T4.out.trans t5
  have V5:Hid (Vb w5 w.heap.size #[.int .i64 0,.int .i64 0,.int .i64 0,.int .i64 0] 43):=V4.out.turn t5 (by have:=HH.out;omega)
  clear h5 t5 T4 V4
  have S5:Hid (Src w5 b _ a len cap zs):=s5
  have k0:=V5.out.cell 0 rfl
  have k1:=V5.out.cell 1 rfl
  have k2:=V5.out.cell 2 rfl
  have k3:=V5.out.cell 3 rfl
  have f0:=V5.out.free 0
  have f1:=V5.out.free 1
  have f2:=V5.out.free 2
  have f3:=V5.out.free 3
  have sz:=V5.out.lt
  clear s2 s3 s4 s5
  go_wp2_with fail
  exact bodyPost_ret (v:=.agg #[.int .i64 (1+v3),.int .i64 (1+v1),.int .i64 (v4),.int .i64 (v5)]) (by simp[results,Tryz.results94,go_sem,k0,k1,k2,k3]) rfl ⟨_,_,_,_,_,rfl,(((T5.out.putC (p:=⟨w.heap.size,0,none⟩) (Nat.le_refl _) _).putC (p:=⟨w.heap.size,1,none⟩) (Nat.le_refl _) _).putC (p:=⟨w.heap.size,2,none⟩) (Nat.le_refl _) _).putC (p:=⟨w.heap.size,3,none⟩) (Nat.le_refl _) _,(((S5.out.putC (p:=⟨w.heap.size,0,none⟩) HH.out _).putC (p:=⟨w.heap.size,1,none⟩) HH.out _).putC (p:=⟨w.heap.size,2,none⟩) HH.out _).putC (p:=⟨w.heap.size,3,none⟩) HH.out _,by omega⟩
 ·skip
  go_wp2_with fail
  refine(next_any s2 (by omega) _).mono ?_
  rintro e w3⟨v3,rfl,h3, -,t3,s3⟩
  obtain⟨l3,u3⟩:=h3 (by omega)
  have T3:Hid (Turn b w w3):=T2.out.trans t3
  have V3:Hid (Vb w3 w.heap.size #[.int .i64 0,.int .i64 0,.int .i64 0,.int .i64 0] 43):=V2.out.turn t3 (by have:=HH.out;omega)
  clear h3 t3 T2 V2
  go_wp2_with fail
  refine(next_any s3 (by omega) _).mono ?_
  rintro e w4⟨v4,rfl,h4, -,t4,s4⟩
  obtain⟨l4,u4⟩:=h4 (by omega)
  have T4:Hid (Turn b w w4):=T3.out.trans t4
  have V4:Hid (Vb w4 w.heap.size #[.int .i64 0,.int .i64 0,.int .i64 0,.int .i64 0] 43):=V3.out.turn t4 (by have:=HH.out;omega)
  clear h4 t4 T3 V3
  go_wp2_with fail
  refine(next_any s4 (by omega) _).mono ?_
  rintro e w5⟨v5,rfl,h5, -,t5,s5⟩
  obtain⟨l5,u5⟩:=h5 (by omega)
  have T5:Hid (Turn b w w5):=T4.out.trans t5
  have V5:Hid (Vb w5 w.heap.size #[.int .i64 0,.int .i64 0,.int .i64 0,.int .i64 0] 43):=V4.out.turn t5 (by have:=HH.out;omega)
  clear h5 t5 T4 V4
  go_wp2_with fail
  refine(next_any s5 (by omega) _).mono ?_
  rintro e w6⟨v6,rfl,h6, -,t6,s6⟩
  obtain⟨l6,u6⟩:=h6 (by omega)
  have T6:Hid (Turn b w w6):=T5.out.trans t6
  have V6:Hid (Vb w6 w.heap.size #[.int .i64 0,.int .i64 0,.int .i64 0,.int .i64 0] 43):=V5.out.turn t6 (by have:=HH.out;omega)
  clear h6 t6 T5 V5
  go_wp2_with fail
  have hb7:=s6.here
  refine(pick_any (s6.alloc _) (by omega) (fun _=>True) _ 3 (by omega) (by omega) (by simp) (by omega) ?_).mono ?_
  ·intro i hi
   have:i=0∨i=1∨i=2:=by omega
   rcases this with rfl|rfl|rfl
   all_goals exact⟨_,cell_new rfl,trivial⟩
  rintro e w7⟨v7,rfl, -,t7,s7⟩
  have T7:Hid (Turn b w w7):=T6.out.trans ((Turn.alloc b _ _).trans t7)
  have V7:Hid (Vb w7 w.heap.size #[.int .i64 0,.int .i64 0,.int .i64 0,.int .i64 0] 43):=(V6.out.push _).turn t7 (by have:=HH.out;omega)
  clear t7 T6 V6 hb7
  have S7:Hid (Src w7 b _ a len cap zs):=s7
  have k0:=V7.out.cell 0 rfl
  have k1:=V7.out.cell 1 rfl
  have k2:=V7.out.cell 2 rfl
  have k3:=V7.out.cell 3 rfl
  have f0:=V7.out.free 0
  have f1:=V7.out.free 1
  have f2:=V7.out.free 2
  have f3:=V7.out.free 3
  have sz:=V7.out.lt
  clear s2 s3 s4 s5 s6 s7
  go_wp2_with fail
  exact bodyPost_ret (v:=.agg #[.int .i64 (15),.int .i64 (1+v1),.int .i64 (v3),.int .i64 (v7)]) (by simp[results,Tryz.results94,go_sem,k0,k1,k2,k3]) rfl ⟨_,_,_,_,_,rfl,(((T7.out.putC (p:=⟨w.heap.size,0,none⟩) (Nat.le_refl _) _).putC (p:=⟨w.heap.size,1,none⟩) (Nat.le_refl _) _).putC (p:=⟨w.heap.size,2,none⟩) (Nat.le_refl _) _).putC (p:=⟨w.heap.size,3,none⟩) (Nat.le_refl _) _,(((S7.out.putC (p:=⟨w.heap.size,0,none⟩) HH.out _).putC (p:=⟨w.heap.size,1,none⟩) HH.out _).putC (p:=⟨w.heap.size,2,none⟩) HH.out _).putC (p:=⟨w.heap.size,3,none⟩) HH.out _,by omega⟩
 ·skip
  go_wp2_with fail
  refine(next_any s2 (by omega) _).mono ?_
  rintro e w3⟨v3,rfl,h3, -,t3,s3⟩
  obtain⟨l3,u3⟩:=h3 (by omega)
  have T3:Hid (Turn b w w3):=T2.out.trans t3
  have V3:Hid (Vb w3 w.heap.size #[.int .i64 0,.int .i64 0,.int .i64 0,.int .i64 0] 43):=V2.out.turn t3 (by have:=HH.out;omega)
  clear h3 t3 T2 V2
  go_wp2_with fail
  refine(next_any s3 (by omega) _).mono ?_
  rintro e w4⟨v4,rfl,h4, -,t4,s4⟩
  obtain⟨l4,u4⟩:=h4 (by omega)
  have T4:Hid (Turn b w w4):=T3.out.trans t4
  have V4:Hid (Vb w4 w.heap.size #[.int .i64 0,.int .i64 0,.int .i64 0,.int .i64 0] 43):=V3.out.turn t4 (by have:=HH.out;omega)
  clear h4 t4 T3 V3
  go_wp2_with fail
  refine(next_any s4 (by omega) _).mono ?_
  rintro e w5⟨v5,rfl,h5, -,t5,s5⟩
  obtain⟨l5,u5⟩:=h5 (by omega)
  have T5:Hid (Turn b w w5):=T4.out.trans t5
  have V5:Hid (Vb w5 w.heap.size #[.int .i64 0,.int .i64 0,.int .i64 0,.int .i64 0] 43):=V4.out.turn t5 (by have:=HH.out;omega)
  clear h5 t5 T4 V4
  go_wp2_with fail
  refine(next_any s5 (by omega) _).mono ?_
  rintro e w6⟨v6,rfl,h6, -,t6,s6⟩
  obtain⟨l6,u6⟩:=h6 (by omega)
  have T6:Hid (Turn b w w6):=T5.out.trans t6
  have V6:Hid (Vb w6 w.heap.size #[.int .i64 0,.int .i64 0,.int .i64 0,.int .i64 0] 43):=V5.out.turn t6 (by have:=HH.out;omega)
  clear h6 t6 T5 V5
  go_wp2_with fail
  have hb7:=s6.here
  refine(pick_any (s6.alloc _) (by omega) (fun _=>True) _ 3 (by omega) (by omega) (by simp) (by omega) ?_).mono ?_
  ·intro i hi
   have:i=0∨i=1∨i=2:=by omega
   rcases this with rfl|rfl|rfl
   all_goals exact⟨_,cell_new rfl,trivial⟩
  rintro e w7⟨v7,rfl, -,t7,s7⟩
  have T7:Hid (Turn b w w7):=T6.out.trans ((Turn.alloc b _ _).trans t7)
  have V7:Hid (Vb w7 w.heap.size #[.int .i64 0,.int .i64 0,.int .i64 0,.int .i64 0] 43):=(V6.out.push _).turn t7 (by have:=HH.out;omega)
  clear t7 T6 V6 hb7
  have S7:Hid (Src w7 b _ a len cap zs):=s7
  have k0:=V7.out.cell 0 rfl
  have k1:=V7.out.cell 1 rfl
  have k2:=V7.out.cell 2 rfl
  have k3:=V7.out.cell 3 rfl
  have f0:=V7.out.free 0
  have f1:=V7.out.free 1
  have f2:=V7.out.free 2
  have f3:=V7.out.free 3
  have sz:=V7.out.lt
  clear s2 s3 s4 s5 s6 s7
  go_wp2_with fail
  exact bodyPost_ret (v:=.agg #[.int .i64 (15),.int .i64 (1+v1),.int .i64 (v3),.int .i64 (v7)]) (by simp[results,Tryz.results94,go_sem,k0,k1,k2,k3]) rfl ⟨_,_,_,_,_,rfl,(((T7.out.putC (p:=⟨w.heap.size,0,none⟩) (Nat.le_refl _) _).putC (p:=⟨w.heap.size,1,none⟩) (Nat.le_refl _) _).putC (p:=⟨w.heap.size,2,none⟩) (Nat.le_refl _) _).putC (p:=⟨w.heap.size,3,none⟩) (Nat.le_refl _) _,(((S7.out.putC (p:=⟨w.heap.size,0,none⟩) HH.out _).putC (p:=⟨w.heap.size,1,none⟩) HH.out _).putC (p:=⟨w.heap.size,2,none⟩) HH.out _).putC (p:=⟨w.heap.size,3,none⟩) HH.out _,by omega⟩
 ·skip
  go_wp2_with fail
  refine(next_any s2 (by omega) _).mono ?_
  rintro e w3⟨v3,rfl,h3, -,t3,s3⟩
  obtain⟨l3,u3⟩:=h3 (by omega)
  have T3:Hid (Turn b w w3):=T2.out.trans t3
  have V3:Hid (Vb w3 w.heap.size #[.int .i64 0,.int .i64 0,.int .i64 0,.int .i64 0] 43):=V2.out.turn t3 (by have:=HH.out;omega)
  clear h3 t3 T2 V2
  go_wp2_with fail
  refine(next_any s3 (by omega) _).mono ?_
  rintro e w4⟨v4,rfl,h4, -,t4,s4⟩
  obtain⟨l4,u4⟩:=h4 (by omega)
  have T4:Hid (Turn b w w4):=T3.out.trans t4
  have V4:Hid (Vb w4 w.heap.size #[.int .i64 0,.int .i64 0,.int .i64 0,.int .i64 0] 43):=V3.out.turn t4 (by have:=HH.out;omega)
  clear h4 t4 T3 V3
  go_wp2_with fail
  refine(next_any s4 (by omega) _).mono ?_
  rintro e w5⟨v5,rfl,h5, -,t5,s5⟩
  obtain⟨l5,u5⟩:=h5 (by omega)
  have T5:Hid (Turn b w w5):=T4.out.trans t5
  have V5:Hid (Vb w5 w.heap.size #[.int .i64 0,.int .i64 0,.int .i64 0,.int .i64 0] 43):=V4.out.turn t5 (by have:=HH.out;omega)
  clear h5 t5 T4 V4
  go_wp2_with fail
  refine(next_any s5 (by omega) _).mono ?_
  rintro e w6⟨v6,rfl,h6, -,t6,s6⟩
  obtain⟨l6,u6⟩:=h6 (by omega)
  have T6:Hid (Turn b w w6):=T5.out.trans t6
  have V6:Hid (Vb w6 w.heap.size #[.int .i64 0,.int .i64 0,.int .i64 0,.int .i64 0] 43):=V5.out.turn t6 (by have:=HH.out;omega)
  clear h6 t6 T5 V5
  go_wp2_with fail
  have hb7:=s6.here
  refine(pick_any (s6.alloc _) (by omega) (fun _=>True) _ 3 (by omega) (by omega) (by simp) (by omega) ?_).mono ?_
  ·intro i hi
   have:i=0∨i=1∨i=2:=by omega
   rcases this with rfl|rfl|rfl
   all_goals exact⟨_,cell_new rfl,trivial⟩
  rintro e w7⟨v7,rfl, -,t7,s7⟩
  have T7:Hid (Turn b w w7):=T6.out.trans ((Turn.alloc b _ _).trans t7)
  have V7:Hid (Vb w7 w.heap.size #[.int .i64 0,.int .i64 0,.int .i64 0,.int .i64 0] 43):=(V6.out.push _).turn t7 (by have:=HH.out;omega)
  clear t7 T6 V6 hb7
  have S7:Hid (Src w7 b _ a len cap zs):=s7
  have k0:=V7.out.cell 0 rfl
  have k1:=V7.out.cell 1 rfl
  have k2:=V7.out.cell 2 rfl
  have k3:=V7.out.cell 3 rfl
  have f0:=V7.out.free 0
  have f1:=V7.out.free 1
  have f2:=V7.out.free 2
  have f3:=V7.out.free 3
  have sz:=V7.out.lt
  clear s2 s3 s4 s5 s6 s7
  go_wp2_with fail
  exact bodyPost_ret (v:=.agg #[.int .i64 (14),.int .i64 (1+v1),.int .i64 (v3),.int .i64 (v7)]) (by simp[results,Tryz.results94,go_sem,k0,k1,k2,k3]) rfl ⟨_,_,_,_,_,rfl,(((T7.out.putC (p:=⟨w.heap.size,0,none⟩) (Nat.le_refl _) _).putC (p:=⟨w.heap.size,1,none⟩) (Nat.le_refl _) _).putC (p:=⟨w.heap.size,2,none⟩) (Nat.le_refl _) _).putC (p:=⟨w.heap.size,3,none⟩) (Nat.le_refl _) _,(((S7.out.putC (p:=⟨w.heap.size,0,none⟩) HH.out _).putC (p:=⟨w.heap.size,1,none⟩) HH.out _).putC (p:=⟨w.heap.size,2,none⟩) HH.out _).putC (p:=⟨w.heap.size,3,none⟩) HH.out _,by omega⟩
 ·skip
  go_wp2_with fail
  refine(next_any s2 (by omega) _).mono ?_
  rintro e w3⟨v3,rfl,h3, -,t3,s3⟩
  obtain⟨l3,u3⟩:=h3 (by omega)
  have T3:Hid (Turn b w w3):=T2.out.trans t3
  have V3:Hid (Vb w3 w.heap.size #[.int .i64 0,.int .i64 0,.int .i64 0,.int .i64 0] 43):=V2.out.turn t3 (by have:=HH.out;omega)
  clear h3 t3 T2 V2
  go_wp2_with fail
  refine(next_any s3 (by omega) _).mono ?_
  rintro e w4⟨v4,rfl,h4, -,t4,s4⟩
  obtain⟨l4,u4⟩:=h4 (by omega)
  have T4:Hid (Turn b w w4):=T3.out.trans t4
  have V4:Hid (Vb w4 w.heap.size #[.int .i64 0,.int .i64 0,.int .i64 0,.int .i64 0] 43):=V3.out.turn t4 (by have:=HH.out;omega)
  clear h4 t4 T3 V3
  go_wp2_with fail
  refine(next_any s4 (by omega) _).mono ?_
  rintro e w5⟨v5,rfl,h5, -,t5,s5⟩
  obtain⟨l5,u5⟩:=h5 (by omega)
  have T5:Hid (Turn b w w5):=T4.out.trans t5
  have V5:Hid (Vb w5 w.heap.size #[.int .i64 0,.int .i64 0,.int .i64 0,.int .i64 0] 43):=V4.out.turn t5 (by have:=HH.out;omega)
  clear h5 t5 T4 V4
  go_wp2_with fail
  refine(next_any s5 (by omega) _).mono ?_
  rintro e w6⟨v6,rfl,h6, -,t6,s6⟩
  obtain⟨l6,u6⟩:=h6 (by omega)
  have T6:Hid (Turn b w w6):=T5.out.trans t6
  have V6:Hid (Vb w6 w.heap.size #[.int .i64 0,.int .i64 0,.int .i64 0,.int .i64 0] 43):=V5.out.turn t6 (by have:=HH.out;omega)
  clear h6 t6 T5 V5
  go_wp2_with fail
  have hb7:=s6.here
  refine(pick_any (s6.alloc _) (by omega) (fun _=>True) _ 3 (by omega) (by omega) (by simp) (by omega) ?_).mono ?_
  ·intro i hi
   have:i=0∨i=1∨i=2:=by omega
   rcases this with rfl|rfl|rfl
   all_goals exact⟨_,cell_new rfl,trivial⟩
  rintro e w7⟨v7,rfl, -,t7,s7⟩
  have T7:Hid (Turn b w w7):=T6.out.trans ((Turn.alloc b _ _).trans t7)
  have V7:Hid (Vb w7 w.heap.size #[.int .i64 0,.int .i64 0,.int .i64 0,.int .i64 0] 43):=(V6.out.push _).turn t7 (by have:=HH.out;omega)
  clear t7 T6 V6 hb7
  have S7:Hid (Src w7 b _ a len cap zs):=s7
  have k0:=V7.out.cell 0 rfl
  have k1:=V7.out.cell 1 rfl
  have k2:=V7.out.cell 2 rfl
  have k3:=V7.out.cell 3 rfl
  have f0:=V7.out.free 0
  have f1:=V7.out.free 1
  have f2:=V7.out.free 2
  have f3:=V7.out.free 3
  have sz:=V7.out.lt
  clear s2 s3 s4 s5 s6 s7
  go_wp2_with fail
  exact bodyPost_ret (v:=.agg #[.int .i64 (14),.int .i64 (1+v1),.int .i64 (v3),.int .i64 (v7)]) (by simp[results,Tryz.results94,go_sem,k0,k1,k2,k3]) rfl ⟨_,_,_,_,_,rfl,(((T7.out.putC (p:=⟨w.heap.size,0,none⟩) (Nat.le_refl _) _).putC (p:=⟨w.heap.size,1,none⟩) (Nat.le_refl _) _).putC (p:=⟨w.heap.size,2,none⟩) (Nat.le_refl _) _).putC (p:=⟨w.heap.size,3,none⟩) (Nat.le_refl _) _,(((S7.out.putC (p:=⟨w.heap.size,0,none⟩) HH.out _).putC (p:=⟨w.heap.size,1,none⟩) HH.out _).putC (p:=⟨w.heap.size,2,none⟩) HH.out _).putC (p:=⟨w.heap.size,3,none⟩) HH.out _,by omega⟩
 ·skip
  go_wp2_with fail
  have hb3:=s2.here
  refine(pick_any (s2.alloc _) (by omega) (fun _=>True) _ 3 (by omega) (by omega) (by simp) (by omega) ?_).mono ?_
  ·intro i hi
   have:i=0∨i=1∨i=2:=by omega
   rcases this with rfl|rfl|rfl
   all_goals exact⟨_,cell_new rfl,trivial⟩
  rintro e w3⟨v3,rfl, -,t3,s3⟩
  have T3:Hid (Turn b w w3):=T2.out.trans ((Turn.alloc b _ _).trans t3)
  have V3:Hid (Vb w3 w.heap.size #[.int .i64 0,.int .i64 0,.int .i64 0,.int .i64 0] 43):=(V2.out.push _).turn t3 (by have:=HH.out;omega)
  clear t3 T2 V2 hb3
  go_wp2_with fail
  refine(next_any s3 (by omega) _).mono ?_
  rintro e w4⟨v4,rfl,h4, -,t4,s4⟩
  obtain⟨l4,u4⟩:=h4 (by omega)
  have T4:Hid (Turn b w w4):=T3.out.trans t4
  have V4:Hid (Vb w4 w.heap.size #[.int .i64 0,.int .i64 0,.int .i64 0,.int .i64 0] 43):=V3.out.turn t4 (by have:=HH.out;omega)
  clear h4 t4 T3 V3
  go_wp2_with fail
  have hb5:=s4.here
  refine(pick_any (s4.alloc _) (by omega) (fun _=>True) _ 4 (by omega) (by omega) (by simp) (by omega) ?_).mono ?_
  ·intro i hi
   have:i=0∨i=1∨i=2∨i=3:=by omega
   rcases this with rfl|rfl|rfl|rfl
   all_goals exact⟨_,cell_new rfl,trivial⟩
  rintro e w5⟨v5,rfl, -,t5,s5⟩
  have T5:Hid (Turn b w w5):=T4.out.trans ((Turn.alloc b _ _).trans t5)
  have V5:Hid (Vb w5 w.heap.size #[.int .i64 0,.int .i64 0,.int .i64 0,.int .i64 0] 43):=(V4.out.push _).turn t5 (by have:=HH.out;omega)
  clear t5 T4 V4 hb5
  have S5:Hid (Src w5 b _ a len cap zs):=s5
  have k0:=V5.out.cell 0 rfl
  have k1:=V5.out.cell 1 rfl
  have k2:=V5.out.cell 2 rfl
  have k3:=V5.out.cell 3 rfl
  have f0:=V5.out.free 0
  have f1:=V5.out.free 1
  have f2:=V5.out.free 2
  have f3:=V5.out.free 3
  have sz:=V5.out.lt
  clear s2 s3 s4 s5
  go_wp2_with fail
  exact bodyPost_ret (v:=.agg #[.int .i64 (v3),.int .i64 (1+v1),.int .i64 (v4),.int .i64 (v5)]) (by simp[results,Tryz.results94,go_sem,k0,k1,k2,k3]) rfl ⟨_,_,_,_,_,rfl,(((T5.out.putC (p:=⟨w.heap.size,0,none⟩) (Nat.le_refl _) _).putC (p:=⟨w.heap.size,1,none⟩) (Nat.le_refl _) _).putC (p:=⟨w.heap.size,2,none⟩) (Nat.le_refl _) _).putC (p:=⟨w.heap.size,3,none⟩) (Nat.le_refl _) _,(((S5.out.putC (p:=⟨w.heap.size,0,none⟩) HH.out _).putC (p:=⟨w.heap.size,1,none⟩) HH.out _).putC (p:=⟨w.heap.size,2,none⟩) HH.out _).putC (p:=⟨w.heap.size,3,none⟩) HH.out _,by omega⟩
 ·skip
  go_wp2_with fail
  have hb3:=s2.here
  refine(pick_any (s2.alloc _) (by omega) (fun _=>True) _ 7 (by omega) (by omega) (by simp) (by omega) ?_).mono ?_
  ·intro i hi
   have:i=0∨i=1∨i=2∨i=3∨i=4∨i=5∨i=6:=by omega
   rcases this with rfl|rfl|rfl|rfl|rfl|rfl|rfl
   all_goals exact⟨_,cell_new rfl,trivial⟩
  rintro e w3⟨v3,rfl, -,t3,s3⟩
  have T3:Hid (Turn b w w3):=T2.out.trans ((Turn.alloc b _ _).trans t3)
  have V3:Hid (Vb w3 w.heap.size #[.int .i64 0,.int .i64 0,.int .i64 0,.int .i64 0] 43):=(V2.out.push _).turn t3 (by have:=HH.out;omega)
  clear t3 T2 V2 hb3
  have S3:Hid (Src w3 b _ a len cap zs):=s3
  have k0:=V3.out.cell 0 rfl
  have k1:=V3.out.cell 1 rfl
  have k2:=V3.out.cell 2 rfl
  have k3:=V3.out.cell 3 rfl
  have f0:=V3.out.free 0
  have f1:=V3.out.free 1
  have f2:=V3.out.free 2
  have f3:=V3.out.free 3
  have sz:=V3.out.lt
  clear s2 s3
  go_wp2_with fail
  exact bodyPost_ret (v:=.agg #[.int .i64 (22),.int .i64 (0),.int .i64 (1+v1),.int .i64 (v3)]) (by simp[results,Tryz.results94,go_sem,k0,k1,k2,k3]) rfl ⟨_,_,_,_,_,rfl,(((T3.out.putC (p:=⟨w.heap.size,0,none⟩) (Nat.le_refl _) _).putC (p:=⟨w.heap.size,1,none⟩) (Nat.le_refl _) _).putC (p:=⟨w.heap.size,2,none⟩) (Nat.le_refl _) _).putC (p:=⟨w.heap.size,3,none⟩) (Nat.le_refl _) _,(((S3.out.putC (p:=⟨w.heap.size,0,none⟩) HH.out _).putC (p:=⟨w.heap.size,1,none⟩) HH.out _).putC (p:=⟨w.heap.size,2,none⟩) HH.out _).putC (p:=⟨w.heap.size,3,none⟩) HH.out _,by omega⟩
 ·skip
  go_wp2_with fail
  refine(next_any s2 (by omega) _).mono ?_
  rintro e w3⟨v3,rfl,h3, -,t3,s3⟩
  obtain⟨l3,u3⟩:=h3 (by omega)
  have T3:Hid (Turn b w w3):=T2.out.trans t3
  have V3:Hid (Vb w3 w.heap.size #[.int .i64 0,.int .i64 0,.int .i64 0,.int .i64 0] 43):=V2.out.turn t3 (by have:=HH.out;omega)
  clear h3 t3 T2 V2
  have S3:Hid (Src w3 b _ a len cap zs):=s3
  have k0:=V3.out.cell 0 rfl
  have k1:=V3.out.cell 1 rfl
  have k2:=V3.out.cell 2 rfl
  have k3:=V3.out.cell 3 rfl
  have f0:=V3.out.free 0
  have f1:=V3.out.free 1
  have f2:=V3.out.free 2
  have f3:=V3.out.free 3
  have sz:=V3.out.lt
  clear s2 s3
  go_wp2_with fail
  exact bodyPost_ret (v:=.agg #[.int .i64 (21),.int .i64 (1+v1),.int .i64 (0),.int .i64 (v3)]) (by simp[results,Tryz.results94,go_sem,k0,k1,k2,k3]) rfl ⟨_,_,_,_,_,rfl,(((T3.out.putC (p:=⟨w.heap.size,0,none⟩) (Nat.le_refl _) _).putC (p:=⟨w.heap.size,1,none⟩) (Nat.le_refl _) _).putC (p:=⟨w.heap.size,2,none⟩) (Nat.le_refl _) _).putC (p:=⟨w.heap.size,3,none⟩) (Nat.le_refl _) _,(((S3.out.putC (p:=⟨w.heap.size,0,none⟩) HH.out _).putC (p:=⟨w.heap.size,1,none⟩) HH.out _).putC (p:=⟨w.heap.size,2,none⟩) HH.out _).putC (p:=⟨w.heap.size,3,none⟩) HH.out _,by omega⟩
 ·skip
  go_wp2_with fail
  have hb3:=s2.here
  refine(pick_any (s2.alloc _) (by omega) (fun _=>True) _ 2 (by omega) (by omega) (by simp) (by omega) ?_).mono ?_
  ·intro i hi
   have:i=0∨i=1:=by omega
   rcases this with rfl|rfl
   all_goals exact⟨_,cell_new rfl,trivial⟩
  rintro e w3⟨v3,rfl, -,t3,s3⟩
  have T3:Hid (Turn b w w3):=T2.out.trans ((Turn.alloc b _ _).trans t3)
  have V3:Hid (Vb w3 w.heap.size #[.int .i64 0,.int .i64 0,.int .i64 0,.int .i64 0] 43):=(V2.out.push _).turn t3 (by have:=HH.out;omega)
  clear t3 T2 V2 hb3
  go_wp2_with fail
  have hb4:=s3.here
  refine(pick_any (s3.alloc _) (by omega) (fun _=>True) _ 3 (by omega) (by omega) (by simp) (by omega) ?_).mono ?_
  ·intro i hi
   have:i=0∨i=1∨i=2:=by omega
   rcases this with rfl|rfl|rfl
   all_goals exact⟨_,cell_new rfl,trivial⟩
  rintro e w4⟨v4,rfl, -,t4,s4⟩
  have T4:Hid (Turn b w w4):=T3.out.trans ((Turn.alloc b _ _).trans t4)
  have V4:Hid (Vb w4 w.heap.size #[.int .i64 0,.int .i64 0,.int .i64 0,.int .i64 0] 43):=(V3.out.push _).turn t4 (by have:=HH.out;omega)
  clear t4 T3 V3 hb4
  have S4:Hid (Src w4 b _ a len cap zs):=s4
  have k0:=V4.out.cell 0 rfl
  have k1:=V4.out.cell 1 rfl
  have k2:=V4.out.cell 2 rfl
  have k3:=V4.out.cell 3 rfl
  have f0:=V4.out.free 0
  have f1:=V4.out.free 1
  have f2:=V4.out.free 2
  have f3:=V4.out.free 3
  have sz:=V4.out.lt
  clear s2 s3 s4
  go_wp2_with fail
  exact bodyPost_ret (v:=.agg #[.int .i64 (19),.int .i64 (v3),.int .i64 (0),.int .i64 (v4)]) (by simp[results,Tryz.results94,go_sem,k0,k1,k2,k3]) rfl ⟨_,_,_,_,_,rfl,(((T4.out.putC (p:=⟨w.heap.size,0,none⟩) (Nat.le_refl _) _).putC (p:=⟨w.heap.size,1,none⟩) (Nat.le_refl _) _).putC (p:=⟨w.heap.size,2,none⟩) (Nat.le_refl _) _).putC (p:=⟨w.heap.size,3,none⟩) (Nat.le_refl _) _,(((S4.out.putC (p:=⟨w.heap.size,0,none⟩) HH.out _).putC (p:=⟨w.heap.size,1,none⟩) HH.out _).putC (p:=⟨w.heap.size,2,none⟩) HH.out _).putC (p:=⟨w.heap.size,3,none⟩) HH.out _,by omega⟩
 ·skip
  go_wp2_with fail
  refine(ins_any s2 (by omega)).mono ?_
  rintro e w3⟨o3,d3,x3,i3,rfl, -, -, -, -,t3,s3⟩
  have T3:Hid (Turn b w w3):=T2.out.trans t3
  have V3:Hid (Vb w3 w.heap.size #[.int .i64 0,.int .i64 0,.int .i64 0,.int .i64 0] 43):=V2.out.turn t3 (by have:=HH.out;omega)
  clear t3 T2 V2
  have S3:Hid (Src w3 b _ a len cap zs):=s3
  have k0:=V3.out.cell 0 rfl
  have k1:=V3.out.cell 1 rfl
  have k2:=V3.out.cell 2 rfl
  have k3:=V3.out.cell 3 rfl
  have f0:=V3.out.free 0
  have f1:=V3.out.free 1
  have f2:=V3.out.free 2
  have f3:=V3.out.free 3
  have sz:=V3.out.lt
  clear s2 s3
  go_wp2_with fail
  exact bodyPost_ret (v:=.agg #[.int .i64 (o3),.int .i64 (d3),.int .i64 (x3),.int .i64 (i3)]) (by simp[results,Tryz.results94,go_sem,k0,k1,k2,k3]) rfl ⟨_,_,_,_,_,rfl,(((T3.out.putC (p:=⟨w.heap.size,0,none⟩) (Nat.le_refl _) _).putC (p:=⟨w.heap.size,1,none⟩) (Nat.le_refl _) _).putC (p:=⟨w.heap.size,2,none⟩) (Nat.le_refl _) _).putC (p:=⟨w.heap.size,3,none⟩) (Nat.le_refl _) _,(((S3.out.putC (p:=⟨w.heap.size,0,none⟩) HH.out _).putC (p:=⟨w.heap.size,1,none⟩) HH.out _).putC (p:=⟨w.heap.size,2,none⟩) HH.out _).putC (p:=⟨w.heap.size,3,none⟩) HH.out _,by omega⟩
 ·skip
  go_wp2_with fail
  refine(ins_any s2 (by omega)).mono ?_
  rintro e w3⟨o3,d3,x3,i3,rfl, -, -, -, -,t3,s3⟩
  have T3:Hid (Turn b w w3):=T2.out.trans t3
  have V3:Hid (Vb w3 w.heap.size #[.int .i64 0,.int .i64 0,.int .i64 0,.int .i64 0] 43):=V2.out.turn t3 (by have:=HH.out;omega)
  clear t3 T2 V2
  have S3:Hid (Src w3 b _ a len cap zs):=s3
  have k0:=V3.out.cell 0 rfl
  have k1:=V3.out.cell 1 rfl
  have k2:=V3.out.cell 2 rfl
  have k3:=V3.out.cell 3 rfl
  have f0:=V3.out.free 0
  have f1:=V3.out.free 1
  have f2:=V3.out.free 2
  have f3:=V3.out.free 3
  have sz:=V3.out.lt
  clear s2 s3
  go_wp2_with fail
  exact bodyPost_ret (v:=.agg #[.int .i64 (o3),.int .i64 (d3),.int .i64 (x3),.int .i64 (i3)]) (by simp[results,Tryz.results94,go_sem,k0,k1,k2,k3]) rfl ⟨_,_,_,_,_,rfl,(((T3.out.putC (p:=⟨w.heap.size,0,none⟩) (Nat.le_refl _) _).putC (p:=⟨w.heap.size,1,none⟩) (Nat.le_refl _) _).putC (p:=⟨w.heap.size,2,none⟩) (Nat.le_refl _) _).putC (p:=⟨w.heap.size,3,none⟩) (Nat.le_refl _) _,(((S3.out.putC (p:=⟨w.heap.size,0,none⟩) HH.out _).putC (p:=⟨w.heap.size,1,none⟩) HH.out _).putC (p:=⟨w.heap.size,2,none⟩) HH.out _).putC (p:=⟨w.heap.size,3,none⟩) HH.out _,by omega⟩
theorem s_set_any(q:Nat)(r c i o:Value)(H:Ht)(k x:Int)(b:Nat)(w:World)(h:Hm w b r c i o H)(A:Ha r c i o)(hv:Vb w q #[r,.int .i64 H.pc,c,.bool H.halted,.bool H.waiting,.bool H.rung,.int .i64 H.done,i,o] 26)(hq:∀k,Own4 r c i o k→k≠q)(hc:H.csr.length=11)(h0:0≤k)(h10:k≤10):
  Calls Tryz.prog 106 #[.pointer (some ⟨q,0,none⟩),.int .i64 k,.int .i64 x] w fun e w'=>e=.returned (.tuple #[])∧∃H',Sv w w' b q r c i o H'∧H'.regs.length=H.regs.length∧H'.csr.length=11:=by
 have S0:Hid (Sv w w b q r c i o H):=⟨h,hv,Mq.refl _ _⟩
 obtain⟨a1,k1,rfl,_,_,g1⟩:=h.c.shape
 obtain⟨y1,rfl⟩:=g1 (by omega)
 have HC:=hid hc
 rw[hc]at h hv hq A S0 ⊢
 have HA:Hid (Ha r _ i o):=A
 have HQ:=hid hq
 have QY:Hid (q≠y1):=fun e=>hq y1 (.inr (.inl rfl)) e.symm
 obtain⟨u,hu⟩:∃u,wd x=u:=⟨_,rfl⟩
 have HU:=hid hu
 have u0:0≤u:=by rw[←hu];exact(hwd_in x).1
 have u9:u≤4294967295:=by rw[←hu];exact(hwd_in x).2
 have t4:u.tmod 4=u%4:=Int.tmod_eq_emod_of_nonneg u0
 have t8:u.tmod 8=u%8:=Int.tmod_eq_emod_of_nonneg u0
 have v2:=hv.cell 2 rfl
 have v5:=hv.cell 5 rfl
 have f5:=hv.free 5
 have CE:Hid (∀n,n<11→w.cell? ⟨y1,n,none⟩=some (.int .i64 (gt H.csr n))):=fun n hn=>h.c.cell hc.symm n hn
 have FE:Hid (∀n,w.frozen? ⟨y1,n,none⟩=false):=fun n=>h.c.free hc.symm n
 clear h hv hq A g1 hc hu
 by_cases k0:k=0
 ·subst k0
  have cc:=CE.out 0 (by decide)
  have ff:=FE.out 0
  go_enter Tryz.func106,Tryz.ntmps106
  go_wp2_with (go_at_call 135;refine(s_wrap _ _).mono ?_;rintro e y ⟨rfl,hy⟩;rw[hy];clear hy y;rw[HU.out])
  go_end0
  exact⟨rfl,_,S0.out.csr HA.out QY.out 0 _,rfl,by first|exact HC.out|simpa using HC.out⟩
 by_cases k7:k=7
 ·subst k7
  have cc:=CE.out 7 (by decide)
  have ff:=FE.out 7
  go_enter Tryz.func106,Tryz.ntmps106
  go_wp2_with (go_at_call 135;refine(s_wrap _ _).mono ?_;rintro e y ⟨rfl,hy⟩;rw[hy];clear hy y;rw[HU.out])
  go_end0
  exact⟨rfl,_,S0.out.csr HA.out QY.out 7 _,rfl,by first|exact HC.out|simpa using HC.out⟩
 by_cases k10:k=10
 ·subst k10
  have cc:=CE.out 10 (by decide)
  have ff:=FE.out 10
  have qy:q≠y1:=QY.out
  by_cases h8:u≤8
  ·have H8:Hid (u≤8):=h8
   go_enter Tryz.func106,Tryz.ntmps106
   go_wp2_with (go_at_call 135;refine(s_wrap _ _).mono ?_;rintro e y ⟨rfl,hy⟩;rw[hy];clear hy y;rw[HU.out])
   go_end0
   exact⟨rfl,_,(S0.out.csr HA.out QY.out 10 0).csr HA.out QY.out 10 u,rfl,by first|exact HC.out|simpa using HC.out⟩
  ·have H8:Hid (8<u):=by show _<_;omega
   go_enter Tryz.func106,Tryz.ntmps106
   go_wp2_with (go_at_call 135;refine(s_wrap _ _).mono ?_;rintro e y ⟨rfl,hy⟩;rw[hy];clear hy y;rw[HU.out])
   go_end0
   exact⟨rfl,_,S0.out.csr HA.out QY.out 10 0,rfl,by first|exact HC.out|simpa using HC.out⟩
 by_cases k6:k=6
 ·subst k6
  cases hr:H.rung
  ·have HR:Hid (H.rung=false):=hr
   rw[hr]at v5
   go_enter Tryz.func106,Tryz.ntmps106
   go_wp2_with (go_at_call 135;refine(s_wrap _ _).mono ?_;rintro e y ⟨rfl,hy⟩;rw[hy];clear hy y;rw[HU.out])
   go_end0
   exact⟨rfl,_,S0.out.rung HQ.out false,rfl,by first|exact HC.out|simpa using HC.out⟩
  ·rw[hr]at v5
   by_cases h2:u%4<2
   ·have H2:Hid (decide (2≤u%4)=false):=decide_eq_false (by omega)
    go_enter Tryz.func106,Tryz.ntmps106
    go_wp2_with (go_at_call 135;refine(s_wrap _ _).mono ?_;rintro e y ⟨rfl,hy⟩;rw[hy];clear hy y;rw[HU.out])
    go_end0
    exact⟨rfl,_,S0.out.rung HQ.out true,rfl,by first|exact HC.out|simpa using HC.out⟩
   ·have H2:Hid (decide (2≤u%4)=true):=decide_eq_true (by omega)
    go_enter Tryz.func106,Tryz.ntmps106
    go_wp2_with (go_at_call 135;refine(s_wrap _ _).mono ?_;rintro e y ⟨rfl,hy⟩;rw[hy];clear hy y;rw[HU.out])
    go_end0
    rw[show decide (u%4<2)=false from decide_eq_false (by have:=of_decide_eq_true H2.out;omega)]
    exact⟨rfl,_,S0.out.rung HQ.out false,rfl,by first|exact HC.out|simpa using HC.out⟩
 by_cases k8:k=8
 ·subst k8
  go_enter Tryz.func106,Tryz.ntmps106
  go_wp2_with (go_at_call 135;refine(s_wrap _ _).mono ?_;rintro e y ⟨rfl,hy⟩;rw[hy];clear hy y;rw[HU.out])
  go_end0
  exact⟨rfl,_,S0.out,rfl,by first|exact HC.out|simpa using HC.out⟩
 obtain⟨n,rfl⟩:∃n:Nat,k=n:=⟨k.toNat,by omega⟩
 have cc:=CE.out n (by omega)
 have ff:=FE.out n
 have hI:(n:Int)<11:=by omega
 go_enter Tryz.func106,Tryz.ntmps106
 go_wp2_with (go_at_call 135;refine(s_wrap _ _).mono ?_;rintro e y ⟨rfl,hy⟩;rw[hy];clear hy y;rw[HU.out])
 go_end0
 exact⟨rfl,_,S0.out.csr HA.out QY.out n _,rfl,by first|exact HC.out|simpa using HC.out⟩
theorem own_info(w:World)(ty:TypeId)(g:Nat)(ad:Addr)(m c:Nat)(ys:List Int)(hy:ys.length=m)(hc:∀i,i<m→w.cell? (ad.add i)=some (.int .i64 (ys.getD i 0)))(hm:m≤1000)(v':Value)(w':World)
  (hr:(Builtin.append_ #[24,24] ty #[.slice (some ⟨g,0,none⟩) 0 0,.slice (some ad) m c]).run Tryz.prog w=.ok v' w'):v'=.slice (some ⟨g,0,none⟩) 0 0∨v'.ownBlock=some w.heap.size:=by
 obtain⟨i,hi,hz0,hz1,hz2⟩:=info_parts info_i64
 have hs:Go.Src Tryz.prog i.size 24 (.slice (some ad) m c) m (ys.map (Value.int .i64)) w:=by
  refine Go.Src.ofSlice w Tryz.underlying24 ad m c _ (by rw[hz1];simpa using hy) ?_ ?_
  ·intro j u hj
   have hjl:j<ys.length:=by have:=(List.getElem?_eq_some_iff.1 hj).1;simpa using this
   rw[List.getElem?_map,List.getElem?_eq_getElem hjl]at hj
   have:=hc j (by omega)
   rw[List.getD,List.getElem?_eq_getElem hjl]at this
   rw[this]
   exact hj
  ·intro u hu
   obtain⟨z,_,rfl⟩:=List.mem_map.1 hu
   rfl
 by_cases h0:m=0
 ·subst h0
  have e:=run_append_room_src (P:=Tryz.prog) w 24 24 ty 2 i Tryz.underlying24 hi g 0 0 0 _ 0 _ hs (by omega) (fun j hj=>by simp[hy]at hj) (fun j hj=>by simp[hy]at hj)
  rw[e]at hr
  cases hr
  exact .inl rfl
 ·have e:=run_append_grow_src (P:=Tryz.prog) w 24 24 ty 2 i _ Tryz.underlying24 hi hz0 (some ⟨g,0,none⟩) 0 0 [] (by simp[Builtin.firstCells,loadCells,loadCellsFrom]) _ m _ hs (by omega) (by omega) (by rw[hz2];unfold Builtin.nextslicecap;rw[if_pos (by omega)];omega)
  rw[e]at hr
  cases hr
  exact .inr rfl
theorem step_app8{ops:Array Oper}{o:Oper}{act:Act}{w:World}{K:Act→World→Prop}{Q:Exit→Act→World→Prop}{E:Prop}(hgd:o.guard=none)(s x:Operand)
  (ho:o.op=.call { callee:=.builtin .append,args:=#[s,x],argTypes:=#[24,24]}) (base g:Nat) (hs:act.eval s=.slice (some ⟨g,0,none⟩) 0 0) (hN:Nums w base (.slice (some ⟨g,0,none⟩) 0 0) [])
  (ao:Option Addr) (m c:Nat) (ys:List Int) (hx:act.eval x=.slice ao m c) (hy:ys.length=m) (hnone:ao=none→m=0∧c=0) (hc:∀ad,ao=some ad→∀i,i<m→w.cell? (ad.add i)=some (.int .i64 (ys.getD i 0)))
  (hlen:m≤1000) (hbase:base≤w.heap.size)
  (h:∀v' w',Nums w' base v' ys→w.grownBy w' (Value.slice (some ⟨g,0,none⟩) 0 0).ownBlock→(v'=.slice (some ⟨g,0,none⟩) 0 0∨v'.ownBlock=some w.heap.size)→K (act.put o.dst v') w'):
  if Region.wanted o (yielded ops act.tmps)=true then Oper.wp Tryz.prog o act w K Q else E:=by
 have hw:Region.wanted o (yielded ops act.tmps)=true:=by simp[Region.wanted,hgd]
 rw[if_pos hw]
 obtain⟨i,hi,hz0,hz1,hz2⟩:=info_parts info_i64
 cases ao with
 |none=>
  obtain⟨rfl,rfl⟩:=hnone rfl
  obtain rfl:ys=[]:=List.eq_nil_of_length_eq_zero hy
  have hrun:=run_append_owned_none (P:=Tryz.prog) (w:=w) base 24 o.type 2 i 1 Tryz.underlying24 hi _ 0 _ hN
  unfold Oper.wp
  simp[execOp,ho,resolve,invoke,builtin,hs,hx,hrun,Result.andThen]
  exact h _ w hN (World.grownBy.refl _ _) (.inl rfl)
 |some ad=>
  obtain⟨v',w',hr,h2,h3,_⟩:=run_append_own (P:=Tryz.prog) w base 24 o.type 2 i _ 1 8 Tryz.underlying24 hi hz0 hz1 hz2 rfl (by decide) _ 0 _ hN ad m c (ys.map (Value.int .i64)) (by simpa using hy) (by
   intro j u hj
   have hjl:j<ys.length:=by have:=(List.getElem?_eq_some_iff.1 hj).1;simpa using this
   rw[List.getElem?_map,List.getElem?_eq_getElem hjl]at hj
   have:=hc ad rfl j (by omega)
   rw[List.getD,List.getElem?_eq_getElem hjl]at this
   rw[this]
   exact hj) (by
   intro u hu
   obtain⟨z,_,rfl⟩:=List.mem_map.1 hu
   rfl) (by unfold maxLen;omega) (by omega) hbase
  have hi':=own_info w o.type g ad m c ys hy (hc ad rfl) hlen v' w' hr
  unfold Oper.wp execOp
  simp only[ho,resolve,invoke,builtin,Sem.run_bind,Sem.run_pure,Result.andThen_ok,List.map_toArray,List.map_cons,List.map_nil,hs,hx,hr]
  refine h v' w' ?_ h3 hi'
  unfold Nums
  simpa [hy]using h2
structure Nx(W w:World)(s:Nat)(zs:List Int)(A B C D:Option Value):Prop where
 mq:Mq (fun k=>k=s) W w
 th:w.there s 0 10
 a:∀v,A=some v→Nums w W.heap.size v (List.replicate 16 0)
 b:∀v,B=some v→Nums w W.heap.size v (List.replicate 11 0)
 c:D=none→∀v,C=some v→Nums w W.heap.size v []
 d:∀v,D=some v→Nums w W.heap.size v zs
 ac:D=none→∀v u,A=some v→C=some u→Apt v u
 bc:D=none→∀v u,B=some v→C=some u→Apt v u
 ab:∀v u,A=some v→B=some u→Apt v u
 ad:∀v u,A=some v→D=some u→Apt v u
 bd:∀v u,B=some v→D=some u→Apt v u
theorem Nx.grow{W w w':World}{s:Nat}{zs:List Int}{A B C D:Option Value}(h:Nx W w s zs A B C D)(hs:s<W.heap.size)(b:Below w.heap.size w w'):Nx W w' s zs A B C D:=
 ⟨h.mq.trans (Mq.of (below_grown b none) fun k e=>by cases e),there_below h.th (Nat.lt_of_lt_of_le hs h.mq.size) b,fun v e=>(h.a v e).keep b,fun v e=>(h.b v e).keep b,fun e v f=>(h.c e v f).keep b,fun v e=>(h.d v e).keep b,h.ac,h.bc,h.ab,h.ad,h.bd⟩
theorem Nx.mkA{W w w':World}{s:Nat}{zs:List Int}{B C D:Option Value}{v:Value}(h:Nx W w s zs none B C D)(hs:s<W.heap.size)(n:Nums w' w.heap.size v (List.replicate 16 0))(b:Below w.heap.size w w'):Nx W w' s zs (some v) B C D:=
 let g:=h.grow hs b
 ⟨g.mq,g.th,fun u e=>by cases e;exact n.mono h.mq.size,g.b,g.c,g.d,fun e u x f k=>by cases f;exact((h.c e x k).apt n (Nat.le_refl _)).swap,g.bc,fun u x f k=>by cases f;exact((h.b x k).apt n (Nat.le_refl _)).swap,fun u x f k=>by cases f;exact((h.d x k).apt n (Nat.le_refl _)).swap,g.bd⟩
theorem Nx.mkB{W w w':World}{s:Nat}{zs:List Int}{A C D:Option Value}{v:Value}(h:Nx W w s zs A none C D)(hs:s<W.heap.size)(n:Nums w' w.heap.size v (List.replicate 11 0))(b:Below w.heap.size w w'):Nx W w' s zs A (some v) C D:=
 let g:=h.grow hs b
 ⟨g.mq,g.th,g.a,fun u e=>by cases e;exact n.mono h.mq.size,g.c,g.d,g.ac,fun e u x f k=>by cases f;exact((h.c e x k).apt n (Nat.le_refl _)).swap,fun u x f k=>by cases k;exact(h.a u f).apt n (Nat.le_refl _),g.ad,fun u x f k=>by cases f;exact((h.d x k).apt n (Nat.le_refl _)).swap⟩
theorem Nx.mkC{W w w':World}{s:Nat}{zs:List Int}{A B:Option Value}{v:Value}(h:Nx W w s zs A B none none)(hs:s<W.heap.size)(n:Nums w' w.heap.size v [])(b:Below w.heap.size w w'):Nx W w' s zs A B (some v) none:=
 let g:=h.grow hs b
 ⟨g.mq,g.th,g.a,g.b,fun _ u e=>by cases e;exact n.mono h.mq.size,g.d,fun e u x f k=>by cases k;exact(h.a u f).apt n (Nat.le_refl _),fun e u x f k=>by cases k;exact(h.b u f).apt n (Nat.le_refl _),g.ab,g.ad,g.bd⟩
theorem Nx.app{W w w':World}{s:Nat}{zs:List Int}{A B:Option Value}{v v':Value}(h:Nx W w s zs A B (some v) none)(hs:s<W.heap.size)(n:Nums w' W.heap.size v' zs)(g:w.grownBy w' v.ownBlock)(ho:v'=v∨v'.ownBlock=some w.heap.size):Nx W w' s zs A B (some v) (some v'):=by
 have apt:∀(u:Value) (ys:List Int),Nums w W.heap.size u ys→Apt u v→Apt u v':=fun u ys hu ha=>by
  rcases ho with e|e
  ·rw[e];exact ha
  ·refine .inr fun f=>?_
   rw[e]at f
   have:=(hu.lt _ f).2
   omega
 have hl:∀k,v.ownBlock=some k→W.heap.size≤k∧k<w.heap.size:=(h.c rfl v rfl).lt
 refine⟨⟨g.os.trans h.mq.os,g.tape.trans h.mq.tape,g.output.trans h.mq.output,Nat.le_trans h.mq.size g.size,fun k hk hn=>(g.block k (Nat.lt_of_lt_of_le hk h.mq.size) (fun e=>by have:=(hl k e.symm).1;omega)).trans (h.mq.block k hk hn)⟩,?_,fun u e=>(h.a u e).kept g (h.ac rfl u v e rfl),fun u e=>(h.b u e).kept g (h.bc rfl u v e rfl),(by intro e;cases e),fun u e=>by cases e;exact n,(by intro e;cases e),(by intro e;cases e),h.ab,fun u x f k=>by cases k;exact apt u _ (h.a u f) (h.ac rfl u v f rfl),fun u x f k=>by cases k;exact apt u _ (h.b u f) (h.bc rfl u v f rfl)⟩
 intro j hj
 obtain⟨h1,h2⟩:=h.th j hj
 have hb:w'.heap[s]? =w.heap[s]? :=g.block s (Nat.lt_of_lt_of_le hs h.mq.size) (fun e=>by have:=(hl s e.symm).1;omega)
 have e1:w'.cell? ⟨s,0+j,none⟩=w.cell? ⟨s,0+j,none⟩:=by simp only[World.cell?,hb]
 have e2:w'.frozen? ⟨s,0+j,none⟩=w.frozen? ⟨s,0+j,none⟩:=World.frozen?_of_block (w:=w) hb
 exact⟨by rw[e1];exact h1,by rw[e2];exact h2⟩
theorem s_newHart8(v:Value)(zs:List Int)(b:Nat)(w:World)(h:Nums w b v zs):
  Calls Tryz.prog 128 #[v] w fun e w'=>∃r' c' i' o',e=.returned (.agg #[.int .i64 (newR zs).1,r',.int .i64 (newR zs).2.pc,c',.bool (newR zs).2.halted,.bool (newR zs).2.waiting,.bool (newR zs).2.rung,.int .i64 (newR zs).2.done,i',o'])∧Hm w' w.heap.size r' c' i' o' (newR zs).2∧Ha r' c' i' o'∧Below w.heap.size w w':=by
 have HN:=hid h
 obtain⟨a,k,rfl,_⟩:=h.shape
 obtain⟨n,hn⟩:∃n,zs.length=n:=⟨_,rfl⟩
 have hl:(n:Int)≤9223372036854775807:=by have:=h.lens;unfold maxLen at this;omega
 rw[hn]at HN ⊢
 have HL:=hid hn
 clear h hn
 generalize hW:w.alloc (.cells #[.int .i64 0,.slice none 0 0,.int .i64 0,.slice none 0 0,.bool false,.bool false,.bool false,.int .i64 0,.slice none 0 0,.slice none 0 0] 178)=W
 have B0:Hid (Below w.heap.size w W):=by show Below _ _ _;rw[←hW];exact al (Below.refl _ _) _
 obtain⟨s,hS⟩:∃s,w.heap.size=s:=⟨_,rfl⟩
 have HS:=hid hS
 have VR:Hid (Vb W s #[.int .i64 0,.slice none 0 0,.int .i64 0,.slice none 0 0,.bool false,.bool false,.bool false,.int .i64 0,.slice none 0 0,.slice none 0 0] 178):=by
  show Vb _ _ _ _;rw[←hW,←hS];exact Vb.new _ _ _
 by_cases h40:40<n
 ·have hI:(40:Int)<(n:Int):=by omega
  have HE1:Hid ((newR zs).1=2):=by show _=_;unfold newR;rw[HL.out,if_pos h40]
  have HE2:Hid ((newR zs).2=voidH):=by show _=_;unfold newR;rw[HL.out,if_pos h40]
  have p0:=VR.out.cell 0 rfl
  have p1:=VR.out.cell 1 rfl
  have p2:=VR.out.cell 2 rfl
  have p3:=VR.out.cell 3 rfl
  have p4:=VR.out.cell 4 rfl
  have p5:=VR.out.cell 5 rfl
  have p6:=VR.out.cell 6 rfl
  have p7:=VR.out.cell 7 rfl
  have p8:=VR.out.cell 8 rfl
  have p9:=VR.out.cell 9 rfl
  have f0:=VR.out.free 0
  have f1:=VR.out.free 1
  have f2:=VR.out.free 2
  have f3:=VR.out.free 3
  have f4:=VR.out.free 4
  have f5:=VR.out.free 5
  have f6:=VR.out.free 6
  have f7:=VR.out.free 7
  have f8:=VR.out.free 8
  have f9:=VR.out.free 9
  go_enter Tryz.func128,Tryz.ntmps128
  go_wp2_with fail
  clear hW hS
  have NN:Hid (_∧_):=ten VR.out (.int .i64 2) (.slice none 0 0) (.int .i64 0) (.slice none 0 0) (.bool false) (.bool false) (.bool false) (.int .i64 0) (.slice none 0 0) (.slice none 0 0)
  clear p0 f0 p1 f1 p2 f2 p3 f3 p4 f4 p5 f5 p6 f6 p7 f7 p8 f8 p9 f9
  generalize ((((((((((W.setCell ⟨s,0,none⟩ (.int .i64 2)).setCell ⟨s,1,none⟩ (.slice none 0 0)).setCell ⟨s,2,none⟩ (.int .i64 0)).setCell ⟨s,3,none⟩ (.slice none 0 0)).setCell ⟨s,4,none⟩ (.bool false)).setCell ⟨s,5,none⟩ (.bool false)).setCell ⟨s,6,none⟩ (.bool false)).setCell ⟨s,7,none⟩ (.int .i64 0)).setCell ⟨s,8,none⟩ (.slice none 0 0)).setCell ⟨s,9,none⟩ (.slice none 0 0))=V at*
  have x0:=NN.out.1.cell 0 rfl
  have x1:=NN.out.1.cell 1 rfl
  have x2:=NN.out.1.cell 2 rfl
  have x3:=NN.out.1.cell 3 rfl
  have x4:=NN.out.1.cell 4 rfl
  have x5:=NN.out.1.cell 5 rfl
  have x6:=NN.out.1.cell 6 rfl
  have x7:=NN.out.1.cell 7 rfl
  have x8:=NN.out.1.cell 8 rfl
  have x9:=NN.out.1.cell 9 rfl
  have BV:Below w.heap.size w V:=Mq.under B0.out NN.out.2 fun k e=>by have:=HS.out;omega
  have MV:=NN.out.2
  refine bodyPost_ret (v:=.agg #[.int .i64 2,.slice none 0 0,.int .i64 0,.slice none 0 0,.bool false,.bool false,.bool false,.int .i64 0,.slice none 0 0,.slice none 0 0]) (by simp[results,Tryz.results128,go_sem,x0,x1,x2,x3,x4,x5,x6,x7,x8,x9]) rfl ?_
  rw[HE1.out,HE2.out]
  exact⟨_,_,_,_,rfl,void_hm _ _,void_ha,BV⟩
 have hI:¬(40:Int)<(n:Int):=by omega
 cases hw:zs.all isW
 ·have HW:Hid (zs.all isW=false):=hw
  have HE1:Hid ((newR zs).1=3):=by show _=_;unfold newR;rw[HL.out,if_neg h40,hw];rfl
  have HE2:Hid ((newR zs).2=voidH):=by show _=_;unfold newR;rw[HL.out,if_neg h40,hw];rfl
  have p0:=VR.out.cell 0 rfl
  have p1:=VR.out.cell 1 rfl
  have p2:=VR.out.cell 2 rfl
  have p3:=VR.out.cell 3 rfl
  have p4:=VR.out.cell 4 rfl
  have p5:=VR.out.cell 5 rfl
  have p6:=VR.out.cell 6 rfl
  have p7:=VR.out.cell 7 rfl
  have p8:=VR.out.cell 8 rfl
  have p9:=VR.out.cell 9 rfl
  have f0:=VR.out.free 0
  have f1:=VR.out.free 1
  have f2:=VR.out.free 2
  have f3:=VR.out.free 3
  have f4:=VR.out.free 4
  have f5:=VR.out.free 5
  have f6:=VR.out.free 6
  have f7:=VR.out.free 7
  have f8:=VR.out.free 8
  have f9:=VR.out.free 9
  go_enter Tryz.func128,Tryz.ntmps128
  go_wp2_with (go_at_call 96;refine(s_words a n k zs _ (HN.out.rn.stay B0.out)).mono ?_;rintro e y ⟨rfl,hy⟩;rw[hy];clear hy y;rw[hw])
  clear hW hS
  have NN:Hid (_∧_):=ten VR.out (.int .i64 3) (.slice none 0 0) (.int .i64 0) (.slice none 0 0) (.bool false) (.bool false) (.bool false) (.int .i64 0) (.slice none 0 0) (.slice none 0 0)
  clear p0 f0 p1 f1 p2 f2 p3 f3 p4 f4 p5 f5 p6 f6 p7 f7 p8 f8 p9 f9
  generalize ((((((((((W.setCell ⟨s,0,none⟩ (.int .i64 3)).setCell ⟨s,1,none⟩ (.slice none 0 0)).setCell ⟨s,2,none⟩ (.int .i64 0)).setCell ⟨s,3,none⟩ (.slice none 0 0)).setCell ⟨s,4,none⟩ (.bool false)).setCell ⟨s,5,none⟩ (.bool false)).setCell ⟨s,6,none⟩ (.bool false)).setCell ⟨s,7,none⟩ (.int .i64 0)).setCell ⟨s,8,none⟩ (.slice none 0 0)).setCell ⟨s,9,none⟩ (.slice none 0 0))=V at*
  have x0:=NN.out.1.cell 0 rfl
  have x1:=NN.out.1.cell 1 rfl
  have x2:=NN.out.1.cell 2 rfl
  have x3:=NN.out.1.cell 3 rfl
  have x4:=NN.out.1.cell 4 rfl
  have x5:=NN.out.1.cell 5 rfl
  have x6:=NN.out.1.cell 6 rfl
  have x7:=NN.out.1.cell 7 rfl
  have x8:=NN.out.1.cell 8 rfl
  have x9:=NN.out.1.cell 9 rfl
  have BV:Below w.heap.size w V:=Mq.under B0.out NN.out.2 fun k e=>by have:=HS.out;omega
  have MV:=NN.out.2
  refine bodyPost_ret (v:=.agg #[.int .i64 3,.slice none 0 0,.int .i64 0,.slice none 0 0,.bool false,.bool false,.bool false,.int .i64 0,.slice none 0 0,.slice none 0 0]) (by simp[results,Tryz.results128,go_sem,x0,x1,x2,x3,x4,x5,x6,x7,x8,x9]) rfl ?_
  rw[HE1.out,HE2.out]
  exact⟨_,_,_,_,rfl,void_hm _ _,void_ha,BV⟩
 have HE1:Hid ((newR zs).1=0):=by show _=_;unfold newR;rw[HL.out,if_neg h40,hw];rfl
 have HE2:Hid ((newR zs).2=newV zs):=by show _=_;unfold newR;rw[HL.out,if_neg h40,hw];rfl
 have H40:Hid (n≤40):=by show _≤_;omega
 have LT:Hid (s<W.heap.size):=VR.out.lt
 have HX:Hid (∀w',Mq (fun k=>k=s) W w'→(a=none→n=0∧k=0)∧∀ad,a=some ad→∀i,i<n→w'.cell? (ad.add i)=some (.int .i64 (zs.getD i 0))):=by
  intro w' m
  have nn:Nums w' b (.slice a n k) zs:=m.nums (HN.out.keep B0.out) fun x e f=>by have:=(HN.out.lt x e).2;have:=HS.out;omega
  have rr:=nn.rn
  refine⟨fun e=>?_,fun ad e i hi=>?_⟩
  ·subst e
   rcases rr with⟨_,h1,h2,_⟩|⟨x,e,_⟩
   ·exact⟨h1,h2⟩
   ·cases e
  ·obtain⟨x,e2,h⟩:=rr.at i hi
   subst e
   cases e2
   exact h
 go_enter Tryz.func128,Tryz.ntmps128
 go_wp2_with (go_at_call 96;refine(s_words a n k zs _ (HN.out.rn.stay B0.out)).mono ?_;rintro e y ⟨rfl,hy⟩;rw[hy];clear hy y;rw[hw])
 clear hW hS
 have Q0:Hid (Nx W W.drew s zs none none none none):=⟨⟨rfl,rfl,rfl,Nat.le_refl _,fun _ _ _=>rfl⟩,VR.out.there 10 (by decide),(by intro v e;cases e),(by intro v e;cases e),(by intro _ v e;cases e),(by intro v e;cases e),(by intro _ v u e;cases e),(by intro _ v u e;cases e),(by intro v u e;cases e),(by intro v u e;cases e),(by intro v u e;cases e)⟩
 refine wp_region_held (S:=fun _=>True) (by kernel_rfl) ?_
 change wpAnyH _ _ _ _ _ _ _ _ (World.drew _)
 refine wpTe 3 14 (.slice a n k) rfl (Or.inl ⟨by rfl,fun w' _=>by go_simp⟩) trivial ?_
 simp only[Act.put,zT,zZ,zS]
 refine wpAnyH_ready (rs:=[0,1,2]) (by kernel_rfl) (by simp) ?_
 refine AllReadyH.cons rfl (fun K hK=>?_) ?_
 ·refine step_make rfl (.const (.int .i64 16)) (.const (.int .i64 16)) rfl 16 rfl rfl (by decide) ?_
  intro vA wA n1 b1
  have QA:Hid (Nx W wA s zs (some vA) none none none):=Q0.out.mkA LT.out n1 b1
  clear n1 b1
  refine hK.out _ _ trivial (fun _=>?_)
  clear hK K
  change wpAnyH _ _ _ _ _ _ _ (Act.put _ (some 11) _) _
  simp only[Act.put,zT,zZ,zS]
  refine wpAnyH_ready (rs:=[1,2]) (by kernel_rfl) (by simp) ?_
  refine AllReadyH.cons rfl (fun K hK=>?_) ?_
  ·refine step_make rfl (.const (.int .i64 11)) (.const (.int .i64 11)) rfl 11 rfl rfl (by decide) ?_
   intro vB wAB n1 b1
   have QAB:Hid (Nx W wAB s zs (some vA) (some vB) none none):=QA.out.mkB LT.out n1 b1
   clear n1 b1
   refine hK.out _ _ trivial (fun _=>?_)
   clear hK K
   change wpAnyH _ _ _ _ _ _ _ (Act.put _ (some 12) _) _
   simp only[Act.put,zT,zZ,zS]
   refine wpAnyH_ready (rs:=[2]) (by kernel_rfl) (by simp) ?_
   refine AllReadyH.cons rfl (fun K hK=>?_) ?_
   ·rw[if_pos (by rfl)]
    go_simp
    have QABC:Hid (Nx W (wAB.alloc (.cells #[] 2)) s zs (some vA) (some vB) (some (.slice (some ⟨wAB.heap.size,0,none⟩) 0 0)) none):=QAB.out.mkC LT.out (nums_none _ _ (Nat.le_refl _)) (al (Below.refl _ _) _)
    obtain⟨vC,hvC⟩:∃v,Value.slice (some ⟨wAB.heap.size,0,none⟩) 0 0=v:=⟨_,rfl⟩
    obtain⟨wABC,hwABC⟩:∃w',wAB.alloc (.cells #[] 2)=w':=⟨_,rfl⟩
    have HvC:∃g,vC=Value.slice (some ⟨g,0,none⟩) 0 0:=⟨_,hvC.symm⟩
    rw[hvC,hwABC]at QABC
    rw[hvC,hwABC]
    clear hvC hwABC
    refine hK.out _ _ trivial (fun _=>?_)
    clear hK K
    refine wpAnyH_ready (rs:=[4]) (by kernel_rfl) (by simp) ?_
    refine AllReadyH.cons rfl (fun K hK=>?_) ?_
    ·obtain⟨gC,hgC⟩:=HvC
     subst hgC
     refine step_app8 rfl (.tmp 13) (.tmp 14) rfl W.heap.size gC rfl (QABC.out.c rfl _ rfl) a n k zs rfl HL.out (HX.out _ QABC.out.mq).1 (HX.out _ QABC.out.mq).2 (by have:=H40.out;omega) QABC.out.mq.size ?_
     intro vD wABCD n1 g1 ho
     have QABCD:Hid (Nx W wABCD s zs (some vA) (some vB) (some (.slice (some ⟨gC,0,none⟩) 0 0)) (some vD)):=QABC.out.app LT.out n1 g1 ho
     clear n1 g1 ho
     refine hK.out _ _ trivial (fun _=>?_)
     clear hK K
     change wpAnyH _ _ _ _ _ _ _ (Act.put _ (some 15) _) _
     simp only[Act.put,zT,zZ,zS]
     obtain⟨ga,gk,hga,_⟩:=(QABCD.out.a _ rfl).shape
     obtain⟨ha,hk',hha,_⟩:=(QABCD.out.b _ rfl).shape
     obtain⟨ia,ik,hia,_⟩:=(QABCD.out.d _ rfl).shape
     rw[List.length_replicate]at hga hha
     have AB:Hid (Apt _ _):=QABCD.out.ab _ _ rfl rfl
     have AD:Hid (Apt _ _):=QABCD.out.ad _ _ rfl rfl
     have BD:Hid (Apt _ _):=QABCD.out.bd _ _ rfl rfl
     rw[HL.out]at hia
     subst hga hha hia
     refine wpTe 5 16 (.agg #[.slice ga 16 gk,.int .i64 0,.slice ha 11 hk',.bool false,.bool false,.bool false,.int .i64 0,.slice ia n ik,.slice none 0 0]) rfl (Or.inl ⟨by rfl,fun w' _=>by go_simp⟩) trivial ?_
     simp only[Act.put,zT,zZ,zS]
     refine wpTe 6 17 (.agg #[.int .i64 0,.slice ga 16 gk,.int .i64 0,.slice ha 11 hk',.bool false,.bool false,.bool false,.int .i64 0,.slice ia n ik,.slice none 0 0]) rfl (Or.inl ⟨by rfl,fun w' _=>by go_simp⟩) trivial ?_
     simp only[Act.put,zT,zZ,zS]
     refine zR 7 rfl fun K hK=>?_
     rw[if_pos (by rfl)]
     refine wp_store_mid 178 (.tmp 2) (.tmp 17) rfl s 0 #[.int .i64 0,.slice ga 16 gk,.int .i64 0,.slice ha 11 hk',.bool false,.bool false,.bool false,.int .i64 0,.slice ia n ik,.slice none 0 0] rfl rfl QABCD.out.th (by kernel_rfl) (by simp[Value.oneCell']) ?_
     change K (Act.put _ none undef) (World.setCells wABCD s 0 [.int .i64 0,.slice ga 16 gk,.int .i64 0,.slice ha 11 hk',.bool false,.bool false,.bool false,.int .i64 0,.slice ia n ik,.slice none 0 0])
     simp only[Act.put]
     have R5:Hid ((wABCD.setCells s 0 [.int .i64 0,.slice ga 16 gk,.int .i64 0,.slice ha 11 hk',.bool false,.bool false,.bool false,.int .i64 0,.slice ia n ik,.slice none 0 0]).rangeAt s 0 [.int .i64 0,.slice ga 16 gk,.int .i64 0,.slice ha 11 hk',.bool false,.bool false,.bool false,.int .i64 0,.slice ia n ik,.slice none 0 0]):=World.rangeAt_setCells_same _ _ _ _ QABCD.out.th
     have M5:Hid (Mq (fun k=>k=s) wABCD (wABCD.setCells s 0 [.int .i64 0,.slice ga 16 gk,.int .i64 0,.slice ha 11 hk',.bool false,.bool false,.bool false,.int .i64 0,.slice ia n ik,.slice none 0 0])):=mq_cells s _ wABCD 0
     generalize wABCD.setCells s 0 [.int .i64 0,.slice ga 16 gk,.int .i64 0,.slice ha 11 hk',.bool false,.bool false,.bool false,.int .i64 0,.slice ia n ik,.slice none 0 0]=w5 at*
     refine hK.out _ _ trivial (fun _=>?_)
     clear hK K
     refine wpAnyH_done (by kernel_rfl) ?_ _
     have no:∀(v:Value) (ys:List Int),Nums wABCD W.heap.size v ys→Nums w5 W.heap.size v ys:=fun v ys h=>M5.out.nums h fun k e f=>by have:=(h.lt k e).1;have:=LT.out;omega
     have Q1:=no _ _ (QABCD.out.a _ rfl)
     have Q2:=no _ _ (QABCD.out.b _ rfl)
     have Q3:=no _ _ (QABCD.out.d _ rfl)
     have B5:Below w.heap.size w w5:=Mq.under B0.out (QABCD.out.mq.trans M5.out) fun k e=>by have:=HS.out;omega
     have LD:=run_loadVar_mid (P:=Tryz.prog) w5 s 0 178 [.int .i64 0,.slice ga 16 gk,.int .i64 0,.slice ha 11 hk',.bool false,.bool false,.bool false,.int .i64 0,.slice ia n ik,.slice none 0 0] _ R5.out Tryz.underlying178 rfl (by kernel_rfl)
     go_wp2_with fail
     refine bodyPost_ret (v:=.agg #[.int .i64 0,.slice ga 16 gk,.int .i64 0,.slice ha 11 hk',.bool false,.bool false,.bool false,.int .i64 0,.slice ia n ik,.slice none 0 0]) (by simp[results,Tryz.results128,asAddr];rw[LD]) rfl ?_
     rw[HE1.out,HE2.out]
     exact⟨_,_,_,_,rfl,⟨Q1.mono B0.out.size,Q2.mono B0.out.size,Q3.mono B0.out.size,Nums.nil _ _⟩,⟨AB.out,AD.out,Apt.swap (.inl rfl),BD.out,Apt.swap (.inl rfl),Apt.swap (.inl rfl)⟩,B5⟩
    exact AllReadyH.nil
   exact AllReadyH.nil
  refine AllReadyH.cons rfl (fun K hK=>?_) ?_
  ·rw[if_pos (by rfl)]
   go_simp
   have QAC:Hid (Nx W (wA.alloc (.cells #[] 2)) s zs (some vA) none (some (.slice (some ⟨wA.heap.size,0,none⟩) 0 0)) none):=QA.out.mkC LT.out (nums_none _ _ (Nat.le_refl _)) (al (Below.refl _ _) _)
   obtain⟨vC,hvC⟩:∃v,Value.slice (some ⟨wA.heap.size,0,none⟩) 0 0=v:=⟨_,rfl⟩
   obtain⟨wAC,hwAC⟩:∃w',wA.alloc (.cells #[] 2)=w':=⟨_,rfl⟩
   have HvC:∃g,vC=Value.slice (some ⟨g,0,none⟩) 0 0:=⟨_,hvC.symm⟩
   rw[hvC,hwAC]at QAC
   rw[hvC,hwAC]
   clear hvC hwAC
   refine hK.out _ _ trivial (fun _=>?_)
   clear hK K
   refine wpAnyH_ready (rs:=[1,4]) (by kernel_rfl) (by simp) ?_
   refine AllReadyH.cons rfl (fun K hK=>?_) ?_
   ·refine step_make rfl (.const (.int .i64 11)) (.const (.int .i64 11)) rfl 11 rfl rfl (by decide) ?_
    intro vB wACB n1 b1
    have QACB:Hid (Nx W wACB s zs (some vA) (some vB) (some vC) none):=QAC.out.mkB LT.out n1 b1
    clear n1 b1
    refine hK.out _ _ trivial (fun _=>?_)
    clear hK K
    change wpAnyH _ _ _ _ _ _ _ (Act.put _ (some 12) _) _
    simp only[Act.put,zT,zZ,zS]
    refine wpAnyH_ready (rs:=[4]) (by kernel_rfl) (by simp) ?_
    refine AllReadyH.cons rfl (fun K hK=>?_) ?_
    ·obtain⟨gC,hgC⟩:=HvC
     subst hgC
     refine step_app8 rfl (.tmp 13) (.tmp 14) rfl W.heap.size gC rfl (QACB.out.c rfl _ rfl) a n k zs rfl HL.out (HX.out _ QACB.out.mq).1 (HX.out _ QACB.out.mq).2 (by have:=H40.out;omega) QACB.out.mq.size ?_
     intro vD wACBD n1 g1 ho
     have QACBD:Hid (Nx W wACBD s zs (some vA) (some vB) (some (.slice (some ⟨gC,0,none⟩) 0 0)) (some vD)):=QACB.out.app LT.out n1 g1 ho
     clear n1 g1 ho
     refine hK.out _ _ trivial (fun _=>?_)
     clear hK K
     change wpAnyH _ _ _ _ _ _ _ (Act.put _ (some 15) _) _
     simp only[Act.put,zT,zZ,zS]
     obtain⟨ga,gk,hga,_⟩:=(QACBD.out.a _ rfl).shape
     obtain⟨ha,hk',hha,_⟩:=(QACBD.out.b _ rfl).shape
     obtain⟨ia,ik,hia,_⟩:=(QACBD.out.d _ rfl).shape
     rw[List.length_replicate]at hga hha
     have AB:Hid (Apt _ _):=QACBD.out.ab _ _ rfl rfl
     have AD:Hid (Apt _ _):=QACBD.out.ad _ _ rfl rfl
     have BD:Hid (Apt _ _):=QACBD.out.bd _ _ rfl rfl
     rw[HL.out]at hia
     subst hga hha hia
     refine wpTe 5 16 (.agg #[.slice ga 16 gk,.int .i64 0,.slice ha 11 hk',.bool false,.bool false,.bool false,.int .i64 0,.slice ia n ik,.slice none 0 0]) rfl (Or.inl ⟨by rfl,fun w' _=>by go_simp⟩) trivial ?_
     simp only[Act.put,zT,zZ,zS]
     refine wpTe 6 17 (.agg #[.int .i64 0,.slice ga 16 gk,.int .i64 0,.slice ha 11 hk',.bool false,.bool false,.bool false,.int .i64 0,.slice ia n ik,.slice none 0 0]) rfl (Or.inl ⟨by rfl,fun w' _=>by go_simp⟩) trivial ?_
     simp only[Act.put,zT,zZ,zS]
     refine zR 7 rfl fun K hK=>?_
     rw[if_pos (by rfl)]
     refine wp_store_mid 178 (.tmp 2) (.tmp 17) rfl s 0 #[.int .i64 0,.slice ga 16 gk,.int .i64 0,.slice ha 11 hk',.bool false,.bool false,.bool false,.int .i64 0,.slice ia n ik,.slice none 0 0] rfl rfl QACBD.out.th (by kernel_rfl) (by simp[Value.oneCell']) ?_
     change K (Act.put _ none undef) (World.setCells wACBD s 0 [.int .i64 0,.slice ga 16 gk,.int .i64 0,.slice ha 11 hk',.bool false,.bool false,.bool false,.int .i64 0,.slice ia n ik,.slice none 0 0])
     simp only[Act.put]
     have R5:Hid ((wACBD.setCells s 0 [.int .i64 0,.slice ga 16 gk,.int .i64 0,.slice ha 11 hk',.bool false,.bool false,.bool false,.int .i64 0,.slice ia n ik,.slice none 0 0]).rangeAt s 0 [.int .i64 0,.slice ga 16 gk,.int .i64 0,.slice ha 11 hk',.bool false,.bool false,.bool false,.int .i64 0,.slice ia n ik,.slice none 0 0]):=World.rangeAt_setCells_same _ _ _ _ QACBD.out.th
     have M5:Hid (Mq (fun k=>k=s) wACBD (wACBD.setCells s 0 [.int .i64 0,.slice ga 16 gk,.int .i64 0,.slice ha 11 hk',.bool false,.bool false,.bool false,.int .i64 0,.slice ia n ik,.slice none 0 0])):=mq_cells s _ wACBD 0
     generalize wACBD.setCells s 0 [.int .i64 0,.slice ga 16 gk,.int .i64 0,.slice ha 11 hk',.bool false,.bool false,.bool false,.int .i64 0,.slice ia n ik,.slice none 0 0]=w5 at*
     refine hK.out _ _ trivial (fun _=>?_)
     clear hK K
     refine wpAnyH_done (by kernel_rfl) ?_ _
     have no:∀(v:Value) (ys:List Int),Nums wACBD W.heap.size v ys→Nums w5 W.heap.size v ys:=fun v ys h=>M5.out.nums h fun k e f=>by have:=(h.lt k e).1;have:=LT.out;omega
     have Q1:=no _ _ (QACBD.out.a _ rfl)
     have Q2:=no _ _ (QACBD.out.b _ rfl)
     have Q3:=no _ _ (QACBD.out.d _ rfl)
     have B5:Below w.heap.size w w5:=Mq.under B0.out (QACBD.out.mq.trans M5.out) fun k e=>by have:=HS.out;omega
     have LD:=run_loadVar_mid (P:=Tryz.prog) w5 s 0 178 [.int .i64 0,.slice ga 16 gk,.int .i64 0,.slice ha 11 hk',.bool false,.bool false,.bool false,.int .i64 0,.slice ia n ik,.slice none 0 0] _ R5.out Tryz.underlying178 rfl (by kernel_rfl)
     go_wp2_with fail
     refine bodyPost_ret (v:=.agg #[.int .i64 0,.slice ga 16 gk,.int .i64 0,.slice ha 11 hk',.bool false,.bool false,.bool false,.int .i64 0,.slice ia n ik,.slice none 0 0]) (by simp[results,Tryz.results128,asAddr];rw[LD]) rfl ?_
     rw[HE1.out,HE2.out]
     exact⟨_,_,_,_,rfl,⟨Q1.mono B0.out.size,Q2.mono B0.out.size,Q3.mono B0.out.size,Nums.nil _ _⟩,⟨AB.out,AD.out,Apt.swap (.inl rfl),BD.out,Apt.swap (.inl rfl),Apt.swap (.inl rfl)⟩,B5⟩
    exact AllReadyH.nil
   refine AllReadyH.cons rfl (fun K hK=>?_) ?_
   ·obtain⟨gC,hgC⟩:=HvC
    subst hgC
    refine step_app8 rfl (.tmp 13) (.tmp 14) rfl W.heap.size gC rfl (QAC.out.c rfl _ rfl) a n k zs rfl HL.out (HX.out _ QAC.out.mq).1 (HX.out _ QAC.out.mq).2 (by have:=H40.out;omega) QAC.out.mq.size ?_
    intro vD wACD n1 g1 ho
    have QACD:Hid (Nx W wACD s zs (some vA) none (some (.slice (some ⟨gC,0,none⟩) 0 0)) (some vD)):=QAC.out.app LT.out n1 g1 ho
    clear n1 g1 ho
    refine hK.out _ _ trivial (fun _=>?_)
    clear hK K
    change wpAnyH _ _ _ _ _ _ _ (Act.put _ (some 15) _) _
    simp only[Act.put,zT,zZ,zS]
    refine wpAnyH_ready (rs:=[1]) (by kernel_rfl) (by simp) ?_
    refine AllReadyH.cons rfl (fun K hK=>?_) ?_
    ·refine step_make rfl (.const (.int .i64 11)) (.const (.int .i64 11)) rfl 11 rfl rfl (by decide) ?_
     intro vB wACDB n1 b1
     have QACDB:Hid (Nx W wACDB s zs (some vA) (some vB) (some (.slice (some ⟨gC,0,none⟩) 0 0)) (some vD)):=QACD.out.mkB LT.out n1 b1
     clear n1 b1
     refine hK.out _ _ trivial (fun _=>?_)
     clear hK K
     change wpAnyH _ _ _ _ _ _ _ (Act.put _ (some 12) _) _
     simp only[Act.put,zT,zZ,zS]
     obtain⟨ga,gk,hga,_⟩:=(QACDB.out.a _ rfl).shape
     obtain⟨ha,hk',hha,_⟩:=(QACDB.out.b _ rfl).shape
     obtain⟨ia,ik,hia,_⟩:=(QACDB.out.d _ rfl).shape
     rw[List.length_replicate]at hga hha
     have AB:Hid (Apt _ _):=QACDB.out.ab _ _ rfl rfl
     have AD:Hid (Apt _ _):=QACDB.out.ad _ _ rfl rfl
     have BD:Hid (Apt _ _):=QACDB.out.bd _ _ rfl rfl
     rw[HL.out]at hia
     subst hga hha hia
     refine wpTe 5 16 (.agg #[.slice ga 16 gk,.int .i64 0,.slice ha 11 hk',.bool false,.bool false,.bool false,.int .i64 0,.slice ia n ik,.slice none 0 0]) rfl (Or.inl ⟨by rfl,fun w' _=>by go_simp⟩) trivial ?_
     simp only[Act.put,zT,zZ,zS]
     refine wpTe 6 17 (.agg #[.int .i64 0,.slice ga 16 gk,.int .i64 0,.slice ha 11 hk',.bool false,.bool false,.bool false,.int .i64 0,.slice ia n ik,.slice none 0 0]) rfl (Or.inl ⟨by rfl,fun w' _=>by go_simp⟩) trivial ?_
     simp only[Act.put,zT,zZ,zS]
     refine zR 7 rfl fun K hK=>?_
     rw[if_pos (by rfl)]
     refine wp_store_mid 178 (.tmp 2) (.tmp 17) rfl s 0 #[.int .i64 0,.slice ga 16 gk,.int .i64 0,.slice ha 11 hk',.bool false,.bool false,.bool false,.int .i64 0,.slice ia n ik,.slice none 0 0] rfl rfl QACDB.out.th (by kernel_rfl) (by simp[Value.oneCell']) ?_
     change K (Act.put _ none undef) (World.setCells wACDB s 0 [.int .i64 0,.slice ga 16 gk,.int .i64 0,.slice ha 11 hk',.bool false,.bool false,.bool false,.int .i64 0,.slice ia n ik,.slice none 0 0])
     simp only[Act.put]
     have R5:Hid ((wACDB.setCells s 0 [.int .i64 0,.slice ga 16 gk,.int .i64 0,.slice ha 11 hk',.bool false,.bool false,.bool false,.int .i64 0,.slice ia n ik,.slice none 0 0]).rangeAt s 0 [.int .i64 0,.slice ga 16 gk,.int .i64 0,.slice ha 11 hk',.bool false,.bool false,.bool false,.int .i64 0,.slice ia n ik,.slice none 0 0]):=World.rangeAt_setCells_same _ _ _ _ QACDB.out.th
     have M5:Hid (Mq (fun k=>k=s) wACDB (wACDB.setCells s 0 [.int .i64 0,.slice ga 16 gk,.int .i64 0,.slice ha 11 hk',.bool false,.bool false,.bool false,.int .i64 0,.slice ia n ik,.slice none 0 0])):=mq_cells s _ wACDB 0
     generalize wACDB.setCells s 0 [.int .i64 0,.slice ga 16 gk,.int .i64 0,.slice ha 11 hk',.bool false,.bool false,.bool false,.int .i64 0,.slice ia n ik,.slice none 0 0]=w5 at*
     refine hK.out _ _ trivial (fun _=>?_)
     clear hK K
     refine wpAnyH_done (by kernel_rfl) ?_ _
     have no:∀(v:Value) (ys:List Int),Nums wACDB W.heap.size v ys→Nums w5 W.heap.size v ys:=fun v ys h=>M5.out.nums h fun k e f=>by have:=(h.lt k e).1;have:=LT.out;omega
     have Q1:=no _ _ (QACDB.out.a _ rfl)
     have Q2:=no _ _ (QACDB.out.b _ rfl)
     have Q3:=no _ _ (QACDB.out.d _ rfl)
     have B5:Below w.heap.size w w5:=Mq.under B0.out (QACDB.out.mq.trans M5.out) fun k e=>by have:=HS.out;omega
     have LD:=run_loadVar_mid (P:=Tryz.prog) w5 s 0 178 [.int .i64 0,.slice ga 16 gk,.int .i64 0,.slice ha 11 hk',.bool false,.bool false,.bool false,.int .i64 0,.slice ia n ik,.slice none 0 0] _ R5.out Tryz.underlying178 rfl (by kernel_rfl)
     go_wp2_with fail
     refine bodyPost_ret (v:=.agg #[.int .i64 0,.slice ga 16 gk,.int .i64 0,.slice ha 11 hk',.bool false,.bool false,.bool false,.int .i64 0,.slice ia n ik,.slice none 0 0]) (by simp[results,Tryz.results128,asAddr];rw[LD]) rfl ?_
     rw[HE1.out,HE2.out]
     exact⟨_,_,_,_,rfl,⟨Q1.mono B0.out.size,Q2.mono B0.out.size,Q3.mono B0.out.size,Nums.nil _ _⟩,⟨AB.out,AD.out,Apt.swap (.inl rfl),BD.out,Apt.swap (.inl rfl),Apt.swap (.inl rfl)⟩,B5⟩
    exact AllReadyH.nil
   exact AllReadyH.nil
  exact AllReadyH.nil
 refine AllReadyH.cons rfl (fun K hK=>?_) ?_
 ·refine step_make rfl (.const (.int .i64 11)) (.const (.int .i64 11)) rfl 11 rfl rfl (by decide) ?_
  intro vB wB n1 b1
  have QB:Hid (Nx W wB s zs none (some vB) none none):=Q0.out.mkB LT.out n1 b1
  clear n1 b1
  refine hK.out _ _ trivial (fun _=>?_)
  clear hK K
  change wpAnyH _ _ _ _ _ _ _ (Act.put _ (some 12) _) _
  simp only[Act.put,zT,zZ,zS]
  refine wpAnyH_ready (rs:=[0,2]) (by kernel_rfl) (by simp) ?_
  refine AllReadyH.cons rfl (fun K hK=>?_) ?_
  ·refine step_make rfl (.const (.int .i64 16)) (.const (.int .i64 16)) rfl 16 rfl rfl (by decide) ?_
   intro vA wBA n1 b1
   have QBA:Hid (Nx W wBA s zs (some vA) (some vB) none none):=QB.out.mkA LT.out n1 b1
   clear n1 b1
   refine hK.out _ _ trivial (fun _=>?_)
   clear hK K
   change wpAnyH _ _ _ _ _ _ _ (Act.put _ (some 11) _) _
   simp only[Act.put,zT,zZ,zS]
   refine wpAnyH_ready (rs:=[2]) (by kernel_rfl) (by simp) ?_
   refine AllReadyH.cons rfl (fun K hK=>?_) ?_
   ·rw[if_pos (by rfl)]
    go_simp
    have QBAC:Hid (Nx W (wBA.alloc (.cells #[] 2)) s zs (some vA) (some vB) (some (.slice (some ⟨wBA.heap.size,0,none⟩) 0 0)) none):=QBA.out.mkC LT.out (nums_none _ _ (Nat.le_refl _)) (al (Below.refl _ _) _)
    obtain⟨vC,hvC⟩:∃v,Value.slice (some ⟨wBA.heap.size,0,none⟩) 0 0=v:=⟨_,rfl⟩
    obtain⟨wBAC,hwBAC⟩:∃w',wBA.alloc (.cells #[] 2)=w':=⟨_,rfl⟩
    have HvC:∃g,vC=Value.slice (some ⟨g,0,none⟩) 0 0:=⟨_,hvC.symm⟩
    rw[hvC,hwBAC]at QBAC
    rw[hvC,hwBAC]
    clear hvC hwBAC
    refine hK.out _ _ trivial (fun _=>?_)
    clear hK K
    refine wpAnyH_ready (rs:=[4]) (by kernel_rfl) (by simp) ?_
    refine AllReadyH.cons rfl (fun K hK=>?_) ?_
    ·obtain⟨gC,hgC⟩:=HvC
     subst hgC
     refine step_app8 rfl (.tmp 13) (.tmp 14) rfl W.heap.size gC rfl (QBAC.out.c rfl _ rfl) a n k zs rfl HL.out (HX.out _ QBAC.out.mq).1 (HX.out _ QBAC.out.mq).2 (by have:=H40.out;omega) QBAC.out.mq.size ?_
     intro vD wBACD n1 g1 ho
     have QBACD:Hid (Nx W wBACD s zs (some vA) (some vB) (some (.slice (some ⟨gC,0,none⟩) 0 0)) (some vD)):=QBAC.out.app LT.out n1 g1 ho
     clear n1 g1 ho
     refine hK.out _ _ trivial (fun _=>?_)
     clear hK K
     change wpAnyH _ _ _ _ _ _ _ (Act.put _ (some 15) _) _
     simp only[Act.put,zT,zZ,zS]
     obtain⟨ga,gk,hga,_⟩:=(QBACD.out.a _ rfl).shape
     obtain⟨ha,hk',hha,_⟩:=(QBACD.out.b _ rfl).shape
     obtain⟨ia,ik,hia,_⟩:=(QBACD.out.d _ rfl).shape
     rw[List.length_replicate]at hga hha
     have AB:Hid (Apt _ _):=QBACD.out.ab _ _ rfl rfl
     have AD:Hid (Apt _ _):=QBACD.out.ad _ _ rfl rfl
     have BD:Hid (Apt _ _):=QBACD.out.bd _ _ rfl rfl
     rw[HL.out]at hia
     subst hga hha hia
     refine wpTe 5 16 (.agg #[.slice ga 16 gk,.int .i64 0,.slice ha 11 hk',.bool false,.bool false,.bool false,.int .i64 0,.slice ia n ik,.slice none 0 0]) rfl (Or.inl ⟨by rfl,fun w' _=>by go_simp⟩) trivial ?_
     simp only[Act.put,zT,zZ,zS]
     refine wpTe 6 17 (.agg #[.int .i64 0,.slice ga 16 gk,.int .i64 0,.slice ha 11 hk',.bool false,.bool false,.bool false,.int .i64 0,.slice ia n ik,.slice none 0 0]) rfl (Or.inl ⟨by rfl,fun w' _=>by go_simp⟩) trivial ?_
     simp only[Act.put,zT,zZ,zS]
     refine zR 7 rfl fun K hK=>?_
     rw[if_pos (by rfl)]
     refine wp_store_mid 178 (.tmp 2) (.tmp 17) rfl s 0 #[.int .i64 0,.slice ga 16 gk,.int .i64 0,.slice ha 11 hk',.bool false,.bool false,.bool false,.int .i64 0,.slice ia n ik,.slice none 0 0] rfl rfl QBACD.out.th (by kernel_rfl) (by simp[Value.oneCell']) ?_
     change K (Act.put _ none undef) (World.setCells wBACD s 0 [.int .i64 0,.slice ga 16 gk,.int .i64 0,.slice ha 11 hk',.bool false,.bool false,.bool false,.int .i64 0,.slice ia n ik,.slice none 0 0])
     simp only[Act.put]
     have R5:Hid ((wBACD.setCells s 0 [.int .i64 0,.slice ga 16 gk,.int .i64 0,.slice ha 11 hk',.bool false,.bool false,.bool false,.int .i64 0,.slice ia n ik,.slice none 0 0]).rangeAt s 0 [.int .i64 0,.slice ga 16 gk,.int .i64 0,.slice ha 11 hk',.bool false,.bool false,.bool false,.int .i64 0,.slice ia n ik,.slice none 0 0]):=World.rangeAt_setCells_same _ _ _ _ QBACD.out.th
     have M5:Hid (Mq (fun k=>k=s) wBACD (wBACD.setCells s 0 [.int .i64 0,.slice ga 16 gk,.int .i64 0,.slice ha 11 hk',.bool false,.bool false,.bool false,.int .i64 0,.slice ia n ik,.slice none 0 0])):=mq_cells s _ wBACD 0
     generalize wBACD.setCells s 0 [.int .i64 0,.slice ga 16 gk,.int .i64 0,.slice ha 11 hk',.bool false,.bool false,.bool false,.int .i64 0,.slice ia n ik,.slice none 0 0]=w5 at*
     refine hK.out _ _ trivial (fun _=>?_)
     clear hK K
     refine wpAnyH_done (by kernel_rfl) ?_ _
     have no:∀(v:Value) (ys:List Int),Nums wBACD W.heap.size v ys→Nums w5 W.heap.size v ys:=fun v ys h=>M5.out.nums h fun k e f=>by have:=(h.lt k e).1;have:=LT.out;omega
     have Q1:=no _ _ (QBACD.out.a _ rfl)
     have Q2:=no _ _ (QBACD.out.b _ rfl)
     have Q3:=no _ _ (QBACD.out.d _ rfl)
     have B5:Below w.heap.size w w5:=Mq.under B0.out (QBACD.out.mq.trans M5.out) fun k e=>by have:=HS.out;omega
     have LD:=run_loadVar_mid (P:=Tryz.prog) w5 s 0 178 [.int .i64 0,.slice ga 16 gk,.int .i64 0,.slice ha 11 hk',.bool false,.bool false,.bool false,.int .i64 0,.slice ia n ik,.slice none 0 0] _ R5.out Tryz.underlying178 rfl (by kernel_rfl)
     go_wp2_with fail
     refine bodyPost_ret (v:=.agg #[.int .i64 0,.slice ga 16 gk,.int .i64 0,.slice ha 11 hk',.bool false,.bool false,.bool false,.int .i64 0,.slice ia n ik,.slice none 0 0]) (by simp[results,Tryz.results128,asAddr];rw[LD]) rfl ?_
     rw[HE1.out,HE2.out]
     exact⟨_,_,_,_,rfl,⟨Q1.mono B0.out.size,Q2.mono B0.out.size,Q3.mono B0.out.size,Nums.nil _ _⟩,⟨AB.out,AD.out,Apt.swap (.inl rfl),BD.out,Apt.swap (.inl rfl),Apt.swap (.inl rfl)⟩,B5⟩
    exact AllReadyH.nil
   exact AllReadyH.nil
  refine AllReadyH.cons rfl (fun K hK=>?_) ?_
  ·rw[if_pos (by rfl)]
   go_simp
   have QBC:Hid (Nx W (wB.alloc (.cells #[] 2)) s zs none (some vB) (some (.slice (some ⟨wB.heap.size,0,none⟩) 0 0)) none):=QB.out.mkC LT.out (nums_none _ _ (Nat.le_refl _)) (al (Below.refl _ _) _)
   obtain⟨vC,hvC⟩:∃v,Value.slice (some ⟨wB.heap.size,0,none⟩) 0 0=v:=⟨_,rfl⟩
   obtain⟨wBC,hwBC⟩:∃w',wB.alloc (.cells #[] 2)=w':=⟨_,rfl⟩
   have HvC:∃g,vC=Value.slice (some ⟨g,0,none⟩) 0 0:=⟨_,hvC.symm⟩
   rw[hvC,hwBC]at QBC
   rw[hvC,hwBC]
   clear hvC hwBC
   refine hK.out _ _ trivial (fun _=>?_)
   clear hK K
   refine wpAnyH_ready (rs:=[0,4]) (by kernel_rfl) (by simp) ?_
   refine AllReadyH.cons rfl (fun K hK=>?_) ?_
   ·refine step_make rfl (.const (.int .i64 16)) (.const (.int .i64 16)) rfl 16 rfl rfl (by decide) ?_
    intro vA wBCA n1 b1
    have QBCA:Hid (Nx W wBCA s zs (some vA) (some vB) (some vC) none):=QBC.out.mkA LT.out n1 b1
    clear n1 b1
    refine hK.out _ _ trivial (fun _=>?_)
    clear hK K
    change wpAnyH _ _ _ _ _ _ _ (Act.put _ (some 11) _) _
    simp only[Act.put,zT,zZ,zS]
    refine wpAnyH_ready (rs:=[4]) (by kernel_rfl) (by simp) ?_
    refine AllReadyH.cons rfl (fun K hK=>?_) ?_
    ·obtain⟨gC,hgC⟩:=HvC
     subst hgC
     refine step_app8 rfl (.tmp 13) (.tmp 14) rfl W.heap.size gC rfl (QBCA.out.c rfl _ rfl) a n k zs rfl HL.out (HX.out _ QBCA.out.mq).1 (HX.out _ QBCA.out.mq).2 (by have:=H40.out;omega) QBCA.out.mq.size ?_
     intro vD wBCAD n1 g1 ho
     have QBCAD:Hid (Nx W wBCAD s zs (some vA) (some vB) (some (.slice (some ⟨gC,0,none⟩) 0 0)) (some vD)):=QBCA.out.app LT.out n1 g1 ho
     clear n1 g1 ho
     refine hK.out _ _ trivial (fun _=>?_)
     clear hK K
     change wpAnyH _ _ _ _ _ _ _ (Act.put _ (some 15) _) _
     simp only[Act.put,zT,zZ,zS]
     obtain⟨ga,gk,hga,_⟩:=(QBCAD.out.a _ rfl).shape
     obtain⟨ha,hk',hha,_⟩:=(QBCAD.out.b _ rfl).shape
     obtain⟨ia,ik,hia,_⟩:=(QBCAD.out.d _ rfl).shape
     rw[List.length_replicate]at hga hha
     have AB:Hid (Apt _ _):=QBCAD.out.ab _ _ rfl rfl
     have AD:Hid (Apt _ _):=QBCAD.out.ad _ _ rfl rfl
     have BD:Hid (Apt _ _):=QBCAD.out.bd _ _ rfl rfl
     rw[HL.out]at hia
     subst hga hha hia
     refine wpTe 5 16 (.agg #[.slice ga 16 gk,.int .i64 0,.slice ha 11 hk',.bool false,.bool false,.bool false,.int .i64 0,.slice ia n ik,.slice none 0 0]) rfl (Or.inl ⟨by rfl,fun w' _=>by go_simp⟩) trivial ?_
     simp only[Act.put,zT,zZ,zS]
     refine wpTe 6 17 (.agg #[.int .i64 0,.slice ga 16 gk,.int .i64 0,.slice ha 11 hk',.bool false,.bool false,.bool false,.int .i64 0,.slice ia n ik,.slice none 0 0]) rfl (Or.inl ⟨by rfl,fun w' _=>by go_simp⟩) trivial ?_
     simp only[Act.put,zT,zZ,zS]
     refine zR 7 rfl fun K hK=>?_
     rw[if_pos (by rfl)]
     refine wp_store_mid 178 (.tmp 2) (.tmp 17) rfl s 0 #[.int .i64 0,.slice ga 16 gk,.int .i64 0,.slice ha 11 hk',.bool false,.bool false,.bool false,.int .i64 0,.slice ia n ik,.slice none 0 0] rfl rfl QBCAD.out.th (by kernel_rfl) (by simp[Value.oneCell']) ?_
     change K (Act.put _ none undef) (World.setCells wBCAD s 0 [.int .i64 0,.slice ga 16 gk,.int .i64 0,.slice ha 11 hk',.bool false,.bool false,.bool false,.int .i64 0,.slice ia n ik,.slice none 0 0])
     simp only[Act.put]
     have R5:Hid ((wBCAD.setCells s 0 [.int .i64 0,.slice ga 16 gk,.int .i64 0,.slice ha 11 hk',.bool false,.bool false,.bool false,.int .i64 0,.slice ia n ik,.slice none 0 0]).rangeAt s 0 [.int .i64 0,.slice ga 16 gk,.int .i64 0,.slice ha 11 hk',.bool false,.bool false,.bool false,.int .i64 0,.slice ia n ik,.slice none 0 0]):=World.rangeAt_setCells_same _ _ _ _ QBCAD.out.th
     have M5:Hid (Mq (fun k=>k=s) wBCAD (wBCAD.setCells s 0 [.int .i64 0,.slice ga 16 gk,.int .i64 0,.slice ha 11 hk',.bool false,.bool false,.bool false,.int .i64 0,.slice ia n ik,.slice none 0 0])):=mq_cells s _ wBCAD 0
     generalize wBCAD.setCells s 0 [.int .i64 0,.slice ga 16 gk,.int .i64 0,.slice ha 11 hk',.bool false,.bool false,.bool false,.int .i64 0,.slice ia n ik,.slice none 0 0]=w5 at*
     refine hK.out _ _ trivial (fun _=>?_)
     clear hK K
     refine wpAnyH_done (by kernel_rfl) ?_ _
     have no:∀(v:Value) (ys:List Int),Nums wBCAD W.heap.size v ys→Nums w5 W.heap.size v ys:=fun v ys h=>M5.out.nums h fun k e f=>by have:=(h.lt k e).1;have:=LT.out;omega
     have Q1:=no _ _ (QBCAD.out.a _ rfl)
     have Q2:=no _ _ (QBCAD.out.b _ rfl)
     have Q3:=no _ _ (QBCAD.out.d _ rfl)
     have B5:Below w.heap.size w w5:=Mq.under B0.out (QBCAD.out.mq.trans M5.out) fun k e=>by have:=HS.out;omega
     have LD:=run_loadVar_mid (P:=Tryz.prog) w5 s 0 178 [.int .i64 0,.slice ga 16 gk,.int .i64 0,.slice ha 11 hk',.bool false,.bool false,.bool false,.int .i64 0,.slice ia n ik,.slice none 0 0] _ R5.out Tryz.underlying178 rfl (by kernel_rfl)
     go_wp2_with fail
     refine bodyPost_ret (v:=.agg #[.int .i64 0,.slice ga 16 gk,.int .i64 0,.slice ha 11 hk',.bool false,.bool false,.bool false,.int .i64 0,.slice ia n ik,.slice none 0 0]) (by simp[results,Tryz.results128,asAddr];rw[LD]) rfl ?_
     rw[HE1.out,HE2.out]
     exact⟨_,_,_,_,rfl,⟨Q1.mono B0.out.size,Q2.mono B0.out.size,Q3.mono B0.out.size,Nums.nil _ _⟩,⟨AB.out,AD.out,Apt.swap (.inl rfl),BD.out,Apt.swap (.inl rfl),Apt.swap (.inl rfl)⟩,B5⟩
    exact AllReadyH.nil
   refine AllReadyH.cons rfl (fun K hK=>?_) ?_
   ·obtain⟨gC,hgC⟩:=HvC
    subst hgC
    refine step_app8 rfl (.tmp 13) (.tmp 14) rfl W.heap.size gC rfl (QBC.out.c rfl _ rfl) a n k zs rfl HL.out (HX.out _ QBC.out.mq).1 (HX.out _ QBC.out.mq).2 (by have:=H40.out;omega) QBC.out.mq.size ?_
    intro vD wBCD n1 g1 ho
    have QBCD:Hid (Nx W wBCD s zs none (some vB) (some (.slice (some ⟨gC,0,none⟩) 0 0)) (some vD)):=QBC.out.app LT.out n1 g1 ho
    clear n1 g1 ho
    refine hK.out _ _ trivial (fun _=>?_)
    clear hK K
    change wpAnyH _ _ _ _ _ _ _ (Act.put _ (some 15) _) _
    simp only[Act.put,zT,zZ,zS]
    refine wpAnyH_ready (rs:=[0]) (by kernel_rfl) (by simp) ?_
    refine AllReadyH.cons rfl (fun K hK=>?_) ?_
    ·refine step_make rfl (.const (.int .i64 16)) (.const (.int .i64 16)) rfl 16 rfl rfl (by decide) ?_
     intro vA wBCDA n1 b1
     have QBCDA:Hid (Nx W wBCDA s zs (some vA) (some vB) (some (.slice (some ⟨gC,0,none⟩) 0 0)) (some vD)):=QBCD.out.mkA LT.out n1 b1
     clear n1 b1
     refine hK.out _ _ trivial (fun _=>?_)
     clear hK K
     change wpAnyH _ _ _ _ _ _ _ (Act.put _ (some 11) _) _
     simp only[Act.put,zT,zZ,zS]
     obtain⟨ga,gk,hga,_⟩:=(QBCDA.out.a _ rfl).shape
     obtain⟨ha,hk',hha,_⟩:=(QBCDA.out.b _ rfl).shape
     obtain⟨ia,ik,hia,_⟩:=(QBCDA.out.d _ rfl).shape
     rw[List.length_replicate]at hga hha
     have AB:Hid (Apt _ _):=QBCDA.out.ab _ _ rfl rfl
     have AD:Hid (Apt _ _):=QBCDA.out.ad _ _ rfl rfl
     have BD:Hid (Apt _ _):=QBCDA.out.bd _ _ rfl rfl
     rw[HL.out]at hia
     subst hga hha hia
     refine wpTe 5 16 (.agg #[.slice ga 16 gk,.int .i64 0,.slice ha 11 hk',.bool false,.bool false,.bool false,.int .i64 0,.slice ia n ik,.slice none 0 0]) rfl (Or.inl ⟨by rfl,fun w' _=>by go_simp⟩) trivial ?_
     simp only[Act.put,zT,zZ,zS]
     refine wpTe 6 17 (.agg #[.int .i64 0,.slice ga 16 gk,.int .i64 0,.slice ha 11 hk',.bool false,.bool false,.bool false,.int .i64 0,.slice ia n ik,.slice none 0 0]) rfl (Or.inl ⟨by rfl,fun w' _=>by go_simp⟩) trivial ?_
     simp only[Act.put,zT,zZ,zS]
     refine zR 7 rfl fun K hK=>?_
     rw[if_pos (by rfl)]
     refine wp_store_mid 178 (.tmp 2) (.tmp 17) rfl s 0 #[.int .i64 0,.slice ga 16 gk,.int .i64 0,.slice ha 11 hk',.bool false,.bool false,.bool false,.int .i64 0,.slice ia n ik,.slice none 0 0] rfl rfl QBCDA.out.th (by kernel_rfl) (by simp[Value.oneCell']) ?_
     change K (Act.put _ none undef) (World.setCells wBCDA s 0 [.int .i64 0,.slice ga 16 gk,.int .i64 0,.slice ha 11 hk',.bool false,.bool false,.bool false,.int .i64 0,.slice ia n ik,.slice none 0 0])
     simp only[Act.put]
     have R5:Hid ((wBCDA.setCells s 0 [.int .i64 0,.slice ga 16 gk,.int .i64 0,.slice ha 11 hk',.bool false,.bool false,.bool false,.int .i64 0,.slice ia n ik,.slice none 0 0]).rangeAt s 0 [.int .i64 0,.slice ga 16 gk,.int .i64 0,.slice ha 11 hk',.bool false,.bool false,.bool false,.int .i64 0,.slice ia n ik,.slice none 0 0]):=World.rangeAt_setCells_same _ _ _ _ QBCDA.out.th
     have M5:Hid (Mq (fun k=>k=s) wBCDA (wBCDA.setCells s 0 [.int .i64 0,.slice ga 16 gk,.int .i64 0,.slice ha 11 hk',.bool false,.bool false,.bool false,.int .i64 0,.slice ia n ik,.slice none 0 0])):=mq_cells s _ wBCDA 0
     generalize wBCDA.setCells s 0 [.int .i64 0,.slice ga 16 gk,.int .i64 0,.slice ha 11 hk',.bool false,.bool false,.bool false,.int .i64 0,.slice ia n ik,.slice none 0 0]=w5 at*
     refine hK.out _ _ trivial (fun _=>?_)
     clear hK K
     refine wpAnyH_done (by kernel_rfl) ?_ _
     have no:∀(v:Value) (ys:List Int),Nums wBCDA W.heap.size v ys→Nums w5 W.heap.size v ys:=fun v ys h=>M5.out.nums h fun k e f=>by have:=(h.lt k e).1;have:=LT.out;omega
     have Q1:=no _ _ (QBCDA.out.a _ rfl)
     have Q2:=no _ _ (QBCDA.out.b _ rfl)
     have Q3:=no _ _ (QBCDA.out.d _ rfl)
     have B5:Below w.heap.size w w5:=Mq.under B0.out (QBCDA.out.mq.trans M5.out) fun k e=>by have:=HS.out;omega
     have LD:=run_loadVar_mid (P:=Tryz.prog) w5 s 0 178 [.int .i64 0,.slice ga 16 gk,.int .i64 0,.slice ha 11 hk',.bool false,.bool false,.bool false,.int .i64 0,.slice ia n ik,.slice none 0 0] _ R5.out Tryz.underlying178 rfl (by kernel_rfl)
     go_wp2_with fail
     refine bodyPost_ret (v:=.agg #[.int .i64 0,.slice ga 16 gk,.int .i64 0,.slice ha 11 hk',.bool false,.bool false,.bool false,.int .i64 0,.slice ia n ik,.slice none 0 0]) (by simp[results,Tryz.results128,asAddr];rw[LD]) rfl ?_
     rw[HE1.out,HE2.out]
     exact⟨_,_,_,_,rfl,⟨Q1.mono B0.out.size,Q2.mono B0.out.size,Q3.mono B0.out.size,Nums.nil _ _⟩,⟨AB.out,AD.out,Apt.swap (.inl rfl),BD.out,Apt.swap (.inl rfl),Apt.swap (.inl rfl)⟩,B5⟩
    exact AllReadyH.nil
   exact AllReadyH.nil
  exact AllReadyH.nil
 refine AllReadyH.cons rfl (fun K hK=>?_) ?_
 ·rw[if_pos (by rfl)]
  go_simp
  have QC:Hid (Nx W (W.drew.alloc (.cells #[] 2)) s zs none none (some (.slice (some ⟨W.drew.heap.size,0,none⟩) 0 0)) none):=Q0.out.mkC LT.out (nums_none _ _ (Nat.le_refl _)) (al (Below.refl _ _) _)
  have QC:Hid (Nx W ((W.alloc (.cells #[] 2)).drew) s zs none none (some (Value.slice (some ⟨W.heap.size,0,none⟩) 0 0)) none):=QC.out
  obtain⟨vC,hvC⟩:∃v,Value.slice (some ⟨W.heap.size,0,none⟩) 0 0=v:=⟨_,rfl⟩
  obtain⟨wC,hwC⟩:∃w',(W.alloc (.cells #[] 2)).drew=w':=⟨_,rfl⟩
  have HvC:∃g,vC=Value.slice (some ⟨g,0,none⟩) 0 0:=⟨_,hvC.symm⟩
  rw[hvC,hwC]at QC
  rw[hvC,hwC]
  clear hvC hwC
  refine hK.out _ _ trivial (fun _=>?_)
  clear hK K
  refine wpAnyH_ready (rs:=[0,1,4]) (by kernel_rfl) (by simp) ?_
  refine AllReadyH.cons rfl (fun K hK=>?_) ?_
  ·refine step_make rfl (.const (.int .i64 16)) (.const (.int .i64 16)) rfl 16 rfl rfl (by decide) ?_
   intro vA wCA n1 b1
   have QCA:Hid (Nx W wCA s zs (some vA) none (some vC) none):=QC.out.mkA LT.out n1 b1
   clear n1 b1
   refine hK.out _ _ trivial (fun _=>?_)
   clear hK K
   change wpAnyH _ _ _ _ _ _ _ (Act.put _ (some 11) _) _
   simp only[Act.put,zT,zZ,zS]
   refine wpAnyH_ready (rs:=[1,4]) (by kernel_rfl) (by simp) ?_
   refine AllReadyH.cons rfl (fun K hK=>?_) ?_
   ·refine step_make rfl (.const (.int .i64 11)) (.const (.int .i64 11)) rfl 11 rfl rfl (by decide) ?_
    intro vB wCAB n1 b1
    have QCAB:Hid (Nx W wCAB s zs (some vA) (some vB) (some vC) none):=QCA.out.mkB LT.out n1 b1
    clear n1 b1
    refine hK.out _ _ trivial (fun _=>?_)
    clear hK K
    change wpAnyH _ _ _ _ _ _ _ (Act.put _ (some 12) _) _
    simp only[Act.put,zT,zZ,zS]
    refine wpAnyH_ready (rs:=[4]) (by kernel_rfl) (by simp) ?_
    refine AllReadyH.cons rfl (fun K hK=>?_) ?_
    ·obtain⟨gC,hgC⟩:=HvC
     subst hgC
     refine step_app8 rfl (.tmp 13) (.tmp 14) rfl W.heap.size gC rfl (QCAB.out.c rfl _ rfl) a n k zs rfl HL.out (HX.out _ QCAB.out.mq).1 (HX.out _ QCAB.out.mq).2 (by have:=H40.out;omega) QCAB.out.mq.size ?_
     intro vD wCABD n1 g1 ho
     have QCABD:Hid (Nx W wCABD s zs (some vA) (some vB) (some (.slice (some ⟨gC,0,none⟩) 0 0)) (some vD)):=QCAB.out.app LT.out n1 g1 ho
     clear n1 g1 ho
     refine hK.out _ _ trivial (fun _=>?_)
     clear hK K
     change wpAnyH _ _ _ _ _ _ _ (Act.put _ (some 15) _) _
     simp only[Act.put,zT,zZ,zS]
     obtain⟨ga,gk,hga,_⟩:=(QCABD.out.a _ rfl).shape
     obtain⟨ha,hk',hha,_⟩:=(QCABD.out.b _ rfl).shape
     obtain⟨ia,ik,hia,_⟩:=(QCABD.out.d _ rfl).shape
     rw[List.length_replicate]at hga hha
     have AB:Hid (Apt _ _):=QCABD.out.ab _ _ rfl rfl
     have AD:Hid (Apt _ _):=QCABD.out.ad _ _ rfl rfl
     have BD:Hid (Apt _ _):=QCABD.out.bd _ _ rfl rfl
     rw[HL.out]at hia
     subst hga hha hia
     refine wpTe 5 16 (.agg #[.slice ga 16 gk,.int .i64 0,.slice ha 11 hk',.bool false,.bool false,.bool false,.int .i64 0,.slice ia n ik,.slice none 0 0]) rfl (Or.inl ⟨by rfl,fun w' _=>by go_simp⟩) trivial ?_
     simp only[Act.put,zT,zZ,zS]
     refine wpTe 6 17 (.agg #[.int .i64 0,.slice ga 16 gk,.int .i64 0,.slice ha 11 hk',.bool false,.bool false,.bool false,.int .i64 0,.slice ia n ik,.slice none 0 0]) rfl (Or.inl ⟨by rfl,fun w' _=>by go_simp⟩) trivial ?_
     simp only[Act.put,zT,zZ,zS]
     refine zR 7 rfl fun K hK=>?_
     rw[if_pos (by rfl)]
     refine wp_store_mid 178 (.tmp 2) (.tmp 17) rfl s 0 #[.int .i64 0,.slice ga 16 gk,.int .i64 0,.slice ha 11 hk',.bool false,.bool false,.bool false,.int .i64 0,.slice ia n ik,.slice none 0 0] rfl rfl QCABD.out.th (by kernel_rfl) (by simp[Value.oneCell']) ?_
     change K (Act.put _ none undef) (World.setCells wCABD s 0 [.int .i64 0,.slice ga 16 gk,.int .i64 0,.slice ha 11 hk',.bool false,.bool false,.bool false,.int .i64 0,.slice ia n ik,.slice none 0 0])
     simp only[Act.put]
     have R5:Hid ((wCABD.setCells s 0 [.int .i64 0,.slice ga 16 gk,.int .i64 0,.slice ha 11 hk',.bool false,.bool false,.bool false,.int .i64 0,.slice ia n ik,.slice none 0 0]).rangeAt s 0 [.int .i64 0,.slice ga 16 gk,.int .i64 0,.slice ha 11 hk',.bool false,.bool false,.bool false,.int .i64 0,.slice ia n ik,.slice none 0 0]):=World.rangeAt_setCells_same _ _ _ _ QCABD.out.th
     have M5:Hid (Mq (fun k=>k=s) wCABD (wCABD.setCells s 0 [.int .i64 0,.slice ga 16 gk,.int .i64 0,.slice ha 11 hk',.bool false,.bool false,.bool false,.int .i64 0,.slice ia n ik,.slice none 0 0])):=mq_cells s _ wCABD 0
     generalize wCABD.setCells s 0 [.int .i64 0,.slice ga 16 gk,.int .i64 0,.slice ha 11 hk',.bool false,.bool false,.bool false,.int .i64 0,.slice ia n ik,.slice none 0 0]=w5 at*
     refine hK.out _ _ trivial (fun _=>?_)
     clear hK K
     refine wpAnyH_done (by kernel_rfl) ?_ _
     have no:∀(v:Value) (ys:List Int),Nums wCABD W.heap.size v ys→Nums w5 W.heap.size v ys:=fun v ys h=>M5.out.nums h fun k e f=>by have:=(h.lt k e).1;have:=LT.out;omega
     have Q1:=no _ _ (QCABD.out.a _ rfl)
     have Q2:=no _ _ (QCABD.out.b _ rfl)
     have Q3:=no _ _ (QCABD.out.d _ rfl)
     have B5:Below w.heap.size w w5:=Mq.under B0.out (QCABD.out.mq.trans M5.out) fun k e=>by have:=HS.out;omega
     have LD:=run_loadVar_mid (P:=Tryz.prog) w5 s 0 178 [.int .i64 0,.slice ga 16 gk,.int .i64 0,.slice ha 11 hk',.bool false,.bool false,.bool false,.int .i64 0,.slice ia n ik,.slice none 0 0] _ R5.out Tryz.underlying178 rfl (by kernel_rfl)
     go_wp2_with fail
     refine bodyPost_ret (v:=.agg #[.int .i64 0,.slice ga 16 gk,.int .i64 0,.slice ha 11 hk',.bool false,.bool false,.bool false,.int .i64 0,.slice ia n ik,.slice none 0 0]) (by simp[results,Tryz.results128,asAddr];rw[LD]) rfl ?_
     rw[HE1.out,HE2.out]
     exact⟨_,_,_,_,rfl,⟨Q1.mono B0.out.size,Q2.mono B0.out.size,Q3.mono B0.out.size,Nums.nil _ _⟩,⟨AB.out,AD.out,Apt.swap (.inl rfl),BD.out,Apt.swap (.inl rfl),Apt.swap (.inl rfl)⟩,B5⟩
    exact AllReadyH.nil
   refine AllReadyH.cons rfl (fun K hK=>?_) ?_
   ·obtain⟨gC,hgC⟩:=HvC
    subst hgC
    refine step_app8 rfl (.tmp 13) (.tmp 14) rfl W.heap.size gC rfl (QCA.out.c rfl _ rfl) a n k zs rfl HL.out (HX.out _ QCA.out.mq).1 (HX.out _ QCA.out.mq).2 (by have:=H40.out;omega) QCA.out.mq.size ?_
    intro vD wCAD n1 g1 ho
    have QCAD:Hid (Nx W wCAD s zs (some vA) none (some (.slice (some ⟨gC,0,none⟩) 0 0)) (some vD)):=QCA.out.app LT.out n1 g1 ho
    clear n1 g1 ho
    refine hK.out _ _ trivial (fun _=>?_)
    clear hK K
    change wpAnyH _ _ _ _ _ _ _ (Act.put _ (some 15) _) _
    simp only[Act.put,zT,zZ,zS]
    refine wpAnyH_ready (rs:=[1]) (by kernel_rfl) (by simp) ?_
    refine AllReadyH.cons rfl (fun K hK=>?_) ?_
    ·refine step_make rfl (.const (.int .i64 11)) (.const (.int .i64 11)) rfl 11 rfl rfl (by decide) ?_
     intro vB wCADB n1 b1
     have QCADB:Hid (Nx W wCADB s zs (some vA) (some vB) (some (.slice (some ⟨gC,0,none⟩) 0 0)) (some vD)):=QCAD.out.mkB LT.out n1 b1
     clear n1 b1
     refine hK.out _ _ trivial (fun _=>?_)
     clear hK K
     change wpAnyH _ _ _ _ _ _ _ (Act.put _ (some 12) _) _
     simp only[Act.put,zT,zZ,zS]
     obtain⟨ga,gk,hga,_⟩:=(QCADB.out.a _ rfl).shape
     obtain⟨ha,hk',hha,_⟩:=(QCADB.out.b _ rfl).shape
     obtain⟨ia,ik,hia,_⟩:=(QCADB.out.d _ rfl).shape
     rw[List.length_replicate]at hga hha
     have AB:Hid (Apt _ _):=QCADB.out.ab _ _ rfl rfl
     have AD:Hid (Apt _ _):=QCADB.out.ad _ _ rfl rfl
     have BD:Hid (Apt _ _):=QCADB.out.bd _ _ rfl rfl
     rw[HL.out]at hia
     subst hga hha hia
     refine wpTe 5 16 (.agg #[.slice ga 16 gk,.int .i64 0,.slice ha 11 hk',.bool false,.bool false,.bool false,.int .i64 0,.slice ia n ik,.slice none 0 0]) rfl (Or.inl ⟨by rfl,fun w' _=>by go_simp⟩) trivial ?_
     simp only[Act.put,zT,zZ,zS]
     refine wpTe 6 17 (.agg #[.int .i64 0,.slice ga 16 gk,.int .i64 0,.slice ha 11 hk',.bool false,.bool false,.bool false,.int .i64 0,.slice ia n ik,.slice none 0 0]) rfl (Or.inl ⟨by rfl,fun w' _=>by go_simp⟩) trivial ?_
     simp only[Act.put,zT,zZ,zS]
     refine zR 7 rfl fun K hK=>?_
     rw[if_pos (by rfl)]
     refine wp_store_mid 178 (.tmp 2) (.tmp 17) rfl s 0 #[.int .i64 0,.slice ga 16 gk,.int .i64 0,.slice ha 11 hk',.bool false,.bool false,.bool false,.int .i64 0,.slice ia n ik,.slice none 0 0] rfl rfl QCADB.out.th (by kernel_rfl) (by simp[Value.oneCell']) ?_
     change K (Act.put _ none undef) (World.setCells wCADB s 0 [.int .i64 0,.slice ga 16 gk,.int .i64 0,.slice ha 11 hk',.bool false,.bool false,.bool false,.int .i64 0,.slice ia n ik,.slice none 0 0])
     simp only[Act.put]
     have R5:Hid ((wCADB.setCells s 0 [.int .i64 0,.slice ga 16 gk,.int .i64 0,.slice ha 11 hk',.bool false,.bool false,.bool false,.int .i64 0,.slice ia n ik,.slice none 0 0]).rangeAt s 0 [.int .i64 0,.slice ga 16 gk,.int .i64 0,.slice ha 11 hk',.bool false,.bool false,.bool false,.int .i64 0,.slice ia n ik,.slice none 0 0]):=World.rangeAt_setCells_same _ _ _ _ QCADB.out.th
     have M5:Hid (Mq (fun k=>k=s) wCADB (wCADB.setCells s 0 [.int .i64 0,.slice ga 16 gk,.int .i64 0,.slice ha 11 hk',.bool false,.bool false,.bool false,.int .i64 0,.slice ia n ik,.slice none 0 0])):=mq_cells s _ wCADB 0
     generalize wCADB.setCells s 0 [.int .i64 0,.slice ga 16 gk,.int .i64 0,.slice ha 11 hk',.bool false,.bool false,.bool false,.int .i64 0,.slice ia n ik,.slice none 0 0]=w5 at*
     refine hK.out _ _ trivial (fun _=>?_)
     clear hK K
     refine wpAnyH_done (by kernel_rfl) ?_ _
     have no:∀(v:Value) (ys:List Int),Nums wCADB W.heap.size v ys→Nums w5 W.heap.size v ys:=fun v ys h=>M5.out.nums h fun k e f=>by have:=(h.lt k e).1;have:=LT.out;omega
     have Q1:=no _ _ (QCADB.out.a _ rfl)
     have Q2:=no _ _ (QCADB.out.b _ rfl)
     have Q3:=no _ _ (QCADB.out.d _ rfl)
     have B5:Below w.heap.size w w5:=Mq.under B0.out (QCADB.out.mq.trans M5.out) fun k e=>by have:=HS.out;omega
     have LD:=run_loadVar_mid (P:=Tryz.prog) w5 s 0 178 [.int .i64 0,.slice ga 16 gk,.int .i64 0,.slice ha 11 hk',.bool false,.bool false,.bool false,.int .i64 0,.slice ia n ik,.slice none 0 0] _ R5.out Tryz.underlying178 rfl (by kernel_rfl)
     go_wp2_with fail
     refine bodyPost_ret (v:=.agg #[.int .i64 0,.slice ga 16 gk,.int .i64 0,.slice ha 11 hk',.bool false,.bool false,.bool false,.int .i64 0,.slice ia n ik,.slice none 0 0]) (by simp[results,Tryz.results128,asAddr];rw[LD]) rfl ?_
     rw[HE1.out,HE2.out]
     exact⟨_,_,_,_,rfl,⟨Q1.mono B0.out.size,Q2.mono B0.out.size,Q3.mono B0.out.size,Nums.nil _ _⟩,⟨AB.out,AD.out,Apt.swap (.inl rfl),BD.out,Apt.swap (.inl rfl),Apt.swap (.inl rfl)⟩,B5⟩
    exact AllReadyH.nil
   exact AllReadyH.nil
  refine AllReadyH.cons rfl (fun K hK=>?_) ?_
  ·refine step_make rfl (.const (.int .i64 11)) (.const (.int .i64 11)) rfl 11 rfl rfl (by decide) ?_
   intro vB wCB n1 b1
   have QCB:Hid (Nx W wCB s zs none (some vB) (some vC) none):=QC.out.mkB LT.out n1 b1
   clear n1 b1
   refine hK.out _ _ trivial (fun _=>?_)
   clear hK K
   change wpAnyH _ _ _ _ _ _ _ (Act.put _ (some 12) _) _
   simp only[Act.put,zT,zZ,zS]
   refine wpAnyH_ready (rs:=[0,4]) (by kernel_rfl) (by simp) ?_
   refine AllReadyH.cons rfl (fun K hK=>?_) ?_
   ·refine step_make rfl (.const (.int .i64 16)) (.const (.int .i64 16)) rfl 16 rfl rfl (by decide) ?_
    intro vA wCBA n1 b1
    have QCBA:Hid (Nx W wCBA s zs (some vA) (some vB) (some vC) none):=QCB.out.mkA LT.out n1 b1
    clear n1 b1
    refine hK.out _ _ trivial (fun _=>?_)
    clear hK K
    change wpAnyH _ _ _ _ _ _ _ (Act.put _ (some 11) _) _
    simp only[Act.put,zT,zZ,zS]
    refine wpAnyH_ready (rs:=[4]) (by kernel_rfl) (by simp) ?_
    refine AllReadyH.cons rfl (fun K hK=>?_) ?_
    ·obtain⟨gC,hgC⟩:=HvC
     subst hgC
     refine step_app8 rfl (.tmp 13) (.tmp 14) rfl W.heap.size gC rfl (QCBA.out.c rfl _ rfl) a n k zs rfl HL.out (HX.out _ QCBA.out.mq).1 (HX.out _ QCBA.out.mq).2 (by have:=H40.out;omega) QCBA.out.mq.size ?_
     intro vD wCBAD n1 g1 ho
     have QCBAD:Hid (Nx W wCBAD s zs (some vA) (some vB) (some (.slice (some ⟨gC,0,none⟩) 0 0)) (some vD)):=QCBA.out.app LT.out n1 g1 ho
     clear n1 g1 ho
     refine hK.out _ _ trivial (fun _=>?_)
     clear hK K
     change wpAnyH _ _ _ _ _ _ _ (Act.put _ (some 15) _) _
     simp only[Act.put,zT,zZ,zS]
     obtain⟨ga,gk,hga,_⟩:=(QCBAD.out.a _ rfl).shape
     obtain⟨ha,hk',hha,_⟩:=(QCBAD.out.b _ rfl).shape
     obtain⟨ia,ik,hia,_⟩:=(QCBAD.out.d _ rfl).shape
     rw[List.length_replicate]at hga hha
     have AB:Hid (Apt _ _):=QCBAD.out.ab _ _ rfl rfl
     have AD:Hid (Apt _ _):=QCBAD.out.ad _ _ rfl rfl
     have BD:Hid (Apt _ _):=QCBAD.out.bd _ _ rfl rfl
     rw[HL.out]at hia
     subst hga hha hia
     refine wpTe 5 16 (.agg #[.slice ga 16 gk,.int .i64 0,.slice ha 11 hk',.bool false,.bool false,.bool false,.int .i64 0,.slice ia n ik,.slice none 0 0]) rfl (Or.inl ⟨by rfl,fun w' _=>by go_simp⟩) trivial ?_
     simp only[Act.put,zT,zZ,zS]
     refine wpTe 6 17 (.agg #[.int .i64 0,.slice ga 16 gk,.int .i64 0,.slice ha 11 hk',.bool false,.bool false,.bool false,.int .i64 0,.slice ia n ik,.slice none 0 0]) rfl (Or.inl ⟨by rfl,fun w' _=>by go_simp⟩) trivial ?_
     simp only[Act.put,zT,zZ,zS]
     refine zR 7 rfl fun K hK=>?_
     rw[if_pos (by rfl)]
     refine wp_store_mid 178 (.tmp 2) (.tmp 17) rfl s 0 #[.int .i64 0,.slice ga 16 gk,.int .i64 0,.slice ha 11 hk',.bool false,.bool false,.bool false,.int .i64 0,.slice ia n ik,.slice none 0 0] rfl rfl QCBAD.out.th (by kernel_rfl) (by simp[Value.oneCell']) ?_
     change K (Act.put _ none undef) (World.setCells wCBAD s 0 [.int .i64 0,.slice ga 16 gk,.int .i64 0,.slice ha 11 hk',.bool false,.bool false,.bool false,.int .i64 0,.slice ia n ik,.slice none 0 0])
     simp only[Act.put]
     have R5:Hid ((wCBAD.setCells s 0 [.int .i64 0,.slice ga 16 gk,.int .i64 0,.slice ha 11 hk',.bool false,.bool false,.bool false,.int .i64 0,.slice ia n ik,.slice none 0 0]).rangeAt s 0 [.int .i64 0,.slice ga 16 gk,.int .i64 0,.slice ha 11 hk',.bool false,.bool false,.bool false,.int .i64 0,.slice ia n ik,.slice none 0 0]):=World.rangeAt_setCells_same _ _ _ _ QCBAD.out.th
     have M5:Hid (Mq (fun k=>k=s) wCBAD (wCBAD.setCells s 0 [.int .i64 0,.slice ga 16 gk,.int .i64 0,.slice ha 11 hk',.bool false,.bool false,.bool false,.int .i64 0,.slice ia n ik,.slice none 0 0])):=mq_cells s _ wCBAD 0
     generalize wCBAD.setCells s 0 [.int .i64 0,.slice ga 16 gk,.int .i64 0,.slice ha 11 hk',.bool false,.bool false,.bool false,.int .i64 0,.slice ia n ik,.slice none 0 0]=w5 at*
     refine hK.out _ _ trivial (fun _=>?_)
     clear hK K
     refine wpAnyH_done (by kernel_rfl) ?_ _
     have no:∀(v:Value) (ys:List Int),Nums wCBAD W.heap.size v ys→Nums w5 W.heap.size v ys:=fun v ys h=>M5.out.nums h fun k e f=>by have:=(h.lt k e).1;have:=LT.out;omega
     have Q1:=no _ _ (QCBAD.out.a _ rfl)
     have Q2:=no _ _ (QCBAD.out.b _ rfl)
     have Q3:=no _ _ (QCBAD.out.d _ rfl)
     have B5:Below w.heap.size w w5:=Mq.under B0.out (QCBAD.out.mq.trans M5.out) fun k e=>by have:=HS.out;omega
     have LD:=run_loadVar_mid (P:=Tryz.prog) w5 s 0 178 [.int .i64 0,.slice ga 16 gk,.int .i64 0,.slice ha 11 hk',.bool false,.bool false,.bool false,.int .i64 0,.slice ia n ik,.slice none 0 0] _ R5.out Tryz.underlying178 rfl (by kernel_rfl)
     go_wp2_with fail
     refine bodyPost_ret (v:=.agg #[.int .i64 0,.slice ga 16 gk,.int .i64 0,.slice ha 11 hk',.bool false,.bool false,.bool false,.int .i64 0,.slice ia n ik,.slice none 0 0]) (by simp[results,Tryz.results128,asAddr];rw[LD]) rfl ?_
     rw[HE1.out,HE2.out]
     exact⟨_,_,_,_,rfl,⟨Q1.mono B0.out.size,Q2.mono B0.out.size,Q3.mono B0.out.size,Nums.nil _ _⟩,⟨AB.out,AD.out,Apt.swap (.inl rfl),BD.out,Apt.swap (.inl rfl),Apt.swap (.inl rfl)⟩,B5⟩
    exact AllReadyH.nil
   refine AllReadyH.cons rfl (fun K hK=>?_) ?_
   ·obtain⟨gC,hgC⟩:=HvC
    subst hgC
    refine step_app8 rfl (.tmp 13) (.tmp 14) rfl W.heap.size gC rfl (QCB.out.c rfl _ rfl) a n k zs rfl HL.out (HX.out _ QCB.out.mq).1 (HX.out _ QCB.out.mq).2 (by have:=H40.out;omega) QCB.out.mq.size ?_
    intro vD wCBD n1 g1 ho
    have QCBD:Hid (Nx W wCBD s zs none (some vB) (some (.slice (some ⟨gC,0,none⟩) 0 0)) (some vD)):=QCB.out.app LT.out n1 g1 ho
    clear n1 g1 ho
    refine hK.out _ _ trivial (fun _=>?_)
    clear hK K
    change wpAnyH _ _ _ _ _ _ _ (Act.put _ (some 15) _) _
    simp only[Act.put,zT,zZ,zS]
    refine wpAnyH_ready (rs:=[0]) (by kernel_rfl) (by simp) ?_
    refine AllReadyH.cons rfl (fun K hK=>?_) ?_
    ·refine step_make rfl (.const (.int .i64 16)) (.const (.int .i64 16)) rfl 16 rfl rfl (by decide) ?_
     intro vA wCBDA n1 b1
     have QCBDA:Hid (Nx W wCBDA s zs (some vA) (some vB) (some (.slice (some ⟨gC,0,none⟩) 0 0)) (some vD)):=QCBD.out.mkA LT.out n1 b1
     clear n1 b1
     refine hK.out _ _ trivial (fun _=>?_)
     clear hK K
     change wpAnyH _ _ _ _ _ _ _ (Act.put _ (some 11) _) _
     simp only[Act.put,zT,zZ,zS]
     obtain⟨ga,gk,hga,_⟩:=(QCBDA.out.a _ rfl).shape
     obtain⟨ha,hk',hha,_⟩:=(QCBDA.out.b _ rfl).shape
     obtain⟨ia,ik,hia,_⟩:=(QCBDA.out.d _ rfl).shape
     rw[List.length_replicate]at hga hha
     have AB:Hid (Apt _ _):=QCBDA.out.ab _ _ rfl rfl
     have AD:Hid (Apt _ _):=QCBDA.out.ad _ _ rfl rfl
     have BD:Hid (Apt _ _):=QCBDA.out.bd _ _ rfl rfl
     rw[HL.out]at hia
     subst hga hha hia
     refine wpTe 5 16 (.agg #[.slice ga 16 gk,.int .i64 0,.slice ha 11 hk',.bool false,.bool false,.bool false,.int .i64 0,.slice ia n ik,.slice none 0 0]) rfl (Or.inl ⟨by rfl,fun w' _=>by go_simp⟩) trivial ?_
     simp only[Act.put,zT,zZ,zS]
     refine wpTe 6 17 (.agg #[.int .i64 0,.slice ga 16 gk,.int .i64 0,.slice ha 11 hk',.bool false,.bool false,.bool false,.int .i64 0,.slice ia n ik,.slice none 0 0]) rfl (Or.inl ⟨by rfl,fun w' _=>by go_simp⟩) trivial ?_
     simp only[Act.put,zT,zZ,zS]
     refine zR 7 rfl fun K hK=>?_
     rw[if_pos (by rfl)]
     refine wp_store_mid 178 (.tmp 2) (.tmp 17) rfl s 0 #[.int .i64 0,.slice ga 16 gk,.int .i64 0,.slice ha 11 hk',.bool false,.bool false,.bool false,.int .i64 0,.slice ia n ik,.slice none 0 0] rfl rfl QCBDA.out.th (by kernel_rfl) (by simp[Value.oneCell']) ?_
     change K (Act.put _ none undef) (World.setCells wCBDA s 0 [.int .i64 0,.slice ga 16 gk,.int .i64 0,.slice ha 11 hk',.bool false,.bool false,.bool false,.int .i64 0,.slice ia n ik,.slice none 0 0])
     simp only[Act.put]
     have R5:Hid ((wCBDA.setCells s 0 [.int .i64 0,.slice ga 16 gk,.int .i64 0,.slice ha 11 hk',.bool false,.bool false,.bool false,.int .i64 0,.slice ia n ik,.slice none 0 0]).rangeAt s 0 [.int .i64 0,.slice ga 16 gk,.int .i64 0,.slice ha 11 hk',.bool false,.bool false,.bool false,.int .i64 0,.slice ia n ik,.slice none 0 0]):=World.rangeAt_setCells_same _ _ _ _ QCBDA.out.th
     have M5:Hid (Mq (fun k=>k=s) wCBDA (wCBDA.setCells s 0 [.int .i64 0,.slice ga 16 gk,.int .i64 0,.slice ha 11 hk',.bool false,.bool false,.bool false,.int .i64 0,.slice ia n ik,.slice none 0 0])):=mq_cells s _ wCBDA 0
     generalize wCBDA.setCells s 0 [.int .i64 0,.slice ga 16 gk,.int .i64 0,.slice ha 11 hk',.bool false,.bool false,.bool false,.int .i64 0,.slice ia n ik,.slice none 0 0]=w5 at*
     refine hK.out _ _ trivial (fun _=>?_)
     clear hK K
     refine wpAnyH_done (by kernel_rfl) ?_ _
     have no:∀(v:Value) (ys:List Int),Nums wCBDA W.heap.size v ys→Nums w5 W.heap.size v ys:=fun v ys h=>M5.out.nums h fun k e f=>by have:=(h.lt k e).1;have:=LT.out;omega
     have Q1:=no _ _ (QCBDA.out.a _ rfl)
     have Q2:=no _ _ (QCBDA.out.b _ rfl)
     have Q3:=no _ _ (QCBDA.out.d _ rfl)
     have B5:Below w.heap.size w w5:=Mq.under B0.out (QCBDA.out.mq.trans M5.out) fun k e=>by have:=HS.out;omega
     have LD:=run_loadVar_mid (P:=Tryz.prog) w5 s 0 178 [.int .i64 0,.slice ga 16 gk,.int .i64 0,.slice ha 11 hk',.bool false,.bool false,.bool false,.int .i64 0,.slice ia n ik,.slice none 0 0] _ R5.out Tryz.underlying178 rfl (by kernel_rfl)
     go_wp2_with fail
     refine bodyPost_ret (v:=.agg #[.int .i64 0,.slice ga 16 gk,.int .i64 0,.slice ha 11 hk',.bool false,.bool false,.bool false,.int .i64 0,.slice ia n ik,.slice none 0 0]) (by simp[results,Tryz.results128,asAddr];rw[LD]) rfl ?_
     rw[HE1.out,HE2.out]
     exact⟨_,_,_,_,rfl,⟨Q1.mono B0.out.size,Q2.mono B0.out.size,Q3.mono B0.out.size,Nums.nil _ _⟩,⟨AB.out,AD.out,Apt.swap (.inl rfl),BD.out,Apt.swap (.inl rfl),Apt.swap (.inl rfl)⟩,B5⟩
    exact AllReadyH.nil
   exact AllReadyH.nil
  refine AllReadyH.cons rfl (fun K hK=>?_) ?_
  ·obtain⟨gC,hgC⟩:=HvC
   subst hgC
   refine step_app8 rfl (.tmp 13) (.tmp 14) rfl W.heap.size gC rfl (QC.out.c rfl _ rfl) a n k zs rfl HL.out (HX.out _ QC.out.mq).1 (HX.out _ QC.out.mq).2 (by have:=H40.out;omega) QC.out.mq.size ?_
   intro vD wCD n1 g1 ho
   have QCD:Hid (Nx W wCD s zs none none (some (.slice (some ⟨gC,0,none⟩) 0 0)) (some vD)):=QC.out.app LT.out n1 g1 ho
   clear n1 g1 ho
   refine hK.out _ _ trivial (fun _=>?_)
   clear hK K
   change wpAnyH _ _ _ _ _ _ _ (Act.put _ (some 15) _) _
   simp only[Act.put,zT,zZ,zS]
   refine wpAnyH_ready (rs:=[0,1]) (by kernel_rfl) (by simp) ?_
   refine AllReadyH.cons rfl (fun K hK=>?_) ?_
   ·refine step_make rfl (.const (.int .i64 16)) (.const (.int .i64 16)) rfl 16 rfl rfl (by decide) ?_
    intro vA wCDA n1 b1
    have QCDA:Hid (Nx W wCDA s zs (some vA) none (some (.slice (some ⟨gC,0,none⟩) 0 0)) (some vD)):=QCD.out.mkA LT.out n1 b1
    clear n1 b1
    refine hK.out _ _ trivial (fun _=>?_)
    clear hK K
    change wpAnyH _ _ _ _ _ _ _ (Act.put _ (some 11) _) _
    simp only[Act.put,zT,zZ,zS]
    refine wpAnyH_ready (rs:=[1]) (by kernel_rfl) (by simp) ?_
    refine AllReadyH.cons rfl (fun K hK=>?_) ?_
    ·refine step_make rfl (.const (.int .i64 11)) (.const (.int .i64 11)) rfl 11 rfl rfl (by decide) ?_
     intro vB wCDAB n1 b1
     have QCDAB:Hid (Nx W wCDAB s zs (some vA) (some vB) (some (.slice (some ⟨gC,0,none⟩) 0 0)) (some vD)):=QCDA.out.mkB LT.out n1 b1
     clear n1 b1
     refine hK.out _ _ trivial (fun _=>?_)
     clear hK K
     change wpAnyH _ _ _ _ _ _ _ (Act.put _ (some 12) _) _
     simp only[Act.put,zT,zZ,zS]
     obtain⟨ga,gk,hga,_⟩:=(QCDAB.out.a _ rfl).shape
     obtain⟨ha,hk',hha,_⟩:=(QCDAB.out.b _ rfl).shape
     obtain⟨ia,ik,hia,_⟩:=(QCDAB.out.d _ rfl).shape
     rw[List.length_replicate]at hga hha
     have AB:Hid (Apt _ _):=QCDAB.out.ab _ _ rfl rfl
     have AD:Hid (Apt _ _):=QCDAB.out.ad _ _ rfl rfl
     have BD:Hid (Apt _ _):=QCDAB.out.bd _ _ rfl rfl
     rw[HL.out]at hia
     subst hga hha hia
     refine wpTe 5 16 (.agg #[.slice ga 16 gk,.int .i64 0,.slice ha 11 hk',.bool false,.bool false,.bool false,.int .i64 0,.slice ia n ik,.slice none 0 0]) rfl (Or.inl ⟨by rfl,fun w' _=>by go_simp⟩) trivial ?_
     simp only[Act.put,zT,zZ,zS]
     refine wpTe 6 17 (.agg #[.int .i64 0,.slice ga 16 gk,.int .i64 0,.slice ha 11 hk',.bool false,.bool false,.bool false,.int .i64 0,.slice ia n ik,.slice none 0 0]) rfl (Or.inl ⟨by rfl,fun w' _=>by go_simp⟩) trivial ?_
     simp only[Act.put,zT,zZ,zS]
     refine zR 7 rfl fun K hK=>?_
     rw[if_pos (by rfl)]
     refine wp_store_mid 178 (.tmp 2) (.tmp 17) rfl s 0 #[.int .i64 0,.slice ga 16 gk,.int .i64 0,.slice ha 11 hk',.bool false,.bool false,.bool false,.int .i64 0,.slice ia n ik,.slice none 0 0] rfl rfl QCDAB.out.th (by kernel_rfl) (by simp[Value.oneCell']) ?_
     change K (Act.put _ none undef) (World.setCells wCDAB s 0 [.int .i64 0,.slice ga 16 gk,.int .i64 0,.slice ha 11 hk',.bool false,.bool false,.bool false,.int .i64 0,.slice ia n ik,.slice none 0 0])
     simp only[Act.put]
     have R5:Hid ((wCDAB.setCells s 0 [.int .i64 0,.slice ga 16 gk,.int .i64 0,.slice ha 11 hk',.bool false,.bool false,.bool false,.int .i64 0,.slice ia n ik,.slice none 0 0]).rangeAt s 0 [.int .i64 0,.slice ga 16 gk,.int .i64 0,.slice ha 11 hk',.bool false,.bool false,.bool false,.int .i64 0,.slice ia n ik,.slice none 0 0]):=World.rangeAt_setCells_same _ _ _ _ QCDAB.out.th
     have M5:Hid (Mq (fun k=>k=s) wCDAB (wCDAB.setCells s 0 [.int .i64 0,.slice ga 16 gk,.int .i64 0,.slice ha 11 hk',.bool false,.bool false,.bool false,.int .i64 0,.slice ia n ik,.slice none 0 0])):=mq_cells s _ wCDAB 0
     generalize wCDAB.setCells s 0 [.int .i64 0,.slice ga 16 gk,.int .i64 0,.slice ha 11 hk',.bool false,.bool false,.bool false,.int .i64 0,.slice ia n ik,.slice none 0 0]=w5 at*
     refine hK.out _ _ trivial (fun _=>?_)
     clear hK K
     refine wpAnyH_done (by kernel_rfl) ?_ _
     have no:∀(v:Value) (ys:List Int),Nums wCDAB W.heap.size v ys→Nums w5 W.heap.size v ys:=fun v ys h=>M5.out.nums h fun k e f=>by have:=(h.lt k e).1;have:=LT.out;omega
     have Q1:=no _ _ (QCDAB.out.a _ rfl)
     have Q2:=no _ _ (QCDAB.out.b _ rfl)
     have Q3:=no _ _ (QCDAB.out.d _ rfl)
     have B5:Below w.heap.size w w5:=Mq.under B0.out (QCDAB.out.mq.trans M5.out) fun k e=>by have:=HS.out;omega
     have LD:=run_loadVar_mid (P:=Tryz.prog) w5 s 0 178 [.int .i64 0,.slice ga 16 gk,.int .i64 0,.slice ha 11 hk',.bool false,.bool false,.bool false,.int .i64 0,.slice ia n ik,.slice none 0 0] _ R5.out Tryz.underlying178 rfl (by kernel_rfl)
     go_wp2_with fail
     refine bodyPost_ret (v:=.agg #[.int .i64 0,.slice ga 16 gk,.int .i64 0,.slice ha 11 hk',.bool false,.bool false,.bool false,.int .i64 0,.slice ia n ik,.slice none 0 0]) (by simp[results,Tryz.results128,asAddr];rw[LD]) rfl ?_
     rw[HE1.out,HE2.out]
     exact⟨_,_,_,_,rfl,⟨Q1.mono B0.out.size,Q2.mono B0.out.size,Q3.mono B0.out.size,Nums.nil _ _⟩,⟨AB.out,AD.out,Apt.swap (.inl rfl),BD.out,Apt.swap (.inl rfl),Apt.swap (.inl rfl)⟩,B5⟩
    exact AllReadyH.nil
   refine AllReadyH.cons rfl (fun K hK=>?_) ?_
   ·refine step_make rfl (.const (.int .i64 11)) (.const (.int .i64 11)) rfl 11 rfl rfl (by decide) ?_
    intro vB wCDB n1 b1
    have QCDB:Hid (Nx W wCDB s zs none (some vB) (some (.slice (some ⟨gC,0,none⟩) 0 0)) (some vD)):=QCD.out.mkB LT.out n1 b1
    clear n1 b1
    refine hK.out _ _ trivial (fun _=>?_)
    clear hK K
    change wpAnyH _ _ _ _ _ _ _ (Act.put _ (some 12) _) _
    simp only[Act.put,zT,zZ,zS]
    refine wpAnyH_ready (rs:=[0]) (by kernel_rfl) (by simp) ?_
    refine AllReadyH.cons rfl (fun K hK=>?_) ?_
    ·refine step_make rfl (.const (.int .i64 16)) (.const (.int .i64 16)) rfl 16 rfl rfl (by decide) ?_
     intro vA wCDBA n1 b1
     have QCDBA:Hid (Nx W wCDBA s zs (some vA) (some vB) (some (.slice (some ⟨gC,0,none⟩) 0 0)) (some vD)):=QCDB.out.mkA LT.out n1 b1
     clear n1 b1
     refine hK.out _ _ trivial (fun _=>?_)
     clear hK K
     change wpAnyH _ _ _ _ _ _ _ (Act.put _ (some 11) _) _
     simp only[Act.put,zT,zZ,zS]
     obtain⟨ga,gk,hga,_⟩:=(QCDBA.out.a _ rfl).shape
     obtain⟨ha,hk',hha,_⟩:=(QCDBA.out.b _ rfl).shape
     obtain⟨ia,ik,hia,_⟩:=(QCDBA.out.d _ rfl).shape
     rw[List.length_replicate]at hga hha
     have AB:Hid (Apt _ _):=QCDBA.out.ab _ _ rfl rfl
     have AD:Hid (Apt _ _):=QCDBA.out.ad _ _ rfl rfl
     have BD:Hid (Apt _ _):=QCDBA.out.bd _ _ rfl rfl
     rw[HL.out]at hia
     subst hga hha hia
     refine wpTe 5 16 (.agg #[.slice ga 16 gk,.int .i64 0,.slice ha 11 hk',.bool false,.bool false,.bool false,.int .i64 0,.slice ia n ik,.slice none 0 0]) rfl (Or.inl ⟨by rfl,fun w' _=>by go_simp⟩) trivial ?_
     simp only[Act.put,zT,zZ,zS]
     refine wpTe 6 17 (.agg #[.int .i64 0,.slice ga 16 gk,.int .i64 0,.slice ha 11 hk',.bool false,.bool false,.bool false,.int .i64 0,.slice ia n ik,.slice none 0 0]) rfl (Or.inl ⟨by rfl,fun w' _=>by go_simp⟩) trivial ?_
     simp only[Act.put,zT,zZ,zS]
     refine zR 7 rfl fun K hK=>?_
     rw[if_pos (by rfl)]
     refine wp_store_mid 178 (.tmp 2) (.tmp 17) rfl s 0 #[.int .i64 0,.slice ga 16 gk,.int .i64 0,.slice ha 11 hk',.bool false,.bool false,.bool false,.int .i64 0,.slice ia n ik,.slice none 0 0] rfl rfl QCDBA.out.th (by kernel_rfl) (by simp[Value.oneCell']) ?_
     change K (Act.put _ none undef) (World.setCells wCDBA s 0 [.int .i64 0,.slice ga 16 gk,.int .i64 0,.slice ha 11 hk',.bool false,.bool false,.bool false,.int .i64 0,.slice ia n ik,.slice none 0 0])
     simp only[Act.put]
     have R5:Hid ((wCDBA.setCells s 0 [.int .i64 0,.slice ga 16 gk,.int .i64 0,.slice ha 11 hk',.bool false,.bool false,.bool false,.int .i64 0,.slice ia n ik,.slice none 0 0]).rangeAt s 0 [.int .i64 0,.slice ga 16 gk,.int .i64 0,.slice ha 11 hk',.bool false,.bool false,.bool false,.int .i64 0,.slice ia n ik,.slice none 0 0]):=World.rangeAt_setCells_same _ _ _ _ QCDBA.out.th
     have M5:Hid (Mq (fun k=>k=s) wCDBA (wCDBA.setCells s 0 [.int .i64 0,.slice ga 16 gk,.int .i64 0,.slice ha 11 hk',.bool false,.bool false,.bool false,.int .i64 0,.slice ia n ik,.slice none 0 0])):=mq_cells s _ wCDBA 0
     generalize wCDBA.setCells s 0 [.int .i64 0,.slice ga 16 gk,.int .i64 0,.slice ha 11 hk',.bool false,.bool false,.bool false,.int .i64 0,.slice ia n ik,.slice none 0 0]=w5 at*
     refine hK.out _ _ trivial (fun _=>?_)
     clear hK K
     refine wpAnyH_done (by kernel_rfl) ?_ _
     have no:∀(v:Value) (ys:List Int),Nums wCDBA W.heap.size v ys→Nums w5 W.heap.size v ys:=fun v ys h=>M5.out.nums h fun k e f=>by have:=(h.lt k e).1;have:=LT.out;omega
     have Q1:=no _ _ (QCDBA.out.a _ rfl)
     have Q2:=no _ _ (QCDBA.out.b _ rfl)
     have Q3:=no _ _ (QCDBA.out.d _ rfl)
     have B5:Below w.heap.size w w5:=Mq.under B0.out (QCDBA.out.mq.trans M5.out) fun k e=>by have:=HS.out;omega
     have LD:=run_loadVar_mid (P:=Tryz.prog) w5 s 0 178 [.int .i64 0,.slice ga 16 gk,.int .i64 0,.slice ha 11 hk',.bool false,.bool false,.bool false,.int .i64 0,.slice ia n ik,.slice none 0 0] _ R5.out Tryz.underlying178 rfl (by kernel_rfl)
     go_wp2_with fail
     refine bodyPost_ret (v:=.agg #[.int .i64 0,.slice ga 16 gk,.int .i64 0,.slice ha 11 hk',.bool false,.bool false,.bool false,.int .i64 0,.slice ia n ik,.slice none 0 0]) (by simp[results,Tryz.results128,asAddr];rw[LD]) rfl ?_
     rw[HE1.out,HE2.out]
     exact⟨_,_,_,_,rfl,⟨Q1.mono B0.out.size,Q2.mono B0.out.size,Q3.mono B0.out.size,Nums.nil _ _⟩,⟨AB.out,AD.out,Apt.swap (.inl rfl),BD.out,Apt.swap (.inl rfl),Apt.swap (.inl rfl)⟩,B5⟩
    exact AllReadyH.nil
   exact AllReadyH.nil
  exact AllReadyH.nil
 exact AllReadyH.nil
structure Bp where
 base:Nat
 q:Nat
 rg:Nat
 rk:Nat
 cg:Nat
 ck:Nat
 gm:Nat
 mc:Nat
 pg:Nat
 pc:Nat
 p:Nat
 ps:List (Int×Int)
 kx:Option (Nat×Array Value×TypeId)
def busC(B:Bp)(i o:Value)(H:Ht)(ri fa:Int):Array Value:=#[.slice (some ⟨B.pg,0,none⟩) 8 B.pc,.slice (some ⟨B.gm,0,none⟩) (B.p*8) B.mc,.int .i64 ri,.slice (some ⟨B.rg,0,none⟩) 16 B.rk,.int .i64 H.pc,.slice (some ⟨B.cg,0,none⟩) 11 B.ck,.bool H.halted,.bool H.waiting,.bool H.rung,.int .i64 H.done,i,o,.int .i64 fa]
structure Bs(w:World)(B:Bp)(i o:Value)(zs:List Int)(H:Ht)(ri fa:Int):Prop where
 v:Vb w B.q (busC B i o H ri fa) 62
 hr:Nums w B.base (.slice (some ⟨B.rg,0,none⟩) 16 B.rk) H.regs
 hc:Nums w B.base (.slice (some ⟨B.cg,0,none⟩) 11 B.ck) H.csr
 hm:Nums w B.base (.slice (some ⟨B.gm,0,none⟩) (B.p*8) B.mc) zs
 hi:Rv w i H.inn
 ho:∃bo,B.base≤bo∧bo≤w.heap.size∧Nums w bo o H.out∧B.rg<bo∧B.cg<bo∧B.gm<bo∧∀k,i.ownBlock=some k→k<bo
 ib:∀k,i.ownBlock=some k→B.base≤k∧k<w.heap.size∧k≠B.rg∧k≠B.cg∧k≠B.gm∧k≠B.q
 rc:B.rg≠B.cg
 rm:B.rg≠B.gm
 cm:B.cg≠B.gm
 ls:Prs 36 w 0 (.slice (some ⟨B.pg,0,none⟩) 8 B.pc) B.ps
 lb:B.pg<B.base
 qb:B.base≤B.q
 kp:∀x cs t,B.kx=some (x,cs,t)→Vb w x cs t∧t≠2∧x≠B.q∧i.ownBlock≠some x
variable{w:World}{B:Bp}{i o:Value}{zs:List Int}{H:Ht}{ri fa:Int}
theorem Bs.size(h:Bs w B i o zs H ri fa):B.base≤w.heap.size:=by have:=h.v.lt;have:=h.qb;omega
theorem Bs.qr(h:Bs w B i o zs H ri fa):B.q≠B.rg:=fun e=>h.hr.ne_vb (t:=62) h.v (by decide) (by rw[e];rfl)
theorem Bs.qc(h:Bs w B i o zs H ri fa):B.q≠B.cg:=fun e=>h.hc.ne_vb (t:=62) h.v (by decide) (by rw[e];rfl)
theorem Bs.qm(h:Bs w B i o zs H ri fa):B.q≠B.gm:=fun e=>h.hm.ne_vb (t:=62) h.v (by decide) (by rw[e];rfl)
theorem Bs.qo(h:Bs w B i o zs H ri fa):o.ownBlock≠some B.q:=by obtain⟨bo,b1,b2,b3,b4⟩:=h.ho;exact b3.ne_vb (t:=62) h.v (by decide)
theorem Bs.ob(h:Bs w B i o zs H ri fa):∀k,o.ownBlock=some k→B.base≤k∧k≠B.rg∧k≠B.cg∧k≠B.gm∧i.ownBlock≠some k:=by
 intro k e
 obtain⟨bo,b1,b2,b3,b4,b5,b6,b7⟩:=h.ho
 have:=(b3.lt k e).1
 exact⟨by omega,by omega,by omega,by omega,fun f=>by have:=b7 k f;omega⟩
theorem Bs.kne(h:Bs w B i o zs H ri fa){x:Nat}{cs:Array Value}{t:TypeId}(e:B.kx=some (x,cs,t)):x≠B.rg∧x≠B.cg∧x≠B.gm∧o.ownBlock≠some x:=by
 obtain⟨k1,k2,k3,k4⟩:=h.kp x cs t e
 obtain⟨bo,b1,b2,b3,b4⟩:=h.ho
 exact⟨fun f=>h.hr.ne_vb k1 k2 (by rw[f];rfl),fun f=>h.hc.ne_vb k1 k2 (by rw[f];rfl),fun f=>h.hm.ne_vb k1 k2 (by rw[f];rfl),b3.ne_vb k1 k2⟩
theorem Bs.keep{w w':World}{B:Bp}{i o:Value}{zs:List Int}{H:Ht}{ri fa:Int}(h:Bs w B i o zs H ri fa)(b:Below w.heap.size w w'):Bs w' B i o zs H ri fa:=
 ⟨h.v.keep b,h.hr.keep b,h.hc.keep b,h.hm.keep b,h.hi.stay b,by obtain⟨bo,b1,b2,b3,b4⟩:=h.ho;exact⟨bo,b1,Nat.le_trans b2 b.size,b3.keep b,b4⟩,fun k e=>by obtain⟨a1,a2,a3⟩:=h.ib k e;exact⟨a1,Nat.lt_of_lt_of_le a2 b.size,a3⟩,h.rc,h.rm,h.cm,h.ls.keep b,h.lb,h.qb,fun x cs t e=>⟨(h.kp x cs t e).1.keep b,(h.kp x cs t e).2⟩⟩
theorem Bs.dr(h:Bs w B i o zs H ri fa):Bs w.drew B i o zs H ri fa:=h.keep (Below.refl _ _).drew
theorem own_some{g n c:Nat}{k:Nat}(e:(Value.slice (some ⟨g,0,none⟩) n c).ownBlock=some k):k=g:=by have:g=k:=(by simpa [Value.ownBlock]using e);omega
theorem Bs.stay{S:Nat→Prop}{w w':World}{B:Bp}{i o:Value}{zs:List Int}{H:Ht}{ri fa:Int}(h:Bs w B i o zs H ri fa)(m:Mq S w w')(hS:∀k,S k→B.base≤k):Below B.base w w'∧Prs 36 w' 0 (.slice (some ⟨B.pg,0,none⟩) 8 B.pc) B.ps:=by
 have L:=m.low (base:=B.base) hS h.size
 exact⟨L,h.ls.low (fun k e=>by have:=own_some e;have:=h.lb;omega) L⟩
theorem Bs.upd{w w':World}{B:Bp}{i o:Value}{zs:List Int}{H G:Ht}{ri fa ri' fa':Int}(h:Bs w B i o zs H ri fa)(v:Vb w' B.q (busC B i o G ri' fa') 62)(m:Mq (fun j=>j=B.q) w w')(er:G.regs=H.regs)(ec:G.csr=H.csr)(ei:G.inn=H.inn)(eo:G.out=H.out):Bs w' B i o zs G ri' fa'∧Below B.base w w':=by
 obtain⟨L,hl⟩:=h.stay m (fun k e=>by have:=h.qb;omega)
 refine⟨⟨v,?_,?_,m.nums h.hm fun k e f=>by have:=own_some e;exact h.qm (by omega),?_,?_,fun k e=>by obtain⟨a1,a2,a3⟩:=h.ib k e;exact⟨a1,Nat.lt_of_lt_of_le a2 m.size,a3⟩,h.rc,h.rm,h.cm,hl,h.lb,h.qb,fun x cs t e=>⟨m.vb (h.kp x cs t e).1 ((h.kp x cs t e).2.2.1),(h.kp x cs t e).2⟩⟩,L⟩
 ·rw[er];exact m.nums h.hr fun k e f=>by have:=own_some e;exact h.qr (by omega)
 ·rw[ec];exact m.nums h.hc fun k e f=>by have:=own_some e;exact h.qc (by omega)
 ·rw[ei];exact h.hi.mq m fun k e _ f=>(h.ib k e).2.2.2.2.2 f
 ·rw[eo];obtain⟨bo,b1,b2,b3,b4⟩:=h.ho;exact⟨bo,b1,Nat.le_trans b2 m.size,m.nums b3 fun k e f=>h.qo (by rw[e,f]),b4⟩
theorem Bs.fld{w:World}{B:Bp}{i o:Value}{zs:List Int}{H G:Ht}{ri fa ri' fa':Int}(h:Bs w B i o zs H ri fa)(n:Nat)(u:Value)(hb:(busC B i o H ri fa).setIfInBounds n u=busC B i o G ri' fa')(er:G.regs=H.regs)(ec:G.csr=H.csr)(ei:G.inn=H.inn)(eo:G.out=H.out):Bs (w.setCell ⟨B.q,n,none⟩ u) B i o zs G ri' fa'∧Below B.base w (w.setCell ⟨B.q,n,none⟩ u):=
 h.upd (by rw[←hb];exact h.v.set n u) ((Mq.refl _ _).set ⟨B.q,n,none⟩ u rfl) er ec ei eo
theorem Bs.csr(h:Bs w B i o zs H ri fa)(n:Nat)(u:Int):Bs (w.setCell ⟨B.cg,n,none⟩ (.int .i64 u)) B i o zs { H with csr:=H.csr.set n u} ri fa∧Below B.base w (w.setCell ⟨B.cg,n,none⟩ (.int .i64 u)):=by
 have m:Mq (fun j=>j=B.cg) w (w.setCell ⟨B.cg,n,none⟩ (.int .i64 u)):=(Mq.refl _ _).set ⟨B.cg,n,none⟩ _ rfl
 obtain⟨L,hl⟩:=h.stay m (fun k e=>by have:=(h.hc.lt B.cg rfl).1;omega)
 exact⟨⟨m.vb h.v h.qc,m.nums h.hr fun k e f=>by have:=own_some e;exact h.rc (by omega),(h.hc.store n u).1,m.nums h.hm fun k e f=>by have:=own_some e;exact h.cm (by omega),h.hi.mq m fun k e _ f=>(h.ib k e).2.2.2.1 f,by obtain⟨bo,b1,b2,b3,b4⟩:=h.ho;exact⟨bo,b1,Nat.le_trans b2 m.size,m.nums b3 fun k e f=>(h.ob k e).2.2.1 f,b4⟩,fun k e=>by obtain⟨a1,a2,a3⟩:=h.ib k e;exact⟨a1,Nat.lt_of_lt_of_le a2 m.size,a3⟩,h.rc,h.rm,h.cm,hl,h.lb,h.qb,fun x cs t e=>⟨m.vb (h.kp x cs t e).1 ((h.kne e).2.1),(h.kp x cs t e).2⟩⟩,L⟩
theorem Bs.reg(h:Bs w B i o zs H ri fa)(n:Nat)(u:Int):Bs (w.setCell ⟨B.rg,n,none⟩ (.int .i64 u)) B i o zs { H with regs:=H.regs.set n u} ri fa∧Below B.base w (w.setCell ⟨B.rg,n,none⟩ (.int .i64 u)):=by
 have m:Mq (fun j=>j=B.rg) w (w.setCell ⟨B.rg,n,none⟩ (.int .i64 u)):=(Mq.refl _ _).set ⟨B.rg,n,none⟩ _ rfl
 obtain⟨L,hl⟩:=h.stay m (fun k e=>by have:=(h.hr.lt B.rg rfl).1;omega)
 exact⟨⟨m.vb h.v h.qr,(h.hr.store n u).1,m.nums h.hc fun k e f=>by have:=own_some e;exact h.rc (by omega),m.nums h.hm fun k e f=>by have:=own_some e;exact h.rm (by omega),h.hi.mq m fun k e _ f=>(h.ib k e).2.2.1 f,by obtain⟨bo,b1,b2,b3,b4⟩:=h.ho;exact⟨bo,b1,Nat.le_trans b2 m.size,m.nums b3 fun k e f=>(h.ob k e).2.1 f,b4⟩,fun k e=>by obtain⟨a1,a2,a3⟩:=h.ib k e;exact⟨a1,Nat.lt_of_lt_of_le a2 m.size,a3⟩,h.rc,h.rm,h.cm,hl,h.lb,h.qb,fun x cs t e=>⟨m.vb (h.kp x cs t e).1 ((h.kne e).1),(h.kp x cs t e).2⟩⟩,L⟩
theorem Bs.memo(h:Bs w B i o zs H ri fa)(n:Nat)(u:Int):Bs (w.setCell ⟨B.gm,n,none⟩ (.int .i64 u)) B i o (zs.set n u) H ri fa∧Below B.base w (w.setCell ⟨B.gm,n,none⟩ (.int .i64 u)):=by
 have m:Mq (fun j=>j=B.gm) w (w.setCell ⟨B.gm,n,none⟩ (.int .i64 u)):=(Mq.refl _ _).set ⟨B.gm,n,none⟩ _ rfl
 obtain⟨L,hl⟩:=h.stay m (fun k e=>by have:=(h.hm.lt B.gm rfl).1;omega)
 exact⟨⟨m.vb h.v h.qm,m.nums h.hr fun k e f=>by have:=own_some e;exact h.rm (by omega),m.nums h.hc fun k e f=>by have:=own_some e;exact h.cm (by omega),(h.hm.store n u).1,h.hi.mq m fun k e _ f=>(h.ib k e).2.2.2.2.1 f,by obtain⟨bo,b1,b2,b3,b4⟩:=h.ho;exact⟨bo,b1,Nat.le_trans b2 m.size,m.nums b3 fun k e f=>(h.ob k e).2.2.2.1 f,b4⟩,fun k e=>by obtain⟨a1,a2,a3⟩:=h.ib k e;exact⟨a1,Nat.lt_of_lt_of_le a2 m.size,a3⟩,h.rc,h.rm,h.cm,hl,h.lb,h.qb,fun x cs t e=>⟨m.vb (h.kp x cs t e).1 ((h.kne e).2.2.1),(h.kp x cs t e).2⟩⟩,L⟩
theorem Bs.inn{w:World}{B:Bp}{i i' o:Value}{zs:List Int}{H G:Ht}{ri fa:Int}(h:Bs w B i o zs H ri fa)(hb:(busC B i o H ri fa).setIfInBounds 10 i'=busC B i' o G ri fa)(r:Rv w i' G.inn)(sub:∀k,i'.ownBlock=some k→i.ownBlock=some k)(er:G.regs=H.regs)(ec:G.csr=H.csr)(eo:G.out=H.out):Bs (w.setCell ⟨B.q,10,none⟩ i') B i' o zs G ri fa∧Below B.base w (w.setCell ⟨B.q,10,none⟩ i'):=by
 have m:Mq (fun j=>j=B.q) w (w.setCell ⟨B.q,10,none⟩ i'):=(Mq.refl _ _).set ⟨B.q,10,none⟩ i' rfl
 obtain⟨L,hl⟩:=h.stay m (fun k e=>by have:=h.qb;omega)
 refine⟨⟨by rw[←hb];exact h.v.set 10 i',?_,?_,m.nums h.hm fun k e f=>by have:=own_some e;exact h.qm (by omega),r.mq m fun k e _ f=>(h.ib k (sub k e)).2.2.2.2.2 f,?_,fun k e=>by obtain⟨a1,a2,a3⟩:=h.ib k (sub k e);exact⟨a1,Nat.lt_of_lt_of_le a2 m.size,a3⟩,h.rc,h.rm,h.cm,hl,h.lb,h.qb,fun x cs t e=>⟨m.vb (h.kp x cs t e).1 ((h.kp x cs t e).2.2.1),(h.kp x cs t e).2.1,(h.kp x cs t e).2.2.1,fun f=>(h.kp x cs t e).2.2.2 (sub x f)⟩⟩,L⟩
 ·rw[er];exact m.nums h.hr fun k e f=>by have:=own_some e;exact h.qr (by omega)
 ·rw[ec];exact m.nums h.hc fun k e f=>by have:=own_some e;exact h.qc (by omega)
 ·rw[eo];obtain⟨bo,b1,b2,b3,b4,b5,b6,b7⟩:=h.ho;exact⟨bo,b1,Nat.le_trans b2 m.size,m.nums b3 fun k e f=>h.qo (by rw[e,f]),b4,b5,b6,fun k e=>b7 k (sub k e)⟩
theorem Bs.outn{w w':World}{B:Bp}{i o o':Value}{zs:List Int}{H G:Ht}{ri fa:Int}(h:Bs w B i o zs H ri fa)(g:w.grownBy w' o.ownBlock)(bo:Nat)(c1:B.base≤bo)(c2:bo≤w.heap.size)(c3:B.rg<bo∧B.cg<bo∧B.gm<bo∧∀k,i.ownBlock=some k→k<bo)(r:Nums w' bo o' G.out)(hb:(busC B i o H ri fa).setIfInBounds 11 o'=busC B i o' G ri fa)(er:G.regs=H.regs)(ec:G.csr=H.csr)(ei:G.inn=H.inn):Bs (w'.setCell ⟨B.q,11,none⟩ o') B i o' zs G ri fa∧Below B.base w (w'.setCell ⟨B.q,11,none⟩ o'):=by
 have m1:Mq (fun j=>o.ownBlock=some j) w w':=Mq.of g fun k e=>e.symm
 have m2:Mq (fun j=>j=B.q) w' (w'.setCell ⟨B.q,11,none⟩ o'):=(Mq.refl _ _).set ⟨B.q,11,none⟩ o' rfl
 have m:Mq (fun j=>o.ownBlock=some j∨j=B.q) w (w'.setCell ⟨B.q,11,none⟩ o'):=⟨m2.os.trans m1.os,m2.tape.trans m1.tape,m2.output.trans m1.output,Nat.le_trans m1.size m2.size,fun k hk hs=>(m2.block k (Nat.lt_of_lt_of_le hk m1.size) fun e=>hs (.inr e)).trans (m1.block k hk fun e=>hs (.inl e))⟩
 obtain⟨L,hl⟩:=h.stay m (fun k e=>by
  rcases e with e|e
  ·exact(h.ob k e).1
  ·have:=h.qb;omega)
 have hv:Vb w' B.q (busC B i o H ri fa) 62:=m1.vb h.v h.qo
 refine⟨⟨by rw[←hb];exact hv.set 11 o',?_,?_,m.nums h.hm fun k e f=>by
   have:=own_some e
   rcases f with f|f
   ·exact(h.ob k f).2.2.2.1 (by omega)
   ·exact h.qm (by omega),?_,⟨bo,c1,Nat.le_trans c2 m.size,m2.nums r fun k e f=>?_,c3⟩,fun k e=>by obtain⟨a1,a2,a3⟩:=h.ib k e;exact⟨a1,Nat.lt_of_lt_of_le a2 m.size,a3⟩,h.rc,h.rm,h.cm,hl,h.lb,h.qb,fun x cs t e=>⟨m.vb (h.kp x cs t e).1 (fun f=>f.elim (h.kne e).2.2.2 (h.kp x cs t e).2.2.1),(h.kp x cs t e).2⟩⟩,L⟩
 ·rw[er];exact m.nums h.hr fun k e f=>by
   have:=own_some e
   rcases f with f|f
   ·exact(h.ob k f).2.1 (by omega)
   ·exact h.qr (by omega)
 ·rw[ec];exact m.nums h.hc fun k e f=>by
   have:=own_some e
   rcases f with f|f
   ·exact(h.ob k f).2.2.1 (by omega)
   ·exact h.qc (by omega)
 ·rw[ei];exact h.hi.mq m fun k e _ f=>by
   rcases f with f|f
   ·exact(h.ob k f).2.2.2.2 e
   ·exact(h.ib k e).2.2.2.2.2 f
 ·exact r.ne_vb (t:=62) hv (by decide) (by rw[e,f])
theorem Bs.kept(h:Bs w B i o zs H ri fa)(x:Nat)(cs:Array Value)(t:TypeId)(v:Vb w x cs t)(ht:t≠2)(hx:x≠B.q)(hi:i.ownBlock≠some x):Bs w { B with kx:=some (x,cs,t)} i o zs H ri fa:=
 ⟨h.v,h.hr,h.hc,h.hm,h.hi,h.ho,h.ib,h.rc,h.rm,h.cm,h.ls,h.lb,h.qb,fun x' cs' t' e=>by cases e;exact⟨v,ht,hx,hi⟩⟩
theorem z_pending(R:Bs w B i o zs H ri fa):
  Calls Tryz.prog 61 #[.pointer (some ⟨B.q,3,none⟩)] w fun e w'=>e=.returned (.int .i64 (pendV H))∧Below w.heap.size w w':=by
 obtain⟨a2,k2,rfl,hri⟩:=R.hi
 have hl:(H.inn.length:Int)≤9223372036854775807:=by have:=hri.cap;unfold maxLen at this;omega
 obtain⟨z9,h9⟩:∃z,gt H.csr 9=z:=⟨_,rfl⟩
 obtain⟨d,hd⟩:∃z,H.done=z:=⟨_,rfl⟩
 obtain⟨n2,hn2⟩:∃z,H.inn.length=z:=⟨_,rfl⟩
 have Z9:Hid (gt H.csr 9=z9∧H.done=d∧H.inn.length=n2):=⟨h9,hd,hn2⟩
 have c9:w.cell? ⟨B.cg,9,none⟩=some (.int .i64 z9):=by rw[←h9];exact R.hc.cell R.hc.len 9 (by decide)
 have cd:w.cell? ⟨B.q,9,none⟩=some (.int .i64 d):=by rw[←hd];exact R.v.cell 9 rfl
 have cr:w.cell? ⟨B.q,8,none⟩=some (.bool H.rung):=R.v.cell 8 rfl
 have ci:w.cell? ⟨B.q,10,none⟩=some (.slice a2 n2 k2):=by rw[←hn2];exact R.v.cell 10 rfl
 have cs:w.cell? ⟨B.q,5,none⟩=some (.slice (some ⟨B.cg,0,none⟩) 11 B.ck):=R.v.cell 5 rfl
 rw[hn2]at hl
 clear R hri
 clear h9 hd hn2
 by_cases h0:z9=0
 ·have PA:Hid ((if gt H.csr 9≠0∧gt H.csr 9≤H.done then(1:Int)else 0)=0):=by show _=_;rw[Z9.out.1,if_neg (fun k=>k.1 h0)]
  subst h0
  cases hru:H.rung
  ·have PB:Hid ((if H.rung then(2:Int)else 0)=0):=by show _=_;rw[hru];rfl
   rw[hru]at cr
   by_cases hn:0<n2
   ·have PC:Hid ((if 0<H.inn.length then(4:Int)else 0)=4):=by show _=_;rw[Z9.out.2.2,if_pos hn]
    have hI:(0:Int)<(n2:Int):=by omega
    go_enter Tryz.func61,Tryz.ntmps61
    go_wp2_with fail
    go_quiet (fail)
    go_wp2_with fail
    go_ret
    exact⟨ret_i ((by decide:(4:Int)=0+0+4).trans (pend_eq H 0 0 4 PA.out PB.out PC.out)),dr (Below.refl _ _) _⟩
   ·have PC:Hid ((if 0<H.inn.length then(4:Int)else 0)=0):=by show _=_;rw[Z9.out.2.2,if_neg hn]
    have hI:¬(0:Int)<(n2:Int):=by omega
    go_enter Tryz.func61,Tryz.ntmps61
    go_wp2_with fail
    go_quiet (fail)
    go_wp2_with fail
    go_ret
    exact⟨ret_i ((by decide:(0:Int)=0+0+0).trans (pend_eq H 0 0 0 PA.out PB.out PC.out)),dr (Below.refl _ _) _⟩
  ·have PB:Hid ((if H.rung then(2:Int)else 0)=2):=by show _=_;rw[hru];rfl
   rw[hru]at cr
   by_cases hn:0<n2
   ·have PC:Hid ((if 0<H.inn.length then(4:Int)else 0)=4):=by show _=_;rw[Z9.out.2.2,if_pos hn]
    have hI:(0:Int)<(n2:Int):=by omega
    go_enter Tryz.func61,Tryz.ntmps61
    go_wp2_with fail
    go_quiet (fail)
    go_wp2_with fail
    go_ret
    exact⟨ret_i ((by decide:(6:Int)=0+2+4).trans (pend_eq H 0 2 4 PA.out PB.out PC.out)),dr (Below.refl _ _) _⟩
   ·have PC:Hid ((if 0<H.inn.length then(4:Int)else 0)=0):=by show _=_;rw[Z9.out.2.2,if_neg hn]
    have hI:¬(0:Int)<(n2:Int):=by omega
    go_enter Tryz.func61,Tryz.ntmps61
    go_wp2_with fail
    go_quiet (fail)
    go_wp2_with fail
    go_ret
    exact⟨ret_i ((by decide:(2:Int)=0+2+0).trans (pend_eq H 0 2 0 PA.out PB.out PC.out)),dr (Below.refl _ _) _⟩
 have hI0:(z9 !=0)=true:=by simp[h0]
 by_cases h1:z9≤d
 ·have PA:Hid ((if gt H.csr 9≠0∧gt H.csr 9≤H.done then(1:Int)else 0)=1):=by show _=_;rw[Z9.out.1,Z9.out.2.1,if_pos ⟨h0,h1⟩]
  cases hru:H.rung
  ·have PB:Hid ((if H.rung then(2:Int)else 0)=0):=by show _=_;rw[hru];rfl
   rw[hru]at cr
   by_cases hn:0<n2
   ·have PC:Hid ((if 0<H.inn.length then(4:Int)else 0)=4):=by show _=_;rw[Z9.out.2.2,if_pos hn]
    have hI:(0:Int)<(n2:Int):=by omega
    go_enter Tryz.func61,Tryz.ntmps61
    go_wp2_with fail
    go_quiet (fail)
    go_wp2_with fail
    go_ret
    exact⟨ret_i ((by decide:(5:Int)=1+0+4).trans (pend_eq H 1 0 4 PA.out PB.out PC.out)),dr (Below.refl _ _) _⟩
   ·have PC:Hid ((if 0<H.inn.length then(4:Int)else 0)=0):=by show _=_;rw[Z9.out.2.2,if_neg hn]
    have hI:¬(0:Int)<(n2:Int):=by omega
    go_enter Tryz.func61,Tryz.ntmps61
    go_wp2_with fail
    go_quiet (fail)
    go_wp2_with fail
    go_ret
    exact⟨ret_i ((by decide:(1:Int)=1+0+0).trans (pend_eq H 1 0 0 PA.out PB.out PC.out)),dr (Below.refl _ _) _⟩
  ·have PB:Hid ((if H.rung then(2:Int)else 0)=2):=by show _=_;rw[hru];rfl
   rw[hru]at cr
   by_cases hn:0<n2
   ·have PC:Hid ((if 0<H.inn.length then(4:Int)else 0)=4):=by show _=_;rw[Z9.out.2.2,if_pos hn]
    have hI:(0:Int)<(n2:Int):=by omega
    go_enter Tryz.func61,Tryz.ntmps61
    go_wp2_with fail
    go_quiet (fail)
    go_wp2_with fail
    go_ret
    exact⟨ret_i ((by decide:(7:Int)=1+2+4).trans (pend_eq H 1 2 4 PA.out PB.out PC.out)),dr (Below.refl _ _) _⟩
   ·have PC:Hid ((if 0<H.inn.length then(4:Int)else 0)=0):=by show _=_;rw[Z9.out.2.2,if_neg hn]
    have hI:¬(0:Int)<(n2:Int):=by omega
    go_enter Tryz.func61,Tryz.ntmps61
    go_wp2_with fail
    go_quiet (fail)
    go_wp2_with fail
    go_ret
    exact⟨ret_i ((by decide:(3:Int)=1+2+0).trans (pend_eq H 1 2 0 PA.out PB.out PC.out)),dr (Below.refl _ _) _⟩
 ·have PA:Hid ((if gt H.csr 9≠0∧gt H.csr 9≤H.done then(1:Int)else 0)=0):=by show _=_;rw[Z9.out.1,Z9.out.2.1,if_neg (fun k=>h1 k.2)]
  have hI1:d<z9:=by omega
  cases hru:H.rung
  ·have PB:Hid ((if H.rung then(2:Int)else 0)=0):=by show _=_;rw[hru];rfl
   rw[hru]at cr
   by_cases hn:0<n2
   ·have PC:Hid ((if 0<H.inn.length then(4:Int)else 0)=4):=by show _=_;rw[Z9.out.2.2,if_pos hn]
    have hI:(0:Int)<(n2:Int):=by omega
    go_enter Tryz.func61,Tryz.ntmps61
    go_wp2_with fail
    go_quiet (fail)
    go_wp2_with fail
    go_ret
    exact⟨ret_i ((by decide:(4:Int)=0+0+4).trans (pend_eq H 0 0 4 PA.out PB.out PC.out)),dr (Below.refl _ _) _⟩
   ·have PC:Hid ((if 0<H.inn.length then(4:Int)else 0)=0):=by show _=_;rw[Z9.out.2.2,if_neg hn]
    have hI:¬(0:Int)<(n2:Int):=by omega
    go_enter Tryz.func61,Tryz.ntmps61
    go_wp2_with fail
    go_quiet (fail)
    go_wp2_with fail
    go_ret
    exact⟨ret_i ((by decide:(0:Int)=0+0+0).trans (pend_eq H 0 0 0 PA.out PB.out PC.out)),dr (Below.refl _ _) _⟩
  ·have PB:Hid ((if H.rung then(2:Int)else 0)=2):=by show _=_;rw[hru];rfl
   rw[hru]at cr
   by_cases hn:0<n2
   ·have PC:Hid ((if 0<H.inn.length then(4:Int)else 0)=4):=by show _=_;rw[Z9.out.2.2,if_pos hn]
    have hI:(0:Int)<(n2:Int):=by omega
    go_enter Tryz.func61,Tryz.ntmps61
    go_wp2_with fail
    go_quiet (fail)
    go_wp2_with fail
    go_ret
    exact⟨ret_i ((by decide:(6:Int)=0+2+4).trans (pend_eq H 0 2 4 PA.out PB.out PC.out)),dr (Below.refl _ _) _⟩
   ·have PC:Hid ((if 0<H.inn.length then(4:Int)else 0)=0):=by show _=_;rw[Z9.out.2.2,if_neg hn]
    have hI:¬(0:Int)<(n2:Int):=by omega
    go_enter Tryz.func61,Tryz.ntmps61
    go_wp2_with fail
    go_quiet (fail)
    go_wp2_with fail
    go_ret
    exact⟨ret_i ((by decide:(2:Int)=0+2+0).trans (pend_eq H 0 2 0 PA.out PB.out PC.out)),dr (Below.refl _ _) _⟩
theorem z_get(R:Bs w B i o zs H ri fa)(k:Int)(h0:0≤k)(h10:k≤10):
  Calls Tryz.prog 105 #[.pointer (some ⟨B.q,3,none⟩),.int .i64 k] w fun e w'=>e=.returned (.int .i64 (getV H k))∧Below w.heap.size w w':=by
 by_cases h6:k=6
 ·subst h6
  have HR:=hid R
  clear R
  go_enter Tryz.func105,Tryz.ntmps105
  go_wp2_with (go_at_call 61;refine(z_pending HR.out).mono ?_;rintro e x ⟨rfl,bx⟩)
  go_ret
  exact⟨rfl,bx⟩
 by_cases h8:k=8
 ·subst h8
  have c8:w.cell? ⟨B.q,9,none⟩=some (.int .i64 H.done):=R.v.cell 9 rfl
  clear R
  go_enter Tryz.func105,Tryz.ntmps105
  go_wp2_with fail
  go_ret
  exact⟨rfl,Below.refl _ _⟩
 obtain⟨n,rfl⟩:∃n:Nat,k=n:=⟨k.toNat,by omega⟩
 have cn:w.cell? ⟨B.cg,n,none⟩=some (.int .i64 (gt H.csr n)):=R.hc.cell R.hc.len n (by omega)
 have cc:w.cell? ⟨B.q,5,none⟩=some (.slice (some ⟨B.cg,0,none⟩) 11 B.ck):=R.v.cell 5 rfl
 have HG:Hid (getV H (n:Int)=gt H.csr n):=getV_at H n (by omega) (by omega)
 have hI:(n:Int)<11:=by omega
 clear R
 go_enter Tryz.func105,Tryz.ntmps105
 go_wp2_with fail
 go_ret
 exact⟨ret_i HG.out.symm,Below.refl _ _⟩
end Go.Proofs.YtaefollmeoepkaaGreatDoor
