import Derived.Test.YtignbeibcakgpaaGreatDoorQ34
namespace Go.Proofs.YtignbeibcakgpaaGreatDoor
set_option maxRecDepth 20000
set_option maxHeartbeats 16000000
open Go.RowKit
set_option linter.unusedVariables false
theorem Vb.turn{w w':World}{b q:Nat}{cs:Array Value}{t:TypeId}(h:Vb w q cs t)(k:Turn b w w')(hn:q≠b):Vb w' q cs t:=(k.block q h.lt hn).trans h
theorem ins7_any{w:World}{b k:Nat}{a:Option Addr}{len cap:Nat}{zs:List Int}(s:Src w b k a len cap zs)(hk:k≤40000):
  Calls Tryz.prog 88 #[.pointer (some ⟨b,0,none⟩)] w fun e w'=>∃(o d x i:Int) (k':Nat),e=.returned (.agg #[.int .i64 o,.int .i64 d,.int .i64 x,.int .i64 i])∧Turn b w w'∧Src w' b k' a len cap zs∧k'≤k+10:=by
 have HH:Hid (b<w.heap.size):=s.here
 have s0:=s.alloc (.cells #[.int .i64 0,.int .i64 0,.int .i64 0,.int .i64 0] 175)
 have V0:Hid (Vb (w.alloc (.cells #[.int .i64 0,.int .i64 0,.int .i64 0,.int .i64 0] 175)) w.heap.size #[.int .i64 0,.int .i64 0,.int .i64 0,.int .i64 0] 175):=Vb.new _ _ _
 go_enter Tryz.func88,Tryz.ntmps88
 go_wp2_with fail
 refine(next_any s0 (by omega) _).mono ?_
 rintro e w1⟨v1,rfl,h1, -,t1,s1⟩
 obtain⟨l1,u1⟩:=h1 (by omega)
 clear h1
 go_wp2_with fail
 refine(next_any s1 (by omega) _).mono ?_
 rintro e w2⟨v2,rfl,h2, -,t2,s2⟩
 obtain⟨l2,u2⟩:=h2 (by omega)
 have T2:Hid (Turn b w w2):=(Turn.alloc b w _).trans (t1.trans t2)
 have V2:Hid (Vb w2 w.heap.size #[.int .i64 0,.int .i64 0,.int .i64 0,.int .i64 0] 175):=(V0.out.turn t1 (by have:=HH.out;omega)).turn t2 (by have:=HH.out;omega)
 clear h2 t1 t2 s0 s1 V0
 have hv:v2=0∨v2=1∨v2=2∨v2=3∨v2=4∨v2=5∨v2=6∨v2=7∨v2=8∨v2=9∨v2=10∨v2=11∨v2=12∨v2=13:=by omega
 clear l2 u2
 rcases hv with rfl|rfl|rfl|rfl|rfl|rfl|rfl|rfl|rfl|rfl|rfl|rfl|rfl|rfl
 ·skip
  go_wp2_with fail
  refine(next_any s2 (by omega) _).mono ?_
  rintro e w3⟨v3,rfl,h3, -,t3,s3⟩
  obtain⟨l3,u3⟩:=h3 (by omega)
  have T3:Hid (Turn b w w3):=T2.out.trans t3
  have V3:Hid (Vb w3 w.heap.size #[.int .i64 0,.int .i64 0,.int .i64 0,.int .i64 0] 175):=V2.out.turn t3 (by have:=HH.out;omega)
  clear h3 t3 T2 V2
  go_wp2_with fail
  refine(next_any s3 (by omega) _).mono ?_
  rintro e w4⟨v4,rfl,h4, -,t4,s4⟩
  obtain⟨l4,u4⟩:=h4 (by omega)
  have T4:Hid (Turn b w w4):=T3.out.trans t4
  have V4:Hid (Vb w4 w.heap.size #[.int .i64 0,.int .i64 0,.int .i64 0,.int .i64 0] 175):=V3.out.turn t4 (by have:=HH.out;omega)
  clear h4 t4 T3 V3
  go_wp2_with fail
  refine(next_any s4 (by omega) _).mono ?_
  rintro e w5⟨v5,rfl,h5, -,t5,s5⟩
  obtain⟨l5,u5⟩:=h5 (by omega)
  have T5:Hid (Turn b w w5):=T4.out.trans t5
  have V5:Hid (Vb w5 w.heap.size #[.int .i64 0,.int .i64 0,.int .i64 0,.int .i64 0] 175):=V4.out.turn t5 (by have:=HH.out;omega)
  clear h5 t5 T4 V4
  go_wp2_with fail
  refine(next_any s5 (by omega) _).mono ?_
  rintro e w6⟨v6,rfl,h6, -,t6,s6⟩
  obtain⟨l6,u6⟩:=h6 (by omega)
  have T6:Hid (Turn b w w6):=T5.out.trans t6
  have V6:Hid (Vb w6 w.heap.size #[.int .i64 0,.int .i64 0,.int .i64 0,.int .i64 0] 175):=V5.out.turn t6 (by have:=HH.out;omega)
  clear h6 t6 T5 V5
  go_wp2_with fail
  have hb7:=s6.here
  refine(pick_any (s6.alloc _) (by omega) (fun _=>True) _ 4 (by omega) (by omega) (by simp) (by omega) ?_).mono ?_
  ·intro i hi
   have:i=0∨i=1∨i=2∨i=3:=by omega
   rcases this with rfl|rfl|rfl|rfl
   all_goals exact⟨_,cell_new rfl,trivial⟩
  rintro e w7⟨v7,rfl, -,t7,s7⟩
  have T7:Hid (Turn b w w7):=T6.out.trans ((Turn.alloc b _ _).trans t7)
  have V7:Hid (Vb w7 w.heap.size #[.int .i64 0,.int .i64 0,.int .i64 0,.int .i64 0] 175):=(V6.out.push _).turn t7 (by have:=HH.out;omega)
  clear t7 T6 V6 hb7
  have S7:Hid (Src w7 b _ a len cap zs):=s7
  have k0:=V7.out.cell 0 rfl
  have k1:=V7.out.cell 1 rfl
  have k2:=V7.out.cell 2 rfl
  have k3:=V7.out.cell 3 rfl
  have f0:=V7.out.free 0
  have f1:=V7.out.free 1
  have f2:=V7.out.free 2
  have f3:=V7.out.free 3
  have sz:=V7.out.lt
  clear s2 s3 s4 s5 s6 s7
  go_wp2_with fail
  exact bodyPost_ret (v:=.agg #[.int .i64 (12),.int .i64 (1+v1),.int .i64 (v3),.int .i64 (v7)]) (by simp[results,Tryz.results88,go_sem,k0,k1,k2,k3]) rfl ⟨_,_,_,_,_,rfl,(((T7.out.putC (p:=⟨w.heap.size,0,none⟩) (Nat.le_refl _) _).putC (p:=⟨w.heap.size,1,none⟩) (Nat.le_refl _) _).putC (p:=⟨w.heap.size,2,none⟩) (Nat.le_refl _) _).putC (p:=⟨w.heap.size,3,none⟩) (Nat.le_refl _) _,(((S7.out.putC (p:=⟨w.heap.size,0,none⟩) HH.out _).putC (p:=⟨w.heap.size,1,none⟩) HH.out _).putC (p:=⟨w.heap.size,2,none⟩) HH.out _).putC (p:=⟨w.heap.size,3,none⟩) HH.out _,by omega⟩
 ·skip
  go_wp2_with fail
  refine(next_any s2 (by omega) _).mono ?_
  rintro e w3⟨v3,rfl,h3, -,t3,s3⟩
  obtain⟨l3,u3⟩:=h3 (by omega)
  have T3:Hid (Turn b w w3):=T2.out.trans t3
  have V3:Hid (Vb w3 w.heap.size #[.int .i64 0,.int .i64 0,.int .i64 0,.int .i64 0] 175):=V2.out.turn t3 (by have:=HH.out;omega)
  clear h3 t3 T2 V2
  go_wp2_with fail
  refine(next_any s3 (by omega) _).mono ?_
  rintro e w4⟨v4,rfl,h4, -,t4,s4⟩
  obtain⟨l4,u4⟩:=h4 (by omega)
  have T4:Hid (Turn b w w4):=T3.out.trans t4
  have V4:Hid (Vb w4 w.heap.size #[.int .i64 0,.int .i64 0,.int .i64 0,.int .i64 0] 175):=V3.out.turn t4 (by have:=HH.out;omega)
  clear h4 t4 T3 V3
  go_wp2_with fail
  refine(next_any s4 (by omega) _).mono ?_
  rintro e w5⟨v5,rfl,h5, -,t5,s5⟩
  obtain⟨l5,u5⟩:=h5 (by omega)
  have T5:Hid (Turn b w w5):=T4.out.trans t5
  have V5:Hid (Vb w5 w.heap.size #[.int .i64 0,.int .i64 0,.int .i64 0,.int .i64 0] 175):=V4.out.turn t5 (by have:=HH.out;omega)
  clear h5 t5 T4 V4
  go_wp2_with fail
  refine(next_any s5 (by omega) _).mono ?_
  rintro e w6⟨v6,rfl,h6, -,t6,s6⟩
  obtain⟨l6,u6⟩:=h6 (by omega)
  have T6:Hid (Turn b w w6):=T5.out.trans t6
  have V6:Hid (Vb w6 w.heap.size #[.int .i64 0,.int .i64 0,.int .i64 0,.int .i64 0] 175):=V5.out.turn t6 (by have:=HH.out;omega)
  clear h6 t6 T5 V5
  go_wp2_with fail
  have hb7:=s6.here
  refine(pick_any (s6.alloc _) (by omega) (fun _=>True) _ 4 (by omega) (by omega) (by simp) (by omega) ?_).mono ?_
  ·intro i hi
   have:i=0∨i=1∨i=2∨i=3:=by omega
   rcases this with rfl|rfl|rfl|rfl
   all_goals exact⟨_,cell_new rfl,trivial⟩
  rintro e w7⟨v7,rfl, -,t7,s7⟩
  have T7:Hid (Turn b w w7):=T6.out.trans ((Turn.alloc b _ _).trans t7)
  have V7:Hid (Vb w7 w.heap.size #[.int .i64 0,.int .i64 0,.int .i64 0,.int .i64 0] 175):=(V6.out.push _).turn t7 (by have:=HH.out;omega)
  clear t7 T6 V6 hb7
  have S7:Hid (Src w7 b _ a len cap zs):=s7
  have k0:=V7.out.cell 0 rfl
  have k1:=V7.out.cell 1 rfl
  have k2:=V7.out.cell 2 rfl
  have k3:=V7.out.cell 3 rfl
  have f0:=V7.out.free 0
  have f1:=V7.out.free 1
  have f2:=V7.out.free 2
  have f3:=V7.out.free 3
  have sz:=V7.out.lt
  clear s2 s3 s4 s5 s6 s7
  go_wp2_with fail
  exact bodyPost_ret (v:=.agg #[.int .i64 (12),.int .i64 (1+v1),.int .i64 (v3),.int .i64 (v7)]) (by simp[results,Tryz.results88,go_sem,k0,k1,k2,k3]) rfl ⟨_,_,_,_,_,rfl,(((T7.out.putC (p:=⟨w.heap.size,0,none⟩) (Nat.le_refl _) _).putC (p:=⟨w.heap.size,1,none⟩) (Nat.le_refl _) _).putC (p:=⟨w.heap.size,2,none⟩) (Nat.le_refl _) _).putC (p:=⟨w.heap.size,3,none⟩) (Nat.le_refl _) _,(((S7.out.putC (p:=⟨w.heap.size,0,none⟩) HH.out _).putC (p:=⟨w.heap.size,1,none⟩) HH.out _).putC (p:=⟨w.heap.size,2,none⟩) HH.out _).putC (p:=⟨w.heap.size,3,none⟩) HH.out _,by omega⟩
 ·skip
  go_wp2_with fail
  refine(next_any s2 (by omega) _).mono ?_
  rintro e w3⟨v3,rfl,h3, -,t3,s3⟩
  obtain⟨l3,u3⟩:=h3 (by omega)
  have T3:Hid (Turn b w w3):=T2.out.trans t3
  have V3:Hid (Vb w3 w.heap.size #[.int .i64 0,.int .i64 0,.int .i64 0,.int .i64 0] 175):=V2.out.turn t3 (by have:=HH.out;omega)
  clear h3 t3 T2 V2
  go_wp2_with fail
  refine(next_any s3 (by omega) _).mono ?_
  rintro e w4⟨v4,rfl,h4, -,t4,s4⟩
  obtain⟨l4,u4⟩:=h4 (by omega)
  have T4:Hid (Turn b w w4):=T3.out.trans t4
  have V4:Hid (Vb w4 w.heap.size #[.int .i64 0,.int .i64 0,.int .i64 0,.int .i64 0] 175):=V3.out.turn t4 (by have:=HH.out;omega)
  clear h4 t4 T3 V3
  go_wp2_with fail
  refine(next_any s4 (by omega) _).mono ?_
  rintro e w5⟨v5,rfl,h5, -,t5,s5⟩
  obtain⟨l5,u5⟩:=h5 (by omega)
  have T5:Hid (Turn b w w5):=T4.out.trans t5
  have V5:Hid (Vb w5 w.heap.size #[.int .i64 0,.int .i64 0,.int .i64 0,.int .i64 0] 175):=V4.out.turn t5 (by have:=HH.out;omega)
  clear h5 t5 T4 V4
  go_wp2_with fail
  refine(next_any s5 (by omega) _).mono ?_
  rintro e w6⟨v6,rfl,h6, -,t6,s6⟩
  obtain⟨l6,u6⟩:=h6 (by omega)
  have T6:Hid (Turn b w w6):=T5.out.trans t6
  have V6:Hid (Vb w6 w.heap.size #[.int .i64 0,.int .i64 0,.int .i64 0,.int .i64 0] 175):=V5.out.turn t6 (by have:=HH.out;omega)
  clear h6 t6 T5 V5
  go_wp2_with fail
  have hb7:=s6.here
  refine(pick_any (s6.alloc _) (by omega) (fun _=>True) _ 4 (by omega) (by omega) (by simp) (by omega) ?_).mono ?_
  ·intro i hi
   have:i=0∨i=1∨i=2∨i=3:=by omega
   rcases this with rfl|rfl|rfl|rfl
   all_goals exact⟨_,cell_new rfl,trivial⟩
  rintro e w7⟨v7,rfl, -,t7,s7⟩
  have T7:Hid (Turn b w w7):=T6.out.trans ((Turn.alloc b _ _).trans t7)
  have V7:Hid (Vb w7 w.heap.size #[.int .i64 0,.int .i64 0,.int .i64 0,.int .i64 0] 175):=(V6.out.push _).turn t7 (by have:=HH.out;omega)
  clear t7 T6 V6 hb7
  have S7:Hid (Src w7 b _ a len cap zs):=s7
  have k0:=V7.out.cell 0 rfl
  have k1:=V7.out.cell 1 rfl
  have k2:=V7.out.cell 2 rfl
  have k3:=V7.out.cell 3 rfl
  have f0:=V7.out.free 0
  have f1:=V7.out.free 1
  have f2:=V7.out.free 2
  have f3:=V7.out.free 3
  have sz:=V7.out.lt
  clear s2 s3 s4 s5 s6 s7
  go_wp2_with fail
  exact bodyPost_ret (v:=.agg #[.int .i64 (12),.int .i64 (1+v1),.int .i64 (v3),.int .i64 (v7)]) (by simp[results,Tryz.results88,go_sem,k0,k1,k2,k3]) rfl ⟨_,_,_,_,_,rfl,(((T7.out.putC (p:=⟨w.heap.size,0,none⟩) (Nat.le_refl _) _).putC (p:=⟨w.heap.size,1,none⟩) (Nat.le_refl _) _).putC (p:=⟨w.heap.size,2,none⟩) (Nat.le_refl _) _).putC (p:=⟨w.heap.size,3,none⟩) (Nat.le_refl _) _,(((S7.out.putC (p:=⟨w.heap.size,0,none⟩) HH.out _).putC (p:=⟨w.heap.size,1,none⟩) HH.out _).putC (p:=⟨w.heap.size,2,none⟩) HH.out _).putC (p:=⟨w.heap.size,3,none⟩) HH.out _,by omega⟩
 ·skip
  go_wp2_with fail
  refine(next_any s2 (by omega) _).mono ?_
  rintro e w3⟨v3,rfl,h3, -,t3,s3⟩
  obtain⟨l3,u3⟩:=h3 (by omega)
  have T3:Hid (Turn b w w3):=T2.out.trans t3
  have V3:Hid (Vb w3 w.heap.size #[.int .i64 0,.int .i64 0,.int .i64 0,.int .i64 0] 175):=V2.out.turn t3 (by have:=HH.out;omega)
  clear h3 t3 T2 V2
  go_wp2_with fail
  refine(next_any s3 (by omega) _).mono ?_
  rintro e w4⟨v4,rfl,h4, -,t4,s4⟩
  obtain⟨l4,u4⟩:=h4 (by omega)
  have T4:Hid (Turn b w w4):=T3.out.trans t4
  have V4:Hid (Vb w4 w.heap.size #[.int .i64 0,.int .i64 0,.int .i64 0,.int .i64 0] 175):=V3.out.turn t4 (by have:=HH.out;omega)
  clear h4 t4 T3 V3
  go_wp2_with fail
  refine(next_any s4 (by omega) _).mono ?_
  rintro e w5⟨v5,rfl,h5, -,t5,s5⟩
  obtain⟨l5,u5⟩:=h5 (by omega)
  have T5:Hid (Turn b w w5):=T4.out.trans t5
  have V5:Hid (Vb w5 w.heap.size #[.int .i64 0,.int .i64 0,.int .i64 0,.int .i64 0] 175):=V4.out.turn t5 (by have:=HH.out;omega)
  clear h5 t5 T4 V4
  have S5:Hid (Src w5 b _ a len cap zs):=s5
  have k0:=V5.out.cell 0 rfl
  have k1:=V5.out.cell 1 rfl
  have k2:=V5.out.cell 2 rfl
  have k3:=V5.out.cell 3 rfl
  have f0:=V5.out.free 0
  have f1:=V5.out.free 1
  have f2:=V5.out.free 2
  have f3:=V5.out.free 3
  have sz:=V5.out.lt
  clear s2 s3 s4 s5
  go_wp2_with fail
  exact bodyPost_ret (v:=.agg #[.int .i64 (1+v3),.int .i64 (1+v1),.int .i64 (v4),.int .i64 (v5)]) (by simp[results,Tryz.results88,go_sem,k0,k1,k2,k3]) rfl ⟨_,_,_,_,_,rfl,(((T5.out.putC (p:=⟨w.heap.size,0,none⟩) (Nat.le_refl _) _).putC (p:=⟨w.heap.size,1,none⟩) (Nat.le_refl _) _).putC (p:=⟨w.heap.size,2,none⟩) (Nat.le_refl _) _).putC (p:=⟨w.heap.size,3,none⟩) (Nat.le_refl _) _,(((S5.out.putC (p:=⟨w.heap.size,0,none⟩) HH.out _).putC (p:=⟨w.heap.size,1,none⟩) HH.out _).putC (p:=⟨w.heap.size,2,none⟩) HH.out _).putC (p:=⟨w.heap.size,3,none⟩) HH.out _,by omega⟩
 ·skip
  go_wp2_with fail
  refine(next_any s2 (by omega) _).mono ?_
  rintro e w3⟨v3,rfl,h3, -,t3,s3⟩
  obtain⟨l3,u3⟩:=h3 (by omega)
  have T3:Hid (Turn b w w3):=T2.out.trans t3
  have V3:Hid (Vb w3 w.heap.size #[.int .i64 0,.int .i64 0,.int .i64 0,.int .i64 0] 175):=V2.out.turn t3 (by have:=HH.out;omega)
  clear h3 t3 T2 V2
  go_wp2_with fail
  refine(next_any s3 (by omega) _).mono ?_
  rintro e w4⟨v4,rfl,h4, -,t4,s4⟩
  obtain⟨l4,u4⟩:=h4 (by omega)
  have T4:Hid (Turn b w w4):=T3.out.trans t4
  have V4:Hid (Vb w4 w.heap.size #[.int .i64 0,.int .i64 0,.int .i64 0,.int .i64 0] 175):=V3.out.turn t4 (by have:=HH.out;omega)
  clear h4 t4 T3 V3
  go_wp2_with fail
  refine(next_any s4 (by omega) _).mono ?_
  rintro e w5⟨v5,rfl,h5, -,t5,s5⟩
  obtain⟨l5,u5⟩:=h5 (by omega)
  have T5:Hid (Turn b w w5):=T4.out.trans t5
  have V5:Hid (Vb w5 w.heap.size #[.int .i64 0,.int .i64 0,.int .i64 0,.int .i64 0] 175):=V4.out.turn t5 (by have:=HH.out;omega)
  clear h5 t5 T4 V4
  go_wp2_with fail
  refine(next_any s5 (by omega) _).mono ?_
  rintro e w6⟨v6,rfl,h6, -,t6,s6⟩
  obtain⟨l6,u6⟩:=h6 (by omega)
  have T6:Hid (Turn b w w6):=T5.out.trans t6
  have V6:Hid (Vb w6 w.heap.size #[.int .i64 0,.int .i64 0,.int .i64 0,.int .i64 0] 175):=V5.out.turn t6 (by have:=HH.out;omega)
  clear h6 t6 T5 V5
  go_wp2_with fail
  have hb7:=s6.here
  refine(pick_any (s6.alloc _) (by omega) (fun _=>True) _ 3 (by omega) (by omega) (by simp) (by omega) ?_).mono ?_
  ·intro i hi
   have:i=0∨i=1∨i=2:=by omega
   rcases this with rfl|rfl|rfl
   all_goals exact⟨_,cell_new rfl,trivial⟩
  rintro e w7⟨v7,rfl, -,t7,s7⟩
  have T7:Hid (Turn b w w7):=T6.out.trans ((Turn.alloc b _ _).trans t7)
  have V7:Hid (Vb w7 w.heap.size #[.int .i64 0,.int .i64 0,.int .i64 0,.int .i64 0] 175):=(V6.out.push _).turn t7 (by have:=HH.out;omega)
  clear t7 T6 V6 hb7
  have S7:Hid (Src w7 b _ a len cap zs):=s7
  have k0:=V7.out.cell 0 rfl
  have k1:=V7.out.cell 1 rfl
  have k2:=V7.out.cell 2 rfl
  have k3:=V7.out.cell 3 rfl
  have f0:=V7.out.free 0
  have f1:=V7.out.free 1
  have f2:=V7.out.free 2
  have f3:=V7.out.free 3
  have sz:=V7.out.lt
  clear s2 s3 s4 s5 s6 s7
  go_wp2_with fail
  exact bodyPost_ret (v:=.agg #[.int .i64 (15),.int .i64 (1+v1),.int .i64 (v3),.int .i64 (v7)]) (by simp[results,Tryz.results88,go_sem,k0,k1,k2,k3]) rfl ⟨_,_,_,_,_,rfl,(((T7.out.putC (p:=⟨w.heap.size,0,none⟩) (Nat.le_refl _) _).putC (p:=⟨w.heap.size,1,none⟩) (Nat.le_refl _) _).putC (p:=⟨w.heap.size,2,none⟩) (Nat.le_refl _) _).putC (p:=⟨w.heap.size,3,none⟩) (Nat.le_refl _) _,(((S7.out.putC (p:=⟨w.heap.size,0,none⟩) HH.out _).putC (p:=⟨w.heap.size,1,none⟩) HH.out _).putC (p:=⟨w.heap.size,2,none⟩) HH.out _).putC (p:=⟨w.heap.size,3,none⟩) HH.out _,by omega⟩
 ·skip
  go_wp2_with fail
  refine(next_any s2 (by omega) _).mono ?_
  rintro e w3⟨v3,rfl,h3, -,t3,s3⟩
  obtain⟨l3,u3⟩:=h3 (by omega)
  have T3:Hid (Turn b w w3):=T2.out.trans t3
  have V3:Hid (Vb w3 w.heap.size #[.int .i64 0,.int .i64 0,.int .i64 0,.int .i64 0] 175):=V2.out.turn t3 (by have:=HH.out;omega)
  clear h3 t3 T2 V2
  go_wp2_with fail
  refine(next_any s3 (by omega) _).mono ?_
  rintro e w4⟨v4,rfl,h4, -,t4,s4⟩
  obtain⟨l4,u4⟩:=h4 (by omega)
  have T4:Hid (Turn b w w4):=T3.out.trans t4
  have V4:Hid (Vb w4 w.heap.size #[.int .i64 0,.int .i64 0,.int .i64 0,.int .i64 0] 175):=V3.out.turn t4 (by have:=HH.out;omega)
  clear h4 t4 T3 V3
  go_wp2_with fail
  refine(next_any s4 (by omega) _).mono ?_
  rintro e w5⟨v5,rfl,h5, -,t5,s5⟩
  obtain⟨l5,u5⟩:=h5 (by omega)
  have T5:Hid (Turn b w w5):=T4.out.trans t5
  have V5:Hid (Vb w5 w.heap.size #[.int .i64 0,.int .i64 0,.int .i64 0,.int .i64 0] 175):=V4.out.turn t5 (by have:=HH.out;omega)
  clear h5 t5 T4 V4
  go_wp2_with fail
  refine(next_any s5 (by omega) _).mono ?_
  rintro e w6⟨v6,rfl,h6, -,t6,s6⟩
  obtain⟨l6,u6⟩:=h6 (by omega)
  have T6:Hid (Turn b w w6):=T5.out.trans t6
  have V6:Hid (Vb w6 w.heap.size #[.int .i64 0,.int .i64 0,.int .i64 0,.int .i64 0] 175):=V5.out.turn t6 (by have:=HH.out;omega)
  clear h6 t6 T5 V5
  go_wp2_with fail
  have hb7:=s6.here
  refine(pick_any (s6.alloc _) (by omega) (fun _=>True) _ 3 (by omega) (by omega) (by simp) (by omega) ?_).mono ?_
  ·intro i hi
   have:i=0∨i=1∨i=2:=by omega
   rcases this with rfl|rfl|rfl
   all_goals exact⟨_,cell_new rfl,trivial⟩
  rintro e w7⟨v7,rfl, -,t7,s7⟩
  have T7:Hid (Turn b w w7):=T6.out.trans ((Turn.alloc b _ _).trans t7)
  have V7:Hid (Vb w7 w.heap.size #[.int .i64 0,.int .i64 0,.int .i64 0,.int .i64 0] 175):=(V6.out.push _).turn t7 (by have:=HH.out;omega)
  clear t7 T6 V6 hb7
  have S7:Hid (Src w7 b _ a len cap zs):=s7
  have k0:=V7.out.cell 0 rfl
  have k1:=V7.out.cell 1 rfl
  have k2:=V7.out.cell 2 rfl
  have k3:=V7.out.cell 3 rfl
  have f0:=V7.out.free 0
  have f1:=V7.out.free 1
  have f2:=V7.out.free 2
  have f3:=V7.out.free 3
  have sz:=V7.out.lt
  clear s2 s3 s4 s5 s6 s7
  go_wp2_with fail
  exact bodyPost_ret (v:=.agg #[.int .i64 (15),.int .i64 (1+v1),.int .i64 (v3),.int .i64 (v7)]) (by simp[results,Tryz.results88,go_sem,k0,k1,k2,k3]) rfl ⟨_,_,_,_,_,rfl,(((T7.out.putC (p:=⟨w.heap.size,0,none⟩) (Nat.le_refl _) _).putC (p:=⟨w.heap.size,1,none⟩) (Nat.le_refl _) _).putC (p:=⟨w.heap.size,2,none⟩) (Nat.le_refl _) _).putC (p:=⟨w.heap.size,3,none⟩) (Nat.le_refl _) _,(((S7.out.putC (p:=⟨w.heap.size,0,none⟩) HH.out _).putC (p:=⟨w.heap.size,1,none⟩) HH.out _).putC (p:=⟨w.heap.size,2,none⟩) HH.out _).putC (p:=⟨w.heap.size,3,none⟩) HH.out _,by omega⟩
 ·skip
  go_wp2_with fail
  refine(next_any s2 (by omega) _).mono ?_
  rintro e w3⟨v3,rfl,h3, -,t3,s3⟩
  obtain⟨l3,u3⟩:=h3 (by omega)
  have T3:Hid (Turn b w w3):=T2.out.trans t3
  have V3:Hid (Vb w3 w.heap.size #[.int .i64 0,.int .i64 0,.int .i64 0,.int .i64 0] 175):=V2.out.turn t3 (by have:=HH.out;omega)
  clear h3 t3 T2 V2
  go_wp2_with fail
  refine(next_any s3 (by omega) _).mono ?_
  rintro e w4⟨v4,rfl,h4, -,t4,s4⟩
  obtain⟨l4,u4⟩:=h4 (by omega)
  have T4:Hid (Turn b w w4):=T3.out.trans t4
  have V4:Hid (Vb w4 w.heap.size #[.int .i64 0,.int .i64 0,.int .i64 0,.int .i64 0] 175):=V3.out.turn t4 (by have:=HH.out;omega)
  clear h4 t4 T3 V3
  go_wp2_with fail
  refine(next_any s4 (by omega) _).mono ?_
  rintro e w5⟨v5,rfl,h5, -,t5,s5⟩
  obtain⟨l5,u5⟩:=h5 (by omega)
  have T5:Hid (Turn b w w5):=T4.out.trans t5
  have V5:Hid (Vb w5 w.heap.size #[.int .i64 0,.int .i64 0,.int .i64 0,.int .i64 0] 175):=V4.out.turn t5 (by have:=HH.out;omega)
  clear h5 t5 T4 V4
  go_wp2_with fail
  refine(next_any s5 (by omega) _).mono ?_
  rintro e w6⟨v6,rfl,h6, -,t6,s6⟩
  obtain⟨l6,u6⟩:=h6 (by omega)
  have T6:Hid (Turn b w w6):=T5.out.trans t6
  have V6:Hid (Vb w6 w.heap.size #[.int .i64 0,.int .i64 0,.int .i64 0,.int .i64 0] 175):=V5.out.turn t6 (by have:=HH.out;omega)
  clear h6 t6 T5 V5
  go_wp2_with fail
  have hb7:=s6.here
  refine(pick_any (s6.alloc _) (by omega) (fun _=>True) _ 3 (by omega) (by omega) (by simp) (by omega) ?_).mono ?_
  ·intro i hi
   have:i=0∨i=1∨i=2:=by omega
   rcases this with rfl|rfl|rfl
   all_goals exact⟨_,cell_new rfl,trivial⟩
  rintro e w7⟨v7,rfl, -,t7,s7⟩
  have T7:Hid (Turn b w w7):=T6.out.trans ((Turn.alloc b _ _).trans t7)
  have V7:Hid (Vb w7 w.heap.size #[.int .i64 0,.int .i64 0,.int .i64 0,.int .i64 0] 175):=(V6.out.push _).turn t7 (by have:=HH.out;omega)
  clear t7 T6 V6 hb7
  have S7:Hid (Src w7 b _ a len cap zs):=s7
  have k0:=V7.out.cell 0 rfl
  have k1:=V7.out.cell 1 rfl
  have k2:=V7.out.cell 2 rfl
  have k3:=V7.out.cell 3 rfl
  have f0:=V7.out.free 0
  have f1:=V7.out.free 1
  have f2:=V7.out.free 2
  have f3:=V7.out.free 3
  have sz:=V7.out.lt
  clear s2 s3 s4 s5 s6 s7
  go_wp2_with fail
  exact bodyPost_ret (v:=.agg #[.int .i64 (14),.int .i64 (1+v1),.int .i64 (v3),.int .i64 (v7)]) (by simp[results,Tryz.results88,go_sem,k0,k1,k2,k3]) rfl ⟨_,_,_,_,_,rfl,(((T7.out.putC (p:=⟨w.heap.size,0,none⟩) (Nat.le_refl _) _).putC (p:=⟨w.heap.size,1,none⟩) (Nat.le_refl _) _).putC (p:=⟨w.heap.size,2,none⟩) (Nat.le_refl _) _).putC (p:=⟨w.heap.size,3,none⟩) (Nat.le_refl _) _,(((S7.out.putC (p:=⟨w.heap.size,0,none⟩) HH.out _).putC (p:=⟨w.heap.size,1,none⟩) HH.out _).putC (p:=⟨w.heap.size,2,none⟩) HH.out _).putC (p:=⟨w.heap.size,3,none⟩) HH.out _,by omega⟩
 ·skip
  go_wp2_with fail
  refine(next_any s2 (by omega) _).mono ?_
  rintro e w3⟨v3,rfl,h3, -,t3,s3⟩
  obtain⟨l3,u3⟩:=h3 (by omega)
  have T3:Hid (Turn b w w3):=T2.out.trans t3
  have V3:Hid (Vb w3 w.heap.size #[.int .i64 0,.int .i64 0,.int .i64 0,.int .i64 0] 175):=V2.out.turn t3 (by have:=HH.out;omega)
  clear h3 t3 T2 V2
  go_wp2_with fail
  refine(next_any s3 (by omega) _).mono ?_
  rintro e w4⟨v4,rfl,h4, -,t4,s4⟩
  obtain⟨l4,u4⟩:=h4 (by omega)
  have T4:Hid (Turn b w w4):=T3.out.trans t4
  have V4:Hid (Vb w4 w.heap.size #[.int .i64 0,.int .i64 0,.int .i64 0,.int .i64 0] 175):=V3.out.turn t4 (by have:=HH.out;omega)
  clear h4 t4 T3 V3
  go_wp2_with fail
  refine(next_any s4 (by omega) _).mono ?_
  rintro e w5⟨v5,rfl,h5, -,t5,s5⟩
  obtain⟨l5,u5⟩:=h5 (by omega)
  have T5:Hid (Turn b w w5):=T4.out.trans t5
  have V5:Hid (Vb w5 w.heap.size #[.int .i64 0,.int .i64 0,.int .i64 0,.int .i64 0] 175):=V4.out.turn t5 (by have:=HH.out;omega)
  clear h5 t5 T4 V4
  go_wp2_with fail
  refine(next_any s5 (by omega) _).mono ?_
  rintro e w6⟨v6,rfl,h6, -,t6,s6⟩
  obtain⟨l6,u6⟩:=h6 (by omega)
  have T6:Hid (Turn b w w6):=T5.out.trans t6
  have V6:Hid (Vb w6 w.heap.size #[.int .i64 0,.int .i64 0,.int .i64 0,.int .i64 0] 175):=V5.out.turn t6 (by have:=HH.out;omega)
  clear h6 t6 T5 V5
  go_wp2_with fail
  have hb7:=s6.here
  refine(pick_any (s6.alloc _) (by omega) (fun _=>True) _ 3 (by omega) (by omega) (by simp) (by omega) ?_).mono ?_
  ·intro i hi
   have:i=0∨i=1∨i=2:=by omega
   rcases this with rfl|rfl|rfl
   all_goals exact⟨_,cell_new rfl,trivial⟩
  rintro e w7⟨v7,rfl, -,t7,s7⟩
  have T7:Hid (Turn b w w7):=T6.out.trans ((Turn.alloc b _ _).trans t7)
  have V7:Hid (Vb w7 w.heap.size #[.int .i64 0,.int .i64 0,.int .i64 0,.int .i64 0] 175):=(V6.out.push _).turn t7 (by have:=HH.out;omega)
  clear t7 T6 V6 hb7
  have S7:Hid (Src w7 b _ a len cap zs):=s7
  have k0:=V7.out.cell 0 rfl
  have k1:=V7.out.cell 1 rfl
  have k2:=V7.out.cell 2 rfl
  have k3:=V7.out.cell 3 rfl
  have f0:=V7.out.free 0
  have f1:=V7.out.free 1
  have f2:=V7.out.free 2
  have f3:=V7.out.free 3
  have sz:=V7.out.lt
  clear s2 s3 s4 s5 s6 s7
  go_wp2_with fail
  exact bodyPost_ret (v:=.agg #[.int .i64 (14),.int .i64 (1+v1),.int .i64 (v3),.int .i64 (v7)]) (by simp[results,Tryz.results88,go_sem,k0,k1,k2,k3]) rfl ⟨_,_,_,_,_,rfl,(((T7.out.putC (p:=⟨w.heap.size,0,none⟩) (Nat.le_refl _) _).putC (p:=⟨w.heap.size,1,none⟩) (Nat.le_refl _) _).putC (p:=⟨w.heap.size,2,none⟩) (Nat.le_refl _) _).putC (p:=⟨w.heap.size,3,none⟩) (Nat.le_refl _) _,(((S7.out.putC (p:=⟨w.heap.size,0,none⟩) HH.out _).putC (p:=⟨w.heap.size,1,none⟩) HH.out _).putC (p:=⟨w.heap.size,2,none⟩) HH.out _).putC (p:=⟨w.heap.size,3,none⟩) HH.out _,by omega⟩
 ·skip
  go_wp2_with fail
  have hb3:=s2.here
  refine(pick_any (s2.alloc _) (by omega) (fun _=>True) _ 3 (by omega) (by omega) (by simp) (by omega) ?_).mono ?_
  ·intro i hi
   have:i=0∨i=1∨i=2:=by omega
   rcases this with rfl|rfl|rfl
   all_goals exact⟨_,cell_new rfl,trivial⟩
  rintro e w3⟨v3,rfl, -,t3,s3⟩
  have T3:Hid (Turn b w w3):=T2.out.trans ((Turn.alloc b _ _).trans t3)
  have V3:Hid (Vb w3 w.heap.size #[.int .i64 0,.int .i64 0,.int .i64 0,.int .i64 0] 175):=(V2.out.push _).turn t3 (by have:=HH.out;omega)
  clear t3 T2 V2 hb3
  go_wp2_with fail
  refine(next_any s3 (by omega) _).mono ?_
  rintro e w4⟨v4,rfl,h4, -,t4,s4⟩
  obtain⟨l4,u4⟩:=h4 (by omega)
  have T4:Hid (Turn b w w4):=T3.out.trans t4
  have V4:Hid (Vb w4 w.heap.size #[.int .i64 0,.int .i64 0,.int .i64 0,.int .i64 0] 175):=V3.out.turn t4 (by have:=HH.out;omega)
  clear h4 t4 T3 V3
  go_wp2_with fail
  have hb5:=s4.here
  refine(pick_any (s4.alloc _) (by omega) (fun _=>True) _ 4 (by omega) (by omega) (by simp) (by omega) ?_).mono ?_
  ·intro i hi
   have:i=0∨i=1∨i=2∨i=3:=by omega
   rcases this with rfl|rfl|rfl|rfl
   all_goals exact⟨_,cell_new rfl,trivial⟩
  rintro e w5⟨v5,rfl, -,t5,s5⟩
  have T5:Hid (Turn b w w5):=T4.out.trans ((Turn.alloc b _ _).trans t5)
  have V5:Hid (Vb w5 w.heap.size #[.int .i64 0,.int .i64 0,.int .i64 0,.int .i64 0] 175):=(V4.out.push _).turn t5 (by have:=HH.out;omega)
  clear t5 T4 V4 hb5
  have S5:Hid (Src w5 b _ a len cap zs):=s5
  have k0:=V5.out.cell 0 rfl
  have k1:=V5.out.cell 1 rfl
  have k2:=V5.out.cell 2 rfl
  have k3:=V5.out.cell 3 rfl
  have f0:=V5.out.free 0
  have f1:=V5.out.free 1
  have f2:=V5.out.free 2
  have f3:=V5.out.free 3
  have sz:=V5.out.lt
  clear s2 s3 s4 s5
  go_wp2_with fail
  exact bodyPost_ret (v:=.agg #[.int .i64 (v3),.int .i64 (1+v1),.int .i64 (v4),.int .i64 (v5)]) (by simp[results,Tryz.results88,go_sem,k0,k1,k2,k3]) rfl ⟨_,_,_,_,_,rfl,(((T5.out.putC (p:=⟨w.heap.size,0,none⟩) (Nat.le_refl _) _).putC (p:=⟨w.heap.size,1,none⟩) (Nat.le_refl _) _).putC (p:=⟨w.heap.size,2,none⟩) (Nat.le_refl _) _).putC (p:=⟨w.heap.size,3,none⟩) (Nat.le_refl _) _,(((S5.out.putC (p:=⟨w.heap.size,0,none⟩) HH.out _).putC (p:=⟨w.heap.size,1,none⟩) HH.out _).putC (p:=⟨w.heap.size,2,none⟩) HH.out _).putC (p:=⟨w.heap.size,3,none⟩) HH.out _,by omega⟩
 ·skip
  go_wp2_with fail
  have hb3:=s2.here
  refine(pick_any (s2.alloc _) (by omega) (fun _=>True) _ 7 (by omega) (by omega) (by simp) (by omega) ?_).mono ?_
  ·intro i hi
   have:i=0∨i=1∨i=2∨i=3∨i=4∨i=5∨i=6:=by omega
   rcases this with rfl|rfl|rfl|rfl|rfl|rfl|rfl
   all_goals exact⟨_,cell_new rfl,trivial⟩
  rintro e w3⟨v3,rfl, -,t3,s3⟩
  have T3:Hid (Turn b w w3):=T2.out.trans ((Turn.alloc b _ _).trans t3)
  have V3:Hid (Vb w3 w.heap.size #[.int .i64 0,.int .i64 0,.int .i64 0,.int .i64 0] 175):=(V2.out.push _).turn t3 (by have:=HH.out;omega)
  clear t3 T2 V2 hb3
  have S3:Hid (Src w3 b _ a len cap zs):=s3
  have k0:=V3.out.cell 0 rfl
  have k1:=V3.out.cell 1 rfl
  have k2:=V3.out.cell 2 rfl
  have k3:=V3.out.cell 3 rfl
  have f0:=V3.out.free 0
  have f1:=V3.out.free 1
  have f2:=V3.out.free 2
  have f3:=V3.out.free 3
  have sz:=V3.out.lt
  clear s2 s3
  go_wp2_with fail
  exact bodyPost_ret (v:=.agg #[.int .i64 (22),.int .i64 (0),.int .i64 (1+v1),.int .i64 (v3)]) (by simp[results,Tryz.results88,go_sem,k0,k1,k2,k3]) rfl ⟨_,_,_,_,_,rfl,(((T3.out.putC (p:=⟨w.heap.size,0,none⟩) (Nat.le_refl _) _).putC (p:=⟨w.heap.size,1,none⟩) (Nat.le_refl _) _).putC (p:=⟨w.heap.size,2,none⟩) (Nat.le_refl _) _).putC (p:=⟨w.heap.size,3,none⟩) (Nat.le_refl _) _,(((S3.out.putC (p:=⟨w.heap.size,0,none⟩) HH.out _).putC (p:=⟨w.heap.size,1,none⟩) HH.out _).putC (p:=⟨w.heap.size,2,none⟩) HH.out _).putC (p:=⟨w.heap.size,3,none⟩) HH.out _,by omega⟩
 ·skip
  go_wp2_with fail
  refine(next_any s2 (by omega) _).mono ?_
  rintro e w3⟨v3,rfl,h3, -,t3,s3⟩
  obtain⟨l3,u3⟩:=h3 (by omega)
  have T3:Hid (Turn b w w3):=T2.out.trans t3
  have V3:Hid (Vb w3 w.heap.size #[.int .i64 0,.int .i64 0,.int .i64 0,.int .i64 0] 175):=V2.out.turn t3 (by have:=HH.out;omega)
  clear h3 t3 T2 V2
  have S3:Hid (Src w3 b _ a len cap zs):=s3
  have k0:=V3.out.cell 0 rfl
  have k1:=V3.out.cell 1 rfl
  have k2:=V3.out.cell 2 rfl
  have k3:=V3.out.cell 3 rfl
  have f0:=V3.out.free 0
  have f1:=V3.out.free 1
  have f2:=V3.out.free 2
  have f3:=V3.out.free 3
  have sz:=V3.out.lt
  clear s2 s3
  go_wp2_with fail
  exact bodyPost_ret (v:=.agg #[.int .i64 (21),.int .i64 (1+v1),.int .i64 (0),.int .i64 (v3)]) (by simp[results,Tryz.results88,go_sem,k0,k1,k2,k3]) rfl ⟨_,_,_,_,_,rfl,(((T3.out.putC (p:=⟨w.heap.size,0,none⟩) (Nat.le_refl _) _).putC (p:=⟨w.heap.size,1,none⟩) (Nat.le_refl _) _).putC (p:=⟨w.heap.size,2,none⟩) (Nat.le_refl _) _).putC (p:=⟨w.heap.size,3,none⟩) (Nat.le_refl _) _,(((S3.out.putC (p:=⟨w.heap.size,0,none⟩) HH.out _).putC (p:=⟨w.heap.size,1,none⟩) HH.out _).putC (p:=⟨w.heap.size,2,none⟩) HH.out _).putC (p:=⟨w.heap.size,3,none⟩) HH.out _,by omega⟩
 ·skip
  go_wp2_with fail
  have hb3:=s2.here
  refine(pick_any (s2.alloc _) (by omega) (fun _=>True) _ 2 (by omega) (by omega) (by simp) (by omega) ?_).mono ?_
  ·intro i hi
   have:i=0∨i=1:=by omega
   rcases this with rfl|rfl
   all_goals exact⟨_,cell_new rfl,trivial⟩
  rintro e w3⟨v3,rfl, -,t3,s3⟩
  have T3:Hid (Turn b w w3):=T2.out.trans ((Turn.alloc b _ _).trans t3)
  have V3:Hid (Vb w3 w.heap.size #[.int .i64 0,.int .i64 0,.int .i64 0,.int .i64 0] 175):=(V2.out.push _).turn t3 (by have:=HH.out;omega)
  clear t3 T2 V2 hb3
  go_wp2_with fail
  have hb4:=s3.here
  refine(pick_any (s3.alloc _) (by omega) (fun _=>True) _ 3 (by omega) (by omega) (by simp) (by omega) ?_).mono ?_
  ·intro i hi
   have:i=0∨i=1∨i=2:=by omega
   rcases this with rfl|rfl|rfl
   all_goals exact⟨_,cell_new rfl,trivial⟩
  rintro e w4⟨v4,rfl, -,t4,s4⟩
  have T4:Hid (Turn b w w4):=T3.out.trans ((Turn.alloc b _ _).trans t4)
  have V4:Hid (Vb w4 w.heap.size #[.int .i64 0,.int .i64 0,.int .i64 0,.int .i64 0] 175):=(V3.out.push _).turn t4 (by have:=HH.out;omega)
  clear t4 T3 V3 hb4
  have S4:Hid (Src w4 b _ a len cap zs):=s4
  have k0:=V4.out.cell 0 rfl
  have k1:=V4.out.cell 1 rfl
  have k2:=V4.out.cell 2 rfl
  have k3:=V4.out.cell 3 rfl
  have f0:=V4.out.free 0
  have f1:=V4.out.free 1
  have f2:=V4.out.free 2
  have f3:=V4.out.free 3
  have sz:=V4.out.lt
  clear s2 s3 s4
  go_wp2_with fail
  exact bodyPost_ret (v:=.agg #[.int .i64 (19),.int .i64 (v3),.int .i64 (0),.int .i64 (v4)]) (by simp[results,Tryz.results88,go_sem,k0,k1,k2,k3]) rfl ⟨_,_,_,_,_,rfl,(((T4.out.putC (p:=⟨w.heap.size,0,none⟩) (Nat.le_refl _) _).putC (p:=⟨w.heap.size,1,none⟩) (Nat.le_refl _) _).putC (p:=⟨w.heap.size,2,none⟩) (Nat.le_refl _) _).putC (p:=⟨w.heap.size,3,none⟩) (Nat.le_refl _) _,(((S4.out.putC (p:=⟨w.heap.size,0,none⟩) HH.out _).putC (p:=⟨w.heap.size,1,none⟩) HH.out _).putC (p:=⟨w.heap.size,2,none⟩) HH.out _).putC (p:=⟨w.heap.size,3,none⟩) HH.out _,by omega⟩
 ·skip
  go_wp2_with fail
  refine(ins_any s2 (by omega)).mono ?_
  rintro e w3⟨o3,d3,x3,i3,rfl, -, -, -, -,t3,s3⟩
  have T3:Hid (Turn b w w3):=T2.out.trans t3
  have V3:Hid (Vb w3 w.heap.size #[.int .i64 0,.int .i64 0,.int .i64 0,.int .i64 0] 175):=V2.out.turn t3 (by have:=HH.out;omega)
  clear t3 T2 V2
  have S3:Hid (Src w3 b _ a len cap zs):=s3
  have k0:=V3.out.cell 0 rfl
  have k1:=V3.out.cell 1 rfl
  have k2:=V3.out.cell 2 rfl
  have k3:=V3.out.cell 3 rfl
  have f0:=V3.out.free 0
  have f1:=V3.out.free 1
  have f2:=V3.out.free 2
  have f3:=V3.out.free 3
  have sz:=V3.out.lt
  clear s2 s3
  go_wp2_with fail
  exact bodyPost_ret (v:=.agg #[.int .i64 (o3),.int .i64 (d3),.int .i64 (x3),.int .i64 (i3)]) (by simp[results,Tryz.results88,go_sem,k0,k1,k2,k3]) rfl ⟨_,_,_,_,_,rfl,(((T3.out.putC (p:=⟨w.heap.size,0,none⟩) (Nat.le_refl _) _).putC (p:=⟨w.heap.size,1,none⟩) (Nat.le_refl _) _).putC (p:=⟨w.heap.size,2,none⟩) (Nat.le_refl _) _).putC (p:=⟨w.heap.size,3,none⟩) (Nat.le_refl _) _,(((S3.out.putC (p:=⟨w.heap.size,0,none⟩) HH.out _).putC (p:=⟨w.heap.size,1,none⟩) HH.out _).putC (p:=⟨w.heap.size,2,none⟩) HH.out _).putC (p:=⟨w.heap.size,3,none⟩) HH.out _,by omega⟩
 ·skip
  go_wp2_with fail
  refine(ins_any s2 (by omega)).mono ?_
  rintro e w3⟨o3,d3,x3,i3,rfl, -, -, -, -,t3,s3⟩
  have T3:Hid (Turn b w w3):=T2.out.trans t3
  have V3:Hid (Vb w3 w.heap.size #[.int .i64 0,.int .i64 0,.int .i64 0,.int .i64 0] 175):=V2.out.turn t3 (by have:=HH.out;omega)
  clear t3 T2 V2
  have S3:Hid (Src w3 b _ a len cap zs):=s3
  have k0:=V3.out.cell 0 rfl
  have k1:=V3.out.cell 1 rfl
  have k2:=V3.out.cell 2 rfl
  have k3:=V3.out.cell 3 rfl
  have f0:=V3.out.free 0
  have f1:=V3.out.free 1
  have f2:=V3.out.free 2
  have f3:=V3.out.free 3
  have sz:=V3.out.lt
  clear s2 s3
  go_wp2_with fail
  exact bodyPost_ret (v:=.agg #[.int .i64 (o3),.int .i64 (d3),.int .i64 (x3),.int .i64 (i3)]) (by simp[results,Tryz.results88,go_sem,k0,k1,k2,k3]) rfl ⟨_,_,_,_,_,rfl,(((T3.out.putC (p:=⟨w.heap.size,0,none⟩) (Nat.le_refl _) _).putC (p:=⟨w.heap.size,1,none⟩) (Nat.le_refl _) _).putC (p:=⟨w.heap.size,2,none⟩) (Nat.le_refl _) _).putC (p:=⟨w.heap.size,3,none⟩) (Nat.le_refl _) _,(((S3.out.putC (p:=⟨w.heap.size,0,none⟩) HH.out _).putC (p:=⟨w.heap.size,1,none⟩) HH.out _).putC (p:=⟨w.heap.size,2,none⟩) HH.out _).putC (p:=⟨w.heap.size,3,none⟩) HH.out _,by omega⟩
theorem own_idx0(qs:List (Int×Int))(zs:List Int)(w:World):(Instr.index 94 (.agg (tensL qs zs 8).toArray) (.int .i64 ((0:Nat):Int))).run Tryz.prog w=.ok (.agg (tenL qs zs 0).toArray) w:=by kernel_rfl
theorem own_idx1(qs:List (Int×Int))(zs:List Int)(w:World):(Instr.index 94 (.agg (tensL qs zs 8).toArray) (.int .i64 ((1:Nat):Int))).run Tryz.prog w=.ok (.agg (tenL qs zs 1).toArray) w:=by kernel_rfl
theorem own_idx2(qs:List (Int×Int))(zs:List Int)(w:World):(Instr.index 94 (.agg (tensL qs zs 8).toArray) (.int .i64 ((2:Nat):Int))).run Tryz.prog w=.ok (.agg (tenL qs zs 2).toArray) w:=by kernel_rfl
theorem own_idx3(qs:List (Int×Int))(zs:List Int)(w:World):(Instr.index 94 (.agg (tensL qs zs 8).toArray) (.int .i64 ((3:Nat):Int))).run Tryz.prog w=.ok (.agg (tenL qs zs 3).toArray) w:=by kernel_rfl
theorem own_idx4(qs:List (Int×Int))(zs:List Int)(w:World):(Instr.index 94 (.agg (tensL qs zs 8).toArray) (.int .i64 ((4:Nat):Int))).run Tryz.prog w=.ok (.agg (tenL qs zs 4).toArray) w:=by kernel_rfl
theorem own_idx5(qs:List (Int×Int))(zs:List Int)(w:World):(Instr.index 94 (.agg (tensL qs zs 8).toArray) (.int .i64 ((5:Nat):Int))).run Tryz.prog w=.ok (.agg (tenL qs zs 5).toArray) w:=by kernel_rfl
theorem own_idx6(qs:List (Int×Int))(zs:List Int)(w:World):(Instr.index 94 (.agg (tensL qs zs 8).toArray) (.int .i64 ((6:Nat):Int))).run Tryz.prog w=.ok (.agg (tenL qs zs 6).toArray) w:=by kernel_rfl
theorem own_idx7(qs:List (Int×Int))(zs:List Int)(w:World):(Instr.index 94 (.agg (tensL qs zs 8).toArray) (.int .i64 ((7:Nat):Int))).run Tryz.prog w=.ok (.agg (tenL qs zs 7).toArray) w:=by kernel_rfl
theorem own_index(qs:List (Int×Int))(zs:List Int)(k:Nat)(hk:k<8)(w:World):(Instr.index 94 (.agg (tensL qs zs 8).toArray) (.int .i64 (k:Int))).run Tryz.prog w=.ok (.agg (tenL qs zs k).toArray) w:=by
 match k,hk with
 |0,_=>exact own_idx0 qs zs w
 |1,_=>exact own_idx1 qs zs w
 |2,_=>exact own_idx2 qs zs w
 |3,_=>exact own_idx3 qs zs w
 |4,_=>exact own_idx4 qs zs w
 |5,_=>exact own_idx5 qs zs w
 |6,_=>exact own_idx6 qs zs w
 |7,_=>exact own_idx7 qs zs w
theorem row_apart{w:World}{b b' s s' n n':Nat}{e e':TypeId}{v v':Value}{xs xs':List Value}(h:w.ownsRow b e s v n xs)(k:w.ownsRow b' e' s' v' n' xs')(he:e≠e'):v.ownBlock=none∨v.ownBlock≠v'.ownBlock:=by
 obtain⟨_,⟨rfl,_⟩|⟨g,cap,cur,rfl,_,hg,_⟩⟩:=h
 ·exact .inl rfl
 ·obtain⟨_,⟨rfl,_⟩|⟨g',cap',cur',rfl,_,hg',_⟩⟩:=k
  ·exact .inr (fun f=>by cases f)
  ·refine .inr (fun f=>?_)
   have f:g=g':=by simpa [Value.ownBlock]using f
   subst f
   rw[hg]at hg'
   simp at hg'
   exact he hg'.2
theorem vb_row{w:World}{p:Nat}{cs:Array Value}{t:TypeId}(h:Vb w p cs t)(hs:cs.size=1*10):w.ownsRow 0 t 10 (.slice (some ⟨p,0,none⟩) 1 1) 1 cs.toList:=
 ⟨by simpa using hs,.inr ⟨p,1,cs,rfl,Nat.zero_le _,h,Nat.le_refl _,by decide,hs,List.take_of_length_le (by rw[Array.length_toList,hs];exact Nat.le_refl _)⟩⟩
theorem prs_mono{w:World}{b b':Nat}{v:Value}{rs:List (Int×Int)}(h:Prs 89 w b v rs)(hb:b'≤b):Prs 89 w b' v rs:=h.mono hb
theorem prs_mq{S:Nat→Prop}{w w':World}{base:Nat}{v:Value}{rs:List (Int×Int)}(h:Prs 89 w base v rs)(m:Mq S w w')(hn:∀k,v.ownBlock=some k→¬S k):Prs 89 w' base v rs:=by
 obtain⟨h1,h2|⟨g,cap,cur,hv,hg,hr,rest⟩⟩:=h
 ·exact⟨h1,.inl h2⟩
 ·refine⟨h1,.inr ⟨g,cap,cur,hv,hg,?_,rest⟩⟩
  have hlt:g<w.heap.size:=by
   rcases Nat.lt_or_ge g w.heap.size with h|h
   ·exact h
   ·rw[Array.getElem?_eq_none h]at hr;cases hr
  rw[m.block g hlt (hn g (by rw[hv];rfl)),hr]
theorem prs_one(w:World)(base:Nat)(a b:Int)(hb:base≤w.heap.size):Prs 89 (w.alloc (.cells #[.int .i64 a,.int .i64 b] 89)) base (.slice (some ⟨w.heap.size,0,none⟩) 1 1) [(a,b)]:=
 World.ownsRow_lit w #[.int .i64 a,.int .i64 b] 1 hb (by decide) rfl
variable{w:World}{s:Nat}{H:Ht}{i o:Value}{qs:List (Int×Int)}{zs:List Int}{t:TypeId}
theorem own_vc(h:Vb w s (oplL H i o qs zs).toArray t):Vc w s (mca H i o):=by
 refine⟨_,_,h,fun j x hx=>?_⟩
 have hj:j<(mca H i o).toList.length:=by
  rw[Array.length_toList]
  exact(Array.getElem?_eq_some_iff.1 hx).1
 rw[List.getElem?_toArray,oplL,List.getElem?_append_left hj]
 simpa using hx
theorem own_tail(h:Vb w s (oplL H i o qs zs).toArray t):w.rangeAt s 34 (tensL qs zs 8):=by
 intro j x hx
 refine h.cell (34+j) ?_
 rw[List.getElem?_toArray,oplL,List.getElem?_append_right (by show 34≤_;omega)]
 rw[←hx]
 congr 1
 show 34+j-34=j
 omega
theorem take_pair(qs:List (Int×Int))(k:Nat)(h:k<qs.length):qs.take (k+1)=qs.take k++ [((qs.getD k (0,0)).1,(qs.getD k (0,0)).2)]:=by
 rw[List.take_add_one,List.getElem?_eq_getElem h,List.getD,List.getElem?_eq_getElem h]
 rfl
theorem i_asSolo(H:Ht)(xa:Option Addr)(xn xk:Nat)(ya:Option Addr)(yn yk:Nat)(qs:List (Int×Int))(zs:List Int)(b:Nat)(w:World)(hi:Nums w b (.slice xa xn xk) H.inn)(ho:Nums w b (.slice ya yn yk) H.out)(ok:Hok H)(h8:qs.length=8)(h64:zs.length=64):
  Calls Tryz.prog 28 #[.agg (oplL H (.slice xa xn xk) (.slice ya yn yk) qs zs).toArray] w fun e w'=>∃r' c' i' o' l' m',e=.returned (.agg #[r',.int .i64 H.pc,c',.bool H.halted,.bool H.waiting,.bool H.rung,.int .i64 H.done,i',o',l',m'])∧Sm w' w.heap.size r' c' i' o' l' m' H qs zs∧Below w.heap.size w w':=by
 have HI:Hid (Nums w b (.slice xa xn xk) H.inn∧Nums w b (.slice ya yn yk) H.out):=⟨hi,ho⟩
 have OK:Hid (Hok H∧qs.length=8∧zs.length=64):=⟨ok,h8,h64⟩
 clear hi ho ok h8 h64
 obtain⟨P,hP⟩:∃P:List Value,(oplL H (.slice xa xn xk) (.slice ya yn yk) qs zs)=P:=⟨_,rfl⟩
 have HP:=hid hP
 rw[hP]
 clear hP
 generalize hW:(w.alloc (.cells P.toArray 96)).alloc (.cells #[.slice none 0 0,.int .i64 0,.slice none 0 0,.bool false,.bool false,.bool false,.int .i64 0,.slice none 0 0,.slice none 0 0,.slice none 0 0,.slice none 0 0] 50)=W
 have B0:Hid (Below w.heap.size w W):=by show Below _ _ _;rw[←hW];exact al (al (Below.refl _ _) _) _
 obtain⟨s,hS⟩:∃s,w.heap.size=s:=⟨_,rfl⟩
 have HSs:=hid hS
 have z1:s+1=(w.alloc (.cells P.toArray 96)).heap.size:=by rw[←hS];simp
 have Q:Hid (Vb W s P.toArray 96):=by show Vb _ _ _ _;rw[←hW,←hS];exact(Vb.new _ _ _).push _
 have R:Hid (Vb W (s+1) #[.slice none 0 0,.int .i64 0,.slice none 0 0,.bool false,.bool false,.bool false,.int .i64 0,.slice none 0 0,.slice none 0 0,.slice none 0 0,.slice none 0 0] 50):=by show Vb _ _ _ _;rw[←hW,z1];exact Vb.new _ _ _
 clear z1
 have VC:Hid (Vc W s (mca H (.slice xa xn xk) (.slice ya yn yk))∧W.rangeAt s 34 (tensL qs zs 8)):=by
  have h:=Q.out
  rw[←HP.out]at h
  exact⟨own_vc h,own_tail h⟩
 go_enter Tryz.func28,Tryz.ntmps28
 go_upto_region 3 with fail
 clear hW hS
 refine wp_region_lit ?_
 refine wpList_take (.pointer (some ⟨s,34,none⟩)) (Or.inl ⟨by rfl,fun w' hs=>by subst hs;go_simp⟩) ?_
 change wpList _ _ _ _ (Act.put _ (some 7) _) _
 simp only[Act.put,zT,zZ,zS]
 refine wpList_take (.agg (tensL qs zs 8).toArray) (yieldsIf_load_mid rfl 94 (.tmp 7) rfl s 34 rfl (tensL qs zs 8) _ (fun w' e=>by subst e;exact VC.out.2) Tryz.underlying94 rfl (by rw[tensL_len];kernel_rfl)) ?_
 change wpList _ _ _ _ (Act.put _ (some 8) _) _
 simp only[Act.put,zT,zZ,zS]
 refine wpList_take (.int .i64 0) (Or.inl ⟨by rfl,fun w' hs=>by subst hs;go_simp⟩) ?_
 change wpList _ _ _ _ (Act.put _ (some 9) _) _
 simp only[Act.put,zT,zZ,zS]
 refine wpList_nil ?_
 go_wp2_with fail
 go_loopw [3,4,6,9] (fun l m _ c wr=>∃k:Nat,k≤8∧c=.int .i64 k∧Prs 89 wr W.heap.size l (qs.take k)∧Pags wr W.heap.size m k (zs.take (k*8))∧Below W.heap.size W wr) (fun _ _ _ c _=>8-(intOf c).toNat)
 case atStart=>exact⟨0,by decide,rfl,Prs.nil _ _ _,by rw[Nat.zero_mul,List.take_zero];exact Pags.nil _ _,Below.refl _ _⟩
 case round=>
  obtain⟨k,hk,rfl,hl,hm,hB⟩:=hrel
  obtain⟨la,lc,hle,_⟩:=hl.shape
  obtain⟨ma,mc,hme,_,_,hms⟩:=hm.shape
  have QL:Hid ((qs.take k).length=k):=by show _=_;rw[List.length_take];have:=OK.out.2.1;omega
  rw[QL.out]at hle
  subst hle hme
  have HL:=hid hl
  have HM:=hid hm
  have HB:=hid hB
  by_cases hlt:k<8
  ·have hI:(k:Int)<8:=by omega
   have HLT:=hid hlt
   have IX:Hid (∀u,(Instr.index 94 (.agg (tensL qs zs 8).toArray) (.int .i64 (k:Int))).run Tryz.prog u=.ok (.agg (tenL qs zs k).toArray) u):=own_index qs zs k hlt
   have TK:Hid (qs.take (k+1)=qs.take k++ [((qs.getD k (0,0)).1,(qs.getD k (0,0)).2)]):=take_pair qs k (by have:=OK.out.2.1;omega)
   have TZ:Hid (zs.take ((k+1)*8)=zs.take (k*8)++ [zs.getD (k*8) 0,zs.getD (k*8+1) 0,zs.getD (k*8+2) 0,zs.getD (k*8+3) 0,zs.getD (k*8+4) 0,zs.getD (k*8+5) 0,zs.getD (k*8+6) 0,zs.getD (k*8+7) 0]):=by
    show _=_
    rw[show(k+1)*8=k*8+8 by omega,List.take_add,show(zs.drop (k*8)).take 8=eight zs k from rfl,eight_list zs k (by have:=OK.out.2.2;omega)]
   unfold tenL at IX
   obtain⟨tk,htk⟩:∃z,(qs.getD k (0,0)).1=z:=⟨_,rfl⟩
   obtain⟨dk,hdk⟩:∃z,(qs.getD k (0,0)).2=z:=⟨_,rfl⟩
   rw[htk,hdk]at IX TK
   obtain⟨x0,hx0⟩:∃z,zs.getD (k*8) 0=z:=⟨_,rfl⟩
   rw[hx0]at IX TZ
   obtain⟨x1,hx1⟩:∃z,zs.getD (k*8+1) 0=z:=⟨_,rfl⟩
   rw[hx1]at IX TZ
   obtain⟨x2,hx2⟩:∃z,zs.getD (k*8+2) 0=z:=⟨_,rfl⟩
   rw[hx2]at IX TZ
   obtain⟨x3,hx3⟩:∃z,zs.getD (k*8+3) 0=z:=⟨_,rfl⟩
   rw[hx3]at IX TZ
   obtain⟨x4,hx4⟩:∃z,zs.getD (k*8+4) 0=z:=⟨_,rfl⟩
   rw[hx4]at IX TZ
   obtain⟨x5,hx5⟩:∃z,zs.getD (k*8+5) 0=z:=⟨_,rfl⟩
   rw[hx5]at IX TZ
   obtain⟨x6,hx6⟩:∃z,zs.getD (k*8+6) 0=z:=⟨_,rfl⟩
   rw[hx6]at IX TZ
   obtain⟨x7,hx7⟩:∃z,zs.getD (k*8+7) 0=z:=⟨_,rfl⟩
   rw[hx7]at IX TZ
   clear htk hdk hx0 hx1 hx2 hx3 hx4 hx5 hx6 hx7 hl hm hB hms hlt
   have ix:=IX.out
   go_upto_region 6 with fail
   clear ix IX
   generalize hU:wr.alloc (.cells #[.int .i64 tk,.int .i64 dk,.int .i64 x0,.int .i64 x1,.int .i64 x2,.int .i64 x3,.int .i64 x4,.int .i64 x5,.int .i64 x6,.int .i64 x7] 93)=U
   have bU:Below wr.heap.size wr U:=by rw[←hU];exact al (Below.refl _ _) _
   have VU:Hid (Vb U wr.heap.size #[.int .i64 tk,.int .i64 dk,.int .i64 x0,.int .i64 x1,.int .i64 x2,.int .i64 x3,.int .i64 x4,.int .i64 x5,.int .i64 x6,.int .i64 x7] 93):=by show Vb _ _ _ _;rw[←hU];exact Vb.new _ _ _
   have BU:=hid (on HB.out bU)
   have LU:=hid (HL.out.keep bU)
   have MU:=hid (HM.out.keep bU)
   have ZU:Hid (W.heap.size≤wr.heap.size∧W.heap.size≤U.heap.size):=⟨HB.out.size,BU.out.size⟩
   generalize wr.heap.size=p at*
   clear hU bU
   have y0:U.cell? ⟨p,0,none⟩=some (.int .i64 tk):=VU.out.cell 0 rfl
   have y1:U.cell? ⟨p,1,none⟩=some (.int .i64 dk):=VU.out.cell 1 rfl
   go_upto_region 7 with(at_builtin;refine wp_appp _ rfl (.tmp 12) (.tmp 15) rfl W.heap.size _ (qs.take k) rfl (LU.out.keep (al (Below.refl _ _) _)) U.heap.size 1 1 W.heap.size [(tk,dk)] rfl (prs_one U _ tk dk ZU.out.2) rfl (by rw[QL.out];have:=HLT.out;omega) (by have:=ZU.out.2;simp;omega) ?_;intro l1 U1 hl1 g1)
   have G1:World.grownBy _ U1 (Value.slice la k lc).ownBlock:=g1
   have BV:Hid (Below W.heap.size W U1):=(al BU.out _).grown g1 (by have:=ZU.out;simp;omega) (fun j hj=>(LU.out.lt j hj).1)
   have VV:Hid (Vb U1 p #[.int .i64 tk,.int .i64 dk,.int .i64 x0,.int .i64 x1,.int .i64 x2,.int .i64 x3,.int .i64 x4,.int .i64 x5,.int .i64 x6,.int .i64 x7] 93):=(VU.out.push _).gr G1 (fun f=>absurd (row_apart (b':=0) (e':=93) (s':=10) (n':=1) (v':=.slice (some ⟨p,0,none⟩) 1 1) (xs':=#[.int .i64 tk,.int .i64 dk,.int .i64 x0,.int .i64 x1,.int .i64 x2,.int .i64 x3,.int .i64 x4,.int .i64 x5,.int .i64 x6,.int .i64 x7].toList) LU.out (vb_row VU.out rfl) (by decide)) (by rw[←f];simp[Value.ownBlock]))
   have LV:Hid (Prs 89 U1 W.heap.size l1 (qs.take (k+1))):=by show Prs _ _ _ _ _;rw[TK.out];exact hl1
   have MV:Hid (Pags U1 W.heap.size (.slice ma k mc) k (zs.take (k*8))):=World.ownsRow.kept (MU.out.keep (al (Below.refl _ _) _)) g1 (row_apart MU.out LU.out (by decide))
   clear hl1 g1 G1 y0 y1 LU MU VU BU
   have QL2:Hid ((qs.take (k+1)).length=k+1):=by show _=_;rw[List.length_take];have:=OK.out.2.1;have:=HLT.out;omega
   obtain⟨la',lc',hle,_⟩:=LV.out.shape
   rw[QL2.out]at hle
   subst hle
   have ZV:Hid (W.heap.size≤U1.heap.size):=BV.out.size
   have RX:Hid (U1.rangeAt p 2 [.int .i64 x0,.int .i64 x1,.int .i64 x2,.int .i64 x3,.int .i64 x4,.int .i64 x5,.int .i64 x6,.int .i64 x7]):=by
    intro j v hv
    have hj:j<8:=(List.getElem?_eq_some_iff.1 hv).1
    refine VV.out.cell (2+j) ?_
    rw[←hv]
    have e:j=0∨j=1∨j=2∨j=3∨j=4∨j=5∨j=6∨j=7:=by omega
    rcases e with rfl|rfl|rfl|rfl|rfl|rfl|rfl|rfl<;>rfl
   refine wp_region_lit ?_
   refine wpList_take (.slice ma k mc) (Or.inl ⟨by rfl,fun w' hs=>by subst hs;go_simp⟩) ?_
   change wpList _ _ _ _ (Act.put _ (some 17) _) _
   simp only[Act.put,zT,zZ,zS]
   refine wpList_take (.pointer (some ⟨p,2,none⟩)) (Or.inl ⟨by rfl,fun w' hs=>by subst hs;go_simp⟩) ?_
   change wpList _ _ _ _ (Act.put _ (some 18) _) _
   simp only[Act.put,zT,zZ,zS]
   refine wpList_take (.agg #[.int .i64 x0,.int .i64 x1,.int .i64 x2,.int .i64 x3,.int .i64 x4,.int .i64 x5,.int .i64 x6,.int .i64 x7]) (yieldsIf_load_mid rfl 91 (.tmp 18) rfl p 2 rfl [.int .i64 x0,.int .i64 x1,.int .i64 x2,.int .i64 x3,.int .i64 x4,.int .i64 x5,.int .i64 x6,.int .i64 x7] _ (fun w' e=>by subst e;exact RX.out) Tryz.underlying91 rfl (by kernel_rfl)) ?_
   change wpList _ _ _ _ (Act.put _ (some 19) _) _
   simp only[Act.put,zT,zZ,zS]
   go_wp2_with (at_builtin;refine wp_pag _ rfl (.tmp 17) (.tmp 20) rfl W.heap.size _ k _ rfl (MV.out.keep (al (Below.refl _ _) _)) U1.heap.size [x0,x1,x2,x3,x4,x5,x6,x7] rfl rfl (cells_eight _ _ _ _ _ _ _ _ _ _) (by have:=HLT.out;omega) (by have:=ZV.out;simp;omega) ?_;intro m1 U2 hm1 g2)
   have BX:Hid (Below W.heap.size W U2):=(al BV.out _).grown g2 (by have:=ZV.out;simp;omega) (fun j hj=>(MV.out.inb j hj).1)
   have MX:Hid (Pags U2 W.heap.size m1 (k+1) (zs.take ((k+1)*8))):=by show Pags _ _ _ _ _;rw[TZ.out];exact hm1
   have LX:Hid (Prs 89 U2 W.heap.size (.slice la' (k+1) lc') (qs.take (k+1))):=World.ownsRow.kept (LV.out.keep (al (Below.refl _ _) _)) g2 (row_apart LV.out MV.out (by decide))
   clear hm1 g2
   go_wp2_with fail
   go_roundw
   case rel=>exact⟨k+1,by have:=HLT.out;omega,by go_num,LX.out,MX.out,BX.out⟩
   case measure=>have:=HLT.out;simp[intOf];omega
  ·have hJ:¬(k:Int)<8:=by omega
   obtain rfl:k=8:=by omega
   obtain⟨mg,rfl⟩:=hms (by decide)
   have L8:Hid (Prs 89 wr W.heap.size (.slice la 8 lc) qs):=by have:=HL.out;rw[List.take_of_length_le (by have:=OK.out.2.1;omega)]at this;exact this
   have M8:Hid (Pags wr W.heap.size (.slice (some ⟨mg,0,none⟩) 8 mc) 8 zs):=by have:=HM.out;rw[List.take_of_length_le (by have:=OK.out.2.2;omega)]at this;exact this
   clear hlt hl hm hB hms QL
   go_wp2_with fail
   refine(i_hartV s (.slice xa xn xk) (.slice ya yn yk) H wr (VC.out.1.keep HB.out) ((HI.out.1.keep B0.out).keep HB.out).rv ((HI.out.2.keep B0.out).keep HB.out).rv OK.out.1.r16 OK.out.1.c11 (by have:=OK.out.1.i40;omega) (by have:=OK.out.1.o40;omega)).mono ?_
   rintro e w1⟨r',c',i',o',rfl,hm1,ha1,b1⟩
   obtain⟨v0,d0,e0,_⟩:=hm1.r.shape
   obtain⟨v1,d1,e1,_⟩:=hm1.c.shape
   obtain⟨v2,d2,e2,_⟩:=hm1.i.shape
   obtain⟨v3,d3,e3,_⟩:=hm1.o.shape
   subst e0 e1 e2 e3
   obtain⟨n0,hn0⟩:∃n,H.regs.length=n:=⟨_,rfl⟩
   obtain⟨n1,hn1⟩:∃n,H.csr.length=n:=⟨_,rfl⟩
   obtain⟨n2,hn2⟩:∃n,H.inn.length=n:=⟨_,rfl⟩
   obtain⟨n3,hn3⟩:∃n,H.out.length=n:=⟨_,rfl⟩
   rw[hn0,hn1,hn2,hn3]at hm1 ha1 ⊢
   have H1:Hid (Hm w1 wr.heap.size (.slice v0 n0 d0) (.slice v1 n1 d1) (.slice v2 n2 d2) (.slice v3 n3 d3) H∧Ha (.slice v0 n0 d0) (.slice v1 n1 d1) (.slice v2 n2 d2) (.slice v3 n3 d3)):=⟨hm1,ha1⟩
   have B1:=hid (on HB.out b1)
   have L1:=hid (L8.out.keep b1)
   have M1:=hid (M8.out.keep b1)
   clear hm1 ha1 b1 hn0 hn1 hn2 hn3 HL HM L8 M8
   go_wp2_with fail
   refine(impl_join mg 8 mc zs _ _ M1.out (by decide)).mono ?_
   rintro e w2⟨m',rfl,n2',b2⟩
   obtain⟨v5,d5,e5,_⟩:=n2'.shape
   rw[OK.out.2.2]at e5
   subst e5
   have B2:=hid (on B1.out b2)
   have H2:=hid (H1.out.1.keep b2)
   have L2:=hid (L1.out.keep b2)
   have M2:Hid (Nums w2 w1.heap.size (.slice v5 64 d5) zs):=n2'
   have AP:Hid (Apt (.slice v0 n0 d0) (.slice v5 64 d5)∧Apt (.slice v1 n1 d1) (.slice v5 64 d5)∧Apt (.slice v2 n2 d2) (.slice v5 64 d5)∧Apt (.slice v3 n3 d3) (.slice v5 64 d5)):=⟨H1.out.1.r.apt n2' (Nat.le_refl _),H1.out.1.c.apt n2' (Nat.le_refl _),H1.out.1.i.apt n2' (Nat.le_refl _),H1.out.1.o.apt n2' (Nat.le_refl _)⟩
   have ZZ:Hid (s+1<W.heap.size∧W.heap.size≤wr.heap.size∧W.heap.size≤w1.heap.size∧w.heap.size≤W.heap.size):=⟨R.out.lt,HB.out.size,B1.out.size,B0.out.size⟩
   have R2:=hid (R.out.keep B2.out)
   clear b2 n2' M1
   have p0:=R2.out.cell 0 rfl
   have p1:=R2.out.cell 1 rfl
   have p2:=R2.out.cell 2 rfl
   have p3:=R2.out.cell 3 rfl
   have p4:=R2.out.cell 4 rfl
   have p5:=R2.out.cell 5 rfl
   have p6:=R2.out.cell 6 rfl
   have p7:=R2.out.cell 7 rfl
   have p8:=R2.out.cell 8 rfl
   have p9:=R2.out.cell 9 rfl
   have p10:=R2.out.cell 10 rfl
   have f0:=R2.out.free 0
   have f1:=R2.out.free 1
   have f2:=R2.out.free 2
   have f3:=R2.out.free 3
   have f4:=R2.out.free 4
   have f5:=R2.out.free 5
   have f6:=R2.out.free 6
   have f7:=R2.out.free 7
   have f8:=R2.out.free 8
   have f9:=R2.out.free 9
   have f10:=R2.out.free 10
   have NR:Hid (_∧_):=elevenX R2.out (.slice v0 n0 d0) (.int .i64 H.pc) (.slice v1 n1 d1) (.bool H.halted) (.bool H.waiting) (.bool H.rung) (.int .i64 H.done) (.slice v2 n2 d2) (.slice v3 n3 d3) (.slice la 8 lc) (.slice v5 64 d5)
   go_wp2_with fail
   clear p0 f0 p1 f1 p2 f2 p3 f3 p4 f4 p5 f5 p6 f6 p7 f7 p8 f8 p9 f9 p10 f10
   generalize (((((((((((w2.setCell ⟨s+1,0,none⟩ (.slice v0 n0 d0)).setCell ⟨s+1,1,none⟩ (.int .i64 H.pc)).setCell ⟨s+1,2,none⟩ (.slice v1 n1 d1)).setCell ⟨s+1,3,none⟩ (.bool H.halted)).setCell ⟨s+1,4,none⟩ (.bool H.waiting)).setCell ⟨s+1,5,none⟩ (.bool H.rung)).setCell ⟨s+1,6,none⟩ (.int .i64 H.done)).setCell ⟨s+1,7,none⟩ (.slice v2 n2 d2)).setCell ⟨s+1,8,none⟩ (.slice v3 n3 d3)).setCell ⟨s+1,9,none⟩ (.slice la 8 lc)).setCell ⟨s+1,10,none⟩ (.slice v5 64 d5))=V at*
   have O6:Ho (s+2) w2 V:=NR.out.2.ho fun k e=>by omega
   have B7:Hid (Below w.heap.size w V):=Mq.under (on B0.out B2.out) NR.out.2 fun k e=>by have:=HSs.out;omega
   have NE:∀k,(Value.slice la 8 lc).ownBlock=some k→¬k=s+1:=fun k e f=>by have:=(L2.out.lt k e).1;have:=ZZ.out;omega
   have SS:Hid (Sm V w.heap.size (.slice v0 n0 d0) (.slice v1 n1 d1) (.slice v2 n2 d2) (.slice v3 n3 d3) (.slice la 8 lc) (.slice v5 64 d5) H qs zs):=⟨((H2.out.mono (by have:=ZZ.out;omega)).ho O6).mono (by have:=HSs.out;omega),H1.out.2,prs_mono (prs_mq L2.out NR.out.2 NE) ZZ.out.2.2.2,((M2.out.mono (by have:=ZZ.out;omega)).ho O6).mono (by have:=HSs.out;omega),AP.out.1,AP.out.2.1,AP.out.2.2.1,AP.out.2.2.2⟩
   have x0':=NR.out.1.cell 0 rfl
   have x1':=NR.out.1.cell 1 rfl
   have x2':=NR.out.1.cell 2 rfl
   have x3':=NR.out.1.cell 3 rfl
   have x4':=NR.out.1.cell 4 rfl
   have x5':=NR.out.1.cell 5 rfl
   have x6':=NR.out.1.cell 6 rfl
   have x7':=NR.out.1.cell 7 rfl
   have x8':=NR.out.1.cell 8 rfl
   have x9':=NR.out.1.cell 9 rfl
   have x10':=NR.out.1.cell 10 rfl
   exact bodyPost_ret (v:=.agg #[.slice v0 n0 d0,.int .i64 H.pc,.slice v1 n1 d1,.bool H.halted,.bool H.waiting,.bool H.rung,.int .i64 H.done,.slice v2 n2 d2,.slice v3 n3 d3,.slice la 8 lc,.slice v5 64 d5]) (by simp[results,Tryz.results28,go_sem,x0',x1',x2',x3',x4',x5',x6',x7',x8',x9',x10']) rfl ⟨_,_,_,_,_,_,rfl,SS.out,B7.out⟩
def aloV(k:Nat)(p:Int×Int):Int×Int:=if p.2=0 then(-1,0)else((k:Int),p.2)
def aloL(ps:List (Int×Int)):List (Int×Int):=(List.range 8).map fun(k:Nat)=>aloV k (ps.getD k (0,0))
theorem aloL_len(ps:List (Int×Int)):(aloL ps).length=8:=by simp[aloL]
theorem aloL_at(ps:List (Int×Int))(k:Nat)(hk:k<8):(aloL ps).getD k (0,0)=aloV k (ps.getD k (0,0)):=by
 unfold aloL
 rw[List.getD,List.getElem?_map,List.getElem?_range hk]
 rfl
theorem vb_rangeA{w:World}{q:Nat}{A:Array Value}{t:TypeId}(h:Vb w q A t):w.rangeAt q 0 A.toList:=fun j v hv=>by
 rw[Nat.zero_add]
 exact h.cell j (by rw[←Array.getElem?_toList];exact hv)
theorem i_pageFor(k:Nat)(tp kd:Int)(w:World):Calls Tryz.prog 57 #[.int .i64 (k:Int),.int .i64 kd] w fun e w'=>e=.returned (.agg #[.int .i64 (aloV k (tp,kd)).1,.int .i64 (aloV k (tp,kd)).2])∧Below w.heap.size w w':=by
 unfold aloV
 by_cases h:kd=0
 ·subst h
  rw[if_pos rfl]
  go_enter Tryz.func57,Tryz.ntmps57
  go_wp2_with fail
  exact bodyPost_ret (v:=.agg #[.int .i64 (-1),.int .i64 0]) (by simp[results,Tryz.results57,go_sem]) rfl ⟨rfl,al (Below.refl _ _) _⟩
 ·rw[if_neg (by exact h)]
  go_enter Tryz.func57,Tryz.ntmps57
  go_wp2_with fail
  exact bodyPost_ret (v:=.agg #[.int .i64 (k:Int),.int .i64 kd]) (by simp[results,Tryz.results57,go_sem]) rfl ⟨rfl,al (Below.refl _ _) _⟩
theorem c_alone(q g cap:Nat)(zs:List Int)(b k:Nat)(tq kd:Int)(w:World)(hq:w.cell? ⟨q,0,none⟩=some (.slice (some ⟨g,0,none⟩) 8 cap))(hp:Pags w b (.slice (some ⟨g,0,none⟩) 8 cap) 8 zs)(hk:k<8):
  Calls Tryz.prog 56 #[.int .i64 (k:Int),.agg #[.int .i64 tq,.int .i64 kd],.pointer (some ⟨q,0,none⟩)] w fun e w'=>e=.returned (.agg #[.int .i64 (aloV k (tq,kd)).1,.int .i64 (aloV k (tq,kd)).2,.int .i64 (zs.getD (k*8) 0),.int .i64 (zs.getD (k*8+1) 0),.int .i64 (zs.getD (k*8+2) 0),.int .i64 (zs.getD (k*8+3) 0),.int .i64 (zs.getD (k*8+4) 0),.int .i64 (zs.getD (k*8+5) 0),.int .i64 (zs.getD (k*8+6) 0),.int .i64 (zs.getD (k*8+7) 0)])∧Below w.heap.size w w':=by
 obtain⟨z0,hz0⟩:∃z,zs.getD (k*8) 0=z:=⟨_,rfl⟩
 have c0:=hp.cell (k*8) (by omega)
 rw[hz0]at c0 ⊢
 obtain⟨z1,hz1⟩:∃z,zs.getD (k*8+1) 0=z:=⟨_,rfl⟩
 have c1:=hp.cell (k*8+1) (by omega)
 rw[hz1]at c1 ⊢
 obtain⟨z2,hz2⟩:∃z,zs.getD (k*8+2) 0=z:=⟨_,rfl⟩
 have c2:=hp.cell (k*8+2) (by omega)
 rw[hz2]at c2 ⊢
 obtain⟨z3,hz3⟩:∃z,zs.getD (k*8+3) 0=z:=⟨_,rfl⟩
 have c3:=hp.cell (k*8+3) (by omega)
 rw[hz3]at c3 ⊢
 obtain⟨z4,hz4⟩:∃z,zs.getD (k*8+4) 0=z:=⟨_,rfl⟩
 have c4:=hp.cell (k*8+4) (by omega)
 rw[hz4]at c4 ⊢
 obtain⟨z5,hz5⟩:∃z,zs.getD (k*8+5) 0=z:=⟨_,rfl⟩
 have c5:=hp.cell (k*8+5) (by omega)
 rw[hz5]at c5 ⊢
 obtain⟨z6,hz6⟩:∃z,zs.getD (k*8+6) 0=z:=⟨_,rfl⟩
 have c6:=hp.cell (k*8+6) (by omega)
 rw[hz6]at c6 ⊢
 obtain⟨z7,hz7⟩:∃z,zs.getD (k*8+7) 0=z:=⟨_,rfl⟩
 have c7:=hp.cell (k*8+7) (by omega)
 rw[hz7]at c7 ⊢
 have PF:=i_pageFor k tq kd
 obtain⟨pt,hpt⟩:∃z,(aloV k (tq,kd)).1=z:=⟨_,rfl⟩
 obtain⟨pk,hpk⟩:∃z,(aloV k (tq,kd)).2=z:=⟨_,rfl⟩
 rw[hpt,hpk]at PF ⊢
 have HF:Hid (∀u,Calls Tryz.prog 57 #[.int .i64 (k:Int),.int .i64 kd] u fun e w'=>e=.returned (.agg #[.int .i64 pt,.int .i64 pk])∧Below u.heap.size u w'):=PF
 have C:Hid (w.cell? ⟨q,0,none⟩=some (.slice (some ⟨g,0,none⟩) 8 cap)∧w.rangeAt g (k*8) [.int .i64 z0,.int .i64 z1,.int .i64 z2,.int .i64 z3,.int .i64 z4,.int .i64 z5,.int .i64 z6,.int .i64 z7]):=by
  refine⟨hq,fun j v hv=>?_⟩
  have hj:j<8:=(List.getElem?_eq_some_iff.1 hv).1
  have e:j=0∨j=1∨j=2∨j=3∨j=4∨j=5∨j=6∨j=7:=by omega
  rcases e with rfl|rfl|rfl|rfl|rfl|rfl|rfl|rfl<;>(simp at hv;subst hv;assumption)
 have HK:=hid hk
 have hI:(k:Int)<8:=by omega
 clear hq hp hk PF hpt hpk hz0 c0 hz1 c1 hz2 c2 hz3 c3 hz4 c4 hz5 c5 hz6 c6 hz7 c7
 generalize hW:(w.alloc (.cells #[.int .i64 tq,.int .i64 kd] 89)).alloc (.cells #[.int .i64 0,.int .i64 0,.int .i64 0,.int .i64 0,.int .i64 0,.int .i64 0,.int .i64 0,.int .i64 0,.int .i64 0,.int .i64 0] 93)=W
 have B0:Hid (Below w.heap.size w W):=by show Below _ _ _;rw[←hW];exact al (al (Below.refl _ _) _) _
 obtain⟨s,hS⟩:∃s,w.heap.size=s:=⟨_,rfl⟩
 have HSs:=hid hS
 have z1':s+1=(w.alloc (.cells #[.int .i64 tq,.int .i64 kd] 89)).heap.size:=by rw[←hS];simp
 have Q:Hid (Vb W s #[.int .i64 tq,.int .i64 kd] 89):=by show Vb _ _ _ _;rw[←hW,←hS];exact(Vb.new _ _ _).push _
 have R:Hid (Vb W (s+1) #[.int .i64 0,.int .i64 0,.int .i64 0,.int .i64 0,.int .i64 0,.int .i64 0,.int .i64 0,.int .i64 0,.int .i64 0,.int .i64 0] 93):=by show Vb _ _ _ _;rw[←hW,z1'];exact Vb.new _ _ _
 clear z1'
 have LT:Hid (s+1<W.heap.size):=R.out.lt
 have BS:Hid (∀w',SvN 10 W (s+1) w'→Below w.heap.size w w'):=fun w' hs=>Mq.under B0.out hs.1 fun k e=>by have:=HSs.out;omega
 have QS:Hid (∀w',SvN 10 W (s+1) w'→w'.cell? ⟨s,1,none⟩=some (.int .i64 kd)):=fun w' hs=>(hs.1.vb Q.out (by omega)).cell 1 rfl
 have Sv0:Hid (SvN 10 W (s+1) W.drew):=SvN.step ⟨Mq.refl _ _,R.out.there 10 (by decide)⟩ LT.out (Below.refl _ _).drew
 go_enter Tryz.func56,Tryz.ntmps56
 go_upto_region 1 with fail
 clear hW hS
 refine wp_region_held (S:=fun w'=>SvN 10 W (s+1) w') (by kernel_rfl) ?_
 change wpAnyH _ _ _ _ _ _ _ _ (World.drew _)
 generalize W.drew=v0 at*
 refine wpTd 0 6 ((.int .i64 (k:Int))) rfl Sv0.out ?_
 simp only[Act.put,zT,zZ,zS]
 refine wpTd 1 7 ((.pointer (some ⟨s,1,none⟩))) rfl Sv0.out ?_
 simp only[Act.put,zT,zZ,zS]
 refine wpTe 2 8 ((.int .i64 kd)) rfl (Or.inl ⟨by rfl,fun w' hs=>by have y0:=QS.out w' hs;go_simp⟩) Sv0.out ?_
 simp only[Act.put,zT,zZ,zS]
 refine wpTe 4 10 ((.slice (some ⟨g,0,none⟩) 8 cap)) rfl (Or.inl ⟨by rfl,fun w' hs=>by have y0:=cell_keep (BS.out w' hs) C.out.1;go_simp⟩) Sv0.out ?_
 simp only[Act.put,zT,zZ,zS]
 refine wpTd 5 11 ((.int .i64 (k:Int))) rfl Sv0.out ?_
 simp only[Act.put,zT,zZ,zS]
 refine wpTd 6 12 ((.pointer (some ⟨g,k*8,none⟩))) rfl Sv0.out ?_
 simp only[Act.put,zT,zZ,zS]
 refine wpTk (i:=7) rfl (yieldsIf_load_mid rfl 91 (.tmp 12) rfl g (k*8) rfl [.int .i64 z0,.int .i64 z1,.int .i64 z2,.int .i64 z3,.int .i64 z4,.int .i64 z5,.int .i64 z6,.int .i64 z7] _ (fun w' hs=>range_keep C.out.2 (BS.out w' hs)) Tryz.underlying91 rfl (by kernel_rfl)) Sv0.out ?_
 change wpAnyH _ _ _ _ _ _ _ (Act.put _ (some 13) _) _
 simp only[Act.put,zT,zZ,zS]
 refine zR 3 rfl fun K hK=>?_
 rw[if_pos (by rfl)]
 go_simp
 refine(HF.out _).mono ?_
 rintro e v1⟨rfl,b1⟩
 have Sv1:Hid (SvN 10 W (s+1) v1):=Sv0.out.step LT.out b1
 clear b1
 refine hK.out _ _ Sv1.out (fun _=>?_)
 clear hK K
 refine wpTd 8 14 ((.agg #[.int .i64 pt,.int .i64 pk,.int .i64 z0,.int .i64 z1,.int .i64 z2,.int .i64 z3,.int .i64 z4,.int .i64 z5,.int .i64 z6,.int .i64 z7])) rfl Sv1.out ?_
 simp only[Act.put,zT,zZ,zS]
 refine zR 9 rfl fun K hK=>?_
 rw[if_pos (by rfl)]
 refine wp_store_mid 93 (.tmp 5) (.tmp 14) rfl (s+1) 0 #[.int .i64 pt,.int .i64 pk,.int .i64 z0,.int .i64 z1,.int .i64 z2,.int .i64 z3,.int .i64 z4,.int .i64 z5,.int .i64 z6,.int .i64 z7] rfl rfl Sv1.out.2 (by kernel_rfl) (by simp[Value.oneCell']) ?_
 change K (Act.put _ none undef) _
 simp only[Act.put]
 have S6:Hid (SvN 10 W (s+1) (v1.setCells (s+1) 0 #[.int .i64 pt,.int .i64 pk,.int .i64 z0,.int .i64 z1,.int .i64 z2,.int .i64 z3,.int .i64 z4,.int .i64 z5,.int .i64 z6,.int .i64 z7].toList)):=Sv1.out.set _
 have R6:Hid ((v1.setCells (s+1) 0 #[.int .i64 pt,.int .i64 pk,.int .i64 z0,.int .i64 z1,.int .i64 z2,.int .i64 z3,.int .i64 z4,.int .i64 z5,.int .i64 z6,.int .i64 z7].toList).rangeAt (s+1) 0 #[.int .i64 pt,.int .i64 pk,.int .i64 z0,.int .i64 z1,.int .i64 z2,.int .i64 z3,.int .i64 z4,.int .i64 z5,.int .i64 z6,.int .i64 z7].toList):=World.rangeAt_setCells_same _ _ _ _ Sv1.out.2
 generalize v1.setCells (s+1) 0 #[.int .i64 pt,.int .i64 pk,.int .i64 z0,.int .i64 z1,.int .i64 z2,.int .i64 z3,.int .i64 z4,.int .i64 z5,.int .i64 z6,.int .i64 z7].toList=v6 at*
 refine hK.out _ _ S6.out (fun _=>?_)
 clear hK K
 refine wpAnyH_done (by kernel_rfl) ?_ _
 have LD:=run_loadVar_mid (P:=Tryz.prog) v6 (s+1) 0 93 #[.int .i64 pt,.int .i64 pk,.int .i64 z0,.int .i64 z1,.int .i64 z2,.int .i64 z3,.int .i64 z4,.int .i64 z5,.int .i64 z6,.int .i64 z7].toList _ R6.out Tryz.underlying93 rfl (by kernel_rfl)
 go_wp2_with fail
 exact bodyPost_ret (v:=.agg #[.int .i64 pt,.int .i64 pk,.int .i64 z0,.int .i64 z1,.int .i64 z2,.int .i64 z3,.int .i64 z4,.int .i64 z5,.int .i64 z6,.int .i64 z7]) (by simp[results,Tryz.results56,asAddr];rw[LD]) rfl ⟨rfl,BS.out _ S6.out⟩
theorem ten_alo(ps:List (Int×Int))(zs:List Int)(k:Nat)(hk:k<8):(tenL (aloL ps) zs k).toArray=#[.int .i64 (aloV k (ps.getD k (0,0))).1,.int .i64 (aloV k (ps.getD k (0,0))).2,.int .i64 (zs.getD (k*8) 0),.int .i64 (zs.getD (k*8+1) 0),.int .i64 (zs.getD (k*8+2) 0),.int .i64 (zs.getD (k*8+3) 0),.int .i64 (zs.getD (k*8+4) 0),.int .i64 (zs.getD (k*8+5) 0),.int .i64 (zs.getD (k*8+6) 0),.int .i64 (zs.getD (k*8+7) 0)]:=by
 unfold tenL
 rw[aloL_at ps k hk]
theorem i_knownA(H:Ht)(xa:Option Addr)(xn xk:Nat)(ya:Option Addr)(yn yk:Nat)(ps qs:List (Int×Int))(zs:List Int)(q0:Nat)(w:World)
  (hf:∀k:Nat,k<8→∀u,Below w.heap.size w u→Calls Tryz.prog 56 #[.int .i64 (k:Int),.agg #[.int .i64 (ps.getD k (0,0)).1,.int .i64 (ps.getD k (0,0)).2],.pointer (some ⟨q0,0,none⟩)] u fun e u'=>e=.returned (.agg (tenL qs zs k).toArray)∧Below u.heap.size u u'):
  Calls Tryz.prog 55 #[.agg (mcp H (.slice xa xn xk) (.slice ya yn yk) ps),.func (.func 56) #[] #[.pointer (some ⟨q0,0,none⟩)]] w fun e w'=>e=.returned (.agg (oplL H (.slice xa xn xk) (.slice ya yn yk) qs zs).toArray)∧Below w.heap.size w w':=by
 have HF:=hid hf
 clear hf
 generalize hW:(w.alloc (.cells (mcp H (.slice xa xn xk) (.slice ya yn yk) ps) 100)).alloc (.cells Tryz.zeroCells96 96)=W
 have B0:Hid (Below w.heap.size w W):=by show Below _ _ _;rw[←hW];exact al (al (Below.refl _ _) _) _
 obtain⟨s,hS⟩:∃s,w.heap.size=s:=⟨_,rfl⟩
 have HSs:=hid hS
 have z1:s+1=(w.alloc (.cells (mcp H (.slice xa xn xk) (.slice ya yn yk) ps) 100)).heap.size:=by rw[←hS];simp
 have Q:Hid (Vb W s (mcp H (.slice xa xn xk) (.slice ya yn yk) ps) 100):=by show Vb _ _ _ _;rw[←hW,←hS];exact(Vb.new _ _ _).push _
 have R:Hid (W.there (s+1) 0 114):=by show World.there _ _ _ _;rw[←hW,z1];exact(Vb.new _ _ _).there 114 (Nat.le_of_eq (by kernel_rfl))
 clear z1
 have LT:Hid (s+1<W.heap.size):=by show _<_;rw[←hW,←hS];simp
 obtain⟨P,hP⟩:∃P:List Value,(oplL H (.slice xa xn xk) (.slice ya yn yk) qs zs)=P:=⟨_,rfl⟩
 rw[hP]
 have HP:=hid hP
 have HPL:Hid (P.length=114):=by show _=_;rw[←hP];exact oplL_len _ _ _ _ _
 clear hP
 go_enter Tryz.func55,Tryz.ntmps55
 go_upto_region 1 with fail
 clear hW hS
 have RM:Hid (∀v,Below W.heap.size W v→v.rangeAt s 0 (mca H (.slice xa xn xk) (.slice ya yn yk)).toList∧v.rangeAt s 34 (pgL ps)):=fun v hv=>mcp_range (Q.out.keep hv)
 refine wp_region_lit ?_
 refine wpList_take (.pointer (some ⟨s,0,none⟩)) (Or.inl ⟨by rfl,fun w' hs=>by subst hs;go_simp⟩) ?_
 change wpList _ _ _ _ (Act.put _ (some 8) _) _
 simp only[Act.put,zT,zZ,zS]
 refine wpList_take (.agg (mca H (.slice xa xn xk) (.slice ya yn yk)).toList.toArray) (yieldsIf_load_mid rfl 87 (.tmp 8) rfl s 0 rfl (mca H (.slice xa xn xk) (.slice ya yn yk)).toList _ (fun w' e=>by subst e;exact(RM.out _ (Below.refl _ _)).1) Tryz.underlying87 rfl (by kernel_rfl)) ?_
 change wpList _ _ _ _ (Act.put _ (some 9) _) _
 simp only[Act.put,zT,zZ,zS]
 refine wpList_build rfl 96 #[(0,.tmp 9)] rfl (own0 H (.slice xa xn xk) (.slice ya yn yk)) (by kernel_rfl) ?_
 change wpList _ _ _ _ (Act.put _ (some 10) _) _
 simp only[Act.put,zT,zZ,zS]
 refine wpList_plain rfl (fun K hK=>?_)
 go_simp
 refine hK _ _ ?_
 clear hK K
 obtain⟨q,hq⟩:∃q,W.heap.size=q:=⟨_,rfl⟩
 have W1:Hid (Below W.heap.size W (W.alloc (.cells Tryz.zeroCells96 96))∧(W.alloc (.cells Tryz.zeroCells96 96)).there q 0 114∧q<(W.alloc (.cells Tryz.zeroCells96 96)).heap.size):=⟨al (Below.refl _ _) _,by rw[←hq];exact(Vb.new _ _ _).there 114 (Nat.le_of_eq (by kernel_rfl)),by rw[←hq];simp⟩
 have HQ:=hid hq
 rw[hq]
 generalize W.alloc (.cells Tryz.zeroCells96 96)=V1 at*
 clear hq
 refine wpList_store_mid rfl 96 (.tmp 5) (.tmp 10) rfl q 0 (own0 H (.slice xa xn xk) (.slice ya yn yk)) rfl rfl (by rw[own0_size];exact W1.out.2.1) (by kernel_rfl) (own0_one _ _ _ rfl rfl) ?_
 change wpList _ _ _ _ (Act.put _ none undef) _
 simp only[Act.put]
 have K0:Hid (Ko w q (V1.setCells q 0 (own0 H (.slice xa xn xk) (.slice ya yn yk)).toList) (mca H (.slice xa xn xk) (.slice ya yn yk)).toList qs zs 0):=by
  have hs:Mq (fun k=>k=q) V1 (V1.setCells q 0 (own0 H (.slice xa xn xk) (.slice ya yn yk)).toList):=mq_cells q _ V1 _
  have hw:w.heap.size≤q:=by have:=B0.out.size;have:=HQ.out;omega
  refine⟨Mq.under (on B0.out W1.out.1) hs fun k e=>by omega,⟨hw,Nat.lt_of_lt_of_le W1.out.2.2 hs.size⟩,World.there_setCells W1.out.2.1 _ _ _,?_,range_nil _ _ _⟩
  have:=World.rangeAt_setCells_same V1 q 0 (own0 H (.slice xa xn xk) (.slice ya yn yk)).toList (by rw[Array.length_toList,own0_size];exact W1.out.2.1)
  rw[own0_list]at this ⊢
  exact range_left this
 have RM2:Hid ((V1.setCells q 0 (own0 H (.slice xa xn xk) (.slice ya yn yk)).toList).rangeAt s 34 (pgL ps)):=by
  have hs:Mq (fun k=>k=q) V1 (V1.setCells q 0 (own0 H (.slice xa xn xk) (.slice ya yn yk)).toList):=mq_cells q _ V1 _
  exact(mcp_range (hs.vb (Q.out.keep W1.out.1) (by have:=LT.out;have:=HQ.out;omega))).2
 have R2:Hid (SvN 114 V1 q (V1.setCells q 0 (own0 H (.slice xa xn xk) (.slice ya yn yk)).toList)):=⟨mq_cells q _ V1 _,World.there_setCells W1.out.2.1 _ _ _⟩
 have TH:Hid (V1.there (s+1) 0 114):=there_below R.out LT.out W1.out.1
 have Z1:Hid (s+1<q∧s+1<V1.heap.size):=⟨by have:=LT.out;have:=HQ.out;show _<_;omega,Nat.lt_of_lt_of_le LT.out W1.out.1.size⟩
 generalize V1.setCells q 0 (own0 H (.slice xa xn xk) (.slice ya yn yk)).toList=V2 at*
 have K0':Hid (V2.there (s+1) 0 114):=there_mq TH.out Z1.out.2 R2.out.1 (by have:=Z1.out.1;omega)
 refine wpList_nil ?_
 go_upto_region 2 with fail
 refine wp_region_lit ?_
 refine wpList_take (.pointer (some ⟨s,34,none⟩)) (Or.inl ⟨by rfl,fun w' hs=>by subst hs;go_simp⟩) ?_
 change wpList _ _ _ _ (Act.put _ (some 11) _) _
 simp only[Act.put,zT,zZ,zS]
 refine wpList_take (.agg (pgL ps).toArray) (yieldsIf_load_mid rfl 98 (.tmp 11) rfl s 34 rfl (pgL ps) _ (fun w' e=>by subst e;exact RM2.out) Tryz.underlying98 rfl (by kernel_rfl)) ?_
 change wpList _ _ _ _ (Act.put _ (some 12) _) _
 simp only[Act.put,zT,zZ,zS]
 refine wpList_take (.int .i64 0) (Or.inl ⟨by rfl,fun w' hs=>by subst hs;go_simp⟩) ?_
 change wpList _ _ _ _ (Act.put _ (some 13) _) _
 simp only[Act.put,zT,zZ,zS]
 refine wpList_nil ?_
 clear RM2 R2 TH W1
 go_wp2_with fail
 go_loopw [6,7,13] (fun _ _ c wr=>∃k:Nat,k≤8∧c=.int .i64 k∧Ko w q wr (mca H (.slice xa xn xk) (.slice ya yn yk)).toList qs zs k∧wr.there (s+1) 0 114) (fun _ _ c _=>8-(intOf c).toNat)
 case atStart=>exact⟨0,by decide,rfl,K0.out,K0'.out⟩
 case round=>
  obtain⟨k,hk,rfl,hK,hT⟩:=hrel
  have KK:=hid hK
  have KT:=hid hT
  clear hK hT K0 K0'
  by_cases hlt:k<8
  ·have hI:(k:Int)<8:=by omega
   have HLT:=hid hlt
   have CF:Hid (∀u,Below w.heap.size w u→Calls Tryz.prog 56 #[.int .i64 (k:Int),.agg #[.int .i64 (ps.getD k (0,0)).1,.int .i64 (ps.getD k (0,0)).2],.pointer (some ⟨q0,0,none⟩)] u fun e u'=>e=.returned (.agg (tenL qs zs k).toArray)∧Below u.heap.size u u'):=HF.out k hlt
   have IX:Hid (∀u,(Instr.index 98 (.agg (pgL ps).toArray) (.int .i64 (k:Int))).run Tryz.prog u=.ok (.agg #[.int .i64 (ps.getD k (0,0)).1,.int .i64 (ps.getD k (0,0)).2]) u):=pg_index ps k hlt
   obtain⟨tk,htk⟩:∃z,(ps.getD k (0,0)).1=z:=⟨_,rfl⟩
   obtain⟨dk,hdk⟩:∃z,(ps.getD k (0,0)).2=z:=⟨_,rfl⟩
   rw[htk,hdk]at CF IX
   clear htk hdk hlt
   have ix:=IX.out
   go_upto_region 5 with fail
   clear ix IX
   have B3:Hid (Below wr.heap.size wr (wr.alloc (.cells #[.int .i64 tk,.int .i64 dk] 89))):=al (Below.refl _ _) _
   have V3:Hid (Vb (wr.alloc (.cells #[.int .i64 tk,.int .i64 dk] 89)) wr.heap.size #[.int .i64 tk,.int .i64 dk] 89):=Vb.new _ _ _
   generalize hp:wr.heap.size=p at V3 ⊢
   have K3:Hid (Ko w q (wr.alloc (.cells #[.int .i64 tk,.int .i64 dk] 89)) (mca H (.slice xa xn xk) (.slice ya yn yk)).toList qs zs k∧(wr.alloc (.cells #[.int .i64 tk,.int .i64 dk] 89)).there (s+1) 0 114):=⟨KK.out.step B3.out,there_below KT.out (by have:=Z1.out.1;have:=KK.out.hq.2;omega) B3.out⟩
   have ZB:Hid (s+1<(wr.alloc (.cells #[.int .i64 tk,.int .i64 dk] 89)).heap.size):=by have:=Z1.out.1;have:=KK.out.hq.2;show _<_;simp;omega
   generalize wr.alloc (.cells #[.int .i64 tk,.int .i64 dk] 89)=U3 at*
   clear hp B3
   obtain⟨y0,y1⟩:=zc2 V3.out
   refine wp_region_lit ?_
   refine wpList_take (.int .i64 (k:Int)) (Or.inl ⟨by rfl,fun w' hs=>by subst hs;go_simp⟩) ?_
   change wpList _ _ _ _ (Act.put _ (some 17) _) _
   simp only[Act.put,zT,zZ,zS]
   refine wpList_take (.func (.func 56) #[] #[.pointer (some ⟨q0,0,none⟩)]) (Or.inl ⟨by rfl,fun w' hs=>by subst hs;go_simp⟩) ?_
   change wpList _ _ _ _ (Act.put _ (some 18) _) _
   simp only[Act.put,zT,zZ,zS]
   refine wpList_take (.int .i64 (k:Int)) (Or.inl ⟨by rfl,fun w' hs=>by subst hs;go_simp⟩) ?_
   change wpList _ _ _ _ (Act.put _ (some 19) _) _
   simp only[Act.put,zT,zZ,zS]
   refine wpList_take (.agg #[.int .i64 tk,.int .i64 dk]) (Or.inl ⟨by rfl,fun w' hs=>by subst hs;go_simp⟩) ?_
   change wpList _ _ _ _ (Act.put _ (some 20) _) _
   simp only[Act.put,zT,zZ,zS]
   clear y0 y1
   refine wpList_plain rfl (fun K hK=>?_)
   go_simp
   refine(CF.out _ K3.out.1.b).mono ?_
   rintro e U4⟨rfl,b4⟩
   refine hK _ _ ?_
   clear hK K
   have K4:Hid (Ko w q U4 (mca H (.slice xa xn xk) (.slice ya yn yk)).toList qs zs k∧U4.there (s+1) 0 114):=⟨K3.out.1.step b4,there_below K3.out.2 ZB.out b4⟩
   have ZC:Hid (s+1<U4.heap.size):=Nat.lt_of_lt_of_le ZB.out b4.size
   clear b4
   refine wpList_take (.pointer (some ⟨q,34,none⟩)) (Or.inl ⟨by rfl,fun w' hs=>by subst hs;go_simp⟩) ?_
   change wpList _ _ _ _ (Act.put _ (some 22) _) _
   simp only[Act.put,zT,zZ,zS]
   refine wpList_take (.pointer (some ⟨q,34+k*10,none⟩)) (Or.inl ⟨by rfl,fun w' hs=>by subst hs;go_simp⟩) ?_
   change wpList _ _ _ _ (Act.put _ (some 23) _) _
   simp only[Act.put,zT,zZ,zS]
   refine wpList_store_mid rfl 93 (.tmp 23) (.tmp 21) rfl q (34+k*10) (tenL qs zs k).toArray rfl rfl (there_part K4.out.1.t _ _ (by have:=HLT.out;show 34+k*10+10≤114;omega)) (by kernel_rfl) (tenL_one _ _ _) ?_
   change wpList _ _ _ _ (Act.put _ none undef) _
   simp only[Act.put]
   have K5:Hid (Ko w q (U4.setCells q (34+k*10) (tenL qs zs k).toArray.toList) (mca H (.slice xa xn xk) (.slice ya yn yk)).toList qs zs (k+1)∧(U4.setCells q (34+k*10) (tenL qs zs k).toArray.toList).there (s+1) 0 114):=⟨K4.out.1.put rfl HLT.out,World.there_setCells K4.out.2 _ _ _⟩
   generalize U4.setCells q (34+k*10) (tenL qs zs k).toArray.toList=U5 at*
   refine wpList_nil ?_
   go_wp2_with fail
   go_roundw
   case rel=>exact⟨k+1,by have:=HLT.out;omega,by go_num,K5.out.1,K5.out.2⟩
   case measure=>have:=HLT.out;simp[intOf];omega
  ·have hJ:¬(k:Int)<8:=by omega
   obtain rfl:k=8:=by omega
   have RG:Hid (wr.rangeAt q 0 P):=by show World.rangeAt _ _ _ _;rw[←HP.out];exact KK.out.all
   clear hlt
   go_upto_region 7 with fail
   refine wp_region_lit ?_
   refine wpList_take (.agg P.toArray) (yieldsIf_load_mid rfl 96 (.tmp 5) rfl q 0 rfl P _ (fun w' e=>by subst e;exact RG.out) Tryz.underlying96 rfl (by rw[HPL.out];kernel_rfl)) ?_
   change wpList _ _ _ _ (Act.put _ (some 25) _) _
   simp only[Act.put,zT,zZ,zS]
   refine wpList_store_mid rfl 96 (.tmp 4) (.tmp 25) rfl (s+1) 0 P.toArray rfl rfl (by rw[List.size_toArray,HPL.out];exact KT.out) (by rw[List.size_toArray,HPL.out];kernel_rfl) (by rw[←HP.out];exact oplL_one _ _ _ _ _ rfl rfl) ?_
   change wpList _ _ _ _ (Act.put _ none undef) _
   simp only[Act.put]
   refine wpList_nil ?_
   have R6:Hid ((wr.setCells (s+1) 0 P.toArray.toList).rangeAt (s+1) 0 P):=World.rangeAt_setCells_same _ _ _ _ (by show World.there _ _ _ _;rw[HPL.out];exact KT.out)
   have B6:Hid (Below w.heap.size w (wr.setCells (s+1) 0 P.toArray.toList)):=Mq.under KK.out.b (mq_cells (s+1) _ wr 0) fun k e=>by have:=HSs.out;omega
   generalize wr.setCells (s+1) 0 P.toArray.toList=U6 at*
   have LD:=run_loadVar_mid (P:=Tryz.prog) U6 (s+1) 0 96 P _ R6.out Tryz.underlying96 rfl (by rw[HPL.out];kernel_rfl)
   go_wp2_with fail
   exact bodyPost_ret (v:=.agg P.toArray) (by simp[results,Tryz.results55,asAddr];rw[LD]) rfl ⟨rfl,B6.out⟩
theorem i_aloneWith(H:Ht)(xa:Option Addr)(xn xk:Nat)(ya:Option Addr)(yn yk:Nat)(ps:List (Int×Int))(gm n cap b:Nat)(zs:List Int)(w:World)(hm:Nums w b (.slice (some ⟨gm,0,none⟩) n cap) zs)(h64:zs.length=64):
  Calls Tryz.prog 29 #[.agg (mcp H (.slice xa xn xk) (.slice ya yn yk) ps),.slice (some ⟨gm,0,none⟩) n cap] w fun e w'=>e=.returned (.agg (oplL H (.slice xa xn xk) (.slice ya yn yk) (aloL ps) zs).toArray)∧Below w.heap.size w w':=by
 have HM:Hid (Nums w b (.slice (some ⟨gm,0,none⟩) n cap) zs∧zs.length=64):=⟨hm,h64⟩
 clear hm h64
 obtain⟨P,hP⟩:∃P:List Value,(oplL H (.slice xa xn xk) (.slice ya yn yk) (aloL ps) zs)=P:=⟨_,rfl⟩
 rw[hP]
 have HP:=hid hP
 have HPL:Hid (P.length=114):=by show _=_;rw[←hP];exact oplL_len _ _ _ _ _
 clear hP
 obtain⟨A,hA⟩:∃A:Array Value,mcp H (.slice xa xn xk) (.slice ya yn yk) ps=A:=⟨_,rfl⟩
 have HA:Hid (mcp H (.slice xa xn xk) (.slice ya yn yk) ps=A∧A.size=50):=⟨hA,by rw[←hA];rfl⟩
 rw[hA]
 clear hA
 generalize hW:(w.alloc (.cells A 100)).alloc (.cells Tryz.zeroCells96 96)=W
 have B0:Hid (Below w.heap.size w W):=by show Below _ _ _;rw[←hW];exact al (al (Below.refl _ _) _) _
 obtain⟨s,hS⟩:∃s,w.heap.size=s:=⟨_,rfl⟩
 have HSs:=hid hS
 have z1:s+1=(w.alloc (.cells A 100)).heap.size:=by rw[←hS];simp
 have Q:Hid (Vb W s A 100):=by show Vb _ _ _ _;rw[←hW,←hS];exact(Vb.new _ _ _).push _
 have R:Hid (W.there (s+1) 0 114∧s+1<W.heap.size):=by
  rw[←hW,z1]
  exact⟨(Vb.new _ _ _).there 114 (Nat.le_of_eq (by kernel_rfl)),by simp⟩
 clear z1
 go_enter Tryz.func29,Tryz.ntmps29
 go_wp2_with fail
 clear hW hS
 refine(impl_cut gm n cap zs b 8 _ (HM.out.1.keep B0.out) (by have:=HM.out.2;omega) (by decide) (by decide)).mono ?_
 rintro e w1⟨g,rfl,pg,b1⟩
 have B1:=hid (on B0.out b1)
 have Q1:=hid (Q.out.keep b1)
 have R1:Hid (w1.there (s+1) 0 114∧s+1<w1.heap.size):=⟨there_below R.out.1 R.out.2 b1,Nat.lt_of_lt_of_le R.out.2 b1.size⟩
 have PG:=hid pg
 clear pg b1
 go_upto_region 2 with fail
 generalize hw2:w1.alloc (.cells #[.slice (some ⟨g,0,none⟩) 8 8] 109)=w2
 have b2:Below w1.heap.size w1 w2:=by rw[←hw2];exact al (Below.refl _ _) _
 have B2:=hid (on B1.out b2)
 have C2:Hid (w2.cell? ⟨w1.heap.size,0,none⟩=some (.slice (some ⟨g,0,none⟩) 8 8)):=by show _=_;rw[←hw2];exact cell_new rfl
 have P2:=hid (PG.out.keep b2)
 have Q2:=hid (vb_rangeA (Q1.out.keep b2))
 have R2:Hid (w2.there (s+1) 0 114∧s+1<w2.heap.size):=⟨there_below R1.out.1 R1.out.2 b2,Nat.lt_of_lt_of_le R1.out.2 b2.size⟩
 clear hw2 b2
 generalize w1.heap.size=pq at*
 refine wp_region_lit ?_
 refine wpList_take (.agg A.toList.toArray) (yieldsIf_load_mid rfl 100 (.tmp 2) rfl s 0 rfl A.toList _ (fun w' e=>by subst e;exact Q2.out) Tryz.underlying100 rfl (by rw[Array.length_toList,HA.out.2];kernel_rfl)) ?_
 change wpList _ _ _ _ (Act.put _ (some 8) _) _
 simp only[Act.put,zT,zZ,zS]
 refine wpList_take (.func (.func 56) #[] #[.pointer (some ⟨pq,0,none⟩)]) (Or.inl ⟨by rfl,fun w' hs=>by subst hs;go_simp⟩) ?_
 change wpList _ _ _ _ (Act.put _ (some 9) _) _
 simp only[Act.put,zT,zZ,zS]
 refine wpList_plain rfl (fun K hK=>?_)
 go_simp
 rw[←HA.out.1]
 refine(i_knownA H xa xn xk ya yn yk ps (aloL ps) zs pq _ (fun k hk u hu=>by rw[ten_alo ps zs k hk];exact c_alone pq g 8 zs W.heap.size k _ _ u (cell_keep hu C2.out) (P2.out.keep hu) hk)).mono ?_
 rintro e w4⟨rfl,b4⟩
 refine hK _ _ ?_
 clear hK K
 rw[HP.out]
 have R4:Hid (w4.there (s+1) 0 114∧s+1<w4.heap.size):=⟨there_below R2.out.1 R2.out.2 b4,Nat.lt_of_lt_of_le R2.out.2 b4.size⟩
 have B4:=hid (on B2.out b4)
 clear b4
 refine wpList_store_mid rfl 96 (.tmp 4) (.tmp 10) rfl (s+1) 0 P.toArray rfl rfl (by rw[List.size_toArray,HPL.out];exact R4.out.1) (by rw[List.size_toArray,HPL.out];kernel_rfl) (by rw[←HP.out];exact oplL_one _ _ _ _ _ rfl rfl) ?_
 change wpList _ _ _ _ (Act.put _ none undef) _
 simp only[Act.put]
 refine wpList_nil ?_
 have R6:Hid ((w4.setCells (s+1) 0 P.toArray.toList).rangeAt (s+1) 0 P):=World.rangeAt_setCells_same _ _ _ _ (by show World.there _ _ _ _;rw[HPL.out];exact R4.out.1)
 have B6:Hid (Below w.heap.size w (w4.setCells (s+1) 0 P.toArray.toList)):=Mq.under B4.out (mq_cells (s+1) _ w4 0) fun k e=>by have:=HSs.out;omega
 generalize w4.setCells (s+1) 0 P.toArray.toList=U6 at*
 have LD:=run_loadVar_mid (P:=Tryz.prog) U6 (s+1) 0 96 P _ R6.out Tryz.underlying96 rfl (by rw[HPL.out];kernel_rfl)
 go_wp2_with fail
 exact bodyPost_ret (v:=.agg P.toArray) (by simp[results,Tryz.results29,asAddr];rw[LD]) rfl ⟨rfl,B6.out⟩
theorem fz_at(zs:List Int)(p:Nat)(ws:List Int)(hz:zs.length=64)(hp:p≤7)(hw:ws.length=8)(i:Nat):(fzL zs p ws 8).getD i 0=if p*8≤i∧i<p*8+8 then ws.getD (i-p*8) 0 else zs.getD i 0:=by
 unfold fzL
 have e1:ws.take 8=ws:=List.take_of_length_le (by omega)
 rw[e1]
 simp only[List.getD_eq_getElem?_getD]
 by_cases h1:i<p*8
 ·rw[if_neg (by omega),List.getElem?_append_left (by rw[List.length_take];omega),List.getElem?_take_of_lt h1]
 ·rw[List.getElem?_append_right (by rw[List.length_take];omega)]
  have l1:(zs.take (p*8)).length=p*8:=by rw[List.length_take];omega
  rw[l1]
  by_cases h2:i<p*8+8
  ·rw[if_pos ⟨by omega,h2⟩,List.getElem?_append_left (by omega)]
  ·rw[if_neg (by omega),List.getElem?_append_right (by omega),List.getElem?_drop,hw]
   congr 2
   omega
end Go.Proofs.YtignbeibcakgpaaGreatDoor
