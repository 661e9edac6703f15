/- Texts of this seat, joined. -/
import Derived.Laws.AppendOwnNone
import Derived.Deep.Cut
import Derived.Deep.RegionHeld3
import Derived.Test.YtaefollmeoepkaaGreatDoorQ05
import Derived.Test.YtaefollmeoepkaaGreatDoorQ06
import Derived.Test.YtaefollmeoepkaaGreatDoorQ11
import Derived.Test.YtaefollmeoepkaaGreatDoorQ12
import Derived.Test.YtaefollmeoepkaaGreatDoorQ13
import Derived.Test.YtaefollmeoepkaaGreatDoorQ15
import Derived.Test.YtaefollmeoepkaaGreatDoorQ17
import Derived.Test.YtaefollmeoepkaaGreatDoorQ18
import Derived.Test.YtaefollmeoepkaaGreatDoorQ19
import Derived.Test.YtaefollmeoepkaaGreatDoorQ20
import Derived.Test.YtaefollmeoepkaaGreatDoorQ21
import Derived.Test.YtaefollmeoepkaaGreatDoorQ33
import Derived.Test.YtaefollmeoepkaaGreatDoorQ34
namespace Go.Proofs.YtaefollmeoepkaaGreatDoor
set_option maxRecDepth 20000
set_option maxHeartbeats 16000000
open Go.RowKit
set_option linter.unusedVariables false
theorem Vb.turn {w w' : World} {b q : Nat} {cs : Array Value} {t : TypeId} (h : Vb w q cs t) (k : Turn b w w') (hn : q ≠ b) : Vb w' q cs t := (k.block q h.lt hn).trans h
variable {w : World} {b k : Nat} {a : Option Addr} {len cap : Nat} {zs : List Int}
theorem ins7_any (s : Src w b k a len cap zs) (hk : k ≤ 40000) :
  Calls Tryz.prog 94 #[.pointer (some ⟨b, 0, none⟩)] w fun e w' => ∃ (o d x i : Int) (k' : Nat), e = .returned (.agg #[.int .i64 o, .int .i64 d, .int .i64 x, .int .i64 i]) ∧ Turn b w w' ∧ Src w' b k' a len cap zs ∧ k' ≤ k + 10 := by
 have HH : Hid (b < w.heap.size) := s.here
 have s0 := s.alloc (.cells #[.int .i64 0, .int .i64 0, .int .i64 0, .int .i64 0] 43)
 have V0 : Hid (Vb (w.alloc (.cells #[.int .i64 0, .int .i64 0, .int .i64 0, .int .i64 0] 43)) w.heap.size #[.int .i64 0, .int .i64 0, .int .i64 0, .int .i64 0] 43) := Vb.new _ _ _
 go_enter Tryz.func94, Tryz.ntmps94
 go_wp2_with fail
 refine (next_any s0 (by omega) _).mono ?_
 rintro e w1 ⟨v1, rfl, h1, -, t1, s1⟩
 obtain ⟨l1, u1⟩ := h1 (by omega)
 clear h1
 go_wp2_with fail
 refine (next_any s1 (by omega) _).mono ?_
 rintro e w2 ⟨v2, rfl, h2, -, t2, s2⟩
 obtain ⟨l2, u2⟩ := h2 (by omega)
 have T2 : Hid (Turn b w w2) := (Turn.alloc b w _).trans (t1.trans t2)
 have V2 : Hid (Vb w2 w.heap.size #[.int .i64 0, .int .i64 0, .int .i64 0, .int .i64 0] 43) := (V0.out.turn t1 (by have := HH.out; omega)).turn t2 (by have := HH.out; omega)
 clear h2 t1 t2 s0 s1 V0
 have hv : v2 = 0 ∨ v2 = 1 ∨ v2 = 2 ∨ v2 = 3 ∨ v2 = 4 ∨ v2 = 5 ∨ v2 = 6 ∨ v2 = 7 ∨ v2 = 8 ∨ v2 = 9 ∨ v2 = 10 ∨ v2 = 11 ∨ v2 = 12 ∨ v2 = 13 := by omega
 clear l2 u2
 rcases hv with rfl | rfl | rfl | rfl | rfl | rfl | rfl | rfl | rfl | rfl | rfl | rfl | rfl | rfl
 ·skip
  go_wp2_with fail
  refine (next_any s2 (by omega) _).mono ?_
  rintro e w3 ⟨v3, rfl, h3, -, t3, s3⟩
  obtain ⟨l3, u3⟩ := h3 (by omega)
  have T3 : Hid (Turn b w w3) := T2.out.trans t3
  have V3 : Hid (Vb w3 w.heap.size #[.int .i64 0, .int .i64 0, .int .i64 0, .int .i64 0] 43) := V2.out.turn t3 (by have := HH.out; omega)
  clear h3 t3 T2 V2
  go_wp2_with fail
  refine (next_any s3 (by omega) _).mono ?_
  rintro e w4 ⟨v4, rfl, h4, -, t4, s4⟩
  obtain ⟨l4, u4⟩ := h4 (by omega)
  have T4 : Hid (Turn b w w4) := T3.out.trans t4
  have V4 : Hid (Vb w4 w.heap.size #[.int .i64 0, .int .i64 0, .int .i64 0, .int .i64 0] 43) := V3.out.turn t4 (by have := HH.out; omega)
  clear h4 t4 T3 V3
  go_wp2_with fail
  refine (next_any s4 (by omega) _).mono ?_
  rintro e w5 ⟨v5, rfl, h5, -, t5, s5⟩
  obtain ⟨l5, u5⟩ := h5 (by omega)
  have T5 : Hid (Turn b w w5) := T4.out.trans t5
  have V5 : Hid (Vb w5 w.heap.size #[.int .i64 0, .int .i64 0, .int .i64 0, .int .i64 0] 43) := V4.out.turn t5 (by have := HH.out; omega)
  clear h5 t5 T4 V4
  go_wp2_with fail
  refine (next_any s5 (by omega) _).mono ?_
  rintro e w6 ⟨v6, rfl, h6, -, t6, s6⟩
  obtain ⟨l6, u6⟩ := h6 (by omega)
  have T6 : Hid (Turn b w w6) := T5.out.trans t6
  have V6 : Hid (Vb w6 w.heap.size #[.int .i64 0, .int .i64 0, .int .i64 0, .int .i64 0] 43) := V5.out.turn t6 (by have := HH.out; omega)
  clear h6 t6 T5 V5
  go_wp2_with fail
  have hb7 := s6.here
  refine (pick_any (s6.alloc _) (by omega) (fun _ => True) _ 4 (by omega) (by omega) (by simp) (by omega) ?_).mono ?_
  ·intro i hi
   have : i = 0 ∨ i = 1 ∨ i = 2 ∨ i = 3 := by omega
   rcases this with rfl | rfl | rfl | rfl
   all_goals exact ⟨_, cell_new rfl, trivial⟩
  rintro e w7 ⟨v7, rfl, -, t7, s7⟩
  have T7 : Hid (Turn b w w7) := T6.out.trans ((Turn.alloc b _ _).trans t7)
  have V7 : Hid (Vb w7 w.heap.size #[.int .i64 0, .int .i64 0, .int .i64 0, .int .i64 0] 43) := (V6.out.push _).turn t7 (by have := HH.out; omega)
  clear t7 T6 V6 hb7
  have S7 : Hid (Src w7 b _ a len cap zs) := s7
  have k0 := V7.out.cell 0 rfl
  have k1 := V7.out.cell 1 rfl
  have k2 := V7.out.cell 2 rfl
  have k3 := V7.out.cell 3 rfl
  have f0 := V7.out.free 0
  have f1 := V7.out.free 1
  have f2 := V7.out.free 2
  have f3 := V7.out.free 3
  have sz := V7.out.lt
  clear s2 s3 s4 s5 s6 s7
  go_wp2_with fail
  exact bodyPost_ret (v := .agg #[.int .i64 (12), .int .i64 (1 + v1), .int .i64 (v3), .int .i64 (v7)]) (by simp [results, Tryz.results94, go_sem, k0, k1, k2, k3]) rfl ⟨_, _, _, _, _, rfl, (((T7.out.putC (p := ⟨w.heap.size, 0, none⟩) (Nat.le_refl _) _).putC (p := ⟨w.heap.size, 1, none⟩) (Nat.le_refl _) _).putC (p := ⟨w.heap.size, 2, none⟩) (Nat.le_refl _) _).putC (p := ⟨w.heap.size, 3, none⟩) (Nat.le_refl _) _, (((S7.out.putC (p := ⟨w.heap.size, 0, none⟩) HH.out _).putC (p := ⟨w.heap.size, 1, none⟩) HH.out _).putC (p := ⟨w.heap.size, 2, none⟩) HH.out _).putC (p := ⟨w.heap.size, 3, none⟩) HH.out _, by omega⟩
 ·skip
  go_wp2_with fail
  refine (next_any s2 (by omega) _).mono ?_
  rintro e w3 ⟨v3, rfl, h3, -, t3, s3⟩
  obtain ⟨l3, u3⟩ := h3 (by omega)
  have T3 : Hid (Turn b w w3) := T2.out.trans t3
  have V3 : Hid (Vb w3 w.heap.size #[.int .i64 0, .int .i64 0, .int .i64 0, .int .i64 0] 43) := V2.out.turn t3 (by have := HH.out; omega)
  clear h3 t3 T2 V2
  go_wp2_with fail
  refine (next_any s3 (by omega) _).mono ?_
  rintro e w4 ⟨v4, rfl, h4, -, t4, s4⟩
  obtain ⟨l4, u4⟩ := h4 (by omega)
  have T4 : Hid (Turn b w w4) := T3.out.trans t4
  have V4 : Hid (Vb w4 w.heap.size #[.int .i64 0, .int .i64 0, .int .i64 0, .int .i64 0] 43) := V3.out.turn t4 (by have := HH.out; omega)
  clear h4 t4 T3 V3
  go_wp2_with fail
  refine (next_any s4 (by omega) _).mono ?_
  rintro e w5 ⟨v5, rfl, h5, -, t5, s5⟩
  obtain ⟨l5, u5⟩ := h5 (by omega)
  have T5 : Hid (Turn b w w5) := T4.out.trans t5
  have V5 : Hid (Vb w5 w.heap.size #[.int .i64 0, .int .i64 0, .int .i64 0, .int .i64 0] 43) := V4.out.turn t5 (by have := HH.out; omega)
  clear h5 t5 T4 V4
  go_wp2_with fail
  refine (next_any s5 (by omega) _).mono ?_
  rintro e w6 ⟨v6, rfl, h6, -, t6, s6⟩
  obtain ⟨l6, u6⟩ := h6 (by omega)
  have T6 : Hid (Turn b w w6) := T5.out.trans t6
  have V6 : Hid (Vb w6 w.heap.size #[.int .i64 0, .int .i64 0, .int .i64 0, .int .i64 0] 43) := V5.out.turn t6 (by have := HH.out; omega)
  clear h6 t6 T5 V5
  go_wp2_with fail
  have hb7 := s6.here
  refine (pick_any (s6.alloc _) (by omega) (fun _ => True) _ 4 (by omega) (by omega) (by simp) (by omega) ?_).mono ?_
  ·intro i hi
   have : i = 0 ∨ i = 1 ∨ i = 2 ∨ i = 3 := by omega
   rcases this with rfl | rfl | rfl | rfl
   all_goals exact ⟨_, cell_new rfl, trivial⟩
  rintro e w7 ⟨v7, rfl, -, t7, s7⟩
  have T7 : Hid (Turn b w w7) := T6.out.trans ((Turn.alloc b _ _).trans t7)
  have V7 : Hid (Vb w7 w.heap.size #[.int .i64 0, .int .i64 0, .int .i64 0, .int .i64 0] 43) := (V6.out.push _).turn t7 (by have := HH.out; omega)
  clear t7 T6 V6 hb7
  have S7 : Hid (Src w7 b _ a len cap zs) := s7
  have k0 := V7.out.cell 0 rfl
  have k1 := V7.out.cell 1 rfl
  have k2 := V7.out.cell 2 rfl
  have k3 := V7.out.cell 3 rfl
  have f0 := V7.out.free 0
  have f1 := V7.out.free 1
  have f2 := V7.out.free 2
  have f3 := V7.out.free 3
  have sz := V7.out.lt
  clear s2 s3 s4 s5 s6 s7
  go_wp2_with fail
  exact bodyPost_ret (v := .agg #[.int .i64 (12), .int .i64 (1 + v1), .int .i64 (v3), .int .i64 (v7)]) (by simp [results, Tryz.results94, go_sem, k0, k1, k2, k3]) rfl ⟨_, _, _, _, _, rfl, (((T7.out.putC (p := ⟨w.heap.size, 0, none⟩) (Nat.le_refl _) _).putC (p := ⟨w.heap.size, 1, none⟩) (Nat.le_refl _) _).putC (p := ⟨w.heap.size, 2, none⟩) (Nat.le_refl _) _).putC (p := ⟨w.heap.size, 3, none⟩) (Nat.le_refl _) _, (((S7.out.putC (p := ⟨w.heap.size, 0, none⟩) HH.out _).putC (p := ⟨w.heap.size, 1, none⟩) HH.out _).putC (p := ⟨w.heap.size, 2, none⟩) HH.out _).putC (p := ⟨w.heap.size, 3, none⟩) HH.out _, by omega⟩
 ·skip
  go_wp2_with fail
  refine (next_any s2 (by omega) _).mono ?_
  rintro e w3 ⟨v3, rfl, h3, -, t3, s3⟩
  obtain ⟨l3, u3⟩ := h3 (by omega)
  have T3 : Hid (Turn b w w3) := T2.out.trans t3
  have V3 : Hid (Vb w3 w.heap.size #[.int .i64 0, .int .i64 0, .int .i64 0, .int .i64 0] 43) := V2.out.turn t3 (by have := HH.out; omega)
  clear h3 t3 T2 V2
  go_wp2_with fail
  refine (next_any s3 (by omega) _).mono ?_
  rintro e w4 ⟨v4, rfl, h4, -, t4, s4⟩
  obtain ⟨l4, u4⟩ := h4 (by omega)
  have T4 : Hid (Turn b w w4) := T3.out.trans t4
  have V4 : Hid (Vb w4 w.heap.size #[.int .i64 0, .int .i64 0, .int .i64 0, .int .i64 0] 43) := V3.out.turn t4 (by have := HH.out; omega)
  clear h4 t4 T3 V3
  go_wp2_with fail
  refine (next_any s4 (by omega) _).mono ?_
  rintro e w5 ⟨v5, rfl, h5, -, t5, s5⟩
  obtain ⟨l5, u5⟩ := h5 (by omega)
  have T5 : Hid (Turn b w w5) := T4.out.trans t5
  have V5 : Hid (Vb w5 w.heap.size #[.int .i64 0, .int .i64 0, .int .i64 0, .int .i64 0] 43) := V4.out.turn t5 (by have := HH.out; omega)
  clear h5 t5 T4 V4
  go_wp2_with fail
  refine (next_any s5 (by omega) _).mono ?_
  rintro e w6 ⟨v6, rfl, h6, -, t6, s6⟩
  obtain ⟨l6, u6⟩ := h6 (by omega)
  have T6 : Hid (Turn b w w6) := T5.out.trans t6
  have V6 : Hid (Vb w6 w.heap.size #[.int .i64 0, .int .i64 0, .int .i64 0, .int .i64 0] 43) := V5.out.turn t6 (by have := HH.out; omega)
  clear h6 t6 T5 V5
  go_wp2_with fail
  have hb7 := s6.here
  refine (pick_any (s6.alloc _) (by omega) (fun _ => True) _ 4 (by omega) (by omega) (by simp) (by omega) ?_).mono ?_
  ·intro i hi
   have : i = 0 ∨ i = 1 ∨ i = 2 ∨ i = 3 := by omega
   rcases this with rfl | rfl | rfl | rfl
   all_goals exact ⟨_, cell_new rfl, trivial⟩
  rintro e w7 ⟨v7, rfl, -, t7, s7⟩
  have T7 : Hid (Turn b w w7) := T6.out.trans ((Turn.alloc b _ _).trans t7)
  have V7 : Hid (Vb w7 w.heap.size #[.int .i64 0, .int .i64 0, .int .i64 0, .int .i64 0] 43) := (V6.out.push _).turn t7 (by have := HH.out; omega)
  clear t7 T6 V6 hb7
  have S7 : Hid (Src w7 b _ a len cap zs) := s7
  have k0 := V7.out.cell 0 rfl
  have k1 := V7.out.cell 1 rfl
  have k2 := V7.out.cell 2 rfl
  have k3 := V7.out.cell 3 rfl
  have f0 := V7.out.free 0
  have f1 := V7.out.free 1
  have f2 := V7.out.free 2
  have f3 := V7.out.free 3
  have sz := V7.out.lt
  clear s2 s3 s4 s5 s6 s7
  go_wp2_with fail
  exact bodyPost_ret (v := .agg #[.int .i64 (12), .int .i64 (1 + v1), .int .i64 (v3), .int .i64 (v7)]) (by simp [results, Tryz.results94, go_sem, k0, k1, k2, k3]) rfl ⟨_, _, _, _, _, rfl, (((T7.out.putC (p := ⟨w.heap.size, 0, none⟩) (Nat.le_refl _) _).putC (p := ⟨w.heap.size, 1, none⟩) (Nat.le_refl _) _).putC (p := ⟨w.heap.size, 2, none⟩) (Nat.le_refl _) _).putC (p := ⟨w.heap.size, 3, none⟩) (Nat.le_refl _) _, (((S7.out.putC (p := ⟨w.heap.size, 0, none⟩) HH.out _).putC (p := ⟨w.heap.size, 1, none⟩) HH.out _).putC (p := ⟨w.heap.size, 2, none⟩) HH.out _).putC (p := ⟨w.heap.size, 3, none⟩) HH.out _, by omega⟩
 ·skip
  go_wp2_with fail
  refine (next_any s2 (by omega) _).mono ?_
  rintro e w3 ⟨v3, rfl, h3, -, t3, s3⟩
  obtain ⟨l3, u3⟩ := h3 (by omega)
  have T3 : Hid (Turn b w w3) := T2.out.trans t3
  have V3 : Hid (Vb w3 w.heap.size #[.int .i64 0, .int .i64 0, .int .i64 0, .int .i64 0] 43) := V2.out.turn t3 (by have := HH.out; omega)
  clear h3 t3 T2 V2
  go_wp2_with fail
  refine (next_any s3 (by omega) _).mono ?_
  rintro e w4 ⟨v4, rfl, h4, -, t4, s4⟩
  obtain ⟨l4, u4⟩ := h4 (by omega)
  have T4 : Hid (Turn b w w4) := T3.out.trans t4
  have V4 : Hid (Vb w4 w.heap.size #[.int .i64 0, .int .i64 0, .int .i64 0, .int .i64 0] 43) := V3.out.turn t4 (by have := HH.out; omega)
  clear h4 t4 T3 V3
  go_wp2_with fail
  refine (next_any s4 (by omega) _).mono ?_
  rintro e w5 ⟨v5, rfl, h5, -, t5, s5⟩
  obtain ⟨l5, u5⟩ := h5 (by omega)
  have T5 : Hid (Turn b w w5) := T4.out.trans t5
  have V5 : Hid (Vb w5 w.heap.size #[.int .i64 0, .int .i64 0, .int .i64 0, .int .i64 0] 43) := V4.out.turn t5 (by have := HH.out; omega)
  clear h5 t5 T4 V4
  have S5 : Hid (Src w5 b _ a len cap zs) := s5
  have k0 := V5.out.cell 0 rfl
  have k1 := V5.out.cell 1 rfl
  have k2 := V5.out.cell 2 rfl
  have k3 := V5.out.cell 3 rfl
  have f0 := V5.out.free 0
  have f1 := V5.out.free 1
  have f2 := V5.out.free 2
  have f3 := V5.out.free 3
  have sz := V5.out.lt
  clear s2 s3 s4 s5
  go_wp2_with fail
  exact bodyPost_ret (v := .agg #[.int .i64 (1 + v3), .int .i64 (1 + v1), .int .i64 (v4), .int .i64 (v5)]) (by simp [results, Tryz.results94, go_sem, k0, k1, k2, k3]) rfl ⟨_, _, _, _, _, rfl, (((T5.out.putC (p := ⟨w.heap.size, 0, none⟩) (Nat.le_refl _) _).putC (p := ⟨w.heap.size, 1, none⟩) (Nat.le_refl _) _).putC (p := ⟨w.heap.size, 2, none⟩) (Nat.le_refl _) _).putC (p := ⟨w.heap.size, 3, none⟩) (Nat.le_refl _) _, (((S5.out.putC (p := ⟨w.heap.size, 0, none⟩) HH.out _).putC (p := ⟨w.heap.size, 1, none⟩) HH.out _).putC (p := ⟨w.heap.size, 2, none⟩) HH.out _).putC (p := ⟨w.heap.size, 3, none⟩) HH.out _, by omega⟩
 ·skip
  go_wp2_with fail
  refine (next_any s2 (by omega) _).mono ?_
  rintro e w3 ⟨v3, rfl, h3, -, t3, s3⟩
  obtain ⟨l3, u3⟩ := h3 (by omega)
  have T3 : Hid (Turn b w w3) := T2.out.trans t3
  have V3 : Hid (Vb w3 w.heap.size #[.int .i64 0, .int .i64 0, .int .i64 0, .int .i64 0] 43) := V2.out.turn t3 (by have := HH.out; omega)
  clear h3 t3 T2 V2
  go_wp2_with fail
  refine (next_any s3 (by omega) _).mono ?_
  rintro e w4 ⟨v4, rfl, h4, -, t4, s4⟩
  obtain ⟨l4, u4⟩ := h4 (by omega)
  have T4 : Hid (Turn b w w4) := T3.out.trans t4
  have V4 : Hid (Vb w4 w.heap.size #[.int .i64 0, .int .i64 0, .int .i64 0, .int .i64 0] 43) := V3.out.turn t4 (by have := HH.out; omega)
  clear h4 t4 T3 V3
  go_wp2_with fail
  refine (next_any s4 (by omega) _).mono ?_
  rintro e w5 ⟨v5, rfl, h5, -, t5, s5⟩
  obtain ⟨l5, u5⟩ := h5 (by omega)
  have T5 : Hid (Turn b w w5) := T4.out.trans t5
  have V5 : Hid (Vb w5 w.heap.size #[.int .i64 0, .int .i64 0, .int .i64 0, .int .i64 0] 43) := V4.out.turn t5 (by have := HH.out; omega)
  clear h5 t5 T4 V4
  go_wp2_with fail
  refine (next_any s5 (by omega) _).mono ?_
  rintro e w6 ⟨v6, rfl, h6, -, t6, s6⟩
  obtain ⟨l6, u6⟩ := h6 (by omega)
  have T6 : Hid (Turn b w w6) := T5.out.trans t6
  have V6 : Hid (Vb w6 w.heap.size #[.int .i64 0, .int .i64 0, .int .i64 0, .int .i64 0] 43) := V5.out.turn t6 (by have := HH.out; omega)
  clear h6 t6 T5 V5
  go_wp2_with fail
  have hb7 := s6.here
  refine (pick_any (s6.alloc _) (by omega) (fun _ => True) _ 3 (by omega) (by omega) (by simp) (by omega) ?_).mono ?_
  ·intro i hi
   have : i = 0 ∨ i = 1 ∨ i = 2 := by omega
   rcases this with rfl | rfl | rfl
   all_goals exact ⟨_, cell_new rfl, trivial⟩
  rintro e w7 ⟨v7, rfl, -, t7, s7⟩
  have T7 : Hid (Turn b w w7) := T6.out.trans ((Turn.alloc b _ _).trans t7)
  have V7 : Hid (Vb w7 w.heap.size #[.int .i64 0, .int .i64 0, .int .i64 0, .int .i64 0] 43) := (V6.out.push _).turn t7 (by have := HH.out; omega)
  clear t7 T6 V6 hb7
  have S7 : Hid (Src w7 b _ a len cap zs) := s7
  have k0 := V7.out.cell 0 rfl
  have k1 := V7.out.cell 1 rfl
  have k2 := V7.out.cell 2 rfl
  have k3 := V7.out.cell 3 rfl
  have f0 := V7.out.free 0
  have f1 := V7.out.free 1
  have f2 := V7.out.free 2
  have f3 := V7.out.free 3
  have sz := V7.out.lt
  clear s2 s3 s4 s5 s6 s7
  go_wp2_with fail
  exact bodyPost_ret (v := .agg #[.int .i64 (15), .int .i64 (1 + v1), .int .i64 (v3), .int .i64 (v7)]) (by simp [results, Tryz.results94, go_sem, k0, k1, k2, k3]) rfl ⟨_, _, _, _, _, rfl, (((T7.out.putC (p := ⟨w.heap.size, 0, none⟩) (Nat.le_refl _) _).putC (p := ⟨w.heap.size, 1, none⟩) (Nat.le_refl _) _).putC (p := ⟨w.heap.size, 2, none⟩) (Nat.le_refl _) _).putC (p := ⟨w.heap.size, 3, none⟩) (Nat.le_refl _) _, (((S7.out.putC (p := ⟨w.heap.size, 0, none⟩) HH.out _).putC (p := ⟨w.heap.size, 1, none⟩) HH.out _).putC (p := ⟨w.heap.size, 2, none⟩) HH.out _).putC (p := ⟨w.heap.size, 3, none⟩) HH.out _, by omega⟩
 ·skip
  go_wp2_with fail
  refine (next_any s2 (by omega) _).mono ?_
  rintro e w3 ⟨v3, rfl, h3, -, t3, s3⟩
  obtain ⟨l3, u3⟩ := h3 (by omega)
  have T3 : Hid (Turn b w w3) := T2.out.trans t3
  have V3 : Hid (Vb w3 w.heap.size #[.int .i64 0, .int .i64 0, .int .i64 0, .int .i64 0] 43) := V2.out.turn t3 (by have := HH.out; omega)
  clear h3 t3 T2 V2
  go_wp2_with fail
  refine (next_any s3 (by omega) _).mono ?_
  rintro e w4 ⟨v4, rfl, h4, -, t4, s4⟩
  obtain ⟨l4, u4⟩ := h4 (by omega)
  have T4 : Hid (Turn b w w4) := T3.out.trans t4
  have V4 : Hid (Vb w4 w.heap.size #[.int .i64 0, .int .i64 0, .int .i64 0, .int .i64 0] 43) := V3.out.turn t4 (by have := HH.out; omega)
  clear h4 t4 T3 V3
  go_wp2_with fail
  refine (next_any s4 (by omega) _).mono ?_
  rintro e w5 ⟨v5, rfl, h5, -, t5, s5⟩
  obtain ⟨l5, u5⟩ := h5 (by omega)
  have T5 : Hid (Turn b w w5) := T4.out.trans t5
  have V5 : Hid (Vb w5 w.heap.size #[.int .i64 0, .int .i64 0, .int .i64 0, .int .i64 0] 43) := V4.out.turn t5 (by have := HH.out; omega)
  clear h5 t5 T4 V4
  go_wp2_with fail
  refine (next_any s5 (by omega) _).mono ?_
  rintro e w6 ⟨v6, rfl, h6, -, t6, s6⟩
  obtain ⟨l6, u6⟩ := h6 (by omega)
  have T6 : Hid (Turn b w w6) := T5.out.trans t6
  have V6 : Hid (Vb w6 w.heap.size #[.int .i64 0, .int .i64 0, .int .i64 0, .int .i64 0] 43) := V5.out.turn t6 (by have := HH.out; omega)
  clear h6 t6 T5 V5
  go_wp2_with fail
  have hb7 := s6.here
  refine (pick_any (s6.alloc _) (by omega) (fun _ => True) _ 3 (by omega) (by omega) (by simp) (by omega) ?_).mono ?_
  ·intro i hi
   have : i = 0 ∨ i = 1 ∨ i = 2 := by omega
   rcases this with rfl | rfl | rfl
   all_goals exact ⟨_, cell_new rfl, trivial⟩
  rintro e w7 ⟨v7, rfl, -, t7, s7⟩
  have T7 : Hid (Turn b w w7) := T6.out.trans ((Turn.alloc b _ _).trans t7)
  have V7 : Hid (Vb w7 w.heap.size #[.int .i64 0, .int .i64 0, .int .i64 0, .int .i64 0] 43) := (V6.out.push _).turn t7 (by have := HH.out; omega)
  clear t7 T6 V6 hb7
  have S7 : Hid (Src w7 b _ a len cap zs) := s7
  have k0 := V7.out.cell 0 rfl
  have k1 := V7.out.cell 1 rfl
  have k2 := V7.out.cell 2 rfl
  have k3 := V7.out.cell 3 rfl
  have f0 := V7.out.free 0
  have f1 := V7.out.free 1
  have f2 := V7.out.free 2
  have f3 := V7.out.free 3
  have sz := V7.out.lt
  clear s2 s3 s4 s5 s6 s7
  go_wp2_with fail
  exact bodyPost_ret (v := .agg #[.int .i64 (15), .int .i64 (1 + v1), .int .i64 (v3), .int .i64 (v7)]) (by simp [results, Tryz.results94, go_sem, k0, k1, k2, k3]) rfl ⟨_, _, _, _, _, rfl, (((T7.out.putC (p := ⟨w.heap.size, 0, none⟩) (Nat.le_refl _) _).putC (p := ⟨w.heap.size, 1, none⟩) (Nat.le_refl _) _).putC (p := ⟨w.heap.size, 2, none⟩) (Nat.le_refl _) _).putC (p := ⟨w.heap.size, 3, none⟩) (Nat.le_refl _) _, (((S7.out.putC (p := ⟨w.heap.size, 0, none⟩) HH.out _).putC (p := ⟨w.heap.size, 1, none⟩) HH.out _).putC (p := ⟨w.heap.size, 2, none⟩) HH.out _).putC (p := ⟨w.heap.size, 3, none⟩) HH.out _, by omega⟩
 ·skip
  go_wp2_with fail
  refine (next_any s2 (by omega) _).mono ?_
  rintro e w3 ⟨v3, rfl, h3, -, t3, s3⟩
  obtain ⟨l3, u3⟩ := h3 (by omega)
  have T3 : Hid (Turn b w w3) := T2.out.trans t3
  have V3 : Hid (Vb w3 w.heap.size #[.int .i64 0, .int .i64 0, .int .i64 0, .int .i64 0] 43) := V2.out.turn t3 (by have := HH.out; omega)
  clear h3 t3 T2 V2
  go_wp2_with fail
  refine (next_any s3 (by omega) _).mono ?_
  rintro e w4 ⟨v4, rfl, h4, -, t4, s4⟩
  obtain ⟨l4, u4⟩ := h4 (by omega)
  have T4 : Hid (Turn b w w4) := T3.out.trans t4
  have V4 : Hid (Vb w4 w.heap.size #[.int .i64 0, .int .i64 0, .int .i64 0, .int .i64 0] 43) := V3.out.turn t4 (by have := HH.out; omega)
  clear h4 t4 T3 V3
  go_wp2_with fail
  refine (next_any s4 (by omega) _).mono ?_
  rintro e w5 ⟨v5, rfl, h5, -, t5, s5⟩
  obtain ⟨l5, u5⟩ := h5 (by omega)
  have T5 : Hid (Turn b w w5) := T4.out.trans t5
  have V5 : Hid (Vb w5 w.heap.size #[.int .i64 0, .int .i64 0, .int .i64 0, .int .i64 0] 43) := V4.out.turn t5 (by have := HH.out; omega)
  clear h5 t5 T4 V4
  go_wp2_with fail
  refine (next_any s5 (by omega) _).mono ?_
  rintro e w6 ⟨v6, rfl, h6, -, t6, s6⟩
  obtain ⟨l6, u6⟩ := h6 (by omega)
  have T6 : Hid (Turn b w w6) := T5.out.trans t6
  have V6 : Hid (Vb w6 w.heap.size #[.int .i64 0, .int .i64 0, .int .i64 0, .int .i64 0] 43) := V5.out.turn t6 (by have := HH.out; omega)
  clear h6 t6 T5 V5
  go_wp2_with fail
  have hb7 := s6.here
  refine (pick_any (s6.alloc _) (by omega) (fun _ => True) _ 3 (by omega) (by omega) (by simp) (by omega) ?_).mono ?_
  ·intro i hi
   have : i = 0 ∨ i = 1 ∨ i = 2 := by omega
   rcases this with rfl | rfl | rfl
   all_goals exact ⟨_, cell_new rfl, trivial⟩
  rintro e w7 ⟨v7, rfl, -, t7, s7⟩
  have T7 : Hid (Turn b w w7) := T6.out.trans ((Turn.alloc b _ _).trans t7)
  have V7 : Hid (Vb w7 w.heap.size #[.int .i64 0, .int .i64 0, .int .i64 0, .int .i64 0] 43) := (V6.out.push _).turn t7 (by have := HH.out; omega)
  clear t7 T6 V6 hb7
  have S7 : Hid (Src w7 b _ a len cap zs) := s7
  have k0 := V7.out.cell 0 rfl
  have k1 := V7.out.cell 1 rfl
  have k2 := V7.out.cell 2 rfl
  have k3 := V7.out.cell 3 rfl
  have f0 := V7.out.free 0
  have f1 := V7.out.free 1
  have f2 := V7.out.free 2
  have f3 := V7.out.free 3
  have sz := V7.out.lt
  clear s2 s3 s4 s5 s6 s7
  go_wp2_with fail
  exact bodyPost_ret (v := .agg #[.int .i64 (14), .int .i64 (1 + v1), .int .i64 (v3), .int .i64 (v7)]) (by simp [results, Tryz.results94, go_sem, k0, k1, k2, k3]) rfl ⟨_, _, _, _, _, rfl, (((T7.out.putC (p := ⟨w.heap.size, 0, none⟩) (Nat.le_refl _) _).putC (p := ⟨w.heap.size, 1, none⟩) (Nat.le_refl _) _).putC (p := ⟨w.heap.size, 2, none⟩) (Nat.le_refl _) _).putC (p := ⟨w.heap.size, 3, none⟩) (Nat.le_refl _) _, (((S7.out.putC (p := ⟨w.heap.size, 0, none⟩) HH.out _).putC (p := ⟨w.heap.size, 1, none⟩) HH.out _).putC (p := ⟨w.heap.size, 2, none⟩) HH.out _).putC (p := ⟨w.heap.size, 3, none⟩) HH.out _, by omega⟩
 ·skip
  go_wp2_with fail
  refine (next_any s2 (by omega) _).mono ?_
  rintro e w3 ⟨v3, rfl, h3, -, t3, s3⟩
  obtain ⟨l3, u3⟩ := h3 (by omega)
  have T3 : Hid (Turn b w w3) := T2.out.trans t3
  have V3 : Hid (Vb w3 w.heap.size #[.int .i64 0, .int .i64 0, .int .i64 0, .int .i64 0] 43) := V2.out.turn t3 (by have := HH.out; omega)
  clear h3 t3 T2 V2
  go_wp2_with fail
  refine (next_any s3 (by omega) _).mono ?_
  rintro e w4 ⟨v4, rfl, h4, -, t4, s4⟩
  obtain ⟨l4, u4⟩ := h4 (by omega)
  have T4 : Hid (Turn b w w4) := T3.out.trans t4
  have V4 : Hid (Vb w4 w.heap.size #[.int .i64 0, .int .i64 0, .int .i64 0, .int .i64 0] 43) := V3.out.turn t4 (by have := HH.out; omega)
  clear h4 t4 T3 V3
  go_wp2_with fail
  refine (next_any s4 (by omega) _).mono ?_
  rintro e w5 ⟨v5, rfl, h5, -, t5, s5⟩
  obtain ⟨l5, u5⟩ := h5 (by omega)
  have T5 : Hid (Turn b w w5) := T4.out.trans t5
  have V5 : Hid (Vb w5 w.heap.size #[.int .i64 0, .int .i64 0, .int .i64 0, .int .i64 0] 43) := V4.out.turn t5 (by have := HH.out; omega)
  clear h5 t5 T4 V4
  go_wp2_with fail
  refine (next_any s5 (by omega) _).mono ?_
  rintro e w6 ⟨v6, rfl, h6, -, t6, s6⟩
  obtain ⟨l6, u6⟩ := h6 (by omega)
  have T6 : Hid (Turn b w w6) := T5.out.trans t6
  have V6 : Hid (Vb w6 w.heap.size #[.int .i64 0, .int .i64 0, .int .i64 0, .int .i64 0] 43) := V5.out.turn t6 (by have := HH.out; omega)
  clear h6 t6 T5 V5
  go_wp2_with fail
  have hb7 := s6.here
  refine (pick_any (s6.alloc _) (by omega) (fun _ => True) _ 3 (by omega) (by omega) (by simp) (by omega) ?_).mono ?_
  ·intro i hi
   have : i = 0 ∨ i = 1 ∨ i = 2 := by omega
   rcases this with rfl | rfl | rfl
   all_goals exact ⟨_, cell_new rfl, trivial⟩
  rintro e w7 ⟨v7, rfl, -, t7, s7⟩
  have T7 : Hid (Turn b w w7) := T6.out.trans ((Turn.alloc b _ _).trans t7)
  have V7 : Hid (Vb w7 w.heap.size #[.int .i64 0, .int .i64 0, .int .i64 0, .int .i64 0] 43) := (V6.out.push _).turn t7 (by have := HH.out; omega)
  clear t7 T6 V6 hb7
  have S7 : Hid (Src w7 b _ a len cap zs) := s7
  have k0 := V7.out.cell 0 rfl
  have k1 := V7.out.cell 1 rfl
  have k2 := V7.out.cell 2 rfl
  have k3 := V7.out.cell 3 rfl
  have f0 := V7.out.free 0
  have f1 := V7.out.free 1
  have f2 := V7.out.free 2
  have f3 := V7.out.free 3
  have sz := V7.out.lt
  clear s2 s3 s4 s5 s6 s7
  go_wp2_with fail
  exact bodyPost_ret (v := .agg #[.int .i64 (14), .int .i64 (1 + v1), .int .i64 (v3), .int .i64 (v7)]) (by simp [results, Tryz.results94, go_sem, k0, k1, k2, k3]) rfl ⟨_, _, _, _, _, rfl, (((T7.out.putC (p := ⟨w.heap.size, 0, none⟩) (Nat.le_refl _) _).putC (p := ⟨w.heap.size, 1, none⟩) (Nat.le_refl _) _).putC (p := ⟨w.heap.size, 2, none⟩) (Nat.le_refl _) _).putC (p := ⟨w.heap.size, 3, none⟩) (Nat.le_refl _) _, (((S7.out.putC (p := ⟨w.heap.size, 0, none⟩) HH.out _).putC (p := ⟨w.heap.size, 1, none⟩) HH.out _).putC (p := ⟨w.heap.size, 2, none⟩) HH.out _).putC (p := ⟨w.heap.size, 3, none⟩) HH.out _, by omega⟩
 ·skip
  go_wp2_with fail
  have hb3 := s2.here
  refine (pick_any (s2.alloc _) (by omega) (fun _ => True) _ 3 (by omega) (by omega) (by simp) (by omega) ?_).mono ?_
  ·intro i hi
   have : i = 0 ∨ i = 1 ∨ i = 2 := by omega
   rcases this with rfl | rfl | rfl
   all_goals exact ⟨_, cell_new rfl, trivial⟩
  rintro e w3 ⟨v3, rfl, -, t3, s3⟩
  have T3 : Hid (Turn b w w3) := T2.out.trans ((Turn.alloc b _ _).trans t3)
  have V3 : Hid (Vb w3 w.heap.size #[.int .i64 0, .int .i64 0, .int .i64 0, .int .i64 0] 43) := (V2.out.push _).turn t3 (by have := HH.out; omega)
  clear t3 T2 V2 hb3
  go_wp2_with fail
  refine (next_any s3 (by omega) _).mono ?_
  rintro e w4 ⟨v4, rfl, h4, -, t4, s4⟩
  obtain ⟨l4, u4⟩ := h4 (by omega)
  have T4 : Hid (Turn b w w4) := T3.out.trans t4
  have V4 : Hid (Vb w4 w.heap.size #[.int .i64 0, .int .i64 0, .int .i64 0, .int .i64 0] 43) := V3.out.turn t4 (by have := HH.out; omega)
  clear h4 t4 T3 V3
  go_wp2_with fail
  have hb5 := s4.here
  refine (pick_any (s4.alloc _) (by omega) (fun _ => True) _ 4 (by omega) (by omega) (by simp) (by omega) ?_).mono ?_
  ·intro i hi
   have : i = 0 ∨ i = 1 ∨ i = 2 ∨ i = 3 := by omega
   rcases this with rfl | rfl | rfl | rfl
   all_goals exact ⟨_, cell_new rfl, trivial⟩
  rintro e w5 ⟨v5, rfl, -, t5, s5⟩
  have T5 : Hid (Turn b w w5) := T4.out.trans ((Turn.alloc b _ _).trans t5)
  have V5 : Hid (Vb w5 w.heap.size #[.int .i64 0, .int .i64 0, .int .i64 0, .int .i64 0] 43) := (V4.out.push _).turn t5 (by have := HH.out; omega)
  clear t5 T4 V4 hb5
  have S5 : Hid (Src w5 b _ a len cap zs) := s5
  have k0 := V5.out.cell 0 rfl
  have k1 := V5.out.cell 1 rfl
  have k2 := V5.out.cell 2 rfl
  have k3 := V5.out.cell 3 rfl
  have f0 := V5.out.free 0
  have f1 := V5.out.free 1
  have f2 := V5.out.free 2
  have f3 := V5.out.free 3
  have sz := V5.out.lt
  clear s2 s3 s4 s5
  go_wp2_with fail
  exact bodyPost_ret (v := .agg #[.int .i64 (v3), .int .i64 (1 + v1), .int .i64 (v4), .int .i64 (v5)]) (by simp [results, Tryz.results94, go_sem, k0, k1, k2, k3]) rfl ⟨_, _, _, _, _, rfl, (((T5.out.putC (p := ⟨w.heap.size, 0, none⟩) (Nat.le_refl _) _).putC (p := ⟨w.heap.size, 1, none⟩) (Nat.le_refl _) _).putC (p := ⟨w.heap.size, 2, none⟩) (Nat.le_refl _) _).putC (p := ⟨w.heap.size, 3, none⟩) (Nat.le_refl _) _, (((S5.out.putC (p := ⟨w.heap.size, 0, none⟩) HH.out _).putC (p := ⟨w.heap.size, 1, none⟩) HH.out _).putC (p := ⟨w.heap.size, 2, none⟩) HH.out _).putC (p := ⟨w.heap.size, 3, none⟩) HH.out _, by omega⟩
 ·skip
  go_wp2_with fail
  have hb3 := s2.here
  refine (pick_any (s2.alloc _) (by omega) (fun _ => True) _ 7 (by omega) (by omega) (by simp) (by omega) ?_).mono ?_
  ·intro i hi
   have : i = 0 ∨ i = 1 ∨ i = 2 ∨ i = 3 ∨ i = 4 ∨ i = 5 ∨ i = 6 := by omega
   rcases this with rfl | rfl | rfl | rfl | rfl | rfl | rfl
   all_goals exact ⟨_, cell_new rfl, trivial⟩
  rintro e w3 ⟨v3, rfl, -, t3, s3⟩
  have T3 : Hid (Turn b w w3) := T2.out.trans ((Turn.alloc b _ _).trans t3)
  have V3 : Hid (Vb w3 w.heap.size #[.int .i64 0, .int .i64 0, .int .i64 0, .int .i64 0] 43) := (V2.out.push _).turn t3 (by have := HH.out; omega)
  clear t3 T2 V2 hb3
  have S3 : Hid (Src w3 b _ a len cap zs) := s3
  have k0 := V3.out.cell 0 rfl
  have k1 := V3.out.cell 1 rfl
  have k2 := V3.out.cell 2 rfl
  have k3 := V3.out.cell 3 rfl
  have f0 := V3.out.free 0
  have f1 := V3.out.free 1
  have f2 := V3.out.free 2
  have f3 := V3.out.free 3
  have sz := V3.out.lt
  clear s2 s3
  go_wp2_with fail
  exact bodyPost_ret (v := .agg #[.int .i64 (22), .int .i64 (0), .int .i64 (1 + v1), .int .i64 (v3)]) (by simp [results, Tryz.results94, go_sem, k0, k1, k2, k3]) rfl ⟨_, _, _, _, _, rfl, (((T3.out.putC (p := ⟨w.heap.size, 0, none⟩) (Nat.le_refl _) _).putC (p := ⟨w.heap.size, 1, none⟩) (Nat.le_refl _) _).putC (p := ⟨w.heap.size, 2, none⟩) (Nat.le_refl _) _).putC (p := ⟨w.heap.size, 3, none⟩) (Nat.le_refl _) _, (((S3.out.putC (p := ⟨w.heap.size, 0, none⟩) HH.out _).putC (p := ⟨w.heap.size, 1, none⟩) HH.out _).putC (p := ⟨w.heap.size, 2, none⟩) HH.out _).putC (p := ⟨w.heap.size, 3, none⟩) HH.out _, by omega⟩
 ·skip
  go_wp2_with fail
  refine (next_any s2 (by omega) _).mono ?_
  rintro e w3 ⟨v3, rfl, h3, -, t3, s3⟩
  obtain ⟨l3, u3⟩ := h3 (by omega)
  have T3 : Hid (Turn b w w3) := T2.out.trans t3
  have V3 : Hid (Vb w3 w.heap.size #[.int .i64 0, .int .i64 0, .int .i64 0, .int .i64 0] 43) := V2.out.turn t3 (by have := HH.out; omega)
  clear h3 t3 T2 V2
  have S3 : Hid (Src w3 b _ a len cap zs) := s3
  have k0 := V3.out.cell 0 rfl
  have k1 := V3.out.cell 1 rfl
  have k2 := V3.out.cell 2 rfl
  have k3 := V3.out.cell 3 rfl
  have f0 := V3.out.free 0
  have f1 := V3.out.free 1
  have f2 := V3.out.free 2
  have f3 := V3.out.free 3
  have sz := V3.out.lt
  clear s2 s3
  go_wp2_with fail
  exact bodyPost_ret (v := .agg #[.int .i64 (21), .int .i64 (1 + v1), .int .i64 (0), .int .i64 (v3)]) (by simp [results, Tryz.results94, go_sem, k0, k1, k2, k3]) rfl ⟨_, _, _, _, _, rfl, (((T3.out.putC (p := ⟨w.heap.size, 0, none⟩) (Nat.le_refl _) _).putC (p := ⟨w.heap.size, 1, none⟩) (Nat.le_refl _) _).putC (p := ⟨w.heap.size, 2, none⟩) (Nat.le_refl _) _).putC (p := ⟨w.heap.size, 3, none⟩) (Nat.le_refl _) _, (((S3.out.putC (p := ⟨w.heap.size, 0, none⟩) HH.out _).putC (p := ⟨w.heap.size, 1, none⟩) HH.out _).putC (p := ⟨w.heap.size, 2, none⟩) HH.out _).putC (p := ⟨w.heap.size, 3, none⟩) HH.out _, by omega⟩
 ·skip
  go_wp2_with fail
  have hb3 := s2.here
  refine (pick_any (s2.alloc _) (by omega) (fun _ => True) _ 2 (by omega) (by omega) (by simp) (by omega) ?_).mono ?_
  ·intro i hi
   have : i = 0 ∨ i = 1 := by omega
   rcases this with rfl | rfl
   all_goals exact ⟨_, cell_new rfl, trivial⟩
  rintro e w3 ⟨v3, rfl, -, t3, s3⟩
  have T3 : Hid (Turn b w w3) := T2.out.trans ((Turn.alloc b _ _).trans t3)
  have V3 : Hid (Vb w3 w.heap.size #[.int .i64 0, .int .i64 0, .int .i64 0, .int .i64 0] 43) := (V2.out.push _).turn t3 (by have := HH.out; omega)
  clear t3 T2 V2 hb3
  go_wp2_with fail
  have hb4 := s3.here
  refine (pick_any (s3.alloc _) (by omega) (fun _ => True) _ 3 (by omega) (by omega) (by simp) (by omega) ?_).mono ?_
  ·intro i hi
   have : i = 0 ∨ i = 1 ∨ i = 2 := by omega
   rcases this with rfl | rfl | rfl
   all_goals exact ⟨_, cell_new rfl, trivial⟩
  rintro e w4 ⟨v4, rfl, -, t4, s4⟩
  have T4 : Hid (Turn b w w4) := T3.out.trans ((Turn.alloc b _ _).trans t4)
  have V4 : Hid (Vb w4 w.heap.size #[.int .i64 0, .int .i64 0, .int .i64 0, .int .i64 0] 43) := (V3.out.push _).turn t4 (by have := HH.out; omega)
  clear t4 T3 V3 hb4
  have S4 : Hid (Src w4 b _ a len cap zs) := s4
  have k0 := V4.out.cell 0 rfl
  have k1 := V4.out.cell 1 rfl
  have k2 := V4.out.cell 2 rfl
  have k3 := V4.out.cell 3 rfl
  have f0 := V4.out.free 0
  have f1 := V4.out.free 1
  have f2 := V4.out.free 2
  have f3 := V4.out.free 3
  have sz := V4.out.lt
  clear s2 s3 s4
  go_wp2_with fail
  exact bodyPost_ret (v := .agg #[.int .i64 (19), .int .i64 (v3), .int .i64 (0), .int .i64 (v4)]) (by simp [results, Tryz.results94, go_sem, k0, k1, k2, k3]) rfl ⟨_, _, _, _, _, rfl, (((T4.out.putC (p := ⟨w.heap.size, 0, none⟩) (Nat.le_refl _) _).putC (p := ⟨w.heap.size, 1, none⟩) (Nat.le_refl _) _).putC (p := ⟨w.heap.size, 2, none⟩) (Nat.le_refl _) _).putC (p := ⟨w.heap.size, 3, none⟩) (Nat.le_refl _) _, (((S4.out.putC (p := ⟨w.heap.size, 0, none⟩) HH.out _).putC (p := ⟨w.heap.size, 1, none⟩) HH.out _).putC (p := ⟨w.heap.size, 2, none⟩) HH.out _).putC (p := ⟨w.heap.size, 3, none⟩) HH.out _, by omega⟩
 ·skip
  go_wp2_with fail
  refine (ins_any s2 (by omega)).mono ?_
  rintro e w3 ⟨o3, d3, x3, i3, rfl, -, -, -, -, t3, s3⟩
  have T3 : Hid (Turn b w w3) := T2.out.trans t3
  have V3 : Hid (Vb w3 w.heap.size #[.int .i64 0, .int .i64 0, .int .i64 0, .int .i64 0] 43) := V2.out.turn t3 (by have := HH.out; omega)
  clear t3 T2 V2
  have S3 : Hid (Src w3 b _ a len cap zs) := s3
  have k0 := V3.out.cell 0 rfl
  have k1 := V3.out.cell 1 rfl
  have k2 := V3.out.cell 2 rfl
  have k3 := V3.out.cell 3 rfl
  have f0 := V3.out.free 0
  have f1 := V3.out.free 1
  have f2 := V3.out.free 2
  have f3 := V3.out.free 3
  have sz := V3.out.lt
  clear s2 s3
  go_wp2_with fail
  exact bodyPost_ret (v := .agg #[.int .i64 (o3), .int .i64 (d3), .int .i64 (x3), .int .i64 (i3)]) (by simp [results, Tryz.results94, go_sem, k0, k1, k2, k3]) rfl ⟨_, _, _, _, _, rfl, (((T3.out.putC (p := ⟨w.heap.size, 0, none⟩) (Nat.le_refl _) _).putC (p := ⟨w.heap.size, 1, none⟩) (Nat.le_refl _) _).putC (p := ⟨w.heap.size, 2, none⟩) (Nat.le_refl _) _).putC (p := ⟨w.heap.size, 3, none⟩) (Nat.le_refl _) _, (((S3.out.putC (p := ⟨w.heap.size, 0, none⟩) HH.out _).putC (p := ⟨w.heap.size, 1, none⟩) HH.out _).putC (p := ⟨w.heap.size, 2, none⟩) HH.out _).putC (p := ⟨w.heap.size, 3, none⟩) HH.out _, by omega⟩
 ·skip
  go_wp2_with fail
  refine (ins_any s2 (by omega)).mono ?_
  rintro e w3 ⟨o3, d3, x3, i3, rfl, -, -, -, -, t3, s3⟩
  have T3 : Hid (Turn b w w3) := T2.out.trans t3
  have V3 : Hid (Vb w3 w.heap.size #[.int .i64 0, .int .i64 0, .int .i64 0, .int .i64 0] 43) := V2.out.turn t3 (by have := HH.out; omega)
  clear t3 T2 V2
  have S3 : Hid (Src w3 b _ a len cap zs) := s3
  have k0 := V3.out.cell 0 rfl
  have k1 := V3.out.cell 1 rfl
  have k2 := V3.out.cell 2 rfl
  have k3 := V3.out.cell 3 rfl
  have f0 := V3.out.free 0
  have f1 := V3.out.free 1
  have f2 := V3.out.free 2
  have f3 := V3.out.free 3
  have sz := V3.out.lt
  clear s2 s3
  go_wp2_with fail
  exact bodyPost_ret (v := .agg #[.int .i64 (o3), .int .i64 (d3), .int .i64 (x3), .int .i64 (i3)]) (by simp [results, Tryz.results94, go_sem, k0, k1, k2, k3]) rfl ⟨_, _, _, _, _, rfl, (((T3.out.putC (p := ⟨w.heap.size, 0, none⟩) (Nat.le_refl _) _).putC (p := ⟨w.heap.size, 1, none⟩) (Nat.le_refl _) _).putC (p := ⟨w.heap.size, 2, none⟩) (Nat.le_refl _) _).putC (p := ⟨w.heap.size, 3, none⟩) (Nat.le_refl _) _, (((S3.out.putC (p := ⟨w.heap.size, 0, none⟩) HH.out _).putC (p := ⟨w.heap.size, 1, none⟩) HH.out _).putC (p := ⟨w.heap.size, 2, none⟩) HH.out _).putC (p := ⟨w.heap.size, 3, none⟩) HH.out _, by omega⟩
theorem Nums.empty (w : World) (base : Nat) (hb : base ≤ w.heap.size) : Nums (w.alloc (.cells #[] 2)) base (.slice (some ⟨w.heap.size, 0, none⟩) 0 0) [] :=
 World.ownsRow_lit w #[] 0 hb (by decide) rfl
theorem i_fault15 (a0 : Option Addr) (k0 : Nat) (a1 : Option Addr) (m1 k1 : Nat) (a2 : Option Addr) (m2 k2 : Nat) (a3 : Option Addr) (m3 k3 : Nat) (H : Ht) (w : World) :
  Calls Tryz.prog 10 #[.agg #[.slice a0 15 k0, .int .i64 H.pc, .slice a1 m1 k1, .bool H.halted, .bool H.waiting, .bool H.rung, .int .i64 H.done, .slice a2 m2 k2, .slice a3 m3 k3]] w fun e w' => e = .returned (.int .i64 1) ∧ Below w.heap.size w w' := by
 have B1 : Hid (Below w.heap.size w (w.alloc (.cells #[.slice a0 15 k0, .int .i64 H.pc, .slice a1 m1 k1, .bool H.halted, .bool H.waiting, .bool H.rung, .int .i64 H.done, .slice a2 m2 k2, .slice a3 m3 k3] 26))) := al (Below.refl _ _) _
 go_enter Tryz.func10, Tryz.ntmps10
 go_wp2_with fail
 go_ret
 exact ⟨rfl, by first | exact B1.out | exact al B1.out _⟩
theorem s_fault15 (q : Nat) (a0 : Option Addr) (k0 : Nat) (a1 : Option Addr) (m1 k1 : Nat) (a2 : Option Addr) (m2 k2 : Nat) (a3 : Option Addr) (m3 k3 : Nat) (H : Ht) (w : World) (hv : Vb w q #[.slice a0 15 k0, .int .i64 H.pc, .slice a1 m1 k1, .bool H.halted, .bool H.waiting, .bool H.rung, .int .i64 H.done, .slice a2 m2 k2, .slice a3 m3 k3] 26) :
  Calls Tryz.prog 54 #[.pointer (some ⟨q, 0, none⟩)] w fun e w' => e = .returned (.int .i64 1) ∧ Below w.heap.size w w' := by
 have v0 := hv.cell 0 rfl
 clear hv
 go_enter Tryz.func54, Tryz.ntmps54
 go_wp2_with fail
 go_ret
 exact ⟨rfl, Below.refl _ _⟩
theorem cell_g {w w' : World} {row : Option Nat} {p : Addr} {v : Value} (g : w.grownBy w' row) (h : w.cell? p = some v) (hne : some p.block ≠ row) : w'.cell? p = some v := cell_grown g h hne
theorem Nums.turn {w w' : World} {base b : Nat} {v : Value} {zs : List Int} (h : Nums w base v zs) (t : Turn b w w') (hb : b < base) : Nums w' base v zs := by
 refine h.kept (row := some b) ⟨t.os, t.tape, t.output, t.size, fun k hk hn => t.block k hk (fun e => hn (by rw [e]))⟩ (.inr fun e => ?_)
 have := (h.lt b e).1
 omega
theorem Turn.grownM {b : Nat} {w0 w w' : World} {row : Option Nat} (t : Turn b w0 w) (g : w.grownBy w' row) (hr : ∀ k, row = some k → w0.heap.size ≤ k) : Turn b w0 w' :=
 ⟨g.os.trans t.os, g.tape.trans t.tape, g.output.trans t.output, Nat.le_trans t.size g.size, fun k hk hb => (g.block k (Nat.lt_of_lt_of_le hk t.size) (fun e => by have := hr k e.symm; omega)).trans (t.block k hk hb)⟩
variable {w w' : World} {b k : Nat} {a : Option Addr} {len cap : Nat} {zs : List Int} {row : Option Nat}
theorem Src.grownM (s : Src w b k a len cap zs) (g : w.grownBy w' row) (hr : ∀ k, row = some k → b < k) : Src w' b k a len cap zs := by
 have h := s.here
 have hne : ∀ p : Nat, p ≤ b → some p ≠ row := fun p hp e => by have := hr p e.symm; omega
 refine ⟨cell_g g s.code (hne b (Nat.le_refl _)), cell_g g s.count (hne b (Nat.le_refl _)), ?_, ?_, s.away, Nat.lt_of_lt_of_le h g.size⟩
 ·rw [← s.free]
  exact World.frozen?_of_block (w := w) (g.block b h (hne b (Nat.le_refl _)))
 ·rcases s.row with h | ⟨x, rfl, h1, h2, h3, h4, h5⟩
  ·exact .inl h
  ·refine .inr ⟨x, rfl, h1, h2, h3, fun i hi => ?_, h5⟩
   have hx := s.away x rfl (by omega)
   exact cell_g g (h4 i hi) (by rw [src_block]; exact hne _ (by omega))
theorem field_mem (x y : Value) (w : World) : (Instr.field 97 (.agg #[x, y]) 1).run Tryz.prog w = .ok y w := by kernel_rfl
def DrawnM (w : World) (base : Nat) (v : Value) : Prop := (∃ zs, Nums w base v zs ∧ zs.length ≤ 200) ∨ ∃ a n cap, v = .slice a n cap ∧ n ≤ 200 ∧ formB n = false
variable {w : World} {b k : Nat} {a : Option Addr} {len cap : Nat} {zs : List Int}
theorem mem_any (s : Src w b k a len cap zs) (hk : k ≤ 50000) :
  Calls Tryz.prog 53 #[.pointer (some ⟨b, 0, none⟩)] w fun e w' => ∃ v k', e = .returned v ∧ DrawnM w' w.heap.size v ∧ k' ≤ k + 1000 ∧ Turn b w w' ∧ Src w' b k' a len cap zs := by
 have hfield := field_mem
 have HB : Hid (b < w.heap.size) := s.here
 go_enter Tryz.func53, Tryz.ntmps53
 go_wp2_with fail
 refine (next_any s (by omega) _).mono ?_
 rintro e w1 ⟨v1, rfl, h1, -, t1, s1⟩
 obtain ⟨l1, u1⟩ := h1 (by omega)
 clear h1
 obtain ⟨p, hp⟩ : ∃ p : Nat, 1 + v1 = p := ⟨(1 + v1).toNat, by omega⟩
 have hp1 : 1 ≤ (p : Int) ∧ (p : Int) ≤ 5 := by omega
 have fn := fun w => spec_new (p : Int) w
 rw [show newC (p : Int) = 0 by simp only [newC]; rw [if_pos (by omega)], show newZ (p : Int) = List.replicate (p * 8) 0 by simp only [newZ]; rw [if_pos (by omega), Int.toNat_natCast]] at fn
 have HP : Hid (1 ≤ p ∧ p ≤ 5) := ⟨by omega, by omega⟩
 have T1 := hid t1
 have S1 : Hid (Src w1 b _ a len cap zs) := s1
 clear t1 s1 hp1
 go_wp2_with fail
 refine (fn _).mono ?_
 rintro e w2 ⟨v, rfl, n2, b2⟩
 have N2 : Hid (Nums w2 w.heap.size v _) := n2.mono T1.out.size
 have T2 : Hid (Turn b w w2) := T1.out.trans (Turn.of_below b2)
 have S2 : Hid (Src w2 b (k + 1) a len cap zs) := S1.out.grownM (row := none) (below_grown b2 none) (by simp)
 clear n2 b2 fn
 obtain ⟨av, cv, rfl, _, _, hg⟩ := N2.out.shape
 obtain ⟨g, rfl⟩ := hg (by have := HP.out; simp; omega)
 rw [List.length_replicate] at N2 ⊢
 obtain ⟨n, hn⟩ : ∃ n, p * 8 = n := ⟨_, rfl⟩
 rw [hn] at N2 ⊢
 have HN := hid hn
 have hn40 : (n : Int) ≤ 40 := by have := HP.out; omega
 clear hn hg u1 l1 hp
 go_wp2_with fail
 go_loopw [4] (fun c wr => ∃ (j k' : Nat) (ms : List Int), j ≤ n ∧ c = .int .i64 j ∧ ms.length = n ∧ k' ≤ k + 1 + 6 * j ∧ Nums wr w.heap.size (.slice (some ⟨g, 0, none⟩) n cv) ms ∧ Turn b w wr ∧ Src wr b k' a len cap zs) (fun c _ => n - (intOf c).toNat)
 case atStart => exact ⟨0, k + 1, _, Nat.zero_le _, rfl, by simp, by omega, N2.out, T2.out, S2.out⟩
 case round =>
  obtain ⟨j, k', ms, hj, rfl, hms, hk', hN, hT, hS⟩ := hrel
  have NJ : Hid (Nums wr w.heap.size _ ms) := hN
  have TJ := hid hT
  have SJ := hid hS
  have HMS := hid hms
  have HK' : Hid (k' ≤ k + 1 + 6 * j ∧ k ≤ 50000 ∧ j ≤ n ∧ n ≤ 40) := ⟨hk', hk, hj, by omega⟩
  clear hN hT hS hms hk' N2 T2 S2
  by_cases hlt : j < n
  ·have hJ : (j : Int) < (n : Int) := by omega
   have HLT := hid hlt
   clear hlt
   go_wp2_with fail
   refine (chance_any SJ.out (by have := HK'.out; omega) _).mono ?_
   rintro e w3 ⟨c3, rfl, t3, s3⟩
   have N3 : Hid (Nums w3 w.heap.size _ ms) := NJ.out.turn t3 HB.out
   have T3 : Hid (Turn b w w3) := TJ.out.trans t3
   have S3 : Hid (Src w3 b _ a len cap zs) := s3
   clear t3 s3
   cases c3
   ·go_wp2_with fail
    go_roundw
    case rel => exact ⟨j + 1, k' + 1, ms, by have := HLT.out; omega, by go_num, HMS.out, by have := HK'.out; omega, N3.out, T3.out, S3.out⟩
    case measure => have := HLT.out; simp [intOf]; omega
   ·go_wp2_with fail
    refine (word_any S3.out (by have := HK'.out; omega)).mono ?_
    rintro e w4 ⟨v4, rfl, h4, t4, s4⟩
    have N4 : Hid (Nums w4 w.heap.size _ ms) := N3.out.turn t4 HB.out
    have T4 : Hid (Turn b w w4) := T3.out.trans t4
    have S4 : Hid (Src w4 b _ a len cap zs) := s4
    have c4 := N4.out.cell HMS.out.symm j HLT.out
    have f4 := N4.out.free HMS.out.symm j
    clear t4 s4
    go_wp2_with fail
    go_roundw
    case rel =>
     obtain ⟨m1, m2⟩ := N4.out.store j v4
     refine ⟨j + 1, k' + 1 + 5, ms.set j v4, by have := HLT.out; omega, by go_num, by rw [List.length_set]; exact HMS.out, by have := HK'.out; omega, m1, ?_, ?_⟩
     ·exact T4.out.grownM m2 (fun q hq => by have := (N4.out.lt q hq).1; omega)
     ·exact S4.out.grownM m2 (fun q hq => by have := (N4.out.lt q hq).1; have := HB.out; omega)
    case measure => have := HLT.out; simp [intOf]; omega
  ·have hJ : ¬ (j : Int) < (n : Int) := by omega
   clear hlt
   go_wp2_with fail
   refine (next_any SJ.out (by have := HK'.out; omega) _).mono ?_
   rintro e w3 ⟨v3, rfl, -, -, t3, s3⟩
   have N3 : Hid (Nums w3 w.heap.size _ ms) := NJ.out.turn t3 HB.out
   have T3 : Hid (Turn b w w3) := TJ.out.trans t3
   have S3 : Hid (Src w3 b _ a len cap zs) := s3
   clear t3 s3 NJ TJ SJ
   by_cases e0 : v3 = 0
   ·subst e0
    have hn1 : (1 : Int) ≤ (n : Int) := by have := HN.out; have := HP.out; omega
    have hcn : (n : Int) ≤ (cv : Int) := by have := N3.out.lens.1; omega
    have hc1 : ¬ cv = 1 := by have := N3.out.lens.1; have := HN.out; have := HP.out; omega
    go_wp2_with fail
    go_ret
    exact ⟨_, _, rfl, .inr ⟨_, _, _, rfl, by have := HK'.out; omega, by have := HN.out; have := HP.out; simp only [formB, decide_eq_false_iff_not]; omega⟩, by have := HK'.out; omega, T3.out, S3.out⟩
   by_cases e1 : v3 = 1
   ·subst e1
    go_wp2_with fail
    refine (next_any S3.out (by have := HK'.out; omega) _).mono ?_
    rintro e w4 ⟨v4, rfl, h4, -, t4, s4⟩
    have N4 : Hid (Nums w4 w.heap.size _ ms) := N3.out.turn t4 HB.out
    have T4 : Hid (Turn b w w4) := T3.out.trans t4
    have S4 : Hid (Src w4 b _ a len cap zs) := s4
    obtain ⟨l4, u4⟩ := h4 (by have := HN.out; have := HP.out; omega)
    clear t4 s4 h4
    obtain ⟨q, rfl⟩ : ∃ q : Nat, v4 = q := ⟨v4.toNat, by omega⟩
    go_wp2_with fail
    have hbb := S4.out.here
    refine (pick_any (S4.out.alloc _) (by have := HK'.out; omega) isWide _ 2 (by omega) (by omega) (by simp) (by omega) ?_).mono ?_
    ·intro i hi
     have : i = 0 ∨ i = 1 := by omega
     rcases this with rfl | rfl
     all_goals exact ⟨_, cell_new rfl, by unfold isWide; omega⟩
    rintro e w5 ⟨v5, rfl, -, t5, s5⟩
    have N5 : Hid (Nums w5 w.heap.size _ ms) := (N4.out.keep (al (Below.refl _ _) _)).turn t5 HB.out
    have T5 : Hid (Turn b w w5) := (T4.out.trans (Turn.alloc b w4 _)).trans t5
    have S5 : Hid (Src w5 b _ a len cap zs) := s5
    have HQ : Hid (q < n) := by show _ < _; omega
    have hqn : (q : Int) < (n : Int) := by omega
    have c5 := N5.out.cell HMS.out.symm q HQ.out
    have f5 := N5.out.free HMS.out.symm q
    clear t5 s5
    go_wp2_with fail
    go_ret
    obtain ⟨m1, m2⟩ := N5.out.store q v5
    refine ⟨_, _, rfl, .inl ⟨_, m1, by rw [List.length_set]; have := HMS.out; have := HK'.out; omega⟩, ?_, T5.out.grownM m2 (fun r hr => by have := (N5.out.lt r hr).1; omega), S5.out.grownM m2 (fun r hr => by have := (N5.out.lt r hr).1; have := HB.out; omega)⟩
    have := HK'.out
    omega
   by_cases e2 : v3 = 2
   ·subst e2
    obtain ⟨ii, hi, hz0, hz1, hz2⟩ := info_parts info_i64
    go_wp2_with (at_make; refine wpList_make_full _ rfl _ _ 24 rfl w.heap.size 2 ii _ 1 Tryz.underlying24 hi hz0 hz1 _ _ _ _ 200 rfl rfl rfl rfl (by rw [hz2]; omega) (by unfold maxLen; omega) T3.out.size ?_; intro w4 hown hgrow)
    have N4 : Hid (Nums w4 w.heap.size _ (List.replicate 200 0)) := Nums.made hown (by rw [Nat.mul_one, show (Value.int .i64 0).cells = #[.int .i64 0] from rfl, toList_madeCells_one, List.map_replicate])
    have T4 : Hid (Turn b w w4) := T3.out.grownM hgrow (by simp)
    have S4 : Hid (Src w4 b _ a len cap zs) := S3.out.grownM hgrow (by simp)
    clear hown hgrow
    go_wp2_with fail
    go_ret
    exact ⟨_, _, rfl, .inl ⟨_, N4.out, by rw [List.length_replicate]; exact Nat.le_refl _⟩, by have := HK'.out; omega, T4.out, S4.out⟩
   ·have g0 : (v3 == 0) = false := beq_eq_false_iff_ne.2 e0
    have g1 : (v3 == 1) = false := beq_eq_false_iff_ne.2 e1
    have g2 : (v3 == 2) = false := beq_eq_false_iff_ne.2 e2
    clear e0 e1 e2
    go_wp2_with fail
    go_ret
    exact ⟨_, _, rfl, .inl ⟨_, N3.out, by have := HMS.out; have := HK'.out; omega⟩, by have := HK'.out; omega, T3.out, S3.out⟩
theorem Turn.grown {b : Nat} {w w' : World} (t : Turn b w w') : w.grownBy w' (some b) := ⟨t.os, t.tape, t.output, t.size, fun k hk hn => t.block k hk (fun e => hn (by rw [e]))⟩
theorem Prs.turn {e : TypeId} {w w' : World} {base b : Nat} {v : Value} {rs : List (Int × Int)} (h : Prs e w base v rs) (t : Turn b w w') (hb : b < base) : Prs e w' base v rs :=
 h.kept t.grown (.inr fun e => by have := (h.lt b e).1; omega)
theorem Prs.empty {w : World} (base g : Nat) (h : w.heap[g]? = some (.cells #[] 36 (0, 0))) (hb : base ≤ g) : Prs 36 w base (.slice (some ⟨g, 0, none⟩) 0 0) [] :=
 ⟨rfl, .inr ⟨g, 0, #[], rfl, hb, h, Nat.le_refl _, by decide, rfl, rfl⟩⟩
theorem Turn.of_grown {b base : Nat} {a w w' : World} {v : Value} {rs : List (Int × Int)} {e : TypeId} (t : Turn b a w) (h : Prs e w base v rs) (hb : a.heap.size ≤ base) (g : w.grownBy w' v.ownBlock) : Turn b a w' :=
 ⟨g.os.trans t.os, g.tape.trans t.tape, g.output.trans t.output, Nat.le_trans t.size g.size, fun k hk hn => by
  rw [g.block k (Nat.lt_of_lt_of_le hk t.size) (fun e => by have := (h.lt k e.symm).1; omega)]
  exact t.block k hk hn⟩
variable {w w' : World} {b k : Nat} {a : Option Addr} {len cap : Nat} {zs : List Int} {row : Option Nat}
theorem Src.gr (s : Src w b k a len cap zs) (g : w.grownBy w' row) (hn : ∀ x, x ≤ b → some x ≠ row) : Src w' b k a len cap zs := by
 have hh := s.here
 refine ⟨cell_grown g s.code (hn b (Nat.le_refl _)), cell_grown g s.count (hn b (Nat.le_refl _)), ?_, ?_, s.away, Nat.lt_of_lt_of_le hh g.size⟩
 ·rw [World.frozen?_of_block (w := w) (g.block b hh (hn b (Nat.le_refl _)))]; exact s.free
 ·rcases s.row with h0 | ⟨x, rfl, h1, h2, h3, h4, h5⟩
  ·exact .inl h0
  ·refine .inr ⟨x, rfl, h1, h2, h3, fun i hi => cell_grown g (h4 i hi) ?_, h5⟩
   have hx := s.away x rfl (by omega)
   rw [src_block]
   exact hn _ (by omega)
theorem Src.grown {w w' : World} {b k base : Nat} {a : Option Addr} {len cap : Nat} {zs : List Int} {v : Value} {rs : List (Int × Int)} {e : TypeId} (s : Src w b k a len cap zs) (h : Prs e w base v rs) (hb : b < base) (g : w.grownBy w' v.ownBlock) : Src w' b k a len cap zs :=
 s.gr g fun x hx e => by have := (h.lt x e.symm).1; omega
variable {w : World} {b k : Nat} {a : Option Addr} {len cap : Nat} {zs : List Int}
theorem Src.put (s : Src w b k a len cap zs) (p : Addr) (u : Value) (hp : b < p.block) : Src (w.setCell p u) b k a len cap zs :=
 s.gr (grown_set w p u) fun x hx e => by have := Option.some.inj e; omega
theorem Turn.put {b : Nat} {a w : World} (t : Turn b a w) (p : Addr) (u : Value) (hp : a.heap.size ≤ p.block) : Turn b a (w.setCell p u) :=
 ⟨t.os, t.tape, t.output, by have := t.size; simpa [World.setCell] using this, fun k hk hn => by rw [heap_setCell_other w p k u (by omega)]; exact t.block k hk hn⟩
theorem cell_at {w : World} {cs : Array Value} {t : TypeId} {i n : Nat} {v : Value} (hn : w.heap.size = n) (h : cs[i]? = some v) : (w.alloc (.cells cs t)).cell? ⟨n, i, none⟩ = some v := by
 subst hn
 exact cell_new h
theorem pages_any (s : Src w b k a len cap zs) (hk : k ≤ 90000) (top : Int) :
  Calls Tryz.prog 92 #[.pointer (some ⟨b, 0, none⟩), .int .i64 top] w fun e w' => ∃ (v : Value) (rs : List (Int × Int)), e = .returned v ∧ rs.length = 8 ∧ Prs 36 w' w.heap.size v rs ∧ Turn b w w' ∧ Src w' b (k + 24) a len cap zs := by
 have hb := s.here
 have HS := hid s
 have HK := hid hk
 clear s hk
 go_enter Tryz.func92, Tryz.ntmps92
 go_wp2_with fail
 go_loopw [5, 6, 7] (fun y c _ wr => ∃ (j : Nat) (rs : List (Int × Int)), j ≤ 8 ∧ c = .int .i64 j ∧ rs.length = j ∧ Prs 36 wr w.heap.size y rs ∧ Turn b w wr ∧ Src wr b (k + 3 * j) a len cap zs) (fun _ c _ _ => 8 - (intOf c).toNat)
 case atStart => exact ⟨0, [], Nat.zero_le _, rfl, rfl, Prs.empty _ _ (heap_alloc_new _ _) (Nat.le_refl _), Turn.alloc _ _ _, HS.out.alloc _⟩
 case round =>
  obtain ⟨j, rs, hj, rfl, hl, hP, hT, hS⟩ := hrel
  have PB : Hid (Prs 36 wr w.heap.size _ rs) := hP
  have TB := hid hT
  have SB := hid hS
  have LR := hid hl
  obtain ⟨ya, yc, rfl, _, _, _⟩ := hP.shape
  generalize hun : rs.length = un at *
  clear hP hT hS
  by_cases hlt : j < 8
  ·have hI : (j : Int) < 8 := by omega
   have HL := hid hlt
   clear hlt hl
   go_wp2_with fail
   refine (next_any SB.out (by have := HK.out; omega) _).mono ?_
   rintro e w2 ⟨v2, rfl, -, -, t2, s2⟩
   go_wp2_with fail
   have h2 := s2.here
   refine (pick_any (s2.alloc _) (by have := HK.out; omega) (fun _ => True) _ 6 (by omega) (by omega) (by simp) (by omega) ?_).mono ?_
   ·intro i hi
    have : i = 0 ∨ i = 1 ∨ i = 2 ∨ i = 3 ∨ i = 4 ∨ i = 5 := by omega
    rcases this with rfl | rfl | rfl | rfl | rfl | rfl
    all_goals exact ⟨_, cell_new rfl, trivial⟩
   rintro e w3 ⟨v3, rfl, -, t3, s3⟩
   have T3 : Hid (Turn b wr w3) := t2.trans ((Turn.alloc _ w2 _).trans t3)
   have S3 := hid s3
   have h3 := s3.here
   clear t2 s2 t3 s3
   go_wp2_with fail
   refine (chance_any (S3.out.alloc _) (by have := HK.out; omega) _).mono ?_
   rintro e w4 ⟨v4, rfl, t4, s4⟩
   have q0 : w4.cell? ⟨w3.heap.size, 0, none⟩ = some (.int .i64 v2) := by rw [t4.cell (p := ⟨w3.heap.size, 0, none⟩) (by simp) (by show w3.heap.size ≠ b; omega)]; exact cell_new rfl
   have q1 : w4.cell? ⟨w3.heap.size, 1, none⟩ = some (.int .i64 v3) := by rw [t4.cell (p := ⟨w3.heap.size, 1, none⟩) (by simp) (by show w3.heap.size ≠ b; omega)]; exact cell_new rfl
   have z0 : w4.frozen? ⟨w3.heap.size, 0, none⟩ = false := by rw [t4.frozen (p := ⟨w3.heap.size, 0, none⟩) (by simp) (by show w3.heap.size ≠ b; omega)]; simp
   have z1 : w4.frozen? ⟨w3.heap.size, 1, none⟩ = false := by rw [t4.frozen (p := ⟨w3.heap.size, 1, none⟩) (by simp) (by show w3.heap.size ≠ b; omega)]; simp
   have T4 : Hid (Turn b wr w4) := T3.out.trans ((Turn.alloc _ w3 _).trans t4)
   have S4 : Hid (Src w4 b (k + 3 * (j + 1)) a len cap zs) := by
    show Src _ _ _ _ _ _ _
    have : k + 3 * (j + 1) = k + 3 * j + 1 + 1 + 1 := by omega
    rw [this]
    exact s4
   have s34 : w3.heap.size < w4.heap.size := block_of_cell q0
   have sW : w.heap.size ≤ w3.heap.size := Nat.le_trans TB.out.size T3.out.size
   have SW : Hid (w.heap.size ≤ w3.heap.size ∧ w3.heap.size < w4.heap.size) := ⟨sW, s34⟩
   have SWR : Hid (wr.heap.size ≤ w3.heap.size) := T3.out.size
   have P4 := hid (PB.out.turn T4.out hb)
   have TT4 : Hid (Turn b w w4) := TB.out.trans T4.out
   clear t4 s4 S3 T3 T4
   cases v4
   ·go_wp2_with (at_builtin; refine wp_pair 27 36 Tryz.underlying27 info_page _ rfl _ _ rfl w.heap.size _ _ rfl (P4.out.keep (al (Below.refl _ _) _)) _ v2 v3 rfl (cell_new rfl) (cell_new rfl) (by rw [hun]; have := LR.out; have := HL.out; omega) (by have := SW.out; simp; omega) ?_; intro v' w' hP' hG')
    have PP : Hid (Prs 36 w' w.heap.size v' (rs ++ [(v2, v3)])) := hP'
    have TP : Hid (Turn b w w') := (TT4.out.trans (Turn.alloc _ _ _)).of_grown (P4.out.keep (al (Below.refl _ _) _)) (Nat.le_refl _) hG'
    have SP : Hid (Src w' b (k + 3 * (j + 1)) a len cap zs) := (S4.out.alloc _).grown (P4.out.keep (al (Below.refl _ _) _)) hb hG'
    clear hP' hG'
    go_wp2_with fail
    go_roundw
    case rel => exact ⟨j + 1, _, by have := HL.out; omega, by go_num, by rw [List.length_append, hun]; simp; exact LR.out, PP.out, TP.out, SP.out⟩
    case measure => have := HL.out; simp [intOf]; omega
   ·go_wp2_with fail
    refine (spec_none _).mono ?_
    rintro e w5 ⟨rfl, b5⟩
    have q0 := cell_keep b5 q0
    have q1 := cell_keep b5 q1
    have z0 : w5.frozen? ⟨w3.heap.size, 0, none⟩ = false := by rw [b5.frozen (p := ⟨w3.heap.size, 0, none⟩) s34]; exact z0
    have z1 : w5.frozen? ⟨w3.heap.size, 1, none⟩ = false := by rw [b5.frozen (p := ⟨w3.heap.size, 1, none⟩) s34]; exact z1
    have P5 := hid (P4.out.keep b5)
    have hnp : Hid ((Value.slice ya un yc).ownBlock ≠ some w3.heap.size) := fun e => by
     have := (PB.out.lt _ e).2
     have := SWR.out
     omega
    have PQ : Hid (Prs 36 ((w5.setCell ⟨w3.heap.size, 0, none⟩ (.int .i64 (-1))).setCell ⟨w3.heap.size, 1, none⟩ (.int .i64 0)) w.heap.size (.slice ya un yc) rs) := (P5.out.put _ _ hnp.out).put _ _ hnp.out
    have TQ : Hid (Turn b w ((w5.setCell ⟨w3.heap.size, 0, none⟩ (.int .i64 (-1))).setCell ⟨w3.heap.size, 1, none⟩ (.int .i64 0))) := ((TT4.out.trans (Turn.of_below b5)).put _ _ sW).put _ _ sW
    have SQ : Hid (Src ((w5.setCell ⟨w3.heap.size, 0, none⟩ (.int .i64 (-1))).setCell ⟨w3.heap.size, 1, none⟩ (.int .i64 0)) b (k + 3 * (j + 1)) a len cap zs) := ((S4.out.turn (Turn.of_below (b := w4.heap.size) b5) (Nat.le_refl _)).put _ _ h3).put _ _ h3
    have s5 : Hid (w3.heap.size < w5.heap.size) := block_of_cell q0
    clear b5
    go_wp2_with (at_builtin; refine wp_pair 27 36 Tryz.underlying27 info_page _ rfl _ _ rfl w.heap.size _ _ rfl (PQ.out.keep (al (Below.refl _ _) _)) _ (-1) 0 rfl (cell_at (by simp) rfl) (cell_at (by simp) rfl) (by rw [hun]; have := LR.out; have := HL.out; omega) (by have := SW.out; have := s5.out; simp; omega) ?_; intro v' w' hP' hG')
    have PP : Hid (Prs 36 w' w.heap.size v' (rs ++ [(-1, 0)])) := hP'
    have TP : Hid (Turn b w w') := (TQ.out.trans (Turn.alloc _ _ _)).of_grown (PQ.out.keep (al (Below.refl _ _) _)) (Nat.le_refl _) hG'
    have SP : Hid (Src w' b (k + 3 * (j + 1)) a len cap zs) := (SQ.out.alloc _).grown (PQ.out.keep (al (Below.refl _ _) _)) hb hG'
    clear hP' hG'
    go_wp2_with fail
    go_roundw
    case rel => exact ⟨j + 1, _, by have := HL.out; omega, by go_num, by rw [List.length_append, hun]; simp; exact LR.out, PP.out, TP.out, SP.out⟩
    case measure => have := HL.out; simp [intOf]; omega
  ·have hI : ¬ (j : Int) < 8 := by omega
   obtain rfl : j = 8 := by omega
   obtain rfl : un = 8 := LR.out
   have HUN := hid hun
   clear hun hl
   go_wp2_with fail
   go_ret
   exact ⟨_, rfl, rs, HUN.out, PB.out, TB.out, SB.out⟩
theorem s_copyX (r c i o : Value) (H : Ht) (b : Nat) (w : World) (h : Hm w b r c i o H) (h0 : H.regs.length ≤ 1000) (h1 : H.csr.length ≤ 1000) (h2 : H.inn.length ≤ 1000) (h3 : H.out.length ≤ 1000) :
  Calls Tryz.prog 58 #[.agg #[r, .int .i64 H.pc, c, .bool H.halted, .bool H.waiting, .bool H.rung, .int .i64 H.done, i, o]] w fun e w' => ∃ r' c' i' o', e = .returned (.agg #[r', .int .i64 H.pc, c', .bool H.halted, .bool H.waiting, .bool H.rung, .int .i64 H.done, i', o']) ∧ Hm w' w.heap.size r' c' i' o' H ∧ Ha r' c' i' o' ∧ Below w.heap.size w w' ∧ ∃ bo, w.heap.size ≤ bo ∧ bo ≤ w'.heap.size ∧ Nums w' bo o' H.out ∧ ∀ k, (r'.ownBlock = some k ∨ c'.ownBlock = some k ∨ i'.ownBlock = some k) → k < bo := by
 have HM := hid h
 have HL : Hid (H.regs.length ≤ 1000 ∧ H.csr.length ≤ 1000 ∧ H.inn.length ≤ 1000 ∧ H.out.length ≤ 1000) := ⟨h0, h1, h2, h3⟩
 obtain ⟨a0, k0, rfl, _⟩ := h.r.shape
 obtain ⟨a1, k1, rfl, _⟩ := h.c.shape
 obtain ⟨a2, k2, rfl, _⟩ := h.i.shape
 obtain ⟨a3, k3, rfl, _⟩ := h.o.shape
 clear h h0 h1 h2 h3
 generalize hW : (w.alloc (.cells #[.slice a0 H.regs.length k0, .int .i64 H.pc, .slice a1 H.csr.length k1, .bool H.halted, .bool H.waiting, .bool H.rung, .int .i64 H.done, .slice a2 H.inn.length k2, .slice a3 H.out.length k3] 26)).alloc (.cells #[.slice none 0 0, .int .i64 0, .slice none 0 0, .bool false, .bool false, .bool false, .int .i64 0, .slice none 0 0, .slice none 0 0] 26) = v0
 have SZ : Hid (v0.heap.size = w.heap.size + 2) := by show _ = _; rw [← hW]; simp
 obtain ⟨s, hS⟩ : ∃ s, w.heap.size = s := ⟨_, rfl⟩
 have HSs := hid hS
 have T0 : Hid (Cy w v0 s #[.slice a0 H.regs.length k0, .int .i64 H.pc, .slice a1 H.csr.length k1, .bool H.halted, .bool H.waiting, .bool H.rung, .int .i64 H.done, .slice a2 H.inn.length k2, .slice a3 H.out.length k3]) := by
  have z1 : s + 1 = (w.alloc (.cells #[.slice a0 H.regs.length k0, .int .i64 H.pc, .slice a1 H.csr.length k1, .bool H.halted, .bool H.waiting, .bool H.rung, .int .i64 H.done, .slice a2 H.inn.length k2, .slice a3 H.out.length k3] 26)).heap.size := by rw [← hS]; simp
  refine ⟨?_, ?_, by rw [← hW]; exact al (al (Below.refl _ _) _) _, hS⟩
  ·rw [← hW, ← hS]; exact (Vb.new _ _ _).push _
  ·rw [← hW, z1]; exact Vb.new _ _ _
 have LO : Hid (∀ k, Own4 (.slice a0 H.regs.length k0) (.slice a1 H.csr.length k1) (.slice a2 H.inn.length k2) (.slice a3 H.out.length k3) k → k < s) := fun k e => by have := (HM.out.own k e).2; have := HSs.out; omega
 have Z0 : Hid (s + 2 ≤ v0.heap.size) := by show _ ≤ _; have := SZ.out; have := HSs.out; omega
 have q0 := T0.out.A.cell 0 rfl
 have ls := T0.out.A.lt
 go_enter Tryz.func58, Tryz.ntmps58
 go_upto_region 2 with (at_builtin; refine wp_appy _ rfl _ _ rfl v0.heap.size _ [] rfl (nums_none _ _ (Nat.le_refl _)) a0 H.regs.length k0 H.regs rfl ((HM.out.r.rn.stay T0.out.b).stay (al (Below.refl _ _) _)) (by have := HL.out.1; simp; omega) (by simp) ?_; intro x0 w1 n1 g1; have b1 : Below v0.heap.size v0 w1 := below_of_grown (al (Below.refl _ _) _) g1 (nums_none _ _ (Nat.le_refl _)) (Nat.le_refl _); rw [List.nil_append] at n1; obtain ⟨xa0, xk0, rfl, _⟩ := n1.shape; clear ls; have S1 := T0.out.keep b1; have ls := S1.A.lt; have o0 := S1.A.cell 0 rfl; have f0 := S1.A.free 0; have e2 := S1.A.cell 2 rfl; clear g1)
 have MB0 := hid n1
 have M0 : Hid (Nums w1 (s + 2) (.slice xa0 H.regs.length xk0) H.regs) := n1.mono Z0.out
 have T1 : Hid (Cy w (w1.setCell ⟨s, 0, none⟩ (.slice xa0 H.regs.length xk0)) s #[.slice xa0 H.regs.length xk0, .int .i64 H.pc, .slice a1 H.csr.length k1, .bool H.halted, .bool H.waiting, .bool H.rung, .int .i64 H.done, .slice a2 H.inn.length k2, .slice a3 H.out.length k3]) := S1.put 0 (.slice xa0 H.regs.length xk0)
 have H1 : Hid (Ho (s + 2) w1 (w1.setCell ⟨s, 0, none⟩ (.slice xa0 H.regs.length xk0))) := Ho.set _ _ _ (by show s < s + 2; omega)
 have Z1 : Hid (s + 2 ≤ (w1.setCell ⟨s, 0, none⟩ (.slice xa0 H.regs.length xk0)).heap.size) := (by have := T1.out.R.lt; show _ ≤ _; omega)
 have Y1 : Hid (w1.heap.size ≤ (w1.setCell ⟨s, 0, none⟩ (.slice xa0 H.regs.length xk0)).heap.size) := H1.out.size
 generalize (w1.setCell ⟨s, 0, none⟩ (.slice xa0 H.regs.length xk0)) = v1 at *
 clear S1 n1 b1 o0 f0 e2 q0 hW hS ls
 have ls := T1.out.A.lt
 have e2 := T1.out.A.cell 2 rfl
 go_upto_region 3 with (at_builtin; refine wp_appy _ rfl _ _ rfl v1.heap.size _ [] rfl (nums_none _ _ (Nat.le_refl _)) a1 H.csr.length k1 H.csr rfl ((HM.out.c.rn.stay T1.out.b).stay (al (Below.refl _ _) _)) (by have := HL.out.2.1; simp; omega) (by simp) ?_; intro x1 w2 n1 g1; have b1 : Below v1.heap.size v1 w2 := below_of_grown (al (Below.refl _ _) _) g1 (nums_none _ _ (Nat.le_refl _)) (Nat.le_refl _); rw [List.nil_append] at n1; obtain ⟨xa1, xk1, rfl, _⟩ := n1.shape; clear ls e2; have S1 := T1.out.keep b1; have ls := S1.A.lt; have o2 := S1.A.cell 2 rfl; have f2 := S1.A.free 2; have e7 := S1.A.cell 7 rfl; clear g1)
 have MB1 := hid n1
 have H12 : Hid (Ho (s + 2) w1 w2) := H1.out.trans (Ho.of b1)
 have M1 : Hid (Nums w2 (s + 2) (.slice xa1 H.csr.length xk1) H.csr) := n1.mono Z1.out
 have T2 : Hid (Cy w (w2.setCell ⟨s, 2, none⟩ (.slice xa1 H.csr.length xk1)) s #[.slice xa0 H.regs.length xk0, .int .i64 H.pc, .slice xa1 H.csr.length xk1, .bool H.halted, .bool H.waiting, .bool H.rung, .int .i64 H.done, .slice a2 H.inn.length k2, .slice a3 H.out.length k3]) := S1.put 2 (.slice xa1 H.csr.length xk1)
 have H2 : Hid (Ho (s + 2) w2 (w2.setCell ⟨s, 2, none⟩ (.slice xa1 H.csr.length xk1))) := Ho.set _ _ _ (by show s < s + 2; omega)
 have Z2 : Hid (s + 2 ≤ (w2.setCell ⟨s, 2, none⟩ (.slice xa1 H.csr.length xk1)).heap.size) := (by have := T2.out.R.lt; show _ ≤ _; omega)
 have Y2 : Hid (w2.heap.size ≤ (w2.setCell ⟨s, 2, none⟩ (.slice xa1 H.csr.length xk1)).heap.size) := H2.out.size
 generalize (w2.setCell ⟨s, 2, none⟩ (.slice xa1 H.csr.length xk1)) = v2 at *
 clear S1 n1 b1 o2 f2 e7 ls
 have ls := T2.out.A.lt
 have e7 := T2.out.A.cell 7 rfl
 go_upto_region 4 with (at_builtin; refine wp_appy _ rfl _ _ rfl v2.heap.size _ [] rfl (nums_none _ _ (Nat.le_refl _)) a2 H.inn.length k2 H.inn rfl ((HM.out.i.rn.stay T2.out.b).stay (al (Below.refl _ _) _)) (by have := HL.out.2.2.1; simp; omega) (by simp) ?_; intro x2 w3 n1 g1; have b1 : Below v2.heap.size v2 w3 := below_of_grown (al (Below.refl _ _) _) g1 (nums_none _ _ (Nat.le_refl _)) (Nat.le_refl _); rw [List.nil_append] at n1; obtain ⟨xa2, xk2, rfl, _⟩ := n1.shape; clear ls e7; have S1 := T2.out.keep b1; have ls := S1.A.lt; have o7 := S1.A.cell 7 rfl; have f7 := S1.A.free 7; have e8 := S1.A.cell 8 rfl; clear g1)
 have MB2 := hid n1
 have H23 : Hid (Ho (s + 2) w2 w3) := H2.out.trans (Ho.of b1)
 have M2 : Hid (Nums w3 (s + 2) (.slice xa2 H.inn.length xk2) H.inn) := n1.mono Z2.out
 have T3 : Hid (Cy w (w3.setCell ⟨s, 7, none⟩ (.slice xa2 H.inn.length xk2)) s #[.slice xa0 H.regs.length xk0, .int .i64 H.pc, .slice xa1 H.csr.length xk1, .bool H.halted, .bool H.waiting, .bool H.rung, .int .i64 H.done, .slice xa2 H.inn.length xk2, .slice a3 H.out.length k3]) := S1.put 7 (.slice xa2 H.inn.length xk2)
 have H3 : Hid (Ho (s + 2) w3 (w3.setCell ⟨s, 7, none⟩ (.slice xa2 H.inn.length xk2))) := Ho.set _ _ _ (by show s < s + 2; omega)
 have Z3 : Hid (s + 2 ≤ (w3.setCell ⟨s, 7, none⟩ (.slice xa2 H.inn.length xk2)).heap.size) := (by have := T3.out.R.lt; show _ ≤ _; omega)
 have Y3 : Hid (w3.heap.size ≤ (w3.setCell ⟨s, 7, none⟩ (.slice xa2 H.inn.length xk2)).heap.size) := H3.out.size
 generalize (w3.setCell ⟨s, 7, none⟩ (.slice xa2 H.inn.length xk2)) = v3 at *
 clear S1 n1 b1 o7 f7 e8 ls
 have ls := T3.out.A.lt
 have e8 := T3.out.A.cell 8 rfl
 go_upto_region 5 with (at_builtin; refine wp_appy _ rfl _ _ rfl v3.heap.size _ [] rfl (nums_none _ _ (Nat.le_refl _)) a3 H.out.length k3 H.out rfl ((HM.out.o.rn.stay T3.out.b).stay (al (Below.refl _ _) _)) (by have := HL.out.2.2.2; simp; omega) (by simp) ?_; intro x3 w4 n1 g1; have b1 : Below v3.heap.size v3 w4 := below_of_grown (al (Below.refl _ _) _) g1 (nums_none _ _ (Nat.le_refl _)) (Nat.le_refl _); rw [List.nil_append] at n1; obtain ⟨xa3, xk3, rfl, _⟩ := n1.shape; clear ls e8; have S1 := T3.out.keep b1; have ls := S1.A.lt; have o8 := S1.A.cell 8 rfl; have f8 := S1.A.free 8; have r0 := S1.R.cell 0 rfl; have y0 := S1.R.free 0; have r1 := S1.R.cell 1 rfl; have y1 := S1.R.free 1; have r2 := S1.R.cell 2 rfl; have y2 := S1.R.free 2; have r3 := S1.R.cell 3 rfl; have y3 := S1.R.free 3; have r4 := S1.R.cell 4 rfl; have y4 := S1.R.free 4; have r5 := S1.R.cell 5 rfl; have y5 := S1.R.free 5; have r6 := S1.R.cell 6 rfl; have y6 := S1.R.free 6; have r7 := S1.R.cell 7 rfl; have y7 := S1.R.free 7; have r8 := S1.R.cell 8 rfl; have y8 := S1.R.free 8; have l0 := S1.A.cell 0 rfl; have l1 := S1.A.cell 1 rfl; have l2 := S1.A.cell 2 rfl; have l3 := S1.A.cell 3 rfl; have l4 := S1.A.cell 4 rfl; have l5 := S1.A.cell 5 rfl; have l6 := S1.A.cell 6 rfl; have l7 := S1.A.cell 7 rfl; clear g1)
 have MB3 := hid n1
 have YY : Hid (v3.heap.size ≤ w4.heap.size) := b1.size
 have H34 : Hid (Ho (s + 2) w3 w4) := H3.out.trans (Ho.of b1)
 have M3 : Hid (Nums w4 (s + 2) (.slice xa3 H.out.length xk3) H.out) := n1.mono Z3.out
 have T4 : Hid (Cy w (w4.setCell ⟨s, 8, none⟩ (.slice xa3 H.out.length xk3)) s #[.slice xa0 H.regs.length xk0, .int .i64 H.pc, .slice xa1 H.csr.length xk1, .bool H.halted, .bool H.waiting, .bool H.rung, .int .i64 H.done, .slice xa2 H.inn.length xk2, .slice xa3 H.out.length xk3]) := S1.put 8 (.slice xa3 H.out.length xk3)
 have H4 : Hid (Ho (s + 2) w4 (w4.setCell ⟨s, 8, none⟩ (.slice xa3 H.out.length xk3))) := Ho.set _ _ _ (by show s < s + 2; omega)
 have Z4 : Hid (s + 2 ≤ (w4.setCell ⟨s, 8, none⟩ (.slice xa3 H.out.length xk3)).heap.size) := by have := T4.out.R.lt; show _ ≤ _; omega
 have Y4 : Hid (w4.heap.size ≤ (w4.setCell ⟨s, 8, none⟩ (.slice xa3 H.out.length xk3)).heap.size) := H4.out.size
 go_wp2_with fail
 obtain ⟨V, hzV, NN⟩ := zE9 T4.out.R (.slice xa0 H.regs.length xk0) (.int .i64 H.pc) (.slice xa1 H.csr.length xk1) (.bool H.halted) (.bool H.waiting) (.bool H.rung) (.int .i64 H.done) (.slice xa2 H.inn.length xk2) (.slice xa3 H.out.length xk3)
 clear S1 n1 b1 o8 f8 r0 y0 r1 y1 r2 y2 r3 y3 r4 y4 r5 y5 r6 y6 r7 y7 r8 y8 l0 l1 l2 l3 l4 l5 l6 l7
 rw [hzV]
 clear hzV
 generalize (w4.setCell ⟨s, 8, none⟩ (.slice xa3 H.out.length xk3)) = v4 at *
 have H5 : Hid (Ho (s + 2) w4 V) := H4.out.trans (NN.out.2.ho fun k e => by omega)
 have B5 : Hid (Below w.heap.size w V) := Mq.under T4.out.b NN.out.2 fun k e => by have := HSs.out; omega
 have A01 := MB0.out.apt MB1.out Y1.out
 have A02 := MB0.out.apt MB2.out (Nat.le_trans H12.out.size Y2.out)
 have A03 := MB0.out.apt MB3.out (Nat.le_trans (Nat.le_trans H12.out.size H23.out.size) Y3.out)
 have A12 := MB1.out.apt MB2.out Y2.out
 have A13 := MB1.out.apt MB3.out (Nat.le_trans H23.out.size Y3.out)
 have A23 := MB2.out.apt MB3.out Y3.out
 have R0 : Nums V w.heap.size (.slice xa0 H.regs.length xk0) H.regs := (M0.out.ho (H12.out.trans (H23.out.trans (H34.out.trans H5.out)))).mono (by have := HSs.out; omega)
 have R1 : Nums V w.heap.size (.slice xa1 H.csr.length xk1) H.csr := (M1.out.ho (H23.out.trans (H34.out.trans H5.out))).mono (by have := HSs.out; omega)
 have R2 : Nums V w.heap.size (.slice xa2 H.inn.length xk2) H.inn := (M2.out.ho (H34.out.trans H5.out)).mono (by have := HSs.out; omega)
 have R3 : Nums V w.heap.size (.slice xa3 H.out.length xk3) H.out := (M3.out.ho H5.out).mono (by have := HSs.out; omega)
 obtain ⟨x0, x1, x2, x3, x4, x5, x6, x7, x8⟩ := zc9 NN.out.1
 exact bodyPost_ret (v := .agg #[.slice xa0 H.regs.length xk0, .int .i64 H.pc, .slice xa1 H.csr.length xk1, .bool H.halted, .bool H.waiting, .bool H.rung, .int .i64 H.done, .slice xa2 H.inn.length xk2, .slice xa3 H.out.length xk3]) (by simp [results, Tryz.results58, go_sem, x0, x1, x2, x3, x4, x5, x6, x7, x8]) rfl
  ⟨_, _, _, _, rfl, ⟨R0, R1, R2, R3⟩, ⟨A01, A02, A03, A12, A13, A23⟩, B5.out, v3.heap.size, T3.out.b.size, Nat.le_trans YY.out H5.out.size, MB3.out.ho ⟨H5.out.size, fun k hb hk => H5.out.block k (Nat.le_trans Z3.out hb) hk⟩, fun k e => by
   have h1 := H12.out.size
   have h2 := H23.out.size
   have h3 := Y3.out
   rcases e with e | e | e
   ·have := (MB0.out.lt k e).2; omega
   ·have := (MB1.out.lt k e).2; omega
   ·have := (MB2.out.lt k e).2; omega⟩
theorem spec_copyZ (g cap : Nat) (zs : List Int) (b : Nat) (w : World) (h : Nums w b (.slice (some ⟨g, 0, none⟩) zs.length cap) zs) (hn : zs.length ≤ 1000000) :
  Calls Tryz.prog 57 #[.slice (some ⟨g, 0, none⟩) zs.length cap] w fun e w' => ∃ v, e = .returned v ∧ Nums w' w.heap.size v zs ∧ Below w.heap.size w w' := by
 have HZ : Hid (Nums w b _ zs) := h
 obtain ⟨n, hn2⟩ : ∃ n, zs.length = n := ⟨_, rfl⟩
 rw [hn2] at HZ hn ⊢
 have HL : Hid (zs.length = n ∧ n ≤ 1000000) := ⟨hn2, hn⟩
 clear h hn2 hn
 go_enter Tryz.func57, Tryz.ntmps57
 go_wp2_with (at_builtin; refine wp_append _ rfl _ _ rfl w.heap.size _ _ rfl (nums_none w w.heap.size (Nat.le_refl _)) g n cap zs rfl HL.out.1 (fun i hi => cell_push _ (HZ.out.cell HL.out.1.symm i hi)) (by have := HL.out; simp; omega) (by simp) ?_; intro v' w' hN' hG')
 have N' : Hid (Nums w' w.heap.size v' zs) := by rw [List.nil_append] at hN'; exact hN'
 have B' : Hid (Below w.heap.size w w') := (al (Below.refl _ _) _).grown hG' (by simp) (fun k hk => Nat.le_of_eq (Option.some.inj hk))
 clear hN' hG'
 go_wp2_with fail
 go_ret
 exact ⟨_, rfl, N'.out, B'.out⟩
variable {w : World} {base : Nat} {v : Value}
theorem DrawnM.shape (h : DrawnM w base v) : ∃ a n cap, v = .slice a n cap ∧ n ≤ 200 := by
 rcases h with ⟨zs, hN, hl⟩ | ⟨a, n, cap, rfl, hn, _⟩
 ·obtain ⟨a, cap, rfl, _⟩ := hN.shape
  exact ⟨_, _, _, rfl, hl⟩
 ·exact ⟨_, _, _, rfl, hn⟩
variable {w w' : World} {base b : Nat} {v : Value}
theorem DrawnM.turn (h : DrawnM w base v) (t : Turn b w w') (hb : b < base) : DrawnM w' base v := by
 rcases h with ⟨zs, hN, hl⟩ | h
 ·exact .inl ⟨zs, hN.turn t hb, hl⟩
 ·exact .inr h
variable {w : World} {base base' : Nat} {v : Value}
theorem DrawnM.mono (h : DrawnM w base v) (hb : base' ≤ base) : DrawnM w base' v := by
 rcases h with ⟨zs, hN, hl⟩ | h
 ·exact .inl ⟨zs, hN.mono hb, hl⟩
 ·exact .inr h
theorem form_cases {n : Nat} (h : formB n = false) : n = 0 ∨ (¬ n = 0 ∧ 192 < n) ∨ (¬ n = 0 ∧ n ≤ 192 ∧ ¬ n % 8 = 0) := by
 have := of_decide_eq_false h
 omega
theorem impl_memBad (a : Option Addr) (n cap : Nat) (w : World) (hn : n ≤ 200) (hf : formB n = false) :
  Calls Tryz.prog 11 #[.slice a n cap] w fun e w' => e = .returned (.int .i64 1) ∧ w' = w := by
 rcases form_cases hf with rfl | ⟨h1, h2⟩ | ⟨h1, h2, h3⟩
 ·go_enter Tryz.func11, Tryz.ntmps11
  go_wp2_with fail
  go_ret
  exact ⟨rfl, rfl⟩
 ·have e1 : ¬ (n : Int) = 0 := by omega
  have e2 : (192 : Int) < n := by omega
  clear h1 h2 hf
  go_enter Tryz.func11, Tryz.ntmps11
  go_wp2_with fail
  go_ret
  exact ⟨rfl, rfl⟩
 ·have e1 : ¬ (n : Int) = 0 := by omega
  have e2 : ¬ (192 : Int) < n := by omega
  have e3 : (((n : Int) % 8) != 0) = true := by simp; omega
  clear h1 h2 h3 hf
  go_enter Tryz.func11, Tryz.ntmps11
  go_wp2_with fail
  go_ret
  exact ⟨rfl, rfl⟩
theorem form_cases' {n : Nat} (h : formB n = false) : ¬ n % 8 = 0 ∨ (n % 8 = 0 ∧ n < 8) ∨ (n % 8 = 0 ∧ ¬ n < 8 ∧ 192 < n) := by
 have := of_decide_eq_false h
 omega
theorem spec_memBad (a : Option Addr) (n cap : Nat) (w : World) (hn : n ≤ 200) (hf : formB n = false) :
  Calls Tryz.prog 56 #[.slice a n cap] w fun e w' => e = .returned (.int .i64 1) ∧ w' = w := by
 have hni : (n : Int) ≤ 200 := by omega
 rcases form_cases' hf with h1 | ⟨h1, h2⟩ | ⟨h1, h2, h3⟩
 ·have e3 : (((n : Int) % 8) != 0) = true := by simp; omega
  clear h1 hf hn
  go_enter Tryz.func56, Tryz.ntmps56
  go_wp2_with fail
  go_ret
  exact ⟨rfl, rfl⟩
 ·have e1 : (((n : Int) % 8) != 0) = false := by simp; omega
  have e2 : (n : Int) < 8 := by omega
  clear h1 h2 hf hn
  go_enter Tryz.func56, Tryz.ntmps56
  go_wp2_with fail
  go_ret
  exact ⟨rfl, rfl⟩
 ·have e1 : (((n : Int) % 8) != 0) = false := by simp; omega
  have e2 : ¬ (n : Int) < 8 := by omega
  have e3 : (192 : Int) < n := by omega
  clear h1 h2 h3 hf hn
  go_enter Tryz.func56, Tryz.ntmps56
  go_wp2_with fail
  go_ret
  exact ⟨rfl, rfl⟩
def Drawn (w : World) (base : Nat) (v : Value) : Prop :=
 (∃ rs : List (Int × Int), Prs 36 w base v rs ∧ rs.length = 8) ∨ ∃ a cap, v = .slice a 7 cap
variable {w w' : World} {base b : Nat} {v : Value}
theorem Drawn.turn (h : Drawn w base v) (t : Turn b w w') (hb : b < base) : Drawn w' base v := by
 rcases h with ⟨rs, h, hl⟩ | h
 ·exact .inl ⟨rs, h.turn t hb, hl⟩
 ·exact .inr h
variable {w : World} {base base' : Nat} {v : Value}
theorem Drawn.mono (h : Drawn w base v) (hb : base' ≤ base) : Drawn w base' v := by
 rcases h with ⟨rs, h, hl⟩ | h
 ·exact .inl ⟨rs, h.mono hb, hl⟩
 ·exact .inr h
variable {w : World} {base : Nat} {v : Value}
theorem Drawn.shape (h : Drawn w base v) : ∃ a n cap, v = .slice a n cap := by
 rcases h with ⟨rs, h, hl⟩ | ⟨a, cap, rfl⟩
 ·obtain ⟨a, cap, rfl, _⟩ := h.shape
  exact ⟨_, _, _, rfl⟩
 ·exact ⟨_, _, _, rfl⟩
theorem Prs.storeAt {e : TypeId} {w : World} {base g n cap : Nat} {rs : List (Int × Int)} (h : Prs e w base (.slice (some ⟨g, 0, none⟩) n cap) rs) (hn : n = rs.length) (j : Nat) (u : Int) (hj : j < n) :
  (∃ qs, qs.length = rs.length ∧ Prs e (w.setCell ⟨g, j * 2, none⟩ (.int .i64 u)) base (.slice (some ⟨g, 0, none⟩) n cap) qs) ∧ ∃ qs, qs.length = rs.length ∧ Prs e (w.setCell ⟨g, j * 2 + 1, none⟩ (.int .i64 u)) base (.slice (some ⟨g, 0, none⟩) n cap) qs := by
 subst hn
 have h1 := (World.ownsRow.stored h (j * 2) (.int .i64 u)).1
 have h2 := (World.ownsRow.stored h (j * 2 + 1) (.int .i64 u)).1
 have e1 : (flat rs).set (j * 2) (.int .i64 u) = flat (rs.set j (u, (rs.getD j (0, 0)).2)) := by
  rw [flat_set rs j _ _ hj]
  apply List.ext_getElem?
  intro i
  by_cases hi : j * 2 + 1 = i
  ·subst hi
   rw [List.getElem?_set_ne (by omega), (flat_get rs j hj).2, List.getElem?_set_self (by rw [List.length_set, flat_length]; omega)]
  ·rw [List.getElem?_set_ne hi]
 have e2 : (flat rs).set (j * 2 + 1) (.int .i64 u) = flat (rs.set j ((rs.getD j (0, 0)).1, u)) := by
  rw [flat_set rs j _ _ hj]
  apply List.ext_getElem?
  intro i
  by_cases hi : j * 2 + 1 = i
  ·subst hi
   rw [List.getElem?_set_self (by rw [flat_length]; omega), List.getElem?_set_self (by rw [List.length_set, flat_length]; omega)]
  ·rw [List.getElem?_set_ne hi, List.getElem?_set_ne hi]
   by_cases hk : j * 2 = i
   ·subst hk
    rw [List.getElem?_set_self (by rw [flat_length]; omega), (flat_get rs j hj).1]
   ·rw [List.getElem?_set_ne hk]
 refine ⟨⟨rs.set j (u, (rs.getD j (0, 0)).2), List.length_set .., ?_⟩, ⟨rs.set j ((rs.getD j (0, 0)).1, u), List.length_set .., ?_⟩⟩
 ·show World.ownsRow _ _ _ _ _ _ (flat (rs.set j (u, (rs.getD j (0, 0)).2)))
  rw [← e1, List.length_set]
  exact h1
 ·show World.ownsRow _ _ _ _ _ _ (flat (rs.set j ((rs.getD j (0, 0)).1, u)))
  rw [← e2, List.length_set]
  exact h2
def Drawn8 (w : World) (base : Nat) (v : Value) : Prop :=
 (∃ rs : List (Int × Int), Prs 36 w base v rs ∧ rs.length = 8) ∨ ∃ g yc c2 rs, v = .slice (some ⟨g, 2, none⟩) 7 c2 ∧ Prs 36 w base (.slice (some ⟨g, 0, none⟩) 8 yc) rs ∧ rs.length = 8
theorem Drawn8.drawn (h : Drawn8 w base v) : Drawn w base v := by
 rcases h with h | ⟨g, yc, c2, rs, rfl, _⟩
 ·exact .inl h
 ·exact .inr ⟨_, _, rfl⟩
variable {w w' : World} {base b : Nat} {v : Value}
theorem Drawn8.turn (h : Drawn8 w base v) (t : Turn b w w') (hb : b < base) : Drawn8 w' base v := by
 rcases h with ⟨rs, h, hl⟩ | ⟨g, yc, c2, rs, rfl, h, hl⟩
 ·exact .inl ⟨rs, h.turn t hb, hl⟩
 ·exact .inr ⟨g, yc, c2, rs, rfl, h.turn t hb, hl⟩
variable {w : World} {base base' : Nat} {v : Value}
theorem Drawn8.mono (h : Drawn8 w base v) (hb : base' ≤ base) : Drawn8 w base' v := by
 rcases h with ⟨rs, h, hl⟩ | ⟨g, yc, c2, rs, rfl, h, hl⟩
 ·exact .inl ⟨rs, h.mono hb, hl⟩
 ·exact .inr ⟨g, yc, c2, rs, rfl, h.mono hb, hl⟩
variable {w : World} {b k : Nat} {a : Option Addr} {len cap : Nat} {zs : List Int}
theorem bent_rows (s : Src w b k a len cap zs) (hk : k ≤ 80000) (top : Int) :
  Calls Tryz.prog 49 #[.pointer (some ⟨b, 0, none⟩), .int .i64 top] w fun e w' => ∃ (v : Value) (k' : Nat), e = .returned v ∧ Drawn8 w' w.heap.size v ∧ k' ≤ k + 30 ∧ Turn b w w' ∧ Src w' b k' a len cap zs := by
 have hb := s.here
 have HS := hid s
 have HK := hid hk
 clear s hk
 go_enter Tryz.func49, Tryz.ntmps49
 go_wp2_with fail
 refine (pages_any HS.out (by have := HK.out; omega) top).mono ?_
 rintro e w1 ⟨v, rs, rfl, hl, hP, t1, s1⟩
 obtain ⟨ya, yc, rfl, l1, l2, hg⟩ := hP.shape
 rw [hl] at l1 hg hP ⊢
 obtain ⟨g, rfl⟩ := hg (by omega)
 have PB := hid hP
 have LR := hid hl
 clear hP hl hg l2
 go_wp2_with fail
 refine (next_any s1 (by have := HK.out; omega) _).mono ?_
 rintro e w2 ⟨v2, rfl, h2, -, t2, s2⟩
 obtain ⟨i0, i1⟩ := h2 (by omega)
 obtain ⟨i, rfl⟩ := Int.eq_ofNat_of_zero_le i0
 have hi8 : i < 8 := by omega
 clear h2 i0
 go_wp2_with fail
 refine (next_any s2 (by have := HK.out; omega) _).mono ?_
 rintro e w3 ⟨v3, rfl, -, -, t3, s3⟩
 have T3 : Hid (Turn b w w3) := t1.trans (t2.trans t3)
 have S3 := hid s3
 have P3 := hid (PB.out.turn (t2.trans t3) hb)
 have h3 := s3.here
 have hgb : w.heap.size ≤ g := (PB.out.lt g rfl).1
 clear t1 t2 t3 s1 s2 s3
 by_cases c0 : v3 = 0
 ·subst c0
  go_wp2_with fail
  refine (pick_any (S3.out.alloc _) (by have := HK.out; omega) (fun _ => True) _ 3 (by omega) (by omega) (by simp) (by omega) ?_).mono ?_
  ·intro i hi
   have : i = 0 ∨ i = 1 ∨ i = 2 := by omega
   rcases this with rfl | rfl | rfl
   all_goals exact ⟨_, cell_new rfl, trivial⟩
  rintro e w4 ⟨v4, rfl, -, t4, s4⟩
  have T4 : Hid (Turn b w w4) := T3.out.trans ((Turn.alloc _ w3 _).trans t4)
  have P4 : Hid (Prs 36 w4 w.heap.size (.slice (some ⟨g, 0, none⟩) 8 yc) rs) := P3.out.turn ((Turn.alloc _ w3 _).trans t4) hb
  have c1 := (P4.out.cell LR.out.symm i hi8).1
  have f1 := P4.out.free LR.out.symm (i * 2)
  have S4 := hid s4
  clear t4 s4
  go_wp2_with fail
  go_ret
  obtain ⟨qs, hq, hQ⟩ := (P4.out.storeAt LR.out.symm i v4 hi8).1
  exact ⟨_, k + 24 + 1 + 1 + 1, rfl, .inl ⟨qs, hQ, hq.trans LR.out⟩, by omega, T4.out.put _ _ hgb, S4.out.put _ _ (by show b < g; omega)⟩
 have n0 : (v3 == 0) = false := beq_eq_false_iff_ne.2 c0
 by_cases c1 : v3 = 1
 ·subst c1
  clear n0 c0
  go_wp2_with fail
  refine (pick_any (S3.out.alloc _) (by have := HK.out; omega) (fun _ => True) _ 4 (by omega) (by omega) (by simp) (by omega) ?_).mono ?_
  ·intro i hi
   have : i = 0 ∨ i = 1 ∨ i = 2 ∨ i = 3 := by omega
   rcases this with rfl | rfl | rfl | rfl
   all_goals exact ⟨_, cell_new rfl, trivial⟩
  rintro e w4 ⟨v4, rfl, -, t4, s4⟩
  have T4 : Hid (Turn b w w4) := T3.out.trans ((Turn.alloc _ w3 _).trans t4)
  have P4 : Hid (Prs 36 w4 w.heap.size (.slice (some ⟨g, 0, none⟩) 8 yc) rs) := P3.out.turn ((Turn.alloc _ w3 _).trans t4) hb
  have c1 := (P4.out.cell LR.out.symm i hi8).2
  have f1 := P4.out.free LR.out.symm (i * 2 + 1)
  have S4 := hid s4
  clear t4 s4
  go_wp2_with fail
  go_ret
  obtain ⟨qs, hq, hQ⟩ := (P4.out.storeAt LR.out.symm i v4 hi8).2
  exact ⟨_, k + 24 + 1 + 1 + 1, rfl, .inl ⟨qs, hQ, hq.trans LR.out⟩, by omega, T4.out.put _ _ hgb, S4.out.put _ _ (by show b < g; omega)⟩
 have n1 : (v3 == 1) = false := beq_eq_false_iff_ne.2 c1
 by_cases c2 : v3 = 2
 ·subst c2
  clear n0 c0 n1 c1
  have l1I : (8 : Int) ≤ (yc : Int) := by omega
  go_wp2_with fail
  go_ret
  exact ⟨_, k + 24 + 1 + 1, rfl, .inr ⟨_, _, _, _, rfl, P3.out, LR.out⟩, by omega, T3.out, S3.out⟩
 have n2 : (v3 == 2) = false := beq_eq_false_iff_ne.2 c2
 clear c0 c1 c2
 go_wp2_with fail
 go_ret
 exact ⟨_, k + 24 + 1 + 1, rfl, .inl ⟨rs, P3.out, LR.out⟩, by omega, T3.out, S3.out⟩
theorem map_take (f : Int × Int → Int × Int) (rs : List (Int × Int)) (j : Nat) (h : j < rs.length) : (rs.take (j + 1)).map f = (rs.take j).map f ++ [((f ((rs.getD j (0, 0)).1, (rs.getD j (0, 0)).2)).1, (f ((rs.getD j (0, 0)).1, (rs.getD j (0, 0)).2)).2)] := by
 rw [List.take_succ_eq_append_getElem h, List.map_append, List.getD, List.getElem?_eq_getElem h]
 rfl
def Flt (w : World) (v : Value) (top c : Int) : Prop :=
 (∀ w1, Below w.heap.size w w1 → Calls Tryz.prog 67 #[v, .int .i64 top] w1 fun e w' => e = .returned (.int .i64 c) ∧ Below w1.heap.size w1 w') ∧
 ∀ w1, Below w.heap.size w w1 → Calls Tryz.prog 55 #[v, .int .i64 top] w1 fun e w' => e = .returned (.int .i64 c) ∧ w' = w1
theorem Flt.good {w : World} {base : Nat} {v : Value} {rs : List (Int × Int)} (h : Prs 36 w base v rs) (hl : rs.length = 8) (top : Int) : Flt w v top (pgsV rs top) :=
 ⟨fun w1 b => impl_fault v rs top base w1 (h.keep b) (by omega), fun w1 b => spec_fault v rs top base w1 (h.keep b) (by omega)⟩
theorem Flt.bad {w : World} (a : Option Addr) (cap : Nat) (top : Int) (h1 : 1 ≤ top) (h2 : top ≤ 24) : Flt w (.slice a 7 cap) top 1 := by
 refine ⟨fun w1 b => ?_, fun w1 b => spec_faultBad _ _ _ _ _ (by omega) (by omega) h1 h2⟩
 refine (impl_faultBad _ _ _ _ _ (by omega) (by omega) h1 h2).mono ?_
 rintro e w' ⟨rfl, rfl⟩
 exact ⟨rfl, Below.refl _ _⟩
variable {w : World} {m : Nat} {t : TypeId} {H : Ht} {i o l pg : Value} {ca ri : Int}
theorem mcr_regs (h : Vb w m (mcr H i o l pg ca ri) t) (hl : H.regs.length = 16) : Rn w (some ⟨m, 0, none⟩) 16 16 H.regs := by
 refine .inr ⟨_, rfl, Nat.le_refl _, by decide, hl, fun j hj => ?_⟩
 have e : j = 0 ∨ j = 1 ∨ j = 2 ∨ j = 3 ∨ j = 4 ∨ j = 5 ∨ j = 6 ∨ j = 7 ∨ j = 8 ∨ j = 9 ∨ j = 10 ∨ j = 11 ∨ j = 12 ∨ j = 13 ∨ j = 14 ∨ j = 15 := by omega
 rw [Addr.add_mid]
 rcases e with rfl | rfl | rfl | rfl | rfl | rfl | rfl | rfl | rfl | rfl | rfl | rfl | rfl | rfl | rfl | rfl
 ·exact h.cell 0 rfl
 ·exact h.cell 1 rfl
 ·exact h.cell 2 rfl
 ·exact h.cell 3 rfl
 ·exact h.cell 4 rfl
 ·exact h.cell 5 rfl
 ·exact h.cell 6 rfl
 ·exact h.cell 7 rfl
 ·exact h.cell 8 rfl
 ·exact h.cell 9 rfl
 ·exact h.cell 10 rfl
 ·exact h.cell 11 rfl
 ·exact h.cell 12 rfl
 ·exact h.cell 13 rfl
 ·exact h.cell 14 rfl
 ·exact h.cell 15 rfl
theorem mcr_csr (h : Vb w m (mcr H i o l pg ca ri) t) (hl : H.csr.length = 11) : Rn w (some ⟨m, 17, none⟩) 11 11 H.csr := by
 refine .inr ⟨_, rfl, Nat.le_refl _, by decide, hl, fun j hj => ?_⟩
 have e : j = 0 ∨ j = 1 ∨ j = 2 ∨ j = 3 ∨ j = 4 ∨ j = 5 ∨ j = 6 ∨ j = 7 ∨ j = 8 ∨ j = 9 ∨ j = 10 := by omega
 rw [Addr.add_mid]
 rcases e with rfl | rfl | rfl | rfl | rfl | rfl | rfl | rfl | rfl | rfl | rfl
 ·exact h.cell 17 rfl
 ·exact h.cell 18 rfl
 ·exact h.cell 19 rfl
 ·exact h.cell 20 rfl
 ·exact h.cell 21 rfl
 ·exact h.cell 22 rfl
 ·exact h.cell 23 rfl
 ·exact h.cell 24 rfl
 ·exact h.cell 25 rfl
 ·exact h.cell 26 rfl
 ·exact h.cell 27 rfl
theorem r_hartr (m : Nat) (i o l pg : Value) (ca ri : Int) (H : Ht) (w : World) (hv : Vb w m (mcr H i o l pg ca ri) 78) (hi : Rv w i H.inn) (ho : Rv w o H.out) (hr : H.regs.length = 16) (hc : H.csr.length = 11) (h2 : H.inn.length ≤ 1000) (h3 : H.out.length ≤ 1000) :
  Calls Tryz.prog 78 #[.pointer (some ⟨m, 0, none⟩)] w fun e w' => ∃ r c i' o', e = .returned (.agg #[r, .int .i64 H.pc, c, .bool H.halted, .bool H.waiting, .bool H.rung, .int .i64 H.done, i', o']) ∧ Hm w' w.heap.size r c i' o' H ∧ Ha r c i' o' ∧ Below w.heap.size w w' := by
 obtain ⟨a2, k2, rfl, hi⟩ := hi
 obtain ⟨a3, k3, rfl, ho⟩ := ho
 have LN : Hid (H.regs.length = 16 ∧ H.csr.length = 11 ∧ H.inn.length ≤ 1000 ∧ H.out.length ≤ 1000) := ⟨hr, hc, h2, h3⟩
 have HI : Hid (Rn w a2 _ k2 H.inn) := hi
 have HO : Hid (Rn w a3 _ k3 H.out) := ho
 have HV : Hid (Vb w m _ 78) := hv
 clear hr hc h2 h3 hi ho hv
 generalize H.inn.length = n2 at *
 generalize H.out.length = n3 at *
 generalize hW : w.alloc (.cells #[.slice none 0 0, .int .i64 0, .slice none 0 0, .bool false, .bool false, .bool false, .int .i64 0, .slice none 0 0, .slice none 0 0] 26) = W
 have B0 : Hid (Below w.heap.size w W) := by show Below _ _ _; rw [← hW]; exact al (Below.refl _ _) _
 obtain ⟨q, hq⟩ : ∃ q, w.heap.size = q := ⟨_, rfl⟩
 have HQ := hid hq
 have VR : Hid (Vb W q #[.slice none 0 0, .int .i64 0, .slice none 0 0, .bool false, .bool false, .bool false, .int .i64 0, .slice none 0 0, .slice none 0 0] 26) := by
  show Vb _ _ _ _; rw [← hW, ← hq]; exact Vb.new _ _ _
 have LT : Hid (q < W.heap.size) := VR.out.lt
 have ML : Hid (m < q) := by show _ < _; rw [← hq]; exact HV.out.lt
 have S0 : Hid (Sj W q W) := ⟨Mq.refl _ _, VR.out.there 9 (by decide)⟩
 have VS : Hid (∀ w', Sj W q w' → Vb w' m (mcr H (.slice a2 n2 k2) (.slice a3 n3 k3) l pg ca ri) 78) := fun w' hs => hs.1.vb (HV.out.keep B0.out) (by have := ML.out; omega)
 have IS : Hid (∀ w', Sj W q w' → Rn w' a2 n2 k2 H.inn) := fun w' hs => HI.out.mq ((Mq.of (below_grown B0.out none) fun k e => by cases e).trans hs.1) fun x e hl f => by have := HQ.out; omega
 have OS : Hid (∀ w', Sj W q w' → Rn w' a3 n3 k3 H.out) := fun w' hs => HO.out.mq ((Mq.of (below_grown B0.out none) fun k e => by cases e).trans hs.1) fun x e hl f => by have := HQ.out; omega
 have q16 : ∀ w', Sj W q w' → w'.cell? ⟨m, 16, none⟩ = some (.int .i64 H.pc) := fun w' hs => (VS.out w' hs).cell 16 rfl
 have q28 : ∀ w', Sj W q w' → w'.cell? ⟨m, 28, none⟩ = some (.bool H.halted) := fun w' hs => (VS.out w' hs).cell 28 rfl
 have q29 : ∀ w', Sj W q w' → w'.cell? ⟨m, 29, none⟩ = some (.bool H.waiting) := fun w' hs => (VS.out w' hs).cell 29 rfl
 have q30 : ∀ w', Sj W q w' → w'.cell? ⟨m, 30, none⟩ = some (.bool H.rung) := fun w' hs => (VS.out w' hs).cell 30 rfl
 have q31 : ∀ w', Sj W q w' → w'.cell? ⟨m, 31, none⟩ = some (.int .i64 H.done) := fun w' hs => (VS.out w' hs).cell 31 rfl
 have q32 : ∀ w', Sj W q w' → w'.cell? ⟨m, 32, none⟩ = some (.slice a2 n2 k2) := fun w' hs => (VS.out w' hs).cell 32 rfl
 have q33 : ∀ w', Sj W q w' → w'.cell? ⟨m, 33, none⟩ = some (.slice a3 n3 k3) := fun w' hs => (VS.out w' hs).cell 33 rfl
 go_enter Tryz.func78, Tryz.ntmps78
 go_wp2_with fail
 clear hW hq
 have SD : Hid (Sj W q W.drew) := S0.out.step LT.out (Below.refl _ _).drew
 refine wp_region_held (S := fun w' => Sj W q w') (by kernel_rfl) ?_
 change wpAnyH _ _ _ _ _ _ _ _ (World.drew _)
 refine wpTd 0 3 (.pointer (some ⟨m, 0, none⟩)) rfl SD.out ?_
 simp only [Act.put, zT, zZ, zS]
 refine wpTd 1 4 (.pointer (some ⟨m, 0, none⟩)) rfl SD.out ?_
 simp only [Act.put, zT, zZ, zS]
 refine wpTd 2 5 (.pointer (some ⟨m, 0, none⟩)) rfl SD.out ?_
 simp only [Act.put, zT, zZ, zS]
 refine wpTd 3 6 (.pointer (some ⟨m, 0, none⟩)) rfl SD.out ?_
 simp only [Act.put, zT, zZ, zS]
 refine wpTd 4 7 (.slice (some ⟨m, 0, none⟩) 16 16) rfl SD.out ?_
 simp only [Act.put, zT, zZ, zS]
 refine wpTd 6 9 (.pointer (some ⟨m, 0, none⟩)) rfl SD.out ?_
 simp only [Act.put, zT, zZ, zS]
 refine wpTd 7 10 (.pointer (some ⟨m, 0, none⟩)) rfl SD.out ?_
 simp only [Act.put, zT, zZ, zS]
 refine wpTd 8 11 (.pointer (some ⟨m, 0, none⟩)) rfl SD.out ?_
 simp only [Act.put, zT, zZ, zS]
 refine wpTd 9 12 (.pointer (some ⟨m, 16, none⟩)) rfl SD.out ?_
 simp only [Act.put, zT, zZ, zS]
 refine wpTd 10 13 (.int .i64 H.pc) rfl SD.out ?_
 simp only [Act.put, zT, zZ, zS]
 refine wpTd 11 14 (.pointer (some ⟨m, 0, none⟩)) rfl SD.out ?_
 simp only [Act.put, zT, zZ, zS]
 refine wpTd 12 15 (.pointer (some ⟨m, 0, none⟩)) rfl SD.out ?_
 simp only [Act.put, zT, zZ, zS]
 refine wpTd 13 16 (.pointer (some ⟨m, 0, none⟩)) rfl SD.out ?_
 simp only [Act.put, zT, zZ, zS]
 refine wpTd 14 17 (.pointer (some ⟨m, 17, none⟩)) rfl SD.out ?_
 simp only [Act.put, zT, zZ, zS]
 refine wpTd 15 18 (.slice (some ⟨m, 17, none⟩) 11 11) rfl SD.out ?_
 simp only [Act.put, zT, zZ, zS]
 refine wpTd 17 20 (.pointer (some ⟨m, 0, none⟩)) rfl SD.out ?_
 simp only [Act.put, zT, zZ, zS]
 refine wpTd 18 21 (.pointer (some ⟨m, 0, none⟩)) rfl SD.out ?_
 simp only [Act.put, zT, zZ, zS]
 refine wpTd 19 22 (.pointer (some ⟨m, 28, none⟩)) rfl SD.out ?_
 simp only [Act.put, zT, zZ, zS]
 refine wpTd 20 23 (.bool H.halted) rfl SD.out ?_
 simp only [Act.put, zT, zZ, zS]
 refine wpTd 21 24 (.pointer (some ⟨m, 0, none⟩)) rfl SD.out ?_
 simp only [Act.put, zT, zZ, zS]
 refine wpTd 22 25 (.pointer (some ⟨m, 0, none⟩)) rfl SD.out ?_
 simp only [Act.put, zT, zZ, zS]
 refine wpTd 23 26 (.pointer (some ⟨m, 29, none⟩)) rfl SD.out ?_
 simp only [Act.put, zT, zZ, zS]
 refine wpTd 24 27 (.bool H.waiting) rfl SD.out ?_
 simp only [Act.put, zT, zZ, zS]
 refine wpTd 25 28 (.pointer (some ⟨m, 0, none⟩)) rfl SD.out ?_
 simp only [Act.put, zT, zZ, zS]
 refine wpTd 26 29 (.pointer (some ⟨m, 0, none⟩)) rfl SD.out ?_
 simp only [Act.put, zT, zZ, zS]
 refine wpTd 27 30 (.pointer (some ⟨m, 30, none⟩)) rfl SD.out ?_
 simp only [Act.put, zT, zZ, zS]
 refine wpTd 28 31 (.bool H.rung) rfl SD.out ?_
 simp only [Act.put, zT, zZ, zS]
 refine wpTd 29 32 (.pointer (some ⟨m, 0, none⟩)) rfl SD.out ?_
 simp only [Act.put, zT, zZ, zS]
 refine wpTd 30 33 (.pointer (some ⟨m, 0, none⟩)) rfl SD.out ?_
 simp only [Act.put, zT, zZ, zS]
 refine wpTd 31 34 (.pointer (some ⟨m, 31, none⟩)) rfl SD.out ?_
 simp only [Act.put, zT, zZ, zS]
 refine wpTd 32 35 (.int .i64 H.done) rfl SD.out ?_
 simp only [Act.put, zT, zZ, zS]
 refine wpTd 33 36 (.pointer (some ⟨m, 0, none⟩)) rfl SD.out ?_
 simp only [Act.put, zT, zZ, zS]
 refine wpTd 34 37 (.pointer (some ⟨m, 0, none⟩)) rfl SD.out ?_
 simp only [Act.put, zT, zZ, zS]
 refine wpTd 35 38 (.pointer (some ⟨m, 32, none⟩)) rfl SD.out ?_
 simp only [Act.put, zT, zZ, zS]
 refine wpTd 36 39 (.slice a2 n2 k2) rfl SD.out ?_
 simp only [Act.put, zT, zZ, zS]
 refine wpTd 38 41 (.pointer (some ⟨m, 0, none⟩)) rfl SD.out ?_
 simp only [Act.put, zT, zZ, zS]
 refine wpTd 39 42 (.pointer (some ⟨m, 0, none⟩)) rfl SD.out ?_
 simp only [Act.put, zT, zZ, zS]
 refine wpTd 40 43 (.pointer (some ⟨m, 33, none⟩)) rfl SD.out ?_
 simp only [Act.put, zT, zZ, zS]
 refine wpTd 41 44 (.slice a3 n3 k3) rfl SD.out ?_
 simp only [Act.put, zT, zZ, zS]
 refine zR 5 rfl fun K hK => ?_
 rw [if_pos (by rfl)]
 go_simp
 refine (i_clone (some ⟨m, 0, none⟩) 16 16 H.regs _ (mcr_regs (VS.out _ SD.out) LN.out.1) (by decide)).mono ?_
 rintro e w1 ⟨v1, rfl, m1, b1⟩
 obtain ⟨xa1, xk1, rfl, _⟩ := m1.shape
 have S1 : Hid (Sj W q w1) := SD.out.step LT.out b1
 have N1 := hid m1
 have G1 : Hid (W.drew.heap.size ≤ w1.heap.size) := b1.size
 clear m1 b1
 refine hK.out _ _ S1.out (fun _ => ?_)
 clear hK K
 refine zR 16 rfl fun K hK => ?_
 rw [if_pos (by rfl)]
 go_simp
 refine (i_clone (some ⟨m, 17, none⟩) 11 11 H.csr _ (mcr_csr (VS.out _ S1.out) LN.out.2.1) (by decide)).mono ?_
 rintro e w2 ⟨v2, rfl, m1, b1⟩
 obtain ⟨xa2, xk2, rfl, _⟩ := m1.shape
 have S2 : Hid (Sj W q w2) := S1.out.step LT.out b1
 have N2 := hid m1
 have G2 : Hid (w1.heap.size ≤ w2.heap.size) := b1.size
 have H2 : Hid (Ho W.heap.size w1 w2) := Ho.of b1
 clear m1 b1
 refine hK.out _ _ S2.out (fun _ => ?_)
 clear hK K
 refine zR 37 rfl fun K hK => ?_
 rw [if_pos (by rfl)]
 go_simp
 refine (i_clone a2 n2 k2 H.inn _ (IS.out _ S2.out) (by have := LN.out.2.2.1; omega)).mono ?_
 rintro e w3 ⟨v3, rfl, m1, b1⟩
 obtain ⟨xa3, xk3, rfl, _⟩ := m1.shape
 have S3 : Hid (Sj W q w3) := S2.out.step LT.out b1
 have N3 := hid m1
 have G3 : Hid (w2.heap.size ≤ w3.heap.size) := b1.size
 have H3 : Hid (Ho W.heap.size w2 w3) := Ho.of b1
 clear m1 b1
 refine hK.out _ _ S3.out (fun _ => ?_)
 clear hK K
 refine zR 42 rfl fun K hK => ?_
 rw [if_pos (by rfl)]
 go_simp
 refine (i_clone a3 n3 k3 H.out _ (OS.out _ S3.out) (by have := LN.out.2.2.2; omega)).mono ?_
 rintro e w4 ⟨v4, rfl, m1, b1⟩
 obtain ⟨xa4, xk4, rfl, _⟩ := m1.shape
 have S4 : Hid (Sj W q w4) := S3.out.step LT.out b1
 have N4 := hid m1
 have G4 : Hid (w3.heap.size ≤ w4.heap.size) := b1.size
 have H4 : Hid (Ho W.heap.size w3 w4) := Ho.of b1
 clear m1 b1
 refine hK.out _ _ S4.out (fun _ => ?_)
 clear hK K
 refine wpTd 43 46 (.agg #[.slice xa1 H.regs.length xk1, .int .i64 H.pc, .slice xa2 H.csr.length xk2, .bool H.halted, .bool H.waiting, .bool H.rung, .int .i64 H.done, .slice xa3 H.inn.length xk3, .slice xa4 H.out.length xk4]) rfl S4.out ?_
 simp only [Act.put, zT, zZ, zS]
 refine zR 44 rfl fun K hK => ?_
 rw [if_pos (by rfl)]
 refine wp_store_mid 26 (.tmp 2) (.tmp 46) rfl q 0 #[.slice xa1 H.regs.length xk1, .int .i64 H.pc, .slice xa2 H.csr.length xk2, .bool H.halted, .bool H.waiting, .bool H.rung, .int .i64 H.done, .slice xa3 H.inn.length xk3, .slice xa4 H.out.length xk4] rfl rfl S4.out.2 (by kernel_rfl) (by simp [Value.oneCell']) ?_
 change K (Act.put _ none undef) (World.setCells w4 q 0 [.slice xa1 H.regs.length xk1, .int .i64 H.pc, .slice xa2 H.csr.length xk2, .bool H.halted, .bool H.waiting, .bool H.rung, .int .i64 H.done, .slice xa3 H.inn.length xk3, .slice xa4 H.out.length xk4])
 simp only [Act.put]
 have S5 : Hid (Sj W q (w4.setCells q 0 [.slice xa1 H.regs.length xk1, .int .i64 H.pc, .slice xa2 H.csr.length xk2, .bool H.halted, .bool H.waiting, .bool H.rung, .int .i64 H.done, .slice xa3 H.inn.length xk3, .slice xa4 H.out.length xk4])) := S4.out.set _
 have R5 : Hid ((w4.setCells q 0 [.slice xa1 H.regs.length xk1, .int .i64 H.pc, .slice xa2 H.csr.length xk2, .bool H.halted, .bool H.waiting, .bool H.rung, .int .i64 H.done, .slice xa3 H.inn.length xk3, .slice xa4 H.out.length xk4]).rangeAt q 0 [.slice xa1 H.regs.length xk1, .int .i64 H.pc, .slice xa2 H.csr.length xk2, .bool H.halted, .bool H.waiting, .bool H.rung, .int .i64 H.done, .slice xa3 H.inn.length xk3, .slice xa4 H.out.length xk4]) := World.rangeAt_setCells_same _ _ _ _ S4.out.2
 have H5 : Hid (Ho W.heap.size w4 (w4.setCells q 0 [.slice xa1 H.regs.length xk1, .int .i64 H.pc, .slice xa2 H.csr.length xk2, .bool H.halted, .bool H.waiting, .bool H.rung, .int .i64 H.done, .slice xa3 H.inn.length xk3, .slice xa4 H.out.length xk4])) := (mq_cells q _ w4 0).ho fun k e => by have := LT.out; omega
 generalize w4.setCells q 0 [.slice xa1 H.regs.length xk1, .int .i64 H.pc, .slice xa2 H.csr.length xk2, .bool H.halted, .bool H.waiting, .bool H.rung, .int .i64 H.done, .slice xa3 H.inn.length xk3, .slice xa4 H.out.length xk4] = w5 at *
 refine hK.out _ _ S5.out (fun _ => ?_)
 clear hK K
 refine wpAnyH_done (by kernel_rfl) ?_ _
 have E1 : W.heap.size ≤ w1.heap.size := S1.out.1.size
 have E2 : W.heap.size ≤ w2.heap.size := S2.out.1.size
 have E3 : W.heap.size ≤ w3.heap.size := S3.out.1.size
 have Q1 : Nums w5 W.heap.size (.slice xa1 H.regs.length xk1) H.regs := Nums.ho (show Nums w1 W.heap.size _ H.regs from N1.out) (H2.out.trans (H3.out.trans (H4.out.trans H5.out)))
 have Q2 : Nums w5 W.heap.size (.slice xa2 H.csr.length xk2) H.csr := (N2.out.mono E1).ho (H3.out.trans (H4.out.trans H5.out))
 have Q3 : Nums w5 W.heap.size (.slice xa3 H.inn.length xk3) H.inn := (N3.out.mono E2).ho (H4.out.trans H5.out)
 have Q4 : Nums w5 W.heap.size (.slice xa4 H.out.length xk4) H.out := (N4.out.mono E3).ho H5.out
 have A12 := N1.out.apt N2.out (Nat.le_refl _)
 have A13 := N1.out.apt N3.out G2.out
 have A14 := N1.out.apt N4.out (Nat.le_trans G2.out G3.out)
 have A23 := N2.out.apt N3.out (Nat.le_refl _)
 have A24 := N2.out.apt N4.out G3.out
 have A34 := N3.out.apt N4.out (Nat.le_refl _)
 have B5 : Below w.heap.size w w5 := Mq.under B0.out S5.out.1 fun k e => by have := HQ.out; omega
 have LD := run_loadVar_mid (P := Tryz.prog) w5 q 0 26 [.slice xa1 H.regs.length xk1, .int .i64 H.pc, .slice xa2 H.csr.length xk2, .bool H.halted, .bool H.waiting, .bool H.rung, .int .i64 H.done, .slice xa3 H.inn.length xk3, .slice xa4 H.out.length xk4] _ R5.out Tryz.underlying26 rfl (by kernel_rfl)
 clear q16 q28 q29 q30 q31 q32 q33
 go_wp2_with fail
 exact bodyPost_ret (v := .agg #[.slice xa1 H.regs.length xk1, .int .i64 H.pc, .slice xa2 H.csr.length xk2, .bool H.halted, .bool H.waiting, .bool H.rung, .int .i64 H.done, .slice xa3 H.inn.length xk3, .slice xa4 H.out.length xk4]) (by simp [results, Tryz.results78, asAddr]; rw [LD]) rfl
  ⟨_, _, _, _, rfl, ⟨Q1.mono B0.out.size, Q2.mono B0.out.size, Q3.mono B0.out.size, Q4.mono B0.out.size⟩, ⟨A12, A13, A14, A23, A24, A34⟩, B5⟩
theorem Dh.newOut {w0 v v' : World} {b k : Nat} {a : Option Addr} {len cap : Nat} {zs : List Int} {R q : Nat} {r c i o o' : Value} {H : Ht} {ys : List Int} (h : Dh w0 v b k a len cap zs R q r c i o H) (n : Nums v' v.heap.size o' ys) (bl : Below v.heap.size v v') :
  Dh w0 (v'.setCell ⟨q, 8, none⟩ o') b k a len cap zs R q r c i o' { H with out := ys } := by
 have hb := h.hb; have hq := h.hq; have hR := h.hR
 have hql := h.var.lt
 have m := h.m.keep bl
 have nq : ∀ x, Own4 r c i o' x → x ≠ q := fun x e => by
  rcases e with e | e | e | e
  ·exact h.nq x (.inl e)
  ·exact h.nq x (.inr (.inl e))
  ·exact h.nq x (.inr (.inr (.inl e)))
  ·have := (n.lt x e).1; omega
 exact ⟨src_put (h.src.turn (Turn.of_below (b := v.heap.size) bl) (Nat.le_refl _)) _ _ (by show b < q; omega), ⟨m.r.put _ _ (fun e => nq q (.inl e) rfl), m.c.put _ _ (fun e => nq q (.inr (.inl e)) rfl), m.i.put _ _ (fun e => nq q (.inr (.inr (.inl e))) rfl), (n.mono (by omega)).put _ _ (fun e => nq q (.inr (.inr (.inr e))) rfl)⟩,
  ⟨h.ap.rc, h.ap.ri, h.m.r.apt n (Nat.le_refl _), h.ap.ci, h.m.c.apt n (Nat.le_refl _), h.m.i.apt n (Nat.le_refl _)⟩, (h.var.keep bl).set 8 _, (h.res.keep bl).put _ _ (by show R ≠ q; omega), turn_put (h.g.trans (Turn.of_below bl)) _ _ (by show w0.heap.size ≤ q; omega), nq, hb, hq, hR, h.r16, h.c11⟩
theorem src_mq {w w' : World} {b k R : Nat} {a : Option Addr} {len cap : Nat} {zs : List Int} (s : Src w b k a len cap zs) (m : Mq (fun x => x = R) w w') (hb : b < R) : Src w' b k a len cap zs := by
 have hh := s.here
 have hbk : ∀ x, x ≤ b → x < w.heap.size → w'.heap[x]? = w.heap[x]? := fun x hx hl => m.block x hl (by omega)
 have hcell : ∀ (p : Addr) (u : Value), p.block ≤ b → w.cell? p = some u → w'.cell? p = some u := fun p u hp hu => by
  have hl := block_of_cell hu
  unfold World.cell? at *
  rw [hbk _ hp hl]
  exact hu
 refine ⟨hcell _ _ (Nat.le_refl _) s.code, hcell _ _ (Nat.le_refl _) s.count, ?_, ?_, s.away, Nat.lt_of_lt_of_le hh m.size⟩
 ·rw [World.frozen?_of_block (w := w) (hbk b (Nat.le_refl _) hh)]; exact s.free
 ·rcases s.row with h0 | ⟨x, rfl, q1, q2, q3, q4, q5⟩
  ·exact .inl h0
  ·refine .inr ⟨x, rfl, q1, q2, q3, fun j hj => hcell _ _ ?_ (q4 j hj), q5⟩
   have hx := s.away x rfl (by omega)
   rw [src_block]
   omega
theorem three_at (w : World) (x y z : Int) (t : TypeId) : ∀ i, i < 3 → ∃ v : Int, (w.alloc (.cells #[.int .i64 x, .int .i64 y, .int .i64 z] t)).cell? ⟨w.heap.size, i, none⟩ = some (.int .i64 v) ∧ True := by
 intro i hi
 have e : i = 0 ∨ i = 1 ∨ i = 2 := by omega
 rcases e with rfl | rfl | rfl
 ·exact ⟨x, cell_new rfl, trivial⟩
 ·exact ⟨y, cell_new rfl, trivial⟩
 ·exact ⟨z, cell_new rfl, trivial⟩
variable {w : World} {b k : Nat} {a : Option Addr} {len cap : Nat} {zs : List Int}
theorem hart_any (s : Src w b k a len cap zs) (hk : k ≤ 50000) :
  Calls Tryz.prog 91 #[.pointer (some ⟨b, 0, none⟩)] w fun e w' => ∃ r c i o H, e = .returned (.agg #[r, .int .i64 H.pc, c, .bool H.halted, .bool H.waiting, .bool H.rung, .int .i64 H.done, i, o]) ∧ Hm w' w.heap.size r c i o H ∧ Ha r c i o ∧ H.regs.length = 16 ∧ H.csr.length = 11 ∧ Turn b w w' ∧ ∃ k', k' ≤ k + 1000 ∧ Src w' b k' a len cap zs := by
 have HK := hid hk
 have S0 := hid s
 obtain ⟨R, hR⟩ : ∃ R, w.heap.size = R := ⟨_, rfl⟩
 have HR := hid hR
 have BR : Hid (b < R) := by show _ < _; rw [← hR]; exact s.here
 generalize hW : (w.alloc (.cells #[.slice none 0 0, .int .i64 0, .slice none 0 0, .bool false, .bool false, .bool false, .int .i64 0, .slice none 0 0, .slice none 0 0] 26)).alloc (.cells #[.int .i64 7, .int .i64 8] 2) = W
 have z1 : R + 1 = (w.alloc (.cells #[.slice none 0 0, .int .i64 0, .slice none 0 0, .bool false, .bool false, .bool false, .int .i64 0, .slice none 0 0, .slice none 0 0] 26)).heap.size := by rw [← hR]; simp
 have VR : Hid (Vb W R #[.slice none 0 0, .int .i64 0, .slice none 0 0, .bool false, .bool false, .bool false, .int .i64 0, .slice none 0 0, .slice none 0 0] 26) := by show Vb _ _ _ _; rw [← hW, ← hR]; exact (Vb.new _ _ _).push _
 have VL : Hid (Vb W (R + 1) #[.int .i64 7, .int .i64 8] 2) := by show Vb _ _ _ _; rw [← hW, z1]; exact Vb.new _ _ _
 have SW : Hid (Src W b k a len cap zs) := by show Src _ _ _ _ _ _ _; rw [← hW]; exact (s.alloc _).alloc _
 have TW : Hid (Turn b w W) := by show Turn _ _ _; rw [← hW]; exact (Turn.alloc _ _ _).trans (Turn.alloc _ _ _)
 clear s z1
 go_enter Tryz.func91, Tryz.ntmps91
 go_wp2_with fail
 clear hW hR
 refine (next_any SW.out (by have := HK.out; omega) _).mono ?_
 rintro e w1 ⟨v, rfl, hv, -, t1, s1⟩
 obtain ⟨hv0, hv1⟩ := hv (by decide)
 obtain ⟨n, rfl⟩ := Int.eq_ofNat_of_zero_le hv0
 have hn : n ≤ 2 := by omega
 have S1 := hid s1
 have T1 : Hid (Turn b w w1) := TW.out.trans t1
 have VR1 : Hid (Vb w1 R #[.slice none 0 0, .int .i64 0, .slice none 0 0, .bool false, .bool false, .bool false, .int .i64 0, .slice none 0 0, .slice none 0 0] 26) := (turn_mq t1).vb VR.out (by have := BR.out; omega)
 have VL1 : Hid (Vb w1 (R + 1) #[.int .i64 7, .int .i64 8] 2) := (turn_mq t1).vb VL.out (by have := BR.out; omega)
 have NZ : Hid (∃ ys, Nums w1 (R + 1) (.slice (some ⟨R + 1, 0, none⟩) n 2) ys ∧ newR ys = (0, newV ys)) := by
  have e : n = 0 ∨ n = 1 ∨ n = 2 := by omega
  rcases e with rfl | rfl | rfl
  ·exact ⟨[], ⟨rfl, .inr ⟨R + 1, 2, _, rfl, Nat.le_refl _, VL1.out, by decide, by decide, rfl, rfl⟩⟩, newR_small (by decide) (by decide)⟩
  ·exact ⟨[7], ⟨rfl, .inr ⟨R + 1, 2, _, rfl, Nat.le_refl _, VL1.out, by decide, by decide, rfl, rfl⟩⟩, newR_small (by decide) (by decide)⟩
  ·exact ⟨[7, 8], ⟨rfl, .inr ⟨R + 1, 2, _, rfl, Nat.le_refl _, VL1.out, by decide, by decide, rfl, rfl⟩⟩, newR_small (by decide) (by decide)⟩
 have hI2 : (n : Int) ≤ 2 := by omega
 clear hv t1 s1
 go_wp2_with fail
 obtain ⟨ys, NY, hnew⟩ := NZ.out
 refine (s_newHart8 _ ys _ _ NY).mono ?_
 rintro e w2 ⟨r, c, i, o, rfl, m2, A2, b2⟩
 rw [hnew] at m2 ⊢
 obtain ⟨H0, hH0⟩ : ∃ H, newV ys = H := ⟨_, rfl⟩
 have L0 : Hid (H0.regs.length = 16 ∧ H0.csr.length = 11) := by rw [← hH0]; exact ⟨rfl, rfl⟩
 simp only [hH0] at m2 ⊢
 obtain ⟨a0, k0, rfl, _, _, g0⟩ := m2.r.shape
 obtain ⟨a1, k1, rfl, _, _, g1⟩ := m2.c.shape
 obtain ⟨a2, k2, rfl, _⟩ := m2.i.shape
 obtain ⟨a3, k3, rfl, _⟩ := m2.o.shape
 obtain ⟨y0, rfl⟩ := g0 (by rw [L0.out.1]; decide)
 obtain ⟨y1, rfl⟩ := g1 (by rw [L0.out.2]; decide)
 rw [L0.out.1] at m2 A2 ⊢
 rw [L0.out.2] at m2 A2 ⊢
 generalize H0.inn.length = n2 at *
 generalize H0.out.length = n3 at *
 have fh : ∀ w', (Instr.field 178 (.agg #[.int .i64 0, .slice (some ⟨y0, 0, none⟩) 16 k0, .int .i64 H0.pc, .slice (some ⟨y1, 0, none⟩) 11 k1, .bool H0.halted, .bool H0.waiting, .bool H0.rung, .int .i64 H0.done, .slice a2 n2 k2, .slice a3 n3 k3]) 1).run Tryz.prog w' = .ok (.agg #[.slice (some ⟨y0, 0, none⟩) 16 k0, .int .i64 H0.pc, .slice (some ⟨y1, 0, none⟩) 11 k1, .bool H0.halted, .bool H0.waiting, .bool H0.rung, .int .i64 H0.done, .slice a2 n2 k2, .slice a3 n3 k3]) w' := fun w' => field_hart _ _ _ _ _ _ _ _ _ _ w'
 have SZ : Hid (R + 2 ≤ w1.heap.size) := by have := VL1.out.lt; show _ ≤ _; omega
 obtain ⟨q, hq⟩ : ∃ q, w2.heap.size = q := ⟨_, rfl⟩
 have D0 : Hid (Dh w (w2.alloc (.cells #[.slice (some ⟨y0, 0, none⟩) 16 k0, .int .i64 H0.pc, .slice (some ⟨y1, 0, none⟩) 11 k1, .bool H0.halted, .bool H0.waiting, .bool H0.rung, .int .i64 H0.done, .slice a2 n2 k2, .slice a3 n3 k3] 26)) b (k + 1) a len cap zs R q (.slice (some ⟨y0, 0, none⟩) 16 k0) (.slice (some ⟨y1, 0, none⟩) 11 k1) (.slice a2 n2 k2) (.slice a3 n3 k3) H0) := by
  have hRR := HR.out; have hBR := BR.out; have hSZ := SZ.out; have hb2 := b2.size
  refine ⟨((S1.out.turn (Turn.of_below (b := w1.heap.size) b2) (Nat.le_refl _)).alloc _), (m2.keep (al (Below.refl _ _) _)).mono (by omega), A2, by rw [← hq]; exact Vb.new _ _ _, (VR1.out.keep b2).push _, (T1.out.trans (Turn.of_below b2)).trans (Turn.alloc _ _ _), fun x e f => by have := (m2.own x e).2; omega, hBR, by omega, by omega, L0.out.1, L0.out.2⟩
 clear m2 A2 b2 hnew NY hH0 g0 g1
 go_wp2_with fail
 generalize w2.alloc (.cells #[.slice (some ⟨y0, 0, none⟩) 16 k0, .int .i64 H0.pc, .slice (some ⟨y1, 0, none⟩) 11 k1, .bool H0.halted, .bool H0.waiting, .bool H0.rung, .int .i64 H0.done, .slice a2 n2 k2, .slice a3 n3 k3] 26) = W2 at *
 clear hq fh
 go_loopw [4] (fun kk wr => ∃ (j k' : Nat) (H : Ht), 1 ≤ j ∧ j ≤ 16 ∧ kk = .int .i64 j ∧ k' ≤ k + 1 + 20 * j ∧ Dh w wr b k' a len cap zs R q (.slice (some ⟨y0, 0, none⟩) 16 k0) (.slice (some ⟨y1, 0, none⟩) 11 k1) (.slice a2 n2 k2) (.slice a3 n3 k3) H) (fun kk _ => 16 - (intOf kk).toNat)
 case atStart => exact ⟨1, k + 1, H0, by omega, by omega, rfl, by omega, D0.out⟩
 case round =>
  obtain ⟨j, k', H, hj1, hj, rfl, hk', hD⟩ := hrel
  have DD := hid hD
  have KB : Hid (k' ≤ k + 1 + 20 * j ∧ 1 ≤ j ∧ j ≤ 16) := ⟨hk', hj1, hj⟩
  clear hD hk'
  by_cases hlt : j < 16
  ·have hJ : (j : Int) < 16 := by omega
   have HL := hid hlt
   clear hlt hj hj1
   go_wp2_with (go_at_call 50; refine (chance_any DD.out.src (by have := KB.out; have := HK.out; omega) _).mono ?_; rintro e u1 ⟨cv, rfl, t1, s1⟩; have D1 : Hid (Dh w u1 b (k' + 1) a len cap zs R q (.slice (some ⟨y0, 0, none⟩) 16 k0) (.slice (some ⟨y1, 0, none⟩) 11 k1) (.slice a2 n2 k2) (.slice a3 n3 k3) H) := DD.out.turn t1 s1; clear t1 s1; cases cv)
   ·go_roundw
    case rel => exact ⟨j + 1, _, _, by have := HL.out; omega, by have := HL.out; omega, by go_num, by have := KB.out; omega, D1.out⟩
    case measure => have := HL.out; simp [intOf]; omega
   ·skip
    have DR : Hid (Dh w u1.drew b (k' + 1) a len cap zs R q (.slice (some ⟨y0, 0, none⟩) 16 k0) (.slice (some ⟨y1, 0, none⟩) 11 k1) (.slice a2 n2 k2) (.slice a3 n3 k3) H) := D1.out.turn (Turn.of_below (Below.refl _ _).drew) (D1.out.src.turn (Turn.of_below (b := u1.heap.size) (Below.refl _ _).drew) (Nat.le_refl _))
    refine wp_region_held (S := fun w' => w'.cell? ⟨q, 0, none⟩ = some (.slice (some ⟨y0, 0, none⟩) 16 k0)) (by kernel_rfl) ?_
    change wpAnyH _ _ _ _ _ _ _ _ (World.drew _)
    have SD : Hid (u1.drew.cell? ⟨q, 0, none⟩ = some (.slice (some ⟨y0, 0, none⟩) 16 k0)) := DR.out.var.cell 0 rfl
    refine wpTd 0 18 (.pointer (some ⟨q, 0, none⟩)) rfl SD.out ?_
    simp only [Act.put, zT, zZ, zS]
    refine wpTd 1 19 ((.slice (some ⟨y0, 0, none⟩) 16 k0)) rfl SD.out ?_
    simp only [Act.put, zT, zZ, zS]
    refine wpTd 2 20 (.int .i64 (j : Int)) rfl SD.out ?_
    simp only [Act.put, zT, zZ, zS]
    refine wpTd 3 21 (.pointer (some ⟨b, 0, none⟩)) rfl SD.out ?_
    simp only [Act.put, zT, zZ, zS]
    refine wpTd 4 22 (.pointer (some ⟨b, 0, none⟩)) rfl SD.out ?_
    simp only [Act.put, zT, zZ, zS]
    refine wpTd 6 24 (.pointer (some ⟨b, 0, none⟩)) rfl SD.out ?_
    simp only [Act.put, zT, zZ, zS]
    refine wpTd 8 26 (.pointer (some ⟨b, 0, none⟩)) rfl SD.out ?_
    simp only [Act.put, zT, zZ, zS]
    refine zR 5 rfl fun K hK => ?_
    rw [if_pos (by rfl)]
    go_simp
    refine (word_any DR.out.src (by have := KB.out; have := HK.out; omega)).mono ?_
    rintro e u2 ⟨x1, rfl, -, t1, s1⟩
    have D2 := hid (DR.out.turn t1 s1)
    clear t1 s1
    refine hK.out _ _ (D2.out.var.cell 0 rfl) (fun _ => ?_)
    clear hK K
    refine zR 7 rfl fun K hK => ?_
    rw [if_pos (by rfl)]
    go_simp
    refine (next_any D2.out.src (by have := KB.out; have := HK.out; omega) _).mono ?_
    rintro e u3 ⟨x2, rfl, -, -, t1, s1⟩
    have D3 := hid (D2.out.turn t1 s1)
    clear t1 s1
    refine hK.out _ _ (D3.out.var.cell 0 rfl) (fun _ => ?_)
    clear hK K
    refine zR 9 rfl fun K hK => ?_
    rw [if_pos (by rfl)]
    go_simp
    refine (next_any D3.out.src (by have := KB.out; have := HK.out; omega) _).mono ?_
    rintro e u4 ⟨x3, rfl, hx3, -, t1, s1⟩
    have D4 := hid (D3.out.turn t1 s1)
    clear t1 s1
    refine hK.out _ _ (D4.out.var.cell 0 rfl) (fun _ => ?_)
    clear hK K
    obtain ⟨x30, x31⟩ := hx3 (by decide)
    clear hx3
    have hw56 : IntKind.i64.wrap (56 + x3) = 56 + x3 := by rw [IntKind.wrap_i64]; omega
    refine wpTk (i := 10) (v := .int .i64 (56 + x3)) rfl (Or.inl ⟨by rfl, fun w' hs => by go_simp⟩) (D4.out.var.cell 0 rfl) ?_
    change wpAnyH _ _ _ _ _ _ _ (Act.put _ (some 28) _) _
    simp only [Act.put, zT, zZ, zS]
    refine zR 11 rfl fun K hK => ?_
    rw [if_pos (by rfl)]
    go_simp
    have D5 : Hid (Dh w (u4.alloc (.cells #[.int .i64 x1, .int .i64 x2, .int .i64 (56 + x3)] 2)) b (k' + 1 + 5 + 1 + 1) a len cap zs R q (.slice (some ⟨y0, 0, none⟩) 16 k0) (.slice (some ⟨y1, 0, none⟩) 11 k1) (.slice a2 n2 k2) (.slice a3 n3 k3) H) := D4.out.turn (Turn.alloc _ _ _) (D4.out.src.alloc _)
    refine hK.out _ _ (D5.out.var.cell 0 rfl) (fun _ => ?_)
    clear hK K
    refine zR 12 rfl fun K hK => ?_
    rw [if_pos (by rfl)]
    go_simp
    refine (pick_any D5.out.src (by have := KB.out; have := HK.out; omega) (fun _ => True) _ 3 (by decide) (by decide) (by simp) (by have := D4.out.src.here; omega) (three_at _ _ _ _ _)).mono ?_
    rintro e u6 ⟨x6, rfl, -, t1, s1⟩
    have D6 := hid (D5.out.turn t1 s1)
    clear t1 s1
    refine hK.out _ _ (D6.out.var.cell 0 rfl) (fun _ => ?_)
    clear hK K
    refine wpTk (i := 13) (v := .pointer (some ⟨y0, j, none⟩)) rfl (Or.inl ⟨by rfl, fun w' hs => by go_simp⟩) (D6.out.var.cell 0 rfl) ?_
    change wpAnyH _ _ _ _ _ _ _ (Act.put _ (some 31) _) _
    simp only [Act.put, zT, zZ, zS]
    have cj := D6.out.m.r.cell D6.out.r16.symm j HL.out
    have fj := D6.out.m.r.free D6.out.r16.symm j
    have D7 : Hid (Dh w (u6.setCell ⟨y0, j, none⟩ (.int .i64 x6)) b (k' + 1 + 5 + 1 + 1 + 1) a len cap zs R q (.slice (some ⟨y0, 0, none⟩) 16 k0) (.slice (some ⟨y1, 0, none⟩) 11 k1) (.slice a2 n2 k2) (.slice a3 n3 k3) { H with regs := H.regs.set j x6 }) := D6.out.reg j x6
    refine zR 14 rfl fun K hK => ?_
    rw [if_pos (by rfl)]
    go_simp
    refine hK.out _ _ (D7.out.var.cell 0 rfl) (fun _ => ?_)
    clear hK K
    refine wpAnyH_done (by kernel_rfl) ?_ _
    generalize u6.setCell ⟨y0, j, none⟩ (.int .i64 x6) = u7 at *
    clear cj fj
    go_wp2_with fail
    go_roundw
    case rel => exact ⟨j + 1, _, _, by have := HL.out; omega, by have := HL.out; omega, by go_num, by have := KB.out; omega, D7.out⟩
    case measure => have := HL.out; simp [intOf]; omega
  ·have hJ : ¬ (j : Int) < 16 := by omega
   clear hj1 hlt hj
   go_wp2_with fail
   refine (next_any DD.out.src (by have := KB.out; have := HK.out; omega) _).mono ?_
   rintro e u1 ⟨x1, rfl, -, -, t1, s1⟩
   have D1 := hid (DD.out.turn t1 s1)
   clear t1 s1
   go_wp2_with fail
   refine (next_any D1.out.src (by have := KB.out; have := HK.out; omega) _).mono ?_
   rintro e u2 ⟨x2, rfl, -, -, t1, s1⟩
   have D2 := hid (D1.out.turn t1 s1)
   clear t1 s1
   go_wp2_with fail
   refine (word_any D2.out.src (by have := KB.out; have := HK.out; omega)).mono ?_
   rintro e u3 ⟨x3, rfl, -, t1, s1⟩
   have D3 := hid (D2.out.turn t1 s1)
   clear t1 s1
   have D4 : Hid (Dh w (u3.alloc (.cells #[.int .i64 x1, .int .i64 x2, .int .i64 x3] 2)) b (k' + 1 + 1 + 5) a len cap zs R q (.slice (some ⟨y0, 0, none⟩) 16 k0) (.slice (some ⟨y1, 0, none⟩) 11 k1) (.slice a2 n2 k2) (.slice a3 n3 k3) H) := D3.out.turn (Turn.alloc _ _ _) (D3.out.src.alloc _)
   go_wp2_with fail
   refine (pick_any D4.out.src (by have := KB.out; have := HK.out; omega) (fun _ => True) _ 3 (by decide) (by decide) (by simp) (by have := D3.out.src.here; omega) (three_at _ _ _ _ _)).mono ?_
   rintro e u5 ⟨x5, rfl, -, t1, s1⟩
   have D5 := hid (D4.out.turn t1 s1)
   clear t1 s1
   have c1 := D5.out.var.cell 1 rfl
   have f1 := D5.out.var.free 1
   have D6 : Hid (Dh w (u5.setCell ⟨q, 1, none⟩ (.int .i64 x5)) b (k' + 1 + 1 + 5 + 1) a len cap zs R q (.slice (some ⟨y0, 0, none⟩) 16 k0) (.slice (some ⟨y1, 0, none⟩) 11 k1) (.slice a2 n2 k2) (.slice a3 n3 k3) { H with pc := x5 }) := D5.out.fld 1 _ _ rfl rfl rfl rfl (D5.out.var.set 1 _)
   go_wp2_with fail
   generalize u5.setCell ⟨q, 1, none⟩ (.int .i64 x5) = u6 at *
   clear c1 f1
   refine (next_any D6.out.src (by have := KB.out; have := HK.out; omega) _).mono ?_
   rintro e u7 ⟨x7, rfl, -, -, t1, s1⟩
   have D7 := hid (D6.out.turn t1 s1)
   clear t1 s1
   have c6 := D7.out.var.cell 6 rfl
   have f6 := D7.out.var.free 6
   have D8 : Hid (Dh w (u7.setCell ⟨q, 6, none⟩ (.int .i64 x7)) b (k' + 1 + 1 + 5 + 1 + 1) a len cap zs R q (.slice (some ⟨y0, 0, none⟩) 16 k0) (.slice (some ⟨y1, 0, none⟩) 11 k1) (.slice a2 n2 k2) (.slice a3 n3 k3) { H with pc := x5, done := x7 }) := D7.out.fld 6 _ _ rfl rfl rfl rfl (D7.out.var.set 6 _)
   go_wp2_with fail
   generalize u7.setCell ⟨q, 6, none⟩ (.int .i64 x7) = u8 at *
   generalize ({ H with pc := x5, done := x7 } : Ht) = H8 at *
   clear c6 f6
   go_loopw [5] (fun kk wr => ∃ (j k9 : Nat) (H : Ht), j ≤ 11 ∧ kk = .int .i64 j ∧ k9 ≤ k + 400 + 20 * j ∧ Dh w wr b k9 a len cap zs R q (.slice (some ⟨y0, 0, none⟩) 16 k0) (.slice (some ⟨y1, 0, none⟩) 11 k1) (.slice a2 n2 k2) (.slice a3 n3 k3) H) (fun kk _ => 11 - (intOf kk).toNat)
   case atStart => exact ⟨0, _, H8, by omega, rfl, by have := KB.out; omega, D8.out⟩
   case round =>
    clear KB DD D1 D2 D3 D4 D5 D6 D7 D8
    obtain ⟨j, k', H, hj, rfl, hk', hD⟩ := hrel
    have DD := hid hD
    have KB : Hid (k' ≤ k + 400 + 20 * j ∧ j ≤ 11) := ⟨hk', hj⟩
    clear hD hk'
    by_cases hlt : j < 11
    ·have hJ : (j : Int) < 11 := by omega
     have HL := hid hlt
     clear hlt hj
     go_wp2_with (go_at_call 50; refine (chance_any DD.out.src (by have := KB.out; have := HK.out; omega) _).mono ?_; rintro e u1 ⟨cv, rfl, t1, s1⟩; have D1 : Hid (Dh w u1 b (k' + 1) a len cap zs R q (.slice (some ⟨y0, 0, none⟩) 16 k0) (.slice (some ⟨y1, 0, none⟩) 11 k1) (.slice a2 n2 k2) (.slice a3 n3 k3) H) := DD.out.turn t1 s1; clear t1 s1; cases cv)
     ·go_roundw
      case rel => exact ⟨j + 1, _, _, by have := HL.out; omega, by go_num, by have := KB.out; omega, D1.out⟩
      case measure => have := HL.out; simp [intOf]; omega
     ·skip
      refine (next_any D1.out.src (by have := KB.out; have := HK.out; omega) _).mono ?_
      rintro e u2 ⟨x2, rfl, -, -, t1, s1⟩
      have D2 := hid (D1.out.turn t1 s1)
      clear t1 s1
      go_wp2_with fail
      refine (next_any D2.out.src (by have := KB.out; have := HK.out; omega) _).mono ?_
      rintro e u3 ⟨x3, rfl, -, -, t1, s1⟩
      have D3 := hid (D2.out.turn t1 s1)
      clear t1 s1
      go_wp2_with fail
      refine (word_any D3.out.src (by have := KB.out; have := HK.out; omega)).mono ?_
      rintro e u4 ⟨x4, rfl, -, t1, s1⟩
      have D4 := hid (D3.out.turn t1 s1)
      clear t1 s1
      have D5 : Hid (Dh w (u4.alloc (.cells #[.int .i64 x2, .int .i64 x3, .int .i64 x4] 2)) b (k' + 1 + 1 + 1 + 5) a len cap zs R q (.slice (some ⟨y0, 0, none⟩) 16 k0) (.slice (some ⟨y1, 0, none⟩) 11 k1) (.slice a2 n2 k2) (.slice a3 n3 k3) H) := D4.out.turn (Turn.alloc _ _ _) (D4.out.src.alloc _)
      go_wp2_with fail
      refine (pick_any D5.out.src (by have := KB.out; have := HK.out; omega) (fun _ => True) _ 3 (by decide) (by decide) (by simp) (by have := D4.out.src.here; omega) (three_at _ _ _ _ _)).mono ?_
      rintro e u6 ⟨x6, rfl, -, t1, s1⟩
      have D6 := hid (D5.out.turn t1 s1)
      clear t1 s1
      go_wp2_with fail
      refine (s_set_any q _ _ _ _ H (j : Int) x6 (R + 1) _ D6.out.m D6.out.ap D6.out.var D6.out.nq D6.out.c11 (by omega) (by have := HL.out; omega)).mono ?_
      rintro e u7 ⟨rfl, H', s7, h1, h2⟩
      have D7 : Hid (Dh w u7 b (k' + 1 + 1 + 1 + 5 + 1) a len cap zs R q (.slice (some ⟨y0, 0, none⟩) 16 k0) (.slice (some ⟨y1, 0, none⟩) 11 k1) (.slice a2 n2 k2) (.slice a3 n3 k3) H') := D6.out.sv s7 (h1.trans D6.out.r16) h2
      clear s7 h1 h2
      go_wp2_with fail
      go_roundw
      case rel => exact ⟨j + 1, _, _, by have := HL.out; omega, by go_num, by have := KB.out; omega, D7.out⟩
      case measure => have := HL.out; simp [intOf]; omega
    ·have hJ : ¬ (j : Int) < 11 := by omega
     clear hlt hj
     go_wp2_with fail
     refine (chance_any DD.out.src (by have := KB.out; have := HK.out; omega) _).mono ?_
     rintro e p1 ⟨cv1, rfl, t1, s1⟩
     have E1 := hid (DD.out.turn t1 s1)
     clear t1 s1
     have c := E1.out.var.cell 5 rfl
     have f := E1.out.var.free 5
     have E2 : Hid (Dh w (p1.setCell ⟨q, 5, none⟩ (.bool cv1)) b (k' + 1) a len cap zs R q (.slice (some ⟨y0, 0, none⟩) 16 k0) (.slice (some ⟨y1, 0, none⟩) 11 k1) (.slice a2 n2 k2) (.slice a3 n3 k3) { H with rung := cv1 }) := E1.out.fld 5 _ _ rfl rfl rfl rfl (E1.out.var.set 5 _)
     go_wp2_with fail
     generalize p1.setCell ⟨q, 5, none⟩ (.bool cv1) = p2 at *
     clear c f
     refine (chance_any E2.out.src (by have := KB.out; have := HK.out; omega) _).mono ?_
     rintro e p3 ⟨cv2, rfl, t1, s1⟩
     have E3 := hid (E2.out.turn t1 s1)
     clear t1 s1
     have c := E3.out.var.cell 4 rfl
     have f := E3.out.var.free 4
     have E4 : Hid (Dh w (p3.setCell ⟨q, 4, none⟩ (.bool cv2)) b (k' + 1 + 1) a len cap zs R q (.slice (some ⟨y0, 0, none⟩) 16 k0) (.slice (some ⟨y1, 0, none⟩) 11 k1) (.slice a2 n2 k2) (.slice a3 n3 k3) { H with rung := cv1, waiting := cv2 }) := E3.out.fld 4 _ _ rfl rfl rfl rfl (E3.out.var.set 4 _)
     go_wp2_with fail
     generalize p3.setCell ⟨q, 4, none⟩ (.bool cv2) = p4 at *
     clear c f
     refine (chance_any E4.out.src (by have := KB.out; have := HK.out; omega) _).mono ?_
     rintro e p5 ⟨cv3, rfl, t1, s1⟩
     have E5 := hid (E4.out.turn t1 s1)
     clear t1 s1
     have c := E5.out.var.cell 3 rfl
     have f := E5.out.var.free 3
     have E6 : Hid (Dh w (p5.setCell ⟨q, 3, none⟩ (.bool cv3)) b (k' + 1 + 1 + 1) a len cap zs R q (.slice (some ⟨y0, 0, none⟩) 16 k0) (.slice (some ⟨y1, 0, none⟩) 11 k1) (.slice a2 n2 k2) (.slice a3 n3 k3) { H with rung := cv1, waiting := cv2, halted := cv3 }) := E5.out.fld 3 _ _ rfl rfl rfl rfl (E5.out.var.set 3 _)
     go_wp2_with fail
     generalize p5.setCell ⟨q, 3, none⟩ (.bool cv3) = p6 at *
     clear c f
     generalize ({ H with rung := cv1, waiting := cv2, halted := cv3 } : Ht) = G0 at *
     refine (chance_any E6.out.src (by have := KB.out; have := HK.out; omega) _).mono ?_
     rintro e p7 ⟨cv4, rfl, t1, s1⟩
     have E7 := hid (E6.out.turn t1 s1)
     clear t1 s1
     cases cv4
     ·obtain ⟨G, hG⟩ : ∃ G, G0 = G := ⟨_, rfl⟩
      rw [hG] at E7
      clear hG
      obtain ⟨l0, l1, l2, l3, l4, l5, l6, l7, l8⟩ := zc9 E7.out.var
      obtain ⟨r0, r1, r2, r3, r4, r5, r6, r7, r8⟩ := zc9 E7.out.res
      obtain ⟨f0, f1, f2, f3, f4, f5, f6, f7, f8⟩ := zf9 E7.out.res
      have NN : Hid (_ ∧ _) := nine E7.out.res (.slice (some ⟨y0, 0, none⟩) 16 k0) (.int .i64 G.pc) (.slice (some ⟨y1, 0, none⟩) 11 k1) (.bool G.halted) (.bool G.waiting) (.bool G.rung) (.int .i64 G.done) (.slice a2 n2 k2) (.slice a3 n3 k3)
      go_wp2_with fail
      clear l0 r0 f0 l1 r1 f1 l2 r2 f2 l3 r3 f3 l4 r4 f4 l5 r5 f5 l6 r6 f6 l7 r7 f7 l8 r8 f8
      generalize (((((((((p7.setCell ⟨R, 0, none⟩ (.slice (some ⟨y0, 0, none⟩) 16 k0)).setCell ⟨R, 1, none⟩ (.int .i64 G.pc)).setCell ⟨R, 2, none⟩ (.slice (some ⟨y1, 0, none⟩) 11 k1)).setCell ⟨R, 3, none⟩ (.bool G.halted)).setCell ⟨R, 4, none⟩ (.bool G.waiting)).setCell ⟨R, 5, none⟩ (.bool G.rung)).setCell ⟨R, 6, none⟩ (.int .i64 G.done)).setCell ⟨R, 7, none⟩ (.slice a2 n2 k2)).setCell ⟨R, 8, none⟩ (.slice a3 n3 k3)) = V at *
      obtain ⟨x0, x1, x2, x3, x4, x5, x6, x7, x8⟩ := zc9 NN.out.1
      have hb := E7.out.hb
      have hRR := E7.out.hR
      have TV : Turn b w V := ⟨NN.out.2.os.trans E7.out.g.os, NN.out.2.tape.trans E7.out.g.tape, NN.out.2.output.trans E7.out.g.output, Nat.le_trans E7.out.g.size NN.out.2.size, fun x hx hn => (NN.out.2.block x (Nat.lt_of_lt_of_le hx E7.out.g.size) (by omega)).trans (E7.out.g.block x hx hn)⟩
      have MV := NN.out.2.hm E7.out.m (fun x e f => by have := (E7.out.m.own x e).1; omega)
      exact bodyPost_ret (v := .agg #[.slice (some ⟨y0, 0, none⟩) 16 k0, .int .i64 G.pc, .slice (some ⟨y1, 0, none⟩) 11 k1, .bool G.halted, .bool G.waiting, .bool G.rung, .int .i64 G.done, .slice a2 n2 k2, .slice a3 n3 k3]) (by simp [results, Tryz.results91, go_sem, x0, x1, x2, x3, x4, x5, x6, x7, x8]) rfl
       ⟨_, _, _, _, G, rfl, MV.mono (by omega), E7.out.ap, E7.out.r16, E7.out.c11, TV, _, by have := KB.out; omega, src_mq E7.out.src NN.out.2 hb⟩
     ·obtain ⟨ti, hi, hz0, hz1, hz2⟩ := info_parts info_i64
      go_upto_region 19 with (at_make; refine wpList_make_full _ rfl _ _ 24 rfl p7.heap.size 2 ti _ 1 Tryz.underlying24 hi hz0 hz1 _ _ _ _ 40 rfl rfl rfl rfl (by rw [hz2]; omega) (by unfold maxLen; omega) (Nat.le_refl _) ?_; intro p8 hown hgrow; have bl : Below p7.heap.size p7 p8 := (Below.refl _ _).grown hgrow (Nat.le_refl _) (by simp); have c8 := (E7.out.var.keep bl).cell 8 rfl; have f8 := (E7.out.var.keep bl).free 8)
      have NO : Nums p8 p7.heap.size (.slice (some ⟨p7.heap.size, 0, none⟩) 40 40) (List.replicate 40 0) := Nums.made hown (by rw [Nat.mul_one, show (Value.int .i64 0).cells = #[.int .i64 0] from rfl, toList_madeCells_one]; simp)
      obtain ⟨py, hpy⟩ : ∃ py, p7.heap.size = py := ⟨_, rfl⟩
      have E8 := E7.out.newOut NO bl
      rw [hpy] at E8
      obtain ⟨G, hG⟩ : ∃ G, ({ G0 with out := List.replicate 40 0 } : Ht) = G := ⟨_, rfl⟩
      rw [hG] at E8
      have E9 : Hid (Dh w _ b _ a len cap zs R q _ _ _ _ G) := E8
      first | rw [hpy] | skip
      clear hown hgrow c8 f8 NO hi hz0 hz1 hz2 bl E8 hG hpy
      generalize p8.setCell ⟨q, 8, none⟩ (.slice (some ⟨py, 0, none⟩) 40 40) = p9 at *
      obtain ⟨l0, l1, l2, l3, l4, l5, l6, l7, l8⟩ := zc9 E9.out.var
      obtain ⟨r0, r1, r2, r3, r4, r5, r6, r7, r8⟩ := zc9 E9.out.res
      obtain ⟨f0, f1, f2, f3, f4, f5, f6, f7, f8⟩ := zf9 E9.out.res
      have NN : Hid (_ ∧ _) := nine E9.out.res (.slice (some ⟨y0, 0, none⟩) 16 k0) (.int .i64 G.pc) (.slice (some ⟨y1, 0, none⟩) 11 k1) (.bool G.halted) (.bool G.waiting) (.bool G.rung) (.int .i64 G.done) (.slice a2 n2 k2) (.slice (some ⟨py, 0, none⟩) 40 40)
      go_wp2_with fail
      clear l0 r0 f0 l1 r1 f1 l2 r2 f2 l3 r3 f3 l4 r4 f4 l5 r5 f5 l6 r6 f6 l7 r7 f7 l8 r8 f8
      generalize (((((((((p9.setCell ⟨R, 0, none⟩ (.slice (some ⟨y0, 0, none⟩) 16 k0)).setCell ⟨R, 1, none⟩ (.int .i64 G.pc)).setCell ⟨R, 2, none⟩ (.slice (some ⟨y1, 0, none⟩) 11 k1)).setCell ⟨R, 3, none⟩ (.bool G.halted)).setCell ⟨R, 4, none⟩ (.bool G.waiting)).setCell ⟨R, 5, none⟩ (.bool G.rung)).setCell ⟨R, 6, none⟩ (.int .i64 G.done)).setCell ⟨R, 7, none⟩ (.slice a2 n2 k2)).setCell ⟨R, 8, none⟩ (.slice (some ⟨py, 0, none⟩) 40 40)) = V at *
      obtain ⟨x0, x1, x2, x3, x4, x5, x6, x7, x8⟩ := zc9 NN.out.1
      have hb := E9.out.hb
      have hRR := E9.out.hR
      have TV : Turn b w V := ⟨NN.out.2.os.trans E9.out.g.os, NN.out.2.tape.trans E9.out.g.tape, NN.out.2.output.trans E9.out.g.output, Nat.le_trans E9.out.g.size NN.out.2.size, fun x hx hn => (NN.out.2.block x (Nat.lt_of_lt_of_le hx E9.out.g.size) (by omega)).trans (E9.out.g.block x hx hn)⟩
      have MV := NN.out.2.hm E9.out.m (fun x e f => by have := (E9.out.m.own x e).1; omega)
      exact bodyPost_ret (v := .agg #[.slice (some ⟨y0, 0, none⟩) 16 k0, .int .i64 G.pc, .slice (some ⟨y1, 0, none⟩) 11 k1, .bool G.halted, .bool G.waiting, .bool G.rung, .int .i64 G.done, .slice a2 n2 k2, .slice (some ⟨py, 0, none⟩) 40 40]) (by simp [results, Tryz.results91, go_sem, x0, x1, x2, x3, x4, x5, x6, x7, x8]) rfl
       ⟨_, _, _, _, G, rfl, MV.mono (by omega), E9.out.ap, E9.out.r16, E9.out.c11, TV, _, by have := KB.out; omega, src_mq E9.out.src NN.out.2 hb⟩
end Go.Proofs.YtaefollmeoepkaaGreatDoor
