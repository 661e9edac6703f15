/- Texts of this seat, joined. -/
import Derived.Deep.RegionHeld3
import Derived.Test.YtaefollmeoepkaaGreatDoorQ03
import Derived.Test.YtaefollmeoepkaaGreatDoorQ07
import Derived.Test.YtaefollmeoepkaaGreatDoorQ25
namespace Go.Proofs.YtaefollmeoepkaaGreatDoor
open Go.RowKit
set_option linter.unusedVariables false
theorem Vb.turn {w w' : World} {b q : Nat} {cs : Array Value} {t : TypeId} (h : Vb w q cs t) (k : Turn b w w') (hn : q ≠ b) : Vb w' q cs t := (k.block q h.lt hn).trans h
set_option maxHeartbeats 16000000 in
theorem ins7_any {w : World} {b k : Nat} {a : Option Addr} {len cap : Nat} {zs : List Int} (s : Src w b k a len cap zs) (hk : k ≤ 40000) :
    Calls Tryz.prog 94 #[.pointer (some ⟨b, 0, none⟩)] w fun e w' => ∃ (o d x i : Int) (k' : Nat), e = .returned (.agg #[.int .i64 o, .int .i64 d, .int .i64 x, .int .i64 i]) ∧ Turn b w w' ∧ Src w' b k' a len cap zs ∧ k' ≤ k + 10 := by
  have HH : Hid (b < w.heap.size) := s.here
  have s0 := s.alloc (.cells #[.int .i64 0, .int .i64 0, .int .i64 0, .int .i64 0] 43)
  have V0 : Hid (Vb (w.alloc (.cells #[.int .i64 0, .int .i64 0, .int .i64 0, .int .i64 0] 43)) w.heap.size #[.int .i64 0, .int .i64 0, .int .i64 0, .int .i64 0] 43) := Vb.new _ _ _
  go_enter Tryz.func94, Tryz.ntmps94
  go_wp2_with fail
  refine (next_any s0 (by omega) _).mono ?_
  rintro e w1 ⟨v1, rfl, h1, -, t1, s1⟩
  obtain ⟨l1, u1⟩ := h1 (by omega)
  clear h1
  go_wp2_with fail
  refine (next_any s1 (by omega) _).mono ?_
  rintro e w2 ⟨v2, rfl, h2, -, t2, s2⟩
  obtain ⟨l2, u2⟩ := h2 (by omega)
  have T2 : Hid (Turn b w w2) := (Turn.alloc b w _).trans (t1.trans t2)
  have V2 : Hid (Vb w2 w.heap.size #[.int .i64 0, .int .i64 0, .int .i64 0, .int .i64 0] 43) := (V0.out.turn t1 (by have := HH.out; omega)).turn t2 (by have := HH.out; omega)
  clear h2 t1 t2 s0 s1 V0
  have hv : v2 = 0 ∨ v2 = 1 ∨ v2 = 2 ∨ v2 = 3 ∨ v2 = 4 ∨ v2 = 5 ∨ v2 = 6 ∨ v2 = 7 ∨ v2 = 8 ∨ v2 = 9 ∨ v2 = 10 ∨ v2 = 11 ∨ v2 = 12 ∨ v2 = 13 := by omega
  clear l2 u2
  rcases hv with rfl | rfl | rfl | rfl | rfl | rfl | rfl | rfl | rfl | rfl | rfl | rfl | rfl | rfl
  · skip
    go_wp2_with fail
    refine (next_any s2 (by omega) _).mono ?_
    rintro e w3 ⟨v3, rfl, h3, -, t3, s3⟩
    obtain ⟨l3, u3⟩ := h3 (by omega)
    have T3 : Hid (Turn b w w3) := T2.out.trans t3
    have V3 : Hid (Vb w3 w.heap.size #[.int .i64 0, .int .i64 0, .int .i64 0, .int .i64 0] 43) := V2.out.turn t3 (by have := HH.out; omega)
    clear h3 t3 T2 V2
    go_wp2_with fail
    refine (next_any s3 (by omega) _).mono ?_
    rintro e w4 ⟨v4, rfl, h4, -, t4, s4⟩
    obtain ⟨l4, u4⟩ := h4 (by omega)
    have T4 : Hid (Turn b w w4) := T3.out.trans t4
    have V4 : Hid (Vb w4 w.heap.size #[.int .i64 0, .int .i64 0, .int .i64 0, .int .i64 0] 43) := V3.out.turn t4 (by have := HH.out; omega)
    clear h4 t4 T3 V3
    go_wp2_with fail
    refine (next_any s4 (by omega) _).mono ?_
    rintro e w5 ⟨v5, rfl, h5, -, t5, s5⟩
    obtain ⟨l5, u5⟩ := h5 (by omega)
    have T5 : Hid (Turn b w w5) := T4.out.trans t5
    have V5 : Hid (Vb w5 w.heap.size #[.int .i64 0, .int .i64 0, .int .i64 0, .int .i64 0] 43) := V4.out.turn t5 (by have := HH.out; omega)
    clear h5 t5 T4 V4
    go_wp2_with fail
    refine (next_any s5 (by omega) _).mono ?_
    rintro e w6 ⟨v6, rfl, h6, -, t6, s6⟩
    obtain ⟨l6, u6⟩ := h6 (by omega)
    have T6 : Hid (Turn b w w6) := T5.out.trans t6
    have V6 : Hid (Vb w6 w.heap.size #[.int .i64 0, .int .i64 0, .int .i64 0, .int .i64 0] 43) := V5.out.turn t6 (by have := HH.out; omega)
    clear h6 t6 T5 V5
    go_wp2_with fail
    have hb7 := s6.here
    refine (pick_any (s6.alloc _) (by omega) (fun _ => True) _ 4 (by omega) (by omega) (by simp) (by omega) ?_).mono ?_
    · intro i hi
      have : i = 0 ∨ i = 1 ∨ i = 2 ∨ i = 3 := by omega
      rcases this with rfl | rfl | rfl | rfl
      all_goals exact ⟨_, cell_new rfl, trivial⟩
    rintro e w7 ⟨v7, rfl, -, t7, s7⟩
    have T7 : Hid (Turn b w w7) := T6.out.trans ((Turn.alloc b _ _).trans t7)
    have V7 : Hid (Vb w7 w.heap.size #[.int .i64 0, .int .i64 0, .int .i64 0, .int .i64 0] 43) := (V6.out.push _).turn t7 (by have := HH.out; omega)
    clear t7 T6 V6 hb7
    have S7 : Hid (Src w7 b _ a len cap zs) := s7
    have k0 := V7.out.cell 0 rfl
    have k1 := V7.out.cell 1 rfl
    have k2 := V7.out.cell 2 rfl
    have k3 := V7.out.cell 3 rfl
    have f0 := V7.out.free 0
    have f1 := V7.out.free 1
    have f2 := V7.out.free 2
    have f3 := V7.out.free 3
    have sz := V7.out.lt
    clear s2 s3 s4 s5 s6 s7
    go_wp2_with fail
    exact bodyPost_ret (v := .agg #[.int .i64 (12), .int .i64 (1 + v1), .int .i64 (v3), .int .i64 (v7)]) (by simp [results, Tryz.results94, go_sem, k0, k1, k2, k3]) rfl ⟨_, _, _, _, _, rfl, (((T7.out.putC (p := ⟨w.heap.size, 0, none⟩) (Nat.le_refl _) _).putC (p := ⟨w.heap.size, 1, none⟩) (Nat.le_refl _) _).putC (p := ⟨w.heap.size, 2, none⟩) (Nat.le_refl _) _).putC (p := ⟨w.heap.size, 3, none⟩) (Nat.le_refl _) _, (((S7.out.putC (p := ⟨w.heap.size, 0, none⟩) HH.out _).putC (p := ⟨w.heap.size, 1, none⟩) HH.out _).putC (p := ⟨w.heap.size, 2, none⟩) HH.out _).putC (p := ⟨w.heap.size, 3, none⟩) HH.out _, by omega⟩
  · skip
    go_wp2_with fail
    refine (next_any s2 (by omega) _).mono ?_
    rintro e w3 ⟨v3, rfl, h3, -, t3, s3⟩
    obtain ⟨l3, u3⟩ := h3 (by omega)
    have T3 : Hid (Turn b w w3) := T2.out.trans t3
    have V3 : Hid (Vb w3 w.heap.size #[.int .i64 0, .int .i64 0, .int .i64 0, .int .i64 0] 43) := V2.out.turn t3 (by have := HH.out; omega)
    clear h3 t3 T2 V2
    go_wp2_with fail
    refine (next_any s3 (by omega) _).mono ?_
    rintro e w4 ⟨v4, rfl, h4, -, t4, s4⟩
    obtain ⟨l4, u4⟩ := h4 (by omega)
    have T4 : Hid (Turn b w w4) := T3.out.trans t4
    have V4 : Hid (Vb w4 w.heap.size #[.int .i64 0, .int .i64 0, .int .i64 0, .int .i64 0] 43) := V3.out.turn t4 (by have := HH.out; omega)
    clear h4 t4 T3 V3
    go_wp2_with fail
    refine (next_any s4 (by omega) _).mono ?_
    rintro e w5 ⟨v5, rfl, h5, -, t5, s5⟩
    obtain ⟨l5, u5⟩ := h5 (by omega)
    have T5 : Hid (Turn b w w5) := T4.out.trans t5
    have V5 : Hid (Vb w5 w.heap.size #[.int .i64 0, .int .i64 0, .int .i64 0, .int .i64 0] 43) := V4.out.turn t5 (by have := HH.out; omega)
    clear h5 t5 T4 V4
    go_wp2_with fail
    refine (next_any s5 (by omega) _).mono ?_
    rintro e w6 ⟨v6, rfl, h6, -, t6, s6⟩
    obtain ⟨l6, u6⟩ := h6 (by omega)
    have T6 : Hid (Turn b w w6) := T5.out.trans t6
    have V6 : Hid (Vb w6 w.heap.size #[.int .i64 0, .int .i64 0, .int .i64 0, .int .i64 0] 43) := V5.out.turn t6 (by have := HH.out; omega)
    clear h6 t6 T5 V5
    go_wp2_with fail
    have hb7 := s6.here
    refine (pick_any (s6.alloc _) (by omega) (fun _ => True) _ 4 (by omega) (by omega) (by simp) (by omega) ?_).mono ?_
    · intro i hi
      have : i = 0 ∨ i = 1 ∨ i = 2 ∨ i = 3 := by omega
      rcases this with rfl | rfl | rfl | rfl
      all_goals exact ⟨_, cell_new rfl, trivial⟩
    rintro e w7 ⟨v7, rfl, -, t7, s7⟩
    have T7 : Hid (Turn b w w7) := T6.out.trans ((Turn.alloc b _ _).trans t7)
    have V7 : Hid (Vb w7 w.heap.size #[.int .i64 0, .int .i64 0, .int .i64 0, .int .i64 0] 43) := (V6.out.push _).turn t7 (by have := HH.out; omega)
    clear t7 T6 V6 hb7
    have S7 : Hid (Src w7 b _ a len cap zs) := s7
    have k0 := V7.out.cell 0 rfl
    have k1 := V7.out.cell 1 rfl
    have k2 := V7.out.cell 2 rfl
    have k3 := V7.out.cell 3 rfl
    have f0 := V7.out.free 0
    have f1 := V7.out.free 1
    have f2 := V7.out.free 2
    have f3 := V7.out.free 3
    have sz := V7.out.lt
    clear s2 s3 s4 s5 s6 s7
    go_wp2_with fail
    exact bodyPost_ret (v := .agg #[.int .i64 (12), .int .i64 (1 + v1), .int .i64 (v3), .int .i64 (v7)]) (by simp [results, Tryz.results94, go_sem, k0, k1, k2, k3]) rfl ⟨_, _, _, _, _, rfl, (((T7.out.putC (p := ⟨w.heap.size, 0, none⟩) (Nat.le_refl _) _).putC (p := ⟨w.heap.size, 1, none⟩) (Nat.le_refl _) _).putC (p := ⟨w.heap.size, 2, none⟩) (Nat.le_refl _) _).putC (p := ⟨w.heap.size, 3, none⟩) (Nat.le_refl _) _, (((S7.out.putC (p := ⟨w.heap.size, 0, none⟩) HH.out _).putC (p := ⟨w.heap.size, 1, none⟩) HH.out _).putC (p := ⟨w.heap.size, 2, none⟩) HH.out _).putC (p := ⟨w.heap.size, 3, none⟩) HH.out _, by omega⟩
  · skip
    go_wp2_with fail
    refine (next_any s2 (by omega) _).mono ?_
    rintro e w3 ⟨v3, rfl, h3, -, t3, s3⟩
    obtain ⟨l3, u3⟩ := h3 (by omega)
    have T3 : Hid (Turn b w w3) := T2.out.trans t3
    have V3 : Hid (Vb w3 w.heap.size #[.int .i64 0, .int .i64 0, .int .i64 0, .int .i64 0] 43) := V2.out.turn t3 (by have := HH.out; omega)
    clear h3 t3 T2 V2
    go_wp2_with fail
    refine (next_any s3 (by omega) _).mono ?_
    rintro e w4 ⟨v4, rfl, h4, -, t4, s4⟩
    obtain ⟨l4, u4⟩ := h4 (by omega)
    have T4 : Hid (Turn b w w4) := T3.out.trans t4
    have V4 : Hid (Vb w4 w.heap.size #[.int .i64 0, .int .i64 0, .int .i64 0, .int .i64 0] 43) := V3.out.turn t4 (by have := HH.out; omega)
    clear h4 t4 T3 V3
    go_wp2_with fail
    refine (next_any s4 (by omega) _).mono ?_
    rintro e w5 ⟨v5, rfl, h5, -, t5, s5⟩
    obtain ⟨l5, u5⟩ := h5 (by omega)
    have T5 : Hid (Turn b w w5) := T4.out.trans t5
    have V5 : Hid (Vb w5 w.heap.size #[.int .i64 0, .int .i64 0, .int .i64 0, .int .i64 0] 43) := V4.out.turn t5 (by have := HH.out; omega)
    clear h5 t5 T4 V4
    go_wp2_with fail
    refine (next_any s5 (by omega) _).mono ?_
    rintro e w6 ⟨v6, rfl, h6, -, t6, s6⟩
    obtain ⟨l6, u6⟩ := h6 (by omega)
    have T6 : Hid (Turn b w w6) := T5.out.trans t6
    have V6 : Hid (Vb w6 w.heap.size #[.int .i64 0, .int .i64 0, .int .i64 0, .int .i64 0] 43) := V5.out.turn t6 (by have := HH.out; omega)
    clear h6 t6 T5 V5
    go_wp2_with fail
    have hb7 := s6.here
    refine (pick_any (s6.alloc _) (by omega) (fun _ => True) _ 4 (by omega) (by omega) (by simp) (by omega) ?_).mono ?_
    · intro i hi
      have : i = 0 ∨ i = 1 ∨ i = 2 ∨ i = 3 := by omega
      rcases this with rfl | rfl | rfl | rfl
      all_goals exact ⟨_, cell_new rfl, trivial⟩
    rintro e w7 ⟨v7, rfl, -, t7, s7⟩
    have T7 : Hid (Turn b w w7) := T6.out.trans ((Turn.alloc b _ _).trans t7)
    have V7 : Hid (Vb w7 w.heap.size #[.int .i64 0, .int .i64 0, .int .i64 0, .int .i64 0] 43) := (V6.out.push _).turn t7 (by have := HH.out; omega)
    clear t7 T6 V6 hb7
    have S7 : Hid (Src w7 b _ a len cap zs) := s7
    have k0 := V7.out.cell 0 rfl
    have k1 := V7.out.cell 1 rfl
    have k2 := V7.out.cell 2 rfl
    have k3 := V7.out.cell 3 rfl
    have f0 := V7.out.free 0
    have f1 := V7.out.free 1
    have f2 := V7.out.free 2
    have f3 := V7.out.free 3
    have sz := V7.out.lt
    clear s2 s3 s4 s5 s6 s7
    go_wp2_with fail
    exact bodyPost_ret (v := .agg #[.int .i64 (12), .int .i64 (1 + v1), .int .i64 (v3), .int .i64 (v7)]) (by simp [results, Tryz.results94, go_sem, k0, k1, k2, k3]) rfl ⟨_, _, _, _, _, rfl, (((T7.out.putC (p := ⟨w.heap.size, 0, none⟩) (Nat.le_refl _) _).putC (p := ⟨w.heap.size, 1, none⟩) (Nat.le_refl _) _).putC (p := ⟨w.heap.size, 2, none⟩) (Nat.le_refl _) _).putC (p := ⟨w.heap.size, 3, none⟩) (Nat.le_refl _) _, (((S7.out.putC (p := ⟨w.heap.size, 0, none⟩) HH.out _).putC (p := ⟨w.heap.size, 1, none⟩) HH.out _).putC (p := ⟨w.heap.size, 2, none⟩) HH.out _).putC (p := ⟨w.heap.size, 3, none⟩) HH.out _, by omega⟩
  · skip
    go_wp2_with fail
    refine (next_any s2 (by omega) _).mono ?_
    rintro e w3 ⟨v3, rfl, h3, -, t3, s3⟩
    obtain ⟨l3, u3⟩ := h3 (by omega)
    have T3 : Hid (Turn b w w3) := T2.out.trans t3
    have V3 : Hid (Vb w3 w.heap.size #[.int .i64 0, .int .i64 0, .int .i64 0, .int .i64 0] 43) := V2.out.turn t3 (by have := HH.out; omega)
    clear h3 t3 T2 V2
    go_wp2_with fail
    refine (next_any s3 (by omega) _).mono ?_
    rintro e w4 ⟨v4, rfl, h4, -, t4, s4⟩
    obtain ⟨l4, u4⟩ := h4 (by omega)
    have T4 : Hid (Turn b w w4) := T3.out.trans t4
    have V4 : Hid (Vb w4 w.heap.size #[.int .i64 0, .int .i64 0, .int .i64 0, .int .i64 0] 43) := V3.out.turn t4 (by have := HH.out; omega)
    clear h4 t4 T3 V3
    go_wp2_with fail
    refine (next_any s4 (by omega) _).mono ?_
    rintro e w5 ⟨v5, rfl, h5, -, t5, s5⟩
    obtain ⟨l5, u5⟩ := h5 (by omega)
    have T5 : Hid (Turn b w w5) := T4.out.trans t5
    have V5 : Hid (Vb w5 w.heap.size #[.int .i64 0, .int .i64 0, .int .i64 0, .int .i64 0] 43) := V4.out.turn t5 (by have := HH.out; omega)
    clear h5 t5 T4 V4
    have S5 : Hid (Src w5 b _ a len cap zs) := s5
    have k0 := V5.out.cell 0 rfl
    have k1 := V5.out.cell 1 rfl
    have k2 := V5.out.cell 2 rfl
    have k3 := V5.out.cell 3 rfl
    have f0 := V5.out.free 0
    have f1 := V5.out.free 1
    have f2 := V5.out.free 2
    have f3 := V5.out.free 3
    have sz := V5.out.lt
    clear s2 s3 s4 s5
    go_wp2_with fail
    exact bodyPost_ret (v := .agg #[.int .i64 (1 + v3), .int .i64 (1 + v1), .int .i64 (v4), .int .i64 (v5)]) (by simp [results, Tryz.results94, go_sem, k0, k1, k2, k3]) rfl ⟨_, _, _, _, _, rfl, (((T5.out.putC (p := ⟨w.heap.size, 0, none⟩) (Nat.le_refl _) _).putC (p := ⟨w.heap.size, 1, none⟩) (Nat.le_refl _) _).putC (p := ⟨w.heap.size, 2, none⟩) (Nat.le_refl _) _).putC (p := ⟨w.heap.size, 3, none⟩) (Nat.le_refl _) _, (((S5.out.putC (p := ⟨w.heap.size, 0, none⟩) HH.out _).putC (p := ⟨w.heap.size, 1, none⟩) HH.out _).putC (p := ⟨w.heap.size, 2, none⟩) HH.out _).putC (p := ⟨w.heap.size, 3, none⟩) HH.out _, by omega⟩
  · skip
    go_wp2_with fail
    refine (next_any s2 (by omega) _).mono ?_
    rintro e w3 ⟨v3, rfl, h3, -, t3, s3⟩
    obtain ⟨l3, u3⟩ := h3 (by omega)
    have T3 : Hid (Turn b w w3) := T2.out.trans t3
    have V3 : Hid (Vb w3 w.heap.size #[.int .i64 0, .int .i64 0, .int .i64 0, .int .i64 0] 43) := V2.out.turn t3 (by have := HH.out; omega)
    clear h3 t3 T2 V2
    go_wp2_with fail
    refine (next_any s3 (by omega) _).mono ?_
    rintro e w4 ⟨v4, rfl, h4, -, t4, s4⟩
    obtain ⟨l4, u4⟩ := h4 (by omega)
    have T4 : Hid (Turn b w w4) := T3.out.trans t4
    have V4 : Hid (Vb w4 w.heap.size #[.int .i64 0, .int .i64 0, .int .i64 0, .int .i64 0] 43) := V3.out.turn t4 (by have := HH.out; omega)
    clear h4 t4 T3 V3
    go_wp2_with fail
    refine (next_any s4 (by omega) _).mono ?_
    rintro e w5 ⟨v5, rfl, h5, -, t5, s5⟩
    obtain ⟨l5, u5⟩ := h5 (by omega)
    have T5 : Hid (Turn b w w5) := T4.out.trans t5
    have V5 : Hid (Vb w5 w.heap.size #[.int .i64 0, .int .i64 0, .int .i64 0, .int .i64 0] 43) := V4.out.turn t5 (by have := HH.out; omega)
    clear h5 t5 T4 V4
    go_wp2_with fail
    refine (next_any s5 (by omega) _).mono ?_
    rintro e w6 ⟨v6, rfl, h6, -, t6, s6⟩
    obtain ⟨l6, u6⟩ := h6 (by omega)
    have T6 : Hid (Turn b w w6) := T5.out.trans t6
    have V6 : Hid (Vb w6 w.heap.size #[.int .i64 0, .int .i64 0, .int .i64 0, .int .i64 0] 43) := V5.out.turn t6 (by have := HH.out; omega)
    clear h6 t6 T5 V5
    go_wp2_with fail
    have hb7 := s6.here
    refine (pick_any (s6.alloc _) (by omega) (fun _ => True) _ 3 (by omega) (by omega) (by simp) (by omega) ?_).mono ?_
    · intro i hi
      have : i = 0 ∨ i = 1 ∨ i = 2 := by omega
      rcases this with rfl | rfl | rfl
      all_goals exact ⟨_, cell_new rfl, trivial⟩
    rintro e w7 ⟨v7, rfl, -, t7, s7⟩
    have T7 : Hid (Turn b w w7) := T6.out.trans ((Turn.alloc b _ _).trans t7)
    have V7 : Hid (Vb w7 w.heap.size #[.int .i64 0, .int .i64 0, .int .i64 0, .int .i64 0] 43) := (V6.out.push _).turn t7 (by have := HH.out; omega)
    clear t7 T6 V6 hb7
    have S7 : Hid (Src w7 b _ a len cap zs) := s7
    have k0 := V7.out.cell 0 rfl
    have k1 := V7.out.cell 1 rfl
    have k2 := V7.out.cell 2 rfl
    have k3 := V7.out.cell 3 rfl
    have f0 := V7.out.free 0
    have f1 := V7.out.free 1
    have f2 := V7.out.free 2
    have f3 := V7.out.free 3
    have sz := V7.out.lt
    clear s2 s3 s4 s5 s6 s7
    go_wp2_with fail
    exact bodyPost_ret (v := .agg #[.int .i64 (15), .int .i64 (1 + v1), .int .i64 (v3), .int .i64 (v7)]) (by simp [results, Tryz.results94, go_sem, k0, k1, k2, k3]) rfl ⟨_, _, _, _, _, rfl, (((T7.out.putC (p := ⟨w.heap.size, 0, none⟩) (Nat.le_refl _) _).putC (p := ⟨w.heap.size, 1, none⟩) (Nat.le_refl _) _).putC (p := ⟨w.heap.size, 2, none⟩) (Nat.le_refl _) _).putC (p := ⟨w.heap.size, 3, none⟩) (Nat.le_refl _) _, (((S7.out.putC (p := ⟨w.heap.size, 0, none⟩) HH.out _).putC (p := ⟨w.heap.size, 1, none⟩) HH.out _).putC (p := ⟨w.heap.size, 2, none⟩) HH.out _).putC (p := ⟨w.heap.size, 3, none⟩) HH.out _, by omega⟩
  · skip
    go_wp2_with fail
    refine (next_any s2 (by omega) _).mono ?_
    rintro e w3 ⟨v3, rfl, h3, -, t3, s3⟩
    obtain ⟨l3, u3⟩ := h3 (by omega)
    have T3 : Hid (Turn b w w3) := T2.out.trans t3
    have V3 : Hid (Vb w3 w.heap.size #[.int .i64 0, .int .i64 0, .int .i64 0, .int .i64 0] 43) := V2.out.turn t3 (by have := HH.out; omega)
    clear h3 t3 T2 V2
    go_wp2_with fail
    refine (next_any s3 (by omega) _).mono ?_
    rintro e w4 ⟨v4, rfl, h4, -, t4, s4⟩
    obtain ⟨l4, u4⟩ := h4 (by omega)
    have T4 : Hid (Turn b w w4) := T3.out.trans t4
    have V4 : Hid (Vb w4 w.heap.size #[.int .i64 0, .int .i64 0, .int .i64 0, .int .i64 0] 43) := V3.out.turn t4 (by have := HH.out; omega)
    clear h4 t4 T3 V3
    go_wp2_with fail
    refine (next_any s4 (by omega) _).mono ?_
    rintro e w5 ⟨v5, rfl, h5, -, t5, s5⟩
    obtain ⟨l5, u5⟩ := h5 (by omega)
    have T5 : Hid (Turn b w w5) := T4.out.trans t5
    have V5 : Hid (Vb w5 w.heap.size #[.int .i64 0, .int .i64 0, .int .i64 0, .int .i64 0] 43) := V4.out.turn t5 (by have := HH.out; omega)
    clear h5 t5 T4 V4
    go_wp2_with fail
    refine (next_any s5 (by omega) _).mono ?_
    rintro e w6 ⟨v6, rfl, h6, -, t6, s6⟩
    obtain ⟨l6, u6⟩ := h6 (by omega)
    have T6 : Hid (Turn b w w6) := T5.out.trans t6
    have V6 : Hid (Vb w6 w.heap.size #[.int .i64 0, .int .i64 0, .int .i64 0, .int .i64 0] 43) := V5.out.turn t6 (by have := HH.out; omega)
    clear h6 t6 T5 V5
    go_wp2_with fail
    have hb7 := s6.here
    refine (pick_any (s6.alloc _) (by omega) (fun _ => True) _ 3 (by omega) (by omega) (by simp) (by omega) ?_).mono ?_
    · intro i hi
      have : i = 0 ∨ i = 1 ∨ i = 2 := by omega
      rcases this with rfl | rfl | rfl
      all_goals exact ⟨_, cell_new rfl, trivial⟩
    rintro e w7 ⟨v7, rfl, -, t7, s7⟩
    have T7 : Hid (Turn b w w7) := T6.out.trans ((Turn.alloc b _ _).trans t7)
    have V7 : Hid (Vb w7 w.heap.size #[.int .i64 0, .int .i64 0, .int .i64 0, .int .i64 0] 43) := (V6.out.push _).turn t7 (by have := HH.out; omega)
    clear t7 T6 V6 hb7
    have S7 : Hid (Src w7 b _ a len cap zs) := s7
    have k0 := V7.out.cell 0 rfl
    have k1 := V7.out.cell 1 rfl
    have k2 := V7.out.cell 2 rfl
    have k3 := V7.out.cell 3 rfl
    have f0 := V7.out.free 0
    have f1 := V7.out.free 1
    have f2 := V7.out.free 2
    have f3 := V7.out.free 3
    have sz := V7.out.lt
    clear s2 s3 s4 s5 s6 s7
    go_wp2_with fail
    exact bodyPost_ret (v := .agg #[.int .i64 (15), .int .i64 (1 + v1), .int .i64 (v3), .int .i64 (v7)]) (by simp [results, Tryz.results94, go_sem, k0, k1, k2, k3]) rfl ⟨_, _, _, _, _, rfl, (((T7.out.putC (p := ⟨w.heap.size, 0, none⟩) (Nat.le_refl _) _).putC (p := ⟨w.heap.size, 1, none⟩) (Nat.le_refl _) _).putC (p := ⟨w.heap.size, 2, none⟩) (Nat.le_refl _) _).putC (p := ⟨w.heap.size, 3, none⟩) (Nat.le_refl _) _, (((S7.out.putC (p := ⟨w.heap.size, 0, none⟩) HH.out _).putC (p := ⟨w.heap.size, 1, none⟩) HH.out _).putC (p := ⟨w.heap.size, 2, none⟩) HH.out _).putC (p := ⟨w.heap.size, 3, none⟩) HH.out _, by omega⟩
  · skip
    go_wp2_with fail
    refine (next_any s2 (by omega) _).mono ?_
    rintro e w3 ⟨v3, rfl, h3, -, t3, s3⟩
    obtain ⟨l3, u3⟩ := h3 (by omega)
    have T3 : Hid (Turn b w w3) := T2.out.trans t3
    have V3 : Hid (Vb w3 w.heap.size #[.int .i64 0, .int .i64 0, .int .i64 0, .int .i64 0] 43) := V2.out.turn t3 (by have := HH.out; omega)
    clear h3 t3 T2 V2
    go_wp2_with fail
    refine (next_any s3 (by omega) _).mono ?_
    rintro e w4 ⟨v4, rfl, h4, -, t4, s4⟩
    obtain ⟨l4, u4⟩ := h4 (by omega)
    have T4 : Hid (Turn b w w4) := T3.out.trans t4
    have V4 : Hid (Vb w4 w.heap.size #[.int .i64 0, .int .i64 0, .int .i64 0, .int .i64 0] 43) := V3.out.turn t4 (by have := HH.out; omega)
    clear h4 t4 T3 V3
    go_wp2_with fail
    refine (next_any s4 (by omega) _).mono ?_
    rintro e w5 ⟨v5, rfl, h5, -, t5, s5⟩
    obtain ⟨l5, u5⟩ := h5 (by omega)
    have T5 : Hid (Turn b w w5) := T4.out.trans t5
    have V5 : Hid (Vb w5 w.heap.size #[.int .i64 0, .int .i64 0, .int .i64 0, .int .i64 0] 43) := V4.out.turn t5 (by have := HH.out; omega)
    clear h5 t5 T4 V4
    go_wp2_with fail
    refine (next_any s5 (by omega) _).mono ?_
    rintro e w6 ⟨v6, rfl, h6, -, t6, s6⟩
    obtain ⟨l6, u6⟩ := h6 (by omega)
    have T6 : Hid (Turn b w w6) := T5.out.trans t6
    have V6 : Hid (Vb w6 w.heap.size #[.int .i64 0, .int .i64 0, .int .i64 0, .int .i64 0] 43) := V5.out.turn t6 (by have := HH.out; omega)
    clear h6 t6 T5 V5
    go_wp2_with fail
    have hb7 := s6.here
    refine (pick_any (s6.alloc _) (by omega) (fun _ => True) _ 3 (by omega) (by omega) (by simp) (by omega) ?_).mono ?_
    · intro i hi
      have : i = 0 ∨ i = 1 ∨ i = 2 := by omega
      rcases this with rfl | rfl | rfl
      all_goals exact ⟨_, cell_new rfl, trivial⟩
    rintro e w7 ⟨v7, rfl, -, t7, s7⟩
    have T7 : Hid (Turn b w w7) := T6.out.trans ((Turn.alloc b _ _).trans t7)
    have V7 : Hid (Vb w7 w.heap.size #[.int .i64 0, .int .i64 0, .int .i64 0, .int .i64 0] 43) := (V6.out.push _).turn t7 (by have := HH.out; omega)
    clear t7 T6 V6 hb7
    have S7 : Hid (Src w7 b _ a len cap zs) := s7
    have k0 := V7.out.cell 0 rfl
    have k1 := V7.out.cell 1 rfl
    have k2 := V7.out.cell 2 rfl
    have k3 := V7.out.cell 3 rfl
    have f0 := V7.out.free 0
    have f1 := V7.out.free 1
    have f2 := V7.out.free 2
    have f3 := V7.out.free 3
    have sz := V7.out.lt
    clear s2 s3 s4 s5 s6 s7
    go_wp2_with fail
    exact bodyPost_ret (v := .agg #[.int .i64 (14), .int .i64 (1 + v1), .int .i64 (v3), .int .i64 (v7)]) (by simp [results, Tryz.results94, go_sem, k0, k1, k2, k3]) rfl ⟨_, _, _, _, _, rfl, (((T7.out.putC (p := ⟨w.heap.size, 0, none⟩) (Nat.le_refl _) _).putC (p := ⟨w.heap.size, 1, none⟩) (Nat.le_refl _) _).putC (p := ⟨w.heap.size, 2, none⟩) (Nat.le_refl _) _).putC (p := ⟨w.heap.size, 3, none⟩) (Nat.le_refl _) _, (((S7.out.putC (p := ⟨w.heap.size, 0, none⟩) HH.out _).putC (p := ⟨w.heap.size, 1, none⟩) HH.out _).putC (p := ⟨w.heap.size, 2, none⟩) HH.out _).putC (p := ⟨w.heap.size, 3, none⟩) HH.out _, by omega⟩
  · skip
    go_wp2_with fail
    refine (next_any s2 (by omega) _).mono ?_
    rintro e w3 ⟨v3, rfl, h3, -, t3, s3⟩
    obtain ⟨l3, u3⟩ := h3 (by omega)
    have T3 : Hid (Turn b w w3) := T2.out.trans t3
    have V3 : Hid (Vb w3 w.heap.size #[.int .i64 0, .int .i64 0, .int .i64 0, .int .i64 0] 43) := V2.out.turn t3 (by have := HH.out; omega)
    clear h3 t3 T2 V2
    go_wp2_with fail
    refine (next_any s3 (by omega) _).mono ?_
    rintro e w4 ⟨v4, rfl, h4, -, t4, s4⟩
    obtain ⟨l4, u4⟩ := h4 (by omega)
    have T4 : Hid (Turn b w w4) := T3.out.trans t4
    have V4 : Hid (Vb w4 w.heap.size #[.int .i64 0, .int .i64 0, .int .i64 0, .int .i64 0] 43) := V3.out.turn t4 (by have := HH.out; omega)
    clear h4 t4 T3 V3
    go_wp2_with fail
    refine (next_any s4 (by omega) _).mono ?_
    rintro e w5 ⟨v5, rfl, h5, -, t5, s5⟩
    obtain ⟨l5, u5⟩ := h5 (by omega)
    have T5 : Hid (Turn b w w5) := T4.out.trans t5
    have V5 : Hid (Vb w5 w.heap.size #[.int .i64 0, .int .i64 0, .int .i64 0, .int .i64 0] 43) := V4.out.turn t5 (by have := HH.out; omega)
    clear h5 t5 T4 V4
    go_wp2_with fail
    refine (next_any s5 (by omega) _).mono ?_
    rintro e w6 ⟨v6, rfl, h6, -, t6, s6⟩
    obtain ⟨l6, u6⟩ := h6 (by omega)
    have T6 : Hid (Turn b w w6) := T5.out.trans t6
    have V6 : Hid (Vb w6 w.heap.size #[.int .i64 0, .int .i64 0, .int .i64 0, .int .i64 0] 43) := V5.out.turn t6 (by have := HH.out; omega)
    clear h6 t6 T5 V5
    go_wp2_with fail
    have hb7 := s6.here
    refine (pick_any (s6.alloc _) (by omega) (fun _ => True) _ 3 (by omega) (by omega) (by simp) (by omega) ?_).mono ?_
    · intro i hi
      have : i = 0 ∨ i = 1 ∨ i = 2 := by omega
      rcases this with rfl | rfl | rfl
      all_goals exact ⟨_, cell_new rfl, trivial⟩
    rintro e w7 ⟨v7, rfl, -, t7, s7⟩
    have T7 : Hid (Turn b w w7) := T6.out.trans ((Turn.alloc b _ _).trans t7)
    have V7 : Hid (Vb w7 w.heap.size #[.int .i64 0, .int .i64 0, .int .i64 0, .int .i64 0] 43) := (V6.out.push _).turn t7 (by have := HH.out; omega)
    clear t7 T6 V6 hb7
    have S7 : Hid (Src w7 b _ a len cap zs) := s7
    have k0 := V7.out.cell 0 rfl
    have k1 := V7.out.cell 1 rfl
    have k2 := V7.out.cell 2 rfl
    have k3 := V7.out.cell 3 rfl
    have f0 := V7.out.free 0
    have f1 := V7.out.free 1
    have f2 := V7.out.free 2
    have f3 := V7.out.free 3
    have sz := V7.out.lt
    clear s2 s3 s4 s5 s6 s7
    go_wp2_with fail
    exact bodyPost_ret (v := .agg #[.int .i64 (14), .int .i64 (1 + v1), .int .i64 (v3), .int .i64 (v7)]) (by simp [results, Tryz.results94, go_sem, k0, k1, k2, k3]) rfl ⟨_, _, _, _, _, rfl, (((T7.out.putC (p := ⟨w.heap.size, 0, none⟩) (Nat.le_refl _) _).putC (p := ⟨w.heap.size, 1, none⟩) (Nat.le_refl _) _).putC (p := ⟨w.heap.size, 2, none⟩) (Nat.le_refl _) _).putC (p := ⟨w.heap.size, 3, none⟩) (Nat.le_refl _) _, (((S7.out.putC (p := ⟨w.heap.size, 0, none⟩) HH.out _).putC (p := ⟨w.heap.size, 1, none⟩) HH.out _).putC (p := ⟨w.heap.size, 2, none⟩) HH.out _).putC (p := ⟨w.heap.size, 3, none⟩) HH.out _, by omega⟩
  · skip
    go_wp2_with fail
    have hb3 := s2.here
    refine (pick_any (s2.alloc _) (by omega) (fun _ => True) _ 3 (by omega) (by omega) (by simp) (by omega) ?_).mono ?_
    · intro i hi
      have : i = 0 ∨ i = 1 ∨ i = 2 := by omega
      rcases this with rfl | rfl | rfl
      all_goals exact ⟨_, cell_new rfl, trivial⟩
    rintro e w3 ⟨v3, rfl, -, t3, s3⟩
    have T3 : Hid (Turn b w w3) := T2.out.trans ((Turn.alloc b _ _).trans t3)
    have V3 : Hid (Vb w3 w.heap.size #[.int .i64 0, .int .i64 0, .int .i64 0, .int .i64 0] 43) := (V2.out.push _).turn t3 (by have := HH.out; omega)
    clear t3 T2 V2 hb3
    go_wp2_with fail
    refine (next_any s3 (by omega) _).mono ?_
    rintro e w4 ⟨v4, rfl, h4, -, t4, s4⟩
    obtain ⟨l4, u4⟩ := h4 (by omega)
    have T4 : Hid (Turn b w w4) := T3.out.trans t4
    have V4 : Hid (Vb w4 w.heap.size #[.int .i64 0, .int .i64 0, .int .i64 0, .int .i64 0] 43) := V3.out.turn t4 (by have := HH.out; omega)
    clear h4 t4 T3 V3
    go_wp2_with fail
    have hb5 := s4.here
    refine (pick_any (s4.alloc _) (by omega) (fun _ => True) _ 4 (by omega) (by omega) (by simp) (by omega) ?_).mono ?_
    · intro i hi
      have : i = 0 ∨ i = 1 ∨ i = 2 ∨ i = 3 := by omega
      rcases this with rfl | rfl | rfl | rfl
      all_goals exact ⟨_, cell_new rfl, trivial⟩
    rintro e w5 ⟨v5, rfl, -, t5, s5⟩
    have T5 : Hid (Turn b w w5) := T4.out.trans ((Turn.alloc b _ _).trans t5)
    have V5 : Hid (Vb w5 w.heap.size #[.int .i64 0, .int .i64 0, .int .i64 0, .int .i64 0] 43) := (V4.out.push _).turn t5 (by have := HH.out; omega)
    clear t5 T4 V4 hb5
    have S5 : Hid (Src w5 b _ a len cap zs) := s5
    have k0 := V5.out.cell 0 rfl
    have k1 := V5.out.cell 1 rfl
    have k2 := V5.out.cell 2 rfl
    have k3 := V5.out.cell 3 rfl
    have f0 := V5.out.free 0
    have f1 := V5.out.free 1
    have f2 := V5.out.free 2
    have f3 := V5.out.free 3
    have sz := V5.out.lt
    clear s2 s3 s4 s5
    go_wp2_with fail
    exact bodyPost_ret (v := .agg #[.int .i64 (v3), .int .i64 (1 + v1), .int .i64 (v4), .int .i64 (v5)]) (by simp [results, Tryz.results94, go_sem, k0, k1, k2, k3]) rfl ⟨_, _, _, _, _, rfl, (((T5.out.putC (p := ⟨w.heap.size, 0, none⟩) (Nat.le_refl _) _).putC (p := ⟨w.heap.size, 1, none⟩) (Nat.le_refl _) _).putC (p := ⟨w.heap.size, 2, none⟩) (Nat.le_refl _) _).putC (p := ⟨w.heap.size, 3, none⟩) (Nat.le_refl _) _, (((S5.out.putC (p := ⟨w.heap.size, 0, none⟩) HH.out _).putC (p := ⟨w.heap.size, 1, none⟩) HH.out _).putC (p := ⟨w.heap.size, 2, none⟩) HH.out _).putC (p := ⟨w.heap.size, 3, none⟩) HH.out _, by omega⟩
  · skip
    go_wp2_with fail
    have hb3 := s2.here
    refine (pick_any (s2.alloc _) (by omega) (fun _ => True) _ 7 (by omega) (by omega) (by simp) (by omega) ?_).mono ?_
    · intro i hi
      have : i = 0 ∨ i = 1 ∨ i = 2 ∨ i = 3 ∨ i = 4 ∨ i = 5 ∨ i = 6 := by omega
      rcases this with rfl | rfl | rfl | rfl | rfl | rfl | rfl
      all_goals exact ⟨_, cell_new rfl, trivial⟩
    rintro e w3 ⟨v3, rfl, -, t3, s3⟩
    have T3 : Hid (Turn b w w3) := T2.out.trans ((Turn.alloc b _ _).trans t3)
    have V3 : Hid (Vb w3 w.heap.size #[.int .i64 0, .int .i64 0, .int .i64 0, .int .i64 0] 43) := (V2.out.push _).turn t3 (by have := HH.out; omega)
    clear t3 T2 V2 hb3
    have S3 : Hid (Src w3 b _ a len cap zs) := s3
    have k0 := V3.out.cell 0 rfl
    have k1 := V3.out.cell 1 rfl
    have k2 := V3.out.cell 2 rfl
    have k3 := V3.out.cell 3 rfl
    have f0 := V3.out.free 0
    have f1 := V3.out.free 1
    have f2 := V3.out.free 2
    have f3 := V3.out.free 3
    have sz := V3.out.lt
    clear s2 s3
    go_wp2_with fail
    exact bodyPost_ret (v := .agg #[.int .i64 (22), .int .i64 (0), .int .i64 (1 + v1), .int .i64 (v3)]) (by simp [results, Tryz.results94, go_sem, k0, k1, k2, k3]) rfl ⟨_, _, _, _, _, rfl, (((T3.out.putC (p := ⟨w.heap.size, 0, none⟩) (Nat.le_refl _) _).putC (p := ⟨w.heap.size, 1, none⟩) (Nat.le_refl _) _).putC (p := ⟨w.heap.size, 2, none⟩) (Nat.le_refl _) _).putC (p := ⟨w.heap.size, 3, none⟩) (Nat.le_refl _) _, (((S3.out.putC (p := ⟨w.heap.size, 0, none⟩) HH.out _).putC (p := ⟨w.heap.size, 1, none⟩) HH.out _).putC (p := ⟨w.heap.size, 2, none⟩) HH.out _).putC (p := ⟨w.heap.size, 3, none⟩) HH.out _, by omega⟩
  · skip
    go_wp2_with fail
    refine (next_any s2 (by omega) _).mono ?_
    rintro e w3 ⟨v3, rfl, h3, -, t3, s3⟩
    obtain ⟨l3, u3⟩ := h3 (by omega)
    have T3 : Hid (Turn b w w3) := T2.out.trans t3
    have V3 : Hid (Vb w3 w.heap.size #[.int .i64 0, .int .i64 0, .int .i64 0, .int .i64 0] 43) := V2.out.turn t3 (by have := HH.out; omega)
    clear h3 t3 T2 V2
    have S3 : Hid (Src w3 b _ a len cap zs) := s3
    have k0 := V3.out.cell 0 rfl
    have k1 := V3.out.cell 1 rfl
    have k2 := V3.out.cell 2 rfl
    have k3 := V3.out.cell 3 rfl
    have f0 := V3.out.free 0
    have f1 := V3.out.free 1
    have f2 := V3.out.free 2
    have f3 := V3.out.free 3
    have sz := V3.out.lt
    clear s2 s3
    go_wp2_with fail
    exact bodyPost_ret (v := .agg #[.int .i64 (21), .int .i64 (1 + v1), .int .i64 (0), .int .i64 (v3)]) (by simp [results, Tryz.results94, go_sem, k0, k1, k2, k3]) rfl ⟨_, _, _, _, _, rfl, (((T3.out.putC (p := ⟨w.heap.size, 0, none⟩) (Nat.le_refl _) _).putC (p := ⟨w.heap.size, 1, none⟩) (Nat.le_refl _) _).putC (p := ⟨w.heap.size, 2, none⟩) (Nat.le_refl _) _).putC (p := ⟨w.heap.size, 3, none⟩) (Nat.le_refl _) _, (((S3.out.putC (p := ⟨w.heap.size, 0, none⟩) HH.out _).putC (p := ⟨w.heap.size, 1, none⟩) HH.out _).putC (p := ⟨w.heap.size, 2, none⟩) HH.out _).putC (p := ⟨w.heap.size, 3, none⟩) HH.out _, by omega⟩
  · skip
    go_wp2_with fail
    have hb3 := s2.here
    refine (pick_any (s2.alloc _) (by omega) (fun _ => True) _ 2 (by omega) (by omega) (by simp) (by omega) ?_).mono ?_
    · intro i hi
      have : i = 0 ∨ i = 1 := by omega
      rcases this with rfl | rfl
      all_goals exact ⟨_, cell_new rfl, trivial⟩
    rintro e w3 ⟨v3, rfl, -, t3, s3⟩
    have T3 : Hid (Turn b w w3) := T2.out.trans ((Turn.alloc b _ _).trans t3)
    have V3 : Hid (Vb w3 w.heap.size #[.int .i64 0, .int .i64 0, .int .i64 0, .int .i64 0] 43) := (V2.out.push _).turn t3 (by have := HH.out; omega)
    clear t3 T2 V2 hb3
    go_wp2_with fail
    have hb4 := s3.here
    refine (pick_any (s3.alloc _) (by omega) (fun _ => True) _ 3 (by omega) (by omega) (by simp) (by omega) ?_).mono ?_
    · intro i hi
      have : i = 0 ∨ i = 1 ∨ i = 2 := by omega
      rcases this with rfl | rfl | rfl
      all_goals exact ⟨_, cell_new rfl, trivial⟩
    rintro e w4 ⟨v4, rfl, -, t4, s4⟩
    have T4 : Hid (Turn b w w4) := T3.out.trans ((Turn.alloc b _ _).trans t4)
    have V4 : Hid (Vb w4 w.heap.size #[.int .i64 0, .int .i64 0, .int .i64 0, .int .i64 0] 43) := (V3.out.push _).turn t4 (by have := HH.out; omega)
    clear t4 T3 V3 hb4
    have S4 : Hid (Src w4 b _ a len cap zs) := s4
    have k0 := V4.out.cell 0 rfl
    have k1 := V4.out.cell 1 rfl
    have k2 := V4.out.cell 2 rfl
    have k3 := V4.out.cell 3 rfl
    have f0 := V4.out.free 0
    have f1 := V4.out.free 1
    have f2 := V4.out.free 2
    have f3 := V4.out.free 3
    have sz := V4.out.lt
    clear s2 s3 s4
    go_wp2_with fail
    exact bodyPost_ret (v := .agg #[.int .i64 (19), .int .i64 (v3), .int .i64 (0), .int .i64 (v4)]) (by simp [results, Tryz.results94, go_sem, k0, k1, k2, k3]) rfl ⟨_, _, _, _, _, rfl, (((T4.out.putC (p := ⟨w.heap.size, 0, none⟩) (Nat.le_refl _) _).putC (p := ⟨w.heap.size, 1, none⟩) (Nat.le_refl _) _).putC (p := ⟨w.heap.size, 2, none⟩) (Nat.le_refl _) _).putC (p := ⟨w.heap.size, 3, none⟩) (Nat.le_refl _) _, (((S4.out.putC (p := ⟨w.heap.size, 0, none⟩) HH.out _).putC (p := ⟨w.heap.size, 1, none⟩) HH.out _).putC (p := ⟨w.heap.size, 2, none⟩) HH.out _).putC (p := ⟨w.heap.size, 3, none⟩) HH.out _, by omega⟩
  · skip
    go_wp2_with fail
    refine (ins_any s2 (by omega)).mono ?_
    rintro e w3 ⟨o3, d3, x3, i3, rfl, -, -, -, -, t3, s3⟩
    have T3 : Hid (Turn b w w3) := T2.out.trans t3
    have V3 : Hid (Vb w3 w.heap.size #[.int .i64 0, .int .i64 0, .int .i64 0, .int .i64 0] 43) := V2.out.turn t3 (by have := HH.out; omega)
    clear t3 T2 V2
    have S3 : Hid (Src w3 b _ a len cap zs) := s3
    have k0 := V3.out.cell 0 rfl
    have k1 := V3.out.cell 1 rfl
    have k2 := V3.out.cell 2 rfl
    have k3 := V3.out.cell 3 rfl
    have f0 := V3.out.free 0
    have f1 := V3.out.free 1
    have f2 := V3.out.free 2
    have f3 := V3.out.free 3
    have sz := V3.out.lt
    clear s2 s3
    go_wp2_with fail
    exact bodyPost_ret (v := .agg #[.int .i64 (o3), .int .i64 (d3), .int .i64 (x3), .int .i64 (i3)]) (by simp [results, Tryz.results94, go_sem, k0, k1, k2, k3]) rfl ⟨_, _, _, _, _, rfl, (((T3.out.putC (p := ⟨w.heap.size, 0, none⟩) (Nat.le_refl _) _).putC (p := ⟨w.heap.size, 1, none⟩) (Nat.le_refl _) _).putC (p := ⟨w.heap.size, 2, none⟩) (Nat.le_refl _) _).putC (p := ⟨w.heap.size, 3, none⟩) (Nat.le_refl _) _, (((S3.out.putC (p := ⟨w.heap.size, 0, none⟩) HH.out _).putC (p := ⟨w.heap.size, 1, none⟩) HH.out _).putC (p := ⟨w.heap.size, 2, none⟩) HH.out _).putC (p := ⟨w.heap.size, 3, none⟩) HH.out _, by omega⟩
  · skip
    go_wp2_with fail
    refine (ins_any s2 (by omega)).mono ?_
    rintro e w3 ⟨o3, d3, x3, i3, rfl, -, -, -, -, t3, s3⟩
    have T3 : Hid (Turn b w w3) := T2.out.trans t3
    have V3 : Hid (Vb w3 w.heap.size #[.int .i64 0, .int .i64 0, .int .i64 0, .int .i64 0] 43) := V2.out.turn t3 (by have := HH.out; omega)
    clear t3 T2 V2
    have S3 : Hid (Src w3 b _ a len cap zs) := s3
    have k0 := V3.out.cell 0 rfl
    have k1 := V3.out.cell 1 rfl
    have k2 := V3.out.cell 2 rfl
    have k3 := V3.out.cell 3 rfl
    have f0 := V3.out.free 0
    have f1 := V3.out.free 1
    have f2 := V3.out.free 2
    have f3 := V3.out.free 3
    have sz := V3.out.lt
    clear s2 s3
    go_wp2_with fail
    exact bodyPost_ret (v := .agg #[.int .i64 (o3), .int .i64 (d3), .int .i64 (x3), .int .i64 (i3)]) (by simp [results, Tryz.results94, go_sem, k0, k1, k2, k3]) rfl ⟨_, _, _, _, _, rfl, (((T3.out.putC (p := ⟨w.heap.size, 0, none⟩) (Nat.le_refl _) _).putC (p := ⟨w.heap.size, 1, none⟩) (Nat.le_refl _) _).putC (p := ⟨w.heap.size, 2, none⟩) (Nat.le_refl _) _).putC (p := ⟨w.heap.size, 3, none⟩) (Nat.le_refl _) _, (((S3.out.putC (p := ⟨w.heap.size, 0, none⟩) HH.out _).putC (p := ⟨w.heap.size, 1, none⟩) HH.out _).putC (p := ⟨w.heap.size, 2, none⟩) HH.out _).putC (p := ⟨w.heap.size, 3, none⟩) HH.out _, by omega⟩
theorem step_make {ops : Array Oper} {o : Oper} {act : Act} {w : World} {K : Act → World → Prop} {Q : Exit → Act → World → Prop} {E : Prop} (hgd : o.guard = none) (l c : Operand)
    (ho : o.op = Op.makeSlice 24 l c) (n : Nat) (hl : act.eval l = .int .i64 n) (hc : act.eval c = .int .i64 n) (hn : n ≤ 1000)
    (h : ∀ v w', Nums w' w.heap.size v (List.replicate n 0) → Below w.heap.size w w' → K (act.put o.dst v) w') :
    if Region.wanted o (yielded ops act.tmps) = true then Oper.wp Tryz.prog o act w K Q else E := by
  have hw : Region.wanted o (yielded ops act.tmps) = true := by simp [Region.wanted, hgd]
  rw [if_pos hw]
  obtain ⟨i, hi, hz0, hz1, hz2⟩ := info_parts info_i64
  obtain ⟨w', hrun, r1, r2⟩ := run_make_full (P := Tryz.prog) w w.heap.size 24 2 i _ 1 Tryz.underlying24 hi hz0 hz1 .i64 .i64 n (by rw [hz2]; omega) (by unfold maxLen; omega) (Nat.le_refl _)
  unfold Oper.wp
  simp [execOp, ho, hl, hc, hrun, Result.andThen]
  refine h _ w' (Nums.made r1 (by rw [Nat.mul_one, show (Value.int .i64 0).cells = #[.int .i64 0] from rfl, toList_madeCells_one]; simp)) ((Below.refl _ _).grown r2 (Nat.le_refl _) (by simp))
structure Nq (W w : World) (s : Nat) (zs : List Int) (A B C D : Option Value) : Prop where
  mq : Mq (fun k => k = s) W w
  th : w.there s 0 10
  a : ∀ v, A = some v → Nums w W.heap.size v (List.replicate 16 0)
  b : ∀ v, B = some v → Nums w W.heap.size v (List.replicate 11 0)
  c : D = none → ∀ v, C = some v → Nums w W.heap.size v []
  d : ∀ v, D = some v → Nums w W.heap.size v zs
  ac : D = none → ∀ v u, A = some v → C = some u → Apt v u
  bc : D = none → ∀ v u, B = some v → C = some u → Apt v u
theorem Nq.grow {W w w' : World} {s : Nat} {zs : List Int} {A B C D : Option Value} (h : Nq W w s zs A B C D) (hs : s < W.heap.size) (b : Below w.heap.size w w') : Nq W w' s zs A B C D :=
  ⟨h.mq.trans (Mq.of (below_grown b none) fun k e => by cases e), there_below h.th (Nat.lt_of_lt_of_le hs h.mq.size) b, fun v e => (h.a v e).keep b, fun v e => (h.b v e).keep b, fun e v f => (h.c e v f).keep b, fun v e => (h.d v e).keep b, h.ac, h.bc⟩
theorem Nq.mkA {W w w' : World} {s : Nat} {zs : List Int} {B C D : Option Value} {v : Value} (h : Nq W w s zs none B C D) (hs : s < W.heap.size) (n : Nums w' w.heap.size v (List.replicate 16 0)) (b : Below w.heap.size w w') : Nq W w' s zs (some v) B C D :=
  let g := h.grow hs b
  ⟨g.mq, g.th, fun u e => by cases e; exact n.mono h.mq.size, g.b, g.c, g.d, fun e u x f k => by cases f; exact ((h.c e x k).apt n (Nat.le_refl _)).swap, g.bc⟩
theorem Nq.mkB {W w w' : World} {s : Nat} {zs : List Int} {A C D : Option Value} {v : Value} (h : Nq W w s zs A none C D) (hs : s < W.heap.size) (n : Nums w' w.heap.size v (List.replicate 11 0)) (b : Below w.heap.size w w') : Nq W w' s zs A (some v) C D :=
  let g := h.grow hs b
  ⟨g.mq, g.th, g.a, fun u e => by cases e; exact n.mono h.mq.size, g.c, g.d, g.ac, fun e u x f k => by cases f; exact ((h.c e x k).apt n (Nat.le_refl _)).swap⟩
theorem Nq.mkC {W w w' : World} {s : Nat} {zs : List Int} {A B : Option Value} {v : Value} (h : Nq W w s zs A B none none) (hs : s < W.heap.size) (n : Nums w' w.heap.size v []) (b : Below w.heap.size w w') : Nq W w' s zs A B (some v) none :=
  let g := h.grow hs b
  ⟨g.mq, g.th, g.a, g.b, fun _ u e => by cases e; exact n.mono h.mq.size, g.d, fun e u x f k => by cases k; exact (h.a u f).apt n (Nat.le_refl _), fun e u x f k => by cases k; exact (h.b u f).apt n (Nat.le_refl _)⟩
theorem Nq.app {W w w' : World} {s : Nat} {zs : List Int} {A B : Option Value} {v v' : Value} (h : Nq W w s zs A B (some v) none) (hs : s < W.heap.size) (n : Nums w' W.heap.size v' zs) (g : w.grownBy w' v.ownBlock) : Nq W w' s zs A B (some v) (some v') := by
  have hl : ∀ k, v.ownBlock = some k → W.heap.size ≤ k ∧ k < w.heap.size := (h.c rfl v rfl).lt
  refine ⟨⟨g.os.trans h.mq.os, g.tape.trans h.mq.tape, g.output.trans h.mq.output, Nat.le_trans h.mq.size g.size, fun k hk hn => (g.block k (Nat.lt_of_lt_of_le hk h.mq.size) (fun e => by have := (hl k e.symm).1; omega)).trans (h.mq.block k hk hn)⟩, ?_, fun u e => (h.a u e).kept g (h.ac rfl u v e rfl), fun u e => (h.b u e).kept g (h.bc rfl u v e rfl), (by intro e; cases e), fun u e => by cases e; exact n, (by intro e; cases e), (by intro e; cases e)⟩
  intro j hj
  obtain ⟨h1, h2⟩ := h.th j hj
  have hb : w'.heap[s]? = w.heap[s]? := g.block s (Nat.lt_of_lt_of_le hs h.mq.size) (fun e => by have := (hl s e.symm).1; omega)
  have e1 : w'.cell? ⟨s, 0 + j, none⟩ = w.cell? ⟨s, 0 + j, none⟩ := by simp only [World.cell?, hb]
  have e2 : w'.frozen? ⟨s, 0 + j, none⟩ = w.frozen? ⟨s, 0 + j, none⟩ := World.frozen?_of_block (w := w) hb
  exact ⟨by rw [e1]; exact h1, by rw [e2]; exact h2⟩
end Go.Proofs.YtaefollmeoepkaaGreatDoor
