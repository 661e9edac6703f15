/- Texts of this seat, joined. -/
import Derived.Test.YtdmlejfopmimfaaGreatDoorQ19
import Derived.Test.YtdmlejfopmimfaaGreatDoorQ20
namespace Go.Proofs.YtdmlejfopmimfaaGreatDoor
open Go.RowKit
set_option linter.unusedVariables false

theorem Vb.turn {w w' : World} {b q : Nat} {cs : Array Value} {t : TypeId} (h : Vb w q cs t) (k : Turn b w w') (hn : q ≠ b) : Vb w' q cs t := (k.block q h.lt hn).trans h

set_option maxHeartbeats 16000000 in
theorem ins7_any {w : World} {b k : Nat} {a : Option Addr} {len cap : Nat} {zs : List Int} (s : Src w b k a len cap zs) (hk : k ≤ 40000) :
    Calls Tryz.prog 35 #[.pointer (some ⟨b, 0, none⟩)] w fun e w' => ∃ (o d x i : Int) (k' : Nat), e = .returned (.agg #[.int .i64 o, .int .i64 d, .int .i64 x, .int .i64 i]) ∧ Turn b w w' ∧ Src w' b k' a len cap zs ∧ k' ≤ k + 10 := by
  have HH : Hid (b < w.heap.size) := s.here
  have s0 := s.alloc (.cells #[.int .i64 0, .int .i64 0, .int .i64 0, .int .i64 0] 72)
  have V0 : Hid (Vb (w.alloc (.cells #[.int .i64 0, .int .i64 0, .int .i64 0, .int .i64 0] 72)) w.heap.size #[.int .i64 0, .int .i64 0, .int .i64 0, .int .i64 0] 72) := Vb.new _ _ _
  go_enter Tryz.func35, Tryz.ntmps35
  go_wp2_with fail
  refine (next_any s0 (by omega) _).mono ?_
  rintro e w1 ⟨v1, rfl, h1, -, t1, s1⟩
  obtain ⟨l1, u1⟩ := h1 (by omega)
  clear h1
  go_wp2_with fail
  refine (next_any s1 (by omega) _).mono ?_
  rintro e w2 ⟨v2, rfl, h2, -, t2, s2⟩
  obtain ⟨l2, u2⟩ := h2 (by omega)
  have T2 : Hid (Turn b w w2) := (Turn.alloc b w _).trans (t1.trans t2)
  have V2 : Hid (Vb w2 w.heap.size #[.int .i64 0, .int .i64 0, .int .i64 0, .int .i64 0] 72) := (V0.out.turn t1 (by have := HH.out; omega)).turn t2 (by have := HH.out; omega)
  clear h2 t1 t2 s0 s1 V0
  have hv : v2 = 0 ∨ v2 = 1 ∨ v2 = 2 ∨ v2 = 3 ∨ v2 = 4 ∨ v2 = 5 ∨ v2 = 6 ∨ v2 = 7 ∨ v2 = 8 ∨ v2 = 9 ∨ v2 = 10 ∨ v2 = 11 ∨ v2 = 12 ∨ v2 = 13 := by omega
  clear l2 u2
  rcases hv with rfl | rfl | rfl | rfl | rfl | rfl | rfl | rfl | rfl | rfl | rfl | rfl | rfl | rfl
  · skip
    go_wp2_with fail
    refine (next_any s2 (by omega) _).mono ?_
    rintro e w3 ⟨v3, rfl, h3, -, t3, s3⟩
    obtain ⟨l3, u3⟩ := h3 (by omega)
    have T3 : Hid (Turn b w w3) := T2.out.trans t3
    have V3 : Hid (Vb w3 w.heap.size #[.int .i64 0, .int .i64 0, .int .i64 0, .int .i64 0] 72) := V2.out.turn t3 (by have := HH.out; omega)
    clear h3 t3 T2 V2
    go_wp2_with fail
    refine (next_any s3 (by omega) _).mono ?_
    rintro e w4 ⟨v4, rfl, h4, -, t4, s4⟩
    obtain ⟨l4, u4⟩ := h4 (by omega)
    have T4 : Hid (Turn b w w4) := T3.out.trans t4
    have V4 : Hid (Vb w4 w.heap.size #[.int .i64 0, .int .i64 0, .int .i64 0, .int .i64 0] 72) := V3.out.turn t4 (by have := HH.out; omega)
    clear h4 t4 T3 V3
    go_wp2_with fail
    refine (next_any s4 (by omega) _).mono ?_
    rintro e w5 ⟨v5, rfl, h5, -, t5, s5⟩
    obtain ⟨l5, u5⟩ := h5 (by omega)
    have T5 : Hid (Turn b w w5) := T4.out.trans t5
    have V5 : Hid (Vb w5 w.heap.size #[.int .i64 0, .int .i64 0, .int .i64 0, .int .i64 0] 72) := V4.out.turn t5 (by have := HH.out; omega)
    clear h5 t5 T4 V4
    go_wp2_with fail
    refine (next_any s5 (by omega) _).mono ?_
    rintro e w6 ⟨v6, rfl, h6, -, t6, s6⟩
    obtain ⟨l6, u6⟩ := h6 (by omega)
    have T6 : Hid (Turn b w w6) := T5.out.trans t6
    have V6 : Hid (Vb w6 w.heap.size #[.int .i64 0, .int .i64 0, .int .i64 0, .int .i64 0] 72) := V5.out.turn t6 (by have := HH.out; omega)
    clear h6 t6 T5 V5
    go_wp2_with fail
    have hb7 := s6.here
    refine (pick_any (s6.alloc _) (by omega) (fun _ => True) _ 4 (by omega) (by omega) (by simp) (by omega) ?_).mono ?_
    · intro i hi
      have : i = 0 ∨ i = 1 ∨ i = 2 ∨ i = 3 := by omega
      rcases this with rfl | rfl | rfl | rfl
      all_goals exact ⟨_, cell_new rfl, trivial⟩
    rintro e w7 ⟨v7, rfl, -, t7, s7⟩
    have T7 : Hid (Turn b w w7) := T6.out.trans ((Turn.alloc b _ _).trans t7)
    have V7 : Hid (Vb w7 w.heap.size #[.int .i64 0, .int .i64 0, .int .i64 0, .int .i64 0] 72) := (V6.out.push _).turn t7 (by have := HH.out; omega)
    clear t7 T6 V6 hb7
    have S7 : Hid (Src w7 b _ a len cap zs) := s7
    have k0 := V7.out.cell 0 rfl
    have k1 := V7.out.cell 1 rfl
    have k2 := V7.out.cell 2 rfl
    have k3 := V7.out.cell 3 rfl
    have f0 := V7.out.free 0
    have f1 := V7.out.free 1
    have f2 := V7.out.free 2
    have f3 := V7.out.free 3
    have sz := V7.out.lt
    clear s2 s3 s4 s5 s6 s7
    go_wp2_with fail
    exact bodyPost_ret (v := .agg #[.int .i64 (12), .int .i64 (1 + v1), .int .i64 (v3), .int .i64 (v7)]) (by simp [results, Tryz.results35, go_sem, k0, k1, k2, k3]) rfl ⟨_, _, _, _, _, rfl, (((T7.out.putC (p := ⟨w.heap.size, 0, none⟩) (Nat.le_refl _) _).putC (p := ⟨w.heap.size, 1, none⟩) (Nat.le_refl _) _).putC (p := ⟨w.heap.size, 2, none⟩) (Nat.le_refl _) _).putC (p := ⟨w.heap.size, 3, none⟩) (Nat.le_refl _) _, (((S7.out.putC (p := ⟨w.heap.size, 0, none⟩) HH.out _).putC (p := ⟨w.heap.size, 1, none⟩) HH.out _).putC (p := ⟨w.heap.size, 2, none⟩) HH.out _).putC (p := ⟨w.heap.size, 3, none⟩) HH.out _, by omega⟩
  · skip
    go_wp2_with fail
    refine (next_any s2 (by omega) _).mono ?_
    rintro e w3 ⟨v3, rfl, h3, -, t3, s3⟩
    obtain ⟨l3, u3⟩ := h3 (by omega)
    have T3 : Hid (Turn b w w3) := T2.out.trans t3
    have V3 : Hid (Vb w3 w.heap.size #[.int .i64 0, .int .i64 0, .int .i64 0, .int .i64 0] 72) := V2.out.turn t3 (by have := HH.out; omega)
    clear h3 t3 T2 V2
    go_wp2_with fail
    refine (next_any s3 (by omega) _).mono ?_
    rintro e w4 ⟨v4, rfl, h4, -, t4, s4⟩
    obtain ⟨l4, u4⟩ := h4 (by omega)
    have T4 : Hid (Turn b w w4) := T3.out.trans t4
    have V4 : Hid (Vb w4 w.heap.size #[.int .i64 0, .int .i64 0, .int .i64 0, .int .i64 0] 72) := V3.out.turn t4 (by have := HH.out; omega)
    clear h4 t4 T3 V3
    go_wp2_with fail
    refine (next_any s4 (by omega) _).mono ?_
    rintro e w5 ⟨v5, rfl, h5, -, t5, s5⟩
    obtain ⟨l5, u5⟩ := h5 (by omega)
    have T5 : Hid (Turn b w w5) := T4.out.trans t5
    have V5 : Hid (Vb w5 w.heap.size #[.int .i64 0, .int .i64 0, .int .i64 0, .int .i64 0] 72) := V4.out.turn t5 (by have := HH.out; omega)
    clear h5 t5 T4 V4
    go_wp2_with fail
    refine (next_any s5 (by omega) _).mono ?_
    rintro e w6 ⟨v6, rfl, h6, -, t6, s6⟩
    obtain ⟨l6, u6⟩ := h6 (by omega)
    have T6 : Hid (Turn b w w6) := T5.out.trans t6
    have V6 : Hid (Vb w6 w.heap.size #[.int .i64 0, .int .i64 0, .int .i64 0, .int .i64 0] 72) := V5.out.turn t6 (by have := HH.out; omega)
    clear h6 t6 T5 V5
    go_wp2_with fail
    have hb7 := s6.here
    refine (pick_any (s6.alloc _) (by omega) (fun _ => True) _ 4 (by omega) (by omega) (by simp) (by omega) ?_).mono ?_
    · intro i hi
      have : i = 0 ∨ i = 1 ∨ i = 2 ∨ i = 3 := by omega
      rcases this with rfl | rfl | rfl | rfl
      all_goals exact ⟨_, cell_new rfl, trivial⟩
    rintro e w7 ⟨v7, rfl, -, t7, s7⟩
    have T7 : Hid (Turn b w w7) := T6.out.trans ((Turn.alloc b _ _).trans t7)
    have V7 : Hid (Vb w7 w.heap.size #[.int .i64 0, .int .i64 0, .int .i64 0, .int .i64 0] 72) := (V6.out.push _).turn t7 (by have := HH.out; omega)
    clear t7 T6 V6 hb7
    have S7 : Hid (Src w7 b _ a len cap zs) := s7
    have k0 := V7.out.cell 0 rfl
    have k1 := V7.out.cell 1 rfl
    have k2 := V7.out.cell 2 rfl
    have k3 := V7.out.cell 3 rfl
    have f0 := V7.out.free 0
    have f1 := V7.out.free 1
    have f2 := V7.out.free 2
    have f3 := V7.out.free 3
    have sz := V7.out.lt
    clear s2 s3 s4 s5 s6 s7
    go_wp2_with fail
    exact bodyPost_ret (v := .agg #[.int .i64 (12), .int .i64 (1 + v1), .int .i64 (v3), .int .i64 (v7)]) (by simp [results, Tryz.results35, go_sem, k0, k1, k2, k3]) rfl ⟨_, _, _, _, _, rfl, (((T7.out.putC (p := ⟨w.heap.size, 0, none⟩) (Nat.le_refl _) _).putC (p := ⟨w.heap.size, 1, none⟩) (Nat.le_refl _) _).putC (p := ⟨w.heap.size, 2, none⟩) (Nat.le_refl _) _).putC (p := ⟨w.heap.size, 3, none⟩) (Nat.le_refl _) _, (((S7.out.putC (p := ⟨w.heap.size, 0, none⟩) HH.out _).putC (p := ⟨w.heap.size, 1, none⟩) HH.out _).putC (p := ⟨w.heap.size, 2, none⟩) HH.out _).putC (p := ⟨w.heap.size, 3, none⟩) HH.out _, by omega⟩
  · skip
    go_wp2_with fail
    refine (next_any s2 (by omega) _).mono ?_
    rintro e w3 ⟨v3, rfl, h3, -, t3, s3⟩
    obtain ⟨l3, u3⟩ := h3 (by omega)
    have T3 : Hid (Turn b w w3) := T2.out.trans t3
    have V3 : Hid (Vb w3 w.heap.size #[.int .i64 0, .int .i64 0, .int .i64 0, .int .i64 0] 72) := V2.out.turn t3 (by have := HH.out; omega)
    clear h3 t3 T2 V2
    go_wp2_with fail
    refine (next_any s3 (by omega) _).mono ?_
    rintro e w4 ⟨v4, rfl, h4, -, t4, s4⟩
    obtain ⟨l4, u4⟩ := h4 (by omega)
    have T4 : Hid (Turn b w w4) := T3.out.trans t4
    have V4 : Hid (Vb w4 w.heap.size #[.int .i64 0, .int .i64 0, .int .i64 0, .int .i64 0] 72) := V3.out.turn t4 (by have := HH.out; omega)
    clear h4 t4 T3 V3
    go_wp2_with fail
    refine (next_any s4 (by omega) _).mono ?_
    rintro e w5 ⟨v5, rfl, h5, -, t5, s5⟩
    obtain ⟨l5, u5⟩ := h5 (by omega)
    have T5 : Hid (Turn b w w5) := T4.out.trans t5
    have V5 : Hid (Vb w5 w.heap.size #[.int .i64 0, .int .i64 0, .int .i64 0, .int .i64 0] 72) := V4.out.turn t5 (by have := HH.out; omega)
    clear h5 t5 T4 V4
    go_wp2_with fail
    refine (next_any s5 (by omega) _).mono ?_
    rintro e w6 ⟨v6, rfl, h6, -, t6, s6⟩
    obtain ⟨l6, u6⟩ := h6 (by omega)
    have T6 : Hid (Turn b w w6) := T5.out.trans t6
    have V6 : Hid (Vb w6 w.heap.size #[.int .i64 0, .int .i64 0, .int .i64 0, .int .i64 0] 72) := V5.out.turn t6 (by have := HH.out; omega)
    clear h6 t6 T5 V5
    go_wp2_with fail
    have hb7 := s6.here
    refine (pick_any (s6.alloc _) (by omega) (fun _ => True) _ 4 (by omega) (by omega) (by simp) (by omega) ?_).mono ?_
    · intro i hi
      have : i = 0 ∨ i = 1 ∨ i = 2 ∨ i = 3 := by omega
      rcases this with rfl | rfl | rfl | rfl
      all_goals exact ⟨_, cell_new rfl, trivial⟩
    rintro e w7 ⟨v7, rfl, -, t7, s7⟩
    have T7 : Hid (Turn b w w7) := T6.out.trans ((Turn.alloc b _ _).trans t7)
    have V7 : Hid (Vb w7 w.heap.size #[.int .i64 0, .int .i64 0, .int .i64 0, .int .i64 0] 72) := (V6.out.push _).turn t7 (by have := HH.out; omega)
    clear t7 T6 V6 hb7
    have S7 : Hid (Src w7 b _ a len cap zs) := s7
    have k0 := V7.out.cell 0 rfl
    have k1 := V7.out.cell 1 rfl
    have k2 := V7.out.cell 2 rfl
    have k3 := V7.out.cell 3 rfl
    have f0 := V7.out.free 0
    have f1 := V7.out.free 1
    have f2 := V7.out.free 2
    have f3 := V7.out.free 3
    have sz := V7.out.lt
    clear s2 s3 s4 s5 s6 s7
    go_wp2_with fail
    exact bodyPost_ret (v := .agg #[.int .i64 (12), .int .i64 (1 + v1), .int .i64 (v3), .int .i64 (v7)]) (by simp [results, Tryz.results35, go_sem, k0, k1, k2, k3]) rfl ⟨_, _, _, _, _, rfl, (((T7.out.putC (p := ⟨w.heap.size, 0, none⟩) (Nat.le_refl _) _).putC (p := ⟨w.heap.size, 1, none⟩) (Nat.le_refl _) _).putC (p := ⟨w.heap.size, 2, none⟩) (Nat.le_refl _) _).putC (p := ⟨w.heap.size, 3, none⟩) (Nat.le_refl _) _, (((S7.out.putC (p := ⟨w.heap.size, 0, none⟩) HH.out _).putC (p := ⟨w.heap.size, 1, none⟩) HH.out _).putC (p := ⟨w.heap.size, 2, none⟩) HH.out _).putC (p := ⟨w.heap.size, 3, none⟩) HH.out _, by omega⟩
  · skip
    go_wp2_with fail
    refine (next_any s2 (by omega) _).mono ?_
    rintro e w3 ⟨v3, rfl, h3, -, t3, s3⟩
    obtain ⟨l3, u3⟩ := h3 (by omega)
    have T3 : Hid (Turn b w w3) := T2.out.trans t3
    have V3 : Hid (Vb w3 w.heap.size #[.int .i64 0, .int .i64 0, .int .i64 0, .int .i64 0] 72) := V2.out.turn t3 (by have := HH.out; omega)
    clear h3 t3 T2 V2
    go_wp2_with fail
    refine (next_any s3 (by omega) _).mono ?_
    rintro e w4 ⟨v4, rfl, h4, -, t4, s4⟩
    obtain ⟨l4, u4⟩ := h4 (by omega)
    have T4 : Hid (Turn b w w4) := T3.out.trans t4
    have V4 : Hid (Vb w4 w.heap.size #[.int .i64 0, .int .i64 0, .int .i64 0, .int .i64 0] 72) := V3.out.turn t4 (by have := HH.out; omega)
    clear h4 t4 T3 V3
    go_wp2_with fail
    refine (next_any s4 (by omega) _).mono ?_
    rintro e w5 ⟨v5, rfl, h5, -, t5, s5⟩
    obtain ⟨l5, u5⟩ := h5 (by omega)
    have T5 : Hid (Turn b w w5) := T4.out.trans t5
    have V5 : Hid (Vb w5 w.heap.size #[.int .i64 0, .int .i64 0, .int .i64 0, .int .i64 0] 72) := V4.out.turn t5 (by have := HH.out; omega)
    clear h5 t5 T4 V4
    have S5 : Hid (Src w5 b _ a len cap zs) := s5
    have k0 := V5.out.cell 0 rfl
    have k1 := V5.out.cell 1 rfl
    have k2 := V5.out.cell 2 rfl
    have k3 := V5.out.cell 3 rfl
    have f0 := V5.out.free 0
    have f1 := V5.out.free 1
    have f2 := V5.out.free 2
    have f3 := V5.out.free 3
    have sz := V5.out.lt
    clear s2 s3 s4 s5
    go_wp2_with fail
    exact bodyPost_ret (v := .agg #[.int .i64 (1 + v3), .int .i64 (1 + v1), .int .i64 (v4), .int .i64 (v5)]) (by simp [results, Tryz.results35, go_sem, k0, k1, k2, k3]) rfl ⟨_, _, _, _, _, rfl, (((T5.out.putC (p := ⟨w.heap.size, 0, none⟩) (Nat.le_refl _) _).putC (p := ⟨w.heap.size, 1, none⟩) (Nat.le_refl _) _).putC (p := ⟨w.heap.size, 2, none⟩) (Nat.le_refl _) _).putC (p := ⟨w.heap.size, 3, none⟩) (Nat.le_refl _) _, (((S5.out.putC (p := ⟨w.heap.size, 0, none⟩) HH.out _).putC (p := ⟨w.heap.size, 1, none⟩) HH.out _).putC (p := ⟨w.heap.size, 2, none⟩) HH.out _).putC (p := ⟨w.heap.size, 3, none⟩) HH.out _, by omega⟩
  · skip
    go_wp2_with fail
    refine (next_any s2 (by omega) _).mono ?_
    rintro e w3 ⟨v3, rfl, h3, -, t3, s3⟩
    obtain ⟨l3, u3⟩ := h3 (by omega)
    have T3 : Hid (Turn b w w3) := T2.out.trans t3
    have V3 : Hid (Vb w3 w.heap.size #[.int .i64 0, .int .i64 0, .int .i64 0, .int .i64 0] 72) := V2.out.turn t3 (by have := HH.out; omega)
    clear h3 t3 T2 V2
    go_wp2_with fail
    refine (next_any s3 (by omega) _).mono ?_
    rintro e w4 ⟨v4, rfl, h4, -, t4, s4⟩
    obtain ⟨l4, u4⟩ := h4 (by omega)
    have T4 : Hid (Turn b w w4) := T3.out.trans t4
    have V4 : Hid (Vb w4 w.heap.size #[.int .i64 0, .int .i64 0, .int .i64 0, .int .i64 0] 72) := V3.out.turn t4 (by have := HH.out; omega)
    clear h4 t4 T3 V3
    go_wp2_with fail
    refine (next_any s4 (by omega) _).mono ?_
    rintro e w5 ⟨v5, rfl, h5, -, t5, s5⟩
    obtain ⟨l5, u5⟩ := h5 (by omega)
    have T5 : Hid (Turn b w w5) := T4.out.trans t5
    have V5 : Hid (Vb w5 w.heap.size #[.int .i64 0, .int .i64 0, .int .i64 0, .int .i64 0] 72) := V4.out.turn t5 (by have := HH.out; omega)
    clear h5 t5 T4 V4
    go_wp2_with fail
    refine (next_any s5 (by omega) _).mono ?_
    rintro e w6 ⟨v6, rfl, h6, -, t6, s6⟩
    obtain ⟨l6, u6⟩ := h6 (by omega)
    have T6 : Hid (Turn b w w6) := T5.out.trans t6
    have V6 : Hid (Vb w6 w.heap.size #[.int .i64 0, .int .i64 0, .int .i64 0, .int .i64 0] 72) := V5.out.turn t6 (by have := HH.out; omega)
    clear h6 t6 T5 V5
    go_wp2_with fail
    have hb7 := s6.here
    refine (pick_any (s6.alloc _) (by omega) (fun _ => True) _ 3 (by omega) (by omega) (by simp) (by omega) ?_).mono ?_
    · intro i hi
      have : i = 0 ∨ i = 1 ∨ i = 2 := by omega
      rcases this with rfl | rfl | rfl
      all_goals exact ⟨_, cell_new rfl, trivial⟩
    rintro e w7 ⟨v7, rfl, -, t7, s7⟩
    have T7 : Hid (Turn b w w7) := T6.out.trans ((Turn.alloc b _ _).trans t7)
    have V7 : Hid (Vb w7 w.heap.size #[.int .i64 0, .int .i64 0, .int .i64 0, .int .i64 0] 72) := (V6.out.push _).turn t7 (by have := HH.out; omega)
    clear t7 T6 V6 hb7
    have S7 : Hid (Src w7 b _ a len cap zs) := s7
    have k0 := V7.out.cell 0 rfl
    have k1 := V7.out.cell 1 rfl
    have k2 := V7.out.cell 2 rfl
    have k3 := V7.out.cell 3 rfl
    have f0 := V7.out.free 0
    have f1 := V7.out.free 1
    have f2 := V7.out.free 2
    have f3 := V7.out.free 3
    have sz := V7.out.lt
    clear s2 s3 s4 s5 s6 s7
    go_wp2_with fail
    exact bodyPost_ret (v := .agg #[.int .i64 (15), .int .i64 (1 + v1), .int .i64 (v3), .int .i64 (v7)]) (by simp [results, Tryz.results35, go_sem, k0, k1, k2, k3]) rfl ⟨_, _, _, _, _, rfl, (((T7.out.putC (p := ⟨w.heap.size, 0, none⟩) (Nat.le_refl _) _).putC (p := ⟨w.heap.size, 1, none⟩) (Nat.le_refl _) _).putC (p := ⟨w.heap.size, 2, none⟩) (Nat.le_refl _) _).putC (p := ⟨w.heap.size, 3, none⟩) (Nat.le_refl _) _, (((S7.out.putC (p := ⟨w.heap.size, 0, none⟩) HH.out _).putC (p := ⟨w.heap.size, 1, none⟩) HH.out _).putC (p := ⟨w.heap.size, 2, none⟩) HH.out _).putC (p := ⟨w.heap.size, 3, none⟩) HH.out _, by omega⟩
  · skip
    go_wp2_with fail
    refine (next_any s2 (by omega) _).mono ?_
    rintro e w3 ⟨v3, rfl, h3, -, t3, s3⟩
    obtain ⟨l3, u3⟩ := h3 (by omega)
    have T3 : Hid (Turn b w w3) := T2.out.trans t3
    have V3 : Hid (Vb w3 w.heap.size #[.int .i64 0, .int .i64 0, .int .i64 0, .int .i64 0] 72) := V2.out.turn t3 (by have := HH.out; omega)
    clear h3 t3 T2 V2
    go_wp2_with fail
    refine (next_any s3 (by omega) _).mono ?_
    rintro e w4 ⟨v4, rfl, h4, -, t4, s4⟩
    obtain ⟨l4, u4⟩ := h4 (by omega)
    have T4 : Hid (Turn b w w4) := T3.out.trans t4
    have V4 : Hid (Vb w4 w.heap.size #[.int .i64 0, .int .i64 0, .int .i64 0, .int .i64 0] 72) := V3.out.turn t4 (by have := HH.out; omega)
    clear h4 t4 T3 V3
    go_wp2_with fail
    refine (next_any s4 (by omega) _).mono ?_
    rintro e w5 ⟨v5, rfl, h5, -, t5, s5⟩
    obtain ⟨l5, u5⟩ := h5 (by omega)
    have T5 : Hid (Turn b w w5) := T4.out.trans t5
    have V5 : Hid (Vb w5 w.heap.size #[.int .i64 0, .int .i64 0, .int .i64 0, .int .i64 0] 72) := V4.out.turn t5 (by have := HH.out; omega)
    clear h5 t5 T4 V4
    go_wp2_with fail
    refine (next_any s5 (by omega) _).mono ?_
    rintro e w6 ⟨v6, rfl, h6, -, t6, s6⟩
    obtain ⟨l6, u6⟩ := h6 (by omega)
    have T6 : Hid (Turn b w w6) := T5.out.trans t6
    have V6 : Hid (Vb w6 w.heap.size #[.int .i64 0, .int .i64 0, .int .i64 0, .int .i64 0] 72) := V5.out.turn t6 (by have := HH.out; omega)
    clear h6 t6 T5 V5
    go_wp2_with fail
    have hb7 := s6.here
    refine (pick_any (s6.alloc _) (by omega) (fun _ => True) _ 3 (by omega) (by omega) (by simp) (by omega) ?_).mono ?_
    · intro i hi
      have : i = 0 ∨ i = 1 ∨ i = 2 := by omega
      rcases this with rfl | rfl | rfl
      all_goals exact ⟨_, cell_new rfl, trivial⟩
    rintro e w7 ⟨v7, rfl, -, t7, s7⟩
    have T7 : Hid (Turn b w w7) := T6.out.trans ((Turn.alloc b _ _).trans t7)
    have V7 : Hid (Vb w7 w.heap.size #[.int .i64 0, .int .i64 0, .int .i64 0, .int .i64 0] 72) := (V6.out.push _).turn t7 (by have := HH.out; omega)
    clear t7 T6 V6 hb7
    have S7 : Hid (Src w7 b _ a len cap zs) := s7
    have k0 := V7.out.cell 0 rfl
    have k1 := V7.out.cell 1 rfl
    have k2 := V7.out.cell 2 rfl
    have k3 := V7.out.cell 3 rfl
    have f0 := V7.out.free 0
    have f1 := V7.out.free 1
    have f2 := V7.out.free 2
    have f3 := V7.out.free 3
    have sz := V7.out.lt
    clear s2 s3 s4 s5 s6 s7
    go_wp2_with fail
    exact bodyPost_ret (v := .agg #[.int .i64 (15), .int .i64 (1 + v1), .int .i64 (v3), .int .i64 (v7)]) (by simp [results, Tryz.results35, go_sem, k0, k1, k2, k3]) rfl ⟨_, _, _, _, _, rfl, (((T7.out.putC (p := ⟨w.heap.size, 0, none⟩) (Nat.le_refl _) _).putC (p := ⟨w.heap.size, 1, none⟩) (Nat.le_refl _) _).putC (p := ⟨w.heap.size, 2, none⟩) (Nat.le_refl _) _).putC (p := ⟨w.heap.size, 3, none⟩) (Nat.le_refl _) _, (((S7.out.putC (p := ⟨w.heap.size, 0, none⟩) HH.out _).putC (p := ⟨w.heap.size, 1, none⟩) HH.out _).putC (p := ⟨w.heap.size, 2, none⟩) HH.out _).putC (p := ⟨w.heap.size, 3, none⟩) HH.out _, by omega⟩
  · skip
    go_wp2_with fail
    refine (next_any s2 (by omega) _).mono ?_
    rintro e w3 ⟨v3, rfl, h3, -, t3, s3⟩
    obtain ⟨l3, u3⟩ := h3 (by omega)
    have T3 : Hid (Turn b w w3) := T2.out.trans t3
    have V3 : Hid (Vb w3 w.heap.size #[.int .i64 0, .int .i64 0, .int .i64 0, .int .i64 0] 72) := V2.out.turn t3 (by have := HH.out; omega)
    clear h3 t3 T2 V2
    go_wp2_with fail
    refine (next_any s3 (by omega) _).mono ?_
    rintro e w4 ⟨v4, rfl, h4, -, t4, s4⟩
    obtain ⟨l4, u4⟩ := h4 (by omega)
    have T4 : Hid (Turn b w w4) := T3.out.trans t4
    have V4 : Hid (Vb w4 w.heap.size #[.int .i64 0, .int .i64 0, .int .i64 0, .int .i64 0] 72) := V3.out.turn t4 (by have := HH.out; omega)
    clear h4 t4 T3 V3
    go_wp2_with fail
    refine (next_any s4 (by omega) _).mono ?_
    rintro e w5 ⟨v5, rfl, h5, -, t5, s5⟩
    obtain ⟨l5, u5⟩ := h5 (by omega)
    have T5 : Hid (Turn b w w5) := T4.out.trans t5
    have V5 : Hid (Vb w5 w.heap.size #[.int .i64 0, .int .i64 0, .int .i64 0, .int .i64 0] 72) := V4.out.turn t5 (by have := HH.out; omega)
    clear h5 t5 T4 V4
    go_wp2_with fail
    refine (next_any s5 (by omega) _).mono ?_
    rintro e w6 ⟨v6, rfl, h6, -, t6, s6⟩
    obtain ⟨l6, u6⟩ := h6 (by omega)
    have T6 : Hid (Turn b w w6) := T5.out.trans t6
    have V6 : Hid (Vb w6 w.heap.size #[.int .i64 0, .int .i64 0, .int .i64 0, .int .i64 0] 72) := V5.out.turn t6 (by have := HH.out; omega)
    clear h6 t6 T5 V5
    go_wp2_with fail
    have hb7 := s6.here
    refine (pick_any (s6.alloc _) (by omega) (fun _ => True) _ 3 (by omega) (by omega) (by simp) (by omega) ?_).mono ?_
    · intro i hi
      have : i = 0 ∨ i = 1 ∨ i = 2 := by omega
      rcases this with rfl | rfl | rfl
      all_goals exact ⟨_, cell_new rfl, trivial⟩
    rintro e w7 ⟨v7, rfl, -, t7, s7⟩
    have T7 : Hid (Turn b w w7) := T6.out.trans ((Turn.alloc b _ _).trans t7)
    have V7 : Hid (Vb w7 w.heap.size #[.int .i64 0, .int .i64 0, .int .i64 0, .int .i64 0] 72) := (V6.out.push _).turn t7 (by have := HH.out; omega)
    clear t7 T6 V6 hb7
    have S7 : Hid (Src w7 b _ a len cap zs) := s7
    have k0 := V7.out.cell 0 rfl
    have k1 := V7.out.cell 1 rfl
    have k2 := V7.out.cell 2 rfl
    have k3 := V7.out.cell 3 rfl
    have f0 := V7.out.free 0
    have f1 := V7.out.free 1
    have f2 := V7.out.free 2
    have f3 := V7.out.free 3
    have sz := V7.out.lt
    clear s2 s3 s4 s5 s6 s7
    go_wp2_with fail
    exact bodyPost_ret (v := .agg #[.int .i64 (14), .int .i64 (1 + v1), .int .i64 (v3), .int .i64 (v7)]) (by simp [results, Tryz.results35, go_sem, k0, k1, k2, k3]) rfl ⟨_, _, _, _, _, rfl, (((T7.out.putC (p := ⟨w.heap.size, 0, none⟩) (Nat.le_refl _) _).putC (p := ⟨w.heap.size, 1, none⟩) (Nat.le_refl _) _).putC (p := ⟨w.heap.size, 2, none⟩) (Nat.le_refl _) _).putC (p := ⟨w.heap.size, 3, none⟩) (Nat.le_refl _) _, (((S7.out.putC (p := ⟨w.heap.size, 0, none⟩) HH.out _).putC (p := ⟨w.heap.size, 1, none⟩) HH.out _).putC (p := ⟨w.heap.size, 2, none⟩) HH.out _).putC (p := ⟨w.heap.size, 3, none⟩) HH.out _, by omega⟩
  · skip
    go_wp2_with fail
    refine (next_any s2 (by omega) _).mono ?_
    rintro e w3 ⟨v3, rfl, h3, -, t3, s3⟩
    obtain ⟨l3, u3⟩ := h3 (by omega)
    have T3 : Hid (Turn b w w3) := T2.out.trans t3
    have V3 : Hid (Vb w3 w.heap.size #[.int .i64 0, .int .i64 0, .int .i64 0, .int .i64 0] 72) := V2.out.turn t3 (by have := HH.out; omega)
    clear h3 t3 T2 V2
    go_wp2_with fail
    refine (next_any s3 (by omega) _).mono ?_
    rintro e w4 ⟨v4, rfl, h4, -, t4, s4⟩
    obtain ⟨l4, u4⟩ := h4 (by omega)
    have T4 : Hid (Turn b w w4) := T3.out.trans t4
    have V4 : Hid (Vb w4 w.heap.size #[.int .i64 0, .int .i64 0, .int .i64 0, .int .i64 0] 72) := V3.out.turn t4 (by have := HH.out; omega)
    clear h4 t4 T3 V3
    go_wp2_with fail
    refine (next_any s4 (by omega) _).mono ?_
    rintro e w5 ⟨v5, rfl, h5, -, t5, s5⟩
    obtain ⟨l5, u5⟩ := h5 (by omega)
    have T5 : Hid (Turn b w w5) := T4.out.trans t5
    have V5 : Hid (Vb w5 w.heap.size #[.int .i64 0, .int .i64 0, .int .i64 0, .int .i64 0] 72) := V4.out.turn t5 (by have := HH.out; omega)
    clear h5 t5 T4 V4
    go_wp2_with fail
    refine (next_any s5 (by omega) _).mono ?_
    rintro e w6 ⟨v6, rfl, h6, -, t6, s6⟩
    obtain ⟨l6, u6⟩ := h6 (by omega)
    have T6 : Hid (Turn b w w6) := T5.out.trans t6
    have V6 : Hid (Vb w6 w.heap.size #[.int .i64 0, .int .i64 0, .int .i64 0, .int .i64 0] 72) := V5.out.turn t6 (by have := HH.out; omega)
    clear h6 t6 T5 V5
    go_wp2_with fail
    have hb7 := s6.here
    refine (pick_any (s6.alloc _) (by omega) (fun _ => True) _ 3 (by omega) (by omega) (by simp) (by omega) ?_).mono ?_
    · intro i hi
      have : i = 0 ∨ i = 1 ∨ i = 2 := by omega
      rcases this with rfl | rfl | rfl
      all_goals exact ⟨_, cell_new rfl, trivial⟩
    rintro e w7 ⟨v7, rfl, -, t7, s7⟩
    have T7 : Hid (Turn b w w7) := T6.out.trans ((Turn.alloc b _ _).trans t7)
    have V7 : Hid (Vb w7 w.heap.size #[.int .i64 0, .int .i64 0, .int .i64 0, .int .i64 0] 72) := (V6.out.push _).turn t7 (by have := HH.out; omega)
    clear t7 T6 V6 hb7
    have S7 : Hid (Src w7 b _ a len cap zs) := s7
    have k0 := V7.out.cell 0 rfl
    have k1 := V7.out.cell 1 rfl
    have k2 := V7.out.cell 2 rfl
    have k3 := V7.out.cell 3 rfl
    have f0 := V7.out.free 0
    have f1 := V7.out.free 1
    have f2 := V7.out.free 2
    have f3 := V7.out.free 3
    have sz := V7.out.lt
    clear s2 s3 s4 s5 s6 s7
    go_wp2_with fail
    exact bodyPost_ret (v := .agg #[.int .i64 (14), .int .i64 (1 + v1), .int .i64 (v3), .int .i64 (v7)]) (by simp [results, Tryz.results35, go_sem, k0, k1, k2, k3]) rfl ⟨_, _, _, _, _, rfl, (((T7.out.putC (p := ⟨w.heap.size, 0, none⟩) (Nat.le_refl _) _).putC (p := ⟨w.heap.size, 1, none⟩) (Nat.le_refl _) _).putC (p := ⟨w.heap.size, 2, none⟩) (Nat.le_refl _) _).putC (p := ⟨w.heap.size, 3, none⟩) (Nat.le_refl _) _, (((S7.out.putC (p := ⟨w.heap.size, 0, none⟩) HH.out _).putC (p := ⟨w.heap.size, 1, none⟩) HH.out _).putC (p := ⟨w.heap.size, 2, none⟩) HH.out _).putC (p := ⟨w.heap.size, 3, none⟩) HH.out _, by omega⟩
  · skip
    go_wp2_with fail
    have hb3 := s2.here
    refine (pick_any (s2.alloc _) (by omega) (fun _ => True) _ 3 (by omega) (by omega) (by simp) (by omega) ?_).mono ?_
    · intro i hi
      have : i = 0 ∨ i = 1 ∨ i = 2 := by omega
      rcases this with rfl | rfl | rfl
      all_goals exact ⟨_, cell_new rfl, trivial⟩
    rintro e w3 ⟨v3, rfl, -, t3, s3⟩
    have T3 : Hid (Turn b w w3) := T2.out.trans ((Turn.alloc b _ _).trans t3)
    have V3 : Hid (Vb w3 w.heap.size #[.int .i64 0, .int .i64 0, .int .i64 0, .int .i64 0] 72) := (V2.out.push _).turn t3 (by have := HH.out; omega)
    clear t3 T2 V2 hb3
    go_wp2_with fail
    refine (next_any s3 (by omega) _).mono ?_
    rintro e w4 ⟨v4, rfl, h4, -, t4, s4⟩
    obtain ⟨l4, u4⟩ := h4 (by omega)
    have T4 : Hid (Turn b w w4) := T3.out.trans t4
    have V4 : Hid (Vb w4 w.heap.size #[.int .i64 0, .int .i64 0, .int .i64 0, .int .i64 0] 72) := V3.out.turn t4 (by have := HH.out; omega)
    clear h4 t4 T3 V3
    go_wp2_with fail
    have hb5 := s4.here
    refine (pick_any (s4.alloc _) (by omega) (fun _ => True) _ 4 (by omega) (by omega) (by simp) (by omega) ?_).mono ?_
    · intro i hi
      have : i = 0 ∨ i = 1 ∨ i = 2 ∨ i = 3 := by omega
      rcases this with rfl | rfl | rfl | rfl
      all_goals exact ⟨_, cell_new rfl, trivial⟩
    rintro e w5 ⟨v5, rfl, -, t5, s5⟩
    have T5 : Hid (Turn b w w5) := T4.out.trans ((Turn.alloc b _ _).trans t5)
    have V5 : Hid (Vb w5 w.heap.size #[.int .i64 0, .int .i64 0, .int .i64 0, .int .i64 0] 72) := (V4.out.push _).turn t5 (by have := HH.out; omega)
    clear t5 T4 V4 hb5
    have S5 : Hid (Src w5 b _ a len cap zs) := s5
    have k0 := V5.out.cell 0 rfl
    have k1 := V5.out.cell 1 rfl
    have k2 := V5.out.cell 2 rfl
    have k3 := V5.out.cell 3 rfl
    have f0 := V5.out.free 0
    have f1 := V5.out.free 1
    have f2 := V5.out.free 2
    have f3 := V5.out.free 3
    have sz := V5.out.lt
    clear s2 s3 s4 s5
    go_wp2_with fail
    exact bodyPost_ret (v := .agg #[.int .i64 (v3), .int .i64 (1 + v1), .int .i64 (v4), .int .i64 (v5)]) (by simp [results, Tryz.results35, go_sem, k0, k1, k2, k3]) rfl ⟨_, _, _, _, _, rfl, (((T5.out.putC (p := ⟨w.heap.size, 0, none⟩) (Nat.le_refl _) _).putC (p := ⟨w.heap.size, 1, none⟩) (Nat.le_refl _) _).putC (p := ⟨w.heap.size, 2, none⟩) (Nat.le_refl _) _).putC (p := ⟨w.heap.size, 3, none⟩) (Nat.le_refl _) _, (((S5.out.putC (p := ⟨w.heap.size, 0, none⟩) HH.out _).putC (p := ⟨w.heap.size, 1, none⟩) HH.out _).putC (p := ⟨w.heap.size, 2, none⟩) HH.out _).putC (p := ⟨w.heap.size, 3, none⟩) HH.out _, by omega⟩
  · skip
    go_wp2_with fail
    have hb3 := s2.here
    refine (pick_any (s2.alloc _) (by omega) (fun _ => True) _ 7 (by omega) (by omega) (by simp) (by omega) ?_).mono ?_
    · intro i hi
      have : i = 0 ∨ i = 1 ∨ i = 2 ∨ i = 3 ∨ i = 4 ∨ i = 5 ∨ i = 6 := by omega
      rcases this with rfl | rfl | rfl | rfl | rfl | rfl | rfl
      all_goals exact ⟨_, cell_new rfl, trivial⟩
    rintro e w3 ⟨v3, rfl, -, t3, s3⟩
    have T3 : Hid (Turn b w w3) := T2.out.trans ((Turn.alloc b _ _).trans t3)
    have V3 : Hid (Vb w3 w.heap.size #[.int .i64 0, .int .i64 0, .int .i64 0, .int .i64 0] 72) := (V2.out.push _).turn t3 (by have := HH.out; omega)
    clear t3 T2 V2 hb3
    have S3 : Hid (Src w3 b _ a len cap zs) := s3
    have k0 := V3.out.cell 0 rfl
    have k1 := V3.out.cell 1 rfl
    have k2 := V3.out.cell 2 rfl
    have k3 := V3.out.cell 3 rfl
    have f0 := V3.out.free 0
    have f1 := V3.out.free 1
    have f2 := V3.out.free 2
    have f3 := V3.out.free 3
    have sz := V3.out.lt
    clear s2 s3
    go_wp2_with fail
    exact bodyPost_ret (v := .agg #[.int .i64 (22), .int .i64 (0), .int .i64 (1 + v1), .int .i64 (v3)]) (by simp [results, Tryz.results35, go_sem, k0, k1, k2, k3]) rfl ⟨_, _, _, _, _, rfl, (((T3.out.putC (p := ⟨w.heap.size, 0, none⟩) (Nat.le_refl _) _).putC (p := ⟨w.heap.size, 1, none⟩) (Nat.le_refl _) _).putC (p := ⟨w.heap.size, 2, none⟩) (Nat.le_refl _) _).putC (p := ⟨w.heap.size, 3, none⟩) (Nat.le_refl _) _, (((S3.out.putC (p := ⟨w.heap.size, 0, none⟩) HH.out _).putC (p := ⟨w.heap.size, 1, none⟩) HH.out _).putC (p := ⟨w.heap.size, 2, none⟩) HH.out _).putC (p := ⟨w.heap.size, 3, none⟩) HH.out _, by omega⟩
  · skip
    go_wp2_with fail
    refine (next_any s2 (by omega) _).mono ?_
    rintro e w3 ⟨v3, rfl, h3, -, t3, s3⟩
    obtain ⟨l3, u3⟩ := h3 (by omega)
    have T3 : Hid (Turn b w w3) := T2.out.trans t3
    have V3 : Hid (Vb w3 w.heap.size #[.int .i64 0, .int .i64 0, .int .i64 0, .int .i64 0] 72) := V2.out.turn t3 (by have := HH.out; omega)
    clear h3 t3 T2 V2
    have S3 : Hid (Src w3 b _ a len cap zs) := s3
    have k0 := V3.out.cell 0 rfl
    have k1 := V3.out.cell 1 rfl
    have k2 := V3.out.cell 2 rfl
    have k3 := V3.out.cell 3 rfl
    have f0 := V3.out.free 0
    have f1 := V3.out.free 1
    have f2 := V3.out.free 2
    have f3 := V3.out.free 3
    have sz := V3.out.lt
    clear s2 s3
    go_wp2_with fail
    exact bodyPost_ret (v := .agg #[.int .i64 (21), .int .i64 (1 + v1), .int .i64 (0), .int .i64 (v3)]) (by simp [results, Tryz.results35, go_sem, k0, k1, k2, k3]) rfl ⟨_, _, _, _, _, rfl, (((T3.out.putC (p := ⟨w.heap.size, 0, none⟩) (Nat.le_refl _) _).putC (p := ⟨w.heap.size, 1, none⟩) (Nat.le_refl _) _).putC (p := ⟨w.heap.size, 2, none⟩) (Nat.le_refl _) _).putC (p := ⟨w.heap.size, 3, none⟩) (Nat.le_refl _) _, (((S3.out.putC (p := ⟨w.heap.size, 0, none⟩) HH.out _).putC (p := ⟨w.heap.size, 1, none⟩) HH.out _).putC (p := ⟨w.heap.size, 2, none⟩) HH.out _).putC (p := ⟨w.heap.size, 3, none⟩) HH.out _, by omega⟩
  · skip
    go_wp2_with fail
    have hb3 := s2.here
    refine (pick_any (s2.alloc _) (by omega) (fun _ => True) _ 2 (by omega) (by omega) (by simp) (by omega) ?_).mono ?_
    · intro i hi
      have : i = 0 ∨ i = 1 := by omega
      rcases this with rfl | rfl
      all_goals exact ⟨_, cell_new rfl, trivial⟩
    rintro e w3 ⟨v3, rfl, -, t3, s3⟩
    have T3 : Hid (Turn b w w3) := T2.out.trans ((Turn.alloc b _ _).trans t3)
    have V3 : Hid (Vb w3 w.heap.size #[.int .i64 0, .int .i64 0, .int .i64 0, .int .i64 0] 72) := (V2.out.push _).turn t3 (by have := HH.out; omega)
    clear t3 T2 V2 hb3
    go_wp2_with fail
    have hb4 := s3.here
    refine (pick_any (s3.alloc _) (by omega) (fun _ => True) _ 3 (by omega) (by omega) (by simp) (by omega) ?_).mono ?_
    · intro i hi
      have : i = 0 ∨ i = 1 ∨ i = 2 := by omega
      rcases this with rfl | rfl | rfl
      all_goals exact ⟨_, cell_new rfl, trivial⟩
    rintro e w4 ⟨v4, rfl, -, t4, s4⟩
    have T4 : Hid (Turn b w w4) := T3.out.trans ((Turn.alloc b _ _).trans t4)
    have V4 : Hid (Vb w4 w.heap.size #[.int .i64 0, .int .i64 0, .int .i64 0, .int .i64 0] 72) := (V3.out.push _).turn t4 (by have := HH.out; omega)
    clear t4 T3 V3 hb4
    have S4 : Hid (Src w4 b _ a len cap zs) := s4
    have k0 := V4.out.cell 0 rfl
    have k1 := V4.out.cell 1 rfl
    have k2 := V4.out.cell 2 rfl
    have k3 := V4.out.cell 3 rfl
    have f0 := V4.out.free 0
    have f1 := V4.out.free 1
    have f2 := V4.out.free 2
    have f3 := V4.out.free 3
    have sz := V4.out.lt
    clear s2 s3 s4
    go_wp2_with fail
    exact bodyPost_ret (v := .agg #[.int .i64 (19), .int .i64 (v3), .int .i64 (0), .int .i64 (v4)]) (by simp [results, Tryz.results35, go_sem, k0, k1, k2, k3]) rfl ⟨_, _, _, _, _, rfl, (((T4.out.putC (p := ⟨w.heap.size, 0, none⟩) (Nat.le_refl _) _).putC (p := ⟨w.heap.size, 1, none⟩) (Nat.le_refl _) _).putC (p := ⟨w.heap.size, 2, none⟩) (Nat.le_refl _) _).putC (p := ⟨w.heap.size, 3, none⟩) (Nat.le_refl _) _, (((S4.out.putC (p := ⟨w.heap.size, 0, none⟩) HH.out _).putC (p := ⟨w.heap.size, 1, none⟩) HH.out _).putC (p := ⟨w.heap.size, 2, none⟩) HH.out _).putC (p := ⟨w.heap.size, 3, none⟩) HH.out _, by omega⟩
  · skip
    go_wp2_with fail
    refine (ins_any s2 (by omega)).mono ?_
    rintro e w3 ⟨o3, d3, x3, i3, rfl, -, -, -, -, t3, s3⟩
    have T3 : Hid (Turn b w w3) := T2.out.trans t3
    have V3 : Hid (Vb w3 w.heap.size #[.int .i64 0, .int .i64 0, .int .i64 0, .int .i64 0] 72) := V2.out.turn t3 (by have := HH.out; omega)
    clear t3 T2 V2
    have S3 : Hid (Src w3 b _ a len cap zs) := s3
    have k0 := V3.out.cell 0 rfl
    have k1 := V3.out.cell 1 rfl
    have k2 := V3.out.cell 2 rfl
    have k3 := V3.out.cell 3 rfl
    have f0 := V3.out.free 0
    have f1 := V3.out.free 1
    have f2 := V3.out.free 2
    have f3 := V3.out.free 3
    have sz := V3.out.lt
    clear s2 s3
    go_wp2_with fail
    exact bodyPost_ret (v := .agg #[.int .i64 (o3), .int .i64 (d3), .int .i64 (x3), .int .i64 (i3)]) (by simp [results, Tryz.results35, go_sem, k0, k1, k2, k3]) rfl ⟨_, _, _, _, _, rfl, (((T3.out.putC (p := ⟨w.heap.size, 0, none⟩) (Nat.le_refl _) _).putC (p := ⟨w.heap.size, 1, none⟩) (Nat.le_refl _) _).putC (p := ⟨w.heap.size, 2, none⟩) (Nat.le_refl _) _).putC (p := ⟨w.heap.size, 3, none⟩) (Nat.le_refl _) _, (((S3.out.putC (p := ⟨w.heap.size, 0, none⟩) HH.out _).putC (p := ⟨w.heap.size, 1, none⟩) HH.out _).putC (p := ⟨w.heap.size, 2, none⟩) HH.out _).putC (p := ⟨w.heap.size, 3, none⟩) HH.out _, by omega⟩
  · skip
    go_wp2_with fail
    refine (ins_any s2 (by omega)).mono ?_
    rintro e w3 ⟨o3, d3, x3, i3, rfl, -, -, -, -, t3, s3⟩
    have T3 : Hid (Turn b w w3) := T2.out.trans t3
    have V3 : Hid (Vb w3 w.heap.size #[.int .i64 0, .int .i64 0, .int .i64 0, .int .i64 0] 72) := V2.out.turn t3 (by have := HH.out; omega)
    clear t3 T2 V2
    have S3 : Hid (Src w3 b _ a len cap zs) := s3
    have k0 := V3.out.cell 0 rfl
    have k1 := V3.out.cell 1 rfl
    have k2 := V3.out.cell 2 rfl
    have k3 := V3.out.cell 3 rfl
    have f0 := V3.out.free 0
    have f1 := V3.out.free 1
    have f2 := V3.out.free 2
    have f3 := V3.out.free 3
    have sz := V3.out.lt
    clear s2 s3
    go_wp2_with fail
    exact bodyPost_ret (v := .agg #[.int .i64 (o3), .int .i64 (d3), .int .i64 (x3), .int .i64 (i3)]) (by simp [results, Tryz.results35, go_sem, k0, k1, k2, k3]) rfl ⟨_, _, _, _, _, rfl, (((T3.out.putC (p := ⟨w.heap.size, 0, none⟩) (Nat.le_refl _) _).putC (p := ⟨w.heap.size, 1, none⟩) (Nat.le_refl _) _).putC (p := ⟨w.heap.size, 2, none⟩) (Nat.le_refl _) _).putC (p := ⟨w.heap.size, 3, none⟩) (Nat.le_refl _) _, (((S3.out.putC (p := ⟨w.heap.size, 0, none⟩) HH.out _).putC (p := ⟨w.heap.size, 1, none⟩) HH.out _).putC (p := ⟨w.heap.size, 2, none⟩) HH.out _).putC (p := ⟨w.heap.size, 3, none⟩) HH.out _, by omega⟩
end Go.Proofs.YtdmlejfopmimfaaGreatDoor
