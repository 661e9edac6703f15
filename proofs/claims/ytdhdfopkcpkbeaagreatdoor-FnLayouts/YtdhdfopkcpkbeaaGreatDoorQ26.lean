/- Texts of this seat, joined. -/
import Derived.Test.YtdhdfopkcpkbeaaGreatDoorQ07
import Derived.Test.YtdhdfopkcpkbeaaGreatDoorQ23
import Derived.Test.YtdhdfopkcpkbeaaGreatDoorQ24
import Derived.Test.YtdhdfopkcpkbeaaGreatDoorQ25
namespace Go.Proofs.YtdhdfopkcpkbeaaGreatDoor
open Go.RowKit
set_option linter.unusedVariables false

theorem Vb.turn {w w' : World} {b q : Nat} {cs : Array Value} {t : TypeId} (h : Vb w q cs t) (k : Turn b w w') (hn : q ≠ b) : Vb w' q cs t := (k.block q h.lt hn).trans h

set_option maxHeartbeats 16000000 in
theorem ins7_any {w : World} {b k : Nat} {a : Option Addr} {len cap : Nat} {zs : List Int} (s : Src w b k a len cap zs) (hk : k ≤ 40000) :
    Calls Tryz.prog 66 #[.pointer (some ⟨b, 0, none⟩)] w fun e w' => ∃ (o d x i : Int) (k' : Nat), e = .returned (.agg #[.int .i64 o, .int .i64 d, .int .i64 x, .int .i64 i]) ∧ Turn b w w' ∧ Src w' b k' a len cap zs ∧ k' ≤ k + 10 := by
  have HH : Hid (b < w.heap.size) := s.here
  have s0 := s.alloc (.cells #[.int .i64 0, .int .i64 0, .int .i64 0, .int .i64 0] 117)
  have V0 : Hid (Vb (w.alloc (.cells #[.int .i64 0, .int .i64 0, .int .i64 0, .int .i64 0] 117)) w.heap.size #[.int .i64 0, .int .i64 0, .int .i64 0, .int .i64 0] 117) := Vb.new _ _ _
  go_enter Tryz.func66, Tryz.ntmps66
  go_wp2_with fail
  refine (next_any s0 (by omega) _).mono ?_
  rintro e w1 ⟨v1, rfl, h1, -, t1, s1⟩
  obtain ⟨l1, u1⟩ := h1 (by omega)
  clear h1
  go_wp2_with fail
  refine (next_any s1 (by omega) _).mono ?_
  rintro e w2 ⟨v2, rfl, h2, -, t2, s2⟩
  obtain ⟨l2, u2⟩ := h2 (by omega)
  have T2 : Hid (Turn b w w2) := (Turn.alloc b w _).trans (t1.trans t2)
  have V2 : Hid (Vb w2 w.heap.size #[.int .i64 0, .int .i64 0, .int .i64 0, .int .i64 0] 117) := (V0.out.turn t1 (by have := HH.out; omega)).turn t2 (by have := HH.out; omega)
  clear h2 t1 t2 s0 s1 V0
  have hv : v2 = 0 ∨ v2 = 1 ∨ v2 = 2 ∨ v2 = 3 ∨ v2 = 4 ∨ v2 = 5 ∨ v2 = 6 ∨ v2 = 7 ∨ v2 = 8 ∨ v2 = 9 ∨ v2 = 10 ∨ v2 = 11 ∨ v2 = 12 ∨ v2 = 13 := by omega
  clear l2 u2
  rcases hv with rfl | rfl | rfl | rfl | rfl | rfl | rfl | rfl | rfl | rfl | rfl | rfl | rfl | rfl
  · skip
    go_wp2_with fail
    refine (next_any s2 (by omega) _).mono ?_
    rintro e w3 ⟨v3, rfl, h3, -, t3, s3⟩
    obtain ⟨l3, u3⟩ := h3 (by omega)
    have T3 : Hid (Turn b w w3) := T2.out.trans t3
    have V3 : Hid (Vb w3 w.heap.size #[.int .i64 0, .int .i64 0, .int .i64 0, .int .i64 0] 117) := V2.out.turn t3 (by have := HH.out; omega)
    clear h3 t3 T2 V2
    go_wp2_with fail
    refine (next_any s3 (by omega) _).mono ?_
    rintro e w4 ⟨v4, rfl, h4, -, t4, s4⟩
    obtain ⟨l4, u4⟩ := h4 (by omega)
    have T4 : Hid (Turn b w w4) := T3.out.trans t4
    have V4 : Hid (Vb w4 w.heap.size #[.int .i64 0, .int .i64 0, .int .i64 0, .int .i64 0] 117) := V3.out.turn t4 (by have := HH.out; omega)
    clear h4 t4 T3 V3
    go_wp2_with fail
    refine (next_any s4 (by omega) _).mono ?_
    rintro e w5 ⟨v5, rfl, h5, -, t5, s5⟩
    obtain ⟨l5, u5⟩ := h5 (by omega)
    have T5 : Hid (Turn b w w5) := T4.out.trans t5
    have V5 : Hid (Vb w5 w.heap.size #[.int .i64 0, .int .i64 0, .int .i64 0, .int .i64 0] 117) := V4.out.turn t5 (by have := HH.out; omega)
    clear h5 t5 T4 V4
    go_wp2_with fail
    refine (next_any s5 (by omega) _).mono ?_
    rintro e w6 ⟨v6, rfl, h6, -, t6, s6⟩
    obtain ⟨l6, u6⟩ := h6 (by omega)
    have T6 : Hid (Turn b w w6) := T5.out.trans t6
    have V6 : Hid (Vb w6 w.heap.size #[.int .i64 0, .int .i64 0, .int .i64 0, .int .i64 0] 117) := V5.out.turn t6 (by have := HH.out; omega)
    clear h6 t6 T5 V5
    go_wp2_with fail
    have hb7 := s6.here
    refine (pick_any (s6.alloc _) (by omega) (fun _ => True) _ 4 (by omega) (by omega) (by simp) (by omega) ?_).mono ?_
    · intro i hi
      have : i = 0 ∨ i = 1 ∨ i = 2 ∨ i = 3 := by omega
      rcases this with rfl | rfl | rfl | rfl
      all_goals exact ⟨_, cell_new rfl, trivial⟩
    rintro e w7 ⟨v7, rfl, -, t7, s7⟩
    have T7 : Hid (Turn b w w7) := T6.out.trans ((Turn.alloc b _ _).trans t7)
    have V7 : Hid (Vb w7 w.heap.size #[.int .i64 0, .int .i64 0, .int .i64 0, .int .i64 0] 117) := (V6.out.push _).turn t7 (by have := HH.out; omega)
    clear t7 T6 V6 hb7
    have S7 : Hid (Src w7 b _ a len cap zs) := s7
    have k0 := V7.out.cell 0 rfl
    have k1 := V7.out.cell 1 rfl
    have k2 := V7.out.cell 2 rfl
    have k3 := V7.out.cell 3 rfl
    have f0 := V7.out.free 0
    have f1 := V7.out.free 1
    have f2 := V7.out.free 2
    have f3 := V7.out.free 3
    have sz := V7.out.lt
    clear s2 s3 s4 s5 s6 s7
    go_wp2_with fail
    exact bodyPost_ret (v := .agg #[.int .i64 (12), .int .i64 (1 + v1), .int .i64 (v3), .int .i64 (v7)]) (by simp [results, Tryz.results66, go_sem, k0, k1, k2, k3]) rfl ⟨_, _, _, _, _, rfl, (((T7.out.putC (p := ⟨w.heap.size, 0, none⟩) (Nat.le_refl _) _).putC (p := ⟨w.heap.size, 1, none⟩) (Nat.le_refl _) _).putC (p := ⟨w.heap.size, 2, none⟩) (Nat.le_refl _) _).putC (p := ⟨w.heap.size, 3, none⟩) (Nat.le_refl _) _, (((S7.out.putC (p := ⟨w.heap.size, 0, none⟩) HH.out _).putC (p := ⟨w.heap.size, 1, none⟩) HH.out _).putC (p := ⟨w.heap.size, 2, none⟩) HH.out _).putC (p := ⟨w.heap.size, 3, none⟩) HH.out _, by omega⟩
  · skip
    go_wp2_with fail
    refine (next_any s2 (by omega) _).mono ?_
    rintro e w3 ⟨v3, rfl, h3, -, t3, s3⟩
    obtain ⟨l3, u3⟩ := h3 (by omega)
    have T3 : Hid (Turn b w w3) := T2.out.trans t3
    have V3 : Hid (Vb w3 w.heap.size #[.int .i64 0, .int .i64 0, .int .i64 0, .int .i64 0] 117) := V2.out.turn t3 (by have := HH.out; omega)
    clear h3 t3 T2 V2
    go_wp2_with fail
    refine (next_any s3 (by omega) _).mono ?_
    rintro e w4 ⟨v4, rfl, h4, -, t4, s4⟩
    obtain ⟨l4, u4⟩ := h4 (by omega)
    have T4 : Hid (Turn b w w4) := T3.out.trans t4
    have V4 : Hid (Vb w4 w.heap.size #[.int .i64 0, .int .i64 0, .int .i64 0, .int .i64 0] 117) := V3.out.turn t4 (by have := HH.out; omega)
    clear h4 t4 T3 V3
    go_wp2_with fail
    refine (next_any s4 (by omega) _).mono ?_
    rintro e w5 ⟨v5, rfl, h5, -, t5, s5⟩
    obtain ⟨l5, u5⟩ := h5 (by omega)
    have T5 : Hid (Turn b w w5) := T4.out.trans t5
    have V5 : Hid (Vb w5 w.heap.size #[.int .i64 0, .int .i64 0, .int .i64 0, .int .i64 0] 117) := V4.out.turn t5 (by have := HH.out; omega)
    clear h5 t5 T4 V4
    go_wp2_with fail
    refine (next_any s5 (by omega) _).mono ?_
    rintro e w6 ⟨v6, rfl, h6, -, t6, s6⟩
    obtain ⟨l6, u6⟩ := h6 (by omega)
    have T6 : Hid (Turn b w w6) := T5.out.trans t6
    have V6 : Hid (Vb w6 w.heap.size #[.int .i64 0, .int .i64 0, .int .i64 0, .int .i64 0] 117) := V5.out.turn t6 (by have := HH.out; omega)
    clear h6 t6 T5 V5
    go_wp2_with fail
    have hb7 := s6.here
    refine (pick_any (s6.alloc _) (by omega) (fun _ => True) _ 4 (by omega) (by omega) (by simp) (by omega) ?_).mono ?_
    · intro i hi
      have : i = 0 ∨ i = 1 ∨ i = 2 ∨ i = 3 := by omega
      rcases this with rfl | rfl | rfl | rfl
      all_goals exact ⟨_, cell_new rfl, trivial⟩
    rintro e w7 ⟨v7, rfl, -, t7, s7⟩
    have T7 : Hid (Turn b w w7) := T6.out.trans ((Turn.alloc b _ _).trans t7)
    have V7 : Hid (Vb w7 w.heap.size #[.int .i64 0, .int .i64 0, .int .i64 0, .int .i64 0] 117) := (V6.out.push _).turn t7 (by have := HH.out; omega)
    clear t7 T6 V6 hb7
    have S7 : Hid (Src w7 b _ a len cap zs) := s7
    have k0 := V7.out.cell 0 rfl
    have k1 := V7.out.cell 1 rfl
    have k2 := V7.out.cell 2 rfl
    have k3 := V7.out.cell 3 rfl
    have f0 := V7.out.free 0
    have f1 := V7.out.free 1
    have f2 := V7.out.free 2
    have f3 := V7.out.free 3
    have sz := V7.out.lt
    clear s2 s3 s4 s5 s6 s7
    go_wp2_with fail
    exact bodyPost_ret (v := .agg #[.int .i64 (12), .int .i64 (1 + v1), .int .i64 (v3), .int .i64 (v7)]) (by simp [results, Tryz.results66, go_sem, k0, k1, k2, k3]) rfl ⟨_, _, _, _, _, rfl, (((T7.out.putC (p := ⟨w.heap.size, 0, none⟩) (Nat.le_refl _) _).putC (p := ⟨w.heap.size, 1, none⟩) (Nat.le_refl _) _).putC (p := ⟨w.heap.size, 2, none⟩) (Nat.le_refl _) _).putC (p := ⟨w.heap.size, 3, none⟩) (Nat.le_refl _) _, (((S7.out.putC (p := ⟨w.heap.size, 0, none⟩) HH.out _).putC (p := ⟨w.heap.size, 1, none⟩) HH.out _).putC (p := ⟨w.heap.size, 2, none⟩) HH.out _).putC (p := ⟨w.heap.size, 3, none⟩) HH.out _, by omega⟩
  · skip
    go_wp2_with fail
    refine (next_any s2 (by omega) _).mono ?_
    rintro e w3 ⟨v3, rfl, h3, -, t3, s3⟩
    obtain ⟨l3, u3⟩ := h3 (by omega)
    have T3 : Hid (Turn b w w3) := T2.out.trans t3
    have V3 : Hid (Vb w3 w.heap.size #[.int .i64 0, .int .i64 0, .int .i64 0, .int .i64 0] 117) := V2.out.turn t3 (by have := HH.out; omega)
    clear h3 t3 T2 V2
    go_wp2_with fail
    refine (next_any s3 (by omega) _).mono ?_
    rintro e w4 ⟨v4, rfl, h4, -, t4, s4⟩
    obtain ⟨l4, u4⟩ := h4 (by omega)
    have T4 : Hid (Turn b w w4) := T3.out.trans t4
    have V4 : Hid (Vb w4 w.heap.size #[.int .i64 0, .int .i64 0, .int .i64 0, .int .i64 0] 117) := V3.out.turn t4 (by have := HH.out; omega)
    clear h4 t4 T3 V3
    go_wp2_with fail
    refine (next_any s4 (by omega) _).mono ?_
    rintro e w5 ⟨v5, rfl, h5, -, t5, s5⟩
    obtain ⟨l5, u5⟩ := h5 (by omega)
    have T5 : Hid (Turn b w w5) := T4.out.trans t5
    have V5 : Hid (Vb w5 w.heap.size #[.int .i64 0, .int .i64 0, .int .i64 0, .int .i64 0] 117) := V4.out.turn t5 (by have := HH.out; omega)
    clear h5 t5 T4 V4
    go_wp2_with fail
    refine (next_any s5 (by omega) _).mono ?_
    rintro e w6 ⟨v6, rfl, h6, -, t6, s6⟩
    obtain ⟨l6, u6⟩ := h6 (by omega)
    have T6 : Hid (Turn b w w6) := T5.out.trans t6
    have V6 : Hid (Vb w6 w.heap.size #[.int .i64 0, .int .i64 0, .int .i64 0, .int .i64 0] 117) := V5.out.turn t6 (by have := HH.out; omega)
    clear h6 t6 T5 V5
    go_wp2_with fail
    have hb7 := s6.here
    refine (pick_any (s6.alloc _) (by omega) (fun _ => True) _ 4 (by omega) (by omega) (by simp) (by omega) ?_).mono ?_
    · intro i hi
      have : i = 0 ∨ i = 1 ∨ i = 2 ∨ i = 3 := by omega
      rcases this with rfl | rfl | rfl | rfl
      all_goals exact ⟨_, cell_new rfl, trivial⟩
    rintro e w7 ⟨v7, rfl, -, t7, s7⟩
    have T7 : Hid (Turn b w w7) := T6.out.trans ((Turn.alloc b _ _).trans t7)
    have V7 : Hid (Vb w7 w.heap.size #[.int .i64 0, .int .i64 0, .int .i64 0, .int .i64 0] 117) := (V6.out.push _).turn t7 (by have := HH.out; omega)
    clear t7 T6 V6 hb7
    have S7 : Hid (Src w7 b _ a len cap zs) := s7
    have k0 := V7.out.cell 0 rfl
    have k1 := V7.out.cell 1 rfl
    have k2 := V7.out.cell 2 rfl
    have k3 := V7.out.cell 3 rfl
    have f0 := V7.out.free 0
    have f1 := V7.out.free 1
    have f2 := V7.out.free 2
    have f3 := V7.out.free 3
    have sz := V7.out.lt
    clear s2 s3 s4 s5 s6 s7
    go_wp2_with fail
    exact bodyPost_ret (v := .agg #[.int .i64 (12), .int .i64 (1 + v1), .int .i64 (v3), .int .i64 (v7)]) (by simp [results, Tryz.results66, go_sem, k0, k1, k2, k3]) rfl ⟨_, _, _, _, _, rfl, (((T7.out.putC (p := ⟨w.heap.size, 0, none⟩) (Nat.le_refl _) _).putC (p := ⟨w.heap.size, 1, none⟩) (Nat.le_refl _) _).putC (p := ⟨w.heap.size, 2, none⟩) (Nat.le_refl _) _).putC (p := ⟨w.heap.size, 3, none⟩) (Nat.le_refl _) _, (((S7.out.putC (p := ⟨w.heap.size, 0, none⟩) HH.out _).putC (p := ⟨w.heap.size, 1, none⟩) HH.out _).putC (p := ⟨w.heap.size, 2, none⟩) HH.out _).putC (p := ⟨w.heap.size, 3, none⟩) HH.out _, by omega⟩
  · skip
    go_wp2_with fail
    refine (next_any s2 (by omega) _).mono ?_
    rintro e w3 ⟨v3, rfl, h3, -, t3, s3⟩
    obtain ⟨l3, u3⟩ := h3 (by omega)
    have T3 : Hid (Turn b w w3) := T2.out.trans t3
    have V3 : Hid (Vb w3 w.heap.size #[.int .i64 0, .int .i64 0, .int .i64 0, .int .i64 0] 117) := V2.out.turn t3 (by have := HH.out; omega)
    clear h3 t3 T2 V2
    go_wp2_with fail
    refine (next_any s3 (by omega) _).mono ?_
    rintro e w4 ⟨v4, rfl, h4, -, t4, s4⟩
    obtain ⟨l4, u4⟩ := h4 (by omega)
    have T4 : Hid (Turn b w w4) := T3.out.trans t4
    have V4 : Hid (Vb w4 w.heap.size #[.int .i64 0, .int .i64 0, .int .i64 0, .int .i64 0] 117) := V3.out.turn t4 (by have := HH.out; omega)
    clear h4 t4 T3 V3
    go_wp2_with fail
    refine (next_any s4 (by omega) _).mono ?_
    rintro e w5 ⟨v5, rfl, h5, -, t5, s5⟩
    obtain ⟨l5, u5⟩ := h5 (by omega)
    have T5 : Hid (Turn b w w5) := T4.out.trans t5
    have V5 : Hid (Vb w5 w.heap.size #[.int .i64 0, .int .i64 0, .int .i64 0, .int .i64 0] 117) := V4.out.turn t5 (by have := HH.out; omega)
    clear h5 t5 T4 V4
    have S5 : Hid (Src w5 b _ a len cap zs) := s5
    have k0 := V5.out.cell 0 rfl
    have k1 := V5.out.cell 1 rfl
    have k2 := V5.out.cell 2 rfl
    have k3 := V5.out.cell 3 rfl
    have f0 := V5.out.free 0
    have f1 := V5.out.free 1
    have f2 := V5.out.free 2
    have f3 := V5.out.free 3
    have sz := V5.out.lt
    clear s2 s3 s4 s5
    go_wp2_with fail
    exact bodyPost_ret (v := .agg #[.int .i64 (1 + v3), .int .i64 (1 + v1), .int .i64 (v4), .int .i64 (v5)]) (by simp [results, Tryz.results66, go_sem, k0, k1, k2, k3]) rfl ⟨_, _, _, _, _, rfl, (((T5.out.putC (p := ⟨w.heap.size, 0, none⟩) (Nat.le_refl _) _).putC (p := ⟨w.heap.size, 1, none⟩) (Nat.le_refl _) _).putC (p := ⟨w.heap.size, 2, none⟩) (Nat.le_refl _) _).putC (p := ⟨w.heap.size, 3, none⟩) (Nat.le_refl _) _, (((S5.out.putC (p := ⟨w.heap.size, 0, none⟩) HH.out _).putC (p := ⟨w.heap.size, 1, none⟩) HH.out _).putC (p := ⟨w.heap.size, 2, none⟩) HH.out _).putC (p := ⟨w.heap.size, 3, none⟩) HH.out _, by omega⟩
  · skip
    go_wp2_with fail
    refine (next_any s2 (by omega) _).mono ?_
    rintro e w3 ⟨v3, rfl, h3, -, t3, s3⟩
    obtain ⟨l3, u3⟩ := h3 (by omega)
    have T3 : Hid (Turn b w w3) := T2.out.trans t3
    have V3 : Hid (Vb w3 w.heap.size #[.int .i64 0, .int .i64 0, .int .i64 0, .int .i64 0] 117) := V2.out.turn t3 (by have := HH.out; omega)
    clear h3 t3 T2 V2
    go_wp2_with fail
    refine (next_any s3 (by omega) _).mono ?_
    rintro e w4 ⟨v4, rfl, h4, -, t4, s4⟩
    obtain ⟨l4, u4⟩ := h4 (by omega)
    have T4 : Hid (Turn b w w4) := T3.out.trans t4
    have V4 : Hid (Vb w4 w.heap.size #[.int .i64 0, .int .i64 0, .int .i64 0, .int .i64 0] 117) := V3.out.turn t4 (by have := HH.out; omega)
    clear h4 t4 T3 V3
    go_wp2_with fail
    refine (next_any s4 (by omega) _).mono ?_
    rintro e w5 ⟨v5, rfl, h5, -, t5, s5⟩
    obtain ⟨l5, u5⟩ := h5 (by omega)
    have T5 : Hid (Turn b w w5) := T4.out.trans t5
    have V5 : Hid (Vb w5 w.heap.size #[.int .i64 0, .int .i64 0, .int .i64 0, .int .i64 0] 117) := V4.out.turn t5 (by have := HH.out; omega)
    clear h5 t5 T4 V4
    go_wp2_with fail
    refine (next_any s5 (by omega) _).mono ?_
    rintro e w6 ⟨v6, rfl, h6, -, t6, s6⟩
    obtain ⟨l6, u6⟩ := h6 (by omega)
    have T6 : Hid (Turn b w w6) := T5.out.trans t6
    have V6 : Hid (Vb w6 w.heap.size #[.int .i64 0, .int .i64 0, .int .i64 0, .int .i64 0] 117) := V5.out.turn t6 (by have := HH.out; omega)
    clear h6 t6 T5 V5
    go_wp2_with fail
    have hb7 := s6.here
    refine (pick_any (s6.alloc _) (by omega) (fun _ => True) _ 3 (by omega) (by omega) (by simp) (by omega) ?_).mono ?_
    · intro i hi
      have : i = 0 ∨ i = 1 ∨ i = 2 := by omega
      rcases this with rfl | rfl | rfl
      all_goals exact ⟨_, cell_new rfl, trivial⟩
    rintro e w7 ⟨v7, rfl, -, t7, s7⟩
    have T7 : Hid (Turn b w w7) := T6.out.trans ((Turn.alloc b _ _).trans t7)
    have V7 : Hid (Vb w7 w.heap.size #[.int .i64 0, .int .i64 0, .int .i64 0, .int .i64 0] 117) := (V6.out.push _).turn t7 (by have := HH.out; omega)
    clear t7 T6 V6 hb7
    have S7 : Hid (Src w7 b _ a len cap zs) := s7
    have k0 := V7.out.cell 0 rfl
    have k1 := V7.out.cell 1 rfl
    have k2 := V7.out.cell 2 rfl
    have k3 := V7.out.cell 3 rfl
    have f0 := V7.out.free 0
    have f1 := V7.out.free 1
    have f2 := V7.out.free 2
    have f3 := V7.out.free 3
    have sz := V7.out.lt
    clear s2 s3 s4 s5 s6 s7
    go_wp2_with fail
    exact bodyPost_ret (v := .agg #[.int .i64 (15), .int .i64 (1 + v1), .int .i64 (v3), .int .i64 (v7)]) (by simp [results, Tryz.results66, go_sem, k0, k1, k2, k3]) rfl ⟨_, _, _, _, _, rfl, (((T7.out.putC (p := ⟨w.heap.size, 0, none⟩) (Nat.le_refl _) _).putC (p := ⟨w.heap.size, 1, none⟩) (Nat.le_refl _) _).putC (p := ⟨w.heap.size, 2, none⟩) (Nat.le_refl _) _).putC (p := ⟨w.heap.size, 3, none⟩) (Nat.le_refl _) _, (((S7.out.putC (p := ⟨w.heap.size, 0, none⟩) HH.out _).putC (p := ⟨w.heap.size, 1, none⟩) HH.out _).putC (p := ⟨w.heap.size, 2, none⟩) HH.out _).putC (p := ⟨w.heap.size, 3, none⟩) HH.out _, by omega⟩
  · skip
    go_wp2_with fail
    refine (next_any s2 (by omega) _).mono ?_
    rintro e w3 ⟨v3, rfl, h3, -, t3, s3⟩
    obtain ⟨l3, u3⟩ := h3 (by omega)
    have T3 : Hid (Turn b w w3) := T2.out.trans t3
    have V3 : Hid (Vb w3 w.heap.size #[.int .i64 0, .int .i64 0, .int .i64 0, .int .i64 0] 117) := V2.out.turn t3 (by have := HH.out; omega)
    clear h3 t3 T2 V2
    go_wp2_with fail
    refine (next_any s3 (by omega) _).mono ?_
    rintro e w4 ⟨v4, rfl, h4, -, t4, s4⟩
    obtain ⟨l4, u4⟩ := h4 (by omega)
    have T4 : Hid (Turn b w w4) := T3.out.trans t4
    have V4 : Hid (Vb w4 w.heap.size #[.int .i64 0, .int .i64 0, .int .i64 0, .int .i64 0] 117) := V3.out.turn t4 (by have := HH.out; omega)
    clear h4 t4 T3 V3
    go_wp2_with fail
    refine (next_any s4 (by omega) _).mono ?_
    rintro e w5 ⟨v5, rfl, h5, -, t5, s5⟩
    obtain ⟨l5, u5⟩ := h5 (by omega)
    have T5 : Hid (Turn b w w5) := T4.out.trans t5
    have V5 : Hid (Vb w5 w.heap.size #[.int .i64 0, .int .i64 0, .int .i64 0, .int .i64 0] 117) := V4.out.turn t5 (by have := HH.out; omega)
    clear h5 t5 T4 V4
    go_wp2_with fail
    refine (next_any s5 (by omega) _).mono ?_
    rintro e w6 ⟨v6, rfl, h6, -, t6, s6⟩
    obtain ⟨l6, u6⟩ := h6 (by omega)
    have T6 : Hid (Turn b w w6) := T5.out.trans t6
    have V6 : Hid (Vb w6 w.heap.size #[.int .i64 0, .int .i64 0, .int .i64 0, .int .i64 0] 117) := V5.out.turn t6 (by have := HH.out; omega)
    clear h6 t6 T5 V5
    go_wp2_with fail
    have hb7 := s6.here
    refine (pick_any (s6.alloc _) (by omega) (fun _ => True) _ 3 (by omega) (by omega) (by simp) (by omega) ?_).mono ?_
    · intro i hi
      have : i = 0 ∨ i = 1 ∨ i = 2 := by omega
      rcases this with rfl | rfl | rfl
      all_goals exact ⟨_, cell_new rfl, trivial⟩
    rintro e w7 ⟨v7, rfl, -, t7, s7⟩
    have T7 : Hid (Turn b w w7) := T6.out.trans ((Turn.alloc b _ _).trans t7)
    have V7 : Hid (Vb w7 w.heap.size #[.int .i64 0, .int .i64 0, .int .i64 0, .int .i64 0] 117) := (V6.out.push _).turn t7 (by have := HH.out; omega)
    clear t7 T6 V6 hb7
    have S7 : Hid (Src w7 b _ a len cap zs) := s7
    have k0 := V7.out.cell 0 rfl
    have k1 := V7.out.cell 1 rfl
    have k2 := V7.out.cell 2 rfl
    have k3 := V7.out.cell 3 rfl
    have f0 := V7.out.free 0
    have f1 := V7.out.free 1
    have f2 := V7.out.free 2
    have f3 := V7.out.free 3
    have sz := V7.out.lt
    clear s2 s3 s4 s5 s6 s7
    go_wp2_with fail
    exact bodyPost_ret (v := .agg #[.int .i64 (15), .int .i64 (1 + v1), .int .i64 (v3), .int .i64 (v7)]) (by simp [results, Tryz.results66, go_sem, k0, k1, k2, k3]) rfl ⟨_, _, _, _, _, rfl, (((T7.out.putC (p := ⟨w.heap.size, 0, none⟩) (Nat.le_refl _) _).putC (p := ⟨w.heap.size, 1, none⟩) (Nat.le_refl _) _).putC (p := ⟨w.heap.size, 2, none⟩) (Nat.le_refl _) _).putC (p := ⟨w.heap.size, 3, none⟩) (Nat.le_refl _) _, (((S7.out.putC (p := ⟨w.heap.size, 0, none⟩) HH.out _).putC (p := ⟨w.heap.size, 1, none⟩) HH.out _).putC (p := ⟨w.heap.size, 2, none⟩) HH.out _).putC (p := ⟨w.heap.size, 3, none⟩) HH.out _, by omega⟩
  · skip
    go_wp2_with fail
    refine (next_any s2 (by omega) _).mono ?_
    rintro e w3 ⟨v3, rfl, h3, -, t3, s3⟩
    obtain ⟨l3, u3⟩ := h3 (by omega)
    have T3 : Hid (Turn b w w3) := T2.out.trans t3
    have V3 : Hid (Vb w3 w.heap.size #[.int .i64 0, .int .i64 0, .int .i64 0, .int .i64 0] 117) := V2.out.turn t3 (by have := HH.out; omega)
    clear h3 t3 T2 V2
    go_wp2_with fail
    refine (next_any s3 (by omega) _).mono ?_
    rintro e w4 ⟨v4, rfl, h4, -, t4, s4⟩
    obtain ⟨l4, u4⟩ := h4 (by omega)
    have T4 : Hid (Turn b w w4) := T3.out.trans t4
    have V4 : Hid (Vb w4 w.heap.size #[.int .i64 0, .int .i64 0, .int .i64 0, .int .i64 0] 117) := V3.out.turn t4 (by have := HH.out; omega)
    clear h4 t4 T3 V3
    go_wp2_with fail
    refine (next_any s4 (by omega) _).mono ?_
    rintro e w5 ⟨v5, rfl, h5, -, t5, s5⟩
    obtain ⟨l5, u5⟩ := h5 (by omega)
    have T5 : Hid (Turn b w w5) := T4.out.trans t5
    have V5 : Hid (Vb w5 w.heap.size #[.int .i64 0, .int .i64 0, .int .i64 0, .int .i64 0] 117) := V4.out.turn t5 (by have := HH.out; omega)
    clear h5 t5 T4 V4
    go_wp2_with fail
    refine (next_any s5 (by omega) _).mono ?_
    rintro e w6 ⟨v6, rfl, h6, -, t6, s6⟩
    obtain ⟨l6, u6⟩ := h6 (by omega)
    have T6 : Hid (Turn b w w6) := T5.out.trans t6
    have V6 : Hid (Vb w6 w.heap.size #[.int .i64 0, .int .i64 0, .int .i64 0, .int .i64 0] 117) := V5.out.turn t6 (by have := HH.out; omega)
    clear h6 t6 T5 V5
    go_wp2_with fail
    have hb7 := s6.here
    refine (pick_any (s6.alloc _) (by omega) (fun _ => True) _ 3 (by omega) (by omega) (by simp) (by omega) ?_).mono ?_
    · intro i hi
      have : i = 0 ∨ i = 1 ∨ i = 2 := by omega
      rcases this with rfl | rfl | rfl
      all_goals exact ⟨_, cell_new rfl, trivial⟩
    rintro e w7 ⟨v7, rfl, -, t7, s7⟩
    have T7 : Hid (Turn b w w7) := T6.out.trans ((Turn.alloc b _ _).trans t7)
    have V7 : Hid (Vb w7 w.heap.size #[.int .i64 0, .int .i64 0, .int .i64 0, .int .i64 0] 117) := (V6.out.push _).turn t7 (by have := HH.out; omega)
    clear t7 T6 V6 hb7
    have S7 : Hid (Src w7 b _ a len cap zs) := s7
    have k0 := V7.out.cell 0 rfl
    have k1 := V7.out.cell 1 rfl
    have k2 := V7.out.cell 2 rfl
    have k3 := V7.out.cell 3 rfl
    have f0 := V7.out.free 0
    have f1 := V7.out.free 1
    have f2 := V7.out.free 2
    have f3 := V7.out.free 3
    have sz := V7.out.lt
    clear s2 s3 s4 s5 s6 s7
    go_wp2_with fail
    exact bodyPost_ret (v := .agg #[.int .i64 (14), .int .i64 (1 + v1), .int .i64 (v3), .int .i64 (v7)]) (by simp [results, Tryz.results66, go_sem, k0, k1, k2, k3]) rfl ⟨_, _, _, _, _, rfl, (((T7.out.putC (p := ⟨w.heap.size, 0, none⟩) (Nat.le_refl _) _).putC (p := ⟨w.heap.size, 1, none⟩) (Nat.le_refl _) _).putC (p := ⟨w.heap.size, 2, none⟩) (Nat.le_refl _) _).putC (p := ⟨w.heap.size, 3, none⟩) (Nat.le_refl _) _, (((S7.out.putC (p := ⟨w.heap.size, 0, none⟩) HH.out _).putC (p := ⟨w.heap.size, 1, none⟩) HH.out _).putC (p := ⟨w.heap.size, 2, none⟩) HH.out _).putC (p := ⟨w.heap.size, 3, none⟩) HH.out _, by omega⟩
  · skip
    go_wp2_with fail
    refine (next_any s2 (by omega) _).mono ?_
    rintro e w3 ⟨v3, rfl, h3, -, t3, s3⟩
    obtain ⟨l3, u3⟩ := h3 (by omega)
    have T3 : Hid (Turn b w w3) := T2.out.trans t3
    have V3 : Hid (Vb w3 w.heap.size #[.int .i64 0, .int .i64 0, .int .i64 0, .int .i64 0] 117) := V2.out.turn t3 (by have := HH.out; omega)
    clear h3 t3 T2 V2
    go_wp2_with fail
    refine (next_any s3 (by omega) _).mono ?_
    rintro e w4 ⟨v4, rfl, h4, -, t4, s4⟩
    obtain ⟨l4, u4⟩ := h4 (by omega)
    have T4 : Hid (Turn b w w4) := T3.out.trans t4
    have V4 : Hid (Vb w4 w.heap.size #[.int .i64 0, .int .i64 0, .int .i64 0, .int .i64 0] 117) := V3.out.turn t4 (by have := HH.out; omega)
    clear h4 t4 T3 V3
    go_wp2_with fail
    refine (next_any s4 (by omega) _).mono ?_
    rintro e w5 ⟨v5, rfl, h5, -, t5, s5⟩
    obtain ⟨l5, u5⟩ := h5 (by omega)
    have T5 : Hid (Turn b w w5) := T4.out.trans t5
    have V5 : Hid (Vb w5 w.heap.size #[.int .i64 0, .int .i64 0, .int .i64 0, .int .i64 0] 117) := V4.out.turn t5 (by have := HH.out; omega)
    clear h5 t5 T4 V4
    go_wp2_with fail
    refine (next_any s5 (by omega) _).mono ?_
    rintro e w6 ⟨v6, rfl, h6, -, t6, s6⟩
    obtain ⟨l6, u6⟩ := h6 (by omega)
    have T6 : Hid (Turn b w w6) := T5.out.trans t6
    have V6 : Hid (Vb w6 w.heap.size #[.int .i64 0, .int .i64 0, .int .i64 0, .int .i64 0] 117) := V5.out.turn t6 (by have := HH.out; omega)
    clear h6 t6 T5 V5
    go_wp2_with fail
    have hb7 := s6.here
    refine (pick_any (s6.alloc _) (by omega) (fun _ => True) _ 3 (by omega) (by omega) (by simp) (by omega) ?_).mono ?_
    · intro i hi
      have : i = 0 ∨ i = 1 ∨ i = 2 := by omega
      rcases this with rfl | rfl | rfl
      all_goals exact ⟨_, cell_new rfl, trivial⟩
    rintro e w7 ⟨v7, rfl, -, t7, s7⟩
    have T7 : Hid (Turn b w w7) := T6.out.trans ((Turn.alloc b _ _).trans t7)
    have V7 : Hid (Vb w7 w.heap.size #[.int .i64 0, .int .i64 0, .int .i64 0, .int .i64 0] 117) := (V6.out.push _).turn t7 (by have := HH.out; omega)
    clear t7 T6 V6 hb7
    have S7 : Hid (Src w7 b _ a len cap zs) := s7
    have k0 := V7.out.cell 0 rfl
    have k1 := V7.out.cell 1 rfl
    have k2 := V7.out.cell 2 rfl
    have k3 := V7.out.cell 3 rfl
    have f0 := V7.out.free 0
    have f1 := V7.out.free 1
    have f2 := V7.out.free 2
    have f3 := V7.out.free 3
    have sz := V7.out.lt
    clear s2 s3 s4 s5 s6 s7
    go_wp2_with fail
    exact bodyPost_ret (v := .agg #[.int .i64 (14), .int .i64 (1 + v1), .int .i64 (v3), .int .i64 (v7)]) (by simp [results, Tryz.results66, go_sem, k0, k1, k2, k3]) rfl ⟨_, _, _, _, _, rfl, (((T7.out.putC (p := ⟨w.heap.size, 0, none⟩) (Nat.le_refl _) _).putC (p := ⟨w.heap.size, 1, none⟩) (Nat.le_refl _) _).putC (p := ⟨w.heap.size, 2, none⟩) (Nat.le_refl _) _).putC (p := ⟨w.heap.size, 3, none⟩) (Nat.le_refl _) _, (((S7.out.putC (p := ⟨w.heap.size, 0, none⟩) HH.out _).putC (p := ⟨w.heap.size, 1, none⟩) HH.out _).putC (p := ⟨w.heap.size, 2, none⟩) HH.out _).putC (p := ⟨w.heap.size, 3, none⟩) HH.out _, by omega⟩
  · skip
    go_wp2_with fail
    have hb3 := s2.here
    refine (pick_any (s2.alloc _) (by omega) (fun _ => True) _ 3 (by omega) (by omega) (by simp) (by omega) ?_).mono ?_
    · intro i hi
      have : i = 0 ∨ i = 1 ∨ i = 2 := by omega
      rcases this with rfl | rfl | rfl
      all_goals exact ⟨_, cell_new rfl, trivial⟩
    rintro e w3 ⟨v3, rfl, -, t3, s3⟩
    have T3 : Hid (Turn b w w3) := T2.out.trans ((Turn.alloc b _ _).trans t3)
    have V3 : Hid (Vb w3 w.heap.size #[.int .i64 0, .int .i64 0, .int .i64 0, .int .i64 0] 117) := (V2.out.push _).turn t3 (by have := HH.out; omega)
    clear t3 T2 V2 hb3
    go_wp2_with fail
    refine (next_any s3 (by omega) _).mono ?_
    rintro e w4 ⟨v4, rfl, h4, -, t4, s4⟩
    obtain ⟨l4, u4⟩ := h4 (by omega)
    have T4 : Hid (Turn b w w4) := T3.out.trans t4
    have V4 : Hid (Vb w4 w.heap.size #[.int .i64 0, .int .i64 0, .int .i64 0, .int .i64 0] 117) := V3.out.turn t4 (by have := HH.out; omega)
    clear h4 t4 T3 V3
    go_wp2_with fail
    have hb5 := s4.here
    refine (pick_any (s4.alloc _) (by omega) (fun _ => True) _ 4 (by omega) (by omega) (by simp) (by omega) ?_).mono ?_
    · intro i hi
      have : i = 0 ∨ i = 1 ∨ i = 2 ∨ i = 3 := by omega
      rcases this with rfl | rfl | rfl | rfl
      all_goals exact ⟨_, cell_new rfl, trivial⟩
    rintro e w5 ⟨v5, rfl, -, t5, s5⟩
    have T5 : Hid (Turn b w w5) := T4.out.trans ((Turn.alloc b _ _).trans t5)
    have V5 : Hid (Vb w5 w.heap.size #[.int .i64 0, .int .i64 0, .int .i64 0, .int .i64 0] 117) := (V4.out.push _).turn t5 (by have := HH.out; omega)
    clear t5 T4 V4 hb5
    have S5 : Hid (Src w5 b _ a len cap zs) := s5
    have k0 := V5.out.cell 0 rfl
    have k1 := V5.out.cell 1 rfl
    have k2 := V5.out.cell 2 rfl
    have k3 := V5.out.cell 3 rfl
    have f0 := V5.out.free 0
    have f1 := V5.out.free 1
    have f2 := V5.out.free 2
    have f3 := V5.out.free 3
    have sz := V5.out.lt
    clear s2 s3 s4 s5
    go_wp2_with fail
    exact bodyPost_ret (v := .agg #[.int .i64 (v3), .int .i64 (1 + v1), .int .i64 (v4), .int .i64 (v5)]) (by simp [results, Tryz.results66, go_sem, k0, k1, k2, k3]) rfl ⟨_, _, _, _, _, rfl, (((T5.out.putC (p := ⟨w.heap.size, 0, none⟩) (Nat.le_refl _) _).putC (p := ⟨w.heap.size, 1, none⟩) (Nat.le_refl _) _).putC (p := ⟨w.heap.size, 2, none⟩) (Nat.le_refl _) _).putC (p := ⟨w.heap.size, 3, none⟩) (Nat.le_refl _) _, (((S5.out.putC (p := ⟨w.heap.size, 0, none⟩) HH.out _).putC (p := ⟨w.heap.size, 1, none⟩) HH.out _).putC (p := ⟨w.heap.size, 2, none⟩) HH.out _).putC (p := ⟨w.heap.size, 3, none⟩) HH.out _, by omega⟩
  · skip
    go_wp2_with fail
    have hb3 := s2.here
    refine (pick_any (s2.alloc _) (by omega) (fun _ => True) _ 7 (by omega) (by omega) (by simp) (by omega) ?_).mono ?_
    · intro i hi
      have : i = 0 ∨ i = 1 ∨ i = 2 ∨ i = 3 ∨ i = 4 ∨ i = 5 ∨ i = 6 := by omega
      rcases this with rfl | rfl | rfl | rfl | rfl | rfl | rfl
      all_goals exact ⟨_, cell_new rfl, trivial⟩
    rintro e w3 ⟨v3, rfl, -, t3, s3⟩
    have T3 : Hid (Turn b w w3) := T2.out.trans ((Turn.alloc b _ _).trans t3)
    have V3 : Hid (Vb w3 w.heap.size #[.int .i64 0, .int .i64 0, .int .i64 0, .int .i64 0] 117) := (V2.out.push _).turn t3 (by have := HH.out; omega)
    clear t3 T2 V2 hb3
    have S3 : Hid (Src w3 b _ a len cap zs) := s3
    have k0 := V3.out.cell 0 rfl
    have k1 := V3.out.cell 1 rfl
    have k2 := V3.out.cell 2 rfl
    have k3 := V3.out.cell 3 rfl
    have f0 := V3.out.free 0
    have f1 := V3.out.free 1
    have f2 := V3.out.free 2
    have f3 := V3.out.free 3
    have sz := V3.out.lt
    clear s2 s3
    go_wp2_with fail
    exact bodyPost_ret (v := .agg #[.int .i64 (22), .int .i64 (0), .int .i64 (1 + v1), .int .i64 (v3)]) (by simp [results, Tryz.results66, go_sem, k0, k1, k2, k3]) rfl ⟨_, _, _, _, _, rfl, (((T3.out.putC (p := ⟨w.heap.size, 0, none⟩) (Nat.le_refl _) _).putC (p := ⟨w.heap.size, 1, none⟩) (Nat.le_refl _) _).putC (p := ⟨w.heap.size, 2, none⟩) (Nat.le_refl _) _).putC (p := ⟨w.heap.size, 3, none⟩) (Nat.le_refl _) _, (((S3.out.putC (p := ⟨w.heap.size, 0, none⟩) HH.out _).putC (p := ⟨w.heap.size, 1, none⟩) HH.out _).putC (p := ⟨w.heap.size, 2, none⟩) HH.out _).putC (p := ⟨w.heap.size, 3, none⟩) HH.out _, by omega⟩
  · skip
    go_wp2_with fail
    refine (next_any s2 (by omega) _).mono ?_
    rintro e w3 ⟨v3, rfl, h3, -, t3, s3⟩
    obtain ⟨l3, u3⟩ := h3 (by omega)
    have T3 : Hid (Turn b w w3) := T2.out.trans t3
    have V3 : Hid (Vb w3 w.heap.size #[.int .i64 0, .int .i64 0, .int .i64 0, .int .i64 0] 117) := V2.out.turn t3 (by have := HH.out; omega)
    clear h3 t3 T2 V2
    have S3 : Hid (Src w3 b _ a len cap zs) := s3
    have k0 := V3.out.cell 0 rfl
    have k1 := V3.out.cell 1 rfl
    have k2 := V3.out.cell 2 rfl
    have k3 := V3.out.cell 3 rfl
    have f0 := V3.out.free 0
    have f1 := V3.out.free 1
    have f2 := V3.out.free 2
    have f3 := V3.out.free 3
    have sz := V3.out.lt
    clear s2 s3
    go_wp2_with fail
    exact bodyPost_ret (v := .agg #[.int .i64 (21), .int .i64 (1 + v1), .int .i64 (0), .int .i64 (v3)]) (by simp [results, Tryz.results66, go_sem, k0, k1, k2, k3]) rfl ⟨_, _, _, _, _, rfl, (((T3.out.putC (p := ⟨w.heap.size, 0, none⟩) (Nat.le_refl _) _).putC (p := ⟨w.heap.size, 1, none⟩) (Nat.le_refl _) _).putC (p := ⟨w.heap.size, 2, none⟩) (Nat.le_refl _) _).putC (p := ⟨w.heap.size, 3, none⟩) (Nat.le_refl _) _, (((S3.out.putC (p := ⟨w.heap.size, 0, none⟩) HH.out _).putC (p := ⟨w.heap.size, 1, none⟩) HH.out _).putC (p := ⟨w.heap.size, 2, none⟩) HH.out _).putC (p := ⟨w.heap.size, 3, none⟩) HH.out _, by omega⟩
  · skip
    go_wp2_with fail
    have hb3 := s2.here
    refine (pick_any (s2.alloc _) (by omega) (fun _ => True) _ 2 (by omega) (by omega) (by simp) (by omega) ?_).mono ?_
    · intro i hi
      have : i = 0 ∨ i = 1 := by omega
      rcases this with rfl | rfl
      all_goals exact ⟨_, cell_new rfl, trivial⟩
    rintro e w3 ⟨v3, rfl, -, t3, s3⟩
    have T3 : Hid (Turn b w w3) := T2.out.trans ((Turn.alloc b _ _).trans t3)
    have V3 : Hid (Vb w3 w.heap.size #[.int .i64 0, .int .i64 0, .int .i64 0, .int .i64 0] 117) := (V2.out.push _).turn t3 (by have := HH.out; omega)
    clear t3 T2 V2 hb3
    go_wp2_with fail
    have hb4 := s3.here
    refine (pick_any (s3.alloc _) (by omega) (fun _ => True) _ 3 (by omega) (by omega) (by simp) (by omega) ?_).mono ?_
    · intro i hi
      have : i = 0 ∨ i = 1 ∨ i = 2 := by omega
      rcases this with rfl | rfl | rfl
      all_goals exact ⟨_, cell_new rfl, trivial⟩
    rintro e w4 ⟨v4, rfl, -, t4, s4⟩
    have T4 : Hid (Turn b w w4) := T3.out.trans ((Turn.alloc b _ _).trans t4)
    have V4 : Hid (Vb w4 w.heap.size #[.int .i64 0, .int .i64 0, .int .i64 0, .int .i64 0] 117) := (V3.out.push _).turn t4 (by have := HH.out; omega)
    clear t4 T3 V3 hb4
    have S4 : Hid (Src w4 b _ a len cap zs) := s4
    have k0 := V4.out.cell 0 rfl
    have k1 := V4.out.cell 1 rfl
    have k2 := V4.out.cell 2 rfl
    have k3 := V4.out.cell 3 rfl
    have f0 := V4.out.free 0
    have f1 := V4.out.free 1
    have f2 := V4.out.free 2
    have f3 := V4.out.free 3
    have sz := V4.out.lt
    clear s2 s3 s4
    go_wp2_with fail
    exact bodyPost_ret (v := .agg #[.int .i64 (19), .int .i64 (v3), .int .i64 (0), .int .i64 (v4)]) (by simp [results, Tryz.results66, go_sem, k0, k1, k2, k3]) rfl ⟨_, _, _, _, _, rfl, (((T4.out.putC (p := ⟨w.heap.size, 0, none⟩) (Nat.le_refl _) _).putC (p := ⟨w.heap.size, 1, none⟩) (Nat.le_refl _) _).putC (p := ⟨w.heap.size, 2, none⟩) (Nat.le_refl _) _).putC (p := ⟨w.heap.size, 3, none⟩) (Nat.le_refl _) _, (((S4.out.putC (p := ⟨w.heap.size, 0, none⟩) HH.out _).putC (p := ⟨w.heap.size, 1, none⟩) HH.out _).putC (p := ⟨w.heap.size, 2, none⟩) HH.out _).putC (p := ⟨w.heap.size, 3, none⟩) HH.out _, by omega⟩
  · skip
    go_wp2_with fail
    refine (ins_any s2 (by omega)).mono ?_
    rintro e w3 ⟨o3, d3, x3, i3, rfl, -, -, -, -, t3, s3⟩
    have T3 : Hid (Turn b w w3) := T2.out.trans t3
    have V3 : Hid (Vb w3 w.heap.size #[.int .i64 0, .int .i64 0, .int .i64 0, .int .i64 0] 117) := V2.out.turn t3 (by have := HH.out; omega)
    clear t3 T2 V2
    have S3 : Hid (Src w3 b _ a len cap zs) := s3
    have k0 := V3.out.cell 0 rfl
    have k1 := V3.out.cell 1 rfl
    have k2 := V3.out.cell 2 rfl
    have k3 := V3.out.cell 3 rfl
    have f0 := V3.out.free 0
    have f1 := V3.out.free 1
    have f2 := V3.out.free 2
    have f3 := V3.out.free 3
    have sz := V3.out.lt
    clear s2 s3
    go_wp2_with fail
    exact bodyPost_ret (v := .agg #[.int .i64 (o3), .int .i64 (d3), .int .i64 (x3), .int .i64 (i3)]) (by simp [results, Tryz.results66, go_sem, k0, k1, k2, k3]) rfl ⟨_, _, _, _, _, rfl, (((T3.out.putC (p := ⟨w.heap.size, 0, none⟩) (Nat.le_refl _) _).putC (p := ⟨w.heap.size, 1, none⟩) (Nat.le_refl _) _).putC (p := ⟨w.heap.size, 2, none⟩) (Nat.le_refl _) _).putC (p := ⟨w.heap.size, 3, none⟩) (Nat.le_refl _) _, (((S3.out.putC (p := ⟨w.heap.size, 0, none⟩) HH.out _).putC (p := ⟨w.heap.size, 1, none⟩) HH.out _).putC (p := ⟨w.heap.size, 2, none⟩) HH.out _).putC (p := ⟨w.heap.size, 3, none⟩) HH.out _, by omega⟩
  · skip
    go_wp2_with fail
    refine (ins_any s2 (by omega)).mono ?_
    rintro e w3 ⟨o3, d3, x3, i3, rfl, -, -, -, -, t3, s3⟩
    have T3 : Hid (Turn b w w3) := T2.out.trans t3
    have V3 : Hid (Vb w3 w.heap.size #[.int .i64 0, .int .i64 0, .int .i64 0, .int .i64 0] 117) := V2.out.turn t3 (by have := HH.out; omega)
    clear t3 T2 V2
    have S3 : Hid (Src w3 b _ a len cap zs) := s3
    have k0 := V3.out.cell 0 rfl
    have k1 := V3.out.cell 1 rfl
    have k2 := V3.out.cell 2 rfl
    have k3 := V3.out.cell 3 rfl
    have f0 := V3.out.free 0
    have f1 := V3.out.free 1
    have f2 := V3.out.free 2
    have f3 := V3.out.free 3
    have sz := V3.out.lt
    clear s2 s3
    go_wp2_with fail
    exact bodyPost_ret (v := .agg #[.int .i64 (o3), .int .i64 (d3), .int .i64 (x3), .int .i64 (i3)]) (by simp [results, Tryz.results66, go_sem, k0, k1, k2, k3]) rfl ⟨_, _, _, _, _, rfl, (((T3.out.putC (p := ⟨w.heap.size, 0, none⟩) (Nat.le_refl _) _).putC (p := ⟨w.heap.size, 1, none⟩) (Nat.le_refl _) _).putC (p := ⟨w.heap.size, 2, none⟩) (Nat.le_refl _) _).putC (p := ⟨w.heap.size, 3, none⟩) (Nat.le_refl _) _, (((S3.out.putC (p := ⟨w.heap.size, 0, none⟩) HH.out _).putC (p := ⟨w.heap.size, 1, none⟩) HH.out _).putC (p := ⟨w.heap.size, 2, none⟩) HH.out _).putC (p := ⟨w.heap.size, 3, none⟩) HH.out _, by omega⟩
end Go.Proofs.YtdhdfopkcpkbeaaGreatDoor
namespace Go.Proofs.YtdhdfopkcpkbeaaGreatDoor
open Go.RowKit
set_option linter.unusedVariables false

theorem Nums.turn7 {w w' : World} {base b : Nat} {v : Value} {zs : List Int} (h : Nums w base v zs) (t : Turn b w w') (hb : b < base) : Nums w' base v zs := by
  refine h.kept (row := some b) ⟨t.os, t.tape, t.output, t.size, fun k hk hn => t.block k hk (fun e => hn (by rw [e]))⟩ (.inr fun e => ?_)
  have := (h.lt b e).1
  omega
theorem Turn.grown7 {b : Nat} {w0 w w' : World} {row : Option Nat} (t : Turn b w0 w) (g : w.grownBy w' row) (hr : ∀ k, row = some k → w0.heap.size ≤ k) : Turn b w0 w' :=
  ⟨g.os.trans t.os, g.tape.trans t.tape, g.output.trans t.output, Nat.le_trans t.size g.size, fun k hk hb => (g.block k (Nat.lt_of_lt_of_le hk t.size) (fun e => by have := hr k e.symm; omega)).trans (t.block k hk hb)⟩
theorem Src.grown7 {w w' : World} {b k : Nat} {a : Option Addr} {len cap : Nat} {zs : List Int} {row : Option Nat} (s : Src w b k a len cap zs) (g : w.grownBy w' row) (hr : ∀ k, row = some k → b < k) : Src w' b k a len cap zs := by
  have h := s.here
  have hne : ∀ p : Nat, p ≤ b → some p ≠ row := fun p hp e => by have := hr p e.symm; omega
  refine ⟨cell_grown g s.code (hne b (Nat.le_refl _)), cell_grown g s.count (hne b (Nat.le_refl _)), ?_, ?_, s.away, Nat.lt_of_lt_of_le h g.size⟩
  · rw [← s.free]
    exact World.frozen?_of_block (w := w) (g.block b h (hne b (Nat.le_refl _)))
  · rcases s.row with h | ⟨x, rfl, h1, h2, h3, h4, h5⟩
    · exact .inl h
    · refine .inr ⟨x, rfl, h1, h2, h3, fun i hi => ?_, h5⟩
      have hx := s.away x rfl (by omega)
      exact cell_grown g (h4 i hi) (by rw [src_block]; exact hne _ (by omega))
theorem Rn.one7 {w : World} {g : Nat} {z : Int} (h : w.cell? ⟨g, 0, none⟩ = some (.int .i64 z)) : Rn w (some ⟨g, 0, none⟩) 1 1 [z] := by
  refine .inr ⟨_, rfl, Nat.le_refl _, by unfold maxLen; decide, rfl, fun i hi => ?_⟩
  obtain rfl : i = 0 := by omega
  exact h

set_option maxHeartbeats 4000000 in
theorem image_any {w : World} {b k : Nat} {a : Option Addr} {len cap : Nat} {zs : List Int} (s : Src w b k a len cap zs) (hk : k ≤ 30000) (n : Int) (hn : n ≤ 100) (hn0 : -1000 ≤ n) :
    Calls Tryz.prog 41 #[.pointer (some ⟨b, 0, none⟩), .int .i64 n] w fun e w' => ∃ (v : Value) (xs : List Int) (k' : Nat), e = .returned v ∧ Nums w' w.heap.size v xs ∧ xs.length = n.toNat ∧ Turn b w w' ∧ Src w' b k' a len cap zs ∧ k' ≤ k + 20 * n.toNat := by
  have fv := field_value
  have HH : Hid (b < w.heap.size) := s.here
  have N0 : Hid (Nums (w.alloc (.cells #[] 2)) w.heap.size (.slice (some ⟨w.heap.size, 0, none⟩) 0 0) []) := nums_none w _ (Nat.le_refl _)
  have S0 : Hid (Src (w.alloc (.cells #[] 2)) b k a len cap zs) := s.alloc _
  have T0 : Hid (Turn b w (w.alloc (.cells #[] 2))) := Turn.alloc b w _
  obtain ⟨N, hN⟩ : ∃ N : Nat, n.toNat = N := ⟨_, rfl⟩
  have HNN : Hid (n.toNat = N ∧ n ≤ 100 ∧ k ≤ 30000) := ⟨hN, hn, hk⟩
  rw [hN]
  clear s hk
  by_cases hpos : n ≤ 0
  · have hz : ¬ 0 < n := by omega
    have hN0 : N = 0 := by omega
    subst hN0
    clear hN
    go_enter Tryz.func41, Tryz.ntmps41
    go_wp2_with fail
    generalize w.alloc (.cells #[] 2) = W at *
    go_loopw [1, 5, 6] (fun c u _ wr => c = .int .i64 n ∧ u = .slice (some ⟨w.heap.size, 0, none⟩) 0 0 ∧ wr = W) (fun _ _ _ _ => 0)
    case atStart => exact ⟨rfl, rfl, rfl⟩
    case round =>
      obtain ⟨rfl, rfl, rfl⟩ := hrel
      go_wp2_with fail
      go_ret
      exact ⟨_, _, _, rfl, N0.out, rfl, T0.out, S0.out, by omega⟩
  · obtain rfl : n = N := by omega
    clear hN hpos hn hn0
    go_enter Tryz.func41, Tryz.ntmps41
    go_wp2_with fail
    generalize w.alloc (.cells #[] 2) = W at *
    go_loopw [1, 5, 6] (fun c u _ wr => ∃ (j k' : Nat) (xs : List Int), j ≤ N ∧ c = .int .i64 j ∧ xs.length + j = N ∧ k' + 20 * j ≤ k + 20 * N ∧ Nums wr w.heap.size u xs ∧ Turn b w wr ∧ Src wr b k' a len cap zs) (fun c _ _ _ => (intOf c).toNat)
    case atStart => exact ⟨N, k, [], Nat.le_refl _, rfl, by simp, by omega, N0.out, T0.out, S0.out⟩
    case round =>
      obtain ⟨j, k', xs, hj, rfl, hxs, hk', hN, hT, hS⟩ := hrel
      have NJ : Hid (Nums wr w.heap.size u5 xs) := hN
      have TJ : Hid (Turn b w wr) := hT
      have SJ : Hid (Src wr b k' a len cap zs) := hS
      have HX : Hid (xs.length + j = N ∧ k' + 20 * j ≤ k + 20 * N ∧ j ≤ N ∧ N ≤ 100 ∧ k ≤ 30000) := ⟨hxs, hk', hj, by have := HNN.out; omega, by have := HNN.out; omega⟩
      clear hN hT hS hxs hk' N0 T0 S0
      by_cases hlt : 0 < j
      · have hJ : 0 < (j : Int) := by omega
        have hJ2 : (j : Int) ≤ 100 := by have := HX.out; omega
        have HLT : Hid (0 < j) := hlt
        clear hlt hj
        go_wp2_with fail
        refine (ins7_any SJ.out (by have := HX.out; omega)).mono ?_
        rintro e w1 ⟨o1, d1, x1, i1, k1, rfl, t1, s1, hk1⟩
        have N1 : Hid (Nums w1 w.heap.size u5 xs) := NJ.out.turn7 t1 HH.out
        have T1 : Hid (Turn b w w1) := TJ.out.trans t1
        have S1 : Hid (Src w1 b k1 a len cap zs) := s1
        have HK1 : Hid (k1 ≤ k' + 10) := hk1
        clear t1 s1 hk1 NJ TJ SJ
        go_wp2_with fail
        refine (spec_encode o1 d1 x1 i1 w1).mono ?_
        rintro e w2 ⟨rfl, b2⟩
        have N2 : Hid (Nums w2 w.heap.size u5 xs) := N1.out.keep b2
        have T2 : Hid (Turn b w w2) := T1.out.trans (Turn.of_below b2)
        have S2 : Hid (Src w2 b k1 a len cap zs) := S1.out.stay b2
        clear b2 N1 T1 S1
        generalize encV o1 d1 x1 i1 = ev
        go_wp2_with fail
        refine (chance_any S2.out (by have := HX.out; have := HK1.out; omega) _).mono ?_
        rintro e w3 ⟨c3, rfl, t3, s3⟩
        have N3 : Hid (Nums w3 w.heap.size u5 xs) := N2.out.turn7 t3 HH.out
        have T3 : Hid (Turn b w w3) := T2.out.trans t3
        have S3 : Hid (Src w3 b (k1 + 1) a len cap zs) := s3
        clear t3 s3 N2 T2 S2
        have hend : ∀ (z : Int) (w4 : World) (k4 : Nat), Nums w4 w.heap.size u5 xs → Turn b w w4 → Src w4 b k4 a len cap zs → k4 ≤ k1 + 6 → True := fun _ _ _ _ _ _ _ => trivial
        clear hend
        cases c3
        · go_wp2_with (at_builtin; refine wp_appx _ rfl _ _ rfl w.heap.size u5 _ rfl (N3.out.keep (al (Below.refl _ _) _)) _ 1 1 [ev] rfl (Rn.one7 (cell_new rfl)) (by have := HX.out; omega) (by have := T3.out.size; simp; omega) ?_; intro v' w' hN' hG')
          have N4 : Hid (Nums w' w.heap.size v' (xs ++ [ev])) := hN'
          have T4 : Hid (Turn b w w') := (T3.out.trans (Turn.alloc b _ _)).grown7 hG' (fun q hq => by have := (N3.out.lt q hq).1; omega)
          have S4 : Hid (Src w' b (k1 + 1) a len cap zs) := (S3.out.alloc _).grown7 hG' (fun q hq => by have := (N3.out.lt q hq).1; have := HH.out; omega)
          clear hN' hG'
          go_wp2_with fail
          go_roundw
          case rel => exact ⟨j - 1, k1 + 1, xs ++ [ev], by have := HX.out; omega, by have := HLT.out; rw [show ((j - 1 : Nat) : Int) = (j : Int) - 1 by omega], by have := HX.out; have := HLT.out; simp; omega, by have := HX.out; have := HK1.out; have := HLT.out; omega, N4.out, T4.out, S4.out⟩
          case measure => have := HLT.out; show ((j : Int) - 1).toNat < ((j : Int)).toNat; omega
        · go_wp2_with fail
          refine (word_any S3.out (by have := HX.out; have := HK1.out; omega)).mono ?_
          rintro e w4 ⟨v4, rfl, h4, t4, s4⟩
          have N3b : Hid (Nums w4 w.heap.size u5 xs) := N3.out.turn7 t4 HH.out
          have T3b : Hid (Turn b w w4) := T3.out.trans t4
          have S3b : Hid (Src w4 b (k1 + 1 + 5) a len cap zs) := s4
          clear t4 s4 h4 N3 T3 S3
          go_wp2_with (at_builtin; refine wp_appx _ rfl _ _ rfl w.heap.size u5 _ rfl (N3b.out.keep (al (Below.refl _ _) _)) _ 1 1 [v4] rfl (Rn.one7 (cell_new rfl)) (by have := HX.out; omega) (by have := T3b.out.size; simp; omega) ?_; intro v' w' hN' hG')
          have N4 : Hid (Nums w' w.heap.size v' (xs ++ [v4])) := hN'
          have T4 : Hid (Turn b w w') := (T3b.out.trans (Turn.alloc b _ _)).grown7 hG' (fun q hq => by have := (N3b.out.lt q hq).1; omega)
          have S4 : Hid (Src w' b (k1 + 1 + 5) a len cap zs) := (S3b.out.alloc _).grown7 hG' (fun q hq => by have := (N3b.out.lt q hq).1; have := HH.out; omega)
          clear hN' hG'
          go_wp2_with fail
          go_roundw
          case rel => exact ⟨j - 1, k1 + 1 + 5, xs ++ [v4], by have := HX.out; omega, by have := HLT.out; rw [show ((j - 1 : Nat) : Int) = (j : Int) - 1 by omega], by have := HX.out; have := HLT.out; simp; omega, by have := HX.out; have := HK1.out; have := HLT.out; omega, N4.out, T4.out, S4.out⟩
          case measure => have := HLT.out; show ((j : Int) - 1).toNat < ((j : Int)).toNat; omega
      · obtain rfl : j = 0 := by omega
        clear hlt hj
        go_wp2_with fail
        go_ret
        exact ⟨_, xs, k', rfl, NJ.out, by have := HX.out; omega, TJ.out, SJ.out, by have := HX.out; omega⟩
end Go.Proofs.YtdhdfopkcpkbeaaGreatDoor
