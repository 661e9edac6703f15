/- Bent instructions as they are drawn, and the two draws of FnCodes. -/
import Derived.Test.YtedjnokeknmbaaaDoorCdraw
import Derived.Test.YtedjnokeknmbaaaDoorCells
namespace Go.Proofs.YtedjnokeknmbaaaDoor
open Go.RowKit
set_option linter.unusedVariables false

theorem heap_last (w : World) (o : Obj) : (w.alloc o).heap[w.heap.size]? = some o := by
  show (w.heap.push o)[w.heap.size]? = _
  rw [Array.getElem?_push, if_pos rfl]

set_option maxHeartbeats 4000000 in
theorem bent_any {w : World} {b k : Nat} {a : Option Addr} {len cap : Nat} {zs : List Int} (s : Src w b k a len cap zs) (hk : k ≤ 100) :
    Calls Tryd.prog 21 #[.pointer (some ⟨b, 0, none⟩)] w fun e w' => ∃ o d x i : Int, e = .returned (.agg #[.int .i64 o, .int .i64 d, .int .i64 x, .int .i64 i]) ∧ Turn b w w' := by
  have HH : Hid (b < w.heap.size) := s.here
  have s0 := s.alloc (.cells #[.int .i64 0, .int .i64 0, .int .i64 0, .int .i64 0] 26)
  have K0 : Hid ((w.alloc (.cells #[.int .i64 0, .int .i64 0, .int .i64 0, .int .i64 0] 26)).heap[w.heap.size]? = some (.cells #[.int .i64 0, .int .i64 0, .int .i64 0, .int .i64 0] 26 (0, 0))) := heap_last w _
  go_enter Tryd.func21, Tryd.ntmps21
  go_wp2_with fail
  refine (ins_any s0 (by omega)).mono ?_
  rintro e w1 ⟨o, d, x, i, rfl, -, -, -, -, t1, s1⟩
  have T1 : Hid (Turn b w w1) := (Turn.alloc b w _).trans t1
  have K1 : Hid (w1.heap[w.heap.size]? = some (.cells #[.int .i64 0, .int .i64 0, .int .i64 0, .int .i64 0] 26 (0, 0))) := (t1.block w.heap.size (by simp) (by have := HH.out; omega)).trans K0.out
  have S1 : Hid (w.heap.size ≤ w1.heap.size) := T1.out.size
  have z1 : w.heap.size < w1.heap.size := by have := t1.size; simp at this; omega
  have Z0' : Hid (w.heap.size < w1.heap.size) := z1
  have s1' := s1.alloc (.cells #[.int .i64 o, .int .i64 d, .int .i64 x, .int .i64 i] 26)
  have X1 : Hid ((w1.alloc (.cells #[.int .i64 o, .int .i64 d, .int .i64 x, .int .i64 i] 26)).heap[w1.heap.size]? = some (.cells #[.int .i64 o, .int .i64 d, .int .i64 x, .int .i64 i] 26 (0, 0))) := heap_last w1 _
  clear t1 s0 K0 s1
  go_wp2_with fail
  refine (next_any s1' (by omega) _).mono ?_
  rintro e w2 ⟨v, rfl, -, -, t2, s2⟩
  have T2 : Hid (Turn b w w2) := (T1.out.push _).trans t2
  have K2 : Hid (w2.heap[w.heap.size]? = some (.cells #[.int .i64 0, .int .i64 0, .int .i64 0, .int .i64 0] 26 (0, 0))) := by
    show _ = _
    rw [t2.block w.heap.size (by have := Z0'.out; simp; omega) (by have := HH.out; omega), Below.heap_alloc _ _ _ Z0'.out]
    exact K1.out
  have X2 : Hid (w2.heap[w1.heap.size]? = some (.cells #[.int .i64 o, .int .i64 d, .int .i64 x, .int .i64 i] 26 (0, 0))) := (t2.block w1.heap.size (by simp) (by have := HH.out; have := S1.out; omega)).trans X1.out
  have S2 : Hid (Src w2 b _ a len cap zs) := s2
  have Z1 : Hid (w1.heap.size < w2.heap.size) := by show _ < _; have := t2.size; simp at this; omega
  have Z0 : Hid (w.heap.size < w2.heap.size) := by show _ < _; have := Z1.out; have := Z0'.out; omega
  clear t2 s2 s1' K1 X1
  by_cases e0 : v = 0
  · subst e0
    go_wp2_with fail
    refine (next_any S2.out (by omega) _).mono ?_
    rintro e w3 ⟨v3, rfl, h3, -, t3, s3⟩
    obtain ⟨l3, u3⟩ := h3 (by omega)
    clear h3
    go_wp2_with fail
    have hb := s3.here
    refine (pick_any (s3.alloc _) (by omega) (fun _ => True) _ 4 (by omega) (by omega) (by simp) (by omega) ?_).mono ?_
    · intro i hi
      have : i = 0 ∨ i = 1 ∨ i = 2 ∨ i = 3 := by omega
      rcases this with rfl | rfl | rfl | rfl
      all_goals exact ⟨_, cell_new rfl, trivial⟩
    rintro e w9 ⟨v9, rfl, -, t9, -⟩
    have TT := t3.trans ((Turn.alloc b w3 _).trans t9)
    have T9 : Hid (Turn b w w9) := T2.out.trans TT
    have K9 : w9.heap[w.heap.size]? = _ := (TT.block w.heap.size Z0.out (by have := HH.out; omega)).trans K2.out
    have X9 : w9.heap[w1.heap.size]? = _ := (TT.block w1.heap.size Z1.out (by have := HH.out; have := S1.out; omega)).trans X2.out
    have k0 : w9.cell? ⟨w.heap.size, 0, none⟩ = some (.int .i64 0) := by simp [World.cell?, K9]
    have k1 : w9.cell? ⟨w.heap.size, 1, none⟩ = some (.int .i64 0) := by simp [World.cell?, K9]
    have k2 : w9.cell? ⟨w.heap.size, 2, none⟩ = some (.int .i64 0) := by simp [World.cell?, K9]
    have k3 : w9.cell? ⟨w.heap.size, 3, none⟩ = some (.int .i64 0) := by simp [World.cell?, K9]
    have kf0 : w9.frozen? ⟨w.heap.size, 0, none⟩ = false := by simp [World.frozen?, K9]
    have kf1 : w9.frozen? ⟨w.heap.size, 1, none⟩ = false := by simp [World.frozen?, K9]
    have kf2 : w9.frozen? ⟨w.heap.size, 2, none⟩ = false := by simp [World.frozen?, K9]
    have kf3 : w9.frozen? ⟨w.heap.size, 3, none⟩ = false := by simp [World.frozen?, K9]
    have x0 : w9.cell? ⟨w1.heap.size, 0, none⟩ = some (.int .i64 o) := by simp [World.cell?, X9]
    have x1 : w9.cell? ⟨w1.heap.size, 1, none⟩ = some (.int .i64 d) := by simp [World.cell?, X9]
    have x2 : w9.cell? ⟨w1.heap.size, 2, none⟩ = some (.int .i64 x) := by simp [World.cell?, X9]
    have x3 : w9.cell? ⟨w1.heap.size, 3, none⟩ = some (.int .i64 i) := by simp [World.cell?, X9]
    have xf0 : w9.frozen? ⟨w1.heap.size, 0, none⟩ = false := by simp [World.frozen?, X9]
    have xf1 : w9.frozen? ⟨w1.heap.size, 1, none⟩ = false := by simp [World.frozen?, X9]
    have xf2 : w9.frozen? ⟨w1.heap.size, 2, none⟩ = false := by simp [World.frozen?, X9]
    have xf3 : w9.frozen? ⟨w1.heap.size, 3, none⟩ = false := by simp [World.frozen?, X9]
    clear TT t9 hb K9 X9
    go_wp2_with fail
    exact bodyPost_ret (v := .agg #[.int .i64 v9, .int .i64 d, .int .i64 x, .int .i64 i]) (by simp [results, Tryd.results21, go_sem, k0, k1, k2, k3]) rfl ⟨_, _, _, _, rfl, (((((T9.out.put (p := ⟨w1.heap.size, 0, none⟩) S1.out _).put (p := ⟨w.heap.size, 0, none⟩) (Nat.le_refl _) _).put (p := ⟨w.heap.size, 1, none⟩) (Nat.le_refl _) _).put (p := ⟨w.heap.size, 2, none⟩) (Nat.le_refl _) _).put (p := ⟨w.heap.size, 3, none⟩) (Nat.le_refl _) _)⟩
  by_cases e1 : v = 1
  · subst e1
    go_wp2_with fail
    have hb := S2.out.here
    refine (pick_any (S2.out.alloc _) (by omega) (fun _ => True) _ 3 (by omega) (by omega) (by simp) (by omega) ?_).mono ?_
    · intro i hi
      have : i = 0 ∨ i = 1 ∨ i = 2 := by omega
      rcases this with rfl | rfl | rfl
      all_goals exact ⟨_, cell_new rfl, trivial⟩
    rintro e w9 ⟨v9, rfl, -, t9, -⟩
    have TT := (Turn.alloc b w2 _).trans t9
    have T9 : Hid (Turn b w w9) := T2.out.trans TT
    have K9 : w9.heap[w.heap.size]? = _ := (TT.block w.heap.size Z0.out (by have := HH.out; omega)).trans K2.out
    have X9 : w9.heap[w1.heap.size]? = _ := (TT.block w1.heap.size Z1.out (by have := HH.out; have := S1.out; omega)).trans X2.out
    have k0 : w9.cell? ⟨w.heap.size, 0, none⟩ = some (.int .i64 0) := by simp [World.cell?, K9]
    have k1 : w9.cell? ⟨w.heap.size, 1, none⟩ = some (.int .i64 0) := by simp [World.cell?, K9]
    have k2 : w9.cell? ⟨w.heap.size, 2, none⟩ = some (.int .i64 0) := by simp [World.cell?, K9]
    have k3 : w9.cell? ⟨w.heap.size, 3, none⟩ = some (.int .i64 0) := by simp [World.cell?, K9]
    have kf0 : w9.frozen? ⟨w.heap.size, 0, none⟩ = false := by simp [World.frozen?, K9]
    have kf1 : w9.frozen? ⟨w.heap.size, 1, none⟩ = false := by simp [World.frozen?, K9]
    have kf2 : w9.frozen? ⟨w.heap.size, 2, none⟩ = false := by simp [World.frozen?, K9]
    have kf3 : w9.frozen? ⟨w.heap.size, 3, none⟩ = false := by simp [World.frozen?, K9]
    have x0 : w9.cell? ⟨w1.heap.size, 0, none⟩ = some (.int .i64 o) := by simp [World.cell?, X9]
    have x1 : w9.cell? ⟨w1.heap.size, 1, none⟩ = some (.int .i64 d) := by simp [World.cell?, X9]
    have x2 : w9.cell? ⟨w1.heap.size, 2, none⟩ = some (.int .i64 x) := by simp [World.cell?, X9]
    have x3 : w9.cell? ⟨w1.heap.size, 3, none⟩ = some (.int .i64 i) := by simp [World.cell?, X9]
    have xf0 : w9.frozen? ⟨w1.heap.size, 0, none⟩ = false := by simp [World.frozen?, X9]
    have xf1 : w9.frozen? ⟨w1.heap.size, 1, none⟩ = false := by simp [World.frozen?, X9]
    have xf2 : w9.frozen? ⟨w1.heap.size, 2, none⟩ = false := by simp [World.frozen?, X9]
    have xf3 : w9.frozen? ⟨w1.heap.size, 3, none⟩ = false := by simp [World.frozen?, X9]
    clear TT t9 hb K9 X9
    go_wp2_with fail
    exact bodyPost_ret (v := .agg #[.int .i64 o, .int .i64 v9, .int .i64 x, .int .i64 i]) (by simp [results, Tryd.results21, go_sem, k0, k1, k2, k3]) rfl ⟨_, _, _, _, rfl, (((((T9.out.put (p := ⟨w1.heap.size, 1, none⟩) S1.out _).put (p := ⟨w.heap.size, 0, none⟩) (Nat.le_refl _) _).put (p := ⟨w.heap.size, 1, none⟩) (Nat.le_refl _) _).put (p := ⟨w.heap.size, 2, none⟩) (Nat.le_refl _) _).put (p := ⟨w.heap.size, 3, none⟩) (Nat.le_refl _) _)⟩
  by_cases e2 : v = 2
  · subst e2
    go_wp2_with fail
    have hb := S2.out.here
    refine (pick_any (S2.out.alloc _) (by omega) (fun _ => True) _ 3 (by omega) (by omega) (by simp) (by omega) ?_).mono ?_
    · intro i hi
      have : i = 0 ∨ i = 1 ∨ i = 2 := by omega
      rcases this with rfl | rfl | rfl
      all_goals exact ⟨_, cell_new rfl, trivial⟩
    rintro e w9 ⟨v9, rfl, -, t9, -⟩
    have TT := (Turn.alloc b w2 _).trans t9
    have T9 : Hid (Turn b w w9) := T2.out.trans TT
    have K9 : w9.heap[w.heap.size]? = _ := (TT.block w.heap.size Z0.out (by have := HH.out; omega)).trans K2.out
    have X9 : w9.heap[w1.heap.size]? = _ := (TT.block w1.heap.size Z1.out (by have := HH.out; have := S1.out; omega)).trans X2.out
    have k0 : w9.cell? ⟨w.heap.size, 0, none⟩ = some (.int .i64 0) := by simp [World.cell?, K9]
    have k1 : w9.cell? ⟨w.heap.size, 1, none⟩ = some (.int .i64 0) := by simp [World.cell?, K9]
    have k2 : w9.cell? ⟨w.heap.size, 2, none⟩ = some (.int .i64 0) := by simp [World.cell?, K9]
    have k3 : w9.cell? ⟨w.heap.size, 3, none⟩ = some (.int .i64 0) := by simp [World.cell?, K9]
    have kf0 : w9.frozen? ⟨w.heap.size, 0, none⟩ = false := by simp [World.frozen?, K9]
    have kf1 : w9.frozen? ⟨w.heap.size, 1, none⟩ = false := by simp [World.frozen?, K9]
    have kf2 : w9.frozen? ⟨w.heap.size, 2, none⟩ = false := by simp [World.frozen?, K9]
    have kf3 : w9.frozen? ⟨w.heap.size, 3, none⟩ = false := by simp [World.frozen?, K9]
    have x0 : w9.cell? ⟨w1.heap.size, 0, none⟩ = some (.int .i64 o) := by simp [World.cell?, X9]
    have x1 : w9.cell? ⟨w1.heap.size, 1, none⟩ = some (.int .i64 d) := by simp [World.cell?, X9]
    have x2 : w9.cell? ⟨w1.heap.size, 2, none⟩ = some (.int .i64 x) := by simp [World.cell?, X9]
    have x3 : w9.cell? ⟨w1.heap.size, 3, none⟩ = some (.int .i64 i) := by simp [World.cell?, X9]
    have xf0 : w9.frozen? ⟨w1.heap.size, 0, none⟩ = false := by simp [World.frozen?, X9]
    have xf1 : w9.frozen? ⟨w1.heap.size, 1, none⟩ = false := by simp [World.frozen?, X9]
    have xf2 : w9.frozen? ⟨w1.heap.size, 2, none⟩ = false := by simp [World.frozen?, X9]
    have xf3 : w9.frozen? ⟨w1.heap.size, 3, none⟩ = false := by simp [World.frozen?, X9]
    clear TT t9 hb K9 X9
    go_wp2_with fail
    exact bodyPost_ret (v := .agg #[.int .i64 o, .int .i64 d, .int .i64 v9, .int .i64 i]) (by simp [results, Tryd.results21, go_sem, k0, k1, k2, k3]) rfl ⟨_, _, _, _, rfl, (((((T9.out.put (p := ⟨w1.heap.size, 2, none⟩) S1.out _).put (p := ⟨w.heap.size, 0, none⟩) (Nat.le_refl _) _).put (p := ⟨w.heap.size, 1, none⟩) (Nat.le_refl _) _).put (p := ⟨w.heap.size, 2, none⟩) (Nat.le_refl _) _).put (p := ⟨w.heap.size, 3, none⟩) (Nat.le_refl _) _)⟩
  by_cases e3 : v = 3
  · subst e3
    go_wp2_with fail
    have hb := S2.out.here
    refine (pick_any (S2.out.alloc _) (by omega) (fun _ => True) _ 4 (by omega) (by omega) (by simp) (by omega) ?_).mono ?_
    · intro i hi
      have : i = 0 ∨ i = 1 ∨ i = 2 ∨ i = 3 := by omega
      rcases this with rfl | rfl | rfl | rfl
      all_goals exact ⟨_, cell_new rfl, trivial⟩
    rintro e w9 ⟨v9, rfl, -, t9, -⟩
    have TT := (Turn.alloc b w2 _).trans t9
    have T9 : Hid (Turn b w w9) := T2.out.trans TT
    have K9 : w9.heap[w.heap.size]? = _ := (TT.block w.heap.size Z0.out (by have := HH.out; omega)).trans K2.out
    have X9 : w9.heap[w1.heap.size]? = _ := (TT.block w1.heap.size Z1.out (by have := HH.out; have := S1.out; omega)).trans X2.out
    have k0 : w9.cell? ⟨w.heap.size, 0, none⟩ = some (.int .i64 0) := by simp [World.cell?, K9]
    have k1 : w9.cell? ⟨w.heap.size, 1, none⟩ = some (.int .i64 0) := by simp [World.cell?, K9]
    have k2 : w9.cell? ⟨w.heap.size, 2, none⟩ = some (.int .i64 0) := by simp [World.cell?, K9]
    have k3 : w9.cell? ⟨w.heap.size, 3, none⟩ = some (.int .i64 0) := by simp [World.cell?, K9]
    have kf0 : w9.frozen? ⟨w.heap.size, 0, none⟩ = false := by simp [World.frozen?, K9]
    have kf1 : w9.frozen? ⟨w.heap.size, 1, none⟩ = false := by simp [World.frozen?, K9]
    have kf2 : w9.frozen? ⟨w.heap.size, 2, none⟩ = false := by simp [World.frozen?, K9]
    have kf3 : w9.frozen? ⟨w.heap.size, 3, none⟩ = false := by simp [World.frozen?, K9]
    have x0 : w9.cell? ⟨w1.heap.size, 0, none⟩ = some (.int .i64 o) := by simp [World.cell?, X9]
    have x1 : w9.cell? ⟨w1.heap.size, 1, none⟩ = some (.int .i64 d) := by simp [World.cell?, X9]
    have x2 : w9.cell? ⟨w1.heap.size, 2, none⟩ = some (.int .i64 x) := by simp [World.cell?, X9]
    have x3 : w9.cell? ⟨w1.heap.size, 3, none⟩ = some (.int .i64 i) := by simp [World.cell?, X9]
    have xf0 : w9.frozen? ⟨w1.heap.size, 0, none⟩ = false := by simp [World.frozen?, X9]
    have xf1 : w9.frozen? ⟨w1.heap.size, 1, none⟩ = false := by simp [World.frozen?, X9]
    have xf2 : w9.frozen? ⟨w1.heap.size, 2, none⟩ = false := by simp [World.frozen?, X9]
    have xf3 : w9.frozen? ⟨w1.heap.size, 3, none⟩ = false := by simp [World.frozen?, X9]
    clear TT t9 hb K9 X9
    go_wp2_with fail
    exact bodyPost_ret (v := .agg #[.int .i64 o, .int .i64 d, .int .i64 x, .int .i64 v9]) (by simp [results, Tryd.results21, go_sem, k0, k1, k2, k3]) rfl ⟨_, _, _, _, rfl, (((((T9.out.put (p := ⟨w1.heap.size, 3, none⟩) S1.out _).put (p := ⟨w.heap.size, 0, none⟩) (Nat.le_refl _) _).put (p := ⟨w.heap.size, 1, none⟩) (Nat.le_refl _) _).put (p := ⟨w.heap.size, 2, none⟩) (Nat.le_refl _) _).put (p := ⟨w.heap.size, 3, none⟩) (Nat.le_refl _) _)⟩
  have g0 : (v == 0) = false := beq_eq_false_iff_ne.2 e0
  have g1 : (v == 1) = false := beq_eq_false_iff_ne.2 e1
  have g2 : (v == 2) = false := beq_eq_false_iff_ne.2 e2
  have g3 : (v == 3) = false := beq_eq_false_iff_ne.2 e3
  have T9 : Hid (Turn b w w2) := T2.out
  have K9 := K2.out
  have X9 := X2.out
  have k0 : w2.cell? ⟨w.heap.size, 0, none⟩ = some (.int .i64 0) := by simp [World.cell?, K9]
  have k1 : w2.cell? ⟨w.heap.size, 1, none⟩ = some (.int .i64 0) := by simp [World.cell?, K9]
  have k2 : w2.cell? ⟨w.heap.size, 2, none⟩ = some (.int .i64 0) := by simp [World.cell?, K9]
  have k3 : w2.cell? ⟨w.heap.size, 3, none⟩ = some (.int .i64 0) := by simp [World.cell?, K9]
  have kf0 : w2.frozen? ⟨w.heap.size, 0, none⟩ = false := by simp [World.frozen?, K9]
  have kf1 : w2.frozen? ⟨w.heap.size, 1, none⟩ = false := by simp [World.frozen?, K9]
  have kf2 : w2.frozen? ⟨w.heap.size, 2, none⟩ = false := by simp [World.frozen?, K9]
  have kf3 : w2.frozen? ⟨w.heap.size, 3, none⟩ = false := by simp [World.frozen?, K9]
  have x0 : w2.cell? ⟨w1.heap.size, 0, none⟩ = some (.int .i64 o) := by simp [World.cell?, X9]
  have x1 : w2.cell? ⟨w1.heap.size, 1, none⟩ = some (.int .i64 d) := by simp [World.cell?, X9]
  have x2 : w2.cell? ⟨w1.heap.size, 2, none⟩ = some (.int .i64 x) := by simp [World.cell?, X9]
  have x3 : w2.cell? ⟨w1.heap.size, 3, none⟩ = some (.int .i64 i) := by simp [World.cell?, X9]
  have xf0 : w2.frozen? ⟨w1.heap.size, 0, none⟩ = false := by simp [World.frozen?, X9]
  have xf1 : w2.frozen? ⟨w1.heap.size, 1, none⟩ = false := by simp [World.frozen?, X9]
  have xf2 : w2.frozen? ⟨w1.heap.size, 2, none⟩ = false := by simp [World.frozen?, X9]
  have xf3 : w2.frozen? ⟨w1.heap.size, 3, none⟩ = false := by simp [World.frozen?, X9]
  clear K9 X9 e0 e1 e2 e3
  go_wp2_with fail
  exact bodyPost_ret (v := .agg #[.int .i64 o, .int .i64 d, .int .i64 x, .int .i64 i]) (by simp [results, Tryd.results21, go_sem, k0, k1, k2, k3]) rfl ⟨_, _, _, _, rfl, ((((T9.out.put (p := ⟨w.heap.size, 0, none⟩) (Nat.le_refl _) _).put (p := ⟨w.heap.size, 1, none⟩) (Nat.le_refl _) _).put (p := ⟨w.heap.size, 2, none⟩) (Nat.le_refl _) _).put (p := ⟨w.heap.size, 3, none⟩) (Nat.le_refl _) _)⟩

set_option maxHeartbeats 1000000 in
theorem drawEnc_any {w : World} {a : Option Addr} {len cap : Nat} {zs : List Int} (hr : IsRow .u8 w a len cap zs) :
    Calls Tryd.prog 9 #[.slice a len cap] w fun e w' => ∃ o d x i : Int, e = .returned (.agg #[.int .i64 o, .int .i64 d, .int .i64 x, .int .i64 i]) ∧ Below w.heap.size w w' := by
  have HR : Hid (IsRow .u8 (w.alloc (.cells #[.int .i64 0, .int .i64 0, .int .i64 0, .int .i64 0] 26)) a len cap zs) := hr.below ((Below.refl _ _).alloc (Nat.le_refl _) _)
  clear hr
  go_enter Tryd.func9, Tryd.ntmps9
  go_wp2_with fail
  refine (source_any HR.out).mono ?_
  rintro e w1 ⟨rfl, b1, s1⟩
  rw [World.size_alloc] at s1
  go_wp2_with fail
  refine (bent_any s1 (by omega)).mono ?_
  rintro e w2 ⟨o, d, x, i, rfl, t2⟩
  have b2 : Below (w.alloc (.cells #[.int .i64 0, .int .i64 0, .int .i64 0, .int .i64 0] 26)).heap.size (w.alloc (.cells #[.int .i64 0, .int .i64 0, .int .i64 0, .int .i64 0] 26)) w2 := b1.trans (t2.below (by simp) b1.size)
  have k0 : w2.cell? ⟨w.heap.size, 0, none⟩ = some (.int .i64 0) := cell_keep b2 (cell_new rfl)
  have k1 : w2.cell? ⟨w.heap.size, 1, none⟩ = some (.int .i64 0) := cell_keep b2 (cell_new rfl)
  have k2 : w2.cell? ⟨w.heap.size, 2, none⟩ = some (.int .i64 0) := cell_keep b2 (cell_new rfl)
  have k3 : w2.cell? ⟨w.heap.size, 3, none⟩ = some (.int .i64 0) := cell_keep b2 (cell_new rfl)
  obtain ⟨c1, z1⟩ := bcell b2
  have B2 : Hid (Below w.heap.size w w2) := on (al (Below.refl _ _) _) b2
  clear b1 b2 t2 s1
  go_wp2_with fail
  exact bodyPost_ret (v := .agg #[.int .i64 o, .int .i64 d, .int .i64 x, .int .i64 i]) (by simp [results, Tryd.results9, go_sem, k0, k1, k2, k3]) rfl ⟨_, _, _, _, rfl, (((B2.out.setCell (by simp) _).setCell (by simp) _).setCell (by simp) _).setCell (by simp) _⟩

theorem field_val (x y : Value) (w : World) : (Instr.field 31 (.agg #[x, y]) 1).run Tryd.prog w = .ok y w := by kernel_rfl

set_option maxHeartbeats 1000000 in
theorem drawDec_any {w : World} {a : Option Addr} {len cap : Nat} {zs : List Int} (hr : IsRow .u8 w a len cap zs) :
    Calls Tryd.prog 5 #[.slice a len cap] w fun e w' => ∃ v : Int, e = .returned (.int .i64 v) ∧ Below w.heap.size w w' := by
  have hfield := field_val
  have HR : Hid (IsRow .u8 w a len cap zs) := hr
  clear hr
  go_enter Tryd.func5, Tryd.ntmps5
  go_wp2_with fail
  refine (source_any HR.out).mono ?_
  rintro e w1 ⟨rfl, b1, s1⟩
  go_wp2_with fail
  refine (ins_any s1 (by omega)).mono ?_
  rintro e w2 ⟨o, d, x, i, rfl, -, -, -, -, t2, s2⟩
  have B2 : Hid (Below _ w w2) := b1.trans (t2.below (Nat.le_refl _) b1.size)
  clear b1 s1 t2
  go_wp2_with fail
  refine (spec_encode _ _ _ _ _).mono ?_
  rintro e w3 ⟨rfl, b3⟩
  have s3 := s2.stay b3
  have B3 : Hid (Below _ w w3) := on B2.out b3
  clear b3 s2
  generalize encV o d x i = z at *
  generalize insC o d x i = c at *
  go_wp2_with fail
  refine (next_any s3 (by omega) _).mono ?_
  rintro e w4 ⟨v4, rfl, -, -, t4, s4⟩
  have B4 : Hid (Below _ w w4) := B3.out.trans (t4.below (Nat.le_refl _) B3.out.size)
  clear s3 t4
  by_cases e0 : v4 = 0
  · subst e0
    go_wp2_with fail
    refine (next_any s4 (by omega) _).mono ?_
    rintro e w5 ⟨v5, rfl, h5, -, t5, s5⟩
    obtain ⟨l5, u5⟩ := h5 (by omega)
    have B5 : Hid (Below _ w w5) := B4.out.trans (t5.below (Nat.le_refl _) B4.out.size)
    clear h5 t5 s5 s4
    go_wp2_with fail
    all_goals go_ret
    all_goals exact ⟨_, rfl, B5.out⟩
  by_cases e1 : v4 = 1
  · subst e1
    go_wp2_with fail
    refine (wide_any s4 (by omega)).mono ?_
    rintro e w5 ⟨v5, rfl, -, t5, s5⟩
    have B5 : Hid (Below _ w w5) := B4.out.trans (t5.below (Nat.le_refl _) B4.out.size)
    clear t5 s5 s4
    go_wp2_with fail
    go_ret
    exact ⟨_, rfl, B5.out⟩
  have g0 : (v4 == 0) = false := beq_eq_false_iff_ne.2 e0
  have g1 : (v4 == 1) = false := beq_eq_false_iff_ne.2 e1
  clear e0 e1
  go_wp2_with fail
  go_ret
  exact ⟨_, rfl, B4.out⟩
end Go.Proofs.YtedjnokeknmbaaaDoor
