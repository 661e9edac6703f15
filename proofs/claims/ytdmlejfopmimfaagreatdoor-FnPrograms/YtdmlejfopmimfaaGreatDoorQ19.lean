/- Texts of this seat, joined. -/
import Derived.Test.YtdmlejfopmimfaaGreatDoorQ11
import Derived.Test.YtdmlejfopmimfaaGreatDoorQ16
namespace Go.Proofs.YtdmlejfopmimfaaGreatDoor
open Go.RowKit
set_option linter.unusedVariables false

theorem Turn.putC {b : Nat} {w x : World} (t : Turn b w x) {p : Addr} (hp : w.heap.size ≤ p.block) (u : Value) : Turn b w (x.setCell p u) :=
  ⟨t.os, t.tape, t.output, by have := t.size; simpa [World.setCell] using this, fun k hk hb => by rw [Below.heap_setCell x p u k (by omega)]; exact t.block k hk hb⟩
theorem Turn.push {b : Nat} {w x : World} (t : Turn b w x) (o : Obj) : Turn b w (x.alloc o) := t.trans (Turn.alloc b x o)
theorem Src.putC {w : World} {b k : Nat} {a : Option Addr} {len cap : Nat} {zs : List Int} (s : Src w b k a len cap zs) {p : Addr} (hp : b < p.block) (u : Value) : Src (w.setCell p u) b k a len cap zs := by
  have hb : ∀ q : Addr, q.block ≤ b → (w.setCell p u).cell? q = w.cell? q := fun q hq => World.cell?_of_block (w := w) (Below.heap_setCell w p u q.block (by omega))
  refine ⟨by rw [hb _ (Nat.le_refl _)]; exact s.code, by rw [hb _ (Nat.le_refl _)]; exact s.count, ?_, ?_, s.away, by have := s.here; simpa [World.setCell] using this⟩
  · rw [World.frozen?_setCell]; exact s.free
  · rcases s.row with h | ⟨x, rfl, h1, h2, h3, h4, h5⟩
    · exact .inl h
    · refine .inr ⟨x, rfl, h1, h2, h3, fun i hi => ?_, h5⟩
      have hx := s.away x rfl (by omega)
      rw [hb _ (by rw [src_block]; omega)]
      exact h4 i hi
theorem Src.stay {w w' : World} {b k : Nat} {a : Option Addr} {len cap : Nat} {zs : List Int} (s : Src w b k a len cap zs) (h : Below w.heap.size w w') : Src w' b k a len cap zs := s.turn (c := w.heap.size) (Turn.of_below h) (Nat.le_refl _)

def small (v : Int) : Prop := -100000 ≤ v ∧ v ≤ 100000

theorem ins_class {o : Int} (h : 1 ≤ o ∧ o ≤ 26) :
    ((bareD o = false ∧ bareA o = false ∧ bareI o = false) ∧ o ≤ 11 ∧ (o == 21) = false ∧ (o == 22) = false) ∨
    ((bareD o = false ∧ bareA o = false ∧ bareI o = false) ∧ ¬ o ≤ 11 ∧ (o == 21) = false ∧ (o == 22) = false) ∨
    ((bareD o = false ∧ bareA o = true ∧ bareI o = false) ∧ ¬ o ≤ 11 ∧ (o == 21) = false ∧ (o == 22) = false) ∨
    ((bareD o = false ∧ bareA o = true ∧ bareI o = false) ∧ o = 21) ∨
    ((bareD o = true ∧ bareA o = false ∧ bareI o = false) ∧ o = 22) ∨
    ((bareD o = true ∧ bareA o = true ∧ bareI o = true) ∧ ¬ o ≤ 11 ∧ (o == 21) = false ∧ (o == 22) = false) := by
  simp only [bareD, bareA, bareI, decide_eq_true_eq, decide_eq_false_iff_not, beq_eq_false_iff_ne]
  omega

set_option maxHeartbeats 4000000 in
theorem ins_any {w : World} {b k : Nat} {a : Option Addr} {len cap : Nat} {zs : List Int} (s : Src w b k a len cap zs) (hk : k ≤ 50000) :
    Calls Tryz.prog 43 #[.pointer (some ⟨b, 0, none⟩)] w fun e w' => ∃ o d x i : Int, e = .returned (.agg #[.int .i64 o, .int .i64 d, .int .i64 x, .int .i64 i]) ∧ small o ∧ small d ∧ small x ∧ small i ∧ Turn b w w' ∧ Src w' b (k + 7) a len cap zs := by
  have HH : Hid (b < w.heap.size) := s.here
  have s0 := s.alloc (.cells #[.int .i64 0, .int .i64 0, .int .i64 0, .int .i64 0] 72)
  have T0 : Turn b w (w.alloc (.cells #[.int .i64 0, .int .i64 0, .int .i64 0, .int .i64 0] 72)) := Turn.alloc b w _
  have K0 : Hid ((w.alloc (.cells #[.int .i64 0, .int .i64 0, .int .i64 0, .int .i64 0] 72)).heap[w.heap.size]? = some (.cells #[.int .i64 0, .int .i64 0, .int .i64 0, .int .i64 0] 72 (0, 0))) := by
    show (w.heap.push _)[w.heap.size]? = _
    rw [Array.getElem?_push, if_pos rfl]
  go_enter Tryz.func43, Tryz.ntmps43
  go_wp2_with fail
  refine (next_any s0 (by omega) _).mono ?_
  rintro e w1 ⟨v1, rfl, h1, -, t1, s1⟩
  obtain ⟨l1, u1⟩ := h1 (by omega)
  clear h1
  go_wp2_with fail
  refine (next_any s1 (by omega) _).mono ?_
  rintro e w2 ⟨v2, rfl, h2, -, t2, s2⟩
  obtain ⟨l2, u2⟩ := h2 (by omega)
  clear h2
  go_wp2_with fail
  refine (next_any s2 (by omega) _).mono ?_
  rintro e w3 ⟨v3, rfl, h3, -, t3, s3⟩
  obtain ⟨l3, u3⟩ := h3 (by omega)
  clear h3
  go_wp2_with fail
  refine (next_any s3 (by omega) _).mono ?_
  rintro e w4 ⟨v4, rfl, h4, -, t4, s4⟩
  obtain ⟨l4, u4⟩ := h4 (by omega)
  clear h4
  go_wp2_with fail
  refine (next_any s4 (by omega) _).mono ?_
  rintro e w5 ⟨v5, rfl, h5, -, t5, s5⟩
  obtain ⟨l5, u5⟩ := h5 (by omega)
  clear h5
  go_wp2_with fail
  refine (next_any s5 (by omega) _).mono ?_
  rintro e w6 ⟨v6, rfl, h6, -, t6, s6⟩
  obtain ⟨l6, u6⟩ := h6 (by omega)
  clear h6
  go_wp2_with fail
  have hb := s6.here
  refine (pick_any (s6.alloc _) (by omega) (fun v => 0 ≤ v ∧ v ≤ 65535) _ 3 (by omega) (by omega) (by simp) (by omega) ?_).mono ?_
  · intro i hi
    have : i = 0 ∨ i = 1 ∨ i = 2 := by omega
    rcases this with rfl | rfl | rfl
    all_goals exact ⟨_, cell_new rfl, by omega⟩
  rintro e w7 ⟨v7, rfl, h7, t7, s7⟩
  obtain ⟨l7, u7⟩ := h7
  have TT := ((((((t1.trans t2).trans t3).trans t4).trans t5).trans t6).trans (Turn.alloc b w6 _)).trans t7
  have T7 : Hid (Turn b w w7) := T0.trans TT
  have S7 : Hid (Src w7 b (k + 7) a len cap zs) := s7
  have K7 : w7.heap[w.heap.size]? = some (.cells #[.int .i64 0, .int .i64 0, .int .i64 0, .int .i64 0] 72 (0, 0)) := by
    rw [TT.block w.heap.size (by simp) (by have := HH.out; omega)]
    exact K0.out
  have k0 : w7.cell? ⟨w.heap.size, 0, none⟩ = some (.int .i64 0) := by simp [World.cell?, K7]
  have k1 : w7.cell? ⟨w.heap.size, 1, none⟩ = some (.int .i64 0) := by simp [World.cell?, K7]
  have k2 : w7.cell? ⟨w.heap.size, 2, none⟩ = some (.int .i64 0) := by simp [World.cell?, K7]
  have k3 : w7.cell? ⟨w.heap.size, 3, none⟩ = some (.int .i64 0) := by simp [World.cell?, K7]
  have f0 : w7.frozen? ⟨w.heap.size, 0, none⟩ = false := by simp [World.frozen?, K7]
  have f1 : w7.frozen? ⟨w.heap.size, 1, none⟩ = false := by simp [World.frozen?, K7]
  have f2 : w7.frozen? ⟨w.heap.size, 2, none⟩ = false := by simp [World.frozen?, K7]
  have f3 : w7.frozen? ⟨w.heap.size, 3, none⟩ = false := by simp [World.frozen?, K7]
  have sz : w.heap.size < w7.heap.size := block_of_cell k0
  clear t1 t2 t3 t4 t5 t6 t7 s1 s2 s3 s4 s5 s6 s7 s0 T0 K0 TT K7 hb l4 u4 l5 u5 l6 u6
  have hcl := ins_class (o := 1 + v1) (by omega)
  have fb := fun w => spec_bare (1 + v1) w (by omega)
  have ho : 1 + v1 ≤ 26 := by omega
  have ho1 : 1 ≤ 1 + v1 := by omega
  clear l1 u1
  generalize 1 + v1 = o at *
  rcases hcl with ⟨⟨e1, e2, e3⟩, g1, g2, g3⟩ | ⟨⟨e1, e2, e3⟩, g1, g2, g3⟩ | ⟨⟨e1, e2, e3⟩, g1, g2, g3⟩ | ⟨⟨e1, e2, e3⟩, rfl⟩ | ⟨⟨e1, e2, e3⟩, rfl⟩ | ⟨⟨e1, e2, e3⟩, g1, g2, g3⟩
  all_goals rw [e1, e2, e3] at fb
  all_goals clear e1 e2 e3
  all_goals go_wp2_with (go_at_call 59; refine (fb _).mono ?_; rintro e x ⟨rfl, rfl⟩)
  · exact bodyPost_ret (v := .agg #[.int .i64 o, .int .i64 v2, .int .i64 v3, .int .i64 (v7 % 16)]) (by simp [results, Tryz.results43, go_sem, k0, k1, k2, k3, sz]) rfl ⟨_, _, _, _, rfl, by unfold small; omega, by unfold small; omega, by unfold small; omega, by unfold small; omega, ((((T7.out.putC (p := ⟨w.heap.size, 0, none⟩) (Nat.le_refl _) _).putC (p := ⟨w.heap.size, 1, none⟩) (Nat.le_refl _) _).putC (p := ⟨w.heap.size, 2, none⟩) (Nat.le_refl _) _).putC (p := ⟨w.heap.size, 3, none⟩) (Nat.le_refl _) _).push _, ((((S7.out.putC (p := ⟨w.heap.size, 0, none⟩) HH.out _).putC (p := ⟨w.heap.size, 1, none⟩) HH.out _).putC (p := ⟨w.heap.size, 2, none⟩) HH.out _).putC (p := ⟨w.heap.size, 3, none⟩) HH.out _).alloc _⟩
  · exact bodyPost_ret (v := .agg #[.int .i64 o, .int .i64 v2, .int .i64 v3, .int .i64 v7]) (by simp [results, Tryz.results43, go_sem, k0, k1, k2, k3, sz]) rfl ⟨_, _, _, _, rfl, by unfold small; omega, by unfold small; omega, by unfold small; omega, by unfold small; omega, ((((T7.out.putC (p := ⟨w.heap.size, 0, none⟩) (Nat.le_refl _) _).putC (p := ⟨w.heap.size, 1, none⟩) (Nat.le_refl _) _).putC (p := ⟨w.heap.size, 2, none⟩) (Nat.le_refl _) _).putC (p := ⟨w.heap.size, 3, none⟩) (Nat.le_refl _) _).push _, ((((S7.out.putC (p := ⟨w.heap.size, 0, none⟩) HH.out _).putC (p := ⟨w.heap.size, 1, none⟩) HH.out _).putC (p := ⟨w.heap.size, 2, none⟩) HH.out _).putC (p := ⟨w.heap.size, 3, none⟩) HH.out _).alloc _⟩
  · exact bodyPost_ret (v := .agg #[.int .i64 o, .int .i64 v2, .int .i64 0, .int .i64 v7]) (by simp [results, Tryz.results43, go_sem, k0, k1, k2, k3, sz]) rfl ⟨_, _, _, _, rfl, by unfold small; omega, by unfold small; omega, by unfold small; omega, by unfold small; omega, ((((T7.out.putC (p := ⟨w.heap.size, 0, none⟩) (Nat.le_refl _) _).putC (p := ⟨w.heap.size, 1, none⟩) (Nat.le_refl _) _).putC (p := ⟨w.heap.size, 2, none⟩) (Nat.le_refl _) _).putC (p := ⟨w.heap.size, 3, none⟩) (Nat.le_refl _) _).push _, ((((S7.out.putC (p := ⟨w.heap.size, 0, none⟩) HH.out _).putC (p := ⟨w.heap.size, 1, none⟩) HH.out _).putC (p := ⟨w.heap.size, 2, none⟩) HH.out _).putC (p := ⟨w.heap.size, 3, none⟩) HH.out _).alloc _⟩
  · exact bodyPost_ret (v := .agg #[.int .i64 21, .int .i64 v2, .int .i64 0, .int .i64 (v7 % 11)]) (by simp [results, Tryz.results43, go_sem, k0, k1, k2, k3, sz]) rfl ⟨_, _, _, _, rfl, by unfold small; omega, by unfold small; omega, by unfold small; omega, by unfold small; omega, ((((T7.out.putC (p := ⟨w.heap.size, 0, none⟩) (Nat.le_refl _) _).putC (p := ⟨w.heap.size, 1, none⟩) (Nat.le_refl _) _).putC (p := ⟨w.heap.size, 2, none⟩) (Nat.le_refl _) _).putC (p := ⟨w.heap.size, 3, none⟩) (Nat.le_refl _) _).push _, ((((S7.out.putC (p := ⟨w.heap.size, 0, none⟩) HH.out _).putC (p := ⟨w.heap.size, 1, none⟩) HH.out _).putC (p := ⟨w.heap.size, 2, none⟩) HH.out _).putC (p := ⟨w.heap.size, 3, none⟩) HH.out _).alloc _⟩
  · exact bodyPost_ret (v := .agg #[.int .i64 22, .int .i64 0, .int .i64 v3, .int .i64 (v7 % 11)]) (by simp [results, Tryz.results43, go_sem, k0, k1, k2, k3, sz]) rfl ⟨_, _, _, _, rfl, by unfold small; omega, by unfold small; omega, by unfold small; omega, by unfold small; omega, ((((T7.out.putC (p := ⟨w.heap.size, 0, none⟩) (Nat.le_refl _) _).putC (p := ⟨w.heap.size, 1, none⟩) (Nat.le_refl _) _).putC (p := ⟨w.heap.size, 2, none⟩) (Nat.le_refl _) _).putC (p := ⟨w.heap.size, 3, none⟩) (Nat.le_refl _) _).push _, ((((S7.out.putC (p := ⟨w.heap.size, 0, none⟩) HH.out _).putC (p := ⟨w.heap.size, 1, none⟩) HH.out _).putC (p := ⟨w.heap.size, 2, none⟩) HH.out _).putC (p := ⟨w.heap.size, 3, none⟩) HH.out _).alloc _⟩
  · exact bodyPost_ret (v := .agg #[.int .i64 o, .int .i64 0, .int .i64 0, .int .i64 0]) (by simp [results, Tryz.results43, go_sem, k0, k1, k2, k3, sz]) rfl ⟨_, _, _, _, rfl, by unfold small; omega, by unfold small; omega, by unfold small; omega, by unfold small; omega, ((((T7.out.putC (p := ⟨w.heap.size, 0, none⟩) (Nat.le_refl _) _).putC (p := ⟨w.heap.size, 1, none⟩) (Nat.le_refl _) _).putC (p := ⟨w.heap.size, 2, none⟩) (Nat.le_refl _) _).putC (p := ⟨w.heap.size, 3, none⟩) (Nat.le_refl _) _).push _, ((((S7.out.putC (p := ⟨w.heap.size, 0, none⟩) HH.out _).putC (p := ⟨w.heap.size, 1, none⟩) HH.out _).putC (p := ⟨w.heap.size, 2, none⟩) HH.out _).putC (p := ⟨w.heap.size, 3, none⟩) HH.out _).alloc _⟩
end Go.Proofs.YtdmlejfopmimfaaGreatDoor
