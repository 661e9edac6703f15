/- Texts of this seat, joined. -/
import Derived.Test.YtcdbhhhihhdghaaGreatDoorQ19
namespace Go.Proofs.YtcdbhhhihhdghaaGreatDoor
open Go.RowKit
set_option linter.unusedVariables false

/-- What a cell holds that is marked with k: the number, or (a truth) whether three divides it. -/
def mkV (b : Bool) (k : Int) : Value := if b then .bool (k % 3 == 0) else .int .i64 k
/-- From w to w' the cells of L have got the marks from k on, each its own, and nothing else has turned. -/
structure Mx (L : List (Addr × Bool)) (k : Int) (w w' : World) : Prop where
  os : w'.os = w.os
  tape : w'.tape = w.tape
  output : w'.output = w.output
  size : w.heap.size ≤ w'.heap.size
  block : ∀ g, g < w.heap.size → (∀ x ∈ L, x.1.block ≠ g) → w'.heap[g]? = w.heap[g]?
  out : ∀ p v, w.cell? p = some v → (∀ x ∈ L, x.1 ≠ p) → w'.cell? p = some v
  at' : ∀ (i : Nat) (x : Addr × Bool), L[i]? = some x → w'.cell? x.1 = some (mkV x.2 (k + i))
  free : ∀ p, p.block < w.heap.size → w'.frozen? p = w.frozen? p
/-- The cells of L hold the marks from k on. -/
def Hx (L : List (Addr × Bool)) (k : Int) (w : World) : Prop := ∀ (i : Nat) (x : Addr × Bool), L[i]? = some x → w.cell? x.1 = some (mkV x.2 (k + i))
theorem Mx.hx {L : List (Addr × Bool)} {k : Int} {w w' : World} (m : Mx L k w w') : Hx L k w' := m.at'
theorem Mx.refl (k : Int) (w : World) : Mx [] k w w :=
  ⟨rfl, rfl, rfl, Nat.le_refl _, fun _ _ _ => rfl, fun _ _ h _ => h, fun i x h => by simp at h, fun _ _ => rfl⟩
theorem Mx.trans {L M : List (Addr × Bool)} {k : Int} {a b c : World} (h : Mx L k a b) (m : Mx M (k + L.length) b c) (d : ∀ x ∈ L, ∀ y ∈ M, x.1 ≠ y.1) : Mx (L ++ M) k a c := by
  refine ⟨m.os.trans h.os, m.tape.trans h.tape, m.output.trans h.output, Nat.le_trans h.size m.size, fun g hg hn => ?_, fun p v e hn => ?_, fun i x e => ?_, fun p hp => (m.free p (Nat.lt_of_lt_of_le hp h.size)).trans (h.free p hp)⟩
  · exact (m.block g (Nat.lt_of_lt_of_le hg h.size) fun x hx => hn x (List.mem_append_right _ hx)).trans (h.block g hg fun x hx => hn x (List.mem_append_left _ hx))
  · exact m.out p v (h.out p v e fun x hx => hn x (List.mem_append_left _ hx)) fun x hx => hn x (List.mem_append_right _ hx)
  · by_cases hi : i < L.length
    · rw [List.getElem?_append_left hi] at e
      have hm := List.mem_of_getElem? e
      exact m.out _ _ (h.at' i x e) fun y hy e2 => d x hm y hy e2.symm
    · rw [List.getElem?_append_right (by omega)] at e
      have := m.at' _ x e
      rw [show k + (L.length : Int) + ((i - L.length : Nat) : Int) = k + i by omega] at this
      exact this
theorem Mx.alloc {L : List (Addr × Bool)} {k : Int} {a w : World} (h : Mx L k a w) (o : Obj) : Mx L k a (w.alloc o) :=
  ⟨h.os, h.tape, h.output, Nat.le_trans h.size (by simp), fun g hg hn => (Below.heap_alloc _ _ _ (Nat.lt_of_lt_of_le hg h.size)).trans (h.block g hg hn), fun p v e hn => cell_push o (h.out p v e hn), fun i x e => cell_push o (h.at' i x e),
   fun p hp => (World.frozen?_alloc_old _ _ p (Nat.ne_of_lt (Nat.lt_of_lt_of_le hp h.size))).trans (h.free p hp)⟩
theorem Mx.one {k : Int} {w : World} {p : Addr} {v : Value} (b : Bool) (hc : w.cell? p = some v) : Mx [(p, b)] k w (w.setCell p (mkV b k)) := by
  refine ⟨rfl, rfl, rfl, by simp [World.setCell], fun g hg hn => Below.heap_setCell _ _ _ _ ?_, fun q u e hn => ?_, fun i x e => ?_, fun q _ => World.frozen?_setCell ..⟩
  · have := hn (p, b) (by simp); exact fun e => this e.symm
  · have := hn (p, b) (by simp)
    rw [World.cell?_setCell_other _ _ _ _ this]; exact e
  · match i, e with
    | 0, e => cases e; simp; exact World.cell?_setCell_same _ _ _ hc
/-- The first n cells of a block. -/
def cN (g n : Nat) : List (Addr × Bool) := (List.range n).map fun j => (⟨g, j, none⟩, false)
theorem cN_len (g n : Nat) : (cN g n).length = n := by simp [cN]
theorem cN_succ (g n : Nat) : cN g (n + 1) = cN g n ++ [(⟨g, n, none⟩, false)] := by simp [cN, List.range_succ]
theorem cN_block {g n : Nat} {x : Addr × Bool} (h : x ∈ cN g n) : x.1.block = g := by
  simp only [cN, List.mem_map] at h; obtain ⟨j, _, rfl⟩ := h; rfl
theorem cN_ne {g n m : Nat} (hm : n ≤ m) : ∀ x ∈ cN g n, x.1 ≠ ⟨g, m, none⟩ := by
  intro x h e
  simp only [cN, List.mem_map, List.mem_range] at h; obtain ⟨j, hj, rfl⟩ := h
  simp at e; omega
theorem cN_get {g n i : Nat} (h : i < n) : (cN g n)[i]? = some (⟨g, i, none⟩, false) := by simp [cN, h]
theorem Hx.num {g n i : Nat} {k : Int} {w : World} (h : Hx (cN g n) k w) (hi : i < n) : w.cell? ⟨g, i, none⟩ = some (.int .i64 (k + i)) := h i _ (cN_get hi)
/-- One cell more. -/
theorem Mx.add {g m : Nat} {k z : Int} {w wr : World} {v : Value} (M : Mx (cN g m) k w wr) (hc : w.cell? ⟨g, m, none⟩ = some v) (hz : z = k + m) : Mx (cN g (m + 1)) k w (wr.setCell ⟨g, m, none⟩ (.int .i64 z)) := by
  rw [cN_succ]
  have hc' := M.out _ _ hc (cN_ne (Nat.le_refl m))
  refine M.trans ?_ (fun x hx y hy => ?_)
  · rw [cN_len, hz]; exact Mx.one false hc'
  · simp only [List.mem_singleton] at hy; subst hy; exact cN_ne (Nat.le_refl m) x hx
/-- A slice of numbers, or of structs of sz numbers, that may be marked: its block is g. -/
def Mg (w : World) (g sz : Nat) (a : Option Addr) (n : Nat) : Prop := 0 < n → a = some ⟨g, 0, none⟩ ∧ ∀ i, i < n * sz → (∃ z, w.cell? ⟨g, i, none⟩ = some (.int .i64 z)) ∧ w.frozen? ⟨g, i, none⟩ = false
theorem Mg.mx {w w' : World} {g sz n : Nat} {a : Option Addr} {L : List (Addr × Bool)} {k : Int} (h : Mg w g sz a n) (m : Mx L k w w') (hn' : 0 < n → ∀ x ∈ L, x.1.block ≠ g) : Mg w' g sz a n := by
  intro h0
  have hn := hn' h0
  obtain ⟨e, h3⟩ := h h0
  refine ⟨e, fun i hi => ?_⟩
  obtain ⟨⟨z, hz⟩, hf⟩ := h3 i hi
  exact ⟨⟨z, m.out _ _ hz fun x hx e2 => hn x hx (by rw [e2])⟩, by rw [m.free _ (block_of_cell hz)]; exact hf⟩

set_option maxHeartbeats 1000000 in
theorem mx_nums (a : Option Addr) (n c g : Nat) (k : Int) (w : World) (h : Mg w g 1 a n) (hk : 0 ≤ k) (hz : k + n ≤ 4611686018427387904) :
    Calls Tryz.prog 71 #[.slice a n c, .int .i64 k] w fun e w' => e = .returned (.int .i64 (k + n)) ∧ Mx (cN g n) k w w' := by
  have HZ : Hid (Mg w g 1 a n) := h
  clear h
  go_enter Tryz.func71, Tryz.ntmps71
  go_wp2_with fail
  go_loopw [1, 5] (fun q i wr => ∃ j : Nat, j ≤ n ∧ i = .int .i64 j ∧ q = .int .i64 (k + j) ∧ Mx (cN g j) k w wr) (fun _ i _ => n - (intOf i).toNat)
  case atStart => exact ⟨0, Nat.zero_le _, rfl, by simp, Mx.refl _ _⟩
  case round =>
    obtain ⟨j, hj, rfl, rfl, hM⟩ := hrel
    have M0 : Hid (Mx (cN g j) k w wr) := hM
    by_cases hlt : j < n
    · obtain ⟨rfl, h3⟩ := HZ.out (by omega)
      obtain ⟨⟨z, c1⟩, f1'⟩ := h3 j (by omega)
      have D1 : Hid (w.cell? ⟨g, j, none⟩ = some (.int .i64 z)) := c1
      have d1 : wr.cell? ⟨g, j, none⟩ = some (.int .i64 z) := hM.out _ _ c1 (cN_ne (Nat.le_refl j))
      have f1 : wr.frozen? ⟨g, j, none⟩ = false := by rw [hM.free _ (block_of_cell c1)]; exact f1'
      have hI : (j : Int) < (n : Int) := by omega
      have HL : Hid (j < n) := hlt
      clear hM hlt h3 c1 f1'
      go_wp2_with fail
      go_roundw
      case rel => exact ⟨j + 1, by have := HL.out; omega, by go_num, by go_num, M0.out.add D1.out rfl⟩
      case measure => have := HL.out; simp [intOf]; omega
    · have hI : ¬ (j : Int) < (n : Int) := by omega
      obtain rfl : j = n := by omega
      clear hM
      go_wp2_with fail
      go_ret
      exact ⟨rfl, M0.out⟩

set_option maxHeartbeats 2000000 in
theorem mx_lanes (a : Option Addr) (n c g : Nat) (k : Int) (w : World) (h : Mg w g 5 a n) (hk : 0 ≤ k) (hz : k + (5 * n : Nat) ≤ 4611686018427387904) :
    Calls Tryz.prog 39 #[.slice a n c, .int .i64 k] w fun e w' => e = .returned (.int .i64 (k + (5 * n : Nat))) ∧ Mx (cN g (n * 5)) k w w' := by
  have HZ : Hid (Mg w g 5 a n) := h
  clear h
  go_enter Tryz.func39, Tryz.ntmps39
  go_wp2_with fail
  go_loopw [1, 5] (fun q i wr => ∃ j : Nat, j ≤ n ∧ i = .int .i64 j ∧ q = .int .i64 (k + (5 * j : Nat)) ∧ Mx (cN g (j * 5)) k w wr) (fun _ i _ => n - (intOf i).toNat)
  case atStart => exact ⟨0, Nat.zero_le _, rfl, by simp, by rw [Nat.zero_mul]; exact Mx.refl _ _⟩
  case round =>
    obtain ⟨j, hj, rfl, rfl, hM⟩ := hrel
    have M0 : Hid (Mx (cN g (j * 5)) k w wr) := hM
    by_cases hlt : j < n
    · obtain ⟨rfl, h3⟩ := HZ.out (by omega)
      obtain ⟨⟨z0, c0⟩, e0⟩ := h3 (j * 5) (by omega)
      obtain ⟨⟨z1, c1⟩, e1⟩ := h3 (j * 5 + 1) (by omega)
      obtain ⟨⟨z2, c2⟩, e2⟩ := h3 (j * 5 + 2) (by omega)
      obtain ⟨⟨z3, c3⟩, e3⟩ := h3 (j * 5 + 3) (by omega)
      obtain ⟨⟨z4, c4⟩, e4⟩ := h3 (j * 5 + 4) (by omega)
      have D0 : Hid (w.cell? ⟨g, j * 5, none⟩ = some (.int .i64 z0)) := c0
      have d0 : wr.cell? ⟨g, j * 5, none⟩ = some (.int .i64 z0) := hM.out _ _ c0 (cN_ne (by omega))
      have f0 : wr.frozen? ⟨g, j * 5, none⟩ = false := by rw [hM.free _ (block_of_cell c0)]; exact e0
      have D1 : Hid (w.cell? ⟨g, j * 5 + 1, none⟩ = some (.int .i64 z1)) := c1
      have d1 : wr.cell? ⟨g, j * 5 + 1, none⟩ = some (.int .i64 z1) := hM.out _ _ c1 (cN_ne (by omega))
      have f1 : wr.frozen? ⟨g, j * 5 + 1, none⟩ = false := by rw [hM.free _ (block_of_cell c1)]; exact e1
      have D2 : Hid (w.cell? ⟨g, j * 5 + 2, none⟩ = some (.int .i64 z2)) := c2
      have d2 : wr.cell? ⟨g, j * 5 + 2, none⟩ = some (.int .i64 z2) := hM.out _ _ c2 (cN_ne (by omega))
      have f2 : wr.frozen? ⟨g, j * 5 + 2, none⟩ = false := by rw [hM.free _ (block_of_cell c2)]; exact e2
      have D3 : Hid (w.cell? ⟨g, j * 5 + 3, none⟩ = some (.int .i64 z3)) := c3
      have d3 : wr.cell? ⟨g, j * 5 + 3, none⟩ = some (.int .i64 z3) := hM.out _ _ c3 (cN_ne (by omega))
      have f3 : wr.frozen? ⟨g, j * 5 + 3, none⟩ = false := by rw [hM.free _ (block_of_cell c3)]; exact e3
      have D4 : Hid (w.cell? ⟨g, j * 5 + 4, none⟩ = some (.int .i64 z4)) := c4
      have d4 : wr.cell? ⟨g, j * 5 + 4, none⟩ = some (.int .i64 z4) := hM.out _ _ c4 (cN_ne (by omega))
      have f4 : wr.frozen? ⟨g, j * 5 + 4, none⟩ = false := by rw [hM.free _ (block_of_cell c4)]; exact e4
      have hI : (j : Int) < (n : Int) := by omega
      have HL : Hid (j < n) := hlt
      have HK2 : Hid (k + ((5 * j : Nat) : Int) + 1 + 1 + 1 + 1 + 1 = k + ((5 * (j + 1) : Nat) : Int)) := by show _ = _; omega
      have HK3 : Hid (k + ((5 * j : Nat) : Int) = k + ((j * 5 : Nat) : Int)) := by show _ = _; omega
      have hb0 : 0 ≤ k + ((5 * j : Nat) : Int) := by omega
      have hb1 : k + ((5 * j : Nat) : Int) ≤ 4611686018427387904 := by omega
      generalize k + ((5 * j : Nat) : Int) = kk at *
      clear hM hlt h3 c0 e0 c1 e1 c2 e2 c3 e3 c4 e4
      go_wp2_with fail
      go_roundw
      case rel =>
        refine ⟨j + 1, by have := HL.out; omega, by go_num, by rw [← HK2.out], ?_⟩
        have ek := HK3.out
        rw [show (j + 1) * 5 = j * 5 + 1 + 1 + 1 + 1 + 1 by omega]
        have m0 := M0.out.add (z := kk) D0.out (by omega)
        have m1 := m0.add (z := kk + 1) D1.out (by omega)
        have m2 := m1.add (z := kk + 1 + 1) D2.out (by omega)
        have m3 := m2.add (z := kk + 1 + 1 + 1) D3.out (by omega)
        have m4 := m3.add (z := kk + 1 + 1 + 1 + 1) D4.out (by omega)
        exact m4
      case measure => have := HL.out; simp [intOf]; omega
    · have hI : ¬ (j : Int) < (n : Int) := by omega
      obtain rfl : j = n := by omega
      clear hM
      go_wp2_with fail
      go_ret
      exact ⟨rfl, M0.out⟩

set_option maxHeartbeats 2000000 in
theorem mx_bells (a : Option Addr) (n c g : Nat) (k : Int) (w : World) (h : Mg w g 2 a n) (hk : 0 ≤ k) (hz : k + (2 * n : Nat) ≤ 4611686018427387904) :
    Calls Tryz.prog 40 #[.slice a n c, .int .i64 k] w fun e w' => e = .returned (.int .i64 (k + (2 * n : Nat))) ∧ Mx (cN g (n * 2)) k w w' := by
  have HZ : Hid (Mg w g 2 a n) := h
  clear h
  go_enter Tryz.func40, Tryz.ntmps40
  go_wp2_with fail
  go_loopw [1, 5] (fun q i wr => ∃ j : Nat, j ≤ n ∧ i = .int .i64 j ∧ q = .int .i64 (k + (2 * j : Nat)) ∧ Mx (cN g (j * 2)) k w wr) (fun _ i _ => n - (intOf i).toNat)
  case atStart => exact ⟨0, Nat.zero_le _, rfl, by simp, by rw [Nat.zero_mul]; exact Mx.refl _ _⟩
  case round =>
    obtain ⟨j, hj, rfl, rfl, hM⟩ := hrel
    have M0 : Hid (Mx (cN g (j * 2)) k w wr) := hM
    by_cases hlt : j < n
    · obtain ⟨rfl, h3⟩ := HZ.out (by omega)
      obtain ⟨⟨z0, c0⟩, e0⟩ := h3 (j * 2) (by omega)
      obtain ⟨⟨z1, c1⟩, e1⟩ := h3 (j * 2 + 1) (by omega)
      have D0 : Hid (w.cell? ⟨g, j * 2, none⟩ = some (.int .i64 z0)) := c0
      have d0 : wr.cell? ⟨g, j * 2, none⟩ = some (.int .i64 z0) := hM.out _ _ c0 (cN_ne (by omega))
      have f0 : wr.frozen? ⟨g, j * 2, none⟩ = false := by rw [hM.free _ (block_of_cell c0)]; exact e0
      have D1 : Hid (w.cell? ⟨g, j * 2 + 1, none⟩ = some (.int .i64 z1)) := c1
      have d1 : wr.cell? ⟨g, j * 2 + 1, none⟩ = some (.int .i64 z1) := hM.out _ _ c1 (cN_ne (by omega))
      have f1 : wr.frozen? ⟨g, j * 2 + 1, none⟩ = false := by rw [hM.free _ (block_of_cell c1)]; exact e1
      have hI : (j : Int) < (n : Int) := by omega
      have HL : Hid (j < n) := hlt
      have HK2 : Hid (k + ((2 * j : Nat) : Int) + 1 + 1 = k + ((2 * (j + 1) : Nat) : Int)) := by show _ = _; omega
      have HK3 : Hid (k + ((2 * j : Nat) : Int) = k + ((j * 2 : Nat) : Int)) := by show _ = _; omega
      have hb0 : 0 ≤ k + ((2 * j : Nat) : Int) := by omega
      have hb1 : k + ((2 * j : Nat) : Int) ≤ 4611686018427387904 := by omega
      generalize k + ((2 * j : Nat) : Int) = kk at *
      clear hM hlt h3 c0 e0 c1 e1
      go_wp2_with fail
      go_roundw
      case rel =>
        refine ⟨j + 1, by have := HL.out; omega, by go_num, by rw [← HK2.out], ?_⟩
        have ek := HK3.out
        rw [show (j + 1) * 2 = j * 2 + 1 + 1 by omega]
        have m0 := M0.out.add (z := kk) D0.out (by omega)
        have m1 := m0.add (z := kk + 1) D1.out (by omega)
        exact m1
      case measure => have := HL.out; simp [intOf]; omega
    · have hI : ¬ (j : Int) < (n : Int) := by omega
      obtain rfl : j = n := by omega
      clear hM
      go_wp2_with fail
      go_ret
      exact ⟨rfl, M0.out⟩

set_option maxHeartbeats 2000000 in
theorem mx_slots (a : Option Addr) (n c g : Nat) (k : Int) (w : World) (h : Mg w g 2 a n) (hk : 0 ≤ k) (hz : k + (2 * n : Nat) ≤ 4611686018427387904) :
    Calls Tryz.prog 41 #[.slice a n c, .int .i64 k] w fun e w' => e = .returned (.int .i64 (k + (2 * n : Nat))) ∧ Mx (cN g (n * 2)) k w w' := by
  have HZ : Hid (Mg w g 2 a n) := h
  clear h
  go_enter Tryz.func41, Tryz.ntmps41
  go_wp2_with fail
  go_loopw [1, 5] (fun q i wr => ∃ j : Nat, j ≤ n ∧ i = .int .i64 j ∧ q = .int .i64 (k + (2 * j : Nat)) ∧ Mx (cN g (j * 2)) k w wr) (fun _ i _ => n - (intOf i).toNat)
  case atStart => exact ⟨0, Nat.zero_le _, rfl, by simp, by rw [Nat.zero_mul]; exact Mx.refl _ _⟩
  case round =>
    obtain ⟨j, hj, rfl, rfl, hM⟩ := hrel
    have M0 : Hid (Mx (cN g (j * 2)) k w wr) := hM
    by_cases hlt : j < n
    · obtain ⟨rfl, h3⟩ := HZ.out (by omega)
      obtain ⟨⟨z0, c0⟩, e0⟩ := h3 (j * 2) (by omega)
      obtain ⟨⟨z1, c1⟩, e1⟩ := h3 (j * 2 + 1) (by omega)
      have D0 : Hid (w.cell? ⟨g, j * 2, none⟩ = some (.int .i64 z0)) := c0
      have d0 : wr.cell? ⟨g, j * 2, none⟩ = some (.int .i64 z0) := hM.out _ _ c0 (cN_ne (by omega))
      have f0 : wr.frozen? ⟨g, j * 2, none⟩ = false := by rw [hM.free _ (block_of_cell c0)]; exact e0
      have D1 : Hid (w.cell? ⟨g, j * 2 + 1, none⟩ = some (.int .i64 z1)) := c1
      have d1 : wr.cell? ⟨g, j * 2 + 1, none⟩ = some (.int .i64 z1) := hM.out _ _ c1 (cN_ne (by omega))
      have f1 : wr.frozen? ⟨g, j * 2 + 1, none⟩ = false := by rw [hM.free _ (block_of_cell c1)]; exact e1
      have hI : (j : Int) < (n : Int) := by omega
      have HL : Hid (j < n) := hlt
      have HK2 : Hid (k + ((2 * j : Nat) : Int) + 1 + 1 = k + ((2 * (j + 1) : Nat) : Int)) := by show _ = _; omega
      have HK3 : Hid (k + ((2 * j : Nat) : Int) = k + ((j * 2 : Nat) : Int)) := by show _ = _; omega
      have hb0 : 0 ≤ k + ((2 * j : Nat) : Int) := by omega
      have hb1 : k + ((2 * j : Nat) : Int) ≤ 4611686018427387904 := by omega
      generalize k + ((2 * j : Nat) : Int) = kk at *
      clear hM hlt h3 c0 e0 c1 e1
      go_wp2_with fail
      go_roundw
      case rel =>
        refine ⟨j + 1, by have := HL.out; omega, by go_num, by rw [← HK2.out], ?_⟩
        have ek := HK3.out
        rw [show (j + 1) * 2 = j * 2 + 1 + 1 by omega]
        have m0 := M0.out.add (z := kk) D0.out (by omega)
        have m1 := m0.add (z := kk + 1) D1.out (by omega)
        exact m1
      case measure => have := HL.out; simp [intOf]; omega
    · have hI : ¬ (j : Int) < (n : Int) := by omega
      obtain rfl : j = n := by omega
      clear hM
      go_wp2_with fail
      go_ret
      exact ⟨rfl, M0.out⟩

end Go.Proofs.YtcdbhhhihhdghaaGreatDoor
