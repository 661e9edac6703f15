/- Texts of this seat, joined. -/
import Derived.Test.YtggejbphdadckaaGreatDoorQ13
namespace Go.Proofs.YtggejbphdadckaaGreatDoor
open Go.RowKit
set_option linter.unusedVariables false

/-- From w to w' numbers alone have turned, and only in the blocks from lo on below hi. -/
structure Mk (lo hi : Nat) (w w' : World) : Prop where
  os : w'.os = w.os
  tape : w'.tape = w.tape
  output : w'.output = w.output
  size : w.heap.size ≤ w'.heap.size
  block : ∀ k, k < w.heap.size → (k < lo ∨ hi ≤ k) → w'.heap[k]? = w.heap[k]?
  other : ∀ p v, w.cell? p = some v → (∀ z, v ≠ .int .i64 z) → w'.cell? p = some v
  num : ∀ p z, w.cell? p = some (.int .i64 z) → ∃ z', w'.cell? p = some (.int .i64 z')
  free : ∀ p, p.block < w.heap.size → w'.frozen? p = w.frozen? p
theorem Mk.refl (lo hi : Nat) (w : World) : Mk lo hi w w := ⟨rfl, rfl, rfl, Nat.le_refl _, fun _ _ _ => rfl, fun _ _ h _ => h, fun _ z h => ⟨z, h⟩, fun _ _ => rfl⟩
theorem Mk.trans {lo hi : Nat} {a b c : World} (h : Mk lo hi a b) (k : Mk lo hi b c) : Mk lo hi a c :=
  ⟨k.os.trans h.os, k.tape.trans h.tape, k.output.trans h.output, Nat.le_trans h.size k.size,
   fun i hi hn => (k.block i (Nat.lt_of_lt_of_le hi h.size) hn).trans (h.block i hi hn),
   fun p v e n => k.other p v (h.other p v e n) n,
   fun p z e => by obtain ⟨z', e'⟩ := h.num p z e; exact k.num p z' e',
   fun p hp => (k.free p (Nat.lt_of_lt_of_le hp h.size)).trans (h.free p hp)⟩
theorem Mk.alloc {lo hi : Nat} {a w : World} (h : Mk lo hi a w) (o : Obj) : Mk lo hi a (w.alloc o) :=
  h.trans ⟨rfl, rfl, rfl, by simp, fun k hk _ => Below.heap_alloc _ _ _ hk, fun p v e _ => cell_push o e, fun p z e => ⟨z, cell_push o e⟩, fun p hp => World.frozen?_alloc_old _ _ p (Nat.ne_of_lt hp)⟩
theorem Mk.set {lo hi : Nat} {a w : World} (h : Mk lo hi a w) {p : Addr} {z0 : Int} (hc : w.cell? p = some (.int .i64 z0)) (h1 : lo ≤ p.block) (h2 : p.block < hi) (z : Int) : Mk lo hi a (w.setCell p (.int .i64 z)) := by
  refine h.trans ⟨rfl, rfl, rfl, by simp [World.setCell], fun k hk hn => Below.heap_setCell _ _ _ _ (by omega), fun q v e n => ?_, fun q z' e => ?_, fun q _ => World.frozen?_setCell ..⟩
  · rw [World.cell?_setCell_other _ _ _ _ (fun e2 => by subst e2; rw [hc] at e; cases e; exact n _ rfl)]
    exact e
  · by_cases e2 : p = q
    · subst e2
      exact ⟨z, World.cell?_setCell_same _ _ _ hc⟩
    · rw [World.cell?_setCell_other _ _ _ _ e2]
      exact ⟨z', e⟩
theorem Mk.below {lo hi : Nat} {a w w' : World} (h : Below a.heap.size a w) (m : Mk lo hi w w') (hl : a.heap.size ≤ lo) : Below a.heap.size a w' :=
  ⟨m.os.trans h.os, m.tape.trans h.tape, m.output.trans h.output, Nat.le_trans h.size m.size,
   fun k hk => (m.block k (Nat.lt_of_lt_of_le hk h.size) (.inl (by omega))).trans (h.block k hk)⟩
theorem Mk.cell {lo hi : Nat} {w w' : World} (m : Mk lo hi w w') {p : Addr} {v : Value} (h : w.cell? p = some v) (hp : p.block < lo ∨ hi ≤ p.block) : w'.cell? p = some v := by
  have hb := block_of_cell h
  unfold World.cell? at *
  rw [m.block _ hb hp]
  exact h
theorem Mk.row {lo hi base e sz n : Nat} {v : Value} {w w' : World} {xs : List Value} (m : Mk lo hi w w') (h : w.ownsRow base e sz v n xs) (hp : ∀ k, v.ownBlock = some k → k < lo ∨ hi ≤ k) : w'.ownsRow base e sz v n xs := by
  obtain ⟨h1, h2 | ⟨g, cap, cur, hv, hg, hr, rest⟩⟩ := h
  · exact ⟨h1, .inl h2⟩
  · refine ⟨h1, .inr ⟨g, cap, cur, hv, hg, ?_, rest⟩⟩
    rw [m.block g ((Array.getElem?_eq_some_iff.1 hr).1) (hp g (by subst hv; rfl))]
    exact hr

/-- A slice of numbers, or of structs of sz numbers, that may be marked: its block lies from lo on below hi. -/
def Mb (w : World) (lo hi sz : Nat) (a : Option Addr) (n : Nat) : Prop := 0 < n → ∃ g, a = some ⟨g, 0, none⟩ ∧ lo ≤ g ∧ g < hi ∧ ∀ i, i < n * sz → (∃ z, w.cell? ⟨g, i, none⟩ = some (.int .i64 z)) ∧ w.frozen? ⟨g, i, none⟩ = false
theorem Mb.mk {w w' : World} {lo hi sz n : Nat} {a : Option Addr} (h : Mb w lo hi sz a n) (m : Mk lo hi w w') : Mb w' lo hi sz a n := by
  intro hn
  obtain ⟨g, e, h1, h2, h3⟩ := h hn
  refine ⟨g, e, h1, h2, fun i hi => ?_⟩
  obtain ⟨⟨z, hz⟩, hf⟩ := h3 i hi
  exact ⟨m.num _ _ hz, by rw [m.free _ (block_of_cell hz)]; exact hf⟩
theorem Mb.stay {w w' : World} {lo hi sz n : Nat} {a : Option Addr} (h : Mb w lo hi sz a n) (b : Below w.heap.size w w') : Mb w' lo hi sz a n := by
  intro hn
  obtain ⟨g, e, h1, h2, h3⟩ := h hn
  refine ⟨g, e, h1, h2, fun i hi => ?_⟩
  obtain ⟨⟨z, hz⟩, hf⟩ := h3 i hi
  exact ⟨⟨z, cell_keep b hz⟩, by rw [b.frozen (p := ⟨g, i, none⟩) (block_of_cell hz)]; exact hf⟩
theorem Mb.wide {w : World} {lo hi lo' hi' sz n : Nat} {a : Option Addr} (h : Mb w lo hi sz a n) (h1 : lo' ≤ lo) (h2 : hi ≤ hi') : Mb w lo' hi' sz a n := by
  intro hn
  obtain ⟨g, e, k1, k2, k3⟩ := h hn
  exact ⟨g, e, Nat.le_trans h1 k1, Nat.lt_of_lt_of_le k2 h2, k3⟩
theorem Nums.mb {w : World} {base n c : Nat} {a : Option Addr} {zs : List Int} (h : Nums w base (.slice a n c) zs) : Mb w base w.heap.size 1 a n := by
  intro hn
  obtain ⟨a', cap', hv, l1, l2, hg⟩ := h.shape
  have hl := h.len
  obtain ⟨g, e⟩ := hg (by omega)
  cases hv
  subst e
  have hb := h.lt g rfl
  exact ⟨g, rfl, hb.1, hb.2, fun i hi => ⟨⟨_, h.cell rfl i (by omega)⟩, h.free rfl i⟩⟩
theorem Prs.mb {e : TypeId} {w : World} {base n c : Nat} {a : Option Addr} {rs : List (Int × Int)} (h : Prs e w base (.slice a n c) rs) : Mb w base w.heap.size 2 a n := by
  intro hn
  obtain ⟨a', cap', hv, l1, l2, hg⟩ := h.shape
  cases hv
  obtain ⟨g, rfl⟩ := hg hn
  have hb := h.lt g rfl
  refine ⟨g, rfl, hb.1, hb.2, fun i hi => ⟨?_, h.free rfl i⟩⟩
  have hc := h.cell rfl (i / 2) (by omega)
  have : i = i / 2 * 2 ∨ i = i / 2 * 2 + 1 := by omega
  rcases this with e | e
  · rw [e]; exact ⟨_, hc.1⟩
  · rw [e]; exact ⟨_, hc.2⟩
theorem Ls.mb {e : TypeId} {w : World} {base n c : Nat} {a : Option Addr} {rs : List Ln} (h : Ls e w base (.slice a n c) rs) : Mb w base w.heap.size 5 a n := by
  intro hn
  obtain ⟨a', cap', hv, l1, l2, hg⟩ := h.shape
  cases hv
  obtain ⟨g, rfl⟩ := hg hn
  have hb := h.lt g rfl
  refine ⟨g, rfl, hb.1, hb.2, fun i hi => ⟨?_, h.free rfl i⟩⟩
  have hc := h.cell rfl (i / 5) (by omega)
  have : i = i / 5 * 5 ∨ i = i / 5 * 5 + 1 ∨ i = i / 5 * 5 + 2 ∨ i = i / 5 * 5 + 3 ∨ i = i / 5 * 5 + 4 := by omega
  rcases this with e | e | e | e | e
  · rw [e]; exact ⟨_, hc.1⟩
  · rw [e]; exact ⟨_, hc.2.1⟩
  · rw [e]; exact ⟨_, hc.2.2.1⟩
  · rw [e]; exact ⟨_, hc.2.2.2.1⟩
  · rw [e]; exact ⟨_, hc.2.2.2.2⟩

set_option maxHeartbeats 1000000 in
theorem mark_mb (a : Option Addr) (n c lo hi : Nat) (k : Int) (w : World) (h : Mb w lo hi 1 a n) (hk : 0 ≤ k) (hz : k + n ≤ 4611686018427387904) :
    Calls Tryz.prog 13 #[.slice a n c, .int .i64 k] w fun e w' => e = .returned (.int .i64 (k + n)) ∧ Mk lo hi w w' := by
  have HZ : Hid (Mb w lo hi 1 a n) := h
  clear h
  go_enter Tryz.func13, Tryz.ntmps13
  go_wp2_with fail
  go_loopw [1, 5] (fun q i wr => ∃ j : Nat, j ≤ n ∧ i = .int .i64 j ∧ q = .int .i64 (k + j) ∧ Mk lo hi w wr) (fun _ i _ => n - (intOf i).toNat)
  case atStart => exact ⟨0, Nat.zero_le _, rfl, by simp, Mk.refl _ _ _⟩
  case round =>
    obtain ⟨j, hj, rfl, rfl, hM⟩ := hrel
    have M0 : Hid (Mk lo hi w wr) := hM
    by_cases hlt : j < n
    · obtain ⟨g, rfl, h1, h2, h3⟩ := (HZ.out.mk hM) (by omega)
      obtain ⟨⟨z, c1⟩, f1⟩ := h3 j (by omega)
      have G1 : Hid (lo ≤ g ∧ g < hi) := ⟨h1, h2⟩
      have C1 : Hid (wr.cell? ⟨g, j, none⟩ = some (.int .i64 z)) := c1
      have hI : (j : Int) < (n : Int) := by omega
      have HL : Hid (j < n) := hlt
      clear hM hlt h1 h2 h3
      go_wp2_with fail
      go_roundw
      case rel => exact ⟨j + 1, by have := HL.out; omega, by go_num, by go_num, M0.out.set C1.out G1.out.1 G1.out.2 _⟩
      case measure => have := HL.out; simp [intOf]; omega
    · have hI : ¬ (j : Int) < (n : Int) := by omega
      obtain rfl : j = n := by omega
      clear hM
      go_wp2_with fail
      go_ret
      exact ⟨rfl, M0.out⟩

set_option maxHeartbeats 2000000 in
theorem mark_lanes (a : Option Addr) (n c lo hi : Nat) (k : Int) (w : World) (h : Mb w lo hi 5 a n) (hk : 0 ≤ k) (hz : k + (5 * n : Nat) ≤ 4611686018427387904) :
    Calls Tryz.prog 71 #[.slice a n c, .int .i64 k] w fun e w' => e = .returned (.int .i64 (k + (5 * n : Nat))) ∧ Mk lo hi w w' := by
  have HZ : Hid (Mb w lo hi 5 a n) := h
  clear h
  go_enter Tryz.func71, Tryz.ntmps71
  go_wp2_with fail
  go_loopw [1, 5] (fun q i wr => ∃ j : Nat, j ≤ n ∧ i = .int .i64 j ∧ q = .int .i64 (k + (5 * j : Nat)) ∧ Mk lo hi w wr) (fun _ i _ => n - (intOf i).toNat)
  case atStart => exact ⟨0, Nat.zero_le _, rfl, by simp, Mk.refl _ _ _⟩
  case round =>
    obtain ⟨j, hj, rfl, rfl, hM⟩ := hrel
    have M0 : Hid (Mk lo hi w wr) := hM
    by_cases hlt : j < n
    · obtain ⟨g, rfl, h1, h2, h3⟩ := (HZ.out.mk hM) (by omega)
      obtain ⟨⟨z0, c0⟩, f0⟩ := h3 (j * 5) (by omega)
      obtain ⟨⟨z1, c1⟩, f1⟩ := h3 (j * 5 + 1) (by omega)
      obtain ⟨⟨z2, c2⟩, f2⟩ := h3 (j * 5 + 2) (by omega)
      obtain ⟨⟨z3, c3⟩, f3⟩ := h3 (j * 5 + 3) (by omega)
      obtain ⟨⟨z4, c4⟩, f4⟩ := h3 (j * 5 + 4) (by omega)
      have G1 : Hid (lo ≤ g ∧ g < hi) := ⟨h1, h2⟩
      have C0 : Hid (wr.cell? ⟨g, j * 5, none⟩ = some (.int .i64 z0)) := c0
      have C1 : Hid (wr.cell? ⟨g, j * 5 + 1, none⟩ = some (.int .i64 z1)) := c1
      have C2 : Hid (wr.cell? ⟨g, j * 5 + 2, none⟩ = some (.int .i64 z2)) := c2
      have C3 : Hid (wr.cell? ⟨g, j * 5 + 3, none⟩ = some (.int .i64 z3)) := c3
      have C4 : Hid (wr.cell? ⟨g, j * 5 + 4, none⟩ = some (.int .i64 z4)) := c4
      have hI : (j : Int) < (n : Int) := by omega
      have HL : Hid (j < n) := hlt
      have HK2 : Hid (k + ((5 * j : Nat) : Int) + 1 + 1 + 1 + 1 + 1 = k + ((5 * (j + 1) : Nat) : Int)) := by show _ = _; omega
      have hb0 : 0 ≤ k + ((5 * j : Nat) : Int) := by omega
      have hb1 : k + ((5 * j : Nat) : Int) ≤ 4611686018427387904 := by omega
      generalize k + ((5 * j : Nat) : Int) = kk at *
      clear hM hlt h1 h2 h3
      go_wp2_with fail
      go_roundw
      case rel =>
        refine ⟨j + 1, by have := HL.out; omega, by go_num, by rw [← HK2.out], ?_⟩
        have m1 := M0.out.set C0.out G1.out.1 G1.out.2 kk
        obtain ⟨y1, d1⟩ := (Mk.refl lo hi wr).set C0.out G1.out.1 G1.out.2 kk |>.num _ _ C1.out
        have m2 := m1.set d1 G1.out.1 G1.out.2 (kk + 1)
        obtain ⟨y2, d2⟩ := ((Mk.refl lo hi wr).set C0.out G1.out.1 G1.out.2 kk |>.set d1 G1.out.1 G1.out.2 (kk + 1)).num _ _ C2.out
        have m3 := m2.set d2 G1.out.1 G1.out.2 (kk + 1 + 1)
        obtain ⟨y3, d3⟩ := (((Mk.refl lo hi wr).set C0.out G1.out.1 G1.out.2 kk |>.set d1 G1.out.1 G1.out.2 (kk + 1)).set d2 G1.out.1 G1.out.2 (kk + 1 + 1)).num _ _ C3.out
        have m4 := m3.set d3 G1.out.1 G1.out.2 (kk + 1 + 1 + 1)
        obtain ⟨y4, d4⟩ := ((((Mk.refl lo hi wr).set C0.out G1.out.1 G1.out.2 kk |>.set d1 G1.out.1 G1.out.2 (kk + 1)).set d2 G1.out.1 G1.out.2 (kk + 1 + 1)).set d3 G1.out.1 G1.out.2 (kk + 1 + 1 + 1)).num _ _ C4.out
        exact m4.set d4 G1.out.1 G1.out.2 (kk + 1 + 1 + 1 + 1)
      case measure => have := HL.out; simp [intOf]; omega
    · have hI : ¬ (j : Int) < (n : Int) := by omega
      obtain rfl : j = n := by omega
      clear hM
      go_wp2_with fail
      go_ret
      exact ⟨rfl, M0.out⟩

set_option maxHeartbeats 2000000 in
theorem mark_bells (a : Option Addr) (n c lo hi : Nat) (k : Int) (w : World) (h : Mb w lo hi 2 a n) (hk : 0 ≤ k) (hz : k + (2 * n : Nat) ≤ 4611686018427387904) :
    Calls Tryz.prog 72 #[.slice a n c, .int .i64 k] w fun e w' => e = .returned (.int .i64 (k + (2 * n : Nat))) ∧ Mk lo hi w w' := by
  have HZ : Hid (Mb w lo hi 2 a n) := h
  clear h
  go_enter Tryz.func72, Tryz.ntmps72
  go_wp2_with fail
  go_loopw [1, 5] (fun q i wr => ∃ j : Nat, j ≤ n ∧ i = .int .i64 j ∧ q = .int .i64 (k + (2 * j : Nat)) ∧ Mk lo hi w wr) (fun _ i _ => n - (intOf i).toNat)
  case atStart => exact ⟨0, Nat.zero_le _, rfl, by simp, Mk.refl _ _ _⟩
  case round =>
    obtain ⟨j, hj, rfl, rfl, hM⟩ := hrel
    have M0 : Hid (Mk lo hi w wr) := hM
    by_cases hlt : j < n
    · obtain ⟨g, rfl, h1, h2, h3⟩ := (HZ.out.mk hM) (by omega)
      obtain ⟨⟨z0, c0⟩, f0⟩ := h3 (j * 2) (by omega)
      obtain ⟨⟨z1, c1⟩, f1⟩ := h3 (j * 2 + 1) (by omega)
      have G1 : Hid (lo ≤ g ∧ g < hi) := ⟨h1, h2⟩
      have C0 : Hid (wr.cell? ⟨g, j * 2, none⟩ = some (.int .i64 z0)) := c0
      have C1 : Hid (wr.cell? ⟨g, j * 2 + 1, none⟩ = some (.int .i64 z1)) := c1
      have hI : (j : Int) < (n : Int) := by omega
      have HL : Hid (j < n) := hlt
      have HK2 : Hid (k + ((2 * j : Nat) : Int) + 1 + 1 = k + ((2 * (j + 1) : Nat) : Int)) := by show _ = _; omega
      have hb0 : 0 ≤ k + ((2 * j : Nat) : Int) := by omega
      have hb1 : k + ((2 * j : Nat) : Int) ≤ 4611686018427387904 := by omega
      generalize k + ((2 * j : Nat) : Int) = kk at *
      clear hM hlt h1 h2 h3
      go_wp2_with fail
      go_roundw
      case rel =>
        refine ⟨j + 1, by have := HL.out; omega, by go_num, by rw [← HK2.out], ?_⟩
        have m1 := M0.out.set C0.out G1.out.1 G1.out.2 kk
        obtain ⟨y1, d1⟩ := (Mk.refl lo hi wr).set C0.out G1.out.1 G1.out.2 kk |>.num _ _ C1.out
        exact m1.set d1 G1.out.1 G1.out.2 (kk + 1)
      case measure => have := HL.out; simp [intOf]; omega
    · have hI : ¬ (j : Int) < (n : Int) := by omega
      obtain rfl : j = n := by omega
      clear hM
      go_wp2_with fail
      go_ret
      exact ⟨rfl, M0.out⟩

set_option maxHeartbeats 2000000 in
theorem mark_slots (a : Option Addr) (n c lo hi : Nat) (k : Int) (w : World) (h : Mb w lo hi 2 a n) (hk : 0 ≤ k) (hz : k + (2 * n : Nat) ≤ 4611686018427387904) :
    Calls Tryz.prog 73 #[.slice a n c, .int .i64 k] w fun e w' => e = .returned (.int .i64 (k + (2 * n : Nat))) ∧ Mk lo hi w w' := by
  have HZ : Hid (Mb w lo hi 2 a n) := h
  clear h
  go_enter Tryz.func73, Tryz.ntmps73
  go_wp2_with fail
  go_loopw [1, 5] (fun q i wr => ∃ j : Nat, j ≤ n ∧ i = .int .i64 j ∧ q = .int .i64 (k + (2 * j : Nat)) ∧ Mk lo hi w wr) (fun _ i _ => n - (intOf i).toNat)
  case atStart => exact ⟨0, Nat.zero_le _, rfl, by simp, Mk.refl _ _ _⟩
  case round =>
    obtain ⟨j, hj, rfl, rfl, hM⟩ := hrel
    have M0 : Hid (Mk lo hi w wr) := hM
    by_cases hlt : j < n
    · obtain ⟨g, rfl, h1, h2, h3⟩ := (HZ.out.mk hM) (by omega)
      obtain ⟨⟨z0, c0⟩, f0⟩ := h3 (j * 2) (by omega)
      obtain ⟨⟨z1, c1⟩, f1⟩ := h3 (j * 2 + 1) (by omega)
      have G1 : Hid (lo ≤ g ∧ g < hi) := ⟨h1, h2⟩
      have C0 : Hid (wr.cell? ⟨g, j * 2, none⟩ = some (.int .i64 z0)) := c0
      have C1 : Hid (wr.cell? ⟨g, j * 2 + 1, none⟩ = some (.int .i64 z1)) := c1
      have hI : (j : Int) < (n : Int) := by omega
      have HL : Hid (j < n) := hlt
      have HK2 : Hid (k + ((2 * j : Nat) : Int) + 1 + 1 = k + ((2 * (j + 1) : Nat) : Int)) := by show _ = _; omega
      have hb0 : 0 ≤ k + ((2 * j : Nat) : Int) := by omega
      have hb1 : k + ((2 * j : Nat) : Int) ≤ 4611686018427387904 := by omega
      generalize k + ((2 * j : Nat) : Int) = kk at *
      clear hM hlt h1 h2 h3
      go_wp2_with fail
      go_roundw
      case rel =>
        refine ⟨j + 1, by have := HL.out; omega, by go_num, by rw [← HK2.out], ?_⟩
        have m1 := M0.out.set C0.out G1.out.1 G1.out.2 kk
        obtain ⟨y1, d1⟩ := (Mk.refl lo hi wr).set C0.out G1.out.1 G1.out.2 kk |>.num _ _ C1.out
        exact m1.set d1 G1.out.1 G1.out.2 (kk + 1)
      case measure => have := HL.out; simp [intOf]; omega
    · have hI : ¬ (j : Int) < (n : Int) := by omega
      obtain rfl : j = n := by omega
      clear hM
      go_wp2_with fail
      go_ret
      exact ⟨rfl, M0.out⟩

/-- A slice of slices that may be marked. -/
structure Sb (w : World) (lo hi g n : Nat) : Prop where
  row : ∀ i, i < n → ∃ b l c, w.cell? ⟨g, i, none⟩ = some (.slice b l c) ∧ Mb w lo hi 1 b l ∧ l ≤ 1048576
theorem Sb.mked {w w' : World} {lo hi g n : Nat} (h : Sb w lo hi g n) (m : Mk lo hi w w') : Sb w' lo hi g n :=
  ⟨fun i hi => by obtain ⟨b, l, c, k1, k2, k3⟩ := h.row i hi; exact ⟨b, l, c, m.other _ _ k1 (fun z e => by cases e), k2.mk m, k3⟩⟩
theorem Sb.wide {w : World} {lo hi lo' hi' g n : Nat} (h : Sb w lo hi g n) (h1 : lo' ≤ lo) (h2 : hi ≤ hi') : Sb w lo' hi' g n :=
  ⟨fun i hi => by obtain ⟨b, l, c, k1, k2, k3⟩ := h.row i hi; exact ⟨b, l, c, k1, k2.wide h1 h2, k3⟩⟩
theorem SSo.sb {w u : World} {base g n : Nat} {oss : List (List Int)} (h : SSo u base g n oss) (b : Below u.heap.size u w) (hs : ∀ i, i < n → (oss.getD i []).length ≤ 1048576) : Sb w base u.heap.size g n :=
  ⟨fun i hi => by
    obtain ⟨x, l, c, k1, k2⟩ := h.row i hi
    exact ⟨x, l, c, cell_keep b k1, k2.mb.stay b, by rw [k2.len]; exact hs i hi⟩⟩

set_option maxHeartbeats 2000000 in
theorem mark_sb (g n c lo hi : Nat) (k : Int) (w : World) (h : Sb w lo hi g n) (hn : n ≤ 1048576) (hk : 0 ≤ k) (hz : k ≤ 2199023255552) :
    Calls Tryz.prog 70 #[.slice (some ⟨g, 0, none⟩) n c, .int .i64 k] w fun e w' => (∃ r : Int, e = .returned (.int .i64 r) ∧ 0 ≤ r ∧ r ≤ k + 1048576 * n) ∧ Mk lo hi w w' := by
  have HZ : Hid (Sb w lo hi g n) := h
  have hn2 : (n : Int) ≤ 1048576 := by omega
  clear h
  go_enter Tryz.func70, Tryz.ntmps70
  go_wp2_with fail
  go_loopw [1, 5] (fun q i wr => ∃ (j : Nat) (r : Int), j ≤ n ∧ i = .int .i64 j ∧ q = .int .i64 r ∧ 0 ≤ r ∧ r ≤ k + 1048576 * j ∧ Mk lo hi w wr) (fun _ i _ => n - (intOf i).toNat)
  case atStart => exact ⟨0, k, Nat.zero_le _, rfl, rfl, hk, by omega, Mk.refl _ _ _⟩
  case round =>
    obtain ⟨j, r, hj, rfl, rfl, hr0, hr1, hM⟩ := hrel
    have M0 : Hid (Mk lo hi w wr) := hM
    have R0 : Hid (0 ≤ r ∧ r ≤ k + 1048576 * j) := ⟨hr0, hr1⟩
    by_cases hlt : j < n
    · obtain ⟨b, l, c, k1, k2, k3⟩ := (HZ.out.mked hM).row j hlt
      have K2 : Hid (Mb wr lo hi 1 b l) := k2
      have K3 : Hid (l ≤ 1048576) := k3
      have hI : (j : Int) < (n : Int) := by omega
      have HL : Hid (j < n) := hlt
      clear hM hlt k2 k3 hr1
      go_wp2_with (go_at_call 13; refine (mark_mb _ _ _ _ _ _ _ K2.out R0.out.1 (by have := R0.out.2; have := K3.out; have := HL.out; omega)).mono ?_; rintro e w1 ⟨rfl, m1⟩; have M1 : Hid (Mk lo hi w w1) := M0.out.trans m1; clear m1)
      go_roundw
      case rel => exact ⟨j + 1, r + l, by have := HL.out; omega, by go_num, rfl, by have := R0.out.1; omega, by have := R0.out.2; have := K3.out; omega, M1.out⟩
      case measure => have := HL.out; simp [intOf]; omega
    · have hI : ¬ (j : Int) < (n : Int) := by omega
      obtain rfl : j = n := by omega
      clear hM
      go_wp2_with fail
      go_ret
      exact ⟨⟨r, rfl, R0.out⟩, M0.out⟩

set_option maxHeartbeats 2000000 in
theorem mark_policy (g0 g1 g2 g3 n0 n1 n2 n3 lo hi : Nat) (P : Plc) (u w : World) (h : Mde u lo g0 g1 g2 g3 n0 n1 n2 n3 P) (b : Below u.heap.size u w) (hs : Small n0 n1 n2 n3 P) (hh : u.heap.size ≤ hi) :
    Calls Tryz.prog 31 #[.agg #[.slice (some ⟨g0, 0, none⟩) n0 n0, .slice (some ⟨g1, 0, none⟩) n1 n1, .slice (some ⟨g2, 0, none⟩) n2 n2, .slice (some ⟨g3, 0, none⟩) n3 n3], .int .i64 1] w fun e w' => (∃ r : Int, e = .returned (.int .i64 r) ∧ 0 ≤ r ∧ r ≤ 1100000000000) ∧ Mk lo hi w w' := by
  generalize hW : (w.alloc (.cells #[.slice (some ⟨g0, 0, none⟩) n0 n0, .slice (some ⟨g1, 0, none⟩) n1 n1, .slice (some ⟨g2, 0, none⟩) n2 n2, .slice (some ⟨g3, 0, none⟩) n3 n3] 37)) = W
  have B0 : Hid (Below u.heap.size u W) := by show Below _ _ _; rw [← hW]; exact al b _
  have MW : Hid (Mk lo hi w W) := by show Mk _ _ _ _; rw [← hW]; exact (Mk.refl _ _ _).alloc _
  obtain ⟨s, hS⟩ : ∃ s, w.heap.size = s := ⟨_, rfl⟩
  have Q : Hid (W.cell? ⟨s, 0, none⟩ = some (.slice (some ⟨g0, 0, none⟩) n0 n0) ∧ W.cell? ⟨s, 1, none⟩ = some (.slice (some ⟨g1, 0, none⟩) n1 n1) ∧ W.cell? ⟨s, 2, none⟩ = some (.slice (some ⟨g2, 0, none⟩) n2 n2) ∧ W.cell? ⟨s, 3, none⟩ = some (.slice (some ⟨g3, 0, none⟩) n3 n3)) := by
    show _ ∧ _
    rw [← hW, ← hS]
    exact ⟨cell_new rfl, cell_new rfl, cell_new rfl, cell_new rfl⟩
  have HM : Hid (Mde u lo g0 g1 g2 g3 n0 n1 n2 n3 P) := h
  have HS : Hid (Small n0 n1 n2 n3 P) := hs
  have HH : Hid (u.heap.size ≤ hi) := hh
  clear h hs b hh
  have q0 := Q.out.1
  go_enter Tryz.func31, Tryz.ntmps31
  go_wp2_with fail
  clear hW hS
  refine (mark_sb _ _ _ _ _ _ _ ((HM.out.own.sb B0.out HS.out.each).wide (Nat.le_refl _) HH.out) HS.out.own (by decide) (by decide)).mono ?_
  rintro e w1 ⟨⟨r0, rfl, r0a, r0b⟩, m1⟩
  have R0 : Hid (0 ≤ r0 ∧ r0 ≤ 1 + 1048576 * n0) := ⟨r0a, r0b⟩
  have q1 := m1.other _ _ Q.out.2.1 (fun z e => by cases e)
  have M1 : Hid (Mk lo hi W w1) := m1
  clear m1 r0b q0
  go_wp2_with fail
  refine (mark_lanes _ _ _ _ _ _ _ ((((HM.out.lanes.mb).stay B0.out).wide (Nat.le_refl _) HH.out).mk M1.out) R0.out.1 (by have := R0.out.2; have := HS.out.own; have := HS.out.lanes; omega)).mono ?_
  rintro e w2 ⟨rfl, m2⟩
  have M2 : Hid (Mk lo hi W w2) := M1.out.trans m2
  have q2 := M2.out.other _ _ Q.out.2.2.1 (fun z e => by cases e)
  have R1 : Hid (0 ≤ r0 + ((5 * n1 : Nat) : Int) ∧ r0 + ((5 * n1 : Nat) : Int) ≤ 1 + 1048576 * n0 + 5 * n1) := ⟨by omega, by have := R0.out.2; omega⟩
  generalize r0 + ((5 * n1 : Nat) : Int) = r1 at *
  clear m2 q1
  go_wp2_with fail
  refine (mark_bells _ _ _ _ _ _ _ ((((HM.out.bells.mb).stay B0.out).wide (Nat.le_refl _) HH.out).mk M2.out) R1.out.1 (by have := R1.out.2; have := HS.out.own; have := HS.out.lanes; have := HS.out.bells; omega)).mono ?_
  rintro e w3 ⟨rfl, m3⟩
  have M3 : Hid (Mk lo hi W w3) := M2.out.trans m3
  have q3 := M3.out.other _ _ Q.out.2.2.2 (fun z e => by cases e)
  have R2 : Hid (0 ≤ r1 + ((2 * n2 : Nat) : Int) ∧ r1 + ((2 * n2 : Nat) : Int) ≤ 1 + 1048576 * n0 + 5 * n1 + 2 * n2) := ⟨by have := R1.out.1; omega, by have := R1.out.2; omega⟩
  generalize r1 + ((2 * n2 : Nat) : Int) = r2 at *
  clear m3 q2
  go_wp2_with fail
  refine (mark_slots _ _ _ _ _ _ _ ((((HM.out.plan.mb).stay B0.out).wide (Nat.le_refl _) HH.out).mk M3.out) R2.out.1 (by have := R2.out.2; have := HS.out.own; have := HS.out.lanes; have := HS.out.bells; have := HS.out.plan; omega)).mono ?_
  rintro e w4 ⟨rfl, m4⟩
  have M4 : Hid (Mk lo hi w w4) := MW.out.trans (M3.out.trans m4)
  have R3 : Hid (0 ≤ r2 + ((2 * n3 : Nat) : Int) ∧ r2 + ((2 * n3 : Nat) : Int) ≤ 1100000000000) := ⟨by have := R2.out.1; omega, by have := R2.out.2; have := HS.out.own; have := HS.out.lanes; have := HS.out.bells; have := HS.out.plan; omega⟩
  generalize r2 + ((2 * n3 : Nat) : Int) = r3 at *
  clear m4 q3
  go_wp2_with fail
  go_ret
  exact ⟨⟨r3, rfl, R3.out⟩, M4.out⟩
end Go.Proofs.YtggejbphdadckaaGreatDoor
