/- Texts of this seat, joined. -/
import Derived.Test.YtggejbphdadckaaGreatDoorQ18
import Derived.Test.YtggejbphdadckaaGreatDoorQ29
namespace Go.Proofs.YtggejbphdadckaaGreatDoor
open Go.RowKit
set_option linter.unusedVariables false
set_option maxRecDepth 20000 in
set_option maxHeartbeats 4000000 in
theorem eq_host (g0 g1 g2 g3 k0 k1 k2 k3 n0 n1 n2 n3 : Nat) (m h m' h' : Value) (X : Hst) (b b' : Nat) (w : World) (d : Od w b g0 g1 g2 g3 n0 n1 n2 n3 m h X) (d' : Od w b' k0 k1 k2 k3 n0 n1 n2 n3 m' h' X) :
    Calls Tryz.prog 10 #[.agg #[.slice (some ⟨g0, 0, none⟩) n0 n0, .slice (some ⟨g1, 0, none⟩) n1 n1, .slice (some ⟨g2, 0, none⟩) n2 n2, .slice (some ⟨g3, 0, none⟩) n3 n3, m, h, .int .i64 X.slot, .int .i64 X.left, .int .i64 X.clock], .agg #[.slice (some ⟨k0, 0, none⟩) n0 n0, .slice (some ⟨k1, 0, none⟩) n1 n1, .slice (some ⟨k2, 0, none⟩) n2 n2, .slice (some ⟨k3, 0, none⟩) n3 n3, m', h', .int .i64 X.slot, .int .i64 X.left, .int .i64 X.clock]] w fun e w' => e = .returned (.bool true) ∧ Below w.heap.size w w' := by
  obtain ⟨am, cm, rfl, _⟩ := d.mem.shape
  obtain ⟨am', cm', rfl, _⟩ := d'.mem.shape
  obtain ⟨ah, ch, rfl, _⟩ := d.harts.shape
  obtain ⟨ah', ch', rfl, _⟩ := d'.harts.shape
  have D : Hid (Od w b g0 g1 g2 g3 n0 n1 n2 n3 _ _ X) := d
  have D' : Hid (Od w b' k0 k1 k2 k3 n0 n1 n2 n3 _ _ X) := d'
  generalize X.mem.length = lm at *
  generalize X.harts.length = lh at *
  clear d d'
  generalize hW : (w.alloc (.cells #[.slice (some ⟨g0, 0, none⟩) n0 n0, .slice (some ⟨g1, 0, none⟩) n1 n1, .slice (some ⟨g2, 0, none⟩) n2 n2, .slice (some ⟨g3, 0, none⟩) n3 n3, .slice am lm cm, .slice ah lh ch, .int .i64 X.slot, .int .i64 X.left, .int .i64 X.clock] 40)).alloc (.cells #[.slice (some ⟨k0, 0, none⟩) n0 n0, .slice (some ⟨k1, 0, none⟩) n1 n1, .slice (some ⟨k2, 0, none⟩) n2 n2, .slice (some ⟨k3, 0, none⟩) n3 n3, .slice am' lm cm', .slice ah' lh ch', .int .i64 X.slot, .int .i64 X.left, .int .i64 X.clock] 40) = W
  have B0 : Hid (Below w.heap.size w W) := by show Below _ _ _; rw [← hW]; exact al (al (Below.refl _ _) _) _
  obtain ⟨s, hS⟩ : ∃ s, w.heap.size = s := ⟨_, rfl⟩
  have Q : Hid (Vb W s #[.slice (some ⟨g0, 0, none⟩) n0 n0, .slice (some ⟨g1, 0, none⟩) n1 n1, .slice (some ⟨g2, 0, none⟩) n2 n2, .slice (some ⟨g3, 0, none⟩) n3 n3, .slice am lm cm, .slice ah lh ch, .int .i64 X.slot, .int .i64 X.left, .int .i64 X.clock] 40) := by show Vb _ _ _ _; rw [← hW, ← hS]; exact (Vb.new _ _ _).push _
  have R : Hid (Vb W (s + 1) #[.slice (some ⟨k0, 0, none⟩) n0 n0, .slice (some ⟨k1, 0, none⟩) n1 n1, .slice (some ⟨k2, 0, none⟩) n2 n2, .slice (some ⟨k3, 0, none⟩) n3 n3, .slice am' lm cm', .slice ah' lh ch', .int .i64 X.slot, .int .i64 X.left, .int .i64 X.clock] 40) := by
    have z1 : s + 1 = (w.alloc (.cells #[.slice (some ⟨g0, 0, none⟩) n0 n0, .slice (some ⟨g1, 0, none⟩) n1 n1, .slice (some ⟨g2, 0, none⟩) n2 n2, .slice (some ⟨g3, 0, none⟩) n3 n3, .slice am lm cm, .slice ah lh ch, .int .i64 X.slot, .int .i64 X.left, .int .i64 X.clock] 40)).heap.size := by rw [← hS]; simp
    show Vb _ _ _ _; rw [← hW, z1]; exact Vb.new _ _ _
  have q0 := Q.out.cell 0 rfl
  have q1 := Q.out.cell 1 rfl
  have q2 := Q.out.cell 2 rfl
  have q3 := Q.out.cell 3 rfl
  have r0 := R.out.cell 0 rfl
  have r1 := R.out.cell 1 rfl
  have r2 := R.out.cell 2 rfl
  have r3 := R.out.cell 3 rfl
  go_enter Tryz.func10, Tryz.ntmps10
  go_wp2_with fail
  clear hW hS q0 r0 q1 r1 q2 r2 q3 r3
  refine (eq_policy _ _ _ _ _ _ _ _ _ _ _ _ X.pol _ _ _ (D.out.pol.keep B0.out) (D'.out.pol.keep B0.out)).mono ?_
  rintro e w1 ⟨rfl, b1⟩
  have B1 : Hid (Below W.heap.size W w1) := b1
  have q4 := (Q.out.keep b1).cell 4 rfl
  have r4 := (R.out.keep b1).cell 4 rfl
  clear b1
  go_wp2_with fail
  clear q4 r4
  refine (eq_nums _ _ X.mem _ _ _ ((D.out.mem.keep B0.out).keep B1.out) ((D'.out.mem.keep B0.out).keep B1.out)).mono ?_
  rintro e w2 ⟨rfl, b2⟩
  have B2 : Hid (Below W.heap.size W w2) := on B1.out b2
  have q5 := (Q.out.keep B2.out).cell 5 rfl
  have r5 := (R.out.keep B2.out).cell 5 rfl
  clear b2
  go_wp2_with fail
  clear q5 r5
  refine (eq_harts _ _ X.harts _ _ _ ((D.out.harts.keep B0.out).keep B2.out) ((D'.out.harts.keep B0.out).keep B2.out)).mono ?_
  rintro e w3 ⟨rfl, b3⟩
  have B3 : Hid (Below W.heap.size W w3) := on B2.out b3
  clear b3
  have q6 := (Q.out.keep B3.out).cell 6 rfl
  have q7 := (Q.out.keep B3.out).cell 7 rfl
  have q8 := (Q.out.keep B3.out).cell 8 rfl
  have r6 := (R.out.keep B3.out).cell 6 rfl
  have r7 := (R.out.keep B3.out).cell 7 rfl
  have r8 := (R.out.keep B3.out).cell 8 rfl
  go_wp2_with fail
  go_ret
  exact ⟨rfl, on B0.out B3.out⟩
structure Mh (lo hi : Nat) (w w' : World) : Prop where
  os : w'.os = w.os
  tape : w'.tape = w.tape
  output : w'.output = w.output
  size : w.heap.size ≤ w'.heap.size
  block : ∀ k, k < w.heap.size → (k < lo ∨ hi ≤ k) → w'.heap[k]? = w.heap[k]?
  other : ∀ p v, w.cell? p = some v → (∀ z, v ≠ .int .i64 z) → (∀ b, v ≠ .bool b) → w'.cell? p = some v
  num : ∀ p, (∃ z, w.cell? p = some (.int .i64 z)) → ∃ z', w'.cell? p = some (.int .i64 z')
  bol : ∀ p, (∃ b, w.cell? p = some (.bool b)) → ∃ b', w'.cell? p = some (.bool b')
  free : ∀ p, p.block < w.heap.size → w'.frozen? p = w.frozen? p
theorem Mk.mh {lo hi : Nat} {w w' : World} (m : Mk lo hi w w') : Mh lo hi w w' :=
  ⟨m.os, m.tape, m.output, m.size, m.block, fun p v h n _ => m.other p v h n, fun p ⟨z, h⟩ => m.num p z h, fun p ⟨b, h⟩ => ⟨b, m.other p _ h fun z e => by cases e⟩, m.free⟩
theorem Mh.refl (lo hi : Nat) (w : World) : Mh lo hi w w := (Mk.refl lo hi w).mh
theorem Mh.trans {lo hi : Nat} {a b c : World} (h : Mh lo hi a b) (k : Mh lo hi b c) : Mh lo hi a c :=
  ⟨k.os.trans h.os, k.tape.trans h.tape, k.output.trans h.output, Nat.le_trans h.size k.size,
   fun i hi hn => (k.block i (Nat.lt_of_lt_of_le hi h.size) hn).trans (h.block i hi hn),
   fun p v e n m => k.other p v (h.other p v e n m) n m,
   fun p e => k.num p (h.num p e), fun p e => k.bol p (h.bol p e),
   fun p hp => (k.free p (Nat.lt_of_lt_of_le hp h.size)).trans (h.free p hp)⟩
theorem Mh.setN {lo hi : Nat} {a w : World} (h : Mh lo hi a w) {p : Addr} (hc : ∃ z, a.cell? p = some (.int .i64 z)) (h1 : lo ≤ p.block) (h2 : p.block < hi) (z : Int) : Mh lo hi a (w.setCell p (.int .i64 z)) := by
  obtain ⟨z0, c0⟩ := h.num p hc
  exact h.trans ((Mk.refl lo hi w).set c0 h1 h2 z).mh
theorem Mh.setB {lo hi : Nat} {a w : World} (h : Mh lo hi a w) {p : Addr} (hc : ∃ b, a.cell? p = some (.bool b)) (h1 : lo ≤ p.block) (h2 : p.block < hi) (b : Bool) : Mh lo hi a (w.setCell p (.bool b)) := by
  obtain ⟨b0, c0⟩ := h.bol p hc
  refine h.trans ⟨rfl, rfl, rfl, by simp [World.setCell], fun k hk hn => Below.heap_setCell _ _ _ _ (by omega), fun q v e _ n => ?_, fun q ⟨z', e⟩ => ?_, fun q ⟨b', e⟩ => ?_, fun q _ => World.frozen?_setCell ..⟩
  · rw [World.cell?_setCell_other _ _ _ _ (fun e2 => by subst e2; rw [c0] at e; cases e; exact n _ rfl)]
    exact e
  · rw [World.cell?_setCell_other _ _ _ _ (fun e2 => by subst e2; rw [c0] at e; cases e)]
    exact ⟨z', e⟩
  · by_cases e2 : p = q
    · subst e2
      exact ⟨b, World.cell?_setCell_same _ _ _ c0⟩
    · rw [World.cell?_setCell_other _ _ _ _ e2]
      exact ⟨b', e⟩
theorem Mh.mqv {lo hi : Nat} {w w' : World} (m : Mh lo hi w w') : Mq (fun k => lo ≤ k ∧ k < hi) w w' := ⟨m.os, m.tape, m.output, m.size, fun k hk hn => m.block k hk (by have : ¬ (lo ≤ k ∧ k < hi) := hn; omega)⟩
theorem Mb.mh {w w' : World} {lo hi sz n : Nat} {a : Option Addr} (h : Mb w lo hi sz a n) (m : Mh lo hi w w') : Mb w' lo hi sz a n := by
  intro hn
  obtain ⟨g, e, h1, h2, h3⟩ := h hn
  refine ⟨g, e, h1, h2, fun i hi => ?_⟩
  obtain ⟨⟨z, hz⟩, hf⟩ := h3 i hi
  exact ⟨m.num _ ⟨z, hz⟩, by rw [m.free _ (block_of_cell hz)]; exact hf⟩
def Lc (w : World) (lo hi : Nat) (p : Addr) : Prop := ∃ a n c, w.cell? p = some (.slice a n c) ∧ Mb w lo hi 1 a n ∧ n ≤ 1048576
def Nc (w : World) (p : Addr) : Prop := (∃ z, w.cell? p = some (.int .i64 z)) ∧ w.frozen? p = false
def Bc (w : World) (p : Addr) : Prop := (∃ b, w.cell? p = some (.bool b)) ∧ w.frozen? p = false
theorem Lc.mh {w w' : World} {lo hi : Nat} {p : Addr} (h : Lc w lo hi p) (m : Mh lo hi w w') : Lc w' lo hi p := by
  obtain ⟨a, n, c, h1, h2, h3⟩ := h
  exact ⟨a, n, c, m.other _ _ h1 (fun z e => by cases e) (fun z e => by cases e), h2.mh m, h3⟩
theorem Nc.mh {w w' : World} {lo hi : Nat} {p : Addr} (h : Nc w p) (m : Mh lo hi w w') : Nc w' p := by
  obtain ⟨⟨z, h1⟩, h2⟩ := h
  exact ⟨m.num _ ⟨z, h1⟩, by rw [m.free _ (block_of_cell h1)]; exact h2⟩
theorem Bc.mh {w w' : World} {lo hi : Nat} {p : Addr} (h : Bc w p) (m : Mh lo hi w w') : Bc w' p := by
  obtain ⟨⟨z, h1⟩, h2⟩ := h
  exact ⟨m.bol _ ⟨z, h1⟩, by rw [m.free _ (block_of_cell h1)]; exact h2⟩
structure Mt (w : World) (lo hi g j : Nat) : Prop where
  c0 : Lc w lo hi ⟨g, j * 9, none⟩
  c1 : Nc w ⟨g, j * 9 + 1, none⟩
  c2 : Lc w lo hi ⟨g, j * 9 + 2, none⟩
  c3 : Bc w ⟨g, j * 9 + 3, none⟩
  c4 : Bc w ⟨g, j * 9 + 4, none⟩
  c5 : Bc w ⟨g, j * 9 + 5, none⟩
  c6 : Nc w ⟨g, j * 9 + 6, none⟩
  c7 : Lc w lo hi ⟨g, j * 9 + 7, none⟩
  c8 : Lc w lo hi ⟨g, j * 9 + 8, none⟩
theorem Mt.mh {w w' : World} {lo hi g j : Nat} (h : Mt w lo hi g j) (m : Mh lo hi w w') : Mt w' lo hi g j :=
  ⟨h.c0.mh m, h.c1.mh m, h.c2.mh m, h.c3.mh m, h.c4.mh m, h.c5.mh m, h.c6.mh m, h.c7.mh m, h.c8.mh m⟩
theorem Mt.stay {w w' : World} {lo hi g j : Nat} (h : Mt w lo hi g j) (b : Below w.heap.size w w') : Mt w' lo hi g j := by
  have L : ∀ p, Lc w lo hi p → Lc w' lo hi p := fun p ⟨a, n, c, h1, h2, h3⟩ => ⟨a, n, c, cell_keep b h1, h2.stay b, h3⟩
  have N : ∀ p, Nc w p → Nc w' p := fun p ⟨⟨z, h1⟩, h2⟩ => ⟨⟨z, cell_keep b h1⟩, by rw [b.frozen (p := p) (block_of_cell h1)]; exact h2⟩
  have B : ∀ p, Bc w p → Bc w' p := fun p ⟨⟨z, h1⟩, h2⟩ => ⟨⟨z, cell_keep b h1⟩, by rw [b.frozen (p := p) (block_of_cell h1)]; exact h2⟩
  exact ⟨L _ h.c0, N _ h.c1, L _ h.c2, B _ h.c3, B _ h.c4, B _ h.c5, N _ h.c6, L _ h.c7, L _ h.c8⟩
theorem nums_lc {w : World} {lo hi : Nat} {p : Addr} {v : Value} {zs : List Int} (hc : w.cell? p = some v) (h : Nums w lo v zs) (hl : zs.length ≤ 1048576) (hh : w.heap.size ≤ hi) : Lc w lo hi p := by
  obtain ⟨a, c, rfl, _⟩ := h.shape
  exact ⟨a, _, c, hc, h.mb.wide (Nat.le_refl _) hh, hl⟩
theorem hl_mt {w : World} {lo hi g n c : Nat} {hs : List Ht} (h : Hl w lo (.slice (some ⟨g, 0, none⟩) n c) hs) (ht : w.there g 0 (n * 9)) (hn : n = hs.length) (hh : w.heap.size ≤ hi) (he : ∀ i, i < n → Hsm (hs.getD i voidH)) : ∀ j, j < n → Mt w lo hi g j := by
  intro j hj
  obtain ⟨r, c, i, o, z1, z2, _⟩ := h.at j (by omega)
  have f : ∀ k, k < 9 → w.frozen? ⟨g, j * 9 + k, none⟩ = false := fun k hk => by
    have t := (ht (j * 9 + k) (by omega)).2
    rw [Nat.zero_add] at t
    exact t
  have s := he j hj
  unfold Hsm at s
  exact ⟨nums_lc z1.c0 z2.r s.regs hh, ⟨⟨_, z1.c1⟩, f 1 (by decide)⟩, nums_lc z1.c2 z2.c s.csr hh, ⟨⟨_, z1.c3⟩, f 3 (by decide)⟩, ⟨⟨_, z1.c4⟩, f 4 (by decide)⟩, ⟨⟨_, z1.c5⟩, f 5 (by decide)⟩, ⟨⟨_, z1.c6⟩, f 6 (by decide)⟩, nums_lc z1.c7 z2.i s.inn hh, nums_lc z1.c8 z2.o s.out hh⟩
set_option maxRecDepth 20000 in
set_option maxHeartbeats 8000000 in
theorem mark_hartS (g n c lo hi : Nat) (k : Int) (w : World) (h : ∀ j, j < n → Mt w lo hi g j) (h1 : lo ≤ g) (h2 : g < hi) (hn : n ≤ 1048576) (hk : 0 ≤ k) (hz : k ≤ 2000000000000) :
    Calls Tryz.prog 32 #[.slice (some ⟨g, 0, none⟩) n c, .int .i64 k] w fun e w' => (∃ r : Int, e = .returned (.int .i64 r) ∧ 0 ≤ r ∧ r ≤ 8000000000000) ∧ Mh lo hi w w' := by
  have HT : Hid (∀ j, j < n → Mt w lo hi g j) := h
  have GG : Hid (lo ≤ g ∧ g < hi) := ⟨h1, h2⟩
  have NK : Hid (n ≤ 1048576 ∧ 0 ≤ k ∧ k ≤ 2000000000000) := ⟨hn, hk, hz⟩
  have hn' : (n : Int) ≤ 1048576 := by omega
  clear h h1 h2 hn hz
  go_enter Tryz.func32, Tryz.ntmps32
  go_wp2_with fail
  clear hk
  go_loopw [1, 5] (fun q i wr => ∃ (j : Nat) (kk : Int), j ≤ n ∧ i = .int .i64 j ∧ q = .int .i64 kk ∧ 0 ≤ kk ∧ kk ≤ k + 5000000 * j ∧ Mh lo hi w wr) (fun _ i _ => n - (intOf i).toNat)
  case atStart => exact ⟨0, k, Nat.zero_le _, rfl, rfl, NK.out.2.1, by omega, Mh.refl _ _ _⟩
  case round =>
    obtain ⟨j, kk, hj, rfl, rfl, hp, hq, hM⟩ := hrel
    have M0 : Hid (Mh lo hi w wr) := hM
    have KQ : Hid (0 ≤ kk ∧ kk ≤ k + 5000000 * j) := ⟨hp, hq⟩
    by_cases hlt : j < n
    · have HL : Hid (j < n) := hlt
      have hI : (j : Int) < (n : Int) := by omega
      have T0 : Hid (Mt wr lo hi g j) := (HT.out j hlt).mh hM
      have KB : Hid (0 ≤ kk ∧ kk ≤ 8000000000000) := ⟨hp, by have := NK.out; omega⟩
      obtain ⟨a0, m0, k0, c0, b0, l0⟩ := T0.out.c0
      have MB : Hid (Mb wr lo hi 1 a0 m0 ∧ m0 ≤ 1048576) := ⟨b0, l0⟩
      clear hM hlt b0 l0 hp hq
      go_wp2_with fail
      clear c0
      refine (mark_mb _ _ _ lo hi _ _ MB.out.1 KB.out.1 (by have := KB.out.2; have := MB.out.2; omega)).mono ?_
      rintro e v1 ⟨rfl, mm⟩
      have M1 : Hid (Mh lo hi wr v1) := mm.mh
      obtain ⟨k1, hk1⟩ : ∃ k1, kk + (m0 : Int) = k1 := ⟨_, rfl⟩
      have K1 : Hid (kk ≤ k1 ∧ k1 ≤ kk + 1048576) := ⟨by omega, by have := MB.out.2; omega⟩
      rw [hk1]
      have p1 : 0 ≤ k1 := by have := KB.out; have := K1.out; omega
      have p2 : k1 ≤ 4611686018427387904 := by have := KB.out; have := K1.out; omega
      clear mm hk1 MB
      have T1 : Hid (Mt v1 lo hi g j) := T0.out.mh M1.out
      obtain ⟨⟨z1, c1⟩, f1⟩ := T1.out.c1
      obtain ⟨a2, m2, k2', c2, b2, l2⟩ := T1.out.c2
      have MB : Hid (Mb v1 lo hi 1 a2 m2 ∧ m2 ≤ 1048576) := ⟨b2, l2⟩
      have E1 : Hid (∀ z, Mh lo hi v1 (v1.setCell ⟨g, j * 9 + 1, none⟩ (.int .i64 z))) := fun z => (Mh.refl lo hi v1).setN ⟨_, c1⟩ GG.out.1 GG.out.2 z
      clear b2 l2
      go_wp2_with fail
      clear c1 f1 c2
      refine (mark_mb _ _ _ lo hi _ _ (MB.out.1.mh (E1.out _)) (by omega) (by have := KB.out; have := K1.out; have := MB.out.2; omega)).mono ?_
      rintro e v2 ⟨rfl, mm⟩
      have M2 : Hid (Mh lo hi wr v2) := M1.out.trans ((E1.out _).trans mm.mh)
      obtain ⟨k2, hk2⟩ : ∃ k2, k1 + 1 + (m2 : Int) = k2 := ⟨_, rfl⟩
      have K2 : Hid (kk ≤ k2 ∧ k2 ≤ kk + 2097153) := ⟨by have := K1.out; omega, by have := MB.out.2; have := K1.out; omega⟩
      rw [hk2]
      clear mm hk2 MB E1 p1 p2 K1
      have p1 : 0 ≤ k2 := by have := KB.out; have := K2.out; omega
      have p2 : k2 ≤ 4611686018427387904 := by have := KB.out; have := K2.out; omega
      have T2 : Hid (Mt v2 lo hi g j) := T0.out.mh M2.out
      obtain ⟨⟨y3, c3⟩, f3⟩ := T2.out.c3
      obtain ⟨⟨y4, c4⟩, f4⟩ := T2.out.c4
      obtain ⟨⟨y5, c5⟩, f5⟩ := T2.out.c5
      obtain ⟨⟨z6, c6⟩, f6⟩ := T2.out.c6
      obtain ⟨a7, m7, k7, c7, b7, l7⟩ := T2.out.c7
      have MB : Hid (Mb v2 lo hi 1 a7 m7 ∧ m7 ≤ 1048576) := ⟨b7, l7⟩
      have E2 : Hid (∀ u3 u4 u5 z, Mh lo hi v2 ((((v2.setCell ⟨g, j * 9 + 3, none⟩ (.bool u3)).setCell ⟨g, j * 9 + 4, none⟩ (.bool u4)).setCell ⟨g, j * 9 + 5, none⟩ (.bool u5)).setCell ⟨g, j * 9 + 6, none⟩ (.int .i64 z))) := fun u3 u4 u5 z => ((((Mh.refl lo hi v2).setB ⟨_, c3⟩ GG.out.1 GG.out.2 u3).setB ⟨_, c4⟩ GG.out.1 GG.out.2 u4).setB ⟨_, c5⟩ GG.out.1 GG.out.2 u5).setN ⟨_, c6⟩ GG.out.1 GG.out.2 z
      clear b7 l7
      go_wp2_with fail
      clear c3 f3 c4 f4 c5 f5 c6 f6 c7
      refine (mark_mb _ _ _ lo hi _ _ (MB.out.1.mh (E2.out _ _ _ _)) (by omega) (by have := KB.out; have := K2.out; have := MB.out.2; omega)).mono ?_
      rintro e v3 ⟨rfl, mm⟩
      have M3 : Hid (Mh lo hi wr v3) := M2.out.trans ((E2.out _ _ _ _).trans mm.mh)
      obtain ⟨k3, hk3⟩ : ∃ k3, k2 + 1 + 1 + 1 + 1 + (m7 : Int) = k3 := ⟨_, rfl⟩
      have K3 : Hid (kk ≤ k3 ∧ k3 ≤ kk + 3145733) := ⟨by have := K2.out; omega, by have := MB.out.2; have := K2.out; omega⟩
      rw [hk3]
      clear mm hk3 MB E2 p1 p2 K2
      have p1 : 0 ≤ k3 := by have := KB.out; have := K3.out; omega
      have p2 : k3 ≤ 4611686018427387904 := by have := KB.out; have := K3.out; omega
      have T3 : Hid (Mt v3 lo hi g j) := T0.out.mh M3.out
      obtain ⟨a8, m8, k8, c8, b8, l8⟩ := T3.out.c8
      have MB : Hid (Mb v3 lo hi 1 a8 m8 ∧ m8 ≤ 1048576) := ⟨b8, l8⟩
      clear b8 l8
      go_wp2_with fail
      clear c8
      refine (mark_mb _ _ _ lo hi _ _ MB.out.1 (by omega) (by have := KB.out; have := K3.out; have := MB.out.2; omega)).mono ?_
      rintro e v4 ⟨rfl, mm⟩
      have M4 : Hid (Mh lo hi w v4) := M0.out.trans (M3.out.trans mm.mh)
      obtain ⟨k4, hk4⟩ : ∃ k4, k3 + (m8 : Int) = k4 := ⟨_, rfl⟩
      have K4 : Hid (0 ≤ k4 ∧ k4 ≤ k + 5000000 * ((j + 1 : Nat) : Int)) := ⟨by omega, by have := MB.out.2; have := K3.out; have := KQ.out; omega⟩
      rw [hk4]
      clear mm hk4 MB p1 p2 K3
      go_wp2_with fail
      go_roundw
      case rel => exact ⟨j + 1, k4, by have := HL.out; omega, by go_num, rfl, K4.out.1, K4.out.2, M4.out⟩
      case measure => have := HL.out; simp [intOf]; omega
    · have hI : ¬ (j : Int) < (n : Int) := by omega
      clear hM hp hq
      go_wp2_with fail
      go_ret
      exact ⟨⟨kk, rfl, KQ.out.1, by have := KQ.out.2; have := NK.out; omega⟩, M0.out⟩
set_option maxHeartbeats 4000000 in
theorem mark_hostB (g0 g1 g2 g3 g4 g5 n0 n1 n2 n3 n4 n5 lo hi : Nat) (X : Hst) (u w : World) (h : Od u lo g0 g1 g2 g3 n0 n1 n2 n3 (.slice (some ⟨g4, 0, none⟩) n4 n4) (.slice (some ⟨g5, 0, none⟩) n5 n5) X) (ht : u.there g5 0 (n5 * 9)) (h1 : lo ≤ g5) (h2 : g5 < u.heap.size) (b : Below u.heap.size u w) (hs : Osm n0 n1 n2 n3 n4 n5 X) (hh : u.heap.size ≤ hi) :
    Calls Tryz.prog 12 #[.agg #[.slice (some ⟨g0, 0, none⟩) n0 n0, .slice (some ⟨g1, 0, none⟩) n1 n1, .slice (some ⟨g2, 0, none⟩) n2 n2, .slice (some ⟨g3, 0, none⟩) n3 n3, .slice (some ⟨g4, 0, none⟩) n4 n4, .slice (some ⟨g5, 0, none⟩) n5 n5, .int .i64 X.slot, .int .i64 X.left, .int .i64 X.clock], .int .i64 1] w fun e w' => (∃ r : Int, e = .returned (.int .i64 r) ∧ 0 ≤ r ∧ r ≤ 8000000000000) ∧ Mh lo hi w w' := by
  generalize hW : (w.alloc (.cells #[.slice (some ⟨g0, 0, none⟩) n0 n0, .slice (some ⟨g1, 0, none⟩) n1 n1, .slice (some ⟨g2, 0, none⟩) n2 n2, .slice (some ⟨g3, 0, none⟩) n3 n3, .slice (some ⟨g4, 0, none⟩) n4 n4, .slice (some ⟨g5, 0, none⟩) n5 n5, .int .i64 X.slot, .int .i64 X.left, .int .i64 X.clock] 40)) = W
  have B0 : Hid (Below u.heap.size u W) := by show Below _ _ _; rw [← hW]; exact al b _
  have MW : Hid (Mh lo hi w W) := by show Mh _ _ _ _; rw [← hW]; exact ((Mk.refl _ _ _).alloc _).mh
  obtain ⟨s, hS⟩ : ∃ s, w.heap.size = s := ⟨_, rfl⟩
  have Q : Hid (Vb W s #[.slice (some ⟨g0, 0, none⟩) n0 n0, .slice (some ⟨g1, 0, none⟩) n1 n1, .slice (some ⟨g2, 0, none⟩) n2 n2, .slice (some ⟨g3, 0, none⟩) n3 n3, .slice (some ⟨g4, 0, none⟩) n4 n4, .slice (some ⟨g5, 0, none⟩) n5 n5, .int .i64 X.slot, .int .i64 X.left, .int .i64 X.clock] 40) := by show Vb _ _ _ _; rw [← hW, ← hS]; exact Vb.new _ _ _
  have HM : Hid (Od u lo g0 g1 g2 g3 n0 n1 n2 n3 (.slice (some ⟨g4, 0, none⟩) n4 n4) (.slice (some ⟨g5, 0, none⟩) n5 n5) X) := h
  have HS : Hid (Osm n0 n1 n2 n3 n4 n5 X) := hs
  have HH : Hid (u.heap.size ≤ hi ∧ lo ≤ g5 ∧ g5 < u.heap.size) := ⟨hh, h1, h2⟩
  have N5 : n5 = X.harts.length := by
    obtain ⟨_, _, e, _⟩ := h.harts.shape
    injection e
  have HT : Hid (∀ j, j < n5 → Mt u lo hi g5 j) := hl_mt h.harts ht N5 hh hs.each
  clear h hs b hh h1 h2 ht N5
  have q0 := Q.out.cell 0 rfl
  have q1 := Q.out.cell 1 rfl
  have q2 := Q.out.cell 2 rfl
  have q3 := Q.out.cell 3 rfl
  go_enter Tryz.func12, Tryz.ntmps12
  go_wp2_with fail
  clear hW hS q0 q1 q2 q3
  refine (mark_policy _ _ _ _ _ _ _ _ lo hi X.pol u W HM.out.pol B0.out HS.out.pol HH.out.1).mono ?_
  rintro e w1 ⟨⟨r0, rfl, r0a, r0b⟩, m1⟩
  have R0 : Hid (0 ≤ r0 ∧ r0 ≤ 1100000000000) := ⟨r0a, r0b⟩
  have q4 := m1.other _ _ (Q.out.cell 4 rfl) (fun z e => by cases e)
  have M1 : Hid (Mk lo hi W w1) := m1
  clear m1 r0b r0a
  go_wp2_with fail
  clear q4
  refine (mark_mb _ _ _ lo hi _ _ ((((HM.out.mem.mb).stay B0.out).wide (Nat.le_refl _) HH.out.1).mk M1.out) R0.out.1 (by have := R0.out.2; have := HS.out.mem; omega)).mono ?_
  rintro e w2 ⟨rfl, m2⟩
  have M2 : Hid (Mh lo hi W w2) := M1.out.mh.trans m2.mh
  have q5 := M2.out.other _ _ (Q.out.cell 5 rfl) (fun z e => by cases e) (fun z e => by cases e)
  clear m2
  go_wp2_with fail
  clear q5
  refine (mark_hartS _ _ _ lo hi _ _ (fun j hj => ((HT.out j hj).stay B0.out).mh M2.out) HH.out.2.1 (by have := HH.out; omega) HS.out.len (by have := R0.out.1; omega) (by have := R0.out.2; have := HS.out.mem; omega)).mono ?_
  rintro e w3 ⟨⟨r, rfl, hr⟩, m3⟩
  have M3 : Hid (Mh lo hi w w3) := MW.out.trans (M2.out.trans m3)
  have HR : Hid (0 ≤ r ∧ r ≤ 8000000000000) := hr
  clear m3 hr
  go_wp2_with fail
  go_ret
  exact ⟨⟨r, rfl, HR.out.1, HR.out.2⟩, M3.out⟩
end Go.Proofs.YtggejbphdadckaaGreatDoor
