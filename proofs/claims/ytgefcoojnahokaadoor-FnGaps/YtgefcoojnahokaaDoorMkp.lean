/- What marking an argument leaves: numbers alone turn, and only in the argument's own blocks. -/
import Derived.Test.YtgefcoojnahokaaDoorPlt
namespace Go.Proofs.YtgefcoojnahokaaDoor
open Go.RowKit
set_option linter.unusedVariables false

/-- From w to w' numbers alone have turned, and only in the blocks from lo on below hi. -/
structure Mk (lo hi : Nat) (w w' : World) : Prop where
  os : w'.os = w.os
  tape : w'.tape = w.tape
  output : w'.output = w.output
  size : w.heap.size ≤ w'.heap.size
  block : ∀ k, k < w.heap.size → (k < lo ∨ hi ≤ k) → w'.heap[k]? = w.heap[k]?
  other : ∀ p v, w.cell? p = some v → (∀ z, v ≠ .int .i64 z) → w'.cell? p = some v
  num : ∀ p z, w.cell? p = some (.int .i64 z) → ∃ z', w'.cell? p = some (.int .i64 z')
  free : ∀ p, p.block < w.heap.size → w'.frozen? p = w.frozen? p
theorem Mk.refl (lo hi : Nat) (w : World) : Mk lo hi w w := ⟨rfl, rfl, rfl, Nat.le_refl _, fun _ _ _ => rfl, fun _ _ h _ => h, fun _ z h => ⟨z, h⟩, fun _ _ => rfl⟩
theorem Mk.trans {lo hi : Nat} {a b c : World} (h : Mk lo hi a b) (k : Mk lo hi b c) : Mk lo hi a c :=
  ⟨k.os.trans h.os, k.tape.trans h.tape, k.output.trans h.output, Nat.le_trans h.size k.size,
   fun i hi hn => (k.block i (Nat.lt_of_lt_of_le hi h.size) hn).trans (h.block i hi hn),
   fun p v e n => k.other p v (h.other p v e n) n,
   fun p z e => by obtain ⟨z', e'⟩ := h.num p z e; exact k.num p z' e',
   fun p hp => (k.free p (Nat.lt_of_lt_of_le hp h.size)).trans (h.free p hp)⟩
theorem Mk.alloc {lo hi : Nat} {a w : World} (h : Mk lo hi a w) (o : Obj) : Mk lo hi a (w.alloc o) :=
  h.trans ⟨rfl, rfl, rfl, by simp, fun k hk _ => Below.heap_alloc _ _ _ hk, fun p v e _ => cell_push o e, fun p z e => ⟨z, cell_push o e⟩, fun p hp => World.frozen?_alloc_old _ _ p (Nat.ne_of_lt hp)⟩
theorem Mk.set {lo hi : Nat} {a w : World} (h : Mk lo hi a w) {p : Addr} {z0 : Int} (hc : w.cell? p = some (.int .i64 z0)) (h1 : lo ≤ p.block) (h2 : p.block < hi) (z : Int) : Mk lo hi a (w.setCell p (.int .i64 z)) := by
  refine h.trans ⟨rfl, rfl, rfl, by simp [World.setCell], fun k hk hn => Below.heap_setCell _ _ _ _ (by omega), fun q v e n => ?_, fun q z' e => ?_, fun q _ => World.frozen?_setCell ..⟩
  · rw [World.cell?_setCell_other _ _ _ _ (fun e2 => by subst e2; rw [hc] at e; cases e; exact n _ rfl)]
    exact e
  · by_cases e2 : p = q
    · subst e2
      exact ⟨z, World.cell?_setCell_same _ _ _ hc⟩
    · rw [World.cell?_setCell_other _ _ _ _ e2]
      exact ⟨z', e⟩
theorem Mk.below {lo hi : Nat} {a w w' : World} (h : Below a.heap.size a w) (m : Mk lo hi w w') (hl : a.heap.size ≤ lo) : Below a.heap.size a w' :=
  ⟨m.os.trans h.os, m.tape.trans h.tape, m.output.trans h.output, Nat.le_trans h.size m.size,
   fun k hk => (m.block k (Nat.lt_of_lt_of_le hk h.size) (.inl (by omega))).trans (h.block k hk)⟩
theorem Mk.cell {lo hi : Nat} {w w' : World} (m : Mk lo hi w w') {p : Addr} {v : Value} (h : w.cell? p = some v) (hp : p.block < lo ∨ hi ≤ p.block) : w'.cell? p = some v := by
  have hb := block_of_cell h
  unfold World.cell? at *
  rw [m.block _ hb hp]
  exact h
theorem Mk.row {lo hi base e sz n : Nat} {v : Value} {w w' : World} {xs : List Value} (m : Mk lo hi w w') (h : w.ownsRow base e sz v n xs) (hp : ∀ k, v.ownBlock = some k → k < lo ∨ hi ≤ k) : w'.ownsRow base e sz v n xs := by
  obtain ⟨h1, h2 | ⟨g, cap, cur, hv, hg, hr, rest⟩⟩ := h
  · exact ⟨h1, .inl h2⟩
  · refine ⟨h1, .inr ⟨g, cap, cur, hv, hg, ?_, rest⟩⟩
    rw [m.block g ((Array.getElem?_eq_some_iff.1 hr).1) (hp g (by subst hv; rfl))]
    exact hr

/-- A slice of numbers, or of structs of sz numbers, that may be marked: its block lies from lo on below hi. -/
def Mb (w : World) (lo hi sz : Nat) (a : Option Addr) (n : Nat) : Prop := 0 < n → ∃ g, a = some ⟨g, 0, none⟩ ∧ lo ≤ g ∧ g < hi ∧ ∀ i, i < n * sz → (∃ z, w.cell? ⟨g, i, none⟩ = some (.int .i64 z)) ∧ w.frozen? ⟨g, i, none⟩ = false
theorem Mb.mk {w w' : World} {lo hi sz n : Nat} {a : Option Addr} (h : Mb w lo hi sz a n) (m : Mk lo hi w w') : Mb w' lo hi sz a n := by
  intro hn
  obtain ⟨g, e, h1, h2, h3⟩ := h hn
  refine ⟨g, e, h1, h2, fun i hi => ?_⟩
  obtain ⟨⟨z, hz⟩, hf⟩ := h3 i hi
  exact ⟨m.num _ _ hz, by rw [m.free _ (block_of_cell hz)]; exact hf⟩
theorem Mb.stay {w w' : World} {lo hi sz n : Nat} {a : Option Addr} (h : Mb w lo hi sz a n) (b : Below w.heap.size w w') : Mb w' lo hi sz a n := by
  intro hn
  obtain ⟨g, e, h1, h2, h3⟩ := h hn
  refine ⟨g, e, h1, h2, fun i hi => ?_⟩
  obtain ⟨⟨z, hz⟩, hf⟩ := h3 i hi
  exact ⟨⟨z, cell_keep b hz⟩, by rw [b.frozen (p := ⟨g, i, none⟩) (block_of_cell hz)]; exact hf⟩
theorem Mb.wide {w : World} {lo hi lo' hi' sz n : Nat} {a : Option Addr} (h : Mb w lo hi sz a n) (h1 : lo' ≤ lo) (h2 : hi ≤ hi') : Mb w lo' hi' sz a n := by
  intro hn
  obtain ⟨g, e, k1, k2, k3⟩ := h hn
  exact ⟨g, e, Nat.le_trans h1 k1, Nat.lt_of_lt_of_le k2 h2, k3⟩
theorem Nums.mb {w : World} {base n c : Nat} {a : Option Addr} {zs : List Int} (h : Nums w base (.slice a n c) zs) : Mb w base w.heap.size 1 a n := by
  intro hn
  obtain ⟨a', cap', hv, l1, l2, hg⟩ := h.shape
  have hl := h.len
  obtain ⟨g, e⟩ := hg (by omega)
  cases hv
  subst e
  have hb := h.lt g rfl
  exact ⟨g, rfl, hb.1, hb.2, fun i hi => ⟨⟨_, h.cell rfl i (by omega)⟩, h.free rfl i⟩⟩
theorem Prs.mb {e : TypeId} {w : World} {base n c : Nat} {a : Option Addr} {rs : List (Int × Int)} (h : Prs e w base (.slice a n c) rs) : Mb w base w.heap.size 2 a n := by
  intro hn
  obtain ⟨a', cap', hv, l1, l2, hg⟩ := h.shape
  cases hv
  obtain ⟨g, rfl⟩ := hg hn
  have hb := h.lt g rfl
  refine ⟨g, rfl, hb.1, hb.2, fun i hi => ⟨?_, h.free rfl i⟩⟩
  have hc := h.cell rfl (i / 2) (by omega)
  have : i = i / 2 * 2 ∨ i = i / 2 * 2 + 1 := by omega
  rcases this with e | e
  · rw [e]; exact ⟨_, hc.1⟩
  · rw [e]; exact ⟨_, hc.2⟩
theorem Ls.mb {e : TypeId} {w : World} {base n c : Nat} {a : Option Addr} {rs : List Ln} (h : Ls e w base (.slice a n c) rs) : Mb w base w.heap.size 5 a n := by
  intro hn
  obtain ⟨a', cap', hv, l1, l2, hg⟩ := h.shape
  cases hv
  obtain ⟨g, rfl⟩ := hg hn
  have hb := h.lt g rfl
  refine ⟨g, rfl, hb.1, hb.2, fun i hi => ⟨?_, h.free rfl i⟩⟩
  have hc := h.cell rfl (i / 5) (by omega)
  have : i = i / 5 * 5 ∨ i = i / 5 * 5 + 1 ∨ i = i / 5 * 5 + 2 ∨ i = i / 5 * 5 + 3 ∨ i = i / 5 * 5 + 4 := by omega
  rcases this with e | e | e | e | e
  · rw [e]; exact ⟨_, hc.1⟩
  · rw [e]; exact ⟨_, hc.2.1⟩
  · rw [e]; exact ⟨_, hc.2.2.1⟩
  · rw [e]; exact ⟨_, hc.2.2.2.1⟩
  · rw [e]; exact ⟨_, hc.2.2.2.2⟩

/-- A slice of slices that may be marked. -/
structure Sb (w : World) (lo hi g n : Nat) : Prop where
  row : ∀ i, i < n → ∃ b l c, w.cell? ⟨g, i, none⟩ = some (.slice b l c) ∧ Mb w lo hi 1 b l ∧ l ≤ 1048576
theorem Sb.mked {w w' : World} {lo hi g n : Nat} (h : Sb w lo hi g n) (m : Mk lo hi w w') : Sb w' lo hi g n :=
  ⟨fun i hi => by obtain ⟨b, l, c, k1, k2, k3⟩ := h.row i hi; exact ⟨b, l, c, m.other _ _ k1 (fun z e => by cases e), k2.mk m, k3⟩⟩
theorem Sb.wide {w : World} {lo hi lo' hi' g n : Nat} (h : Sb w lo hi g n) (h1 : lo' ≤ lo) (h2 : hi ≤ hi') : Sb w lo' hi' g n :=
  ⟨fun i hi => by obtain ⟨b, l, c, k1, k2, k3⟩ := h.row i hi; exact ⟨b, l, c, k1, k2.wide h1 h2, k3⟩⟩
theorem SSo.sb {w u : World} {base g n : Nat} {oss : List (List Int)} (h : SSo u base g n oss) (b : Below u.heap.size u w) (hs : ∀ i, i < n → (oss.getD i []).length ≤ 1048576) : Sb w base u.heap.size g n :=
  ⟨fun i hi => by
    obtain ⟨x, l, c, k1, k2⟩ := h.row i hi
    exact ⟨x, l, c, cell_keep b k1, k2.mb.stay b, by rw [k2.len]; exact hs i hi⟩⟩

end Go.Proofs.YtgefcoojnahokaaDoor
