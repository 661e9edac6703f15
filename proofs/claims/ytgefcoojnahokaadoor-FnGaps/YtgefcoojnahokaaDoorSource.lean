/- The source of draws as the draws use it: each call gives a number within its bounds and leaves the source with its count gone on. -/
import Derived.Test.YtgefcoojnahokaaDoorDraws
import Derived.Test.YtgefcoojnahokaaDoorCells
namespace Go.Proofs.YtgefcoojnahokaaDoor
open Go.RowKit

/-- In the world w block b is a source over the bytes zs, its count at k. -/
structure Src (w : World) (b k : Nat) (a : Option Addr) (len cap : Nat) (zs : List Int) : Prop where
  code : w.cell? ⟨b, 0, none⟩ = some (.slice a len cap)
  count : w.cell? ⟨b, 1, none⟩ = some (.int .i64 k)
  free : w.frozen? ⟨b, 1, none⟩ = false
  row : IsRow .u8 w a len cap zs
  away : ∀ x, a = some x → 0 < len → x.block < b
  here : b < w.heap.size

theorem src_block (x : Addr) (i : Nat) : (x.add i).block = x.block := by
  unfold Addr.add
  split <;> rfl
theorem add_plain (bk off i : Nat) : (⟨bk, off, none⟩ : Addr).add i = ⟨bk, off + i, none⟩ := by
  unfold Addr.add
  split
  · next h => subst h; rfl
  · rfl

theorem IsRow.turn {k : IntKind} {w w' : World} {a : Option Addr} {len cap b : Nat} {zs : List Int} (h : IsRow k w a len cap zs) (t : Turn b w w') (ha : ∀ x, a = some x → 0 < len → x.block < b) (hb : b ≤ w.heap.size) : IsRow k w' a len cap zs := by
  rcases h with h | ⟨x, rfl, h1, h2, h3, h4, h5⟩
  · exact .inl h
  · refine .inr ⟨x, rfl, h1, h2, h3, fun i hi => ?_, h5⟩
    have hx := ha x rfl (by omega)
    rw [t.cell (p := x.add i) (by rw [src_block]; omega) (by rw [src_block]; omega)]
    exact h4 i hi

theorem IsRow.block {k : IntKind} {w : World} {a : Option Addr} {len cap : Nat} {zs : List Int} (h : IsRow k w a len cap zs) : ∀ x, a = some x → 0 < len → x.block < w.heap.size := by
  intro x hx hc
  rcases h with ⟨h, _⟩ | ⟨y, rfl, h1, h2, h3, h4, h5⟩
  · rw [h] at hx; cases hx
  · have e : y = x := by simpa using hx
    subst e
    have hcell := h4 0 (by omega)
    have hb : (y.add 0).block = y.block := src_block y 0
    rw [← hb]
    apply Classical.byContradiction
    intro hn
    have hz : w.heap[(y.add 0).block]? = none := by simp; omega
    simp [World.cell?, hz] at hcell

theorem IsRow.below {k : IntKind} {w w' : World} {a : Option Addr} {len cap : Nat} {zs : List Int} (h : IsRow k w a len cap zs) (b : Below w.heap.size w w') : IsRow k w' a len cap zs :=
  h.turn (Turn.of_below (b := w.heap.size) b) h.block (Nat.le_refl _)

theorem Src.step {w : World} {b k : Nat} {a : Option Addr} {len cap : Nat} {zs : List Int} (s : Src w b k a len cap zs) (nq : Nat) :
    Src ((w.setCell ⟨b, 1, none⟩ (.int .i64 (k + 1))).drewN nq) b (k + 1) a len cap zs := by
  refine ⟨?_, ?_, ?_, s.row.turn (Turn.set b 1 w _ nq) s.away (Nat.le_of_lt s.here), s.away, ?_⟩
  · rw [World.cell?_drewN]
    have h := s.code
    simp [go_sem, h]
  · rw [World.cell?_drewN, World.cell?_setCell_same _ _ _ s.count]
    simp
  · show ((w.setCell ⟨b, 1, none⟩ _)).frozen? _ = false
    rw [World.frozen?_setCell]
    exact s.free
  · show b < (w.setCell ⟨b, 1, none⟩ _).heap.size
    simpa [World.setCell] using s.here

theorem Src.turn {w w' : World} {b k c : Nat} {a : Option Addr} {len cap : Nat} {zs : List Int} (s : Src w b k a len cap zs) (t : Turn c w w') (hc : w.heap.size ≤ c) : Src w' b k a len cap zs := by
  have h := s.here
  refine ⟨?_, ?_, ?_, ?_, s.away, Nat.lt_of_lt_of_le h t.size⟩
  · rw [t.cell (p := ⟨b, 0, none⟩) h (by show b ≠ c; omega)]; exact s.code
  · rw [t.cell (p := ⟨b, 1, none⟩) h (by show b ≠ c; omega)]; exact s.count
  · rw [t.frozen (p := ⟨b, 1, none⟩) h (by show b ≠ c; omega)]; exact s.free
  · rcases s.row with h | ⟨x, rfl, h1, h2, h3, h4, h5⟩
    · exact .inl h
    · refine .inr ⟨x, rfl, h1, h2, h3, fun i hi => ?_, h5⟩
      have hx := s.away x rfl (by omega)
      rw [t.cell (p := x.add i) (by rw [src_block]; omega) (by rw [src_block]; omega)]
      exact h4 i hi

theorem Src.alloc {w : World} {b k : Nat} {a : Option Addr} {len cap : Nat} {zs : List Int} (s : Src w b k a len cap zs) (o : Obj) : Src (w.alloc o) b k a len cap zs :=
  s.turn (Turn.alloc w.heap.size w o) (Nat.le_refl _)

theorem next_any {w : World} {b k : Nat} {a : Option Addr} {len cap : Nat} {zs : List Int} (s : Src w b k a len cap zs) (hk : k ≤ 100000) (n : Int) :
    Calls Tryd.prog 29 #[.pointer (some ⟨b, 0, none⟩), .int .i64 n] w fun e w' => ∃ v : Int, e = .returned (.int .i64 v) ∧ (1 ≤ n → 0 ≤ v ∧ v < n) ∧ (n < 1 → v = 0) ∧ Turn b w w' ∧ Src w' b (k + 1) a len cap zs := by
  by_cases hn : n < 1
  · refine (next_none b k n w hk hn s.count s.free).mono ?_
    rintro e w' ⟨v, rfl, hv, nq, rfl⟩
    exact ⟨v, rfl, fun h => by omega, fun _ => hv, Turn.set _ _ _ _ _, s.step nq⟩
  have hn1 : 1 ≤ n := by omega
  by_cases hl : len = 0
  · subst hl
    refine (next_nil b a cap k n w hk hn1 s.code s.count s.free).mono ?_
    rintro e w' ⟨v, rfl, hv, nq, rfl⟩
    exact ⟨v, rfl, fun _ => hv, fun h => by omega, Turn.set _ _ _ _ _, s.step nq⟩
  rcases s.row with ⟨_, h, _⟩ | ⟨x, rfl, h1, h2, h3, h4, h5⟩
  · exact absurd h hl
  obtain ⟨bx, off, spot⟩ := x
  have hspot : spot = none := by simpa [Addr.add] using World.cell?_spot (h4 0 (by omega))
  subst hspot
  have hz : ∀ i : Nat, 0 ≤ zs[i]?.getD 0 ∧ zs[i]?.getD 0 ≤ 255 := range_u8 h5
  refine (next_row b bx off len cap k n w zs hk hn1 (by omega) (by omega) (s.away _ rfl (by omega)) s.code s.count s.free (fun i hi => ?_) hz).mono ?_
  · rw [← add_plain]; exact h4 i (by omega)
  rintro e w' ⟨v, rfl, hv, nq, rfl⟩
  exact ⟨v, rfl, fun _ => hv, fun h => by omega, Turn.set _ _ _ _ _, s.step nq⟩

/-- A choice out of a list: one of its numbers. -/
theorem pick_any {w : World} {b k : Nat} {a : Option Addr} {len cap : Nat} {zs : List Int} (s : Src w b k a len cap zs) (hk : k ≤ 100000)
    (P : Int → Prop) (bl m : Nat) (hm : 0 < m) (hm2 : m ≤ 1000) (hbl : bl < w.heap.size) (hne : bl ≠ b)
    (hc : ∀ i, i < m → ∃ v : Int, w.cell? ⟨bl, i, none⟩ = some (.int .i64 v) ∧ P v) :
    Calls Tryd.prog 21 #[.pointer (some ⟨b, 0, none⟩), .slice (some ⟨bl, 0, none⟩) m m] w fun e w' => ∃ v : Int, e = .returned (.int .i64 v) ∧ P v ∧ Turn b w w' ∧ Src w' b (k + 1) a len cap zs := by
  have HC : Hid (∀ i, i < m → ∃ v : Int, w.cell? ⟨bl, i, none⟩ = some (.int .i64 v) ∧ P v) := hc
  clear hc
  go_enter Tryd.func21, Tryd.ntmps21
  go_wp2_with fail
  refine (next_any s hk _).mono ?_
  rintro e w' ⟨v, rfl, hv, -, ht, hs⟩
  obtain ⟨hv0, hv1⟩ := hv (by omega)
  clear hv
  obtain ⟨i, rfl⟩ := Int.eq_ofNat_of_zero_le hv0
  have hi : i < m := by omega
  obtain ⟨v, hcv, hp⟩ := HC.out i hi
  have hcw : w'.cell? ⟨bl, i, none⟩ = some (.int .i64 v) := by rw [ht.cell (p := ⟨bl, i, none⟩) hbl hne]; exact hcv
  clear hcv
  go_wp2
  go_ret
  exact ⟨v, rfl, hp, ht, hs⟩
end Go.Proofs.YtgefcoojnahokaaDoor
