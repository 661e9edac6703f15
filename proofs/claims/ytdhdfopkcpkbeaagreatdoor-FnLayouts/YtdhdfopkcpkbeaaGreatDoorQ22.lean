/- Texts of this seat, joined. -/
import Derived.Deep.RegionWith
import Derived.Deep.Slices
import Derived.Test.YtdhdfopkcpkbeaaGreatDoorQ03
import Derived.Test.YtdhdfopkcpkbeaaGreatDoorQ04
import Derived.Test.YtdhdfopkcpkbeaaGreatDoorQ07
import Derived.Test.YtdhdfopkcpkbeaaGreatDoorQ08
import Derived.Test.YtdhdfopkcpkbeaaGreatDoorQ21
namespace Go.Proofs.YtdhdfopkcpkbeaaGreatDoor
open Go.RowKit

/-- In the world w block b is a source over the bytes zs, its count at k. -/
structure Src (w : World) (b k : Nat) (a : Option Addr) (len cap : Nat) (zs : List Int) : Prop where
  code : w.cell? ⟨b, 0, none⟩ = some (.slice a len cap)
  count : w.cell? ⟨b, 1, none⟩ = some (.int .i64 k)
  free : w.frozen? ⟨b, 1, none⟩ = false
  row : IsRow .u8 w a len cap zs
  away : ∀ x, a = some x → 0 < len → x.block < b
  here : b < w.heap.size

theorem src_block (x : Addr) (i : Nat) : (x.add i).block = x.block := by
  unfold Addr.add
  split <;> rfl
theorem add_plain (bk off i : Nat) : (⟨bk, off, none⟩ : Addr).add i = ⟨bk, off + i, none⟩ := by
  unfold Addr.add
  split
  · next h => subst h; rfl
  · rfl

theorem IsRow.turn {k : IntKind} {w w' : World} {a : Option Addr} {len cap b : Nat} {zs : List Int} (h : IsRow k w a len cap zs) (t : Turn b w w') (ha : ∀ x, a = some x → 0 < len → x.block < b) (hb : b ≤ w.heap.size) : IsRow k w' a len cap zs := by
  rcases h with h | ⟨x, rfl, h1, h2, h3, h4, h5⟩
  · exact .inl h
  · refine .inr ⟨x, rfl, h1, h2, h3, fun i hi => ?_, h5⟩
    have hx := ha x rfl (by omega)
    rw [t.cell (p := x.add i) (by rw [src_block]; omega) (by rw [src_block]; omega)]
    exact h4 i hi

theorem IsRow.block {k : IntKind} {w : World} {a : Option Addr} {len cap : Nat} {zs : List Int} (h : IsRow k w a len cap zs) : ∀ x, a = some x → 0 < len → x.block < w.heap.size := by
  intro x hx hc
  rcases h with ⟨h, _⟩ | ⟨y, rfl, h1, h2, h3, h4, h5⟩
  · rw [h] at hx; cases hx
  · have e : y = x := by simpa using hx
    subst e
    have hcell := h4 0 (by omega)
    have hb : (y.add 0).block = y.block := src_block y 0
    rw [← hb]
    apply Classical.byContradiction
    intro hn
    have hz : w.heap[(y.add 0).block]? = none := by simp; omega
    simp [World.cell?, hz] at hcell

theorem IsRow.below {k : IntKind} {w w' : World} {a : Option Addr} {len cap : Nat} {zs : List Int} (h : IsRow k w a len cap zs) (b : Below w.heap.size w w') : IsRow k w' a len cap zs :=
  h.turn (Turn.of_below (b := w.heap.size) b) h.block (Nat.le_refl _)

theorem Src.step {w : World} {b k : Nat} {a : Option Addr} {len cap : Nat} {zs : List Int} (s : Src w b k a len cap zs) (nq : Nat) :
    Src ((w.setCell ⟨b, 1, none⟩ (.int .i64 (k + 1))).drewN nq) b (k + 1) a len cap zs := by
  refine ⟨?_, ?_, ?_, s.row.turn (Turn.set b 1 w _ nq) s.away (Nat.le_of_lt s.here), s.away, ?_⟩
  · rw [World.cell?_drewN]
    have h := s.code
    simp [go_sem, h]
  · rw [World.cell?_drewN, World.cell?_setCell_same _ _ _ s.count]
    simp
  · show ((w.setCell ⟨b, 1, none⟩ _)).frozen? _ = false
    rw [World.frozen?_setCell]
    exact s.free
  · show b < (w.setCell ⟨b, 1, none⟩ _).heap.size
    simpa [World.setCell] using s.here

theorem Src.turn {w w' : World} {b k c : Nat} {a : Option Addr} {len cap : Nat} {zs : List Int} (s : Src w b k a len cap zs) (t : Turn c w w') (hc : w.heap.size ≤ c) : Src w' b k a len cap zs := by
  have h := s.here
  refine ⟨?_, ?_, ?_, ?_, s.away, Nat.lt_of_lt_of_le h t.size⟩
  · rw [t.cell (p := ⟨b, 0, none⟩) h (by show b ≠ c; omega)]; exact s.code
  · rw [t.cell (p := ⟨b, 1, none⟩) h (by show b ≠ c; omega)]; exact s.count
  · rw [t.frozen (p := ⟨b, 1, none⟩) h (by show b ≠ c; omega)]; exact s.free
  · rcases s.row with h | ⟨x, rfl, h1, h2, h3, h4, h5⟩
    · exact .inl h
    · refine .inr ⟨x, rfl, h1, h2, h3, fun i hi => ?_, h5⟩
      have hx := s.away x rfl (by omega)
      rw [t.cell (p := x.add i) (by rw [src_block]; omega) (by rw [src_block]; omega)]
      exact h4 i hi

theorem Src.alloc {w : World} {b k : Nat} {a : Option Addr} {len cap : Nat} {zs : List Int} (s : Src w b k a len cap zs) (o : Obj) : Src (w.alloc o) b k a len cap zs :=
  s.turn (Turn.alloc w.heap.size w o) (Nat.le_refl _)

theorem next_any {w : World} {b k : Nat} {a : Option Addr} {len cap : Nat} {zs : List Int} (s : Src w b k a len cap zs) (hk : k ≤ 100000) (n : Int) :
    Calls Tryz.prog 18 #[.pointer (some ⟨b, 0, none⟩), .int .i64 n] w fun e w' => ∃ v : Int, e = .returned (.int .i64 v) ∧ (1 ≤ n → 0 ≤ v ∧ v < n) ∧ (n < 1 → v = 0) ∧ Turn b w w' ∧ Src w' b (k + 1) a len cap zs := by
  by_cases hn : n < 1
  · refine (next_none b k n w hk hn s.count s.free).mono ?_
    rintro e w' ⟨v, rfl, hv, nq, rfl⟩
    exact ⟨v, rfl, fun h => by omega, fun _ => hv, Turn.set _ _ _ _ _, s.step nq⟩
  have hn1 : 1 ≤ n := by omega
  by_cases hl : len = 0
  · subst hl
    refine (next_nil b a cap k n w hk hn1 s.code s.count s.free).mono ?_
    rintro e w' ⟨v, rfl, hv, nq, rfl⟩
    exact ⟨v, rfl, fun _ => hv, fun h => by omega, Turn.set _ _ _ _ _, s.step nq⟩
  rcases s.row with ⟨_, h, _⟩ | ⟨x, rfl, h1, h2, h3, h4, h5⟩
  · exact absurd h hl
  obtain ⟨bx, off, spot⟩ := x
  have hspot : spot = none := by simpa [Addr.add] using World.cell?_spot (h4 0 (by omega))
  subst hspot
  have hz : ∀ i : Nat, 0 ≤ zs[i]?.getD 0 ∧ zs[i]?.getD 0 ≤ 255 := range_u8 h5
  refine (next_row b bx off len cap k n w zs hk hn1 (by omega) (by omega) (s.away _ rfl (by omega)) s.code s.count s.free (fun i hi => ?_) hz).mono ?_
  · rw [← add_plain]; exact h4 i (by omega)
  rintro e w' ⟨v, rfl, hv, nq, rfl⟩
  exact ⟨v, rfl, fun _ => hv, fun h => by omega, Turn.set _ _ _ _ _, s.step nq⟩

/-- A choice out of a list: one of its numbers. -/
theorem pick_any {w : World} {b k : Nat} {a : Option Addr} {len cap : Nat} {zs : List Int} (s : Src w b k a len cap zs) (hk : k ≤ 100000)
    (P : Int → Prop) (bl m : Nat) (hm : 0 < m) (hm2 : m ≤ 1000) (hbl : bl < w.heap.size) (hne : bl ≠ b)
    (hc : ∀ i, i < m → ∃ v : Int, w.cell? ⟨bl, i, none⟩ = some (.int .i64 v) ∧ P v) :
    Calls Tryz.prog 40 #[.pointer (some ⟨b, 0, none⟩), .slice (some ⟨bl, 0, none⟩) m m] w fun e w' => ∃ v : Int, e = .returned (.int .i64 v) ∧ P v ∧ Turn b w w' ∧ Src w' b (k + 1) a len cap zs := by
  have HC : Hid (∀ i, i < m → ∃ v : Int, w.cell? ⟨bl, i, none⟩ = some (.int .i64 v) ∧ P v) := hc
  clear hc
  go_enter Tryz.func40, Tryz.ntmps40
  go_wp2_with fail
  refine (next_any s hk _).mono ?_
  rintro e w' ⟨v, rfl, hv, -, ht, hs⟩
  obtain ⟨hv0, hv1⟩ := hv (by omega)
  clear hv
  obtain ⟨i, rfl⟩ := Int.eq_ofNat_of_zero_le hv0
  have hi : i < m := by omega
  obtain ⟨v, hcv, hp⟩ := HC.out i hi
  have hcw : w'.cell? ⟨bl, i, none⟩ = some (.int .i64 v) := by rw [ht.cell (p := ⟨bl, i, none⟩) hbl hne]; exact hcv
  clear hcv
  go_wp2
  go_ret
  exact ⟨v, rfl, hp, ht, hs⟩
end Go.Proofs.YtdhdfopkcpkbeaaGreatDoor
namespace Go.Proofs.YtdhdfopkcpkbeaaGreatDoor
open Go.RowKit

theorem source_any {w : World} {a : Option Addr} {len cap : Nat} {zs : List Int} (hr : IsRow .u8 w a len cap zs) :
    Calls Tryz.prog 15 #[.slice a len cap] w fun e w' => e = .returned (.pointer (some ⟨w.heap.size, 0, none⟩)) ∧ Below w.heap.size w w' ∧ Src w' w.heap.size 0 a len cap zs := by
  have HR : Hid (IsRow .u8 w a len cap zs) := hr
  clear hr
  go_enter Tryz.func15, Tryz.ntmps15
  go_wp2
  go_ret
  refine ⟨rfl, (Below.refl _ _).alloc (Nat.le_refl _) _, cell_new rfl, cell_new rfl, ?_, HR.out.turn (Turn.alloc w.heap.size w _) HR.out.block (Nat.le_refl _), HR.out.block, by simp⟩
  simp [go_sem]

def isWord (v : Int) : Prop := 0 ≤ v ∧ v ≤ 4294967295
def isWide (v : Int) : Prop := -9223372036854775808 ≤ v ∧ v ≤ 9223372036854775807

set_option maxHeartbeats 400000 in
theorem word_any {w : World} {b k : Nat} {a : Option Addr} {len cap : Nat} {zs : List Int} (s : Src w b k a len cap zs) (hk : k ≤ 90000) :
    Calls Tryz.prog 42 #[.pointer (some ⟨b, 0, none⟩)] w fun e w' => ∃ v : Int, e = .returned (.int .i64 v) ∧ isWord v ∧ Turn b w w' ∧ Src w' b (k + 5) a len cap zs := by
  go_enter Tryz.func42, Tryz.ntmps42
  go_wp2_with fail
  refine (next_any s (by omega) _).mono ?_
  rintro e w1 ⟨v1, rfl, h1, -, t1, s1⟩
  obtain ⟨l1, u1⟩ := h1 (by omega)
  clear h1
  go_wp2_with fail
  refine (next_any s1 (by omega) _).mono ?_
  rintro e w2 ⟨v2, rfl, h2, -, t2, s2⟩
  obtain ⟨l2, u2⟩ := h2 (by omega)
  clear h2
  go_wp2_with fail
  refine (next_any s2 (by omega) _).mono ?_
  rintro e w3 ⟨v3, rfl, h3, -, t3, s3⟩
  obtain ⟨l3, u3⟩ := h3 (by omega)
  clear h3
  go_wp2_with fail
  refine (next_any s3 (by omega) _).mono ?_
  rintro e w4 ⟨v4, rfl, h4, -, t4, s4⟩
  obtain ⟨l4, u4⟩ := h4 (by omega)
  clear h4
  go_wp2_with fail
  have hb := s4.here
  refine (pick_any (s4.alloc _) (by omega) isWord _ 7 (by omega) (by omega) (by simp) (by omega) ?_).mono ?_
  · intro i hi
    have : i = 0 ∨ i = 1 ∨ i = 2 ∨ i = 3 ∨ i = 4 ∨ i = 5 ∨ i = 6 := by omega
    rcases this with rfl | rfl | rfl | rfl | rfl | rfl | rfl
    all_goals exact ⟨_, cell_new rfl, by unfold isWord; omega⟩
  rintro e w5 ⟨v, rfl, hv, t5, s5⟩
  go_wp2
  go_ret
  exact ⟨v, rfl, hv, (((t1.trans t2).trans t3).trans t4).trans ((Turn.alloc b w4 _).trans t5), s5⟩

set_option maxHeartbeats 400000 in
theorem wide_any {w : World} {b k : Nat} {a : Option Addr} {len cap : Nat} {zs : List Int} (s : Src w b k a len cap zs) (hk : k ≤ 80000) :
    Calls Tryz.prog 19 #[.pointer (some ⟨b, 0, none⟩)] w fun e w' => ∃ v : Int, e = .returned (.int .i64 v) ∧ isWide v ∧ Turn b w w' ∧ Src w' b (k + 16) a len cap zs := by
  go_enter Tryz.func19, Tryz.ntmps19
  go_wp2_with fail
  refine (word_any s (by omega)).mono ?_
  rintro e w1 ⟨v1, rfl, h1, t1, s1⟩
  go_wp2_with fail
  refine (word_any s1 (by omega)).mono ?_
  rintro e w2 ⟨v2, rfl, h2, t2, s2⟩
  go_wp2_with fail
  refine (word_any s2 (by omega)).mono ?_
  rintro e w3 ⟨v3, rfl, h3, t3, s3⟩
  go_wp2_with fail
  have hb := s3.here
  refine (pick_any (s3.alloc _) (by omega) isWide _ 8 (by omega) (by omega) (by simp) (by omega) ?_).mono ?_
  · intro i hi
    have : i = 0 ∨ i = 1 ∨ i = 2 ∨ i = 3 ∨ i = 4 ∨ i = 5 ∨ i = 6 ∨ i = 7 := by omega
    unfold isWord at h1 h2 h3
    rcases this with rfl | rfl | rfl | rfl | rfl | rfl | rfl | rfl
    all_goals exact ⟨_, cell_new rfl, by unfold isWide; omega⟩
  rintro e w5 ⟨v, rfl, hv, t5, s5⟩
  go_wp2
  go_ret
  exact ⟨v, rfl, hv, ((t1.trans t2).trans t3).trans ((Turn.alloc b w3 _).trans t5), s5⟩

theorem chance_any {w : World} {b k : Nat} {a : Option Addr} {len cap : Nat} {zs : List Int} (s : Src w b k a len cap zs) (hk : k ≤ 100000) (n : Int) :
    Calls Tryz.prog 67 #[.pointer (some ⟨b, 0, none⟩), .int .i64 n] w fun e w' => ∃ v : Bool, e = .returned (.bool v) ∧ Turn b w w' ∧ Src w' b (k + 1) a len cap zs := by
  go_enter Tryz.func67, Tryz.ntmps67
  go_wp2_with fail
  refine (next_any s (by omega) _).mono ?_
  rintro e w1 ⟨v1, rfl, -, -, t1, s1⟩
  go_wp2
  go_ret
  exact ⟨_, rfl, t1, s1⟩

end Go.Proofs.YtdhdfopkcpkbeaaGreatDoor
namespace Go.Proofs.YtdhdfopkcpkbeaaGreatDoor
open Go.RowKit
set_option linter.unusedVariables false

theorem info_page : (Tryz.prog.info? 96).map (fun i => (i.zero, i.size, i.bytes)) = some (some (.agg #[.int .i64 0, .int .i64 0]), 2, 16) := by kernel_rfl

end Go.Proofs.YtdhdfopkcpkbeaaGreatDoor
namespace Go.Proofs.YtdhdfopkcpkbeaaGreatDoor
open Go.RowKit
set_option linter.unusedVariables false

theorem Prs.kept {e : TypeId} {w w' : World} {base : Nat} {v : Value} {rs : List (Int × Int)} {row : Option Nat} (h : Prs e w base v rs) (hg : w.grownBy w' row) (hne : v.ownBlock = none ∨ v.ownBlock ≠ row) : Prs e w' base v rs := World.ownsRow.kept h hg hne
theorem Prs.put {e : TypeId} {w : World} {base : Nat} {v : Value} {rs : List (Int × Int)} (h : Prs e w base v rs) (p : Addr) (u : Value) (hne : v.ownBlock ≠ some p.block) : Prs e (w.setCell p u) base v rs := h.kept (grown_set w p u) (.inr hne)
theorem Prs.mono {e : TypeId} {w : World} {base base' : Nat} {v : Value} {rs : List (Int × Int)} (h : Prs e w base v rs) (hb : base' ≤ base) : Prs e w base' v rs := by
  obtain ⟨h1, h2 | ⟨g, cap, cur, hv, hg, hr⟩⟩ := h
  · exact ⟨h1, .inl h2⟩
  · exact ⟨h1, .inr ⟨g, cap, cur, hv, Nat.le_trans hb hg, hr⟩⟩
end Go.Proofs.YtdhdfopkcpkbeaaGreatDoor
namespace Go.Proofs.YtdhdfopkcpkbeaaGreatDoor
open Go.RowKit
set_option linter.unusedVariables false

/-- From w to w' numbers alone have turned, and only in the blocks from lo on below hi. -/
structure Mk (lo hi : Nat) (w w' : World) : Prop where
  os : w'.os = w.os
  tape : w'.tape = w.tape
  output : w'.output = w.output
  size : w.heap.size ≤ w'.heap.size
  block : ∀ k, k < w.heap.size → (k < lo ∨ hi ≤ k) → w'.heap[k]? = w.heap[k]?
  other : ∀ p v, w.cell? p = some v → (∀ z, v ≠ .int .i64 z) → w'.cell? p = some v
  num : ∀ p z, w.cell? p = some (.int .i64 z) → ∃ z', w'.cell? p = some (.int .i64 z')
  free : ∀ p, p.block < w.heap.size → w'.frozen? p = w.frozen? p
theorem Mk.refl (lo hi : Nat) (w : World) : Mk lo hi w w := ⟨rfl, rfl, rfl, Nat.le_refl _, fun _ _ _ => rfl, fun _ _ h _ => h, fun _ z h => ⟨z, h⟩, fun _ _ => rfl⟩
theorem Mk.trans {lo hi : Nat} {a b c : World} (h : Mk lo hi a b) (k : Mk lo hi b c) : Mk lo hi a c :=
  ⟨k.os.trans h.os, k.tape.trans h.tape, k.output.trans h.output, Nat.le_trans h.size k.size,
   fun i hi hn => (k.block i (Nat.lt_of_lt_of_le hi h.size) hn).trans (h.block i hi hn),
   fun p v e n => k.other p v (h.other p v e n) n,
   fun p z e => by obtain ⟨z', e'⟩ := h.num p z e; exact k.num p z' e',
   fun p hp => (k.free p (Nat.lt_of_lt_of_le hp h.size)).trans (h.free p hp)⟩
theorem Mk.alloc {lo hi : Nat} {a w : World} (h : Mk lo hi a w) (o : Obj) : Mk lo hi a (w.alloc o) :=
  h.trans ⟨rfl, rfl, rfl, by simp, fun k hk _ => Below.heap_alloc _ _ _ hk, fun p v e _ => cell_push o e, fun p z e => ⟨z, cell_push o e⟩, fun p hp => World.frozen?_alloc_old _ _ p (Nat.ne_of_lt hp)⟩
theorem Mk.set {lo hi : Nat} {a w : World} (h : Mk lo hi a w) {p : Addr} {z0 : Int} (hc : w.cell? p = some (.int .i64 z0)) (h1 : lo ≤ p.block) (h2 : p.block < hi) (z : Int) : Mk lo hi a (w.setCell p (.int .i64 z)) := by
  refine h.trans ⟨rfl, rfl, rfl, by simp [World.setCell], fun k hk hn => Below.heap_setCell _ _ _ _ (by omega), fun q v e n => ?_, fun q z' e => ?_, fun q _ => World.frozen?_setCell ..⟩
  · rw [World.cell?_setCell_other _ _ _ _ (fun e2 => by subst e2; rw [hc] at e; cases e; exact n _ rfl)]
    exact e
  · by_cases e2 : p = q
    · subst e2
      exact ⟨z, World.cell?_setCell_same _ _ _ hc⟩
    · rw [World.cell?_setCell_other _ _ _ _ e2]
      exact ⟨z', e⟩
theorem Mk.below {lo hi : Nat} {a w w' : World} (h : Below a.heap.size a w) (m : Mk lo hi w w') (hl : a.heap.size ≤ lo) : Below a.heap.size a w' :=
  ⟨m.os.trans h.os, m.tape.trans h.tape, m.output.trans h.output, Nat.le_trans h.size m.size,
   fun k hk => (m.block k (Nat.lt_of_lt_of_le hk h.size) (.inl (by omega))).trans (h.block k hk)⟩
theorem Mk.cell {lo hi : Nat} {w w' : World} (m : Mk lo hi w w') {p : Addr} {v : Value} (h : w.cell? p = some v) (hp : p.block < lo ∨ hi ≤ p.block) : w'.cell? p = some v := by
  have hb := block_of_cell h
  unfold World.cell? at *
  rw [m.block _ hb hp]
  exact h
theorem Mk.row {lo hi base e sz n : Nat} {v : Value} {w w' : World} {xs : List Value} (m : Mk lo hi w w') (h : w.ownsRow base e sz v n xs) (hp : ∀ k, v.ownBlock = some k → k < lo ∨ hi ≤ k) : w'.ownsRow base e sz v n xs := by
  obtain ⟨h1, h2 | ⟨g, cap, cur, hv, hg, hr, rest⟩⟩ := h
  · exact ⟨h1, .inl h2⟩
  · refine ⟨h1, .inr ⟨g, cap, cur, hv, hg, ?_, rest⟩⟩
    rw [m.block g ((Array.getElem?_eq_some_iff.1 hr).1) (hp g (by subst hv; rfl))]
    exact hr

/-- A slice of numbers, or of structs of sz numbers, that may be marked: its block lies from lo on below hi. -/
def Mb (w : World) (lo hi sz : Nat) (a : Option Addr) (n : Nat) : Prop := 0 < n → ∃ g, a = some ⟨g, 0, none⟩ ∧ lo ≤ g ∧ g < hi ∧ ∀ i, i < n * sz → (∃ z, w.cell? ⟨g, i, none⟩ = some (.int .i64 z)) ∧ w.frozen? ⟨g, i, none⟩ = false
theorem Mb.mk {w w' : World} {lo hi sz n : Nat} {a : Option Addr} (h : Mb w lo hi sz a n) (m : Mk lo hi w w') : Mb w' lo hi sz a n := by
  intro hn
  obtain ⟨g, e, h1, h2, h3⟩ := h hn
  refine ⟨g, e, h1, h2, fun i hi => ?_⟩
  obtain ⟨⟨z, hz⟩, hf⟩ := h3 i hi
  exact ⟨m.num _ _ hz, by rw [m.free _ (block_of_cell hz)]; exact hf⟩
theorem Mb.stay {w w' : World} {lo hi sz n : Nat} {a : Option Addr} (h : Mb w lo hi sz a n) (b : Below w.heap.size w w') : Mb w' lo hi sz a n := by
  intro hn
  obtain ⟨g, e, h1, h2, h3⟩ := h hn
  refine ⟨g, e, h1, h2, fun i hi => ?_⟩
  obtain ⟨⟨z, hz⟩, hf⟩ := h3 i hi
  exact ⟨⟨z, cell_keep b hz⟩, by rw [b.frozen (p := ⟨g, i, none⟩) (block_of_cell hz)]; exact hf⟩
theorem Nums.mb {w : World} {base n c : Nat} {a : Option Addr} {zs : List Int} (h : Nums w base (.slice a n c) zs) : Mb w base w.heap.size 1 a n := by
  intro hn
  obtain ⟨a', cap', hv, l1, l2, hg⟩ := h.shape
  have hl := h.len
  obtain ⟨g, e⟩ := hg (by omega)
  cases hv
  subst e
  have hb := h.lt g rfl
  exact ⟨g, rfl, hb.1, hb.2, fun i hi => ⟨⟨_, h.cell rfl i (by omega)⟩, h.free rfl i⟩⟩
theorem Prs.mb {e : TypeId} {w : World} {base n c : Nat} {a : Option Addr} {rs : List (Int × Int)} (h : Prs e w base (.slice a n c) rs) : Mb w base w.heap.size 2 a n := by
  intro hn
  obtain ⟨a', cap', hv, l1, l2, hg⟩ := h.shape
  cases hv
  obtain ⟨g, rfl⟩ := hg hn
  have hb := h.lt g rfl
  refine ⟨g, rfl, hb.1, hb.2, fun i hi => ⟨?_, h.free rfl i⟩⟩
  have hc := h.cell rfl (i / 2) (by omega)
  have : i = i / 2 * 2 ∨ i = i / 2 * 2 + 1 := by omega
  rcases this with e | e
  · rw [e]; exact ⟨_, hc.1⟩
  · rw [e]; exact ⟨_, hc.2⟩
theorem Ls.mb {e : TypeId} {w : World} {base n c : Nat} {a : Option Addr} {rs : List Ln} (h : Ls e w base (.slice a n c) rs) : Mb w base w.heap.size 5 a n := by
  intro hn
  obtain ⟨a', cap', hv, l1, l2, hg⟩ := h.shape
  cases hv
  obtain ⟨g, rfl⟩ := hg hn
  have hb := h.lt g rfl
  refine ⟨g, rfl, hb.1, hb.2, fun i hi => ⟨?_, h.free rfl i⟩⟩
  have hc := h.cell rfl (i / 5) (by omega)
  have : i = i / 5 * 5 ∨ i = i / 5 * 5 + 1 ∨ i = i / 5 * 5 + 2 ∨ i = i / 5 * 5 + 3 ∨ i = i / 5 * 5 + 4 := by omega
  rcases this with e | e | e | e | e
  · rw [e]; exact ⟨_, hc.1⟩
  · rw [e]; exact ⟨_, hc.2.1⟩
  · rw [e]; exact ⟨_, hc.2.2.1⟩
  · rw [e]; exact ⟨_, hc.2.2.2.1⟩
  · rw [e]; exact ⟨_, hc.2.2.2.2⟩

end Go.Proofs.YtdhdfopkcpkbeaaGreatDoor
