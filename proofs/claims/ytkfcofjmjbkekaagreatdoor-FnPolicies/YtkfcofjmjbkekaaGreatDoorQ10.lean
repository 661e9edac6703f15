/- Texts of this seat, joined. -/
import Derived.Deep.QuietTactic
import Derived.BigQuiet
import Derived.Test.YtkfcofjmjbkekaaGreatDoorQ01
import Derived.Test.YtkfcofjmjbkekaaGreatDoorQ04
import Derived.Test.YtkfcofjmjbkekaaGreatDoorQ07
import Derived.Test.YtkfcofjmjbkekaaGreatDoorQ08
import Derived.Test.YtkfcofjmjbkekaaGreatDoorQ09
namespace Go.Proofs.YtkfcofjmjbkekaaGreatDoor
open Go.RowKit

/-- Of all blocks that were there, only block b may have turned. -/
structure Turn (b : Nat) (w w' : World) : Prop where
  os : w'.os = w.os
  tape : w'.tape = w.tape
  output : w'.output = w.output
  size : w.heap.size ≤ w'.heap.size
  block : ∀ k, k < w.heap.size → k ≠ b → w'.heap[k]? = w.heap[k]?

theorem Turn.refl (b : Nat) (w : World) : Turn b w w := ⟨rfl, rfl, rfl, Nat.le_refl _, fun _ _ _ => rfl⟩
theorem Turn.trans {b : Nat} {x y z : World} (h : Turn b x y) (k : Turn b y z) : Turn b x z :=
  ⟨k.os.trans h.os, k.tape.trans h.tape, k.output.trans h.output, Nat.le_trans h.size k.size, fun i hi hb => (k.block i (Nat.lt_of_lt_of_le hi h.size) hb).trans (h.block i hi hb)⟩
theorem Turn.below {b B : Nat} {w w' : World} (h : Turn b w w') (h1 : B ≤ b) (h2 : B ≤ w.heap.size) : Below B w w' :=
  ⟨h.os, h.tape, h.output, h.size, fun k hk => h.block k (by omega) (by omega)⟩
theorem Turn.of_below {b : Nat} {w w' : World} (h : Below w.heap.size w w') : Turn b w w' :=
  ⟨h.os, h.tape, h.output, h.size, fun k hk _ => h.block k hk⟩
theorem Turn.alloc (b : Nat) (w : World) (o : Obj) : Turn b w (w.alloc o) := Turn.of_below ((Below.refl _ _).alloc (Nat.le_refl _) o)
theorem Turn.set (b o : Nat) (w : World) (v : Value) (nq : Nat) : Turn b w ((w.setCell ⟨b, o, none⟩ v).drewN nq) :=
  ⟨rfl, rfl, rfl, by simp [World.setCell, World.drewN], fun k _ hk => Below.heap_setCell w ⟨b, o, none⟩ v k hk⟩
theorem Turn.cell {b : Nat} {w w' : World} (h : Turn b w w') {p : Addr} (hp : p.block < w.heap.size) (hb : p.block ≠ b) : w'.cell? p = w.cell? p :=
  World.cell?_of_block (w := w) (h.block p.block hp hb)
theorem Turn.frozen {b : Nat} {w w' : World} (h : Turn b w w') {p : Addr} (hp : p.block < w.heap.size) (hb : p.block ≠ b) : w'.frozen? p = w.frozen? p :=
  World.frozen?_of_block (w := w) (h.block p.block hp hb)

theorem tmod_in {x n : Int} (hx : 0 ≤ x) (hn : 1 ≤ n) : 0 ≤ x.tmod n ∧ x.tmod n < n := by
  rw [Int.tmod_eq_emod_of_nonneg hx]
  exact ⟨Int.emod_nonneg _ (by omega), Int.emod_lt_of_pos _ (by omega)⟩
theorem wrap64_id {n : Int} (h : -9223372036854775808 ≤ n ∧ n ≤ 9223372036854775807) : wrap64 n = n := by unfold wrap64; omega
theorem quot_in {k len : Int} (hk : 0 ≤ k ∧ k ≤ 100000) (hl : 1 ≤ len) : 0 ≤ k / len ∧ k / len ≤ 100000 :=
  ⟨Int.ediv_nonneg hk.1 (by omega), Int.le_trans (Int.ediv_le_self _ hk.1) hk.2⟩
theorem next_val {z k len : Int} (hz : 0 ≤ z ∧ z ≤ 255) (hk : 0 ≤ k ∧ k ≤ 100000) (hl : 1 ≤ len) :
    0 ≤ wrap64 (wrap64 z + wrap64 (wrap64 (k / len) * 37)) ∧ wrap64 (wrap64 z + wrap64 (wrap64 (k / len) * 37)) ≤ 3700255 := by
  have h := quot_in hk hl
  generalize k / len = q at h
  rw [wrap64_id (n := z) (by omega), wrap64_id (n := q) (by omega), wrap64_id (n := q * 37) (by omega), wrap64_id (by omega)]
  omega
theorem next_val2 {v z k : Int} (hv : 0 ≤ v ∧ v ≤ 3700255) (hz : 0 ≤ z ∧ z ≤ 255) (hk : 0 ≤ k ∧ k ≤ 100000) :
    0 ≤ wrap64 (wrap64 (wrap64 (v * 251) + wrap64 (wrap64 z * 13)) + k) := by
  rw [wrap64_id (n := z) (by omega), wrap64_id (n := v * 251) (by omega), wrap64_id (n := z * 13) (by omega), wrap64_id (n := v * 251 + z * 13) (by omega), wrap64_id (by omega)]
  omega

/-- A number below 1 is asked for. -/
theorem next_none (b : Nat) (k : Nat) (n : Int) (w : World) (hk : k ≤ 100000) (hn : n < 1)
    (h1 : w.cell? ⟨b, 1, none⟩ = some (.int .i64 k)) (hfz : w.frozen? ⟨b, 1, none⟩ = false) :
    Calls Tryz.prog 29 #[.pointer (some ⟨b, 0, none⟩), .int .i64 n] w fun e w' => ∃ v : Int, e = .returned (.int .i64 v) ∧ v = 0 ∧ ∃ nq : Nat, w' = (w.setCell ⟨b, 1, none⟩ (.int .i64 (k + 1))).drewN nq := by
  go_enter Tryz.func29, Tryz.ntmps29
  go_wp2
  go_ret
  exact ⟨0, rfl, rfl, 0, rfl⟩

/-- There are no bytes. -/
theorem next_nil (b : Nat) (a : Option Addr) (cap : Nat) (k : Nat) (n : Int) (w : World) (hk : k ≤ 100000) (hn : 1 ≤ n)
    (h0 : w.cell? ⟨b, 0, none⟩ = some (.slice a 0 cap))
    (h1 : w.cell? ⟨b, 1, none⟩ = some (.int .i64 k)) (hfz : w.frozen? ⟨b, 1, none⟩ = false) :
    Calls Tryz.prog 29 #[.pointer (some ⟨b, 0, none⟩), .int .i64 n] w fun e w' => ∃ v : Int, e = .returned (.int .i64 v) ∧ (0 ≤ v ∧ v < n) ∧ ∃ nq : Nat, w' = (w.setCell ⟨b, 1, none⟩ (.int .i64 (k + 1))).drewN nq := by
  have g1 : ¬ n < 1 := by omega
  have g2 : ¬ n = 0 := by omega
  go_enter Tryz.func29, Tryz.ntmps29
  go_wp2
  go_ret
  exact ⟨_, rfl, ⟨Int.emod_nonneg _ (by omega), Int.emod_lt_of_pos _ (by omega)⟩, 0, rfl⟩

set_option maxHeartbeats 400000 in
theorem next_row (b bx off len cap : Nat) (k : Nat) (n : Int) (w : World) (zs : List Int)
    (hk : k ≤ 100000) (hn : 1 ≤ n) (hl : 0 < len) (hl2 : len ≤ maxLen)
    (hb : bx < b)
    (h0 : w.cell? ⟨b, 0, none⟩ = some (.slice (some ⟨bx, off, none⟩) len cap))
    (h1 : w.cell? ⟨b, 1, none⟩ = some (.int .i64 k))
    (hfz : w.frozen? ⟨b, 1, none⟩ = false)
    (hc : ∀ i, i < len → w.cell? ⟨bx, off + i, none⟩ = some (.int .u8 (zs.getD i 0)))
    (hz : ∀ i : Nat, 0 ≤ zs[i]?.getD 0 ∧ zs[i]?.getD 0 ≤ 255) :
    Calls Tryz.prog 29 #[.pointer (some ⟨b, 0, none⟩), .int .i64 n] w fun e w' => ∃ v : Int, e = .returned (.int .i64 v) ∧ (0 ≤ v ∧ v < n) ∧ ∃ nq : Nat, w' = (w.setCell ⟨b, 1, none⟩ (.int .i64 (k + 1))).drewN nq := by
  unfold maxLen at hl2
  have hl3 : (0 : Int) < (len : Int) := by omega
  have hne : ((len : Int) == 0) = false := by simp; omega
  have g1 : ¬ n < 1 := by omega
  have e1 : (0 : Int) ≤ (k : Int) % (len : Int) := Int.emod_nonneg _ (by omega)
  have e2 : (k : Int) % (len : Int) < (len : Int) := Int.emod_lt_of_pos _ hl3
  have e3 : (0 : Int) ≤ ((k : Int) + 1) % (len : Int) := Int.emod_nonneg _ (by omega)
  have e4 : ((k : Int) + 1) % (len : Int) < (len : Int) := Int.emod_lt_of_pos _ hl3
  have hcx := hc (k % len) (Nat.mod_lt _ hl)
  have hcy := hc ((k + 1) % len) (Nat.mod_lt _ hl)
  have HZ : Hid (∀ i : Nat, 0 ≤ zs[i]?.getD 0 ∧ zs[i]?.getD 0 ≤ 255) := hz
  clear hz hc
  by_cases g2 : n ≤ 200
  · have g3 : ¬ 200 < n := by omega
    go_enter Tryz.func29, Tryz.ntmps29
    go_wp2_with fail
    go_quiet (fail)
    go_wp2
    go_ret
    exact ⟨_, rfl, tmod_in (next_val (HZ.out _) (by omega) (by omega)).1 hn, _, rfl⟩
  · have g3 : 200 < n := by omega
    go_enter Tryz.func29, Tryz.ntmps29
    go_wp2_with fail
    go_quiet (fail)
    go_wp2_with fail
    go_quiet (fail)
    go_wp2
    go_ret
    exact ⟨_, rfl, tmod_in (next_val2 (next_val (HZ.out _) (by omega) (by omega)) (HZ.out _) (by omega)) hn, _, rfl⟩
end Go.Proofs.YtkfcofjmjbkekaaGreatDoor
namespace Go.Proofs.YtkfcofjmjbkekaaGreatDoor
open Go.RowKit

/-- In the world w block b is a source over the bytes zs, its count at k. -/
structure Src (w : World) (b k : Nat) (a : Option Addr) (len cap : Nat) (zs : List Int) : Prop where
  code : w.cell? ⟨b, 0, none⟩ = some (.slice a len cap)
  count : w.cell? ⟨b, 1, none⟩ = some (.int .i64 k)
  free : w.frozen? ⟨b, 1, none⟩ = false
  row : IsRow .u8 w a len cap zs
  away : ∀ x, a = some x → 0 < len → x.block < b
  here : b < w.heap.size

theorem src_block (x : Addr) (i : Nat) : (x.add i).block = x.block := by
  unfold Addr.add
  split <;> rfl
theorem add_plain (bk off i : Nat) : (⟨bk, off, none⟩ : Addr).add i = ⟨bk, off + i, none⟩ := by
  unfold Addr.add
  split
  · next h => subst h; rfl
  · rfl

theorem IsRow.turn {k : IntKind} {w w' : World} {a : Option Addr} {len cap b : Nat} {zs : List Int} (h : IsRow k w a len cap zs) (t : Turn b w w') (ha : ∀ x, a = some x → 0 < len → x.block < b) (hb : b ≤ w.heap.size) : IsRow k w' a len cap zs := by
  rcases h with h | ⟨x, rfl, h1, h2, h3, h4, h5⟩
  · exact .inl h
  · refine .inr ⟨x, rfl, h1, h2, h3, fun i hi => ?_, h5⟩
    have hx := ha x rfl (by omega)
    rw [t.cell (p := x.add i) (by rw [src_block]; omega) (by rw [src_block]; omega)]
    exact h4 i hi

theorem IsRow.block {k : IntKind} {w : World} {a : Option Addr} {len cap : Nat} {zs : List Int} (h : IsRow k w a len cap zs) : ∀ x, a = some x → 0 < len → x.block < w.heap.size := by
  intro x hx hc
  rcases h with ⟨h, _⟩ | ⟨y, rfl, h1, h2, h3, h4, h5⟩
  · rw [h] at hx; cases hx
  · have e : y = x := by simpa using hx
    subst e
    have hcell := h4 0 (by omega)
    have hb : (y.add 0).block = y.block := src_block y 0
    rw [← hb]
    apply Classical.byContradiction
    intro hn
    have hz : w.heap[(y.add 0).block]? = none := by simp; omega
    simp [World.cell?, hz] at hcell

theorem IsRow.below {k : IntKind} {w w' : World} {a : Option Addr} {len cap : Nat} {zs : List Int} (h : IsRow k w a len cap zs) (b : Below w.heap.size w w') : IsRow k w' a len cap zs :=
  h.turn (Turn.of_below (b := w.heap.size) b) h.block (Nat.le_refl _)

theorem Src.step {w : World} {b k : Nat} {a : Option Addr} {len cap : Nat} {zs : List Int} (s : Src w b k a len cap zs) (nq : Nat) :
    Src ((w.setCell ⟨b, 1, none⟩ (.int .i64 (k + 1))).drewN nq) b (k + 1) a len cap zs := by
  refine ⟨?_, ?_, ?_, s.row.turn (Turn.set b 1 w _ nq) s.away (Nat.le_of_lt s.here), s.away, ?_⟩
  · rw [World.cell?_drewN]
    have h := s.code
    simp [go_sem, h]
  · rw [World.cell?_drewN, World.cell?_setCell_same _ _ _ s.count]
    simp
  · show ((w.setCell ⟨b, 1, none⟩ _)).frozen? _ = false
    rw [World.frozen?_setCell]
    exact s.free
  · show b < (w.setCell ⟨b, 1, none⟩ _).heap.size
    simpa [World.setCell] using s.here

theorem Src.turn {w w' : World} {b k c : Nat} {a : Option Addr} {len cap : Nat} {zs : List Int} (s : Src w b k a len cap zs) (t : Turn c w w') (hc : w.heap.size ≤ c) : Src w' b k a len cap zs := by
  have h := s.here
  refine ⟨?_, ?_, ?_, ?_, s.away, Nat.lt_of_lt_of_le h t.size⟩
  · rw [t.cell (p := ⟨b, 0, none⟩) h (by show b ≠ c; omega)]; exact s.code
  · rw [t.cell (p := ⟨b, 1, none⟩) h (by show b ≠ c; omega)]; exact s.count
  · rw [t.frozen (p := ⟨b, 1, none⟩) h (by show b ≠ c; omega)]; exact s.free
  · rcases s.row with h | ⟨x, rfl, h1, h2, h3, h4, h5⟩
    · exact .inl h
    · refine .inr ⟨x, rfl, h1, h2, h3, fun i hi => ?_, h5⟩
      have hx := s.away x rfl (by omega)
      rw [t.cell (p := x.add i) (by rw [src_block]; omega) (by rw [src_block]; omega)]
      exact h4 i hi

theorem Src.alloc {w : World} {b k : Nat} {a : Option Addr} {len cap : Nat} {zs : List Int} (s : Src w b k a len cap zs) (o : Obj) : Src (w.alloc o) b k a len cap zs :=
  s.turn (Turn.alloc w.heap.size w o) (Nat.le_refl _)

theorem next_any {w : World} {b k : Nat} {a : Option Addr} {len cap : Nat} {zs : List Int} (s : Src w b k a len cap zs) (hk : k ≤ 100000) (n : Int) :
    Calls Tryz.prog 29 #[.pointer (some ⟨b, 0, none⟩), .int .i64 n] w fun e w' => ∃ v : Int, e = .returned (.int .i64 v) ∧ (1 ≤ n → 0 ≤ v ∧ v < n) ∧ (n < 1 → v = 0) ∧ Turn b w w' ∧ Src w' b (k + 1) a len cap zs := by
  by_cases hn : n < 1
  · refine (next_none b k n w hk hn s.count s.free).mono ?_
    rintro e w' ⟨v, rfl, hv, nq, rfl⟩
    exact ⟨v, rfl, fun h => by omega, fun _ => hv, Turn.set _ _ _ _ _, s.step nq⟩
  have hn1 : 1 ≤ n := by omega
  by_cases hl : len = 0
  · subst hl
    refine (next_nil b a cap k n w hk hn1 s.code s.count s.free).mono ?_
    rintro e w' ⟨v, rfl, hv, nq, rfl⟩
    exact ⟨v, rfl, fun _ => hv, fun h => by omega, Turn.set _ _ _ _ _, s.step nq⟩
  rcases s.row with ⟨_, h, _⟩ | ⟨x, rfl, h1, h2, h3, h4, h5⟩
  · exact absurd h hl
  obtain ⟨bx, off, spot⟩ := x
  have hspot : spot = none := by simpa [Addr.add] using World.cell?_spot (h4 0 (by omega))
  subst hspot
  have hz : ∀ i : Nat, 0 ≤ zs[i]?.getD 0 ∧ zs[i]?.getD 0 ≤ 255 := range_u8 h5
  refine (next_row b bx off len cap k n w zs hk hn1 (by omega) (by omega) (s.away _ rfl (by omega)) s.code s.count s.free (fun i hi => ?_) hz).mono ?_
  · rw [← add_plain]; exact h4 i (by omega)
  rintro e w' ⟨v, rfl, hv, nq, rfl⟩
  exact ⟨v, rfl, fun _ => hv, fun h => by omega, Turn.set _ _ _ _ _, s.step nq⟩

/-- A choice out of a list: one of its numbers. -/
theorem pick_any {w : World} {b k : Nat} {a : Option Addr} {len cap : Nat} {zs : List Int} (s : Src w b k a len cap zs) (hk : k ≤ 100000)
    (P : Int → Prop) (bl m : Nat) (hm : 0 < m) (hm2 : m ≤ 1000) (hbl : bl < w.heap.size) (hne : bl ≠ b)
    (hc : ∀ i, i < m → ∃ v : Int, w.cell? ⟨bl, i, none⟩ = some (.int .i64 v) ∧ P v) :
    Calls Tryz.prog 30 #[.pointer (some ⟨b, 0, none⟩), .slice (some ⟨bl, 0, none⟩) m m] w fun e w' => ∃ v : Int, e = .returned (.int .i64 v) ∧ P v ∧ Turn b w w' ∧ Src w' b (k + 1) a len cap zs := by
  have HC : Hid (∀ i, i < m → ∃ v : Int, w.cell? ⟨bl, i, none⟩ = some (.int .i64 v) ∧ P v) := hc
  clear hc
  go_enter Tryz.func30, Tryz.ntmps30
  go_wp2_with fail
  refine (next_any s hk _).mono ?_
  rintro e w' ⟨v, rfl, hv, -, ht, hs⟩
  obtain ⟨hv0, hv1⟩ := hv (by omega)
  clear hv
  obtain ⟨i, rfl⟩ := Int.eq_ofNat_of_zero_le hv0
  have hi : i < m := by omega
  obtain ⟨v, hcv, hp⟩ := HC.out i hi
  have hcw : w'.cell? ⟨bl, i, none⟩ = some (.int .i64 v) := by rw [ht.cell (p := ⟨bl, i, none⟩) hbl hne]; exact hcv
  clear hcv
  go_wp2
  go_ret
  exact ⟨v, rfl, hp, ht, hs⟩
end Go.Proofs.YtkfcofjmjbkekaaGreatDoor
namespace Go.Proofs.YtkfcofjmjbkekaaGreatDoor
open Go.RowKit

theorem source_any {w : World} {a : Option Addr} {len cap : Nat} {zs : List Int} (hr : IsRow .u8 w a len cap zs) :
    Calls Tryz.prog 11 #[.slice a len cap] w fun e w' => e = .returned (.pointer (some ⟨w.heap.size, 0, none⟩)) ∧ Below w.heap.size w w' ∧ Src w' w.heap.size 0 a len cap zs := by
  have HR : Hid (IsRow .u8 w a len cap zs) := hr
  clear hr
  go_enter Tryz.func11, Tryz.ntmps11
  go_wp2
  go_ret
  refine ⟨rfl, (Below.refl _ _).alloc (Nat.le_refl _) _, cell_new rfl, cell_new rfl, ?_, HR.out.turn (Turn.alloc w.heap.size w _) HR.out.block (Nat.le_refl _), HR.out.block, by simp⟩
  simp [go_sem]

theorem chance_any {w : World} {b k : Nat} {a : Option Addr} {len cap : Nat} {zs : List Int} (s : Src w b k a len cap zs) (hk : k ≤ 100000) (n : Int) :
    Calls Tryz.prog 14 #[.pointer (some ⟨b, 0, none⟩), .int .i64 n] w fun e w' => ∃ v : Bool, e = .returned (.bool v) ∧ Turn b w w' ∧ Src w' b (k + 1) a len cap zs := by
  go_enter Tryz.func14, Tryz.ntmps14
  go_wp2_with fail
  refine (next_any s (by omega) _).mono ?_
  rintro e w1 ⟨v1, rfl, -, -, t1, s1⟩
  go_wp2
  go_ret
  exact ⟨_, rfl, t1, s1⟩

end Go.Proofs.YtkfcofjmjbkekaaGreatDoor
namespace Go.Proofs.YtkfcofjmjbkekaaGreatDoor
open Go.RowKit
set_option linter.unusedVariables false

theorem Prs.kept {e : TypeId} {w w' : World} {base : Nat} {v : Value} {rs : List (Int × Int)} {row : Option Nat} (h : Prs e w base v rs) (hg : w.grownBy w' row) (hne : v.ownBlock = none ∨ v.ownBlock ≠ row) : Prs e w' base v rs := World.ownsRow.kept h hg hne
theorem Prs.put {e : TypeId} {w : World} {base : Nat} {v : Value} {rs : List (Int × Int)} (h : Prs e w base v rs) (p : Addr) (u : Value) (hne : v.ownBlock ≠ some p.block) : Prs e (w.setCell p u) base v rs := h.kept (grown_set w p u) (.inr hne)
theorem Prs.mono {e : TypeId} {w : World} {base base' : Nat} {v : Value} {rs : List (Int × Int)} (h : Prs e w base v rs) (hb : base' ≤ base) : Prs e w base' v rs := by
  obtain ⟨h1, h2 | ⟨g, cap, cur, hv, hg, hr⟩⟩ := h
  · exact ⟨h1, .inl h2⟩
  · exact ⟨h1, .inr ⟨g, cap, cur, hv, Nat.le_trans hb hg, hr⟩⟩
end Go.Proofs.YtkfcofjmjbkekaaGreatDoor
namespace Go.Proofs.YtkfcofjmjbkekaaGreatDoor
open Go.RowKit
set_option linter.unusedVariables false

theorem code_nil (w : World) : Calls Tryz.prog 18 #[.nilIface] w fun e w' => e = .returned (.int .i64 0) ∧ Below w.heap.size w w' := by
  go_enter Tryz.func18, Tryz.ntmps18
  go_wp2_with (go_at_call 41; refine (as_nil _ _).mono ?_; rintro e w' ⟨rfl, rfl⟩)
  go_ret
  exact ⟨rfl, al (Below.refl _ _) _⟩
set_option maxHeartbeats 1000000 in
theorem code_hit (c : Int) (w : World) (hg : w.cell? ⟨1, 0, none⟩ = some (.iface 137 (.agg #[.pointer (some ⟨10, 45, none⟩)]))) :
    Calls Tryz.prog 18 #[.iface 81 (.agg #[.int .i64 c])] w fun e w' => e = .returned (.int .i64 c) ∧ Below w.heap.size w w' := by
  have hgA : Hid (_ = _) := cell_push (.cells #[.int .i64 0] 81) hg
  have htA : Hid ((w.alloc (.cells #[.int .i64 0] 81)).cell? ⟨w.heap.size, 0, none⟩ = some (.int .i64 0)) := cell_new rfl
  have hfA : Hid ((w.alloc (.cells #[.int .i64 0] 81)).frozen? ⟨w.heap.size, 0, none⟩ = false) := by show _ = _; simp
  clear hg
  have AS : Calls Tryz.prog 41 #[.iface 81 (.agg #[.int .i64 c]), .iface 87 (.pointer (some ⟨w.heap.size, 0, none⟩))] (w.alloc (.cells #[.int .i64 0] 81)) fun e w' => e = .returned (.bool true) ∧ w'.cell? ⟨w.heap.size, 0, none⟩ = some (.int .i64 c) ∧ Below w.heap.size w w' := (as_hit c ⟨w.heap.size, 0, none⟩ (.int .i64 0) (w.alloc (.cells #[.int .i64 0] 81)) hgA.out htA.out hfA.out).mono (by
    rintro e w' ⟨h1, w1, b1, rfl⟩
    exact ⟨h1, World.cell?_setCell_same _ _ _ (cell_keep b1 htA.out), (on (al (Below.refl _ _) _) b1).setCell (by simp) _⟩)
  go_enter Tryz.func18, Tryz.ntmps18
  go_wp2_with (go_at_call 41; refine AS.mono ?_; rintro e w' ⟨rfl, k1, B1⟩)
  go_ret
  exact ⟨rfl, B1⟩
end Go.Proofs.YtkfcofjmjbkekaaGreatDoor
namespace Go.Proofs.YtkfcofjmjbkekaaGreatDoor
open Go.RowKit
set_option linter.unusedVariables false

theorem IsSS.at {w : World} {a : Option Addr} {len cap : Nat} {oss : List (List Int)} (h : IsSS w a len cap oss) (i : Nat) (hi : i < len) : ∃ x b l c, a = some x ∧ w.cell? (x.add i) = some (.slice b l c) ∧ IsRow .i64 w b l c (oss.getD i []) := by
  rcases h with ⟨_, h1, _, _⟩ | ⟨x, rfl, h1, h2, h3, h4⟩
  · omega
  · obtain ⟨b, l, c, k1, k2⟩ := h4 i hi
    exact ⟨x, b, l, c, rfl, k1, k2⟩

/-- A slice of slices that was made: its row, and each of its slices, at base or behind it. -/
structure SSo (w : World) (base g n : Nat) (oss : List (List Int)) : Prop where
  len : n = oss.length
  small : n ≤ 1048576
  low : base ≤ g
  row : ∀ i, i < n → ∃ b l c, w.cell? ⟨g, i, none⟩ = some (.slice b l c) ∧ Nums w base (.slice b l c) (oss.getD i [])
theorem SSo.keep {w w' : World} {base g n : Nat} {oss : List (List Int)} (h : SSo w base g n oss) (b : Below w.heap.size w w') : SSo w' base g n oss :=
  ⟨h.len, h.small, h.low, fun i hi => by
    obtain ⟨x, l, c, k1, k2⟩ := h.row i hi
    exact ⟨x, l, c, cell_keep b k1, k2.keep b⟩⟩
theorem SSo.read {w : World} {base g n : Nat} {oss : List (List Int)} (h : SSo w base g n oss) : IsS2 w (some ⟨g, 0, none⟩) n n oss :=
  .inr ⟨⟨g, 0, none⟩, rfl, Nat.le_refl _, by have := h.small; unfold maxLen; omega, h.len.symm, fun i hi => by
    obtain ⟨x, l, c, k1, k2⟩ := h.row i hi
    exact ⟨x, l, c, by simpa [Addr.add_lit] using k1, k2.read⟩⟩

theorem info_sl : (Tryz.prog.info? 53).map (fun i => (i.zero, i.size, i.bytes)) = some (some (.slice none 0 0), 1, 24) := by kernel_rfl

end Go.Proofs.YtkfcofjmjbkekaaGreatDoor
namespace Go.Proofs.YtkfcofjmjbkekaaGreatDoor
open Go.RowKit
set_option linter.unusedVariables false

/-- A policy that came in. -/
structure Pin (w : World) (a0 : Option Addr) (n0 c0 : Nat) (a1 : Option Addr) (n1 c1 : Nat) (a2 : Option Addr) (n2 c2 : Nat) (a3 : Option Addr) (n3 c3 : Nat) (P : Plc) : Prop where
  own : IsSS w a0 n0 c0 P.own
  lanes : IsLanes w a1 n1 c1 P.lanes
  bells : IsPairs w a2 n2 c2 P.bells
  plan : IsPairs w a3 n3 c3 P.plan
theorem Pin.stay {w w' : World} {a0 a1 a2 a3 : Option Addr} {n0 c0 n1 c1 n2 c2 n3 c3 : Nat} {P : Plc} (h : Pin w a0 n0 c0 a1 n1 c1 a2 n2 c2 a3 n3 c3 P) (b : Below w.heap.size w w') : Pin w' a0 n0 c0 a1 n1 c1 a2 n2 c2 a3 n3 c3 P :=
  ⟨h.own.stay b, h.lanes.stay b, h.bells.stay b, h.plan.stay b⟩
/-- A policy that was made. -/
structure Mde (w : World) (base g0 g1 g2 g3 n0 n1 n2 n3 : Nat) (P : Plc) : Prop where
  own : SSo w base g0 n0 P.own
  lanes : Ls 58 w base (.slice (some ⟨g1, 0, none⟩) n1 n1) P.lanes
  bells : Prs 60 w base (.slice (some ⟨g2, 0, none⟩) n2 n2) P.bells
  plan : Prs 62 w base (.slice (some ⟨g3, 0, none⟩) n3 n3) P.plan
theorem Mde.keep {w w' : World} {base g0 g1 g2 g3 n0 n1 n2 n3 : Nat} {P : Plc} (h : Mde w base g0 g1 g2 g3 n0 n1 n2 n3 P) (b : Below w.heap.size w w') : Mde w' base g0 g1 g2 g3 n0 n1 n2 n3 P :=
  ⟨h.own.keep b, h.lanes.keep b, h.bells.keep b, h.plan.keep b⟩
theorem Mde.pl {w : World} {base g0 g1 g2 g3 n0 n1 n2 n3 : Nat} {P : Plc} (h : Mde w base g0 g1 g2 g3 n0 n1 n2 n3 P) : Pl w (some ⟨g0, 0, none⟩) n0 n0 (some ⟨g1, 0, none⟩) n1 n1 (some ⟨g2, 0, none⟩) n2 n2 (some ⟨g3, 0, none⟩) n3 n3 P :=
  ⟨h.own.read, h.lanes.read, h.bells.read, h.plan.read⟩
theorem SSo.mono {w : World} {base base' g n : Nat} {oss : List (List Int)} (h : SSo w base g n oss) (hb : base' ≤ base) : SSo w base' g n oss :=
  ⟨h.len, h.small, Nat.le_trans hb h.low, fun i hi => by
    obtain ⟨x, l, c, k1, k2⟩ := h.row i hi
    exact ⟨x, l, c, k1, k2.mono hb⟩⟩
theorem Ls.mono {e : TypeId} {w : World} {base base' : Nat} {v : Value} {rs : List Ln} (h : Ls e w base v rs) (hb : base' ≤ base) : Ls e w base' v rs := by
  obtain ⟨h1, h2 | ⟨g, cap, cur, hv, hg, hr⟩⟩ := h
  · exact ⟨h1, .inl h2⟩
  · exact ⟨h1, .inr ⟨g, cap, cur, hv, Nat.le_trans hb hg, hr⟩⟩
/-- From one world to another: blocks from base on stay. -/
structure Hi (base : Nat) (w w' : World) : Prop where
  size : w.heap.size ≤ w'.heap.size
  block : ∀ k, base ≤ k → k < w.heap.size → w'.heap[k]? = w.heap[k]?
theorem Hi.refl (base : Nat) (w : World) : Hi base w w := ⟨Nat.le_refl _, fun _ _ _ => rfl⟩
theorem Hi.trans {base : Nat} {a b c : World} (h : Hi base a b) (k : Hi base b c) : Hi base a c :=
  ⟨Nat.le_trans h.size k.size, fun i hb hi => (k.block i hb (Nat.lt_of_lt_of_le hi h.size)).trans (h.block i hb hi)⟩
theorem Hi.of {base : Nat} {w w' : World} (h : Below w.heap.size w w') : Hi base w w' := ⟨h.size, fun k _ hk => h.block k hk⟩
theorem Hi.set {base : Nat} (w : World) (p : Addr) (u : Value) (h : p.block < base) : Hi base w (w.setCell p u) :=
  ⟨(grown_set w p u).size, fun k hb hk => (grown_set w p u).block k hk (fun e => by cases e; omega)⟩
theorem cell_hi {base : Nat} {w w' : World} (H : Hi base w w') {p : Addr} {v : Value} (hp : base ≤ p.block) (h : w.cell? p = some v) : w'.cell? p = some v := by
  have hb := block_of_cell h
  unfold World.cell? at *
  rw [H.block _ hp hb]
  exact h
theorem row_hi {base e sz n : Nat} {v : Value} {w w' : World} {xs : List Value} (h : w.ownsRow base e sz v n xs) (H : Hi base w w') : w'.ownsRow base e sz v n xs := by
  obtain ⟨h1, h2 | ⟨g, cap, cur, hv, hg, hr, rest⟩⟩ := h
  · exact ⟨h1, .inl h2⟩
  · refine ⟨h1, .inr ⟨g, cap, cur, hv, hg, ?_, rest⟩⟩
    rw [H.block g hg ((Array.getElem?_eq_some_iff.1 hr).1)]
    exact hr
theorem SSo.hi {w w' : World} {base g n : Nat} {oss : List (List Int)} (h : SSo w base g n oss) (H : Hi base w w') : SSo w' base g n oss :=
  ⟨h.len, h.small, h.low, fun i hi => by
    obtain ⟨x, l, c, k1, k2⟩ := h.row i hi
    exact ⟨x, l, c, cell_hi H h.low k1, row_hi k2 H⟩⟩

/-- What toPolicy has under way: the policy that came in (A), the answer's place, and what is made so far (x). -/
structure Stt (v : World) (s : Nat) (A x : Nat → Value) : Prop where
  A : ∀ i, i < 4 → v.cell? ⟨s, i, none⟩ = some (A i)
  O : ∀ i, i < 4 → v.cell? ⟨s + 1 + 1, i, none⟩ = some (x i) ∧ v.frozen? ⟨s + 1 + 1, i, none⟩ = false
  R : ∀ i, i < 4 → v.cell? ⟨s + 1, i, none⟩ = some (.slice none 0 0) ∧ v.frozen? ⟨s + 1, i, none⟩ = false
  lt : s + 1 + 1 < v.heap.size
theorem Stt.keep {v v' : World} {s : Nat} {A x : Nat → Value} (h : Stt v s A x) (b : Below v.heap.size v v') : Stt v' s A x :=
  ⟨fun i hi => cell_keep b (h.A i hi),
   fun i hi => ⟨cell_keep b (h.O i hi).1, by rw [b.frozen (p := ⟨s + 1 + 1, i, none⟩) h.lt]; exact (h.O i hi).2⟩,
   fun i hi => ⟨cell_keep b (h.R i hi).1, by rw [b.frozen (p := ⟨s + 1, i, none⟩) (by have := h.lt; show s + 1 < _; omega)]; exact (h.R i hi).2⟩,
   Nat.lt_of_lt_of_le h.lt b.size⟩
theorem Stt.put {v : World} {s : Nat} {A x : Nat → Value} (h : Stt v s A x) (j : Nat) (hj : j < 4) (u : Value) : Stt (v.setCell ⟨s + 1 + 1, j, none⟩ u) s A (fun i => if i = j then u else x i) := by
  refine ⟨fun i hi => ?_, fun i hi => ⟨?_, by rw [World.frozen?_setCell]; exact (h.O i hi).2⟩, fun i hi => ⟨?_, by rw [World.frozen?_setCell]; exact (h.R i hi).2⟩, Nat.lt_of_lt_of_le h.lt (grown_set v _ u).size⟩
  · rw [World.cell?_setCell_other _ _ _ _ (by intro e; have := congrArg Addr.block e; simp at this; omega)]
    exact h.A i hi
  · by_cases e : i = j
    · subst e
      rw [if_pos rfl]
      exact World.cell?_setCell_same _ _ _ (h.O i hi).1
    · rw [if_neg e, World.cell?_setCell_other _ _ _ _ (by intro h; cases h; exact e rfl)]
      exact (h.O i hi).1
  · rw [World.cell?_setCell_other _ _ _ _ (by intro e; have := congrArg Addr.block e; simp at this)]
    exact (h.R i hi).1
theorem row_up {base base' e sz n : Nat} {v : Value} {w : World} {xs : List Value} (h : w.ownsRow base e sz v n xs) (hb : base' ≤ base) : w.ownsRow base' e sz v n xs := by
  obtain ⟨h1, h2 | ⟨g, cap, cur, hv, hg, hr⟩⟩ := h
  · exact ⟨h1, .inl h2⟩
  · exact ⟨h1, .inr ⟨g, cap, cur, hv, Nat.le_trans hb hg, hr⟩⟩

end Go.Proofs.YtkfcofjmjbkekaaGreatDoor
namespace Go.Proofs.YtkfcofjmjbkekaaGreatDoor
open Go.RowKit
set_option linter.unusedVariables false

/-- From w to w' numbers alone have turned, and only in the blocks from lo on below hi. -/
structure Mk (lo hi : Nat) (w w' : World) : Prop where
  os : w'.os = w.os
  tape : w'.tape = w.tape
  output : w'.output = w.output
  size : w.heap.size ≤ w'.heap.size
  block : ∀ k, k < w.heap.size → (k < lo ∨ hi ≤ k) → w'.heap[k]? = w.heap[k]?
  other : ∀ p v, w.cell? p = some v → (∀ z, v ≠ .int .i64 z) → w'.cell? p = some v
  num : ∀ p z, w.cell? p = some (.int .i64 z) → ∃ z', w'.cell? p = some (.int .i64 z')
  free : ∀ p, p.block < w.heap.size → w'.frozen? p = w.frozen? p
theorem Mk.refl (lo hi : Nat) (w : World) : Mk lo hi w w := ⟨rfl, rfl, rfl, Nat.le_refl _, fun _ _ _ => rfl, fun _ _ h _ => h, fun _ z h => ⟨z, h⟩, fun _ _ => rfl⟩
theorem Mk.trans {lo hi : Nat} {a b c : World} (h : Mk lo hi a b) (k : Mk lo hi b c) : Mk lo hi a c :=
  ⟨k.os.trans h.os, k.tape.trans h.tape, k.output.trans h.output, Nat.le_trans h.size k.size,
   fun i hi hn => (k.block i (Nat.lt_of_lt_of_le hi h.size) hn).trans (h.block i hi hn),
   fun p v e n => k.other p v (h.other p v e n) n,
   fun p z e => by obtain ⟨z', e'⟩ := h.num p z e; exact k.num p z' e',
   fun p hp => (k.free p (Nat.lt_of_lt_of_le hp h.size)).trans (h.free p hp)⟩
theorem Mk.alloc {lo hi : Nat} {a w : World} (h : Mk lo hi a w) (o : Obj) : Mk lo hi a (w.alloc o) :=
  h.trans ⟨rfl, rfl, rfl, by simp, fun k hk _ => Below.heap_alloc _ _ _ hk, fun p v e _ => cell_push o e, fun p z e => ⟨z, cell_push o e⟩, fun p hp => World.frozen?_alloc_old _ _ p (Nat.ne_of_lt hp)⟩
theorem Mk.set {lo hi : Nat} {a w : World} (h : Mk lo hi a w) {p : Addr} {z0 : Int} (hc : w.cell? p = some (.int .i64 z0)) (h1 : lo ≤ p.block) (h2 : p.block < hi) (z : Int) : Mk lo hi a (w.setCell p (.int .i64 z)) := by
  refine h.trans ⟨rfl, rfl, rfl, by simp [World.setCell], fun k hk hn => Below.heap_setCell _ _ _ _ (by omega), fun q v e n => ?_, fun q z' e => ?_, fun q _ => World.frozen?_setCell ..⟩
  · rw [World.cell?_setCell_other _ _ _ _ (fun e2 => by subst e2; rw [hc] at e; cases e; exact n _ rfl)]
    exact e
  · by_cases e2 : p = q
    · subst e2
      exact ⟨z, World.cell?_setCell_same _ _ _ hc⟩
    · rw [World.cell?_setCell_other _ _ _ _ e2]
      exact ⟨z', e⟩
theorem Mk.below {lo hi : Nat} {a w w' : World} (h : Below a.heap.size a w) (m : Mk lo hi w w') (hl : a.heap.size ≤ lo) : Below a.heap.size a w' :=
  ⟨m.os.trans h.os, m.tape.trans h.tape, m.output.trans h.output, Nat.le_trans h.size m.size,
   fun k hk => (m.block k (Nat.lt_of_lt_of_le hk h.size) (.inl (by omega))).trans (h.block k hk)⟩
theorem Mk.cell {lo hi : Nat} {w w' : World} (m : Mk lo hi w w') {p : Addr} {v : Value} (h : w.cell? p = some v) (hp : p.block < lo ∨ hi ≤ p.block) : w'.cell? p = some v := by
  have hb := block_of_cell h
  unfold World.cell? at *
  rw [m.block _ hb hp]
  exact h
theorem Mk.row {lo hi base e sz n : Nat} {v : Value} {w w' : World} {xs : List Value} (m : Mk lo hi w w') (h : w.ownsRow base e sz v n xs) (hp : ∀ k, v.ownBlock = some k → k < lo ∨ hi ≤ k) : w'.ownsRow base e sz v n xs := by
  obtain ⟨h1, h2 | ⟨g, cap, cur, hv, hg, hr, rest⟩⟩ := h
  · exact ⟨h1, .inl h2⟩
  · refine ⟨h1, .inr ⟨g, cap, cur, hv, hg, ?_, rest⟩⟩
    rw [m.block g ((Array.getElem?_eq_some_iff.1 hr).1) (hp g (by subst hv; rfl))]
    exact hr

/-- A slice of numbers, or of structs of sz numbers, that may be marked: its block lies from lo on below hi. -/
def Mb (w : World) (lo hi sz : Nat) (a : Option Addr) (n : Nat) : Prop := 0 < n → ∃ g, a = some ⟨g, 0, none⟩ ∧ lo ≤ g ∧ g < hi ∧ ∀ i, i < n * sz → (∃ z, w.cell? ⟨g, i, none⟩ = some (.int .i64 z)) ∧ w.frozen? ⟨g, i, none⟩ = false
theorem Mb.mk {w w' : World} {lo hi sz n : Nat} {a : Option Addr} (h : Mb w lo hi sz a n) (m : Mk lo hi w w') : Mb w' lo hi sz a n := by
  intro hn
  obtain ⟨g, e, h1, h2, h3⟩ := h hn
  refine ⟨g, e, h1, h2, fun i hi => ?_⟩
  obtain ⟨⟨z, hz⟩, hf⟩ := h3 i hi
  exact ⟨m.num _ _ hz, by rw [m.free _ (block_of_cell hz)]; exact hf⟩
theorem Mb.stay {w w' : World} {lo hi sz n : Nat} {a : Option Addr} (h : Mb w lo hi sz a n) (b : Below w.heap.size w w') : Mb w' lo hi sz a n := by
  intro hn
  obtain ⟨g, e, h1, h2, h3⟩ := h hn
  refine ⟨g, e, h1, h2, fun i hi => ?_⟩
  obtain ⟨⟨z, hz⟩, hf⟩ := h3 i hi
  exact ⟨⟨z, cell_keep b hz⟩, by rw [b.frozen (p := ⟨g, i, none⟩) (block_of_cell hz)]; exact hf⟩
theorem Nums.mb {w : World} {base n c : Nat} {a : Option Addr} {zs : List Int} (h : Nums w base (.slice a n c) zs) : Mb w base w.heap.size 1 a n := by
  intro hn
  obtain ⟨a', cap', hv, l1, l2, hg⟩ := h.shape
  have hl := h.len
  obtain ⟨g, e⟩ := hg (by omega)
  cases hv
  subst e
  have hb := h.lt g rfl
  exact ⟨g, rfl, hb.1, hb.2, fun i hi => ⟨⟨_, h.cell rfl i (by omega)⟩, h.free rfl i⟩⟩
theorem Prs.mb {e : TypeId} {w : World} {base n c : Nat} {a : Option Addr} {rs : List (Int × Int)} (h : Prs e w base (.slice a n c) rs) : Mb w base w.heap.size 2 a n := by
  intro hn
  obtain ⟨a', cap', hv, l1, l2, hg⟩ := h.shape
  cases hv
  obtain ⟨g, rfl⟩ := hg hn
  have hb := h.lt g rfl
  refine ⟨g, rfl, hb.1, hb.2, fun i hi => ⟨?_, h.free rfl i⟩⟩
  have hc := h.cell rfl (i / 2) (by omega)
  have : i = i / 2 * 2 ∨ i = i / 2 * 2 + 1 := by omega
  rcases this with e | e
  · rw [e]; exact ⟨_, hc.1⟩
  · rw [e]; exact ⟨_, hc.2⟩
theorem Ls.mb {e : TypeId} {w : World} {base n c : Nat} {a : Option Addr} {rs : List Ln} (h : Ls e w base (.slice a n c) rs) : Mb w base w.heap.size 5 a n := by
  intro hn
  obtain ⟨a', cap', hv, l1, l2, hg⟩ := h.shape
  cases hv
  obtain ⟨g, rfl⟩ := hg hn
  have hb := h.lt g rfl
  refine ⟨g, rfl, hb.1, hb.2, fun i hi => ⟨?_, h.free rfl i⟩⟩
  have hc := h.cell rfl (i / 5) (by omega)
  have : i = i / 5 * 5 ∨ i = i / 5 * 5 + 1 ∨ i = i / 5 * 5 + 2 ∨ i = i / 5 * 5 + 3 ∨ i = i / 5 * 5 + 4 := by omega
  rcases this with e | e | e | e | e
  · rw [e]; exact ⟨_, hc.1⟩
  · rw [e]; exact ⟨_, hc.2.1⟩
  · rw [e]; exact ⟨_, hc.2.2.1⟩
  · rw [e]; exact ⟨_, hc.2.2.2.1⟩
  · rw [e]; exact ⟨_, hc.2.2.2.2⟩

end Go.Proofs.YtkfcofjmjbkekaaGreatDoor
