/- Texts of this seat, joined. -/
import Derived.Deep.WholeRow
import Derived.Deep.Cut
import Derived.Deep.RegionHeld3
import Derived.Test.YtaefollmeoepkaaGreatDoorQ03
import Derived.Test.YtaefollmeoepkaaGreatDoorQ11
import Derived.Test.YtaefollmeoepkaaGreatDoorQ14
import Derived.Test.YtaefollmeoepkaaGreatDoorQ15
import Derived.Test.YtaefollmeoepkaaGreatDoorQ23
namespace Go.Proofs.YtaefollmeoepkaaGreatDoor
set_option maxRecDepth 20000
set_option maxHeartbeats 16000000
open Go.RowKit
structure Src (w : World) (b k : Nat) (a : Option Addr) (len cap : Nat) (zs : List Int) : Prop where
 code : w.cell? ⟨b, 0, none⟩ = some (.slice a len cap)
 count : w.cell? ⟨b, 1, none⟩ = some (.int .i64 k)
 free : w.frozen? ⟨b, 1, none⟩ = false
 row : IsRow .u8 w a len cap zs
 away : ∀ x, a = some x → 0 < len → x.block < b
 here : b < w.heap.size
theorem src_block (x : Addr) (i : Nat) : (x.add i).block = x.block := by
 unfold Addr.add
 split <;> rfl
theorem add_plain (bk off i : Nat) : (⟨bk, off, none⟩ : Addr).add i = ⟨bk, off + i, none⟩ := by
 unfold Addr.add
 split
 ·next h => subst h; rfl
 ·rfl
theorem IsRow.turn {k : IntKind} {w w' : World} {a : Option Addr} {len cap b : Nat} {zs : List Int} (h : IsRow k w a len cap zs) (t : Turn b w w') (ha : ∀ x, a = some x → 0 < len → x.block < b) (hb : b ≤ w.heap.size) : IsRow k w' a len cap zs := by
 rcases h with h | ⟨x, rfl, h1, h2, h3, h4, h5⟩
 ·exact .inl h
 ·refine .inr ⟨x, rfl, h1, h2, h3, fun i hi => ?_, h5⟩
  have hx := ha x rfl (by omega)
  rw [t.cell (p := x.add i) (by rw [src_block]; omega) (by rw [src_block]; omega)]
  exact h4 i hi
theorem IsRow.block {k : IntKind} {w : World} {a : Option Addr} {len cap : Nat} {zs : List Int} (h : IsRow k w a len cap zs) : ∀ x, a = some x → 0 < len → x.block < w.heap.size := by
 intro x hx hc
 rcases h with ⟨h, _⟩ | ⟨y, rfl, h1, h2, h3, h4, h5⟩
 ·rw [h] at hx; cases hx
 ·have e : y = x := by simpa using hx
  subst e
  have hcell := h4 0 (by omega)
  have hb : (y.add 0).block = y.block := src_block y 0
  rw [← hb]
  apply Classical.byContradiction
  intro hn
  have hz : w.heap[(y.add 0).block]? = none := by simp; omega
  simp [World.cell?, hz] at hcell
theorem IsRow.below {k : IntKind} {w w' : World} {a : Option Addr} {len cap : Nat} {zs : List Int} (h : IsRow k w a len cap zs) (b : Below w.heap.size w w') : IsRow k w' a len cap zs :=
 h.turn (Turn.of_below (b := w.heap.size) b) h.block (Nat.le_refl _)
variable {w : World} {b k : Nat} {a : Option Addr} {len cap : Nat} {zs : List Int}
theorem Src.step (s : Src w b k a len cap zs) (nq : Nat) :
  Src ((w.setCell ⟨b, 1, none⟩ (.int .i64 (k + 1))).drewN nq) b (k + 1) a len cap zs := by
 refine ⟨?_, ?_, ?_, s.row.turn (Turn.set b 1 w _ nq) s.away (Nat.le_of_lt s.here), s.away, ?_⟩
 ·rw [World.cell?_drewN]
  have h := s.code
  simp [go_sem, h]
 ·rw [World.cell?_drewN, World.cell?_setCell_same _ _ _ s.count]
  simp
 ·show ((w.setCell ⟨b, 1, none⟩ _)).frozen? _ = false
  rw [World.frozen?_setCell]
  exact s.free
 ·show b < (w.setCell ⟨b, 1, none⟩ _).heap.size
  simpa [World.setCell] using s.here
theorem Src.turn {w w' : World} {b k c : Nat} {a : Option Addr} {len cap : Nat} {zs : List Int} (s : Src w b k a len cap zs) (t : Turn c w w') (hc : w.heap.size ≤ c) : Src w' b k a len cap zs := by
 have h := s.here
 refine ⟨?_, ?_, ?_, ?_, s.away, Nat.lt_of_lt_of_le h t.size⟩
 ·rw [t.cell (p := ⟨b, 0, none⟩) h (by show b ≠ c; omega)]; exact s.code
 ·rw [t.cell (p := ⟨b, 1, none⟩) h (by show b ≠ c; omega)]; exact s.count
 ·rw [t.frozen (p := ⟨b, 1, none⟩) h (by show b ≠ c; omega)]; exact s.free
 ·rcases s.row with h | ⟨x, rfl, h1, h2, h3, h4, h5⟩
  ·exact .inl h
  ·refine .inr ⟨x, rfl, h1, h2, h3, fun i hi => ?_, h5⟩
   have hx := s.away x rfl (by omega)
   rw [t.cell (p := x.add i) (by rw [src_block]; omega) (by rw [src_block]; omega)]
   exact h4 i hi
theorem Src.alloc (s : Src w b k a len cap zs) (o : Obj) : Src (w.alloc o) b k a len cap zs :=
 s.turn (Turn.alloc w.heap.size w o) (Nat.le_refl _)
theorem next_any (s : Src w b k a len cap zs) (hk : k ≤ 100000) (n : Int) :
  Calls Tryz.prog 33 #[.pointer (some ⟨b, 0, none⟩), .int .i64 n] w fun e w' => ∃ v : Int, e = .returned (.int .i64 v) ∧ (1 ≤ n → 0 ≤ v ∧ v < n) ∧ (n < 1 → v = 0) ∧ Turn b w w' ∧ Src w' b (k + 1) a len cap zs := by
 by_cases hn : n < 1
 ·refine (next_none b k n w hk hn s.count s.free).mono ?_
  rintro e w' ⟨v, rfl, hv, nq, rfl⟩
  exact ⟨v, rfl, fun h => by omega, fun _ => hv, Turn.set _ _ _ _ _, s.step nq⟩
 have hn1 : 1 ≤ n := by omega
 by_cases hl : len = 0
 ·subst hl
  refine (next_nil b a cap k n w hk hn1 s.code s.count s.free).mono ?_
  rintro e w' ⟨v, rfl, hv, nq, rfl⟩
  exact ⟨v, rfl, fun _ => hv, fun h => by omega, Turn.set _ _ _ _ _, s.step nq⟩
 rcases s.row with ⟨_, h, _⟩ | ⟨x, rfl, h1, h2, h3, h4, h5⟩
 ·exact absurd h hl
 obtain ⟨bx, off, spot⟩ := x
 have hspot : spot = none := by simpa [Addr.add] using World.cell?_spot (h4 0 (by omega))
 subst hspot
 have hz : ∀ i : Nat, 0 ≤ zs[i]?.getD 0 ∧ zs[i]?.getD 0 ≤ 255 := range_u8 h5
 refine (next_row b bx off len cap k n w zs hk hn1 (by omega) (by omega) (s.away _ rfl (by omega)) s.code s.count s.free (fun i hi => ?_) hz).mono ?_
 ·rw [← add_plain]; exact h4 i (by omega)
 rintro e w' ⟨v, rfl, hv, nq, rfl⟩
 exact ⟨v, rfl, fun _ => hv, fun h => by omega, Turn.set _ _ _ _ _, s.step nq⟩
theorem pick_any (s : Src w b k a len cap zs) (hk : k ≤ 100000)
  (P : Int → Prop) (bl m : Nat) (hm : 0 < m) (hm2 : m ≤ 1000) (hbl : bl < w.heap.size) (hne : bl ≠ b)
  (hc : ∀ i, i < m → ∃ v : Int, w.cell? ⟨bl, i, none⟩ = some (.int .i64 v) ∧ P v) :
  Calls Tryz.prog 32 #[.pointer (some ⟨b, 0, none⟩), .slice (some ⟨bl, 0, none⟩) m m] w fun e w' => ∃ v : Int, e = .returned (.int .i64 v) ∧ P v ∧ Turn b w w' ∧ Src w' b (k + 1) a len cap zs := by
 have HC := hid hc
 clear hc
 go_enter Tryz.func32, Tryz.ntmps32
 go_wp2_with fail
 refine (next_any s hk _).mono ?_
 rintro e w' ⟨v, rfl, hv, -, ht, hs⟩
 obtain ⟨hv0, hv1⟩ := hv (by omega)
 clear hv
 obtain ⟨i, rfl⟩ := Int.eq_ofNat_of_zero_le hv0
 have hi : i < m := by omega
 obtain ⟨v, hcv, hp⟩ := HC.out i hi
 have hcw : w'.cell? ⟨bl, i, none⟩ = some (.int .i64 v) := by rw [ht.cell (p := ⟨bl, i, none⟩) hbl hne]; exact hcv
 clear hcv
 go_wp2
 go_ret
 exact ⟨v, rfl, hp, ht, hs⟩
def fnA : Array Value := #[.nilFunc, .func (.func 22) #[] #[], .func (.func 141) #[] #[], .func (.func 142) #[] #[], .func (.func 143) #[] #[], .func (.func 144) #[] #[], .func (.func 145) #[] #[], .func (.func 147) #[] #[], .func (.func 148) #[] #[], .func (.func 149) #[] #[], .func (.func 151) #[] #[], .func (.func 152) #[] #[]]
theorem fn_lit : (#[.nilFunc, .func (.func 22) #[] #[], .func (.func 141) #[] #[], .func (.func 142) #[] #[], .func (.func 143) #[] #[], .func (.func 144) #[] #[], .func (.func 145) #[] #[], .func (.func 147) #[] #[], .func (.func 148) #[] #[], .func (.func 149) #[] #[], .func (.func 151) #[] #[], .func (.func 152) #[] #[]] : Array Value) = fnA := rfl
theorem fn_size : fnA.size = 12 := rfl
theorem fn_store (w : World) : (storeCells ⟨w.heap.size + 1, 0, none⟩ fnA.toList 0).run Tryz.prog ((w.alloc (.cells #[.int .i64 0, .int .i64 0] 48)).alloc (.cells #[.nilFunc, .nilFunc, .nilFunc, .nilFunc, .nilFunc, .nilFunc, .nilFunc, .nilFunc, .nilFunc, .nilFunc, .nilFunc, .nilFunc] 187))
  = .ok () ((w.alloc (.cells #[.int .i64 0, .int .i64 0] 48)).alloc (.cells fnA 187)) := by
 have := run_storeCells_new (P := Tryz.prog) (w.alloc (.cells #[.int .i64 0, .int .i64 0] 48)) 187 #[.nilFunc, .nilFunc, .nilFunc, .nilFunc, .nilFunc, .nilFunc, .nilFunc, .nilFunc, .nilFunc, .nilFunc, .nilFunc, .nilFunc] fnA (by kernel_rfl) (by decide) (by kernel_rfl)
 rw [World.size_alloc] at this
 exact this
theorem impl_alu1 (a b : Int) (w : World) : Calls Tryz.prog 112 #[.int .i64 1, .int .i64 a, .int .i64 b] w fun e w' => e = .returned (.agg #[.int .i64 0, .int .i64 (addV a b)]) ∧ Below w.heap.size w w' := by
 generalize hv : (addV a b : Int) = v
 have hcl := fun w => impl_add a b w
 rw [hv] at hcl
 clear hv
 have hs := fn_store w
 have hq := fn_size
 have hk : fnA[1]'(by rw [fn_size]; omega) = .func (.func 22) #[] #[] := rfl
 go_enter Tryz.func112, Tryz.ntmps112
 go_upto_region 3 with fail
 go_step
 go_step
 go_step
 rw [fn_lit]
 go_wp2_with (go_at_call 22; refine (hcl _).mono ?_; rintro e w1 ⟨rfl, rfl⟩)
 exact bodyPost_ret (v := .agg #[.int .i64 0, .int .i64 v]) (by simp [results, Tryz.results112, go_sem]) rfl ⟨rfl, al (al (Below.refl _ _) _) _⟩
theorem impl_alu2 (a b : Int) (w : World) : Calls Tryz.prog 112 #[.int .i64 2, .int .i64 a, .int .i64 b] w fun e w' => e = .returned (.agg #[.int .i64 0, .int .i64 ((a - b) % 4294967296)]) ∧ Below w.heap.size w w' := by
 generalize hv : ((a - b) % 4294967296 : Int) = v
 have hcl := fun w => impl_sub a b w
 rw [hv] at hcl
 clear hv
 have hs := fn_store w
 have hq := fn_size
 have hk : fnA[2]'(by rw [fn_size]; omega) = .func (.func 141) #[] #[] := rfl
 go_enter Tryz.func112, Tryz.ntmps112
 go_upto_region 3 with fail
 go_step
 go_step
 go_step
 rw [fn_lit]
 go_wp2_with (go_at_call 141; refine (hcl _).mono ?_; rintro e w1 ⟨rfl, rfl⟩)
 exact bodyPost_ret (v := .agg #[.int .i64 0, .int .i64 v]) (by simp [results, Tryz.results112, go_sem]) rfl ⟨rfl, al (al (Below.refl _ _) _) _⟩
theorem impl_alu3 (a b : Int) (w : World) : Calls Tryz.prog 112 #[.int .i64 3, .int .i64 a, .int .i64 b] w fun e w' => e = .returned (.agg #[.int .i64 0, .int .i64 (mulV a b)]) ∧ Below w.heap.size w w' := by
 generalize hv : (mulV a b : Int) = v
 have hcl := fun w => impl_mul a b w
 rw [hv] at hcl
 clear hv
 have hs := fn_store w
 have hq := fn_size
 have hk : fnA[3]'(by rw [fn_size]; omega) = .func (.func 142) #[] #[] := rfl
 go_enter Tryz.func112, Tryz.ntmps112
 go_upto_region 3 with fail
 go_step
 go_step
 go_step
 rw [fn_lit]
 go_wp2_with (go_at_call 142; refine (hcl _).mono ?_; rintro e w1 ⟨rfl, rfl⟩)
 exact bodyPost_ret (v := .agg #[.int .i64 0, .int .i64 v]) (by simp [results, Tryz.results112, go_sem]) rfl ⟨rfl, al (al (Below.refl _ _) _) _⟩
theorem impl_alu4 (a b : Int) (w : World) : Calls Tryz.prog 112 #[.int .i64 4, .int .i64 a, .int .i64 b] w fun e w' => e = .returned (.agg #[.int .i64 0, .int .i64 (divV a b)]) ∧ Below w.heap.size w w' := by
 generalize hv : (divV a b : Int) = v
 have hcl := fun w => impl_div a b w
 rw [hv] at hcl
 clear hv
 have hs := fn_store w
 have hq := fn_size
 have hk : fnA[4]'(by rw [fn_size]; omega) = .func (.func 143) #[] #[] := rfl
 go_enter Tryz.func112, Tryz.ntmps112
 go_upto_region 3 with fail
 go_step
 go_step
 go_step
 rw [fn_lit]
 go_wp2_with (go_at_call 143; refine (hcl _).mono ?_; rintro e w1 ⟨rfl, rfl⟩)
 exact bodyPost_ret (v := .agg #[.int .i64 0, .int .i64 v]) (by simp [results, Tryz.results112, go_sem]) rfl ⟨rfl, al (al (Below.refl _ _) _) _⟩
theorem impl_alu5 (a b : Int) (w : World) : Calls Tryz.prog 112 #[.int .i64 5, .int .i64 a, .int .i64 b] w fun e w' => e = .returned (.agg #[.int .i64 0, .int .i64 (remV a b)]) ∧ Below w.heap.size w w' := by
 generalize hv : (remV a b : Int) = v
 have hcl := fun w => impl_rem a b w
 rw [hv] at hcl
 clear hv
 have hs := fn_store w
 have hq := fn_size
 have hk : fnA[5]'(by rw [fn_size]; omega) = .func (.func 144) #[] #[] := rfl
 go_enter Tryz.func112, Tryz.ntmps112
 go_upto_region 3 with fail
 go_step
 go_step
 go_step
 rw [fn_lit]
 go_wp2_with (go_at_call 144; refine (hcl _).mono ?_; rintro e w1 ⟨rfl, rfl⟩)
 exact bodyPost_ret (v := .agg #[.int .i64 0, .int .i64 v]) (by simp [results, Tryz.results112, go_sem]) rfl ⟨rfl, al (al (Below.refl _ _) _) _⟩
theorem impl_alu6 (a b : Int) (w : World) : Calls Tryz.prog 112 #[.int .i64 6, .int .i64 a, .int .i64 b] w fun e w' => e = .returned (.agg #[.int .i64 0, .int .i64 (bitV 1 a b)]) ∧ Below w.heap.size w w' := by
 generalize hv : (bitV 1 a b : Int) = v
 have hcl := fun w => impl_clos1 a b w
 rw [hv] at hcl
 clear hv
 have hs := fn_store w
 have hq := fn_size
 have hk : fnA[6]'(by rw [fn_size]; omega) = .func (.func 145) #[] #[] := rfl
 go_enter Tryz.func112, Tryz.ntmps112
 go_upto_region 3 with fail
 go_step
 go_step
 go_step
 rw [fn_lit]
 go_wp2_with (go_at_call 145; refine (hcl _).mono ?_; rintro e w1 ⟨rfl, hb⟩; obtain ⟨hc, hz⟩ := bcell hb)
 have k0 := cell_keep hb (cell_push _ (cell_new (i := 0) rfl))
 have k1 := cell_keep hb (cell_push _ (cell_new (i := 1) rfl))
 clear hc hz
 exact bodyPost_ret (v := .agg #[.int .i64 0, .int .i64 v]) (by simp [results, Tryz.results112, go_sem, k0, k1]) rfl ⟨rfl, ((on (al (al (Below.refl _ _) _) _) hb).setCell (by simp) _).setCell (by simp) _⟩
theorem impl_alu7 (a b : Int) (w : World) : Calls Tryz.prog 112 #[.int .i64 7, .int .i64 a, .int .i64 b] w fun e w' => e = .returned (.agg #[.int .i64 0, .int .i64 (bitV 2 a b)]) ∧ Below w.heap.size w w' := by
 generalize hv : (bitV 2 a b : Int) = v
 have hcl := fun w => impl_clos2 a b w
 rw [hv] at hcl
 clear hv
 have hs := fn_store w
 have hq := fn_size
 have hk : fnA[7]'(by rw [fn_size]; omega) = .func (.func 147) #[] #[] := rfl
 go_enter Tryz.func112, Tryz.ntmps112
 go_upto_region 3 with fail
 go_step
 go_step
 go_step
 rw [fn_lit]
 go_wp2_with (go_at_call 147; refine (hcl _).mono ?_; rintro e w1 ⟨rfl, hb⟩; obtain ⟨hc, hz⟩ := bcell hb)
 have k0 := cell_keep hb (cell_push _ (cell_new (i := 0) rfl))
 have k1 := cell_keep hb (cell_push _ (cell_new (i := 1) rfl))
 clear hc hz
 exact bodyPost_ret (v := .agg #[.int .i64 0, .int .i64 v]) (by simp [results, Tryz.results112, go_sem, k0, k1]) rfl ⟨rfl, ((on (al (al (Below.refl _ _) _) _) hb).setCell (by simp) _).setCell (by simp) _⟩
theorem impl_alu8 (a b : Int) (w : World) : Calls Tryz.prog 112 #[.int .i64 8, .int .i64 a, .int .i64 b] w fun e w' => e = .returned (.agg #[.int .i64 0, .int .i64 (bitV 3 a b)]) ∧ Below w.heap.size w w' := by
 generalize hv : (bitV 3 a b : Int) = v
 have hcl := fun w => impl_clos3 a b w
 rw [hv] at hcl
 clear hv
 have hs := fn_store w
 have hq := fn_size
 have hk : fnA[8]'(by rw [fn_size]; omega) = .func (.func 148) #[] #[] := rfl
 go_enter Tryz.func112, Tryz.ntmps112
 go_upto_region 3 with fail
 go_step
 go_step
 go_step
 rw [fn_lit]
 go_wp2_with (go_at_call 148; refine (hcl _).mono ?_; rintro e w1 ⟨rfl, hb⟩; obtain ⟨hc, hz⟩ := bcell hb)
 have k0 := cell_keep hb (cell_push _ (cell_new (i := 0) rfl))
 have k1 := cell_keep hb (cell_push _ (cell_new (i := 1) rfl))
 clear hc hz
 exact bodyPost_ret (v := .agg #[.int .i64 0, .int .i64 v]) (by simp [results, Tryz.results112, go_sem, k0, k1]) rfl ⟨rfl, ((on (al (al (Below.refl _ _) _) _) hb).setCell (by simp) _).setCell (by simp) _⟩
theorem impl_alu9 (a b : Int) (w : World) : Calls Tryz.prog 112 #[.int .i64 9, .int .i64 a, .int .i64 b] w fun e w' => e = .returned (.agg #[.int .i64 0, .int .i64 (shlV a b)]) ∧ Below w.heap.size w w' := by
 generalize hv : (shlV a b : Int) = v
 have hcl := fun w => impl_clos4 a b w
 rw [hv] at hcl
 clear hv
 have hs := fn_store w
 have hq := fn_size
 have hk : fnA[9]'(by rw [fn_size]; omega) = .func (.func 149) #[] #[] := rfl
 go_enter Tryz.func112, Tryz.ntmps112
 go_upto_region 3 with fail
 go_step
 go_step
 go_step
 rw [fn_lit]
 go_wp2_with (go_at_call 149; refine (hcl _).mono ?_; rintro e w1 ⟨rfl, rfl⟩)
 exact bodyPost_ret (v := .agg #[.int .i64 0, .int .i64 v]) (by simp [results, Tryz.results112, go_sem]) rfl ⟨rfl, al (al (Below.refl _ _) _) _⟩
theorem impl_alu10 (a b : Int) (w : World) : Calls Tryz.prog 112 #[.int .i64 10, .int .i64 a, .int .i64 b] w fun e w' => e = .returned (.agg #[.int .i64 0, .int .i64 (shrV a b)]) ∧ Below w.heap.size w w' := by
 generalize hv : (shrV a b : Int) = v
 have hcl := fun w => impl_clos5 a b w
 rw [hv] at hcl
 clear hv
 have hs := fn_store w
 have hq := fn_size
 have hk : fnA[10]'(by rw [fn_size]; omega) = .func (.func 151) #[] #[] := rfl
 go_enter Tryz.func112, Tryz.ntmps112
 go_upto_region 3 with fail
 go_step
 go_step
 go_step
 rw [fn_lit]
 go_wp2_with (go_at_call 151; refine (hcl _).mono ?_; rintro e w1 ⟨rfl, rfl⟩)
 exact bodyPost_ret (v := .agg #[.int .i64 0, .int .i64 v]) (by simp [results, Tryz.results112, go_sem]) rfl ⟨rfl, al (al (Below.refl _ _) _) _⟩
theorem impl_alu11 (a b : Int) (w : World) : Calls Tryz.prog 112 #[.int .i64 11, .int .i64 a, .int .i64 b] w fun e w' => e = .returned (.agg #[.int .i64 0, .int .i64 (if sgn a < sgn b then 1 else 0)]) ∧ Below w.heap.size w w' := by
 generalize hv : (if sgn a < sgn b then 1 else 0 : Int) = v
 have hcl := fun w => impl_less a b w
 rw [hv] at hcl
 clear hv
 have hs := fn_store w
 have hq := fn_size
 have hk : fnA[11]'(by rw [fn_size]; omega) = .func (.func 152) #[] #[] := rfl
 go_enter Tryz.func112, Tryz.ntmps112
 go_upto_region 3 with fail
 go_step
 go_step
 go_step
 rw [fn_lit]
 go_wp2_with (go_at_call 152; refine (hcl _).mono ?_; rintro e w1 ⟨rfl, rfl⟩)
 exact bodyPost_ret (v := .agg #[.int .i64 0, .int .i64 v]) (by simp [results, Tryz.results112, go_sem]) rfl ⟨rfl, al (al (Below.refl _ _) _) _⟩
def aluC (op : Int) : Int := if 1 ≤ op ∧ op ≤ 11 then 0 else 3
theorem impl_alu (op a b : Int) (w : World) : Calls Tryz.prog 112 #[.int .i64 op, .int .i64 a, .int .i64 b] w fun e w' => e = .returned (.agg #[.int .i64 (aluC op), .int .i64 (if 1 ≤ op ∧ op ≤ 11 then aluV op a b else 0)]) ∧ Below w.heap.size w w' := by
 by_cases h : 1 ≤ op ∧ op ≤ 11
 ·rw [aluC, if_pos h, if_pos h]
  rcases (by omega : op = 1 ∨ op = 2 ∨ op = 3 ∨ op = 4 ∨ op = 5 ∨ op = 6 ∨ op = 7 ∨ op = 8 ∨ op = 9 ∨ op = 10 ∨ op = 11) with rfl | rfl | rfl | rfl | rfl | rfl | rfl | rfl | rfl | rfl | rfl
  ·rw [aluV1]; exact impl_alu1 a b w
  ·rw [aluV2]; exact impl_alu2 a b w
  ·rw [aluV3]; exact impl_alu3 a b w
  ·rw [aluV4]; exact impl_alu4 a b w
  ·rw [aluV5]; exact impl_alu5 a b w
  ·rw [aluV6]; exact impl_alu6 a b w
  ·rw [aluV7]; exact impl_alu7 a b w
  ·rw [aluV8]; exact impl_alu8 a b w
  ·rw [aluV9]; exact impl_alu9 a b w
  ·rw [aluV10]; exact impl_alu10 a b w
  ·rw [aluV11]; exact impl_alu11 a b w
 ·rw [aluC, if_neg h, if_neg h]
  have h : op < 1 ∨ 11 < op := by omega
  rcases h with h | h
  ·go_enter Tryz.func112, Tryz.ntmps112
   go_wp2_with fail
   exact bodyPost_ret (v := .agg #[.int .i64 3, .int .i64 0]) (by simp [results, Tryz.results112, go_sem]) rfl ⟨rfl, al (Below.refl _ _) _⟩
  ·have h1 : ¬ op < 1 := by omega
   go_enter Tryz.func112, Tryz.ntmps112
   go_wp2_with fail
   exact bodyPost_ret (v := .agg #[.int .i64 3, .int .i64 0]) (by simp [results, Tryz.results112, go_sem]) rfl ⟨rfl, al (Below.refl _ _) _⟩
theorem spec_l2Alu1 (a b : Int) (w : World) : Calls Tryz.prog 108 #[.int .i64 1, .int .i64 a, .int .i64 b] w fun e w' => e = .returned (.int .i64 (addV a b)) ∧ Below w.heap.size w w' := by
 go_enter Tryz.func108, Tryz.ntmps108
 go_wp2_with (go_at_call 100; refine (spec_add _ _ _).mono ?_; rintro e w1 ⟨rfl, rfl⟩)
 go_ret
 exact ⟨rfl, Below.refl _ _⟩
theorem spec_l2Alu2 (a b : Int) (w : World) : Calls Tryz.prog 108 #[.int .i64 2, .int .i64 a, .int .i64 b] w fun e w' => e = .returned (.int .i64 ((a - b) % 4294967296)) ∧ Below w.heap.size w w' := by
 go_enter Tryz.func108, Tryz.ntmps108
 go_wp2_with fail
 go_ret
 exact ⟨ret_i64 (by first | rfl | simp | exact sub_eq a b), Below.refl _ _⟩
theorem spec_l2Alu3 (a b : Int) (w : World) : Calls Tryz.prog 108 #[.int .i64 3, .int .i64 a, .int .i64 b] w fun e w' => e = .returned (.int .i64 (mulV a b)) ∧ Below w.heap.size w w' := by
 go_enter Tryz.func108, Tryz.ntmps108
 go_wp2_with (go_at_call 136; refine (spec_mul _ _ _).mono ?_; rintro e w1 ⟨rfl, rfl⟩)
 go_ret
 exact ⟨rfl, Below.refl _ _⟩
theorem spec_l2Alu4 (a b : Int) (w : World) : Calls Tryz.prog 108 #[.int .i64 4, .int .i64 a, .int .i64 b] w fun e w' => e = .returned (.int .i64 (divV a b)) ∧ Below w.heap.size w w' := by
 go_enter Tryz.func108, Tryz.ntmps108
 go_wp2_with (go_at_call 137; refine (spec_div _ _ _).mono ?_; rintro e w1 ⟨rfl, rfl⟩)
 go_ret
 exact ⟨rfl, Below.refl _ _⟩
theorem spec_l2Alu5 (a b : Int) (w : World) : Calls Tryz.prog 108 #[.int .i64 5, .int .i64 a, .int .i64 b] w fun e w' => e = .returned (.int .i64 (remV a b)) ∧ Below w.heap.size w w' := by
 go_enter Tryz.func108, Tryz.ntmps108
 go_wp2_with (go_at_call 138; refine (spec_rem _ _ _).mono ?_; rintro e w1 ⟨rfl, rfl⟩)
 go_ret
 exact ⟨rfl, Below.refl _ _⟩
theorem spec_l2Alu6 (a b : Int) (w : World) : Calls Tryz.prog 108 #[.int .i64 6, .int .i64 a, .int .i64 b] w fun e w' => e = .returned (.int .i64 (bitV 1 a b)) ∧ Below w.heap.size w w' := by
 have hf := field_value
 go_enter Tryz.func108, Tryz.ntmps108
 go_wp2_with (go_at_call 139; refine (spec_bit _ _ _ _).mono ?_; rintro e w1 ⟨rfl, hb⟩)
 go_ret
 exact ⟨rfl, hb⟩
theorem spec_l2Alu7 (a b : Int) (w : World) : Calls Tryz.prog 108 #[.int .i64 7, .int .i64 a, .int .i64 b] w fun e w' => e = .returned (.int .i64 (bitV 2 a b)) ∧ Below w.heap.size w w' := by
 have hf := field_value
 go_enter Tryz.func108, Tryz.ntmps108
 go_wp2_with (go_at_call 139; refine (spec_bit _ _ _ _).mono ?_; rintro e w1 ⟨rfl, hb⟩)
 go_ret
 exact ⟨rfl, hb⟩
theorem spec_l2Alu8 (a b : Int) (w : World) : Calls Tryz.prog 108 #[.int .i64 8, .int .i64 a, .int .i64 b] w fun e w' => e = .returned (.int .i64 (bitV 3 a b)) ∧ Below w.heap.size w w' := by
 have hf := field_value
 go_enter Tryz.func108, Tryz.ntmps108
 go_wp2_with (go_at_call 139; refine (spec_bit _ _ _ _).mono ?_; rintro e w1 ⟨rfl, hb⟩)
 go_ret
 exact ⟨rfl, hb⟩
theorem spec_l2Alu9 (a b : Int) (w : World) : Calls Tryz.prog 108 #[.int .i64 9, .int .i64 a, .int .i64 b] w fun e w' => e = .returned (.int .i64 (shlV a b)) ∧ Below w.heap.size w w' := by
 go_enter Tryz.func108, Tryz.ntmps108
 go_wp2_with (go_at_call 140; refine (spec_shl _ _ _).mono ?_; rintro e w1 ⟨rfl, rfl⟩)
 go_ret
 exact ⟨rfl, Below.refl _ _⟩
theorem spec_l2Alu10 (a b : Int) (w : World) : Calls Tryz.prog 108 #[.int .i64 10, .int .i64 a, .int .i64 b] w fun e w' => e = .returned (.int .i64 (shrV a b)) ∧ Below w.heap.size w w' := by
 go_enter Tryz.func108, Tryz.ntmps108
 go_wp2_with (go_at_call 140; refine (spec_shr _ _ _).mono ?_; rintro e w1 ⟨rfl, rfl⟩)
 go_ret
 exact ⟨rfl, Below.refl _ _⟩
theorem spec_l2Alu11 (a b : Int) (w : World) : Calls Tryz.prog 108 #[.int .i64 11, .int .i64 a, .int .i64 b] w fun e w' => e = .returned (.int .i64 (if sgn a < sgn b then 1 else 0)) ∧ Below w.heap.size w w' := by
 by_cases h : sgn a < sgn b
 all_goals
  first | rw [if_pos h] | rw [if_neg h]
  go_enter Tryz.func108, Tryz.ntmps108
  go_wp2_with (go_at_call 134; refine (spec_signed _ _).mono ?_; rintro e w1 ⟨rfl, rfl⟩)
  go_ret
  exact ⟨rfl, Below.refl _ _⟩
theorem spec_l2Alu (op a b : Int) (w : World) (h : 1 ≤ op ∧ op ≤ 11) : Calls Tryz.prog 108 #[.int .i64 op, .int .i64 a, .int .i64 b] w fun e w' => e = .returned (.int .i64 (aluV op a b)) ∧ Below w.heap.size w w' := by
 rcases (by omega : op = 1 ∨ op = 2 ∨ op = 3 ∨ op = 4 ∨ op = 5 ∨ op = 6 ∨ op = 7 ∨ op = 8 ∨ op = 9 ∨ op = 10 ∨ op = 11) with rfl | rfl | rfl | rfl | rfl | rfl | rfl | rfl | rfl | rfl | rfl
 ·rw [aluV1]; exact spec_l2Alu1 a b w
 ·rw [aluV2]; exact spec_l2Alu2 a b w
 ·rw [aluV3]; exact spec_l2Alu3 a b w
 ·rw [aluV4]; exact spec_l2Alu4 a b w
 ·rw [aluV5]; exact spec_l2Alu5 a b w
 ·rw [aluV6]; exact spec_l2Alu6 a b w
 ·rw [aluV7]; exact spec_l2Alu7 a b w
 ·rw [aluV8]; exact spec_l2Alu8 a b w
 ·rw [aluV9]; exact spec_l2Alu9 a b w
 ·rw [aluV10]; exact spec_l2Alu10 a b w
 ·rw [aluV11]; exact spec_l2Alu11 a b w
set_option linter.unusedVariables false
def newR (zs : List Int) : Int × Ht := if 40 < zs.length then (2, voidH) else (if zs.all isW then (0, newV zs) else (3, voidH))
theorem step_make {ops : Array Oper} {o : Oper} {act : Act} {w : World} {K : Act → World → Prop} {Q : Exit → Act → World → Prop} {E : Prop} (hgd : o.guard = none) (l c : Operand)
  (ho : o.op = Op.makeSlice 24 l c) (n : Nat) (hl : act.eval l = .int .i64 n) (hc : act.eval c = .int .i64 n) (hn : n ≤ 1000)
  (h : ∀ v w', Nums w' w.heap.size v (List.replicate n 0) → Below w.heap.size w w' → K (act.put o.dst v) w') :
  if Region.wanted o (yielded ops act.tmps) = true then Oper.wp Tryz.prog o act w K Q else E := by
 have hw : Region.wanted o (yielded ops act.tmps) = true := by simp [Region.wanted, hgd]
 rw [if_pos hw]
 obtain ⟨i, hi, hz0, hz1, hz2⟩ := info_parts info_i64
 obtain ⟨w', hrun, r1, r2⟩ := run_make_full (P := Tryz.prog) w w.heap.size 24 2 i _ 1 Tryz.underlying24 hi hz0 hz1 .i64 .i64 n (by rw [hz2]; omega) (by unfold maxLen; omega) (Nat.le_refl _)
 unfold Oper.wp
 simp [execOp, ho, hl, hc, hrun, Result.andThen]
 refine h _ w' (Nums.made r1 (by rw [Nat.mul_one, show (Value.int .i64 0).cells = #[.int .i64 0] from rfl, toList_madeCells_one]; simp)) ((Below.refl _ _).grown r2 (Nat.le_refl _) (by simp))
end Go.Proofs.YtaefollmeoepkaaGreatDoor
