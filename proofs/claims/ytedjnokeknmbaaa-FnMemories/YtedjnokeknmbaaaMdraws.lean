/- A memory, a place and a word as they are drawn; and what is done with a memory of no form. -/
import Derived.Test.YtedjnokeknmbaaaMdraw
namespace Go.Proofs.Ytedjnokeknmbaaa
open Go.RowKit
set_option linter.unusedVariables false

set_option maxHeartbeats 1000000 in
theorem place_any {w : World} {b k : Nat} {a : Option Addr} {len cap : Nat} {zs : List Int} (s : Src w b k a len cap zs) (hk : k ≤ 3000) (av : Option Addr) (n cv : Nat) (hn : n ≤ 200) :
    Calls Try.prog 54 #[.pointer (some ⟨b, 0, none⟩), .slice av n cv] w fun e w' => ∃ v : Int, e = .returned (.int .i64 v) ∧ isWide v ∧ Turn b w w' ∧ Src w' b (k + 3) a len cap zs := by
  have hni : (n : Int) ≤ 200 := by omega
  go_enter Try.func54, Try.ntmps54
  go_wp2_with fail
  refine (max_any _ _ _).mono ?_
  rintro e x ⟨z1, rfl, hz, m1, m2, rfl⟩
  have hz1 : z1 ≤ 200 := by omega
  clear hz
  go_wp2_with fail
  refine (next_any s (by omega) _).mono ?_
  rintro e w1 ⟨v1, rfl, h1, -, t1, s1⟩
  obtain ⟨l1, u1⟩ := h1 (by omega)
  clear h1
  go_wp2_with fail
  refine (max_any _ _ _).mono ?_
  rintro e x ⟨z2, rfl, hz, m3, m4, rfl⟩
  have hz2 : z2 ≤ 200 := by omega
  clear hz
  go_wp2_with fail
  refine (next_any s1 (by omega) _).mono ?_
  rintro e w2 ⟨v2, rfl, h2, -, t2, s2⟩
  obtain ⟨l2, u2⟩ := h2 (by omega)
  clear h2
  go_wp2_with fail
  have hb := s2.here
  refine (pick_any (s2.alloc _) (by omega) isWide _ 6 (by omega) (by omega) (by simp) (by omega) ?_).mono ?_
  · intro i hi
    have : i = 0 ∨ i = 1 ∨ i = 2 ∨ i = 3 ∨ i = 4 ∨ i = 5 := by omega
    rcases this with rfl | rfl | rfl | rfl | rfl | rfl
    all_goals exact ⟨_, cell_new rfl, by unfold isWide; omega⟩
  rintro e w5 ⟨v, rfl, hv, t5, s5⟩
  go_wp2
  go_ret
  exact ⟨v, rfl, hv, (t1.trans t2).trans ((Turn.alloc b w2 _).trans t5), s5⟩

theorem Drawn.shape {w : World} {base : Nat} {v : Value} (h : Drawn w base v) : ∃ a n cap, v = .slice a n cap ∧ n ≤ 200 := by
  rcases h with ⟨zs, hN, hl⟩ | ⟨a, n, cap, rfl, hn, _⟩
  · obtain ⟨a, cap, rfl, _⟩ := hN.shape
    exact ⟨_, _, _, rfl, hl⟩
  · exact ⟨_, _, _, rfl, hn⟩
theorem Drawn.turn {w w' : World} {base b : Nat} {v : Value} (h : Drawn w base v) (t : Turn b w w') (hb : b < base) : Drawn w' base v := by
  rcases h with ⟨zs, hN, hl⟩ | h
  · exact .inl ⟨zs, hN.turn t hb, hl⟩
  · exact .inr h
theorem Drawn.mono {w : World} {base base' : Nat} {v : Value} (h : Drawn w base v) (hb : base' ≤ base) : Drawn w base' v := by
  rcases h with ⟨zs, hN, hl⟩ | h
  · exact .inl ⟨zs, hN.mono hb, hl⟩
  · exact .inr h

set_option maxHeartbeats 1000000 in
theorem drawWrite_any {w : World} {a : Option Addr} {len cap : Nat} {zs : List Int} (hr : IsRow .u8 w a len cap zs) :
    Calls Try.prog 15 #[.slice a len cap] w fun e w' => ∃ (v : Value) (x y : Int), e = .returned (.tuple #[v, .int .i64 x, .int .i64 y]) ∧ Drawn w' w.heap.size v ∧ isWide x ∧ isWide y ∧ Below w.heap.size w w' := by
  have HR : Hid (IsRow .u8 w a len cap zs) := hr
  clear hr
  go_enter Try.func15, Try.ntmps15
  go_wp2_with fail
  refine (source_any HR.out).mono ?_
  rintro e w1 ⟨rfl, b1, s1⟩
  have B1 : Hid (Below _ w w1) := b1
  have hh := s1.here
  have HH : Hid (w.heap.size < w1.heap.size) := hh
  clear b1
  go_wp2_with fail
  refine (mem_any s1 (by omega)).mono ?_
  rintro e w2 ⟨v, k2, rfl, d2, hk2, t2, s2⟩
  have B2 : Hid (Below _ w w2) := B1.out.trans (t2.below (Nat.le_refl _) B1.out.size)
  have D2 : Hid (Drawn w2 w1.heap.size v) := d2
  clear t2 s1 d2
  obtain ⟨av, n, cv, rfl, hn⟩ := D2.out.shape
  go_wp2_with fail
  refine (place_any s2 (by omega) _ _ _ hn).mono ?_
  rintro e w3 ⟨x, rfl, hx, t3, s3⟩
  have B3 : Hid (Below _ w w3) := B2.out.trans (t3.below (Nat.le_refl _) B2.out.size)
  have D3 : Hid (Drawn w3 w1.heap.size _) := D2.out.turn t3 HH.out
  clear t3 s2
  go_wp2_with fail
  refine (wide_any s3 (by omega)).mono ?_
  rintro e w4 ⟨y, rfl, hy, t4, s4⟩
  have B4 : Hid (Below _ w w4) := B3.out.trans (t4.below (Nat.le_refl _) B3.out.size)
  have D4 : Hid (Drawn w4 w.heap.size _) := (D3.out.turn t4 HH.out).mono (by have := HH.out; omega)
  clear t4 s3
  have HX : Hid (isWide x ∧ isWide y) := ⟨hx, hy⟩
  clear hx hy
  go_wp2_with fail
  exact bodyPost_ret (v := .tuple #[.slice av n cv, .int .i64 x, .int .i64 y]) (by simp [results, Try.results15, go_sem]) rfl ⟨_, x, y, rfl, D4.out, HX.out.1, HX.out.2, B4.out⟩

theorem form_cases {n : Nat} (h : formB n = false) : n = 0 ∨ (¬ n = 0 ∧ 192 < n) ∨ (¬ n = 0 ∧ n ≤ 192 ∧ ¬ n % 8 = 0) := by
  have := of_decide_eq_false h
  omega

set_option maxHeartbeats 1000000 in
theorem impl_memBad (a : Option Addr) (n cap : Nat) (w : World) (hn : n ≤ 200) (hf : formB n = false) :
    Calls Try.prog 21 #[.slice a n cap] w fun e w' => e = .returned (.int .i64 1) ∧ w' = w := by
  rcases form_cases hf with rfl | ⟨h1, h2⟩ | ⟨h1, h2, h3⟩
  · go_enter Try.func21, Try.ntmps21
    go_wp2_with fail
    go_ret
    exact ⟨rfl, rfl⟩
  · have e1 : ¬ (n : Int) = 0 := by omega
    have e2 : (192 : Int) < n := by omega
    clear h1 h2 hf
    go_enter Try.func21, Try.ntmps21
    go_wp2_with fail
    go_ret
    exact ⟨rfl, rfl⟩
  · have e1 : ¬ (n : Int) = 0 := by omega
    have e2 : ¬ (192 : Int) < n := by omega
    have e3 : (((n : Int) % 8) != 0) = true := by simp; omega
    clear h1 h2 h3 hf
    go_enter Try.func21, Try.ntmps21
    go_wp2_with fail
    go_ret
    exact ⟨rfl, rfl⟩

theorem form_cases' {n : Nat} (h : formB n = false) : ¬ n % 8 = 0 ∨ (n % 8 = 0 ∧ n < 8) ∨ (n % 8 = 0 ∧ ¬ n < 8 ∧ 192 < n) := by
  have := of_decide_eq_false h
  omega

set_option maxHeartbeats 1000000 in
theorem spec_memBad (a : Option Addr) (n cap : Nat) (w : World) (hn : n ≤ 200) (hf : formB n = false) :
    Calls Try.prog 23 #[.slice a n cap] w fun e w' => e = .returned (.int .i64 1) ∧ w' = w := by
  have hni : (n : Int) ≤ 200 := by omega
  rcases form_cases' hf with h1 | ⟨h1, h2⟩ | ⟨h1, h2, h3⟩
  · have e3 : (((n : Int) % 8) != 0) = true := by simp; omega
    clear h1 hf hn
    go_enter Try.func23, Try.ntmps23
    go_wp2_with fail
    go_ret
    exact ⟨rfl, rfl⟩
  · have e1 : (((n : Int) % 8) != 0) = false := by simp; omega
    have e2 : (n : Int) < 8 := by omega
    clear h1 h2 hf hn
    go_enter Try.func23, Try.ntmps23
    go_wp2_with fail
    go_ret
    exact ⟨rfl, rfl⟩
  · have e1 : (((n : Int) % 8) != 0) = false := by simp; omega
    have e2 : ¬ (n : Int) < 8 := by omega
    have e3 : (192 : Int) < n := by omega
    clear h1 h2 h3 hf hn
    go_enter Try.func23, Try.ntmps23
    go_wp2_with fail
    go_ret
    exact ⟨rfl, rfl⟩

set_option maxHeartbeats 1000000 in
theorem spec_writeBad (a : Option Addr) (n cap : Nat) (x y : Int) (w : World) (hn : n ≤ 200) (hf : formB n = false) :
    Calls Try.prog 17 #[.slice a n cap, .int .i64 x, .int .i64 y] w fun e w' => e = .returned (.agg #[.int .i64 1, .slice none 0 0]) ∧ Below w.heap.size w w' := by
  have hm := fun w => spec_memBad a n cap w hn hf
  clear hf hn
  go_enter Try.func17, Try.ntmps17
  go_wp2_with (go_at_call 23; refine (hm _).mono ?_; rintro e x ⟨rfl, rfl⟩)
  exact bodyPost_ret (v := .agg #[.int .i64 1, .slice none 0 0]) (by simp [results, Try.results17, go_sem]) rfl ⟨rfl, al (Below.refl _ _) _⟩

set_option maxHeartbeats 1000000 in
theorem impl_loadBad (a a2 : Option Addr) (n cap n2 cap2 : Nat) (x : Int) (w : World) (hn : n ≤ 200) (hf : formB n = false) :
    Calls Try.prog 20 #[.slice a n cap, .int .i64 x, .slice a2 n2 cap2] w fun e w' => e = .returned (.agg #[.int .i64 1, .slice none 0 0]) ∧ Below w.heap.size w w' := by
  have hm := fun w => impl_memBad a n cap w hn hf
  clear hf hn
  go_enter Try.func20, Try.ntmps20
  go_wp2_with (go_at_call 21; refine (hm _).mono ?_; rintro e x ⟨rfl, rfl⟩)
  exact bodyPost_ret (v := .agg #[.int .i64 1, .slice none 0 0]) (by simp [results, Try.results20, go_sem]) rfl ⟨rfl, al (Below.refl _ _) _⟩

set_option maxHeartbeats 1000000 in
theorem impl_writeBad (a : Option Addr) (n cap : Nat) (x y : Int) (w : World) (hn : n ≤ 200) (hf : formB n = false) :
    Calls Try.prog 16 #[.slice a n cap, .int .i64 x, .int .i64 y] w fun e w' => e = .returned (.agg #[.int .i64 1, .slice none 0 0]) ∧ Below w.heap.size w w' := by
  have hl := fun a2 n2 cap2 w => impl_loadBad a a2 n cap n2 cap2 x w hn hf
  clear hf hn
  go_enter Try.func16, Try.ntmps16
  go_wp2_with fail
  refine (hl _ _ _ _).mono ?_
  rintro e w2 ⟨rfl, bx⟩
  have bx' : Below (w.alloc (.cells #[.int .i64 0, .slice none 0 0] 28)).heap.size (w.alloc (.cells #[.int .i64 0, .slice none 0 0] 28)) w2 := on (al (Below.refl _ _) _) bx
  obtain ⟨c1, z1⟩ := bcell bx'
  have B2 : Hid (Below w.heap.size w w2) := on (al (Below.refl _ _) _) bx'
  have k0 : w2.cell? ⟨w.heap.size, 0, none⟩ = some (.int .i64 0) := cell_keep bx' (cell_new rfl)
  have k1 : w2.cell? ⟨w.heap.size, 1, none⟩ = some (.slice none 0 0) := cell_keep bx' (cell_new rfl)
  clear bx bx' hl
  go_wp2_with fail
  exact bodyPost_ret (v := .agg #[.int .i64 1, .slice none 0 0]) (by simp [results, Try.results16, go_sem, k0, k1]) rfl ⟨rfl, (B2.out.setCell (by simp) _).setCell (by simp) _⟩
end Go.Proofs.Ytedjnokeknmbaaa
