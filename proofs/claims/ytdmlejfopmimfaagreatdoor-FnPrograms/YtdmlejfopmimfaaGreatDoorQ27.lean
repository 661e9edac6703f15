/- Texts of this seat, joined. -/
import Derived.Test.YtdmlejfopmimfaaGreatDoorQ04
import Derived.Test.YtdmlejfopmimfaaGreatDoorQ15
import Derived.Test.YtdmlejfopmimfaaGreatDoorQ24
namespace Go.Proofs.YtdmlejfopmimfaaGreatDoor
open Go.RowKit
set_option linter.unusedVariables false

theorem Nums.turn7 {w w' : World} {base b : Nat} {v : Value} {zs : List Int} (h : Nums w base v zs) (t : Turn b w w') (hb : b < base) : Nums w' base v zs := by
  refine h.kept (row := some b) ⟨t.os, t.tape, t.output, t.size, fun k hk hn => t.block k hk (fun e => hn (by rw [e]))⟩ (.inr fun e => ?_)
  have := (h.lt b e).1
  omega
theorem Turn.grown7 {b : Nat} {w0 w w' : World} {row : Option Nat} (t : Turn b w0 w) (g : w.grownBy w' row) (hr : ∀ k, row = some k → w0.heap.size ≤ k) : Turn b w0 w' :=
  ⟨g.os.trans t.os, g.tape.trans t.tape, g.output.trans t.output, Nat.le_trans t.size g.size, fun k hk hb => (g.block k (Nat.lt_of_lt_of_le hk t.size) (fun e => by have := hr k e.symm; omega)).trans (t.block k hk hb)⟩
theorem Src.grown7 {w w' : World} {b k : Nat} {a : Option Addr} {len cap : Nat} {zs : List Int} {row : Option Nat} (s : Src w b k a len cap zs) (g : w.grownBy w' row) (hr : ∀ k, row = some k → b < k) : Src w' b k a len cap zs := by
  have h := s.here
  have hne : ∀ p : Nat, p ≤ b → some p ≠ row := fun p hp e => by have := hr p e.symm; omega
  refine ⟨cell_grown g s.code (hne b (Nat.le_refl _)), cell_grown g s.count (hne b (Nat.le_refl _)), ?_, ?_, s.away, Nat.lt_of_lt_of_le h g.size⟩
  · rw [← s.free]
    exact World.frozen?_of_block (w := w) (g.block b h (hne b (Nat.le_refl _)))
  · rcases s.row with h | ⟨x, rfl, h1, h2, h3, h4, h5⟩
    · exact .inl h
    · refine .inr ⟨x, rfl, h1, h2, h3, fun i hi => ?_, h5⟩
      have hx := s.away x rfl (by omega)
      exact cell_grown g (h4 i hi) (by rw [src_block]; exact hne _ (by omega))
theorem Rn.one7 {w : World} {g : Nat} {z : Int} (h : w.cell? ⟨g, 0, none⟩ = some (.int .i64 z)) : Rn w (some ⟨g, 0, none⟩) 1 1 [z] := by
  refine .inr ⟨_, rfl, Nat.le_refl _, by unfold maxLen; decide, rfl, fun i hi => ?_⟩
  obtain rfl : i = 0 := by omega
  exact h

set_option maxHeartbeats 4000000 in
theorem image_any {w : World} {b k : Nat} {a : Option Addr} {len cap : Nat} {zs : List Int} (s : Src w b k a len cap zs) (hk : k ≤ 30000) (n : Int) (hn : n ≤ 100) (hn0 : -1000 ≤ n) :
    Calls Tryz.prog 13 #[.pointer (some ⟨b, 0, none⟩), .int .i64 n] w fun e w' => ∃ (v : Value) (xs : List Int) (k' : Nat), e = .returned v ∧ Nums w' w.heap.size v xs ∧ xs.length = n.toNat ∧ Turn b w w' ∧ Src w' b k' a len cap zs ∧ k' ≤ k + 20 * n.toNat := by
  have fv := field_value
  have HH : Hid (b < w.heap.size) := s.here
  have N0 : Hid (Nums (w.alloc (.cells #[] 2)) w.heap.size (.slice (some ⟨w.heap.size, 0, none⟩) 0 0) []) := nums_none w _ (Nat.le_refl _)
  have S0 : Hid (Src (w.alloc (.cells #[] 2)) b k a len cap zs) := s.alloc _
  have T0 : Hid (Turn b w (w.alloc (.cells #[] 2))) := Turn.alloc b w _
  obtain ⟨N, hN⟩ : ∃ N : Nat, n.toNat = N := ⟨_, rfl⟩
  have HNN : Hid (n.toNat = N ∧ n ≤ 100 ∧ k ≤ 30000) := ⟨hN, hn, hk⟩
  rw [hN]
  clear s hk
  by_cases hpos : n ≤ 0
  · have hz : ¬ 0 < n := by omega
    have hN0 : N = 0 := by omega
    subst hN0
    clear hN
    go_enter Tryz.func13, Tryz.ntmps13
    go_wp2_with fail
    generalize w.alloc (.cells #[] 2) = W at *
    go_loopw [1, 5, 6] (fun c u _ wr => c = .int .i64 n ∧ u = .slice (some ⟨w.heap.size, 0, none⟩) 0 0 ∧ wr = W) (fun _ _ _ _ => 0)
    case atStart => exact ⟨rfl, rfl, rfl⟩
    case round =>
      obtain ⟨rfl, rfl, rfl⟩ := hrel
      go_wp2_with fail
      go_ret
      exact ⟨_, _, _, rfl, N0.out, rfl, T0.out, S0.out, by omega⟩
  · obtain rfl : n = N := by omega
    clear hN hpos hn hn0
    go_enter Tryz.func13, Tryz.ntmps13
    go_wp2_with fail
    generalize w.alloc (.cells #[] 2) = W at *
    go_loopw [1, 5, 6] (fun c u _ wr => ∃ (j k' : Nat) (xs : List Int), j ≤ N ∧ c = .int .i64 j ∧ xs.length + j = N ∧ k' + 20 * j ≤ k + 20 * N ∧ Nums wr w.heap.size u xs ∧ Turn b w wr ∧ Src wr b k' a len cap zs) (fun c _ _ _ => (intOf c).toNat)
    case atStart => exact ⟨N, k, [], Nat.le_refl _, rfl, by simp, by omega, N0.out, T0.out, S0.out⟩
    case round =>
      obtain ⟨j, k', xs, hj, rfl, hxs, hk', hN, hT, hS⟩ := hrel
      have NJ : Hid (Nums wr w.heap.size u5 xs) := hN
      have TJ : Hid (Turn b w wr) := hT
      have SJ : Hid (Src wr b k' a len cap zs) := hS
      have HX : Hid (xs.length + j = N ∧ k' + 20 * j ≤ k + 20 * N ∧ j ≤ N ∧ N ≤ 100 ∧ k ≤ 30000) := ⟨hxs, hk', hj, by have := HNN.out; omega, by have := HNN.out; omega⟩
      clear hN hT hS hxs hk' N0 T0 S0
      by_cases hlt : 0 < j
      · have hJ : 0 < (j : Int) := by omega
        have hJ2 : (j : Int) ≤ 100 := by have := HX.out; omega
        have HLT : Hid (0 < j) := hlt
        clear hlt hj
        go_wp2_with fail
        refine (ins7_any SJ.out (by have := HX.out; omega)).mono ?_
        rintro e w1 ⟨o1, d1, x1, i1, k1, rfl, t1, s1, hk1⟩
        have N1 : Hid (Nums w1 w.heap.size u5 xs) := NJ.out.turn7 t1 HH.out
        have T1 : Hid (Turn b w w1) := TJ.out.trans t1
        have S1 : Hid (Src w1 b k1 a len cap zs) := s1
        have HK1 : Hid (k1 ≤ k' + 10) := hk1
        clear t1 s1 hk1 NJ TJ SJ
        go_wp2_with fail
        refine (spec_encode o1 d1 x1 i1 w1).mono ?_
        rintro e w2 ⟨rfl, b2⟩
        have N2 : Hid (Nums w2 w.heap.size u5 xs) := N1.out.keep b2
        have T2 : Hid (Turn b w w2) := T1.out.trans (Turn.of_below b2)
        have S2 : Hid (Src w2 b k1 a len cap zs) := S1.out.stay b2
        clear b2 N1 T1 S1
        generalize encV o1 d1 x1 i1 = ev
        go_wp2_with fail
        refine (chance_any S2.out (by have := HX.out; have := HK1.out; omega) _).mono ?_
        rintro e w3 ⟨c3, rfl, t3, s3⟩
        have N3 : Hid (Nums w3 w.heap.size u5 xs) := N2.out.turn7 t3 HH.out
        have T3 : Hid (Turn b w w3) := T2.out.trans t3
        have S3 : Hid (Src w3 b (k1 + 1) a len cap zs) := s3
        clear t3 s3 N2 T2 S2
        have hend : ∀ (z : Int) (w4 : World) (k4 : Nat), Nums w4 w.heap.size u5 xs → Turn b w w4 → Src w4 b k4 a len cap zs → k4 ≤ k1 + 6 → True := fun _ _ _ _ _ _ _ => trivial
        clear hend
        cases c3
        · go_wp2_with (at_builtin; refine wp_appx _ rfl _ _ rfl w.heap.size u5 _ rfl (N3.out.keep (al (Below.refl _ _) _)) _ 1 1 [ev] rfl (Rn.one7 (cell_new rfl)) (by have := HX.out; omega) (by have := T3.out.size; simp; omega) ?_; intro v' w' hN' hG')
          have N4 : Hid (Nums w' w.heap.size v' (xs ++ [ev])) := hN'
          have T4 : Hid (Turn b w w') := (T3.out.trans (Turn.alloc b _ _)).grown7 hG' (fun q hq => by have := (N3.out.lt q hq).1; omega)
          have S4 : Hid (Src w' b (k1 + 1) a len cap zs) := (S3.out.alloc _).grown7 hG' (fun q hq => by have := (N3.out.lt q hq).1; have := HH.out; omega)
          clear hN' hG'
          go_wp2_with fail
          go_roundw
          case rel => exact ⟨j - 1, k1 + 1, xs ++ [ev], by have := HX.out; omega, by have := HLT.out; rw [show ((j - 1 : Nat) : Int) = (j : Int) - 1 by omega], by have := HX.out; have := HLT.out; simp; omega, by have := HX.out; have := HK1.out; have := HLT.out; omega, N4.out, T4.out, S4.out⟩
          case measure => have := HLT.out; show ((j : Int) - 1).toNat < ((j : Int)).toNat; omega
        · go_wp2_with fail
          refine (word_any S3.out (by have := HX.out; have := HK1.out; omega)).mono ?_
          rintro e w4 ⟨v4, rfl, h4, t4, s4⟩
          have N3b : Hid (Nums w4 w.heap.size u5 xs) := N3.out.turn7 t4 HH.out
          have T3b : Hid (Turn b w w4) := T3.out.trans t4
          have S3b : Hid (Src w4 b (k1 + 1 + 5) a len cap zs) := s4
          clear t4 s4 h4 N3 T3 S3
          go_wp2_with (at_builtin; refine wp_appx _ rfl _ _ rfl w.heap.size u5 _ rfl (N3b.out.keep (al (Below.refl _ _) _)) _ 1 1 [v4] rfl (Rn.one7 (cell_new rfl)) (by have := HX.out; omega) (by have := T3b.out.size; simp; omega) ?_; intro v' w' hN' hG')
          have N4 : Hid (Nums w' w.heap.size v' (xs ++ [v4])) := hN'
          have T4 : Hid (Turn b w w') := (T3b.out.trans (Turn.alloc b _ _)).grown7 hG' (fun q hq => by have := (N3b.out.lt q hq).1; omega)
          have S4 : Hid (Src w' b (k1 + 1 + 5) a len cap zs) := (S3b.out.alloc _).grown7 hG' (fun q hq => by have := (N3b.out.lt q hq).1; have := HH.out; omega)
          clear hN' hG'
          go_wp2_with fail
          go_roundw
          case rel => exact ⟨j - 1, k1 + 1 + 5, xs ++ [v4], by have := HX.out; omega, by have := HLT.out; rw [show ((j - 1 : Nat) : Int) = (j : Int) - 1 by omega], by have := HX.out; have := HLT.out; simp; omega, by have := HX.out; have := HK1.out; have := HLT.out; omega, N4.out, T4.out, S4.out⟩
          case measure => have := HLT.out; show ((j : Int) - 1).toNat < ((j : Int)).toNat; omega
      · obtain rfl : j = 0 := by omega
        clear hlt hj
        go_wp2_with fail
        go_ret
        exact ⟨_, xs, k', rfl, NJ.out, by have := HX.out; omega, TJ.out, SJ.out, by have := HX.out; omega⟩
set_option maxHeartbeats 4000000 in
theorem drawDis_any {w : World} {a : Option Addr} {len cap : Nat} {zs : List Int} (hr : IsRow .u8 w a len cap zs) :
    Calls Tryz.prog 5 #[.slice a len cap] w fun e w' => ∃ (v : Value) (xs : List Int), e = .returned v ∧ Nums w' w.heap.size v xs ∧ xs.length ≤ 81 ∧ Below w.heap.size w w' := by
  have HR : Hid (IsRow .u8 w a len cap zs) := hr
  clear hr
  go_enter Tryz.func5, Tryz.ntmps5
  go_wp2_with fail
  refine (source_any HR.out).mono ?_
  rintro e w1 ⟨rfl, b1, s1⟩
  obtain ⟨b, hb⟩ : ∃ b, w.heap.size = b := ⟨_, rfl⟩
  have HB : Hid (w.heap.size = b) := hb
  have B1 : Hid (Below w.heap.size w w1) := b1
  rw [hb] at s1 ⊢
  clear hb b1
  go_wp2_with fail
  refine (next_any s1 (by omega) _).mono ?_
  rintro e w2 ⟨v2, rfl, h2, -, t2, s2⟩
  obtain ⟨l2, u2⟩ := h2 (by omega)
  have B2 : Hid (Below w.heap.size w w2) := B1.out.trans (t2.below (by rw [HB.out]; exact Nat.le_refl _) (B1.out.size))
  clear h2 t2 s1 B1
  go_wp2_with fail
  refine (next_any s2 (by omega) _).mono ?_
  rintro e w3 ⟨v3, rfl, h3, -, t3, s3⟩
  obtain ⟨l3, u3⟩ := h3 (by omega)
  have B3 : Hid (Below w.heap.size w w3) := B2.out.trans (t3.below (by rw [HB.out]; exact Nat.le_refl _) (B2.out.size))
  clear h3 t3 s2 B2
  go_wp2_with fail
  have hb3 := s3.here
  refine (pick_any (s3.alloc _) (by omega) (fun v => 0 ≤ v ∧ v ≤ 81) _ 4 (by omega) (by omega) (by simp) (by omega) ?_).mono ?_
  · intro i hi
    have : i = 0 ∨ i = 1 ∨ i = 2 ∨ i = 3 := by omega
    rcases this with rfl | rfl | rfl | rfl
    all_goals exact ⟨_, cell_new rfl, by omega⟩
  rintro e w4 ⟨v4, rfl, h4, t4, s4⟩
  have B4 : Hid (Below w.heap.size w w4) := (al B3.out _).trans (t4.below (by rw [HB.out]; exact Nat.le_refl _) (by have := B3.out.size; simp; omega))
  clear t4 s3 B3 hb3
  go_wp2_with fail
  refine (image_any s4 (by omega) v4 (by omega) (by omega)).mono ?_
  rintro e w5 ⟨v5, xs, k5, rfl, n5, e5, t5, s5, hk5⟩
  have B5 : Hid (Below w.heap.size w w5) := B4.out.trans (t5.below (by rw [HB.out]; exact Nat.le_refl _) (B4.out.size))
  have N5 : Hid (Nums w5 (w.heap.size + 1) v5 xs) := n5.mono (by have := s4.here; have := HB.out; omega)
  have S5 : Hid (Src w5 b k5 a len cap zs) := s5
  have X5 : Hid (xs.length ≤ 81 ∧ k5 ≤ 2000) := ⟨by omega, by omega⟩
  clear n5 t5 s4 s5 hk5 e5 B4 h4
  obtain ⟨av, cv, rfl, _, _, hg⟩ := N5.out.shape
  by_cases hx : xs.length = 0
  · rw [hx]
    have N6 : Hid (Nums w5 w.heap.size (.slice av 0 cv) xs) := by show Nums _ _ _ _; have := N5.out; rw [hx] at this; exact this.mono (by omega)
    clear hx hg N5
    go_wp2_with fail
    go_ret
    exact ⟨_, xs, rfl, N6.out, X5.out.1, B5.out⟩
  · obtain ⟨g, rfl⟩ := hg (by omega)
    obtain ⟨n, hn⟩ : ∃ n, xs.length = n := ⟨_, rfl⟩
    have HN : Hid (xs.length = n) := hn
    rw [hn] at N5 hx ⊢
    have hnI : 0 < (n : Int) := by omega
    have hnn : 0 < n := by omega
    have N5b : Hid (Nums w5 (w.heap.size + 1) (.slice (some ⟨g, 0, none⟩) n cv) xs) := N5
    clear hn hx hg N5
    go_wp2_with fail
    refine (chance_any S5.out (by have := X5.out; omega) _).mono ?_
    rintro e w6 ⟨c6, rfl, t6, s6⟩
    have N6 : Hid (Nums w6 (w.heap.size + 1) (.slice (some ⟨g, 0, none⟩) n cv) xs) := N5b.out.turn7 t6 (by have := HB.out; omega)
    have B6 : Hid (Below w.heap.size w w6) := B5.out.trans (t6.below (by rw [HB.out]; exact Nat.le_refl _) (B5.out.size))
    clear t6 N5b B5
    cases c6
    · go_wp2_with fail
      go_ret
      exact ⟨_, xs, rfl, N6.out.mono (by omega), X5.out.1, B6.out⟩
    · go_wp2_with fail
      refine (wide_any s6 (by have := X5.out; omega)).mono ?_
      rintro e w7 ⟨v7, rfl, h7, t7, s7⟩
      have N7 : Hid (Nums w7 (w.heap.size + 1) (.slice (some ⟨g, 0, none⟩) n cv) xs) := N6.out.turn7 t7 (by have := HB.out; omega)
      have B7 : Hid (Below w.heap.size w w7) := B6.out.trans (t7.below (by rw [HB.out]; exact Nat.le_refl _) (B6.out.size))
      have c7 := N7.out.cell HN.out.symm 0 hnn
      have f7 := N7.out.free HN.out.symm 0
      clear t7 s7 h7 N6 B6 s6
      go_wp2_with fail
      go_ret
      obtain ⟨m1, m2⟩ := N7.out.store 0 v7
      exact ⟨_, xs.set 0 v7, rfl, m1.mono (by omega), by rw [List.length_set]; exact X5.out.1, B7.out.setCell (by have := (N7.out.lt g rfl).1; show w.heap.size ≤ g; omega) _⟩
end Go.Proofs.YtdmlejfopmimfaaGreatDoor
