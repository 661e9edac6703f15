/- Texts of this seat, joined. -/
import Derived.Test.YtgjpfmcokcjegaaQ03
import Derived.Test.YtgjpfmcokcjegaaQ07
import Derived.Test.YtgjpfmcokcjegaaQ17
import Derived.Test.YtgjpfmcokcjegaaQ20
import Derived.Test.YtgjpfmcokcjegaaQ24
import Derived.Test.YtgjpfmcokcjegaaQ25
import Derived.Test.YtgjpfmcokcjegaaQ26
import Derived.Test.YtgjpfmcokcjegaaQ28
import Derived.Test.YtgjpfmcokcjegaaQ31
namespace Go.Proofs.Ytgjpfmcokcjegaa
open Go.RowKit
set_option linter.unusedVariables false
theorem Nums.turn7 {w w' : World} {base b : Nat} {v : Value} {zs : List Int} (h : Nums w base v zs) (t : Turn b w w') (hb : b < base) : Nums w' base v zs := by
  refine h.kept (row := some b) ⟨t.os, t.tape, t.output, t.size, fun k hk hn => t.block k hk (fun e => hn (by rw [e]))⟩ (.inr fun e => ?_)
  have := (h.lt b e).1
  omega
theorem Turn.grown7 {b : Nat} {w0 w w' : World} {row : Option Nat} (t : Turn b w0 w) (g : w.grownBy w' row) (hr : ∀ k, row = some k → w0.heap.size ≤ k) : Turn b w0 w' :=
  ⟨g.os.trans t.os, g.tape.trans t.tape, g.output.trans t.output, Nat.le_trans t.size g.size, fun k hk hb => (g.block k (Nat.lt_of_lt_of_le hk t.size) (fun e => by have := hr k e.symm; omega)).trans (t.block k hk hb)⟩
theorem Src.grown7 {w w' : World} {b k : Nat} {a : Option Addr} {len cap : Nat} {zs : List Int} {row : Option Nat} (s : Src w b k a len cap zs) (g : w.grownBy w' row) (hr : ∀ k, row = some k → b < k) : Src w' b k a len cap zs := by
  have h := s.here
  have hne : ∀ p : Nat, p ≤ b → some p ≠ row := fun p hp e => by have := hr p e.symm; omega
  refine ⟨cell_grown g s.code (hne b (Nat.le_refl _)), cell_grown g s.count (hne b (Nat.le_refl _)), ?_, ?_, s.away, Nat.lt_of_lt_of_le h g.size⟩
  · rw [← s.free]
    exact World.frozen?_of_block (w := w) (g.block b h (hne b (Nat.le_refl _)))
  · rcases s.row with h | ⟨x, rfl, h1, h2, h3, h4, h5⟩
    · exact .inl h
    · refine .inr ⟨x, rfl, h1, h2, h3, fun i hi => ?_, h5⟩
      have hx := s.away x rfl (by omega)
      exact cell_grown g (h4 i hi) (by rw [src_block]; exact hne _ (by omega))
theorem Rn.one7 {w : World} {g : Nat} {z : Int} (h : w.cell? ⟨g, 0, none⟩ = some (.int .i64 z)) : Rn w (some ⟨g, 0, none⟩) 1 1 [z] := by
  refine .inr ⟨_, rfl, Nat.le_refl _, by unfold maxLen; decide, rfl, fun i hi => ?_⟩
  obtain rfl : i = 0 := by omega
  exact h
set_option maxHeartbeats 4000000 in
theorem image_any {w : World} {b k : Nat} {a : Option Addr} {len cap : Nat} {zs : List Int} (s : Src w b k a len cap zs) (hk : k ≤ 30000) (n : Int) (hn : n ≤ 100) (hn0 : -1000 ≤ n) :
    Calls Try.prog 34 #[.pointer (some ⟨b, 0, none⟩), .int .i64 n] w fun e w' => ∃ (v : Value) (xs : List Int) (k' : Nat), e = .returned v ∧ Nums w' w.heap.size v xs ∧ xs.length = n.toNat ∧ Turn b w w' ∧ Src w' b k' a len cap zs ∧ k' ≤ k + 20 * n.toNat := by
  have fv := field_value
  have HH : Hid (b < w.heap.size) := s.here
  have N0 : Hid (Nums (w.alloc (.cells #[] 2)) w.heap.size (.slice (some ⟨w.heap.size, 0, none⟩) 0 0) []) := nums_none w _ (Nat.le_refl _)
  have S0 : Hid (Src (w.alloc (.cells #[] 2)) b k a len cap zs) := s.alloc _
  have T0 : Hid (Turn b w (w.alloc (.cells #[] 2))) := Turn.alloc b w _
  obtain ⟨N, hN⟩ : ∃ N : Nat, n.toNat = N := ⟨_, rfl⟩
  have HNN : Hid (n.toNat = N ∧ n ≤ 100 ∧ k ≤ 30000) := ⟨hN, hn, hk⟩
  rw [hN]
  clear s hk
  by_cases hpos : n ≤ 0
  · have hz : ¬ 0 < n := by omega
    have hN0 : N = 0 := by omega
    subst hN0
    clear hN
    go_enter Try.func34, Try.ntmps34
    go_wp2_with fail
    generalize w.alloc (.cells #[] 2) = W at *
    go_loopw [1, 5, 6] (fun c u _ wr => c = .int .i64 n ∧ u = .slice (some ⟨w.heap.size, 0, none⟩) 0 0 ∧ wr = W) (fun _ _ _ _ => 0)
    case atStart => exact ⟨rfl, rfl, rfl⟩
    case round =>
      obtain ⟨rfl, rfl, rfl⟩ := hrel
      go_wp2_with fail
      go_ret
      exact ⟨_, _, _, rfl, N0.out, rfl, T0.out, S0.out, by omega⟩
  · obtain rfl : n = N := by omega
    clear hN hpos hn hn0
    go_enter Try.func34, Try.ntmps34
    go_wp2_with fail
    generalize w.alloc (.cells #[] 2) = W at *
    go_loopw [1, 5, 6] (fun c u _ wr => ∃ (j k' : Nat) (xs : List Int), j ≤ N ∧ c = .int .i64 j ∧ xs.length + j = N ∧ k' + 20 * j ≤ k + 20 * N ∧ Nums wr w.heap.size u xs ∧ Turn b w wr ∧ Src wr b k' a len cap zs) (fun c _ _ _ => (intOf c).toNat)
    case atStart => exact ⟨N, k, [], Nat.le_refl _, rfl, by simp, by omega, N0.out, T0.out, S0.out⟩
    case round =>
      obtain ⟨j, k', xs, hj, rfl, hxs, hk', hN, hT, hS⟩ := hrel
      have NJ : Hid (Nums wr w.heap.size u5 xs) := hN
      have TJ : Hid (Turn b w wr) := hT
      have SJ : Hid (Src wr b k' a len cap zs) := hS
      have HX : Hid (xs.length + j = N ∧ k' + 20 * j ≤ k + 20 * N ∧ j ≤ N ∧ N ≤ 100 ∧ k ≤ 30000) := ⟨hxs, hk', hj, by have := HNN.out; omega, by have := HNN.out; omega⟩
      clear hN hT hS hxs hk' N0 T0 S0
      by_cases hlt : 0 < j
      · have hJ : 0 < (j : Int) := by omega
        have hJ2 : (j : Int) ≤ 100 := by have := HX.out; omega
        have HLT : Hid (0 < j) := hlt
        clear hlt hj
        go_wp2_with fail
        refine (ins7_any SJ.out (by have := HX.out; omega)).mono ?_
        rintro e w1 ⟨o1, d1, x1, i1, k1, rfl, t1, s1, hk1⟩
        have N1 : Hid (Nums w1 w.heap.size u5 xs) := NJ.out.turn7 t1 HH.out
        have T1 : Hid (Turn b w w1) := TJ.out.trans t1
        have S1 : Hid (Src w1 b k1 a len cap zs) := s1
        have HK1 : Hid (k1 ≤ k' + 10) := hk1
        clear t1 s1 hk1 NJ TJ SJ
        go_wp2_with fail
        refine (spec_encode o1 d1 x1 i1 w1).mono ?_
        rintro e w2 ⟨rfl, b2⟩
        have N2 : Hid (Nums w2 w.heap.size u5 xs) := N1.out.keep b2
        have T2 : Hid (Turn b w w2) := T1.out.trans (Turn.of_below b2)
        have S2 : Hid (Src w2 b k1 a len cap zs) := S1.out.stay b2
        clear b2 N1 T1 S1
        generalize encV o1 d1 x1 i1 = ev
        go_wp2_with fail
        refine (chance_any S2.out (by have := HX.out; have := HK1.out; omega) _).mono ?_
        rintro e w3 ⟨c3, rfl, t3, s3⟩
        have N3 : Hid (Nums w3 w.heap.size u5 xs) := N2.out.turn7 t3 HH.out
        have T3 : Hid (Turn b w w3) := T2.out.trans t3
        have S3 : Hid (Src w3 b (k1 + 1) a len cap zs) := s3
        clear t3 s3 N2 T2 S2
        have hend : ∀ (z : Int) (w4 : World) (k4 : Nat), Nums w4 w.heap.size u5 xs → Turn b w w4 → Src w4 b k4 a len cap zs → k4 ≤ k1 + 6 → True := fun _ _ _ _ _ _ _ => trivial
        clear hend
        cases c3
        · go_wp2_with (at_builtin; refine wp_appx _ rfl _ _ rfl w.heap.size u5 _ rfl (N3.out.keep (al (Below.refl _ _) _)) _ 1 1 [ev] rfl (Rn.one7 (cell_new rfl)) (by have := HX.out; omega) (by have := T3.out.size; simp; omega) ?_; intro v' w' hN' hG')
          have N4 : Hid (Nums w' w.heap.size v' (xs ++ [ev])) := hN'
          have T4 : Hid (Turn b w w') := (T3.out.trans (Turn.alloc b _ _)).grown7 hG' (fun q hq => by have := (N3.out.lt q hq).1; omega)
          have S4 : Hid (Src w' b (k1 + 1) a len cap zs) := (S3.out.alloc _).grown7 hG' (fun q hq => by have := (N3.out.lt q hq).1; have := HH.out; omega)
          clear hN' hG'
          go_wp2_with fail
          go_roundw
          case rel => exact ⟨j - 1, k1 + 1, xs ++ [ev], by have := HX.out; omega, by have := HLT.out; rw [show ((j - 1 : Nat) : Int) = (j : Int) - 1 by omega], by have := HX.out; have := HLT.out; simp; omega, by have := HX.out; have := HK1.out; have := HLT.out; omega, N4.out, T4.out, S4.out⟩
          case measure => have := HLT.out; show ((j : Int) - 1).toNat < ((j : Int)).toNat; omega
        · go_wp2_with fail
          refine (word_any S3.out (by have := HX.out; have := HK1.out; omega)).mono ?_
          rintro e w4 ⟨v4, rfl, h4, t4, s4⟩
          have N3b : Hid (Nums w4 w.heap.size u5 xs) := N3.out.turn7 t4 HH.out
          have T3b : Hid (Turn b w w4) := T3.out.trans t4
          have S3b : Hid (Src w4 b (k1 + 1 + 5) a len cap zs) := s4
          clear t4 s4 h4 N3 T3 S3
          go_wp2_with (at_builtin; refine wp_appx _ rfl _ _ rfl w.heap.size u5 _ rfl (N3b.out.keep (al (Below.refl _ _) _)) _ 1 1 [v4] rfl (Rn.one7 (cell_new rfl)) (by have := HX.out; omega) (by have := T3b.out.size; simp; omega) ?_; intro v' w' hN' hG')
          have N4 : Hid (Nums w' w.heap.size v' (xs ++ [v4])) := hN'
          have T4 : Hid (Turn b w w') := (T3b.out.trans (Turn.alloc b _ _)).grown7 hG' (fun q hq => by have := (N3b.out.lt q hq).1; omega)
          have S4 : Hid (Src w' b (k1 + 1 + 5) a len cap zs) := (S3b.out.alloc _).grown7 hG' (fun q hq => by have := (N3b.out.lt q hq).1; have := HH.out; omega)
          clear hN' hG'
          go_wp2_with fail
          go_roundw
          case rel => exact ⟨j - 1, k1 + 1 + 5, xs ++ [v4], by have := HX.out; omega, by have := HLT.out; rw [show ((j - 1 : Nat) : Int) = (j : Int) - 1 by omega], by have := HX.out; have := HLT.out; simp; omega, by have := HX.out; have := HK1.out; have := HLT.out; omega, N4.out, T4.out, S4.out⟩
          case measure => have := HLT.out; show ((j : Int) - 1).toNat < ((j : Int)).toNat; omega
      · obtain rfl : j = 0 := by omega
        clear hlt hj
        go_wp2_with fail
        go_ret
        exact ⟨_, xs, k', rfl, NJ.out, by have := HX.out; omega, TJ.out, SJ.out, by have := HX.out; omega⟩
set_option maxRecDepth 20000 in
set_option maxHeartbeats 4000000 in
theorem i_fault15 (a0 : Option Addr) (k0 : Nat) (a1 : Option Addr) (m1 k1 : Nat) (a2 : Option Addr) (m2 k2 : Nat) (a3 : Option Addr) (m3 k3 : Nat) (H : Ht) (w : World) :
    Calls Try.prog 38 #[.agg #[.slice a0 15 k0, .int .i64 H.pc, .slice a1 m1 k1, .bool H.halted, .bool H.waiting, .bool H.rung, .int .i64 H.done, .slice a2 m2 k2, .slice a3 m3 k3]] w fun e w' => e = .returned (.int .i64 1) ∧ Below w.heap.size w w' := by
  have B1 : Hid (Below w.heap.size w (w.alloc (.cells #[.slice a0 15 k0, .int .i64 H.pc, .slice a1 m1 k1, .bool H.halted, .bool H.waiting, .bool H.rung, .int .i64 H.done, .slice a2 m2 k2, .slice a3 m3 k3] 26))) := al (Below.refl _ _) _
  go_enter Try.func38, Try.ntmps38
  go_wp2_with fail
  go_ret
  exact ⟨rfl, by first | exact B1.out | exact al B1.out _⟩
set_option maxRecDepth 20000 in
set_option maxHeartbeats 4000000 in
theorem s_fault15 (q : Nat) (a0 : Option Addr) (k0 : Nat) (a1 : Option Addr) (m1 k1 : Nat) (a2 : Option Addr) (m2 k2 : Nat) (a3 : Option Addr) (m3 k3 : Nat) (H : Ht) (w : World) (hv : Vb w q #[.slice a0 15 k0, .int .i64 H.pc, .slice a1 m1 k1, .bool H.halted, .bool H.waiting, .bool H.rung, .int .i64 H.done, .slice a2 m2 k2, .slice a3 m3 k3] 26) :
    Calls Try.prog 46 #[.pointer (some ⟨q, 0, none⟩)] w fun e w' => e = .returned (.int .i64 1) ∧ Below w.heap.size w w' := by
  have v0 := hv.cell 0 rfl
  clear hv
  go_enter Try.func46, Try.ntmps46
  go_wp2_with fail
  go_ret
  exact ⟨rfl, Below.refl _ _⟩
def Drawn (w : World) (base : Nat) (v : Value) : Prop :=
  (∃ rs : List (Int × Int), Prs 73 w base v rs ∧ rs.length = 8) ∨ ∃ a cap, v = .slice a 7 cap
theorem Drawn.turn {w w' : World} {base b : Nat} {v : Value} (h : Drawn w base v) (t : Turn b w w') (hb : b < base) : Drawn w' base v := by
  rcases h with ⟨rs, h, hl⟩ | h
  · exact .inl ⟨rs, h.turn t hb, hl⟩
  · exact .inr h
theorem Drawn.mono {w : World} {base base' : Nat} {v : Value} (h : Drawn w base v) (hb : base' ≤ base) : Drawn w base' v := by
  rcases h with ⟨rs, h, hl⟩ | h
  · exact .inl ⟨rs, h.mono hb, hl⟩
  · exact .inr h
theorem Drawn.shape {w : World} {base : Nat} {v : Value} (h : Drawn w base v) : ∃ a n cap, v = .slice a n cap := by
  rcases h with ⟨rs, h, hl⟩ | ⟨a, cap, rfl⟩
  · obtain ⟨a, cap, rfl, _⟩ := h.shape
    exact ⟨_, _, _, rfl⟩
  · exact ⟨_, _, _, rfl⟩
theorem Prs.storeAt {e : TypeId} {w : World} {base g n cap : Nat} {rs : List (Int × Int)} (h : Prs e w base (.slice (some ⟨g, 0, none⟩) n cap) rs) (hn : n = rs.length) (j : Nat) (u : Int) (hj : j < n) :
    (∃ qs, qs.length = rs.length ∧ Prs e (w.setCell ⟨g, j * 2, none⟩ (.int .i64 u)) base (.slice (some ⟨g, 0, none⟩) n cap) qs) ∧ ∃ qs, qs.length = rs.length ∧ Prs e (w.setCell ⟨g, j * 2 + 1, none⟩ (.int .i64 u)) base (.slice (some ⟨g, 0, none⟩) n cap) qs := by
  subst hn
  have h1 := (World.ownsRow.stored h (j * 2) (.int .i64 u)).1
  have h2 := (World.ownsRow.stored h (j * 2 + 1) (.int .i64 u)).1
  have e1 : (flat rs).set (j * 2) (.int .i64 u) = flat (rs.set j (u, (rs.getD j (0, 0)).2)) := by
    rw [flat_set rs j _ _ hj]
    apply List.ext_getElem?
    intro i
    by_cases hi : j * 2 + 1 = i
    · subst hi
      rw [List.getElem?_set_ne (by omega), (flat_get rs j hj).2, List.getElem?_set_self (by rw [List.length_set, flat_length]; omega)]
    · rw [List.getElem?_set_ne hi]
  have e2 : (flat rs).set (j * 2 + 1) (.int .i64 u) = flat (rs.set j ((rs.getD j (0, 0)).1, u)) := by
    rw [flat_set rs j _ _ hj]
    apply List.ext_getElem?
    intro i
    by_cases hi : j * 2 + 1 = i
    · subst hi
      rw [List.getElem?_set_self (by rw [flat_length]; omega), List.getElem?_set_self (by rw [List.length_set, flat_length]; omega)]
    · rw [List.getElem?_set_ne hi, List.getElem?_set_ne hi]
      by_cases hk : j * 2 = i
      · subst hk
        rw [List.getElem?_set_self (by rw [flat_length]; omega), (flat_get rs j hj).1]
      · rw [List.getElem?_set_ne hk]
  refine ⟨⟨rs.set j (u, (rs.getD j (0, 0)).2), List.length_set .., ?_⟩, ⟨rs.set j ((rs.getD j (0, 0)).1, u), List.length_set .., ?_⟩⟩
  · show World.ownsRow _ _ _ _ _ _ (flat (rs.set j (u, (rs.getD j (0, 0)).2)))
    rw [← e1, List.length_set]
    exact h1
  · show World.ownsRow _ _ _ _ _ _ (flat (rs.set j ((rs.getD j (0, 0)).1, u)))
    rw [← e2, List.length_set]
    exact h2
def Drawn8 (w : World) (base : Nat) (v : Value) : Prop :=
  (∃ rs : List (Int × Int), Prs 73 w base v rs ∧ rs.length = 8) ∨ ∃ g yc c2 rs, v = .slice (some ⟨g, 2, none⟩) 7 c2 ∧ Prs 73 w base (.slice (some ⟨g, 0, none⟩) 8 yc) rs ∧ rs.length = 8
theorem Drawn8.drawn {w : World} {base : Nat} {v : Value} (h : Drawn8 w base v) : Drawn w base v := by
  rcases h with h | ⟨g, yc, c2, rs, rfl, _⟩
  · exact .inl h
  · exact .inr ⟨_, _, rfl⟩
theorem Drawn8.turn {w w' : World} {base b : Nat} {v : Value} (h : Drawn8 w base v) (t : Turn b w w') (hb : b < base) : Drawn8 w' base v := by
  rcases h with ⟨rs, h, hl⟩ | ⟨g, yc, c2, rs, rfl, h, hl⟩
  · exact .inl ⟨rs, h.turn t hb, hl⟩
  · exact .inr ⟨g, yc, c2, rs, rfl, h.turn t hb, hl⟩
theorem Drawn8.mono {w : World} {base base' : Nat} {v : Value} (h : Drawn8 w base v) (hb : base' ≤ base) : Drawn8 w base' v := by
  rcases h with ⟨rs, h, hl⟩ | ⟨g, yc, c2, rs, rfl, h, hl⟩
  · exact .inl ⟨rs, h.mono hb, hl⟩
  · exact .inr ⟨g, yc, c2, rs, rfl, h.mono hb, hl⟩
set_option maxHeartbeats 2000000 in
theorem bent_rows {w : World} {b k : Nat} {a : Option Addr} {len cap : Nat} {zs : List Int} (s : Src w b k a len cap zs) (hk : k ≤ 80000) (top : Int) :
    Calls Try.prog 31 #[.pointer (some ⟨b, 0, none⟩), .int .i64 top] w fun e w' => ∃ (v : Value) (k' : Nat), e = .returned v ∧ Drawn8 w' w.heap.size v ∧ k' ≤ k + 30 ∧ Turn b w w' ∧ Src w' b k' a len cap zs := by
  have hb := s.here
  have HS : Hid (Src w b k a len cap zs) := s
  have HK : Hid (k ≤ 80000) := hk
  clear s hk
  go_enter Try.func31, Try.ntmps31
  go_wp2_with fail
  refine (pages_any HS.out (by have := HK.out; omega) top).mono ?_
  rintro e w1 ⟨v, rs, rfl, hl, hP, t1, s1⟩
  obtain ⟨ya, yc, rfl, l1, l2, hg⟩ := hP.shape
  rw [hl] at l1 hg hP ⊢
  obtain ⟨g, rfl⟩ := hg (by omega)
  have PB : Hid (Prs 73 w1 w.heap.size (.slice (some ⟨g, 0, none⟩) 8 yc) rs) := hP
  have LR : Hid (rs.length = 8) := hl
  clear hP hl hg l2
  go_wp2_with fail
  refine (next_any s1 (by have := HK.out; omega) _).mono ?_
  rintro e w2 ⟨v2, rfl, h2, -, t2, s2⟩
  obtain ⟨i0, i1⟩ := h2 (by omega)
  obtain ⟨i, rfl⟩ := Int.eq_ofNat_of_zero_le i0
  have hi8 : i < 8 := by omega
  clear h2 i0
  go_wp2_with fail
  refine (next_any s2 (by have := HK.out; omega) _).mono ?_
  rintro e w3 ⟨v3, rfl, -, -, t3, s3⟩
  have T3 : Hid (Turn b w w3) := t1.trans (t2.trans t3)
  have S3 : Hid (Src w3 b (k + 24 + 1 + 1) a len cap zs) := s3
  have P3 : Hid (Prs 73 w3 w.heap.size (.slice (some ⟨g, 0, none⟩) 8 yc) rs) := PB.out.turn (t2.trans t3) hb
  have h3 := s3.here
  have hgb : w.heap.size ≤ g := (PB.out.lt g rfl).1
  clear t1 t2 t3 s1 s2 s3
  by_cases c0 : v3 = 0
  · subst c0
    go_wp2_with fail
    refine (pick_any (S3.out.alloc _) (by have := HK.out; omega) (fun _ => True) _ 3 (by omega) (by omega) (by simp) (by omega) ?_).mono ?_
    · intro i hi
      have : i = 0 ∨ i = 1 ∨ i = 2 := by omega
      rcases this with rfl | rfl | rfl
      all_goals exact ⟨_, cell_new rfl, trivial⟩
    rintro e w4 ⟨v4, rfl, -, t4, s4⟩
    have T4 : Hid (Turn b w w4) := T3.out.trans ((Turn.alloc _ w3 _).trans t4)
    have P4 : Hid (Prs 73 w4 w.heap.size (.slice (some ⟨g, 0, none⟩) 8 yc) rs) := P3.out.turn ((Turn.alloc _ w3 _).trans t4) hb
    have c1 := (P4.out.cell LR.out.symm i hi8).1
    have f1 := P4.out.free LR.out.symm (i * 2)
    have S4 : Hid (Src w4 b (k + 24 + 1 + 1 + 1) a len cap zs) := s4
    clear t4 s4
    go_wp2_with fail
    go_ret
    obtain ⟨qs, hq, hQ⟩ := (P4.out.storeAt LR.out.symm i v4 hi8).1
    exact ⟨_, k + 24 + 1 + 1 + 1, rfl, .inl ⟨qs, hQ, hq.trans LR.out⟩, by omega, T4.out.put _ _ hgb, S4.out.put _ _ (by show b < g; omega)⟩
  have n0 : (v3 == 0) = false := beq_eq_false_iff_ne.2 c0
  by_cases c1 : v3 = 1
  · subst c1
    clear n0 c0
    go_wp2_with fail
    refine (pick_any (S3.out.alloc _) (by have := HK.out; omega) (fun _ => True) _ 4 (by omega) (by omega) (by simp) (by omega) ?_).mono ?_
    · intro i hi
      have : i = 0 ∨ i = 1 ∨ i = 2 ∨ i = 3 := by omega
      rcases this with rfl | rfl | rfl | rfl
      all_goals exact ⟨_, cell_new rfl, trivial⟩
    rintro e w4 ⟨v4, rfl, -, t4, s4⟩
    have T4 : Hid (Turn b w w4) := T3.out.trans ((Turn.alloc _ w3 _).trans t4)
    have P4 : Hid (Prs 73 w4 w.heap.size (.slice (some ⟨g, 0, none⟩) 8 yc) rs) := P3.out.turn ((Turn.alloc _ w3 _).trans t4) hb
    have c1 := (P4.out.cell LR.out.symm i hi8).2
    have f1 := P4.out.free LR.out.symm (i * 2 + 1)
    have S4 : Hid (Src w4 b (k + 24 + 1 + 1 + 1) a len cap zs) := s4
    clear t4 s4
    go_wp2_with fail
    go_ret
    obtain ⟨qs, hq, hQ⟩ := (P4.out.storeAt LR.out.symm i v4 hi8).2
    exact ⟨_, k + 24 + 1 + 1 + 1, rfl, .inl ⟨qs, hQ, hq.trans LR.out⟩, by omega, T4.out.put _ _ hgb, S4.out.put _ _ (by show b < g; omega)⟩
  have n1 : (v3 == 1) = false := beq_eq_false_iff_ne.2 c1
  by_cases c2 : v3 = 2
  · subst c2
    clear n0 c0 n1 c1
    have l1I : (8 : Int) ≤ (yc : Int) := by omega
    go_wp2_with fail
    go_ret
    exact ⟨_, k + 24 + 1 + 1, rfl, .inr ⟨_, _, _, _, rfl, P3.out, LR.out⟩, by omega, T3.out, S3.out⟩
  have n2 : (v3 == 2) = false := beq_eq_false_iff_ne.2 c2
  clear c0 c1 c2
  go_wp2_with fail
  go_ret
  exact ⟨_, k + 24 + 1 + 1, rfl, .inl ⟨rs, P3.out, LR.out⟩, by omega, T3.out, S3.out⟩
def twoV (rs : List (Int × Int)) (top : Int) (qs : List (Int × Int)) : Int := if pgsV rs top = 0 then pgsV qs 24 else pgsV rs top
def wbC (rs qs : List (Int × Int)) (x k : Int) : Int := if twoV rs 8 qs = 0 then (thr [rs, qs] x k).1 else twoV rs 8 qs
def wbV (rs qs : List (Int × Int)) (x k : Int) : Int := if twoV rs 8 qs = 0 then (thr [rs, qs] x k).2 else 0
theorem twoV_zero {rs qs : List (Int × Int)} {top : Int} (h : twoV rs top qs = 0) : pgsV rs top = 0 ∧ pgsV qs 24 = 0 := by
  unfold twoV at h
  split at h
  · next h1 => exact ⟨h1, h⟩
  · next h1 => exact absurd h h1
set_option maxHeartbeats 1000000 in
theorem impl_two (v u : Value) (rs qs : List (Int × Int)) (top : Int) (b b' : Nat) (w : World) (h : Prs 73 w b v rs) (k : Prs 73 w b' u qs) (hm : rs.length ≤ 1048576) (km : qs.length ≤ 1048576) :
    Calls Try.prog 28 #[v, .int .i64 top, u] w fun e w' => e = .returned (.int .i64 (twoV rs top qs)) ∧ Below w.heap.size w w' := by
  have hF := impl_fault v rs top b w h hm
  have kF := fun w1 (q : Below w.heap.size w w1) => impl_fault u qs 24 b' w1 (k.keep q) km
  obtain ⟨a, cap, rfl, _, _, _⟩ := h.shape
  obtain ⟨a', cap', rfl, _, _, _⟩ := k.shape
  unfold twoV
  clear h k
  by_cases hc : pgsV rs top = 0
  · rw [if_pos hc]
    rw [hc] at hF
    clear hc
    generalize pgsV qs 24 = c at *
    go_enter Try.func28, Try.ntmps28
    go_wp2_with fail
    refine hF.mono ?_
    rintro e w1 ⟨rfl, b1⟩
    go_wp2_with fail
    refine (kF _ b1).mono ?_
    rintro e w2 ⟨rfl, b2⟩
    go_wp2_with fail
    go_ret
    exact ⟨rfl, on b1 b2⟩
  · rw [if_neg hc]
    have g : (pgsV rs top != 0) = true := by simpa using hc
    generalize pgsV rs top = c at *
    clear hc kF
    go_enter Try.func28, Try.ntmps28
    go_wp2_with fail
    refine hF.mono ?_
    rintro e w1 ⟨rfl, b1⟩
    go_wp2_with fail
    go_ret
    exact ⟨rfl, b1⟩
theorem band_zeroR (k : Int) : bits BinOp.and .i64 k 0 = 0 := by
  show IntKind.i64.wrap ((BitVec.ofInt 64 k &&& BitVec.ofInt 64 0).toNat : Int) = 0
  rw [BitVec.toNat_and]
  simp [IntKind.wrap_i64]
def cmpP (qs : List (Int × Int)) (r : Int × Int) : Int × Int := if r.1 = -1 then (-1, 0) else forP (qs.getD r.1.toNat (0, 0)).1 (bits BinOp.and .i64 r.2 (qs.getD r.1.toNat (0, 0)).2)
def cmpL (rs qs : List (Int × Int)) : List (Int × Int) := if twoV rs 8 qs = 0 then rs.map (cmpP qs) else []
set_option maxHeartbeats 1000000 in
theorem impl_composed (a b : Int) (u : Value) (qs : List (Int × Int)) (b' : Nat) (w : World) (h : Prs 73 w b' u qs) (hl : qs.length = 8) (ha : pgC 8 a b = 0) :
    Calls Try.prog 29 #[.agg #[.int .i64 a, .int .i64 b], u] w fun e w' => e = .returned (.agg #[.int .i64 (cmpP qs (a, b)).1, .int .i64 (cmpP qs (a, b)).2]) ∧ Below w.heap.size w w' := by
  obtain ⟨p1, p2, p3, p4, p5⟩ := pgC_zero ha
  obtain ⟨ad, cap, rfl, _, _, hg⟩ := h.shape
  rw [hl]
  by_cases h1 : a = -1
  · have hb := p5 h1
    subst h1 hb
    have e : cmpP qs (-1, 0) = (-1, 0) := if_pos rfl
    rw [e]
    clear e h p1 p2 p3 p4 p5 hg
    go_enter Try.func29, Try.ntmps29
    go_wp2_with fail
    exact bodyPost_ret (v := .agg #[.int .i64 (-1), .int .i64 0]) (by simp [results, Try.results29, go_sem]) rfl ⟨rfl, al (al (Below.refl _ _) _) _⟩
  · have g1 : (a == -1) = false := beq_eq_false_iff_ne.2 h1
    obtain ⟨A, rfl⟩ : ∃ A : Nat, a = A := ⟨a.toNat, by omega⟩
    obtain ⟨g, rfl⟩ := hg (by omega)
    have hA : A < 8 := by omega
    have e : cmpP qs (A, b) = forP (qs.getD A (0, 0)).1 (bits BinOp.and .i64 b (qs.getD A (0, 0)).2) := by rw [cmpP, if_neg h1]; rfl
    rw [e]
    have c1 := (h.cell rfl A (by omega)).1
    have c2 := (h.cell rfl A (by omega)).2
    have gb : g < w.heap.size := block_of_cell c1
    have hF := fun w => impl_pageFor (qs.getD A (0, 0)).1 (bits BinOp.and .i64 b (qs.getD A (0, 0)).2) w
    generalize (forP (qs.getD A (0, 0)).1 (bits BinOp.and .i64 b (qs.getD A (0, 0)).2)).1 = x at *
    generalize (forP (qs.getD A (0, 0)).1 (bits BinOp.and .i64 b (qs.getD A (0, 0)).2)).2 = y at *
    generalize (qs.getD A (0, 0)).1 = p at *
    generalize (qs.getD A (0, 0)).2 = q at *
    have hAI : (A : Int) < 8 := by omega
    clear e h p1 p2 p3 p4 p5 hg ha h1
    go_enter Try.func29, Try.ntmps29
    go_wp2_with fail
    refine (hF _).mono ?_
    rintro e w1 ⟨rfl, b1⟩
    have k0 : w1.cell? ⟨w.heap.size + 1, 0, none⟩ = some (.int .i64 0) := cell_keep b1 (cell_push _ (cell_new2 rfl))
    have k1 : w1.cell? ⟨w.heap.size + 1, 1, none⟩ = some (.int .i64 0) := cell_keep b1 (cell_push _ (cell_new2 rfl))
    have f0 : w1.frozen? ⟨w.heap.size + 1, 0, none⟩ = false := by rw [(on (al (Below.refl _ _) _) b1).frozen (p := ⟨w.heap.size + 1, 0, none⟩) (by show w.heap.size + 1 < _; simp)]; simp
    have f1 : w1.frozen? ⟨w.heap.size + 1, 1, none⟩ = false := by rw [(on (al (Below.refl _ _) _) b1).frozen (p := ⟨w.heap.size + 1, 1, none⟩) (by show w.heap.size + 1 < _; simp)]; simp
    have B1 : Hid (Below w.heap.size w w1) := on (al (al (al (Below.refl _ _) _) _) _) b1
    clear b1
    go_wp2_with fail
    exact bodyPost_ret (v := .agg #[.int .i64 x, .int .i64 y]) (by simp [results, Try.results29, go_sem, k0, k1]) rfl ⟨rfl, (B1.out.setCell (by simp) _).setCell (by simp) _⟩
theorem map_take (f : Int × Int → Int × Int) (rs : List (Int × Int)) (j : Nat) (h : j < rs.length) : (rs.take (j + 1)).map f = (rs.take j).map f ++ [((f ((rs.getD j (0, 0)).1, (rs.getD j (0, 0)).2)).1, (f ((rs.getD j (0, 0)).1, (rs.getD j (0, 0)).2)).2)] := by
  rw [List.take_succ_eq_append_getElem h, List.map_append, List.getD, List.getElem?_eq_getElem h]
  rfl
set_option maxHeartbeats 2000000 in
theorem impl_compose (v u : Value) (rs qs : List (Int × Int)) (b b' : Nat) (w : World) (h : Prs 73 w b v rs) (k : Prs 73 w b' u qs) (hm : rs.length ≤ 1048576) (km : qs.length ≤ 1048576) :
    Calls Try.prog 11 #[v, u] w fun e w' => ∃ y, e = .returned (.agg #[.int .i64 (twoV rs 8 qs), y]) ∧ Prs 73 w' w.heap.size y (cmpL rs qs) ∧ Below w.heap.size w w' := by
  have hF := fun w1 (q : Below w.heap.size w w1) => impl_two v u rs qs 8 b b' w1 (h.keep q) (k.keep q) hm km
  by_cases hc : twoV rs 8 qs = 0
  case neg =>
    have e2 : cmpL rs qs = [] := if_neg hc
    rw [e2]
    have g : (twoV rs 8 qs != 0) = true := by simpa using hc
    clear e2 hc
    generalize twoV rs 8 qs = c at *
    obtain ⟨a, cap, rfl, _, _, _⟩ := h.shape
    obtain ⟨a', cap', rfl, _, _, _⟩ := k.shape
    clear h k
    go_enter Try.func11, Try.ntmps11
    go_wp2_with fail
    refine (hF _ (al (Below.refl _ _) _)).mono ?_
    rintro e w1 ⟨rfl, b1⟩
    have k0 := cell_keep b1 (cell_new (i := 0) rfl)
    have k1 := cell_keep b1 (cell_new (i := 1) rfl)
    have B1 : Hid (Below w.heap.size w w1) := on (al (Below.refl _ _) _) b1
    have z0 : w1.frozen? ⟨w.heap.size, 0, none⟩ = false := by rw [(bcell b1).2 _ _ (by simp)]; simp
    have z1 : w1.frozen? ⟨w.heap.size, 1, none⟩ = false := by rw [(bcell b1).2 _ _ (by simp)]; simp
    clear b1 hF
    go_wp2_with fail
    exact bodyPost_ret (v := .agg #[.int .i64 c, .slice none 0 0]) (by simp [results, Try.results11, go_sem, k0, k1]) rfl ⟨_, rfl, Prs.nil _ _ _, (B1.out.setCell (by simp) _).setCell (by simp) _⟩
  have e2 : cmpL rs qs = rs.map (cmpP qs) := if_pos hc
  rw [e2]
  rw [hc] at hF ⊢
  obtain ⟨z1, z2⟩ := twoV_zero hc
  obtain ⟨_, _, hl8, hok⟩ := pgsV_zero z1
  obtain ⟨_, _, kl8, _⟩ := pgsV_zero z2
  obtain ⟨a, cap, rfl, _, _, hg⟩ := h.shape
  obtain ⟨a', cap', rfl, _, _, _⟩ := k.shape
  rw [hl8] at hg hF ⊢
  rw [kl8] at hF ⊢
  obtain ⟨g, rfl⟩ := hg (by omega)
  have HZ : Hid (Prs 73 w b (.slice (some ⟨g, 0, none⟩) 8 cap) rs) := by show Prs 73 _ _ _ _; rw [← hl8]; exact h
  have KZ : Hid (Prs 73 w b' (.slice a' 8 cap') qs) := by show Prs 73 _ _ _ _; rw [← kl8]; exact k
  have HO : Hid ((rs.length = 8 ∧ okTo 8 rs 8) ∧ qs.length = 8) := ⟨⟨hl8, hok⟩, kl8⟩
  clear h k hc e2 z1 z2 hl8 hok kl8 hg hm km
  go_enter Try.func11, Try.ntmps11
  go_wp2_with fail
  refine (hF _ (al (Below.refl _ _) _)).mono ?_
  rintro e w1 ⟨rfl, b1⟩
  have B1 : Hid (Below w.heap.size w w1) := on (al (Below.refl _ _) _) b1
  have RR : Hid ((w1.cell? ⟨w.heap.size, 0, none⟩ = some (.int .i64 0) ∧ w1.cell? ⟨w.heap.size, 1, none⟩ = some (.slice none 0 0)) ∧ w1.frozen? ⟨w.heap.size, 0, none⟩ = false ∧ w1.frozen? ⟨w.heap.size, 1, none⟩ = false ∧ w.heap.size < w1.heap.size) :=
    ⟨⟨cell_keep b1 (cell_new (i := 0) rfl), cell_keep b1 (cell_new (i := 1) rfl)⟩, by rw [(bcell b1).2 _ _ (by simp)]; simp, by rw [(bcell b1).2 _ _ (by simp)]; simp, by have := b1.size; simp at this; omega⟩
  clear b1 hF
  go_wp2_with fail
  go_loopw [6, 8, 18] (fun y _ c wr => ∃ j : Nat, j ≤ 8 ∧ c = .int .i64 j ∧ Prs 73 wr w1.heap.size y ((rs.take j).map (cmpP qs)) ∧ Below w1.heap.size w1 wr) (fun _ _ c _ => 8 - (intOf c).toNat)
  case atStart => exact ⟨0, Nat.zero_le _, rfl, Prs.nil _ _ _, Below.refl _ _⟩
  case round =>
    obtain ⟨j, hj, rfl, hP, hB⟩ := hrel
    have PB : Hid (Prs 73 wr w1.heap.size _ ((rs.take j).map (cmpP qs))) := hP
    have HB : Hid (Below w1.heap.size w1 wr) := hB
    have SW : Hid (w1.heap.size ≤ wr.heap.size) := hB.size
    obtain ⟨ya, yc, rfl, _, _, _⟩ := hP.shape
    have HLN : Hid (((rs.take j).map (cmpP qs)).length ≤ 8 ∧ ((rs.take j).map (cmpP qs)).length ≤ 8) := ⟨by simp; omega, by simp; omega⟩
    generalize hun : ((rs.take j).map (cmpP qs)).length = un at *
    clear hP
    by_cases hlt : j < 8
    · have BW : Below w.heap.size w wr := on B1.out hB
      have c1 := cell_keep BW (HZ.out.cell HO.out.1.1.symm j hlt).1
      have c2 := cell_keep BW (HZ.out.cell HO.out.1.1.symm j hlt).2
      have gb : g < wr.heap.size := block_of_cell c1
      have hI : (j : Int) < 8 := by omega
      have HL : Hid (j < 8) := hlt
      have hC := fun w2 (q : Below w.heap.size w w2) => impl_composed (rs.getD j (0, 0)).1 (rs.getD j (0, 0)).2 (.slice a' 8 cap') qs b' w2 (KZ.out.keep q) HO.out.2 (HO.out.1.2 j hlt)
      have HBW : Hid (Below w.heap.size w wr) := BW
      have HM : Hid (_ = _) := map_take (cmpP qs) rs j (by have := HO.out.1.1; omega)
      generalize (cmpP qs ((rs.getD j (0, 0)).1, (rs.getD j (0, 0)).2)).1 = x at *
      generalize (cmpP qs ((rs.getD j (0, 0)).1, (rs.getD j (0, 0)).2)).2 = y at *
      generalize (rs.getD j (0, 0)).1 = p at *
      generalize (rs.getD j (0, 0)).2 = q at *
      clear hB hlt BW
      go_wp2_with fail
      refine (hC _ (al HBW.out _)).mono ?_
      rintro e w5 ⟨rfl, b5⟩
      have B5 : Hid (Below w1.heap.size w1 w5) := on (al HB.out _) b5
      have P5 : Hid (Prs 73 w5 w1.heap.size (.slice ya un yc) ((rs.take j).map (cmpP qs))) := PB.out.keep (on (al (Below.refl _ _) _) b5)
      have S5 : Hid (w1.heap.size ≤ w5.heap.size) := B5.out.size
      clear b5 hC c1 c2
      go_wp2_with (at_builtin; refine wp_pair 27 73 Try.underlying27 info_page _ rfl _ _ rfl w1.heap.size _ _ rfl (P5.out.keep (al (Below.refl _ _) _)) _ x y rfl (cell_new rfl) (cell_new rfl) (by rw [hun]; have := HLN.out; omega) (by have := S5.out; simp; omega) ?_; intro v' w' hP' hG')
      have PP : Hid (Prs 73 w' w1.heap.size v' _) := hP'
      have BP : Hid (Below w1.heap.size w1 w') := (al B5.out _).grown hG' (by have := S5.out; simp; omega) (fun k hk => (P5.out.lt k hk).1)
      clear hP' hG'
      go_wp2_with fail
      go_roundw
      case rel => exact ⟨j + 1, by have := HL.out; omega, by go_num, by rw [HM.out]; exact PP.out, BP.out⟩
      case measure => have := HL.out; simp [intOf]; omega
    · have hI : ¬ (j : Int) < 8 := by omega
      obtain rfl : j = 8 := by omega
      have hz8 : rs.take 8 = rs := List.take_of_length_le (Nat.le_of_eq HO.out.1.1)
      rw [hz8] at PB
      have hv : Hid (some w.heap.size ≠ (Value.slice ya un yc).ownBlock) := pown_not PB.out _ (.inl (by have := RR.out.2.2.2; omega))
      have r0 := cell_keep hB RR.out.1.1
      have r1 := cell_keep hB RR.out.1.2
      have f0 : wr.frozen? ⟨w.heap.size, 0, none⟩ = false := by rw [hB.frozen (p := ⟨w.heap.size, 0, none⟩) RR.out.2.2.2]; exact RR.out.2.1
      have f1 : wr.frozen? ⟨w.heap.size, 1, none⟩ = false := by rw [hB.frozen (p := ⟨w.heap.size, 1, none⟩) RR.out.2.2.2]; exact RR.out.2.2.1
      have PM : Hid (Prs 73 wr w.heap.size (.slice ya un yc) (rs.map (cmpP qs))) := PB.out.mono (by have := RR.out.2.2.2; omega)
      have BM : Hid (Below w.heap.size w wr) := on B1.out HB.out
      clear hB
      go_wp2_with fail
      exact bodyPost_ret (v := .agg #[.int .i64 0, .slice ya un yc]) (by simp [results, Try.results11, go_sem, r0, r1]) rfl ⟨_, rfl, (PM.out.put _ _ (fun e => hv.out e.symm)).put _ _ (fun e => hv.out e.symm), (BM.out.setCell (by simp) _).setCell (by simp) _⟩
structure Grew (w : World) (S : Nat) (z : Value) (L : List (Int × Int)) (w' : World) : Prop where
  prs : Prs 73 w' (S + 2) z L
  r0 : w'.cell? ⟨S, 0, none⟩ = some (.int .i64 0)
  r1 : w'.cell? ⟨S, 1, none⟩ = some (.slice none 0 0)
  f0 : w'.frozen? ⟨S, 0, none⟩ = false
  f1 : w'.frozen? ⟨S, 1, none⟩ = false
  o0 : w'.cell? ⟨S + 1, 0, none⟩ = some (.int .i64 0)
  o1 : w'.cell? ⟨S + 1, 1, none⟩ = some z
  g1 : w'.frozen? ⟨S + 1, 1, none⟩ = false
  below : Below w.heap.size w w'
theorem Grew.keep {w w1 w2 : World} {S : Nat} {z : Value} {L : List (Int × Int)} (h : Grew w S z L w1) (b : Below w1.heap.size w1 w2) : Grew w S z L w2 := by
  have s1 : S + 1 < w1.heap.size := block_of_cell h.o0
  exact ⟨h.prs.keep b, cell_keep b h.r0, cell_keep b h.r1, by rw [b.frozen (p := ⟨S, 0, none⟩) (by show S < _; omega)]; exact h.f0, by rw [b.frozen (p := ⟨S, 1, none⟩) (by show S < _; omega)]; exact h.f1,
    cell_keep b h.o0, cell_keep b h.o1, by rw [b.frozen (p := ⟨S + 1, 1, none⟩) s1]; exact h.g1, on h.below b⟩
theorem Grew.grown {w w1 w2 : World} {S : Nat} {z z' : Value} {L : List (Int × Int)} {r : Int × Int} (h : Grew w S z L w1) (hp : Prs 73 w2 (S + 2) z' (L ++ [r])) (g : w1.grownBy w2 z.ownBlock) (hS : w.heap.size ≤ S) :
    Grew w S z' (L ++ [r]) (w2.setCell ⟨S + 1, 1, none⟩ z') ∧ w2.cell? ⟨S + 1, 1, none⟩ = some z ∧ w2.frozen? ⟨S + 1, 1, none⟩ = false := by
  have s1 : S + 1 < w1.heap.size := block_of_cell h.o0
  have n0 : some S ≠ z.ownBlock := pown_not h.prs _ (.inl (by omega))
  have n1 : some (S + 1) ≠ z.ownBlock := pown_not h.prs _ (.inl (by omega))
  have r0 := cell_grown g h.r0 n0
  have r1 := cell_grown g h.r1 n0
  have o0 := cell_grown g h.o0 n1
  have o1 := cell_grown g h.o1 n1
  have f0 : w2.frozen? ⟨S, 0, none⟩ = false := by rw [frozen_grown (p := ⟨S, 0, none⟩) g (by show S < _; omega) n0]; exact h.f0
  have f1 : w2.frozen? ⟨S, 1, none⟩ = false := by rw [frozen_grown (p := ⟨S, 1, none⟩) g (by show S < _; omega) n0]; exact h.f1
  have g1 : w2.frozen? ⟨S + 1, 1, none⟩ = false := by rw [frozen_grown (p := ⟨S + 1, 1, none⟩) g s1 n1]; exact h.g1
  have b2 : Below w.heap.size w w2 := h.below.grown g h.below.size (fun k hk => by have := (h.prs.lt k hk).1; omega)
  refine ⟨⟨hp.put _ _ (fun e => pown_not hp (S + 1) (.inl (by omega)) e.symm), by simp [go_sem, r0], by simp [go_sem, r1], by rw [World.frozen?_setCell]; exact f0, by rw [World.frozen?_setCell]; exact f1, by simp [go_sem, o0], by rw [World.cell?_setCell_same _ _ _ o1], by rw [World.frozen?_setCell]; exact g1, b2.setCell (by show w.heap.size ≤ S + 1; omega) _⟩, o1, g1⟩
theorem band_fin : ∀ x y : Fin 8, (0 ≤ bits BinOp.and .i64 (x.val : Int) (y.val : Int) ∧ bits BinOp.and .i64 (x.val : Int) (y.val : Int) ≤ 7) ∧ (∀ k ∈ [(1 : Int), 2, 4], (bits BinOp.and .i64 (bits BinOp.and .i64 (x.val : Int) (y.val : Int)) k == 0) = (bits BinOp.and .i64 (x.val : Int) k == 0 || bits BinOp.and .i64 (y.val : Int) k == 0)) := by decide +kernel
theorem band_in {x y : Int} (h0 : 0 ≤ x) (h1 : x ≤ 7) (g0 : 0 ≤ y) (g1 : y ≤ 7) : 0 ≤ bits BinOp.and .i64 x y ∧ bits BinOp.and .i64 x y ≤ 7 := by
  obtain ⟨X, rfl⟩ : ∃ X : Fin 8, x = (X.val : Int) := ⟨⟨x.toNat, by omega⟩, by simp; omega⟩
  obtain ⟨Y, rfl⟩ : ∃ Y : Fin 8, y = (Y.val : Int) := ⟨⟨y.toNat, by omega⟩, by simp; omega⟩
  exact (band_fin X Y).1
theorem band_kind {x y k : Int} (h0 : 0 ≤ x) (h1 : x ≤ 7) (g0 : 0 ≤ y) (g1 : y ≤ 7) (hk : kindB k = true) : (bits BinOp.and .i64 (bits BinOp.and .i64 x y) k == 0) = (bits BinOp.and .i64 x k == 0 || bits BinOp.and .i64 y k == 0) := by
  obtain ⟨X, rfl⟩ : ∃ X : Fin 8, x = (X.val : Int) := ⟨⟨x.toNat, by omega⟩, by simp; omega⟩
  obtain ⟨Y, rfl⟩ : ∃ Y : Fin 8, y = (Y.val : Int) := ⟨⟨y.toNat, by omega⟩, by simp; omega⟩
  exact (band_fin X Y).2 k (by rcases kind_cases hk with rfl | rfl | rfl <;> simp)
theorem getD_map (f : Int × Int → Int × Int) (rs : List (Int × Int)) (i : Nat) (h : i < rs.length) : (rs.map f).getD i (0, 0) = f (rs.getD i (0, 0)) := by
  rw [List.getD, List.getD, List.getElem?_map, List.getElem?_eq_getElem h]
  rfl
theorem cmp_at {rs qs : List (Int × Int)} (h : okTo 8 rs 8) (k : okTo 24 qs 8) {i : Nat} (hi : i < 8) :
    ((rs.getD i (0, 0)).1 = -1 ∧ (rs.getD i (0, 0)).2 = 0 ∧ cmpP qs (rs.getD i (0, 0)) = (-1, 0)) ∨
    ∃ A : Nat, A < 8 ∧ (rs.getD i (0, 0)).1 = A ∧ cmpP qs (rs.getD i (0, 0)) = forP (qs.getD A (0, 0)).1 (bits BinOp.and .i64 (rs.getD i (0, 0)).2 (qs.getD A (0, 0)).2) := by
  obtain ⟨p1, p2, p3, p4, p5⟩ := pgC_zero (h i hi)
  generalize rs.getD i (0, 0) = r at *
  by_cases hr : r.1 = -1
  · exact .inl ⟨hr, p5 hr, if_pos hr⟩
  · refine .inr ⟨r.1.toNat, by omega, by omega, ?_⟩
    rw [cmpP, if_neg hr]
theorem cmp_ok {rs qs : List (Int × Int)} (hl : rs.length = 8) (h : okTo 8 rs 8) (k : okTo 24 qs 8) : okTo 24 (rs.map (cmpP qs)) 8 := by
  intro i hi
  rw [getD_map _ _ _ (by omega)]
  obtain ⟨p1, p2, p3, p4, p5⟩ := pgC_zero (h i hi)
  rcases cmp_at h k hi with ⟨_, _, e⟩ | ⟨A, hA, e0, e⟩
  · rw [e]; decide
  · rw [e]
    obtain ⟨q1, q2, q3, q4, q5⟩ := pgC_zero (k A hA)
    generalize qs.getD A (0, 0) = t at *
    generalize (rs.getD i (0, 0)).2 = x at *
    have hb := band_in p3 p4 q3 q4
    unfold forP
    split
    · decide
    · next hz =>
      refine pgC_ok ⟨q1, q2, hb.1, hb.2⟩ ?_
      rintro ⟨ht, _⟩
      apply hz
      rw [q5 ht, band_zeroR]
theorem cmp_fault {rs qs : List (Int × Int)} (h : twoV rs 8 qs = 0) : pgsV (rs.map (cmpP qs)) 24 = 0 := by
  obtain ⟨z1, z2⟩ := twoV_zero h
  obtain ⟨_, _, hl, ho⟩ := pgsV_zero z1
  obtain ⟨_, _, kl, ko⟩ := pgsV_zero z2
  exact pgsV_ok (by omega) (by omega) (by rw [List.length_map]; exact hl) (cmp_ok hl ho ko)
theorem kindV_ne {k : Int} (h : kindB k = true) : kindV k ≠ 0 := by
  rcases kind_cases h with rfl | rfl | rfl <;> decide
theorem forP_snd (t m : Int) : (forP t m).2 = m := by
  unfold forP
  split
  · next h => exact h.symm
  · rfl
theorem stages_same {rs qs : List (Int × Int)} (h : twoV rs 8 qs = 0) (x k : Int) : wbC rs qs x k = wpC (rs.map (cmpP qs)) x k ∧ wbV rs qs x k = wpV (rs.map (cmpP qs)) x k := by
  have hf := cmp_fault h
  obtain ⟨z1, z2⟩ := twoV_zero h
  obtain ⟨_, _, hl, ho⟩ := pgsV_zero z1
  obtain ⟨_, _, kl, ko⟩ := pgsV_zero z2
  rw [wbC, wbV, wpC, wpV, if_pos h, if_pos h, if_pos hf, if_pos hf, thr_two]
  cases hk : kindB k
  · have e : ∀ l y, wkC l y k = 3 ∧ wkV l y k = 0 := fun l y => ⟨by simp [wkC, hk], by simp [wkV, hk]⟩
    rw [(e rs x).1, (e rs x).2, (e _ x).1, (e _ x).2]
    exact ⟨rfl, rfl⟩
  · have eT : ∀ l y, goesB l y k = true → wkC l y k = 0 ∧ wkV l y k = goesTo l y := fun l y hg => ⟨by simp [wkC, hk, hg], by simp [wkV, hk, hg]⟩
    have eF : ∀ l y, goesB l y k = false → wkC l y k = kindV k ∧ wkV l y k = 0 := fun l y hg => ⟨by simp [wkC, hk, hg], by simp [wkV, hk, hg]⟩
    have hn := kindV_ne hk
    by_cases hx : 0 ≤ x ∧ x ≤ 63
    case neg =>
      have hg : ∀ l, goesB l x k = false := fun l => by
        unfold goesB
        have : (decide (0 ≤ x) && decide (x ≤ 63)) = false := by simp; omega
        rw [this]; rfl
      rw [(eF rs x (hg _)).1, (eF rs x (hg _)).2, (eF _ x (hg _)).1, (eF _ x (hg _)).2, if_neg hn]
      exact ⟨rfl, rfl⟩
    obtain ⟨x0, x1⟩ := hx
    have hi : (x / 8).toNat < 8 := by omega
    have gx : ∀ l, goesB l x k = !(bits BinOp.and .i64 (l.getD (x / 8).toNat (0, 0)).2 k == 0) := fun l => by unfold goesB; simp [x0, x1]
    have gL := gx (rs.map (cmpP qs))
    rw [getD_map _ _ _ (by omega)] at gL
    have tL : goesTo (rs.map (cmpP qs)) x = (cmpP qs (rs.getD (x / 8).toNat (0, 0))).1 * 8 + x % 8 := by unfold goesTo; rw [getD_map _ _ _ (by omega)]
    obtain ⟨p1, p2, p3, p4, p5⟩ := pgC_zero (ho _ hi)
    rcases cmp_at ho ko hi with ⟨r1, r2, e⟩ | ⟨A, hA, e0, e⟩
    · have g1 : goesB rs x k = false := by rw [gx, r2, band_zero]; rfl
      have g2 : goesB (rs.map (cmpP qs)) x k = false := by rw [gL, e, band_zero]; rfl
      rw [(eF _ _ g1).1, (eF _ _ g1).2, (eF _ _ g2).1, (eF _ _ g2).2, if_neg hn]
      exact ⟨rfl, rfl⟩
    · obtain ⟨q1, q2, q3, q4, q5⟩ := pgC_zero (ko A hA)
      rw [e, forP_snd, band_kind p3 p4 q3 q4 hk] at gL
      rw [e] at tL
      cases c1 : (bits BinOp.and .i64 (rs.getD (x / 8).toNat (0, 0)).2 k == 0)
      · have g1 : goesB rs x k = true := by rw [gx, c1]; rfl
        rw [(eT _ _ g1).1, (eT _ _ g1).2, if_pos rfl]
        have t1 : goesTo rs x = (A : Int) * 8 + x % 8 := by unfold goesTo; rw [e0]
        have y8 : (((A : Int) * 8 + x % 8) / 8).toNat = A := by omega
        have y9 : ((A : Int) * 8 + x % 8) % 8 = x % 8 := by omega
        have gq : goesB qs ((A : Int) * 8 + x % 8) k = !(bits BinOp.and .i64 (qs.getD A (0, 0)).2 k == 0) := by
          unfold goesB
          rw [y8]
          have : (decide (0 ≤ (A : Int) * 8 + x % 8) && decide ((A : Int) * 8 + x % 8 ≤ 63)) = true := by simp; omega
          rw [this, Bool.true_and]
        rw [c1, Bool.false_or] at gL
        cases c2 : (bits BinOp.and .i64 (qs.getD A (0, 0)).2 k == 0)
        · have g2 : goesB qs ((A : Int) * 8 + x % 8) k = true := by rw [gq, c2]; rfl
          have g3 : goesB (rs.map (cmpP qs)) x k = true := by rw [gL, c2]; rfl
          rw [t1, (eT _ _ g2).1, (eT _ _ g2).2, (eT _ _ g3).1, (eT _ _ g3).2]
          refine ⟨rfl, ?_⟩
          rw [tL]
          unfold goesTo
          rw [y8, y9]
          have hm : ¬ bits BinOp.and .i64 (rs.getD (x / 8).toNat (0, 0)).2 (qs.getD A (0, 0)).2 = 0 := by
            intro hz
            have := band_kind p3 p4 q3 q4 hk
            rw [hz, band_zero, c1, c2] at this
            simp at this
          rw [forP, if_neg hm]
        · have g2 : goesB qs ((A : Int) * 8 + x % 8) k = false := by rw [gq, c2]; rfl
          have g3 : goesB (rs.map (cmpP qs)) x k = false := by rw [gL, c2]; rfl
          rw [t1, (eF _ _ g2).1, (eF _ _ g2).2, (eF _ _ g3).1, (eF _ _ g3).2]
          exact ⟨rfl, rfl⟩
      · have g1 : goesB rs x k = false := by rw [gx, c1]; rfl
        have g3 : goesB (rs.map (cmpP qs)) x k = false := by rw [gL, c1]; rfl
        rw [(eF _ _ g1).1, (eF _ _ g1).2, (eF _ _ g3).1, (eF _ _ g3).2, if_neg hn]
        exact ⟨rfl, rfl⟩
def Flt (w : World) (v : Value) (top c : Int) : Prop :=
  (∀ w1, Below w.heap.size w w1 → Calls Try.prog 25 #[v, .int .i64 top] w1 fun e w' => e = .returned (.int .i64 c) ∧ Below w1.heap.size w1 w') ∧
  ∀ w1, Below w.heap.size w w1 → Calls Try.prog 47 #[v, .int .i64 top] w1 fun e w' => e = .returned (.int .i64 c) ∧ w' = w1
theorem Flt.good {w : World} {base : Nat} {v : Value} {rs : List (Int × Int)} (h : Prs 73 w base v rs) (hl : rs.length = 8) (top : Int) : Flt w v top (pgsV rs top) :=
  ⟨fun w1 b => impl_fault v rs top base w1 (h.keep b) (by omega), fun w1 b => spec_fault v rs top base w1 (h.keep b) (by omega)⟩
theorem Flt.bad {w : World} (a : Option Addr) (cap : Nat) (top : Int) (h1 : 1 ≤ top) (h2 : top ≤ 24) : Flt w (.slice a 7 cap) top 1 := by
  refine ⟨fun w1 b => ?_, fun w1 b => spec_faultBad _ _ _ _ _ (by omega) (by omega) h1 h2⟩
  refine (impl_faultBad _ _ _ _ _ (by omega) (by omega) h1 h2).mono ?_
  rintro e w' ⟨rfl, rfl⟩
  exact ⟨rfl, Below.refl _ _⟩
end Go.Proofs.Ytgjpfmcokcjegaa
