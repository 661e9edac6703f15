/- Texts of this seat, joined. -/
import Derived.Test.YtggejbphdadckaaGreatDoorQ04
import Derived.Test.YtggejbphdadckaaGreatDoorQ07
import Derived.Test.YtggejbphdadckaaGreatDoorQ08
namespace Go.Proofs.YtggejbphdadckaaGreatDoor
open Go.RowKit
set_option linter.unusedVariables false

theorem ret_b {a b : Bool} (h : a = b) : Ending.returned (.bool a) = .returned (.bool b) := by rw [h]

set_option maxHeartbeats 1000000 in
theorem i_words (a : Option Addr) (n cap : Nat) (zs : List Int) (w : World) (h : Rn w a n cap zs) :
    Calls Tryz.prog 59 #[.slice a n cap] w fun e w' => e = .returned (.bool (zs.all isW)) ∧ w' = w := by
  have HN : Hid (n = zs.length) := h.len
  have HZ : Hid (Rn w a n cap zs) := h
  have hl : (n : Int) ≤ 9223372036854775807 := by have := h.cap; unfold maxLen at this; omega
  clear h
  go_enter Tryz.func59, Tryz.ntmps59
  go_wp2_with fail
  go_loop [4, 7] (fun _ i => ∃ j : Nat, j ≤ n ∧ i = .int .i64 j ∧ Hid ((zs.take j).all isW = true)) (fun _ i => n - (intOf i).toNat)
  case atStart => exact ⟨0, Nat.zero_le _, rfl, rfl⟩
  case round =>
    obtain ⟨j, hj, rfl, hA⟩ := hrel
    by_cases hlt : j < n
    · obtain ⟨x, rfl, c1⟩ := HZ.out.at j hlt
      have hJ : (j : Int) < (n : Int) := by omega
      have HL : Hid (j < zs.length) := by show _ < _; have := HN.out; omega
      obtain ⟨z, hz⟩ : ∃ z, zs.getD j 0 = z := ⟨_, rfl⟩
      rw [hz] at c1
      have HZZ : Hid (zs.getD j 0 = z) := hz
      clear hz hlt
      cases hw : isW z
      · have HW : Hid (isW z = false) := hw
        go_wp2_with (go_at_call 90; refine (impl_isWord _ _).mono ?_; rintro e x ⟨rfl, rfl⟩; rw [hw])
        go_ret
        exact ⟨ret_b (all_not zs j HL.out (by rw [HZZ.out]; exact HW.out)).symm, rfl⟩
      · have HW : Hid (isW z = true) := hw
        go_wp2_with (go_at_call 90; refine (impl_isWord _ _).mono ?_; rintro e x ⟨rfl, rfl⟩; rw [hw])
        go_round
        case rel => exact ⟨j + 1, by have := HL.out; have := HN.out; omega, by go_num, by show _ = _; rw [all_take zs j HL.out, hA.out, HZZ.out, HW.out]; rfl⟩
        case measure => have := HL.out; have := HN.out; simp [intOf]; omega
    · have hJ : ¬ (j : Int) < (n : Int) := by omega
      obtain rfl : j = n := by omega
      go_wp2_with fail
      go_ret
      exact ⟨ret_b (by have := hA.out; rw [List.take_of_length_le (Nat.le_of_eq HN.out.symm)] at this; exact this.symm), rfl⟩

theorem s_word (z : Int) (w : World) : Calls Tryz.prog 81 #[.int .i64 z] w fun e w' => e = .returned (.bool (isW z)) ∧ w' = w := by
  have hw : (decide (0 ≤ z) && decide (z ≤ 4294967295)) = isW z := rfl
  go_enter Tryz.func81, Tryz.ntmps81
  go_wp2_with (go_at_call 42; refine (spec_in _ _ _ _).mono ?_; rintro e x ⟨rfl, rfl⟩; rw [hw])
  go_ret
  exact ⟨rfl, rfl⟩

set_option maxHeartbeats 1000000 in
theorem s_words (a : Option Addr) (n cap : Nat) (zs : List Int) (w : World) (h : Rn w a n cap zs) :
    Calls Tryz.prog 44 #[.slice a n cap] w fun e w' => e = .returned (.bool (zs.all isW)) ∧ w' = w := by
  have HN : Hid (n = zs.length) := h.len
  have HZ : Hid (Rn w a n cap zs) := h
  have hl : (n : Int) ≤ 9223372036854775807 := by have := h.cap; unfold maxLen at this; omega
  clear h
  go_enter Tryz.func44, Tryz.ntmps44
  go_wp2_with fail
  go_loop [3] (fun i => ∃ j : Nat, j ≤ n ∧ i = .int .i64 j ∧ Hid ((zs.take j).all isW = true)) (fun i => n - (intOf i).toNat)
  case atStart => exact ⟨0, Nat.zero_le _, rfl, rfl⟩
  case round =>
    obtain ⟨j, hj, rfl, hA⟩ := hrel
    by_cases hlt : j < n
    · obtain ⟨x, rfl, c1⟩ := HZ.out.at j hlt
      have hJ : (j : Int) < (n : Int) := by omega
      have HL : Hid (j < zs.length) := by show _ < _; have := HN.out; omega
      obtain ⟨z, hz⟩ : ∃ z, zs.getD j 0 = z := ⟨_, rfl⟩
      rw [hz] at c1
      have HZZ : Hid (zs.getD j 0 = z) := hz
      clear hz hlt
      cases hw : isW z
      · have HW : Hid (isW z = false) := hw
        go_wp2_with (go_at_call 81; refine (s_word _ _).mono ?_; rintro e x ⟨rfl, rfl⟩; rw [hw])
        go_ret
        exact ⟨ret_b (all_not zs j HL.out (by rw [HZZ.out]; exact HW.out)).symm, rfl⟩
      · have HW : Hid (isW z = true) := hw
        go_wp2_with (go_at_call 81; refine (s_word _ _).mono ?_; rintro e x ⟨rfl, rfl⟩; rw [hw])
        go_round
        case rel => exact ⟨j + 1, by have := HL.out; have := HN.out; omega, by go_num, by show _ = _; rw [all_take zs j HL.out, hA.out, HZZ.out, HW.out]; rfl⟩
        case measure => have := HL.out; have := HN.out; simp [intOf]; omega
    · have hJ : ¬ (j : Int) < (n : Int) := by omega
      obtain rfl : j = n := by omega
      go_wp2_with fail
      go_ret
      exact ⟨ret_b (by have := hA.out; rw [List.take_of_length_le (Nat.le_of_eq HN.out.symm)] at this; exact this.symm), rfl⟩

theorem stand_tmod (z m : Int) (h : 0 ≤ z) : z.tmod m = z % m := Int.tmod_eq_emod_of_nonneg h
theorem i_stand (k z : Int) (w : World) (hz : 0 ≤ z) (hz2 : z ≤ 4294967295) :
    Calls Tryz.prog 116 #[.int .i64 k, .int .i64 z] w fun e w' => e = .returned (.int .i64 (standV k z)) ∧ w' = w := by
  have t4 := stand_tmod z 4 hz
  have t8 := stand_tmod z 8 hz
  by_cases h0 : k = 0
  · subst h0
    go_enter Tryz.func116, Tryz.ntmps116
    go_wp2_with fail
    go_ret
    exact ⟨by simp [standV], rfl⟩
  by_cases h7 : k = 7
  · subst h7
    go_enter Tryz.func116, Tryz.ntmps116
    go_wp2_with fail
    go_ret
    exact ⟨by simp [standV], rfl⟩
  by_cases h10 : k = 10
  · subst h10
    by_cases h8 : 8 < z
    · go_enter Tryz.func116, Tryz.ntmps116
      go_wp2_with fail
      go_ret
      exact ⟨by simp [standV, h8], rfl⟩
    · go_enter Tryz.func116, Tryz.ntmps116
      go_wp2_with fail
      go_ret
      exact ⟨ret_i (by unfold standV; rw [if_neg (by decide), if_neg (by decide), if_pos rfl, if_neg (by omega)]), rfl⟩
  by_cases h6 : k = 6
  · subst h6
    go_enter Tryz.func116, Tryz.ntmps116
    go_wp2_with fail
    go_ret
    exact ⟨by simp [standV], rfl⟩
  by_cases h8 : k = 8
  · subst h8
    go_enter Tryz.func116, Tryz.ntmps116
    go_wp2_with fail
    go_ret
    exact ⟨by simp [standV], rfl⟩
  have hv : standV k z = z := by simp [standV, h0, h7, h10, h6, h8]
  rw [hv]
  clear hv
  go_enter Tryz.func116, Tryz.ntmps116
  go_wp2_with fail
  go_ret
  exact ⟨rfl, rfl⟩

set_option maxHeartbeats 1000000 in
theorem i_allStand (x : Addr) (cap : Nat) (zs : List Int) (w : World) (h : Rn w (some x) 11 cap zs) (hw : zs.all isW = true) :
    Calls Tryz.prog 88 #[.slice (some x) 11 cap] w fun e w' => e = .returned (.bool (standC zs)) ∧ w' = w := by
  have HN : Hid (zs.length = 11) := h.len.symm
  have HZ : Hid (Rn w (some x) 11 cap zs) := h
  have HW : Hid (zs.all isW = true) := hw
  have HC : Hid ((∀ k : Nat, k < 11 → standV k (zs.getD k 0) = zs.getD k 0) ↔ standC zs = true) := stand_all hw h.len.symm
  clear h hw
  go_enter Tryz.func88, Tryz.ntmps88
  go_wp2_with fail
  go_loop [3, 4, 7] (fun _ _ i => ∃ j : Nat, j ≤ 11 ∧ i = .int .i64 j ∧ Hid (∀ k : Nat, k < j → standV k (zs.getD k 0) = zs.getD k 0)) (fun _ _ i => 11 - (intOf i).toNat)
  case atStart => exact ⟨0, Nat.zero_le _, rfl, fun k hk => absurd hk (Nat.not_lt_zero _)⟩
  case round =>
    obtain ⟨j, hj, rfl, hA⟩ := hrel
    by_cases hlt : j < 11
    · obtain ⟨x', e, c1⟩ := HZ.out.at j hlt
      cases e
      have hJ : (j : Int) < 11 := by omega
      have HL : Hid (j < 11) := hlt
      have ha := all_at HW.out j
      obtain ⟨z, hz⟩ : ∃ z, zs.getD j 0 = z := ⟨_, rfl⟩
      rw [hz] at c1 ha
      have HA : Hid (0 ≤ z ∧ z ≤ 4294967295) := ha
      have HZZ : Hid (zs.getD j 0 = z) := hz
      obtain ⟨u, hu⟩ : ∃ u, standV (j : Int) z = u := ⟨_, rfl⟩
      have HU : Hid (standV (j : Int) z = u) := hu
      clear hz hlt ha hu
      by_cases hs : u = z
      · have HS : Hid (u = z) := hs
        subst hs
        go_wp2_with (go_at_call 116; refine (i_stand _ _ _ HA.out.1 HA.out.2).mono ?_; rintro e x ⟨rfl, rfl⟩; rw [HU.out])
        go_round
        case rel => exact ⟨j + 1, by have := HL.out; omega, by go_num, fun k hk => by
          by_cases e : k = j
          · subst e; rw [HZZ.out]; exact HU.out
          · exact hA.out k (by omega)⟩
        case measure => have := HL.out; simp [intOf]; omega
      · have HS : Hid (¬ u = z) := hs
        go_wp2_with (go_at_call 116; refine (i_stand _ _ _ HA.out.1 HA.out.2).mono ?_; rintro e x ⟨rfl, rfl⟩; rw [HU.out])
        go_ret
        refine ⟨?_, rfl⟩
        cases hc : standC zs
        · rfl
        · exact absurd (HU.out.symm.trans (by have := HC.out.2 hc j HL.out; rw [HZZ.out] at this; exact this)) HS.out
    · have hJ : ¬ (j : Int) < 11 := by omega
      obtain rfl : j = 11 := by omega
      go_wp2_with fail
      go_ret
      exact ⟨ret_b (HC.out.1 hA.out).symm, rfl⟩
end Go.Proofs.YtggejbphdadckaaGreatDoor
namespace Go.Proofs.YtggejbphdadckaaGreatDoor
open Go.RowKit
set_option linter.unusedVariables false

theorem sz_nums (a : Option Addr) (len cap : Nat) (k : Int) (w : World) (h : len ≤ 9223372036854775807) (h1 : 0 ≤ k) (h2 : k ≤ 1048576) :
    Calls Tryz.prog 17 #[.slice a len cap, .int .i64 k] w fun e w' => e = .returned (.int .i64 (if k - len < 0 then -1 else k - len)) ∧ w' = w := by
  have h3 : (len : Int) ≤ 9223372036854775807 := by omega
  by_cases hk : k - len < 0
  · rw [if_pos hk]
    go_enter Tryz.func17, Tryz.ntmps17
    go_wp2_with fail
    go_ret
    exact ⟨rfl, rfl⟩
  · rw [if_neg hk]
    go_enter Tryz.func17, Tryz.ntmps17
    go_wp2_with fail
    go_ret
    exact ⟨rfl, rfl⟩
theorem IsRow.lens {k : IntKind} {w : World} {a : Option Addr} {len cap : Nat} {zs : List Int} (h : IsRow k w a len cap zs) : len = zs.length ∧ len ≤ 9223372036854775807 := by
  rcases h with ⟨_, h1, _, rfl⟩ | ⟨x, _, h1, h2, h3, _⟩
  · exact ⟨by simpa using h1, by omega⟩
  · exact ⟨h3.symm, by unfold maxLen at h2; omega⟩
theorem IsSS.at {w : World} {a : Option Addr} {len cap : Nat} {oss : List (List Int)} (h : IsSS w a len cap oss) (i : Nat) (hi : i < len) : ∃ x b l c, a = some x ∧ w.cell? (x.add i) = some (.slice b l c) ∧ IsRow .i64 w b l c (oss.getD i []) := by
  rcases h with ⟨_, h1, _, _⟩ | ⟨x, rfl, h1, h2, h3, h4⟩
  · omega
  · obtain ⟨b, l, c, k1, k2⟩ := h4 i hi
    exact ⟨x, b, l, c, rfl, k1, k2⟩

set_option maxHeartbeats 1000000 in
theorem sz_ss (a : Option Addr) (n c : Nat) (k : Int) (oss : List (List Int)) (w : World) (h : IsSS w a n c oss) (h1 : 0 ≤ k) (h2 : k ≤ 1048576) :
    Calls Tryz.prog 34 #[.slice a n c, .int .i64 k] w fun e w' => (∃ r : Int, e = .returned (.int .i64 r) ∧ r ≤ 1048576 ∧ (0 ≤ r → n ≤ 1048576 ∧ ∀ i, i < n → (oss.getD i []).length ≤ 1048576)) ∧ w' = w := by
  have HR : Hid (IsSS w a n c oss) := h
  have hmax : (n : Int) ≤ 9223372036854775807 := by have := h.cap; unfold maxLen at this; omega
  clear h
  by_cases hk : k - n < 0
  · go_enter Tryz.func34, Tryz.ntmps34
    go_wp2_with fail
    go_ret
    exact ⟨⟨-1, rfl, by omega, fun h => by omega⟩, rfl⟩
  have HN : Hid (n ≤ 1048576) := by show _ ≤ _; omega
  have hb0 : 0 ≤ k - n := by omega
  have hb1 : k - n ≤ 1048576 := by omega
  go_enter Tryz.func34, Tryz.ntmps34
  go_wp2_with fail
  generalize k - (n : Int) = r0 at *
  clear hk h1 h2
  go_loop [1, 5] (fun u c => ∃ (j : Nat) (r : Int), j ≤ n ∧ c = .int .i64 j ∧ u = .int .i64 r ∧ 0 ≤ r ∧ r ≤ 1048576 ∧ Hid (∀ i, i < j → (oss.getD i []).length ≤ 1048576)) (fun _ c => n - (intOf c).toNat)
  case atStart => exact ⟨0, r0, Nat.zero_le _, rfl, rfl, hb0, hb1, fun i hi => absurd hi (Nat.not_lt_zero _)⟩
  case round =>
    obtain ⟨j, r, hj, rfl, rfl, hr0, hr1, hI⟩ := hrel
    by_cases hlt : j < n
    · obtain ⟨x, b, l, c, rfl, k1, k2⟩ := HR.out.at j hlt
      have HLL : Hid (l = (oss.getD j []).length) := k2.lens.1
      have HLM : Hid (l ≤ 9223372036854775807) := k2.lens.2
      have hJ : (j : Int) < (n : Int) := by omega
      have HLT : Hid (j < n) := hlt
      clear k2 hlt
      by_cases hz : r - l < 0
      · go_wp2_with (go_at_call 17; refine (sz_nums _ _ _ _ _ HLM.out hr0 hr1).mono ?_; rintro e w ⟨rfl, rfl⟩; rw [if_pos hz])
        go_ret
        exact ⟨⟨-1, rfl, by omega, fun h => by omega⟩, rfl⟩
      · have e0 : 0 ≤ r - l := by omega
        have e1 : r - l ≤ 1048576 := by omega
        have HL2 : Hid (l ≤ 1048576) := by show _ ≤ _; omega
        go_wp2_with (go_at_call 17; refine (sz_nums _ _ _ _ _ HLM.out hr0 hr1).mono ?_; rintro e w ⟨rfl, rfl⟩; rw [if_neg hz])
        go_round
        case rel =>
          refine ⟨j + 1, r - l, by have := HLT.out; omega, by go_num, rfl, e0, e1, fun i hi => ?_⟩
          rcases Nat.lt_or_ge i j with h | h
          · exact hI.out i h
          · obtain rfl : i = j := by omega
            have := HL2.out; have := HLL.out; omega
        case measure => have := HLT.out; simp [intOf]; omega
    · have hJ : ¬ (j : Int) < (n : Int) := by omega
      have HJ : Hid (j = n) := by show _ = _; omega
      clear hlt
      go_wp2_with fail
      go_ret
      exact ⟨⟨r, rfl, hr1, fun _ => ⟨HN.out, fun i hi => hI.out i (by have := HJ.out; omega)⟩⟩, rfl⟩

/-- A slice of slices that was made: its row, and each of its slices, at base or behind it. -/
structure SSo (w : World) (base g n : Nat) (oss : List (List Int)) : Prop where
  len : n = oss.length
  small : n ≤ 1048576
  low : base ≤ g
  row : ∀ i, i < n → ∃ b l c, w.cell? ⟨g, i, none⟩ = some (.slice b l c) ∧ Nums w base (.slice b l c) (oss.getD i [])
theorem SSo.keep {w w' : World} {base g n : Nat} {oss : List (List Int)} (h : SSo w base g n oss) (b : Below w.heap.size w w') : SSo w' base g n oss :=
  ⟨h.len, h.small, h.low, fun i hi => by
    obtain ⟨x, l, c, k1, k2⟩ := h.row i hi
    exact ⟨x, l, c, cell_keep b k1, k2.keep b⟩⟩
theorem SSo.read {w : World} {base g n : Nat} {oss : List (List Int)} (h : SSo w base g n oss) : IsS2 w (some ⟨g, 0, none⟩) n n oss :=
  .inr ⟨⟨g, 0, none⟩, rfl, Nat.le_refl _, by have := h.small; unfold maxLen; omega, h.len.symm, fun i hi => by
    obtain ⟨x, l, c, k1, k2⟩ := h.row i hi
    exact ⟨x, l, c, by simpa [Addr.add_lit] using k1, k2.read⟩⟩

theorem info_sl : (Tryz.prog.info? 28).map (fun i => (i.zero, i.size, i.bytes)) = some (some (.slice none 0 0), 1, 24) := by kernel_rfl

set_option maxHeartbeats 2000000 in
theorem to_ss (a : Option Addr) (len cap : Nat) (oss : List (List Int)) (w : World) (h : IsSS w a len cap oss) (hl : len ≤ 1048576) (hs : ∀ i, i < len → (oss.getD i []).length ≤ 1048576) :
    Calls Tryz.prog 48 #[.slice a len cap] w fun e w' => ∃ g, e = .returned (.slice (some ⟨g, 0, none⟩) len len) ∧ SSo w' w.heap.size g len oss ∧ Below w.heap.size w w' := by
  obtain ⟨i, hi, hz0, hz1, hz2⟩ := info_parts info_sl
  have hlen : Hid (len = oss.length) := h.len
  have HR : Hid (IsSS w a len cap oss) := h
  have HS : Hid (∀ i, i < len → (oss.getD i []).length ≤ 1048576) := hs
  have HSM : Hid (len ≤ 1048576) := hl
  clear h hs
  go_enter Tryz.func48, Tryz.ntmps48
  go_wp2_with (at_make; refine wpList_make_full _ rfl _ _ 22 rfl w.heap.size 28 i _ 1 Tryz.underlying22 hi hz0 hz1 _ _ _ _ len rfl rfl rfl rfl (by rw [hz2]; omega) (by unfold maxLen; omega) (Nat.le_refl _) ?_; intro w1 hown hgrow)
  have N1 : Hid (w1.ownsRow w.heap.size 28 1 (.slice (some ⟨w.heap.size, 0, none⟩) len len) len (List.replicate len (.slice none 0 0))) := by
    show w1.ownsRow _ _ _ _ _ _
    rw [Nat.mul_one, show (Value.slice none 0 0).cells = #[.slice none 0 0] from rfl, toList_madeCells_one] at hown
    exact hown
  have B1 : Hid (Below w.heap.size w w1) := (Below.refl _ _).grown hgrow (Nat.le_refl _) (by simp)
  clear hown hgrow hi hz0 hz1 hz2
  go_wp2_with fail
  go_loopw [4] (fun c wr => ∃ (j : Nat) (vs : List Value), j ≤ len ∧ c = .int .i64 j ∧ wr.ownsRow w.heap.size 28 1 (.slice (some ⟨w.heap.size, 0, none⟩) len len) len vs ∧ Below w.heap.size w wr ∧
    (∀ i, i < j → ∃ b l c, vs[i]? = some (.slice b l c) ∧ Nums wr (w.heap.size + 1) (.slice b l c) (oss.getD i []))) (fun c _ => len - (intOf c).toNat)
  case atStart => exact ⟨0, _, Nat.zero_le _, rfl, N1.out, B1.out, fun i hi => absurd hi (Nat.not_lt_zero _)⟩
  case round =>
    obtain ⟨j, vs, hj, rfl, hN, hB, hV⟩ := hrel
    have HN : Hid (wr.ownsRow _ _ _ _ _ vs) := hN
    have HB : Hid (Below _ w wr) := hB
    have HV : Hid (∀ i, i < j → ∃ b l c, vs[i]? = some (.slice b l c) ∧ Nums wr (w.heap.size + 1) (.slice b l c) (oss.getD i [])) := hV
    have hl2 : (len : Int) ≤ 1048576 := by omega
    have hvl : vs.length = len := by have := hN.1; simpa using this
    by_cases hlt : j < len
    · obtain ⟨x, b, l, c, rfl, k1, k2⟩ := HR.out.at j hlt
      have k1 := cell_keep hB k1
      have HK : Hid (IsRow .i64 wr b l c _) := k2.stay hB
      have HL5 : Hid (l ≤ 1048576) := by have := k2.lens.1; have := HS.out j hlt; show _ ≤ _; omega
      have c0 : wr.cell? ⟨w.heap.size, j, none⟩ = some (vs.getD j (.slice none 0 0)) := by
        have := World.ownsRow.cellAt hN j (by omega)
        rw [this, List.getElem?_eq_getElem (by omega), List.getD, List.getElem?_eq_getElem (by omega)]
        rfl
      have f0 : wr.frozen? ⟨w.heap.size, j, none⟩ = false := World.ownsRow.frozenAt hN j
      have gb : w.heap.size < wr.heap.size := block_of_cell c0
      have hI : (j : Int) < (len : Int) := by omega
      have HL : Hid (j < len) := hlt
      have HVL : Hid (vs.length = len) := hvl
      generalize vs.getD j (.slice none 0 0) = old at *
      clear hN hB hV hlt k2 hvl
      go_wp2_with fail
      refine (to_nums _ _ _ _ _ HK.out HL5.out).mono ?_
      rintro e w5 ⟨g5, rfl, n5, b5⟩
      have c0 := cell_keep b5 c0
      have f0 : w5.frozen? ⟨w.heap.size, j, none⟩ = false := by rw [b5.frozen (p := ⟨w.heap.size, j, none⟩) gb]; exact f0
      have HN5 : Hid (w5.ownsRow w.heap.size 28 1 (.slice (some ⟨w.heap.size, 0, none⟩) len len) len vs) := World.ownsRow.kept HN.out (below_grown b5 none) (by cases (Value.slice (some ⟨w.heap.size, 0, none⟩) len len).ownBlock <;> simp)
      have HB5 : Hid (Below _ w w5) := on HB.out b5
      have HV5 : Hid (∀ i, i < j → ∃ b l c, vs[i]? = some (.slice b l c) ∧ Nums w5 (w.heap.size + 1) (.slice b l c) (oss.getD i [])) := fun i hi => by
        obtain ⟨b, l, c, e1, e2⟩ := HV.out i hi
        exact ⟨b, l, c, e1, e2.keep b5⟩
      have n5' : Hid (Nums w5 (w.heap.size + 1) (.slice (some ⟨g5, 0, none⟩) l l) (oss.getD j [])) := n5.mono (by omega)
      clear b5 n5
      go_wp2_with fail
      go_roundw
      case rel =>
        have ne : ∀ {v : Value} {zs : List Int}, Nums w5 (w.heap.size + 1) v zs → v.ownBlock ≠ some w.heap.size := fun hn e => by have := (hn.lt _ e).1; omega
        refine ⟨j + 1, vs.set j (.slice (some ⟨g5, 0, none⟩) l l), by have := HL.out; omega, by go_num, (World.ownsRow.stored HN5.out j _).1, HB5.out.setCell (by simp) _, fun i hi => ?_⟩
        by_cases e : i = j
        · subst e
          exact ⟨_, _, _, List.getElem?_set_self (by have := HL.out; have := HVL.out; omega), n5'.out.put _ _ (ne n5'.out)⟩
        · obtain ⟨b, l, c, e1, e2⟩ := HV5.out i (by omega)
          exact ⟨b, l, c, by rw [List.getElem?_set_ne (fun h => e h.symm)]; exact e1, e2.put _ _ (ne e2)⟩
      case measure => have := HL.out; simp [intOf]; omega
    · have hI : ¬ (j : Int) < (len : Int) := by omega
      obtain rfl : j = len := by omega
      clear hN hB hV
      go_wp2_with fail
      go_ret
      refine ⟨_, rfl, ⟨hlen.out, HSM.out, Nat.le_refl _, fun i hi => ?_⟩, HB.out⟩
      obtain ⟨b, l, c, e1, e2⟩ := HV.out i hi
      refine ⟨b, l, c, ?_, e2.mono (by omega)⟩
      rw [World.ownsRow.cellAt HN.out i (by omega)]
      exact e1

set_option maxHeartbeats 2000000 in
theorem eq_ss (g g' n : Nat) (oss : List (List Int)) (b c : Nat) (w : World) (h : SSo w b g n oss) (k : SSo w c g' n oss) :
    Calls Tryz.prog 65 #[.slice (some ⟨g, 0, none⟩) n n, .slice (some ⟨g', 0, none⟩) n n] w fun e w' => e = .returned (.bool true) ∧ Below w.heap.size w w' := by
  have HZ : Hid (SSo w b g n oss) := h
  have KZ : Hid (SSo w c g' n oss) := k
  have hl : (n : Int) ≤ 9223372036854775807 := by have := h.small; omega
  clear h k
  go_enter Tryz.func65, Tryz.ntmps65
  go_wp2_with fail
  go_loopw [5] (fun i wr => ∃ j : Nat, j ≤ n ∧ i = .int .i64 j ∧ Below w.heap.size w wr) (fun i _ => n - (intOf i).toNat)
  case atStart => exact ⟨0, Nat.zero_le _, rfl, Below.refl _ _⟩
  case round =>
    obtain ⟨j, hj, rfl, hB⟩ := hrel
    have HB : Hid (Below _ _ _) := hB
    by_cases hlt : j < n
    · obtain ⟨x1, l1, c1, d1, m1⟩ := (HZ.out.keep hB).row j hlt
      obtain ⟨x2, l2, c2, d2, m2⟩ := (KZ.out.keep hB).row j hlt
      have M1 : Hid (Nums wr _ _ _) := m1
      have M2 : Hid (Nums wr _ _ _) := m2
      have hI : (j : Int) < (n : Int) := by omega
      have HL : Hid (j < n) := hlt
      have inh : Nonempty (BW wr) := ⟨⟨wr, Below.refl _ _⟩⟩
      have z1 := BW.cell d1
      have z2 := BW.cell d2
      have CE : ∀ p : BW wr, Calls Tryz.prog 11 #[.slice x1 l1 c1, .slice x2 l2 c2] p.w fun e w' => e = .returned (.bool true) ∧ Below p.w.heap.size p.w w' := fun p => eq_nums _ _ _ _ _ _ (M1.out.keep p.h) (M2.out.keep p.h)
      clear hB hlt m1 m2
      go_wp2_with fail
      refine region_bw (by kernel_rfl) ?_
      repeat (quiet_step ((go_at_call 11; exact calls_bw (CE _))))
      refine wpQuiet_nil ?_
      rintro _ ⟨p9, rfl⟩
      have B9 : Hid (Below w.heap.size w p9.w) := on HB.out p9.h
      go_wp2_with fail
      go_roundw
      case rel => exact ⟨j + 1, by have := HL.out; omega, by go_num, B9.out⟩
      case measure => have := HL.out; simp [intOf]; omega
    · have hI : ¬ (j : Int) < (n : Int) := by omega
      clear hB
      go_wp2_with fail
      go_ret
      exact ⟨rfl, HB.out⟩
end Go.Proofs.YtggejbphdadckaaGreatDoor
