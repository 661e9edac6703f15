/- Texts of this seat, joined. -/
import Derived.Laws.CopyOwn
import Derived.Deep.RegionLaw
import Derived.Deep.RegionWith
import Derived.Test.YtbegbphbcjoglaaGreatDoorQ04
import Derived.Test.YtbegbphbcjoglaaGreatDoorQ07
import Derived.Test.YtbegbphbcjoglaaGreatDoorQ08
import Derived.Test.YtbegbphbcjoglaaGreatDoorQ11
import Derived.Test.YtbegbphbcjoglaaGreatDoorQ12
namespace Go.Proofs.YtbegbphbcjoglaaGreatDoor
open Go.RowKit
set_option linter.unusedVariables false

theorem Pags.heap {w : World} {base g p : Nat} {zs : List Int} (h : Pags w base (.slice (some ⟨g, 0, none⟩) p p) p zs) : w.heap[g]? = some (.cells (zs.map (Value.int .i64)).toArray 82 (0, 0)) := by
  obtain ⟨h1, ⟨h2, h3⟩ | ⟨g', cap, cur, hv, hb, hh, h4, h5, h6, h7⟩⟩ := h
  · simp at h2
  · simp at hv
    obtain ⟨rfl, rfl⟩ := hv
    rw [List.take_of_length_le (by simp [h6])] at h7
    rw [hh, ← h7]
theorem Pags.of_heap {w : World} {base g p : Nat} {zs : List Int} (hh : w.heap[g]? = some (.cells (zs.map (Value.int .i64)).toArray 82 (0, 0))) (hl : zs.length = p * 8) (hb : base ≤ g) (hp : p ≤ maxLen) : Pags w base (.slice (some ⟨g, 0, none⟩) p p) p zs :=
  ⟨by simpa using hl, .inr ⟨g, p, _, rfl, hb, hh, Nat.le_refl _, hp, by simpa using hl, by rw [List.take_of_length_le (by simp [hl])]⟩⟩

/-- The pages behind j rounds. -/
def cutL (zs : List Int) (p j : Nat) : List Int := zs.take (j * 8) ++ List.replicate ((p - j) * 8) 0
theorem cutL_length (zs : List Int) (p j : Nat) (hz : zs.length = p * 8) (hj : j ≤ p) : (cutL zs p j).length = p * 8 := by
  simp [cutL, hz]
  omega
def eight (zs : List Int) (j : Nat) : List Int := (zs.drop (j * 8)).take 8
theorem eight_length (zs : List Int) (p j : Nat) (hz : zs.length = p * 8) (hj : j < p) : (eight zs j).length = 8 := by
  simp [eight, hz]
  omega
theorem splice_cut (zs : List Int) (p j : Nat) (hz : zs.length = p * 8) (hj : j < p) :
    splice ((cutL zs p j).map (Value.int .i64)) (j * 8) ((eight zs j).map (Value.int .i64)) = (cutL zs p (j + 1)).map (Value.int .i64) := by
  have h8 := eight_length zs p j hz hj
  unfold splice
  rw [List.length_map, h8, ← List.map_take, ← List.map_drop, ← List.map_append, ← List.map_append]
  congr 1
  have e1 : (cutL zs p j).take (j * 8) = zs.take (j * 8) := by
    unfold cutL
    rw [List.take_append_of_le_length (by simp [hz]; omega), List.take_take, Nat.min_self]
  have e2 : (cutL zs p j).drop (j * 8 + 8) = List.replicate ((p - (j + 1)) * 8) 0 := by
    unfold cutL
    rw [List.drop_append, List.drop_of_length_le (by simp; omega), List.nil_append, List.drop_replicate]
    congr 1
    simp [hz]
    omega
  rw [e1, e2, ← List.append_assoc]
  unfold cutL eight
  rw [show (j + 1) * 8 = j * 8 + 8 by omega, List.take_add]
theorem eight_cell {w : World} {base g n cap : Nat} {zs : List Int} (h : Nums w base (.slice (some ⟨g, 0, none⟩) n cap) zs) (p j : Nat) (hz : zs.length = p * 8) (hj : j < p) (hn : n = zs.length) :
    ∀ i v, ((eight zs j).map (Value.int .i64))[i]? = some v → w.cell? ((⟨g, j * 8, none⟩ : Addr).add i) = some v := by
  intro i v hv
  have hi : i < 8 := by
    have := (List.getElem?_eq_some_iff.1 hv).1
    rw [List.length_map, eight_length zs p j hz hj] at this
    exact this
  rw [Addr.add_lit, h.cell hn (j * 8 + i) (by omega), ← hv]
  simp only [eight, List.getElem?_map, List.getElem?_take, hi, if_true, List.getElem?_drop, List.getD]
  rw [List.getElem?_eq_getElem (by omega)]
  rfl

set_option maxHeartbeats 2000000 in
theorem impl_cut (gm n cap : Nat) (zs : List Int) (b p : Nat) (w : World) (h : Nums w b (.slice (some ⟨gm, 0, none⟩) n cap) zs) (hz : zs.length = p * 8) (hp : p ≤ 24) (hp0 : 1 ≤ p) :
    Calls Tryz.prog 59 #[.slice (some ⟨gm, 0, none⟩) n cap] w fun e w' => ∃ g, e = .returned (.slice (some ⟨g, 0, none⟩) p p) ∧ Pags w' w.heap.size (.slice (some ⟨g, 0, none⟩) p p) p zs ∧ Below w.heap.size w w' := by
  obtain ⟨i, hi, hz0, hz1, hz2⟩ := info_parts info_wpage
  have HM : Hid (Nums w b _ zs) := h
  have hnn := h.len
  obtain ⟨hl1, hl2⟩ := h.lens
  unfold maxLen at hl2
  have HZ : Hid (zs.length = p * 8) := hz
  have HP : Hid (1 ≤ p ∧ p ≤ 24) := ⟨hp0, hp⟩
  obtain rfl : n = p * 8 := by omega
  have HC : Hid (p * 8 ≤ cap ∧ cap ≤ 9223372036854775807) := ⟨by omega, hl2⟩
  have hpi : (p : Int) ≤ 24 := by omega
  clear h hz hp hp0 hnn hl1 hl2
  go_enter Tryz.func59, Tryz.ntmps59
  go_wp2_with (at_make; refine wpList_make_full _ rfl _ _ 123 rfl w.heap.size 82 i _ 8 Tryz.underlying123 hi hz0 hz1 _ _ _ _ p rfl rfl (by omega) (by omega) (by have := HP.out; rw [hz2]; omega) (by have := HP.out; unfold maxLen; omega) (by simp) ?_; intro w1 hown hgrow; have b1 := (Below.refl _ _).grown hgrow (Nat.le_refl _) (by simp))
  have P1 : Hid (w1.heap[w.heap.size]? = some (.cells ((cutL zs p 0).map (Value.int .i64)).toArray 82 (0, 0))) := by
    refine Pags.heap (base := w.heap.size) (p := p) ?_
    unfold Pags
    rw [show (Value.agg (Array.replicate 8 (.int .i64 0))).cells = Array.replicate 8 (.int .i64 0) from rfl, made_replicate _ _ _ (by decide)] at hown
    simpa [cutL] using hown
  have B1 : Hid (Below w.heap.size w w1) := b1
  clear hown hgrow hi hz0 hz1 hz2 b1
  go_wp2_with fail
  go_loopw [4, 11] (fun _ c wr => ∃ j : Nat, j ≤ p ∧ c = .int .i64 j ∧ Hid (wr.heap[w.heap.size]? = some (.cells ((cutL zs p j).map (Value.int .i64)).toArray 82 (0, 0))) ∧ Below w.heap.size w wr) (fun _ c _ => p - (intOf c).toNat)
  case atStart => exact ⟨0, Nat.zero_le _, rfl, P1, B1.out⟩
  case round =>
    obtain ⟨j, hj, rfl, hH, hB⟩ := hrel
    have HB : Hid (Below _ _ _) := hB
    clear hB P1
    by_cases hlt : j < p
    · have hJ : (j : Int) < (p : Int) := by omega
      have HLT : Hid (j < p) := hlt
      have HS : Hid (∀ i v, ((eight zs j).map (Value.int .i64))[i]? = some v → wr.cell? ((⟨gm, j * 8, none⟩ : Addr).add i) = some v) := by
        intro i v hv
        exact cell_keep HB.out (eight_cell HM.out p j HZ.out hlt HZ.out.symm i v hv)
      obtain ⟨X, hX⟩ : ∃ X, X = (eight zs j).map (Value.int .i64) := ⟨_, rfl⟩
      obtain ⟨Y, hY⟩ : ∃ Y, Y = (cutL zs p j).map (Value.int .i64) := ⟨_, rfl⟩
      rw [← hX] at HS
      rw [← hY] at hH
      have XL : Hid (X.length = 8) := by show _ = _; rw [hX, List.length_map]; exact eight_length zs p j HZ.out hlt
      have YL : Hid (Y.length = p * 8) := by show _ = _; rw [hY, List.length_map]; exact cutL_length zs p j HZ.out hj
      have X1 : Hid (∀ v ∈ X, v.oneCell' = true) := by
        intro v hv
        rw [hX] at hv
        obtain ⟨z, _, rfl⟩ := List.mem_map.1 hv
        rfl
      have SP : Hid (splice Y (j * 8) X = (cutL zs p (j + 1)).map (Value.int .i64)) := by show _ = _; rw [hX, hY]; exact splice_cut zs p j HZ.out hlt
      obtain ⟨k, hk⟩ : ∃ k : Nat, j * 8 = k := ⟨_, rfl⟩
      have HK : Hid (j * 8 = k) := hk
      have hw : IntKind.i64.wrap ((j : Int) * 8) = (k : Int) := by
        rw [show (j : Int) * 8 = (k : Int) by omega]
        rw [IntKind.wrap_i64]; omega
      have hk1 : (k : Int) ≤ (p : Int) * 8 := by omega
      have hk2 : ¬ cap = k := by have := HC.out; omega
      have hk3 : Hid (k + 8 ≤ p * 8) := by show _ ≤ _; omega
      clear hX hY hlt hk
      go_wp2_with fail
      go_region_law (refine step_copy_splice rfl (.tmp 17) (.tmp 21) 28 28 rfl 2 Tryz.underlying28 (by kernel_rfl) (some ⟨w.heap.size, j * 8, none⟩) (some ⟨gm, k, none⟩) 8 8 (p * 8 - k) (cap - k) (by simp [Act.eval, Act.put]) (by simp [Act.eval, Act.put]) w.heap.size (j * 8) Y 82 hH.out X (by rw [XL.out]; have := hk3.out; exact (Nat.min_eq_right (by omega)).symm) (fun _ => ⟨rfl, _, rfl, by rw [← HK.out]; exact HS.out⟩) (by rw [XL.out, YL.out]; have := hk3.out; have := HK.out; omega) X1.out w.heap.size w (by first | exact HB.out | exact HB.out.drew | exact HB.out.drew.drew) (Nat.le_refl _) ?_; intro w4 hg4 hb4)
      have H4 : Hid (w4.heap[w.heap.size]? = some (.cells ((cutL zs p (j + 1)).map (Value.int .i64)).toArray 82 (0, 0))) := by
        show _ = _
        rw [← SP.out]
        exact hg4.out
      have B4 : Hid (Below w.heap.size w w4) := hb4
      clear hg4 hb4 SP X1 XL YL HS hH
      go_wp2_with fail
      go_roundw
      case rel => exact ⟨j + 1, by have := HLT.out; omega, by go_num, H4, B4.out⟩
      case measure => have := HLT.out; simp [intOf]; omega
    · have hJ : ¬ (j : Int) < (p : Int) := by omega
      obtain rfl : j = p := by omega
      go_wp2_with fail
      go_ret
      refine ⟨_, rfl, ?_, HB.out⟩
      have h1 := hH.out
      have e : cutL zs j j = zs := by simp [cutL, List.take_of_length_le (Nat.le_of_eq HZ.out)]
      rw [e] at h1
      exact Pags.of_heap h1 HZ.out (Nat.le_refl _) (by have := HP.out; unfold maxLen; omega)
end Go.Proofs.YtbegbphbcjoglaaGreatDoor
namespace Go.Proofs.YtbegbphbcjoglaaGreatDoor
open Go.RowKit
set_option linter.unusedVariables false

theorem code_nil (w : World) : Calls Tryz.prog 83 #[.nilIface] w fun e w' => e = .returned (.int .i64 0) ∧ Below w.heap.size w w' := by
  go_enter Tryz.func83, Tryz.ntmps83
  go_wp2_with (go_at_call 93; refine (as_nil _ _).mono ?_; rintro e w' ⟨rfl, rfl⟩)
  go_ret
  exact ⟨rfl, al (Below.refl _ _) _⟩
set_option maxHeartbeats 1000000 in
theorem code_hit (c : Int) (w : World) (hg : w.cell? ⟨0, 0, none⟩ = some (.iface 174 (.agg #[.pointer (some ⟨1, 143, none⟩)]))) :
    Calls Tryz.prog 83 #[.iface 152 (.agg #[.int .i64 c])] w fun e w' => e = .returned (.int .i64 c) ∧ Below w.heap.size w w' := by
  have hgA : Hid (_ = _) := cell_push (.cells #[.int .i64 0] 152) hg
  have htA : Hid ((w.alloc (.cells #[.int .i64 0] 152)).cell? ⟨w.heap.size, 0, none⟩ = some (.int .i64 0)) := cell_new rfl
  have hfA : Hid ((w.alloc (.cells #[.int .i64 0] 152)).frozen? ⟨w.heap.size, 0, none⟩ = false) := by show _ = _; simp
  clear hg
  have AS : Calls Tryz.prog 93 #[.iface 152 (.agg #[.int .i64 c]), .iface 154 (.pointer (some ⟨w.heap.size, 0, none⟩))] (w.alloc (.cells #[.int .i64 0] 152)) fun e w' => e = .returned (.bool true) ∧ w'.cell? ⟨w.heap.size, 0, none⟩ = some (.int .i64 c) ∧ Below w.heap.size w w' := (as_hit c ⟨w.heap.size, 0, none⟩ (.int .i64 0) (w.alloc (.cells #[.int .i64 0] 152)) hgA.out htA.out hfA.out).mono (by
    rintro e w' ⟨h1, w1, b1, rfl⟩
    exact ⟨h1, World.cell?_setCell_same _ _ _ (cell_keep b1 htA.out), (on (al (Below.refl _ _) _) b1).setCell (by simp) _⟩)
  go_enter Tryz.func83, Tryz.ntmps83
  go_wp2_with (go_at_call 93; refine AS.mono ?_; rintro e w' ⟨rfl, k1, B1⟩)
  go_ret
  exact ⟨rfl, B1⟩
end Go.Proofs.YtbegbphbcjoglaaGreatDoor
namespace Go.Proofs.YtbegbphbcjoglaaGreatDoor
open Go.RowKit
set_option linter.unusedVariables false

theorem sz_nums (a : Option Addr) (len cap : Nat) (k : Int) (w : World) (h : len ≤ 9223372036854775807) (h1 : 0 ≤ k) (h2 : k ≤ 1048576) :
    Calls Tryz.prog 47 #[.slice a len cap, .int .i64 k] w fun e w' => e = .returned (.int .i64 (if k - len < 0 then -1 else k - len)) ∧ w' = w := by
  have h3 : (len : Int) ≤ 9223372036854775807 := by omega
  by_cases hk : k - len < 0
  · rw [if_pos hk]
    go_enter Tryz.func47, Tryz.ntmps47
    go_wp2_with fail
    go_ret
    exact ⟨rfl, rfl⟩
  · rw [if_neg hk]
    go_enter Tryz.func47, Tryz.ntmps47
    go_wp2_with fail
    go_ret
    exact ⟨rfl, rfl⟩
theorem IsRow.lens {k : IntKind} {w : World} {a : Option Addr} {len cap : Nat} {zs : List Int} (h : IsRow k w a len cap zs) : len = zs.length ∧ len ≤ 9223372036854775807 := by
  rcases h with ⟨_, h1, _, rfl⟩ | ⟨x, _, h1, h2, h3, _⟩
  · exact ⟨by simpa using h1, by omega⟩
  · exact ⟨h3.symm, by unfold maxLen at h2; omega⟩
theorem IsSS.at {w : World} {a : Option Addr} {len cap : Nat} {oss : List (List Int)} (h : IsSS w a len cap oss) (i : Nat) (hi : i < len) : ∃ x b l c, a = some x ∧ w.cell? (x.add i) = some (.slice b l c) ∧ IsRow .i64 w b l c (oss.getD i []) := by
  rcases h with ⟨_, h1, _, _⟩ | ⟨x, rfl, h1, h2, h3, h4⟩
  · omega
  · obtain ⟨b, l, c, k1, k2⟩ := h4 i hi
    exact ⟨x, b, l, c, rfl, k1, k2⟩

set_option maxHeartbeats 1000000 in
theorem sz_ss (a : Option Addr) (n c : Nat) (k : Int) (oss : List (List Int)) (w : World) (h : IsSS w a n c oss) (h1 : 0 ≤ k) (h2 : k ≤ 1048576) :
    Calls Tryz.prog 16 #[.slice a n c, .int .i64 k] w fun e w' => (∃ r : Int, e = .returned (.int .i64 r) ∧ r ≤ 1048576 ∧ (0 ≤ r → n ≤ 1048576 ∧ ∀ i, i < n → (oss.getD i []).length ≤ 1048576)) ∧ w' = w := by
  have HR : Hid (IsSS w a n c oss) := h
  have hmax : (n : Int) ≤ 9223372036854775807 := by have := h.cap; unfold maxLen at this; omega
  clear h
  by_cases hk : k - n < 0
  · go_enter Tryz.func16, Tryz.ntmps16
    go_wp2_with fail
    go_ret
    exact ⟨⟨-1, rfl, by omega, fun h => by omega⟩, rfl⟩
  have HN : Hid (n ≤ 1048576) := by show _ ≤ _; omega
  have hb0 : 0 ≤ k - n := by omega
  have hb1 : k - n ≤ 1048576 := by omega
  go_enter Tryz.func16, Tryz.ntmps16
  go_wp2_with fail
  generalize k - (n : Int) = r0 at *
  clear hk h1 h2
  go_loop [1, 5] (fun u c => ∃ (j : Nat) (r : Int), j ≤ n ∧ c = .int .i64 j ∧ u = .int .i64 r ∧ 0 ≤ r ∧ r ≤ 1048576 ∧ Hid (∀ i, i < j → (oss.getD i []).length ≤ 1048576)) (fun _ c => n - (intOf c).toNat)
  case atStart => exact ⟨0, r0, Nat.zero_le _, rfl, rfl, hb0, hb1, fun i hi => absurd hi (Nat.not_lt_zero _)⟩
  case round =>
    obtain ⟨j, r, hj, rfl, rfl, hr0, hr1, hI⟩ := hrel
    by_cases hlt : j < n
    · obtain ⟨x, b, l, c, rfl, k1, k2⟩ := HR.out.at j hlt
      have HLL : Hid (l = (oss.getD j []).length) := k2.lens.1
      have HLM : Hid (l ≤ 9223372036854775807) := k2.lens.2
      have hJ : (j : Int) < (n : Int) := by omega
      have HLT : Hid (j < n) := hlt
      clear k2 hlt
      by_cases hz : r - l < 0
      · go_wp2_with (go_at_call 47; refine (sz_nums _ _ _ _ _ HLM.out hr0 hr1).mono ?_; rintro e w ⟨rfl, rfl⟩; rw [if_pos hz])
        go_ret
        exact ⟨⟨-1, rfl, by omega, fun h => by omega⟩, rfl⟩
      · have e0 : 0 ≤ r - l := by omega
        have e1 : r - l ≤ 1048576 := by omega
        have HL2 : Hid (l ≤ 1048576) := by show _ ≤ _; omega
        go_wp2_with (go_at_call 47; refine (sz_nums _ _ _ _ _ HLM.out hr0 hr1).mono ?_; rintro e w ⟨rfl, rfl⟩; rw [if_neg hz])
        go_round
        case rel =>
          refine ⟨j + 1, r - l, by have := HLT.out; omega, by go_num, rfl, e0, e1, fun i hi => ?_⟩
          rcases Nat.lt_or_ge i j with h | h
          · exact hI.out i h
          · obtain rfl : i = j := by omega
            have := HL2.out; have := HLL.out; omega
        case measure => have := HLT.out; simp [intOf]; omega
    · have hJ : ¬ (j : Int) < (n : Int) := by omega
      have HJ : Hid (j = n) := by show _ = _; omega
      clear hlt
      go_wp2_with fail
      go_ret
      exact ⟨⟨r, rfl, hr1, fun _ => ⟨HN.out, fun i hi => hI.out i (by have := HJ.out; omega)⟩⟩, rfl⟩

/-- A slice of slices that was made: its row, and each of its slices, at base or behind it. -/
structure SSo (w : World) (base g n : Nat) (oss : List (List Int)) : Prop where
  len : n = oss.length
  small : n ≤ 1048576
  low : base ≤ g
  row : ∀ i, i < n → ∃ b l c, w.cell? ⟨g, i, none⟩ = some (.slice b l c) ∧ Nums w base (.slice b l c) (oss.getD i [])
theorem SSo.keep {w w' : World} {base g n : Nat} {oss : List (List Int)} (h : SSo w base g n oss) (b : Below w.heap.size w w') : SSo w' base g n oss :=
  ⟨h.len, h.small, h.low, fun i hi => by
    obtain ⟨x, l, c, k1, k2⟩ := h.row i hi
    exact ⟨x, l, c, cell_keep b k1, k2.keep b⟩⟩
theorem SSo.read {w : World} {base g n : Nat} {oss : List (List Int)} (h : SSo w base g n oss) : IsS2 w (some ⟨g, 0, none⟩) n n oss :=
  .inr ⟨⟨g, 0, none⟩, rfl, Nat.le_refl _, by have := h.small; unfold maxLen; omega, h.len.symm, fun i hi => by
    obtain ⟨x, l, c, k1, k2⟩ := h.row i hi
    exact ⟨x, l, c, by simpa [Addr.add_lit] using k1, k2.read⟩⟩

theorem info_sl : (Tryz.prog.info? 28).map (fun i => (i.zero, i.size, i.bytes)) = some (some (.slice none 0 0), 1, 24) := by kernel_rfl

set_option maxHeartbeats 2000000 in
theorem to_ss (a : Option Addr) (len cap : Nat) (oss : List (List Int)) (w : World) (h : IsSS w a len cap oss) (hl : len ≤ 1048576) (hs : ∀ i, i < len → (oss.getD i []).length ≤ 1048576) :
    Calls Tryz.prog 24 #[.slice a len cap] w fun e w' => ∃ g, e = .returned (.slice (some ⟨g, 0, none⟩) len len) ∧ SSo w' w.heap.size g len oss ∧ Below w.heap.size w w' := by
  obtain ⟨i, hi, hz0, hz1, hz2⟩ := info_parts info_sl
  have hlen : Hid (len = oss.length) := h.len
  have HR : Hid (IsSS w a len cap oss) := h
  have HS : Hid (∀ i, i < len → (oss.getD i []).length ≤ 1048576) := hs
  have HSM : Hid (len ≤ 1048576) := hl
  clear h hs
  go_enter Tryz.func24, Tryz.ntmps24
  go_wp2_with (at_make; refine wpList_make_full _ rfl _ _ 22 rfl w.heap.size 28 i _ 1 Tryz.underlying22 hi hz0 hz1 _ _ _ _ len rfl rfl rfl rfl (by rw [hz2]; omega) (by unfold maxLen; omega) (Nat.le_refl _) ?_; intro w1 hown hgrow)
  have N1 : Hid (w1.ownsRow w.heap.size 28 1 (.slice (some ⟨w.heap.size, 0, none⟩) len len) len (List.replicate len (.slice none 0 0))) := by
    show w1.ownsRow _ _ _ _ _ _
    rw [Nat.mul_one, show (Value.slice none 0 0).cells = #[.slice none 0 0] from rfl, toList_madeCells_one] at hown
    exact hown
  have B1 : Hid (Below w.heap.size w w1) := (Below.refl _ _).grown hgrow (Nat.le_refl _) (by simp)
  clear hown hgrow hi hz0 hz1 hz2
  go_wp2_with fail
  go_loopw [4] (fun c wr => ∃ (j : Nat) (vs : List Value), j ≤ len ∧ c = .int .i64 j ∧ wr.ownsRow w.heap.size 28 1 (.slice (some ⟨w.heap.size, 0, none⟩) len len) len vs ∧ Below w.heap.size w wr ∧
    (∀ i, i < j → ∃ b l c, vs[i]? = some (.slice b l c) ∧ Nums wr (w.heap.size + 1) (.slice b l c) (oss.getD i []))) (fun c _ => len - (intOf c).toNat)
  case atStart => exact ⟨0, _, Nat.zero_le _, rfl, N1.out, B1.out, fun i hi => absurd hi (Nat.not_lt_zero _)⟩
  case round =>
    obtain ⟨j, vs, hj, rfl, hN, hB, hV⟩ := hrel
    have HN : Hid (wr.ownsRow _ _ _ _ _ vs) := hN
    have HB : Hid (Below _ w wr) := hB
    have HV : Hid (∀ i, i < j → ∃ b l c, vs[i]? = some (.slice b l c) ∧ Nums wr (w.heap.size + 1) (.slice b l c) (oss.getD i [])) := hV
    have hl2 : (len : Int) ≤ 1048576 := by omega
    have hvl : vs.length = len := by have := hN.1; simpa using this
    by_cases hlt : j < len
    · obtain ⟨x, b, l, c, rfl, k1, k2⟩ := HR.out.at j hlt
      have k1 := cell_keep hB k1
      have HK : Hid (IsRow .i64 wr b l c _) := k2.stay hB
      have HL5 : Hid (l ≤ 1048576) := by have := k2.lens.1; have := HS.out j hlt; show _ ≤ _; omega
      have c0 : wr.cell? ⟨w.heap.size, j, none⟩ = some (vs.getD j (.slice none 0 0)) := by
        have := World.ownsRow.cellAt hN j (by omega)
        rw [this, List.getElem?_eq_getElem (by omega), List.getD, List.getElem?_eq_getElem (by omega)]
        rfl
      have f0 : wr.frozen? ⟨w.heap.size, j, none⟩ = false := World.ownsRow.frozenAt hN j
      have gb : w.heap.size < wr.heap.size := block_of_cell c0
      have hI : (j : Int) < (len : Int) := by omega
      have HL : Hid (j < len) := hlt
      have HVL : Hid (vs.length = len) := hvl
      generalize vs.getD j (.slice none 0 0) = old at *
      clear hN hB hV hlt k2 hvl
      go_wp2_with fail
      refine (to_nums _ _ _ _ _ HK.out HL5.out).mono ?_
      rintro e w5 ⟨g5, rfl, n5, b5⟩
      have c0 := cell_keep b5 c0
      have f0 : w5.frozen? ⟨w.heap.size, j, none⟩ = false := by rw [b5.frozen (p := ⟨w.heap.size, j, none⟩) gb]; exact f0
      have HN5 : Hid (w5.ownsRow w.heap.size 28 1 (.slice (some ⟨w.heap.size, 0, none⟩) len len) len vs) := World.ownsRow.kept HN.out (below_grown b5 none) (by cases (Value.slice (some ⟨w.heap.size, 0, none⟩) len len).ownBlock <;> simp)
      have HB5 : Hid (Below _ w w5) := on HB.out b5
      have HV5 : Hid (∀ i, i < j → ∃ b l c, vs[i]? = some (.slice b l c) ∧ Nums w5 (w.heap.size + 1) (.slice b l c) (oss.getD i [])) := fun i hi => by
        obtain ⟨b, l, c, e1, e2⟩ := HV.out i hi
        exact ⟨b, l, c, e1, e2.keep b5⟩
      have n5' : Hid (Nums w5 (w.heap.size + 1) (.slice (some ⟨g5, 0, none⟩) l l) (oss.getD j [])) := n5.mono (by omega)
      clear b5 n5
      go_wp2_with fail
      go_roundw
      case rel =>
        have ne : ∀ {v : Value} {zs : List Int}, Nums w5 (w.heap.size + 1) v zs → v.ownBlock ≠ some w.heap.size := fun hn e => by have := (hn.lt _ e).1; omega
        refine ⟨j + 1, vs.set j (.slice (some ⟨g5, 0, none⟩) l l), by have := HL.out; omega, by go_num, (World.ownsRow.stored HN5.out j _).1, HB5.out.setCell (by simp) _, fun i hi => ?_⟩
        by_cases e : i = j
        · subst e
          exact ⟨_, _, _, List.getElem?_set_self (by have := HL.out; have := HVL.out; omega), n5'.out.put _ _ (ne n5'.out)⟩
        · obtain ⟨b, l, c, e1, e2⟩ := HV5.out i (by omega)
          exact ⟨b, l, c, by rw [List.getElem?_set_ne (fun h => e h.symm)]; exact e1, e2.put _ _ (ne e2)⟩
      case measure => have := HL.out; simp [intOf]; omega
    · have hI : ¬ (j : Int) < (len : Int) := by omega
      obtain rfl : j = len := by omega
      clear hN hB hV
      go_wp2_with fail
      go_ret
      refine ⟨_, rfl, ⟨hlen.out, HSM.out, Nat.le_refl _, fun i hi => ?_⟩, HB.out⟩
      obtain ⟨b, l, c, e1, e2⟩ := HV.out i hi
      refine ⟨b, l, c, ?_, e2.mono (by omega)⟩
      rw [World.ownsRow.cellAt HN.out i (by omega)]
      exact e1

set_option maxHeartbeats 2000000 in
theorem eq_ss (g g' n : Nat) (oss : List (List Int)) (b c : Nat) (w : World) (h : SSo w b g n oss) (k : SSo w c g' n oss) :
    Calls Tryz.prog 37 #[.slice (some ⟨g, 0, none⟩) n n, .slice (some ⟨g', 0, none⟩) n n] w fun e w' => e = .returned (.bool true) ∧ Below w.heap.size w w' := by
  have HZ : Hid (SSo w b g n oss) := h
  have KZ : Hid (SSo w c g' n oss) := k
  have hl : (n : Int) ≤ 9223372036854775807 := by have := h.small; omega
  clear h k
  go_enter Tryz.func37, Tryz.ntmps37
  go_wp2_with fail
  go_loopw [5] (fun i wr => ∃ j : Nat, j ≤ n ∧ i = .int .i64 j ∧ Below w.heap.size w wr) (fun i _ => n - (intOf i).toNat)
  case atStart => exact ⟨0, Nat.zero_le _, rfl, Below.refl _ _⟩
  case round =>
    obtain ⟨j, hj, rfl, hB⟩ := hrel
    have HB : Hid (Below _ _ _) := hB
    by_cases hlt : j < n
    · obtain ⟨x1, l1, c1, d1, m1⟩ := (HZ.out.keep hB).row j hlt
      obtain ⟨x2, l2, c2, d2, m2⟩ := (KZ.out.keep hB).row j hlt
      have M1 : Hid (Nums wr _ _ _) := m1
      have M2 : Hid (Nums wr _ _ _) := m2
      have hI : (j : Int) < (n : Int) := by omega
      have HL : Hid (j < n) := hlt
      have inh : Nonempty (BW wr) := ⟨⟨wr, Below.refl _ _⟩⟩
      have z1 := BW.cell d1
      have z2 := BW.cell d2
      have CE : ∀ p : BW wr, Calls Tryz.prog 11 #[.slice x1 l1 c1, .slice x2 l2 c2] p.w fun e w' => e = .returned (.bool true) ∧ Below p.w.heap.size p.w w' := fun p => eq_nums _ _ _ _ _ _ (M1.out.keep p.h) (M2.out.keep p.h)
      clear hB hlt m1 m2
      go_wp2_with fail
      refine region_bw (by kernel_rfl) ?_
      repeat (quiet_step ((go_at_call 11; exact calls_bw (CE _))))
      refine wpQuiet_nil ?_
      rintro _ ⟨p9, rfl⟩
      have B9 : Hid (Below w.heap.size w p9.w) := on HB.out p9.h
      go_wp2_with fail
      go_roundw
      case rel => exact ⟨j + 1, by have := HL.out; omega, by go_num, B9.out⟩
      case measure => have := HL.out; simp [intOf]; omega
    · have hI : ¬ (j : Int) < (n : Int) := by omega
      clear hB
      go_wp2_with fail
      go_ret
      exact ⟨rfl, HB.out⟩
end Go.Proofs.YtbegbphbcjoglaaGreatDoor
