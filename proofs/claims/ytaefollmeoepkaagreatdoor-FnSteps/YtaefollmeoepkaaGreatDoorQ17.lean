/- Texts of this seat, joined. -/
import Derived.Laws.CopyOwn
import Derived.Deep.RegionLaw
import Derived.Deep.RegionWith
import Derived.Test.YtaefollmeoepkaaGreatDoorQ14
namespace Go.Proofs.YtaefollmeoepkaaGreatDoor
set_option maxRecDepth 20000
set_option maxHeartbeats 16000000
open Go.RowKit
set_option linter.unusedVariables false
variable {w : World} {base g p : Nat} {zs : List Int}
theorem Pags.heap (h : Pags w base (.slice (some ⟨g, 0, none⟩) p p) p zs) : w.heap[g]? = some (.cells (zs.map (Value.int .i64)).toArray 133 (0, 0)) := by
 obtain ⟨h1, ⟨h2, h3⟩ | ⟨g', cap, cur, hv, hb, hh, h4, h5, h6, h7⟩⟩ := h
 ·simp at h2
 ·simp at hv
  obtain ⟨rfl, rfl⟩ := hv
  rw [List.take_of_length_le (by simp [h6])] at h7
  rw [hh, ← h7]
theorem Pags.of_heap (hh : w.heap[g]? = some (.cells (zs.map (Value.int .i64)).toArray 133 (0, 0))) (hl : zs.length = p * 8) (hb : base ≤ g) (hp : p ≤ maxLen) : Pags w base (.slice (some ⟨g, 0, none⟩) p p) p zs :=
 ⟨by simpa using hl, .inr ⟨g, p, _, rfl, hb, hh, Nat.le_refl _, hp, by simpa using hl, by rw [List.take_of_length_le (by simp [hl])]⟩⟩
def cutL (zs : List Int) (p j : Nat) : List Int := zs.take (j * 8) ++ List.replicate ((p - j) * 8) 0
theorem cutL_length (zs : List Int) (p j : Nat) (hz : zs.length = p * 8) (hj : j ≤ p) : (cutL zs p j).length = p * 8 := by
 simp [cutL, hz]
 omega
def eight (zs : List Int) (j : Nat) : List Int := (zs.drop (j * 8)).take 8
theorem eight_length (zs : List Int) (p j : Nat) (hz : zs.length = p * 8) (hj : j < p) : (eight zs j).length = 8 := by
 simp [eight, hz]
 omega
theorem splice_cut (zs : List Int) (p j : Nat) (hz : zs.length = p * 8) (hj : j < p) :
  splice ((cutL zs p j).map (Value.int .i64)) (j * 8) ((eight zs j).map (Value.int .i64)) = (cutL zs p (j + 1)).map (Value.int .i64) := by
 have h8 := eight_length zs p j hz hj
 unfold splice
 rw [List.length_map, h8, ← List.map_take, ← List.map_drop, ← List.map_append, ← List.map_append]
 congr 1
 have e1 : (cutL zs p j).take (j * 8) = zs.take (j * 8) := by
  unfold cutL
  rw [List.take_append_of_le_length (by simp [hz]; omega), List.take_take, Nat.min_self]
 have e2 : (cutL zs p j).drop (j * 8 + 8) = List.replicate ((p - (j + 1)) * 8) 0 := by
  unfold cutL
  rw [List.drop_append, List.drop_of_length_le (by simp; omega), List.nil_append, List.drop_replicate]
  congr 1
  simp [hz]
  omega
 rw [e1, e2, ← List.append_assoc]
 unfold cutL eight
 rw [show (j + 1) * 8 = j * 8 + 8 by omega, List.take_add]
theorem eight_cell {w : World} {base g n cap : Nat} {zs : List Int} (h : Nums w base (.slice (some ⟨g, 0, none⟩) n cap) zs) (p j : Nat) (hz : zs.length = p * 8) (hj : j < p) (hn : n = zs.length) :
  ∀ i v, ((eight zs j).map (Value.int .i64))[i]? = some v → w.cell? ((⟨g, j * 8, none⟩ : Addr).add i) = some v := by
 intro i v hv
 have hi : i < 8 := by
  have := (List.getElem?_eq_some_iff.1 hv).1
  rw [List.length_map, eight_length zs p j hz hj] at this
  exact this
 rw [Addr.add_lit, h.cell hn (j * 8 + i) (by omega), ← hv]
 simp only [eight, List.getElem?_map, List.getElem?_take, hi, if_true, List.getElem?_drop, List.getD]
 rw [List.getElem?_eq_getElem (by omega)]
 rfl
theorem impl_cut (gm n cap : Nat) (zs : List Int) (b p : Nat) (w : World) (h : Nums w b (.slice (some ⟨gm, 0, none⟩) n cap) zs) (hz : zs.length = p * 8) (hp : p ≤ 24) (hp0 : 1 ≤ p) :
  Calls Tryz.prog 70 #[.slice (some ⟨gm, 0, none⟩) n cap] w fun e w' => ∃ g, e = .returned (.slice (some ⟨g, 0, none⟩) p p) ∧ Pags w' w.heap.size (.slice (some ⟨g, 0, none⟩) p p) p zs ∧ Below w.heap.size w w' := by
 obtain ⟨i, hi, hz0, hz1, hz2⟩ := info_parts info_wpage
 have HM : Hid (Nums w b _ zs) := h
 have hnn := h.len
 obtain ⟨hl1, hl2⟩ := h.lens
 unfold maxLen at hl2
 have HZ := hid hz
 have HP : Hid (1 ≤ p ∧ p ≤ 24) := ⟨hp0, hp⟩
 obtain rfl : n = p * 8 := by omega
 have HC : Hid (p * 8 ≤ cap ∧ cap ≤ 9223372036854775807) := ⟨by omega, hl2⟩
 have hpi : (p : Int) ≤ 24 := by omega
 clear h hz hp hp0 hnn hl1 hl2
 go_enter Tryz.func70, Tryz.ntmps70
 go_wp2_with (at_make; refine wpList_make_full _ rfl _ _ 76 rfl w.heap.size 133 i _ 8 Tryz.underlying76 hi hz0 hz1 _ _ _ _ p rfl rfl (by omega) (by omega) (by have := HP.out; rw [hz2]; omega) (by have := HP.out; unfold maxLen; omega) (by simp) ?_; intro w1 hown hgrow; have b1 := (Below.refl _ _).grown hgrow (Nat.le_refl _) (by simp))
 have P1 : Hid (w1.heap[w.heap.size]? = some (.cells ((cutL zs p 0).map (Value.int .i64)).toArray 133 (0, 0))) := by
  refine Pags.heap (base := w.heap.size) (p := p) ?_
  unfold Pags
  rw [show (Value.agg (Array.replicate 8 (.int .i64 0))).cells = Array.replicate 8 (.int .i64 0) from rfl, made_replicate _ _ _ (by decide)] at hown
  simpa [cutL] using hown
 have B1 := hid b1
 clear hown hgrow hi hz0 hz1 hz2 b1
 go_wp2_with fail
 go_loopw [4, 11] (fun _ c wr => ∃ j : Nat, j ≤ p ∧ c = .int .i64 j ∧ Hid (wr.heap[w.heap.size]? = some (.cells ((cutL zs p j).map (Value.int .i64)).toArray 133 (0, 0))) ∧ Below w.heap.size w wr) (fun _ c _ => p - (intOf c).toNat)
 case atStart => exact ⟨0, Nat.zero_le _, rfl, P1, B1.out⟩
 case round =>
  obtain ⟨j, hj, rfl, hH, hB⟩ := hrel
  have HB : Hid (Below _ _ _) := hB
  clear hB P1
  by_cases hlt : j < p
  ·have hJ : (j : Int) < (p : Int) := by omega
   have HLT := hid hlt
   have HS : Hid (∀ i v, ((eight zs j).map (Value.int .i64))[i]? = some v → wr.cell? ((⟨gm, j * 8, none⟩ : Addr).add i) = some v) := by
    intro i v hv
    exact cell_keep HB.out (eight_cell HM.out p j HZ.out hlt HZ.out.symm i v hv)
   obtain ⟨X, hX⟩ : ∃ X, X = (eight zs j).map (Value.int .i64) := ⟨_, rfl⟩
   obtain ⟨Y, hY⟩ : ∃ Y, Y = (cutL zs p j).map (Value.int .i64) := ⟨_, rfl⟩
   rw [← hX] at HS
   rw [← hY] at hH
   have XL : Hid (X.length = 8) := by show _ = _; rw [hX, List.length_map]; exact eight_length zs p j HZ.out hlt
   have YL : Hid (Y.length = p * 8) := by show _ = _; rw [hY, List.length_map]; exact cutL_length zs p j HZ.out hj
   have X1 : Hid (∀ v ∈ X, v.oneCell' = true) := by
    intro v hv
    rw [hX] at hv
    obtain ⟨z, _, rfl⟩ := List.mem_map.1 hv
    rfl
   have SP : Hid (splice Y (j * 8) X = (cutL zs p (j + 1)).map (Value.int .i64)) := by show _ = _; rw [hX, hY]; exact splice_cut zs p j HZ.out hlt
   obtain ⟨k, hk⟩ : ∃ k : Nat, j * 8 = k := ⟨_, rfl⟩
   have HK := hid hk
   have hw : IntKind.i64.wrap ((j : Int) * 8) = (k : Int) := by
    rw [show (j : Int) * 8 = (k : Int) by omega]
    rw [IntKind.wrap_i64]; omega
   have hk1 : (k : Int) ≤ (p : Int) * 8 := by omega
   have hk2 : ¬ cap = k := by have := HC.out; omega
   have hk3 : Hid (k + 8 ≤ p * 8) := by show _ ≤ _; omega
   clear hX hY hlt hk
   go_wp2_with fail
   go_region_law (refine step_copy_splice rfl (.tmp 17) (.tmp 21) 24 24 rfl 2 Tryz.underlying24 (by kernel_rfl) (some ⟨w.heap.size, j * 8, none⟩) (some ⟨gm, k, none⟩) 8 8 (p * 8 - k) (cap - k) (by simp [Act.eval, Act.put]) (by simp [Act.eval, Act.put]) w.heap.size (j * 8) Y 133 hH.out X (by rw [XL.out]; have := hk3.out; exact (Nat.min_eq_right (by omega)).symm) (fun _ => ⟨rfl, _, rfl, by rw [← HK.out]; exact HS.out⟩) (by rw [XL.out, YL.out]; have := hk3.out; have := HK.out; omega) X1.out w.heap.size w (by first | exact HB.out | exact HB.out.drew | exact HB.out.drew.drew) (Nat.le_refl _) ?_; intro w4 hg4 hb4)
   have H4 : Hid (w4.heap[w.heap.size]? = some (.cells ((cutL zs p (j + 1)).map (Value.int .i64)).toArray 133 (0, 0))) := by
    show _ = _
    rw [← SP.out]
    exact hg4.out
   have B4 := hid hb4
   clear hg4 hb4 SP X1 XL YL HS hH
   go_wp2_with fail
   go_roundw
   case rel => exact ⟨j + 1, by have := HLT.out; omega, by go_num, H4, B4.out⟩
   case measure => have := HLT.out; simp [intOf]; omega
  ·have hJ : ¬ (j : Int) < (p : Int) := by omega
   obtain rfl : j = p := by omega
   go_wp2_with fail
   go_ret
   refine ⟨_, rfl, ?_, HB.out⟩
   have h1 := hH.out
   have e : cutL zs j j = zs := by simp [cutL, List.take_of_length_le (Nat.le_of_eq HZ.out)]
   rw [e] at h1
   exact Pags.of_heap h1 HZ.out (Nat.le_refl _) (by have := HP.out; unfold maxLen; omega)
def forP (to k : Int) : Int × Int := if k = 0 then (-1, 0) else (to, k)
theorem impl_pageFor (to k : Int) (w : World) : Calls Tryz.prog 155 #[.int .i64 to, .int .i64 k] w fun e w' => e = .returned (.agg #[.int .i64 (forP to k).1, .int .i64 (forP to k).2]) ∧ Below w.heap.size w w' := by
 by_cases h : k = 0
 ·subst h
  rw [forP, if_pos rfl]
  go_enter Tryz.func155, Tryz.ntmps155
  go_wp2_with fail
  exact bodyPost_ret (v := .agg #[.int .i64 (-1), .int .i64 0]) (by simp [results, Tryz.results155, go_sem]) rfl ⟨rfl, al (Below.refl _ _) _⟩
 ·rw [forP, if_neg h]
  have g : (k == 0) = false := beq_eq_false_iff_ne.2 h
  go_enter Tryz.func155, Tryz.ntmps155
  go_wp2_with fail
  exact bodyPost_ret (v := .agg #[.int .i64 to, .int .i64 k]) (by simp [results, Tryz.results155, go_sem]) rfl ⟨rfl, al (Below.refl _ _) _⟩
theorem spec_none (w : World) : Calls Tryz.prog 129 #[] w fun e w' => e = .returned (.agg #[.int .i64 (-1), .int .i64 0]) ∧ Below w.heap.size w w' := by
 go_enter Tryz.func129, Tryz.ntmps129
 go_wp2_with fail
 exact bodyPost_ret (v := .agg #[.int .i64 (-1), .int .i64 0]) (by simp [results, Tryz.results129, go_sem]) rfl ⟨rfl, al (Below.refl _ _) _⟩
def entP (z : Int) : Int × Int := if z % 8 = 0 ∨ 8 ≤ z / 8 then (-1, 0) else (z / 8, z % 8)
def entC (z : Int) : Int := if isW z then 0 else 3
def entE (z : Int) : Int × Int := if isW z then entP z else (0, 0)
theorem isW_true {z : Int} (h : isW z = true) : 0 ≤ z ∧ z ≤ 4294967295 := by simpa [isW] using h
theorem spec_entry (z : Int) (w : World) (h0 : 0 ≤ z) (h1 : z ≤ 4294967295) : Calls Tryz.prog 160 #[.int .i64 z] w fun e w' => e = .returned (.agg #[.int .i64 (entP z).1, .int .i64 (entP z).2]) ∧ Below w.heap.size w w' := by
 by_cases h : z % 8 = 0
 ·rw [entP, if_pos (.inl h)]
  have g : (z % 8 == 0) = true := by simpa using h
  go_enter Tryz.func160, Tryz.ntmps160
  go_wp2_with fail
  refine (spec_none _).mono ?_
  rintro e w1 ⟨rfl, b1⟩
  have k0 : w1.cell? ⟨w.heap.size, 0, none⟩ = some (.int .i64 0) := cell_keep b1 (by simp)
  have k1 : w1.cell? ⟨w.heap.size, 1, none⟩ = some (.int .i64 0) := cell_keep b1 (by simp)
  have f0 : w1.frozen? ⟨w.heap.size, 0, none⟩ = false := by rw [(bcell b1).2 _ _ (by simp; omega)]; simp
  have f1 : w1.frozen? ⟨w.heap.size, 1, none⟩ = false := by rw [(bcell b1).2 _ _ (by simp; omega)]; simp
  go_wp2_with fail
  exact bodyPost_ret (v := .agg #[.int .i64 (-1), .int .i64 0]) (by simp [results, Tryz.results160, go_sem, k0, k1]) rfl ⟨rfl, ((on (al (al (Below.refl _ _) _) _) b1).setCell (by simp) _).setCell (by simp) _⟩
 have g : (z % 8 == 0) = false := by simpa using h
 by_cases k : 8 ≤ z / 8
 ·rw [entP, if_pos (.inr k)]
  go_enter Tryz.func160, Tryz.ntmps160
  go_wp2_with fail
  refine (spec_none _).mono ?_
  rintro e w1 ⟨rfl, b1⟩
  have k0 : w1.cell? ⟨w.heap.size, 0, none⟩ = some (.int .i64 0) := cell_keep b1 (by simp)
  have k1 : w1.cell? ⟨w.heap.size, 1, none⟩ = some (.int .i64 0) := cell_keep b1 (by simp)
  have f0 : w1.frozen? ⟨w.heap.size, 0, none⟩ = false := by rw [(bcell b1).2 _ _ (by simp; omega)]; simp
  have f1 : w1.frozen? ⟨w.heap.size, 1, none⟩ = false := by rw [(bcell b1).2 _ _ (by simp; omega)]; simp
  go_wp2_with fail
  exact bodyPost_ret (v := .agg #[.int .i64 (-1), .int .i64 0]) (by simp [results, Tryz.results160, go_sem, k0, k1]) rfl ⟨rfl, ((on (al (al (Below.refl _ _) _) _) b1).setCell (by simp) _).setCell (by simp) _⟩
 ·rw [entP, if_neg (by omega)]
  go_enter Tryz.func160, Tryz.ntmps160
  go_wp2_with fail
  exact bodyPost_ret (v := .agg #[.int .i64 (z / 8), .int .i64 (z % 8)]) (by simp [results, Tryz.results160, go_sem]) rfl ⟨rfl, al (al (Below.refl _ _) _) _⟩
theorem impl_entryOf (z : Int) (w : World) : Calls Tryz.prog 156 #[.int .i64 z] w fun e w' => e = .returned (.agg #[.int .i64 (entC z), .int .i64 (entE z).1, .int .i64 (entE z).2]) ∧ Below w.heap.size w w' := by
 cases h : isW z
 ·rw [show entC z = 3 by simp [entC, h], show entE z = (0, 0) by simp [entE, h]]
  go_enter Tryz.func156, Tryz.ntmps156
  go_wp2_with (go_at_call 31; refine (impl_isWord _ _).mono ?_; rintro e x ⟨rfl, rfl⟩; rw [h])
  exact bodyPost_ret (v := .agg #[.int .i64 3, .int .i64 0, .int .i64 0]) (by simp [results, Tryz.results156, go_sem]) rfl ⟨rfl, al (Below.refl _ _) _⟩
 ·rw [show entC z = 0 by simp [entC, h], show entE z = entP z by simp [entE, h]]
  obtain ⟨h0, h1⟩ := isW_true h
  by_cases k : 8 ≤ z / 8
  ·rw [entP, if_pos (.inr k)]
   go_enter Tryz.func156, Tryz.ntmps156
   go_wp2_with (go_at_call 31; refine (impl_isWord _ _).mono ?_; rintro e x ⟨rfl, rfl⟩; rw [h])
   exact bodyPost_ret (v := .agg #[.int .i64 0, .int .i64 (-1), .int .i64 0]) (by simp [results, Tryz.results156, go_sem]) rfl ⟨rfl, al (Below.refl _ _) _⟩
  ·have hF := fun w => impl_pageFor (z / 8) (z % 8) w
   have e : entP z = forP (z / 8) (z % 8) := by
    unfold entP forP
    by_cases h8 : z % 8 = 0
    ·rw [if_pos (.inl h8), if_pos h8]
    ·rw [if_neg (by omega), if_neg h8]
   rw [e]
   generalize (forP (z / 8) (z % 8)).1 = p at *
   generalize (forP (z / 8) (z % 8)).2 = q at *
   clear e
   go_enter Tryz.func156, Tryz.ntmps156
   go_wp2_with (go_at_call 31; refine (impl_isWord _ _).mono ?_; rintro e x ⟨rfl, rfl⟩; rw [h])
   refine (hF _).mono ?_
   rintro e w1 ⟨rfl, b1⟩
   obtain ⟨c1, z1⟩ := bcell b1
   go_wp2_with fail
   exact bodyPost_ret (v := .agg #[.int .i64 0, .int .i64 p, .int .i64 q]) (by simp [results, Tryz.results156, go_sem, c1]) rfl ⟨rfl, (((on (al (Below.refl _ _) _) b1).setCell (by simp) _).setCell (by simp) _).setCell (by simp) _⟩
end Go.Proofs.YtaefollmeoepkaaGreatDoor
