/- An image laid into pages, by the program. -/
import Derived.Test.YtmboobbfoffafaaDoorLov
import Derived.Deep.RegionWith
namespace Go.Proofs.YtmboobbfoffafaaDoor
open Go.RowKit
set_option linter.unusedVariables false

set_option maxRecDepth 20000 in
set_option maxHeartbeats 8000000 in
theorem i_layImage (g b : Nat) (zs : List Int) (ap : Option Addr) (lp cp : Nat) (ow : List Int) (ai : Option Addr) (li ci : Nat) (img : List Int) (u w : World)
    (h : Pags w b (.slice (some ⟨g, 0, none⟩) 24 24) 24 zs) (hu : Below u.heap.size u w) (hub : u.heap.size ≤ b) (hp : IsNs u ap lp cp ow) (hi : IsNs u ai li ci img) (hr : ∀ x ∈ ow, 0 ≤ x ∧ x ≤ 23) (hl : ow.length ≤ 5) :
    Calls Tryd.prog 35 #[.slice (some ⟨g, 0, none⟩) 24 24, .slice ap lp cp, .slice ai li ci] w fun e w' => e = .returned (.tuple #[]) ∧ Pags w' b (.slice (some ⟨g, 0, none⟩) 24 24) 24 (layM ow img zs (min (8 * ow.length) img.length)) ∧ Below u.heap.size u w' := by
  have HZ : Hid (Pags w b (.slice (some ⟨g, 0, none⟩) 24 24) 24 zs) := h
  have HZL : Hid (zs.length = 192) := h.len
  have HGB : Hid (b ≤ g) := (h.lt g rfl).1
  have HUB : Hid (u.heap.size ≤ b) := hub
  have HU : Hid (Below u.heap.size u w) := hu
  have HP : Hid (IsNs u ap lp cp ow) := hp
  have HI : Hid (IsNs u ai li ci img) := hi
  have HR : Hid (∀ x ∈ ow, 0 ≤ x ∧ x ≤ 23) := hr
  have HLP : Hid (lp = ow.length ∧ lp ≤ 5) := ⟨hp.len, by have := hp.len; omega⟩
  have hlpI : (lp : Int) ≤ 5 := by have := HLP.out; omega
  have ML : Hid (∀ i, (layM ow img zs i).length = 192) := fun i => by rw [layM_len]; exact h.len
  have MS : Hid (∀ i, layM ow img zs (i + 1) = (layM ow img zs i).set ((ow.getD (i / 8) 0).toNat * 8 + i % 8) (wd (img.getD i 0))) := fun _ => rfl
  have M0 : Hid (layM ow img zs 0 = zs) := rfl
  generalize layM ow img zs = M at *
  clear h hu hub hp hi hr hl
  go_enter Tryd.func35, Tryd.ntmps35
  go_wp2_with fail
  go_loopw [2, 7, 8, 9, 12] (fun v _ _ _ c wr => ∃ j : Nat, j ≤ lp ∧ c = .int .i64 j ∧ (∃ a' n' c', v = .slice a' n' c' ∧ IsNs u a' n' c' (img.drop (8 * j))) ∧ Pags wr b (.slice (some ⟨g, 0, none⟩) 24 24) 24 (M (min (8 * j) img.length)) ∧ Below u.heap.size u wr) (fun _ _ _ _ c _ => lp - (intOf c).toNat)
  case atStart => exact ⟨0, Nat.zero_le _, rfl, ⟨_, _, _, rfl, HI.out⟩, by rw [Nat.mul_zero, Nat.zero_min, M0.out]; exact HZ.out, HU.out⟩
  case round =>
    obtain ⟨j, hj, rfl, ⟨a', n', c', rfl, hIm⟩, hN, hB⟩ := hrel
    have HIM : Hid (IsNs u a' n' c' (img.drop (8 * j))) := hIm
    have HN : Hid (Pags wr b _ 24 (M (min (8 * j) img.length))) := hN
    have HB : Hid (Below _ u wr) := hB
    by_cases hlt : j < lp
    · rcases HP.out.stay hB with ⟨_, e1, _, _⟩ | ⟨y, rfl, e1, e2, e3, e4⟩
      · omega
      have d0 := e4 j hlt
      have hJ : (j : Int) < (lp : Int) := by omega
      have HLT : Hid (j < lp) := hlt
      have hin := HR.out _ (getD_mem ow 0 j (by have := HLP.out; omega))
      obtain ⟨z, hz⟩ : ∃ z, ow.getD j 0 = z := ⟨_, rfl⟩
      rw [hz] at d0 hin
      obtain ⟨p, rfl⟩ := Int.eq_ofNat_of_zero_le hin.1
      have HPJ : Hid (ow.getD j 0 = (p : Int)) := hz
      have hp24 : (p : Int) < 24 := by omega
      have HPN : Hid (p < 24) := by show _ < _; omega
      obtain ⟨xs, hxs⟩ : ∃ xs, (img.drop (8 * j)).take 8 = xs := ⟨_, rfl⟩
      obtain ⟨sz, hsz⟩ : ∃ sz, xs.length = sz := ⟨_, rfl⟩
      have HNL : Hid (n' = (img.drop (8 * j)).length ∧ n' = img.length - 8 * j ∧ n' ≤ c' ∧ c' ≤ 9223372036854775807) := ⟨hIm.len, by have := hIm.len; rw [List.length_drop] at this; exact this, hIm.cap.1, by have := hIm.cap.2; unfold maxLen at this; exact this⟩
      have HSZ : Hid (sz = min 8 n' ∧ sz = min 8 (img.length - 8 * j)) := by
        have h1 := HNL.out
        rw [← hxs, List.length_take] at hsz
        constructor
        · rw [h1.1]; exact hsz.symm
        · rw [List.length_drop] at hsz; exact hsz.symm
      have HXS : Hid ((img.drop (8 * j)).take 8 = xs) := hxs
      have HXL : Hid (xs.length = sz) := hsz
      have HS : Hid (0 < sz → min (8 * j) img.length = 8 * j) := fun h => by have := HSZ.out.2; omega
      have HS2 : Hid (min (8 * j) img.length + sz = min (8 * (j + 1)) img.length) := by show _ = _; have := HSZ.out.2; omega
      have HXG : Hid (∀ k, k < sz → xs.drop k = img.getD (8 * j + k) 0 :: xs.drop (k + 1)) := fun k hk => by
        have hk2 : k < xs.length := by rw [HXL.out]; exact hk
        rw [List.drop_eq_getElem_cons hk2]
        congr 1
        have hlen := HXL.out
        subst hxs
        simp [List.getD] at hk2 ⊢
        rw [List.getElem?_eq_getElem (by omega)]
        rfl
      generalize min (8 * j) img.length = s0 at *
      have MLs := ML.out s0
      have hh := hN.heap
      have hNN : Hid (sz ≤ 8) := by show _ ≤ _; have := HSZ.out.1; omega
      have CP : Hid (0 < (xs.map (Value.int .i64)).length → some (⟨g, p * 8, none⟩ : Addr) = some ⟨g, p * 8, none⟩ ∧ ∃ ad, a' = some ad ∧ ∀ i v, (xs.map (Value.int .i64))[i]? = some v → wr.cell? (ad.add i) = some v) := fun h0 => by
        refine ⟨rfl, ?_⟩
        rw [List.length_map, HXL.out] at h0
        rcases HIM.out.stay HB.out with ⟨_, k1, _, _⟩ | ⟨x, rfl, k1, k2, k3, k4⟩
        · have := HSZ.out.1; omega
        · refine ⟨x, rfl, fun i v hv => ?_⟩
          have hi8 : i < xs.length := by have := (List.getElem?_eq_some_iff.1 hv).1; simpa using this
          have hil : i < n' := by rw [HXL.out] at hi8; have := HSZ.out.1; omega
          rw [k4 i hil, ← hv, List.getElem?_map, List.getElem?_eq_getElem hi8]
          have : (img.drop (8 * j)).getD i 0 = xs[i] := by
            have h8 : i < 8 := by rw [HXL.out] at hi8; have := hNN.out; omega
            have hd : i < (img.drop (8 * j)).length := by have := HNL.out.1; omega
            subst hxs
            rw [List.getD, List.getElem?_eq_getElem hd, List.getElem_take]
            rfl
          rw [this]
          rfl
      obtain ⟨X, hX⟩ : ∃ X, X = xs.map (Value.int .i64) := ⟨_, rfl⟩
      obtain ⟨Y, hY⟩ : ∃ Y, Y = (M s0).map (Value.int .i64) := ⟨_, rfl⟩
      rw [← hX] at CP
      rw [← hY] at hh
      have HH : Hid (wr.heap[g]? = some (.cells Y.toArray 97 (0, 0))) := hh
      have XL : Hid (X.length = sz) := by show _ = _; rw [hX, List.length_map]; exact HXL.out
      have YL : Hid (Y.length = 192) := by show _ = _; rw [hY, List.length_map]; exact MLs
      have X1 : Hid (∀ v ∈ X, v.oneCell' = true) := by
        intro v hv
        rw [hX] at hv
        obtain ⟨z, _, rfl⟩ := List.mem_map.1 hv
        rfl
      have SP : Hid (splice Y (p * 8) X = (splice (M s0) (p * 8) xs).map (Value.int .i64)) := by show _ = _; rw [hX, hY, splice_map]
      clear hX hY hh MLs hxs hsz hin hz e1 e2 e3 e4 hlt hN hB hIm
      go_wp2_with (refine wpList_copy_splice rfl (.tmp 19) (.tmp 20) 30 30 rfl 2 Tryd.underlying30 (by kernel_rfl) (some ⟨g, p * 8, none⟩) a' 8 8 n' c' (by simp [Act.eval]) (by simp [Act.eval]) g (p * 8) Y 97 HH.out X (by rw [XL.out]; have := HSZ.out.1; show sz = min n' 8; omega) CP.out (by rw [XL.out, YL.out]; have := hNN.out; have := HPN.out; omega) X1.out u.heap.size u HB.out (by have := HUB.out; have := HGB.out; omega) ?_; intro w2 hg2 hb2; rw [XL.out])
      have P2 : Hid (Pags w2 b (.slice (some ⟨g, 0, none⟩) 24 24) 24 (splice (M s0) (p * 8) xs)) := by
        have h1 := hg2.out
        rw [SP.out] at h1
        exact Pags.of_heap h1 (by rw [splice_lenI _ _ _ (by rw [HXL.out, ML.out]; have := hNN.out; have := HPN.out; omega), ML.out]) HGB.out (by unfold maxLen; omega)
      have B2 : Hid (Below u.heap.size u w2) := hb2
      have hszI : (sz : Int) ≤ 8 := by have := hNN.out; omega
      clear hg2 hb2 SP X1 XL YL CP HH d0
      go_wp2_with fail
      go_loopw [9, 23] (fun _ c wq => ∃ k : Nat, k ≤ sz ∧ c = .int .i64 k ∧ Pags wq b (.slice (some ⟨g, 0, none⟩) 24 24) 24 (splice (M (s0 + k)) (p * 8 + k) (xs.drop k)) ∧ Below u.heap.size u wq) (fun _ c _ => sz - (intOf c).toNat)
      case atStart => exact ⟨0, Nat.zero_le _, rfl, P2.out, B2.out⟩
      case round =>
        obtain ⟨k, hk, rfl, hN, hB⟩ := hrel
        have HNk : Hid (Pags wr b _ 24 _) := hN
        have HBk : Hid (Below _ u wr) := hB
        by_cases hks : k < sz
        · have HK : Hid (k < sz) := hks
          have hK : (k : Int) < (sz : Int) := by omega
          have hK8 : (k : Int) < 8 := by omega
          have E0 := HS.out (by omega)
          have XD := HXG.out k hks
          have MS2 : Hid (M (s0 + (k + 1)) = (M (s0 + k)).set (p * 8 + k) (wd (img.getD (8 * j + k) 0))) := by
            show _ = _
            have h1 := MS.out (s0 + k)
            have hk8 : k < 8 := by omega
            rw [E0] at h1
            rw [show (8 * j + k) / 8 = j by omega, show (8 * j + k) % 8 = k by omega, HPJ.out, Int.toNat_natCast] at h1
            rw [← Nat.add_assoc, E0]
            exact h1
          rw [XD] at hN
          have LB : p * 8 + k + ((xs.drop (k + 1)).length + 1) ≤ (M (s0 + k)).length := by
            rw [ML.out, List.length_drop, HXL.out]
            have := hNN.out
            have := HPN.out
            omega
          have c0 := hN.cell (p * 8 + k) (by have := HPN.out; omega)
          rw [splice_get _ _ _ _ (by omega)] at c0
          have f0 := hN.free (p * 8 + k)
          have NXT : Hid (Pags (wr.setCell ⟨g, p * 8 + k, none⟩ (.int .i64 (wd (img.getD (8 * j + k) 0)))) b (.slice (some ⟨g, 0, none⟩) 24 24) 24 (splice (M (s0 + (k + 1))) (p * 8 + (k + 1)) (xs.drop (k + 1)))) := by
            have h1 := hN.store (p * 8 + k) (wd (img.getD (8 * j + k) 0))
            rw [splice_set _ _ _ _ _ LB, ← MS2.out] at h1
            exact h1
          have BXT : Hid (Below u.heap.size u (wr.setCell ⟨g, p * 8 + k, none⟩ (.int .i64 (wd (img.getD (8 * j + k) 0))))) := HBk.out.setCell (by have := HUB.out; have := HGB.out; show u.heap.size ≤ g; omega) _
          have NXD : Hid (Pags (wr.drew.setCell ⟨g, p * 8 + k, none⟩ (.int .i64 (wd (img.getD (8 * j + k) 0)))) b (.slice (some ⟨g, 0, none⟩) 24 24) 24 (splice (M (s0 + (k + 1))) (p * 8 + (k + 1)) (xs.drop (k + 1)))) := NXT.out
          have BXD : Hid (Below u.heap.size u (wr.drew.setCell ⟨g, p * 8 + k, none⟩ (.int .i64 (wd (img.getD (8 * j + k) 0))))) := ⟨BXT.out.os, BXT.out.tape, BXT.out.output, BXT.out.size, BXT.out.block⟩
          generalize img.getD (8 * j + k) 0 = xv at *
          clear hN hB hks XD E0 LB MS2
          go_wp2_with fail
          go_region_with (go_at_call 58; refine (impl_wrap _ _).mono ?_; rintro e w9 ⟨rfl, hw9⟩; subst hw9)
          all_goals go_wp2_with fail
          all_goals go_roundw
          all_goals first
            | exact ⟨k + 1, by have := HK.out; omega, by go_num, by first | exact NXD.out | exact NXT.out, by first | exact BXD.out | exact BXT.out⟩
            | (have := HK.out; simp [intOf]; omega)
        · have hK : ¬ (k : Int) < (sz : Int) := by omega
          have HKS : Hid (k = sz) := by show _ = _; omega
          have NE : Hid (Pags wr b (.slice (some ⟨g, 0, none⟩) 24 24) 24 (M (min (8 * (j + 1)) img.length))) := by
            have h1 := HNk.out
            rw [HKS.out, List.drop_of_length_le (by rw [HXL.out]; exact Nat.le_refl _), splice_nil, HS2.out] at h1
            exact h1
          have HSN : Hid (sz ≤ n') := by show _ ≤ _; have := HSZ.out.1; omega
          have DD : Hid (sz < n' → img.drop (8 * (j + 1)) = (img.drop (8 * j)).drop sz) := fun hlt => by
            have := HSZ.out.1
            rw [List.drop_drop]
            congr 1
            omega
          have DE : Hid (sz = n' → img.drop (8 * (j + 1)) = (img.drop (8 * j)).drop sz) := fun he => by
            have h1 := HNL.out
            have := HSZ.out.1
            rw [List.drop_of_length_le (by omega), List.drop_of_length_le (by rw [List.length_drop]; omega)]
          have DA : Hid (img.drop (8 * (j + 1)) = (img.drop (8 * j)).drop sz) := by
            rcases Nat.lt_or_ge sz n' with h | h
            · exact DD.out h
            · exact DE.out (by have := HSN.out; omega)
          have hsn : (sz : Int) ≤ (n' : Int) := by have := HSN.out; omega
          have hnc : (n' : Int) ≤ (c' : Int) := by have := HNL.out; omega
          have hcm : (c' : Int) ≤ 9223372036854775807 := by have := HNL.out; omega
          cases a' with
          | none =>
            have hz0 : n' = 0 ∧ c' = 0 ∧ sz = 0 := by
              rcases HIM.out with ⟨_, k1, k2, _⟩ | ⟨x, e, _⟩
              · exact ⟨k1, k2, by have := HSN.out; omega⟩
              · cases e
            have HIN : Hid (IsNs u none 0 0 (img.drop (8 * (j + 1)))) := by
              show IsNs _ _ _ _ _
              rw [DA.out, hz0.2.2, List.drop_zero]
              have := HIM.out
              rw [hz0.1, hz0.2.1] at this
              exact this
            obtain ⟨rfl, rfl, rfl⟩ := hz0
            clear hN hB hks
            go_wp2_with fail
            go_roundw
            case rel => exact ⟨j + 1, by have := HLT.out; omega, by go_num, ⟨_, _, _, rfl, HIN.out⟩, NE.out, HBk.out⟩
            case measure => have := HLT.out; simp [intOf]; omega
          | some x =>
            have HIN : Hid (IsNs u (if c' = sz then some x else some (x.add sz)) (n' - sz) (c' - sz) (img.drop (8 * (j + 1)))) := by
              show IsNs _ _ _ _ _
              rw [DA.out]
              exact HIM.out.cut sz HSN.out x rfl
            have hsc : sz ≤ n' := HSN.out
            clear hN hB hks
            by_cases hce : c' = sz
            · rw [if_pos hce] at HIN
              go_wp2_with fail
              go_roundw
              case rel => exact ⟨j + 1, by have := HLT.out; omega, by go_num, ⟨_, _, _, rfl, by first | exact HIN.out | (simp [hce] at *; exact HIN.out)⟩, NE.out, HBk.out⟩
              case measure => have := HLT.out; simp [intOf]; omega
            · rw [if_neg hce] at HIN
              go_wp2_with fail
              go_roundw
              case rel => exact ⟨j + 1, by have := HLT.out; omega, by go_num, ⟨_, _, _, rfl, by first | exact HIN.out | (simp [hce] at *; exact HIN.out)⟩, NE.out, HBk.out⟩
              case measure => have := HLT.out; simp [intOf]; omega
    · have hJ : ¬ (j : Int) < (lp : Int) := by omega
      have HJ : Hid (j = ow.length) := by show _ = _; have := HLP.out; omega
      clear hlt hN hB hIm
      go_wp2_with fail
      refine bodyPost_end (v := .tuple #[]) (by simp [results, Tryd.results35]) rfl ⟨rfl, ?_, HB.out⟩
      rw [← HJ.out]
      exact HN.out
end Go.Proofs.YtmboobbfoffafaaDoor
