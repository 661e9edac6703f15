/- A list of regions that are apart, by the model. -/
import Derived.Test.YtedjnokeknmbaaaAparts
namespace Go.Proofs.Ytedjnokeknmbaaa
open Go.RowKit
set_option linter.unusedVariables false

set_option maxHeartbeats 4000000 in
theorem spec_apart (v : Value) (rs : List (Int × Int)) (base : Nat) (w : World) (h : Prs 51 w base v rs) (hq : rs.length ≤ 1048576) :
    Calls Try.prog 41 #[v] w fun e w' => e = .returned (.bool (apartB rs)) ∧ Below w.heap.size w w' := by
  obtain ⟨ad, cap, rfl, l1, l2, hg⟩ := h.shape
  have HZ : Hid (Prs _ w base _ rs) := h
  clear h
  obtain ⟨n, hn⟩ : ∃ n, rs.length = n := ⟨_, rfl⟩
  rw [hn] at HZ l1 hg hq ⊢
  have HN : Hid (rs.length = n ∧ n ≤ 1048576) := ⟨hn, hq⟩
  have hqi : (n : Int) ≤ 1048576 := by omega
  clear hn l1 l2 hq
  go_enter Try.func41, Try.ntmps41
  go_wp2_with fail
  go_loopw [3, 4] (fun c _ wr => ∃ j : Nat, j ≤ n ∧ c = .int .i64 j ∧ Hid ((List.range j).all (okB rs) = true) ∧ Below w.heap.size w wr) (fun c _ _ => n - (intOf c).toNat)
  case atStart => exact ⟨0, Nat.zero_le _, rfl, rfl, Below.refl _ _⟩
  case round =>
    obtain ⟨j, hj, rfl, hA, hB⟩ := hrel
    have HB : Hid (Below _ _ _) := hB
    by_cases hlt : j < n
    · obtain ⟨g, rfl⟩ := hg (by omega)
      have c1 := cell_keep hB (HZ.out.cell HN.out.1.symm j hlt).1
      have c2 := cell_keep hB (HZ.out.cell HN.out.1.symm j hlt).2
      have hI : (j : Int) < (n : Int) := by omega
      have HL : Hid (j < rs.length) := by show _ < _; have := HN.out; omega
      have hF := fun w => spec_regFault (rs.getD j (0, 0)).1 (rs.getD j (0, 0)).2 w
      have hOA : Hid (regB (rs.getD j (0, 0)).1 (rs.getD j (0, 0)).2 = false → apartB rs = false) := fun h => ok_not HL.out (okB_reg h)
      have hOK : Hid (∀ h : regB (rs.getD j (0, 0)).1 (rs.getD j (0, 0)).2 = true, okB rs j = (rs.take j).all fun o => !crossB (rs.getD j (0, 0)).1 (rs.getD j (0, 0)).2 o.1 o.2) := fun h => okB_all h
      obtain ⟨p, hp⟩ : ∃ p, (rs.getD j (0, 0)).1 = p := ⟨_, rfl⟩
      obtain ⟨q, hq⟩ : ∃ q, (rs.getD j (0, 0)).2 = q := ⟨_, rfl⟩
      have HPQ : Hid ((rs.getD j (0, 0)).1 = p ∧ (rs.getD j (0, 0)).2 = q) := ⟨hp, hq⟩
      rw [hp] at c1 hF hOA hOK
      rw [hq] at c2 hF hOA hOK
      have SB : Hid (w.heap.size ≤ wr.heap.size) := hB.size
      clear hB hlt hg hp hq
      cases hreg : regB p q
      · rw [regV_false hreg] at hF
        go_wp2_with fail
        refine (hF _).mono ?_
        rintro e w5 ⟨rfl, b5⟩
        have B5 : Hid (Below _ w w5) := on HB.out b5
        clear b5
        go_wp2_with fail
        go_ret
        exact ⟨by rw [hOA.out hreg]; rfl, B5.out⟩
      rw [regV_true hreg] at hF
      have hOK2 : Hid (okB rs j = (rs.take j).all fun o => !crossB p q o.1 o.2) := hOK.out hreg
      clear hOA hOK
      go_wp2_with fail
      refine (hF _).mono ?_
      rintro e w5 ⟨rfl, b5⟩
      have B5 : Hid (Below _ w w5) := on HB.out b5
      clear b5 c1 c2 hF
      go_wp2_with fail
      go_loopw [4] (fun c wi => ∃ k : Nat, k ≤ j ∧ c = .int .i64 k ∧ Hid (((rs.take k).all fun o => !crossB p q o.1 o.2) = true) ∧ Below w.heap.size w wi) (fun c _ => j - (intOf c).toNat)
      case atStart => exact ⟨0, Nat.zero_le _, rfl, rfl, B5.out⟩
      case round =>
        obtain ⟨k, hk, rfl, hC, hBi⟩ := hrel
        have HBi : Hid (Below _ _ _) := hBi
        by_cases hklt : k < j
        · have hKI : (k : Int) < (j : Int) := by omega
          have hKn : (k : Int) < (n : Int) := by omega
          have HKL : Hid (k < j) := hklt
          have d1 := cell_keep hBi (HZ.out.cell HN.out.1.symm j (by have := HL.out; have := HN.out; omega)).1
          have d2 := cell_keep hBi (HZ.out.cell HN.out.1.symm j (by have := HL.out; have := HN.out; omega)).2
          rw [HPQ.out.1] at d1
          rw [HPQ.out.2] at d2
          have e1 := cell_keep hBi (HZ.out.cell HN.out.1.symm k (by have := HL.out; have := HN.out; omega)).1
          have e2 := cell_keep hBi (HZ.out.cell HN.out.1.symm k (by have := HL.out; have := HN.out; omega)).2
          have hrk := ok_reg hA.out hklt
          have hX := fun w => spec_cross p q (rs.getD k (0, 0)).1 (rs.getD k (0, 0)).2 w hreg hrk
          have hCT : Hid (((rs.take (k + 1)).all fun o => !crossB p q o.1 o.2) = (((rs.take k).all fun o => !crossB p q o.1 o.2) && !crossB p q (rs.getD k (0, 0)).1 (rs.getD k (0, 0)).2)) := cross_take rs p q k (by have := HL.out; omega)
          have hCX : Hid (crossB p q (rs.getD k (0, 0)).1 (rs.getD k (0, 0)).2 = true → okB rs j = false) := by
            intro hx
            rw [hOK2.out, List.all_eq_false]
            refine ⟨rs[k]'(by have := HL.out; omega), ?_, ?_⟩
            · rw [List.mem_take_iff_getElem]
              exact ⟨k, by have := HL.out; omega, rfl⟩
            · rw [List.getD, List.getElem?_eq_getElem (by have := HL.out; omega)] at hx
              simp only [Option.getD_some] at hx
              simp [hx]
          generalize (rs.getD k (0, 0)).1 = s at *
          generalize (rs.getD k (0, 0)).2 = t at *
          clear hBi hklt hrk
          cases hcr : crossB p q s t
          · rw [hcr] at hX
            go_wp2_with fail
            go_region_with (go_at_call 66; refine (hX _).mono ?_; rintro e y ⟨rfl, hb⟩; first | have BB := on HBi.out hb | have BB := on HBi.out.drew hb | have BB := on HBi.out.drew.drew hb | have BB := on HBi.out.drew.drew.drew hb)
            all_goals clear d1 d2 e1 e2
            all_goals go_wp2_with fail
            all_goals go_roundw
            all_goals first
              | (show ∃ _, _; exact ⟨k + 1, by have := HKL.out; omega, by go_num, by show _ = _; rw [hCT.out, hC.out, hcr]; rfl, by first | exact BB | exact BB.drew⟩)
              | (have := HKL.out; simp [intOf]; omega)
          · rw [hcr] at hX
            go_wp2_with fail
            go_region_with (go_at_call 66; refine (hX _).mono ?_; rintro e y ⟨rfl, hb⟩; first | have BB := on HBi.out hb | have BB := on HBi.out.drew hb | have BB := on HBi.out.drew.drew hb | have BB := on HBi.out.drew.drew.drew hb)
            all_goals clear d1 d2 e1 e2
            all_goals go_wp2_with fail
            all_goals go_ret
            all_goals exact ⟨by rw [ok_not HL.out (hCX.out hcr)]; rfl, by first | exact BB | exact BB.drew⟩
        · have hKI : ¬ (k : Int) < (j : Int) := by omega
          obtain rfl : k = j := by omega
          clear hBi
          go_wp2_with fail
          go_roundw
          case rel => exact ⟨k + 1, by have := HL.out; have := HN.out; omega, by go_num, ok_succ hA.out (by rw [hOK2.out]; exact hC.out), HBi.out⟩
          case measure => have := HL.out; have := HN.out; simp [intOf]; omega
    · have hI : ¬ (j : Int) < (n : Int) := by omega
      obtain rfl : j = n := by omega
      clear hB
      go_wp2_with fail
      go_ret
      refine ⟨?_, HB.out⟩
      have := hA.out
      rw [← HN.out.1] at this
      rw [show apartB rs = true from this]
      rfl
end Go.Proofs.Ytedjnokeknmbaaa
