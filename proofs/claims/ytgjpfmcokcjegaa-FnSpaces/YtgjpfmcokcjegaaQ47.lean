/- Texts of this seat, joined. -/
import Derived.Test.YtgjpfmcokcjegaaQ45
namespace Go.Proofs.Ytgjpfmcokcjegaa
open Go.RowKit
set_option linter.unusedVariables false
theorem spC_seven {H : Ht} {ps : List (Int × Int)} (h : ¬ spC H ps = 0) : spC H ps = 7 := by
  unfold spC at h ⊢
  split
  · rename_i h1; rw [if_pos h1] at h; exact absurd rfl h
  · split
    · rfl
    · rename_i h1 h2; rw [if_neg h1, if_neg h2] at h; exact absurd rfl h
set_option maxRecDepth 20000 in
set_option maxHeartbeats 4000000 in
theorem s_place (q : Nat) (r c i o : Value) (H : Ht) (pg pc : Nat) (ps : List (Int × Int)) (gm p mc : Nat) (zs : List Int) (ri fa : Int) (b : Nat) (w : World) (hv : Vb w q #[.slice (some ⟨pg, 0, none⟩) 8 pc, .slice (some ⟨gm, 0, none⟩) (p * 8) mc, .int .i64 ri, r, .int .i64 H.pc, c, .bool H.halted, .bool H.waiting, .bool H.rung, .int .i64 H.done, i, o, .int .i64 fa] 65) (hC : Nums w b c H.csr) (hP : Prs 73 w b (.slice (some ⟨pg, 0, none⟩) 8 pc) ps) (hM : Nums w b (.slice (some ⟨gm, 0, none⟩) (p * 8) mc) zs) (sn : Sn H ps zs p) (x k : Int) (hk : kindB k = true) :
    Calls Try.prog 24 #[.pointer (some ⟨q, 0, none⟩), .int .i64 x, .int .i64 k] w fun e w' => e = .returned (.tuple #[.int .i64 (plV H ps zs x k), .int .i64 (plC H ps zs x k)]) ∧ Below w.heap.size w w' := by
  have SN : Hid (Sn H ps zs p) := sn
  have HV : Hid (Vb w q #[.slice (some ⟨pg, 0, none⟩) 8 pc, .slice (some ⟨gm, 0, none⟩) (p * 8) mc, .int .i64 ri, r, .int .i64 H.pc, c, .bool H.halted, .bool H.waiting, .bool H.rung, .int .i64 H.done, i, o, .int .i64 fa] 65) := hv
  have HCS : Hid (Nums w b c H.csr) := hC
  have HP : Hid (Prs 73 w b (.slice (some ⟨pg, 0, none⟩) 8 pc) ps) := hP
  have HM : Hid (Nums w b (.slice (some ⟨gm, 0, none⟩) (p * 8) mc) zs) := hM
  have HK : Hid (kindB k = true) := hk
  have KC := kind_cases hk
  clear hv hC hP hM sn hk
  obtain ⟨C, hC⟩ : ∃ C, plC H ps zs x k = C := ⟨_, rfl⟩
  obtain ⟨Y, hY⟩ : ∃ Y, plV H ps zs x k = Y := ⟨_, rfl⟩
  have HC : Hid (plC H ps zs x k = C) := hC
  have HY : Hid (plV H ps zs x k = Y) := hY
  rw [hC, hY]
  clear hC hY
  have c0 : w.cell? ⟨q, 0, none⟩ = some (.slice (some ⟨pg, 0, none⟩) 8 pc) := HV.out.cell 0 rfl
  go_enter Try.func24, Try.ntmps24
  go_wp2_with fail
  refine (s_space q r c i o H pg pc ps gm p mc zs ri fa b w HV.out HCS.out HP.out HM.out SN.out).mono ?_
  rintro e w1 ⟨u, rfl, pu, b1⟩
  have B1 : Hid (Below w.heap.size w w1) := b1
  have c0 := cell_keep b1 c0
  by_cases hd0 : spC H ps = 0
  case neg =>
    have EC : Hid (C = 7 ∧ Y = 0) := ⟨by rw [← HC.out, plC, if_neg hd0, spC_seven hd0], by rw [← HY.out, plV, if_neg hd0]⟩
    have ed : decide (spC H ps = 0) = false := by simpa using hd0
    rw [ed]
    clear ed hd0 pu b1
    go_wp2_with fail
    exact bodyPost_ret (v := .tuple #[.int .i64 0, .int .i64 7]) (by simp [results, Try.results24, go_sem]) rfl ⟨by rw [EC.out.1, EC.out.2], B1.out⟩
  have HD : Hid (spC H ps = 0) := hd0
  have ed : decide (spC H ps = 0) = true := by simpa using hd0
  rw [ed]
  obtain ⟨sl, so⟩ := sp_ok SN.out hd0
  have SO : Hid ((spP H ps zs).length = 8 ∧ okTo 8 (spP H ps zs) 8) := ⟨sl, so⟩
  obtain ⟨ua, uc, hu, _⟩ := pu.shape
  rw [sl] at hu
  subst hu
  have PU : Hid (Prs 73 w1 w.heap.size (.slice ua 8 uc) (spP H ps zs)) := pu
  clear ed hd0 pu b1 sl so
  go_wp2_with fail
  have LW := spec_l4walk _ (spP H ps zs) x k w.heap.size w1 PU.out SO.out.1 (okTo_up SO.out.2)
  by_cases hw : wkC (spP H ps zs) x k = 0
  case neg =>
    obtain ⟨g1, g2⟩ := goesV_no HK.out hw
    rw [g1] at LW
    have EC : Hid (C = kindV k ∧ Y = 0) := ⟨by rw [← HC.out, plC, if_pos HD.out, if_neg hw, g2], by rw [← HY.out, plV, if_pos HD.out, if_neg hw]⟩
    clear g1 g2 hw
    refine LW.mono ?_
    rintro e w2 ⟨rfl, b2⟩
    have B2 : Hid (Below w.heap.size w w2) := on B1.out b2
    clear LW b2
    go_wp2_with (go_at_call 51; refine (spec_kindV k _ HK.out).mono ?_; rintro e z ⟨rfl, hz⟩; rw [hz]; clear hz z)
    exact bodyPost_ret (v := .tuple #[.int .i64 0, .int .i64 (kindV k)]) (by simp [results, Try.results24, go_sem]) rfl ⟨by rw [EC.out.1, EC.out.2], B2.out⟩
  rw [goesV_yes HK.out hw] at LW
  obtain ⟨_, _, y0, y63⟩ := sp_goes SO.out.2 HK.out hw
  obtain ⟨y, hy⟩ : ∃ y, wkV (spP H ps zs) x k = y := ⟨_, rfl⟩
  have E0 : Hid (C = behC ps y k ∧ Y = behV ps y k) := ⟨by rw [← HC.out, plC, if_pos HD.out, if_pos hw, hy], by rw [← HY.out, plV, if_pos HD.out, if_pos hw, hy]⟩
  rw [hy] at LW y0 y63
  clear hw hy
  refine LW.mono ?_
  rintro e w2 ⟨rfl, b2⟩
  have B2 : Hid (Below w.heap.size w w2) := on B1.out b2
  have c0 := cell_keep b2 c0
  clear LW b2
  have td : y.tdiv 8 = y / 8 := Int.tdiv_eq_ediv_of_nonneg y0
  have tm : y.tmod 8 = y % 8 := Int.tmod_eq_emod_of_nonneg y0
  have yn : ¬ y < 0 := by omega
  obtain ⟨m, hm⟩ : ∃ m, y / 8 = m := ⟨_, rfl⟩
  have hwm : wrap64 m = m := by unfold wrap64; omega
  rw [hm] at td
  by_cases h7 : m = 7
  · subst h7
    by_cases h4 : k = 4
    · subst h4
      have EC : Hid (C = 9 ∧ Y = 0) := ⟨by rw [E0.out.1, behC, if_pos hm, if_pos rfl], by rw [E0.out.2, behV, if_pos hm, if_pos rfl]⟩
      clear hm KC
      go_wp2_with fail
      exact bodyPost_ret (v := .tuple #[.int .i64 0, .int .i64 9]) (by simp [results, Try.results24, go_sem]) rfl ⟨by rw [EC.out.1, EC.out.2], B2.out⟩
    · have h4b : (k == 4) = false := by simpa using h4
      obtain ⟨z8, hz8⟩ : ∃ z8, y % 8 = z8 := ⟨_, rfl⟩
      have hz0 : 0 ≤ z8 := by omega
      have hz7 : z8 ≤ 7 := by omega
      have EC : Hid (C = 0 ∧ Y = 1000 + z8) := ⟨by rw [E0.out.1, behC, if_pos hm, if_neg h4], by rw [E0.out.2, behV, if_pos hm, if_neg h4, hz8]⟩
      rw [hz8] at tm
      clear hm h4 hz8 KC
      go_wp2_with fail
      exact bodyPost_ret (v := .tuple #[.int .i64 (1000 + z8), .int .i64 0]) (by simp [results, Try.results24, go_sem]) rfl ⟨by rw [EC.out.1, EC.out.2], B2.out⟩
  · have h7b : (m == 7) = false := by simpa using h7
    have EC : Hid (C = wkC ps y k ∧ Y = wkV ps y k) := ⟨by rw [E0.out.1, behC, if_neg (by rw [hm]; exact h7)], by rw [E0.out.2, behV, if_neg (by rw [hm]; exact h7)]⟩
    clear hm h7 tm KC
    go_wp2_with fail
    have LX := spec_l4walk _ ps y k b w2 (HP.out.keep B2.out) SN.out.l8 SN.out.ok
    by_cases hx : wkC ps y k = 0
    case neg =>
      obtain ⟨g1, g2⟩ := goesV_no HK.out hx
      rw [g1] at LX
      have ED : Hid (C = kindV k ∧ Y = 0) := ⟨by rw [EC.out.1, g2], by rw [EC.out.2, wk_zero hx]⟩
      clear g1 g2 hx
      refine LX.mono ?_
      rintro e w3 ⟨rfl, b3⟩
      have B3 : Hid (Below w.heap.size w w3) := on B2.out b3
      clear LX b3
      go_wp2_with (go_at_call 51; refine (spec_kindV k _ HK.out).mono ?_; rintro e z ⟨rfl, hz⟩; rw [hz]; clear hz z)
      exact bodyPost_ret (v := .tuple #[.int .i64 0, .int .i64 (kindV k)]) (by simp [results, Try.results24, go_sem]) rfl ⟨by rw [ED.out.1, ED.out.2], B3.out⟩
    rw [goesV_yes HK.out hx] at LX
    have vn : ¬ wkV ps y k < 0 := by
      have hg : goesB ps y k = true := by
        cases hg : goesB ps y k
        · unfold wkC at hx
          rw [HK.out, hg] at hx
          exact absurd hx (by rcases kind_cases HK.out with rfl | rfl | rfl <;> decide)
        · rfl
      have e : wkV ps y k = goesTo ps y := by simp [wkV, HK.out, hg]
      have := goes_in SN.out.ok hg
      rw [e]
      unfold goesTo
      omega
    have ED : Hid (C = 0 ∧ Y = wkV ps y k) := ⟨by rw [EC.out.1, hx], EC.out.2⟩
    clear hx EC E0
    generalize wkV ps y k = v at *
    refine LX.mono ?_
    rintro e w3 ⟨rfl, b3⟩
    have B3 : Hid (Below w.heap.size w w3) := on B2.out b3
    clear LX b3
    go_wp2_with fail
    exact bodyPost_ret (v := .tuple #[.int .i64 v, .int .i64 0]) (by simp [results, Try.results24, go_sem]) rfl ⟨by rw [ED.out.1, ED.out.2], B3.out⟩
end Go.Proofs.Ytgjpfmcokcjegaa
