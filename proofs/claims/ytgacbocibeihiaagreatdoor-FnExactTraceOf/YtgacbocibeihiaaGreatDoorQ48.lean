/- Texts of this seat, joined. -/
import Derived.BigQuiet
import Derived.Deep.RegionHeld3
import Derived.Deep.RegionWith
import Derived.Deep.Cut
import Derived.Deep.CutRange
import Derived.Test.YtgacbocibeihiaaGreatDoorQ11
import Derived.Test.YtgacbocibeihiaaGreatDoorQ31
import Derived.Test.YtgacbocibeihiaaGreatDoorQ44
import Derived.Test.YtgacbocibeihiaaGreatDoorQ46
import Derived.Test.YtgacbocibeihiaaGreatDoorQ47
namespace Go.Proofs.YtgacbocibeihiaaGreatDoor
open Go.RowKit
set_option linter.unusedVariables false

set_option maxRecDepth 20000 in
set_option maxHeartbeats 4000000 in
theorem s_turn (q : Nat) (c : Int) (P : Plc) (w : World) (h : PolAt w q P) (hz : pfV P = 0) (hc : 0 ≤ c) (hc1 : c ≤ 1000000) :
    Calls Tryz.prog 18 #[.pointer (some ⟨q, 0, none⟩), .int .i64 c] w fun e w' => e = .returned (.tuple #[.int .i64 (tS P c).1, .int .i64 (tS P c).2]) ∧ Below w.heap.size w w' := by
  have PZ : Hid (pfV P = 0) := hz
  obtain ⟨u, hu⟩ : ∃ u, tS P c = u := ⟨_, rfl⟩
  rw [hu]
  have HU : Hid (tS P c = u) := hu
  obtain ⟨a0, n0, c0, a1, n1, c1, a2, n2, c2, a3, n3, c3, -, -, -, q3, hp⟩ := h
  have HPw : Hid (Pl w a0 n0 c0 a1 n1 c1 a2 n2 c2 a3 n3 c3 P) := hp
  have RP := rd_pos P PZ.out
  obtain ⟨rr, hrr⟩ : ∃ r, rdV P.plan = r := ⟨_, rfl⟩
  rw [hrr] at RP
  have HR : Hid (rdV P.plan = rr) := hrr
  have r1 := RP.1
  have r2 := RP.2
  have tm : c.tmod rr = c % rr := Int.tmod_eq_emod_of_nonneg hc
  have m0 : 0 ≤ c % rr := Int.emod_nonneg _ (by omega)
  have m1 : c % rr < rr := Int.emod_lt_of_pos _ (by omega)
  obtain ⟨m, hm⟩ : ∃ m, c % rr = m := ⟨_, rfl⟩
  rw [hm] at tm m0 m1
  have HM : Hid (c % rr = m) := hm
  have M01 : Hid (0 ≤ m ∧ m < rr) := ⟨m0, m1⟩
  have R4 : Hid (rr ≤ 400) := r2
  have HL3 : Hid (n3 = P.plan.length) := HPw.out.plan.len
  have L8 : Hid (1 ≤ n3 ∧ n3 ≤ 8) := by show _ ∧ _; rw [HPw.out.plan.len]; exact ⟨pf_plan1 P PZ.out, (pf_plan P PZ.out).1⟩
  have hmax3 : (n3 : Int) ≤ 9223372036854775807 := by have := L8.out; omega
  have ST8 : Hid (∀ j, j < P.plan.length → 1 ≤ (P.plan.getD j (0, 0)).2 ∧ (P.plan.getD j (0, 0)).2 ≤ 50) := (pf_plan P PZ.out).2
  clear hz hu hp hrr hm RP
  go_enter Tryz.func18, Tryz.ntmps18
  go_wp2_with fail
  go_loop [6, 7] (fun u v => ∃ j : Nat, j ≤ n3 ∧ v = .int .i64 j ∧ u = .int .i64 (rdV (P.plan.take j))) (fun _ v => n3 - (intOf v).toNat)
  case atStart => exact ⟨0, Nat.zero_le _, rfl, by simp [rdV]⟩
  case round =>
    obtain ⟨j, hj, rfl, rfl⟩ := hrel
    by_cases hlt : j < n3
    · obtain ⟨x, rfl, k0, k1⟩ := HPw.out.plan.at j hlt
      have hJ : (j : Int) < (n3 : Int) := by omega
      have J8 : (j : Int) ≤ 8 := by have := L8.out; omega
      have HLT : Hid (j < n3) := hlt
      have TK : Hid (_ = _) := rdV_take P.plan j (by have := HL3.out; omega)
      have bd := rd_bound P PZ.out j (by have := HL3.out; omega)
      have st := ST8.out j (by have := HL3.out; omega)
      have bd0 := bd.1
      have bd1 : rdV (P.plan.take j) ≤ 400 := by have := L8.out; omega
      have st0 := st.1
      have st1 := st.2
      obtain ⟨⟨g, t⟩, hL⟩ : ∃ L, P.plan.getD j (0, 0) = L := ⟨_, rfl⟩
      rw [hL] at k0 k1 TK st0 st1
      simp only at k0 k1 TK st0 st1
      clear hL hlt bd st
      generalize hsum : rdV (P.plan.take j) = sm at *
      clear hsum
      go_wp2_with fail
      go_round
      case rel => exact ⟨j + 1, by have := HLT.out; omega, by go_num, by rw [TK.out]⟩
      case measure => have := HLT.out; simp [intOf]; omega
    · have hJ : ¬ (j : Int) < (n3 : Int) := by omega
      have HJ : Hid (j = n3) := by show _ = _; omega
      clear hlt
      have EV : Hid (rdV (P.plan.take j) = rr) := by show _ = _; rw [List.take_of_length_le (by have := HL3.out; have := HJ.out; omega)]; exact HR.out
      rw [EV.out]
      go_wp2_with fail
      go_loop [8, 9] (fun u v => ∃ j : Nat, j < n3 ∧ v = .int .i64 j ∧ u = .int .i64 (m - rdV (P.plan.take j)) ∧ rdV (P.plan.take j) ≤ m) (fun _ v => n3 - (intOf v).toNat)
      case atStart => exact ⟨0, L8.out.1, rfl, by simp [rdV], by simp [rdV]; exact M01.out.1⟩
      case round =>
        rename_i jj _ _ _ _
        obtain ⟨j, hlt, rfl, rfl, hle⟩ := hrel
        obtain ⟨x, rfl, k0, k1⟩ := HPw.out.plan.at j hlt
        have HLT : Hid (j < n3) := hlt
        have hJ : (j : Int) < (n3 : Int) := by omega
        have J8 : (j : Int) ≤ 8 := by have := L8.out; omega
        have TK : Hid (_ = _) := rdV_take P.plan j (by have := HL3.out; omega)
        have st := ST8.out j (by have := HL3.out; omega)
        have bd := rd_bound P PZ.out j (by have := HL3.out; omega)
        have bd0 := bd.1
        have bd1 : rdV (P.plan.take j) ≤ 400 := by have := L8.out; omega
        have st0 := st.1
        have st1 := st.2
        have mm := M01.out
        have m40 : m ≤ 400 := by have := R4.out; omega
        obtain ⟨⟨g, t⟩, hL⟩ : ∃ L, P.plan.getD j (0, 0) = L := ⟨_, rfl⟩
        rw [hL] at k0 k1 TK st0 st1
        simp only at k0 k1 TK st0 st1
        clear hL bd st
        obtain ⟨sm, hsm⟩ : ∃ z, rdV (P.plan.take j) = z := ⟨_, rfl⟩
        rw [hsm] at TK bd0 bd1 hle ⊢
        have HSM : Hid (rdV (P.plan.take j) = sm) := hsm
        clear hsm
        by_cases he : t ≤ m - sm
        · have TK2 : Hid (rdV (P.plan.take (j + 1)) = sm + t) := TK.out
          have JN : Hid (j + 1 < n3) := by
            show _ < _
            rcases Nat.lt_or_ge (j + 1) n3 with h | h
            · exact h
            · exfalso
              have e : P.plan.take (j + 1) = P.plan := List.take_of_length_le (by have := HL3.out; omega)
              have := TK2.out
              rw [e, HR.out] at this
              omega
          go_wp2_with fail
          go_round
          case rel => exact ⟨j + 1, JN.out, by go_num, by rw [TK2.out]; go_num, by rw [TK2.out]; omega⟩
          case measure => have := HLT.out; simp [intOf]; omega
        · have EV := tS_at P PZ.out c j (by have := HL3.out; omega) (by rw [HSM.out, HR.out, HM.out]; exact hle) (by rw [TK.out, HR.out, HM.out]; omega)
          rw [TK.out, HR.out, HM.out, HU.out] at EV
          subst EV
          have e1 : t - (m - sm) = sm + t - m := by omega
          go_wp2_with fail
          go_quiet (fail)
          go_wp2_with fail
          exact bodyPost_ret (v := .tuple #[.int .i64 (j : Int), .int .i64 (sm + t - m)]) (by simp [results, Tryz.results18, go_sem]) rfl ⟨rfl, dr (Below.refl _ _) _⟩
end Go.Proofs.YtgacbocibeihiaaGreatDoor
namespace Go.Proofs.YtgacbocibeihiaaGreatDoor
open Go.RowKit
set_option linter.unusedVariables false

set_option maxRecDepth 20000 in
set_option maxHeartbeats 8000000 in
theorem s_fault12 (q : Nat) (a0 a1 a2 a3 : Option Addr) (n0 c0 n1 c1 n2 c2 n3 c3 : Nat) (m h : Value) (X : Hst) (b : Nat) (w : World) (d : Oj w b a0 n0 c0 a1 n1 c1 a2 n2 c2 a3 n3 c3 m h X) (hv : Vb w q #[.slice a0 n0 c0, .slice a1 n1 c1, .slice a2 n2 c2, .slice a3 n3 c3, m, h, .int .i64 X.slot, .int .i64 X.left, .int .i64 X.clock] 43) :
    Calls Tryz.prog 16 #[.pointer (some ⟨q, 0, none⟩)] w fun e w' => e = .returned (.int .i64 (hoV X)) ∧ Below w.heap.size w w' := by
  obtain ⟨am, cm, rfl, _⟩ := d.mem.shape
  obtain ⟨ah, ch, rfl, _, lh2, gh⟩ := d.harts.shape
  obtain ⟨V, hV⟩ : ∃ V, hoV X = V := ⟨_, rfl⟩
  rw [hV]
  have HV : Hid (hoV X = V) := hV
  clear hV
  obtain ⟨lm, hlm⟩ : ∃ n, X.mem.length = n := ⟨_, rfl⟩
  obtain ⟨lh, hlh⟩ : ∃ n, X.harts.length = n := ⟨_, rfl⟩
  rw [hlm, hlh] at d hv
  rw [hlh] at gh
  have HLH : Hid (X.harts.length = lh) := hlh
  have GH : Hid (0 < lh → ∃ g, ah = some ⟨g, 0, none⟩) := gh
  have HL0 : Hid (n0 = X.pol.own.length) := d.pol.own.len
  have HM0 : (n0 : Int) ≤ 9223372036854775807 := by have := d.pol.own.cap; unfold maxLen at this; omega
  have HMH : (lh : Int) ≤ 9223372036854775807 := by obtain ⟨_, _, _, t1, t2, _⟩ := d.harts.shape; rw [hlh] at t1; unfold maxLen at t2; omega
  clear hlm hlh gh lh2
  have Q : Hid (Vb w q #[.slice a0 n0 c0, .slice a1 n1 c1, .slice a2 n2 c2, .slice a3 n3 c3, .slice am lm cm, .slice ah lh ch, .int .i64 X.slot, .int .i64 X.left, .int .i64 X.clock] 43) := hv
  have D : Hid (Oj w b a0 n0 c0 a1 n1 c1 a2 n2 c2 a3 n3 c3 (.slice am lm cm) (.slice ah lh ch) X) := d
  have HA : Hid (PolAt w q X.pol) := ⟨_, _, _, _, _, _, _, _, _, _, _, _, hv.cell 0 rfl, hv.cell 1 rfl, hv.cell 2 rfl, hv.cell 3 rfl, d.pol⟩
  clear d hv
  go_enter Tryz.func16, Tryz.ntmps16
  go_wp2_with fail
  refine (l6_fault _ X.pol _ HA.out).mono ?_
  rintro e w1 ⟨rfl, b1⟩
  have B1 : Hid (Below w.heap.size w w1) := b1
  have Q1 : Hid (Vb w1 q #[.slice a0 n0 c0, .slice a1 n1 c1, .slice a2 n2 c2, .slice a3 n3 c3, .slice am lm cm, .slice ah lh ch, .int .i64 X.slot, .int .i64 X.left, .int .i64 X.clock] 43) := Q.out.keep b1
  clear b1
  by_cases hz : pfV X.pol = 0
  case neg =>
    have E : Hid (pfV X.pol = V) := by show _ = _; rw [← HV.out, hoV, if_neg hz]
    rw [E.out] at hz ⊢
    go_wp2_with fail
    go_ret
    exact ⟨rfl, B1.out⟩
  have PZ : Hid (pfV X.pol = 0) := hz
  rw [hz]
  clear hz
  go_wp2_with fail
  refine wp_region_held (S := fun w' => Below w1.heap.size w1 w') (by kernel_rfl) ?_
  change wpAnyH _ _ _ _ _ _ _ _ (World.drew _)
  have SD : Hid (Below w1.heap.size w1 w1.drew) := (Below.refl _ _).drew
  generalize w1.drew = x0 at *
  refine wpAnyH_take (i := 0) (v := .pointer (some ⟨q, 0, none⟩)) rfl (by kernel_rfl) (by kernel_rfl) (by kernel_rfl) (fun _ _ _ h => h) (Or.inl ⟨by rfl, fun w' hs => by go_simp⟩) SD.out ?_
  change wpAnyH _ _ _ _ _ _ _ (Act.put _ (some 15) _) _
  simp only [Act.put, List.setIfInBounds_toArray, List.set_cons_zero, List.set_cons_succ]
  refine wpAnyH_take (i := 1) (v := .pointer (some ⟨q, 0, none⟩)) rfl (by kernel_rfl) (by kernel_rfl) (by kernel_rfl) (fun _ _ _ h => h) (Or.inl ⟨by rfl, fun w' hs => by go_simp⟩) SD.out ?_
  change wpAnyH _ _ _ _ _ _ _ (Act.put _ (some 16) _) _
  simp only [Act.put, List.setIfInBounds_toArray, List.set_cons_zero, List.set_cons_succ]
  refine wpAnyH_take (i := 2) (v := .pointer (some ⟨q, 4, none⟩)) rfl (by kernel_rfl) (by kernel_rfl) (by kernel_rfl) (fun _ _ _ h => h) (Or.inl ⟨by rfl, fun w' hs => by go_simp⟩) SD.out ?_
  change wpAnyH _ _ _ _ _ _ _ (Act.put _ (some 17) _) _
  simp only [Act.put, List.setIfInBounds_toArray, List.set_cons_zero, List.set_cons_succ]
  refine wpAnyH_take (i := 3) (v := .slice am lm cm) rfl (by kernel_rfl) (by kernel_rfl) (by kernel_rfl) (fun _ _ _ h => h) (Or.inl ⟨by rfl, fun w' hs => by have hq := Q1.out.keep hs; have y4 := hq.cell 4 rfl; go_simp⟩) SD.out ?_
  change wpAnyH _ _ _ _ _ _ _ (Act.put _ (some 18) _) _
  simp only [Act.put, List.setIfInBounds_toArray, List.set_cons_zero, List.set_cons_succ]
  refine wpAnyH_ready (rs := [4]) (by kernel_rfl) (by simp) ?_
  refine AllReadyH.cons rfl (fun K hK => ?_) AllReadyH.nil
  rw [if_pos (by rfl)]
  go_simp
  refine (l7_whole _ X.mem b _ ((D.out.mem.keep B1.out).keep SD.out)).mono ?_
  rintro e x1 ⟨rfl, hx1⟩
  rw [hx1]
  clear hx1 x1
  refine hK.out _ _ SD.out (fun _ => ?_)
  clear hK K
  cases hw : wholeB X.mem
  case false =>
    have E : Hid (1 = V) := by show _ = _; rw [← HV.out, hoV, if_pos PZ.out, if_neg (by rw [hw]; simp)]
    refine wpAnyH_take (i := 5) (v := .bool true) rfl (by kernel_rfl) (by kernel_rfl) (by kernel_rfl) (fun _ _ _ h => h) (Or.inl ⟨by rfl, fun w' hs => by go_simp⟩) SD.out ?_
    change wpAnyH _ _ _ _ _ _ _ (Act.put _ (some 20) _) _
    simp only [Act.put, List.setIfInBounds_toArray, List.set_cons_zero, List.set_cons_succ]
    refine wpAnyH_take (i := 6) (v := .bool true) rfl (by kernel_rfl) (by kernel_rfl) (by kernel_rfl) (fun _ _ _ h => h) (Or.inl ⟨by rfl, fun w' hs => by go_simp⟩) SD.out ?_
    change wpAnyH _ _ _ _ _ _ _ (Act.put _ (some 21) _) _
    simp only [Act.put, List.setIfInBounds_toArray, List.set_cons_zero, List.set_cons_succ]
    refine wpAnyH_take (i := 7) (v := undef) rfl (by kernel_rfl) (by kernel_rfl) (by kernel_rfl) (fun _ _ _ h => h) (Or.inr ⟨by rfl, rfl⟩) SD.out ?_
    change wpAnyH _ _ _ _ _ _ _ (Act.put _ (some 22) _) _
    simp only [Act.put, List.setIfInBounds_toArray, List.set_cons_zero, List.set_cons_succ]
    refine wpAnyH_take (i := 8) (v := undef) rfl (by kernel_rfl) (by kernel_rfl) (by kernel_rfl) (fun _ _ _ h => h) (Or.inr ⟨by rfl, rfl⟩) SD.out ?_
    change wpAnyH _ _ _ _ _ _ _ (Act.put _ (some 23) _) _
    simp only [Act.put, List.setIfInBounds_toArray, List.set_cons_zero, List.set_cons_succ]
    refine wpAnyH_take (i := 9) (v := undef) rfl (by kernel_rfl) (by kernel_rfl) (by kernel_rfl) (fun _ _ _ h => h) (Or.inr ⟨by rfl, rfl⟩) SD.out ?_
    change wpAnyH _ _ _ _ _ _ _ (Act.put _ (some 24) _) _
    simp only [Act.put, List.setIfInBounds_toArray, List.set_cons_zero, List.set_cons_succ]
    refine wpAnyH_take (i := 10) (v := undef) rfl (by kernel_rfl) (by kernel_rfl) (by kernel_rfl) (fun _ _ _ h => h) (Or.inr ⟨by rfl, rfl⟩) SD.out ?_
    change wpAnyH _ _ _ _ _ _ _ (Act.put _ (some 25) _) _
    simp only [Act.put, List.setIfInBounds_toArray, List.set_cons_zero, List.set_cons_succ]
    refine wpAnyH_take (i := 11) (v := undef) rfl (by kernel_rfl) (by kernel_rfl) (by kernel_rfl) (fun _ _ _ h => h) (Or.inr ⟨by rfl, rfl⟩) SD.out ?_
    change wpAnyH _ _ _ _ _ _ _ (Act.put _ (some 26) _) _
    simp only [Act.put, List.setIfInBounds_toArray, List.set_cons_zero, List.set_cons_succ]
    refine wpAnyH_take (i := 12) (v := undef) rfl (by kernel_rfl) (by kernel_rfl) (by kernel_rfl) (fun _ _ _ h => h) (Or.inr ⟨by rfl, rfl⟩) SD.out ?_
    change wpAnyH _ _ _ _ _ _ _ (Act.put _ (some 27) _) _
    simp only [Act.put, List.setIfInBounds_toArray, List.set_cons_zero, List.set_cons_succ]
    refine wpAnyH_take (i := 13) (v := undef) rfl (by kernel_rfl) (by kernel_rfl) (by kernel_rfl) (fun _ _ _ h => h) (Or.inr ⟨by rfl, rfl⟩) SD.out ?_
    change wpAnyH _ _ _ _ _ _ _ (Act.put _ (some 28) _) _
    simp only [Act.put, List.setIfInBounds_toArray, List.set_cons_zero, List.set_cons_succ]
    refine wpAnyH_take (i := 14) (v := undef) rfl (by kernel_rfl) (by kernel_rfl) (by kernel_rfl) (fun _ _ _ h => h) (Or.inr ⟨by rfl, rfl⟩) SD.out ?_
    change wpAnyH _ _ _ _ _ _ _ (Act.put _ (some 29) _) _
    simp only [Act.put, List.setIfInBounds_toArray, List.set_cons_zero, List.set_cons_succ]
    refine wpAnyH_take (i := 15) (v := undef) rfl (by kernel_rfl) (by kernel_rfl) (by kernel_rfl) (fun _ _ _ h => h) (Or.inr ⟨by rfl, rfl⟩) SD.out ?_
    change wpAnyH _ _ _ _ _ _ _ (Act.put _ (some 30) _) _
    simp only [Act.put, List.setIfInBounds_toArray, List.set_cons_zero, List.set_cons_succ]
    refine wpAnyH_take (i := 16) (v := undef) rfl (by kernel_rfl) (by kernel_rfl) (by kernel_rfl) (fun _ _ _ h => h) (Or.inr ⟨by rfl, rfl⟩) SD.out ?_
    change wpAnyH _ _ _ _ _ _ _ (Act.put _ (some 31) _) _
    simp only [Act.put, List.setIfInBounds_toArray, List.set_cons_zero, List.set_cons_succ]
    refine wpAnyH_take (i := 17) (v := undef) rfl (by kernel_rfl) (by kernel_rfl) (by kernel_rfl) (fun _ _ _ h => h) (Or.inr ⟨by rfl, rfl⟩) SD.out ?_
    change wpAnyH _ _ _ _ _ _ _ (Act.put _ (some 32) _) _
    simp only [Act.put, List.setIfInBounds_toArray, List.set_cons_zero, List.set_cons_succ]
    refine wpAnyH_take (i := 18) (v := undef) rfl (by kernel_rfl) (by kernel_rfl) (by kernel_rfl) (fun _ _ _ h => h) (Or.inr ⟨by rfl, rfl⟩) SD.out ?_
    change wpAnyH _ _ _ _ _ _ _ (Act.put _ (some 33) _) _
    simp only [Act.put, List.setIfInBounds_toArray, List.set_cons_zero, List.set_cons_succ]
    refine wpAnyH_take (i := 19) (v := .bool true) rfl (by kernel_rfl) (by kernel_rfl) (by kernel_rfl) (fun _ _ _ h => h) (Or.inl ⟨by rfl, fun w' hs => by go_simp⟩) SD.out ?_
    change wpAnyH _ _ _ _ _ _ _ (Act.put _ (some 34) _) _
    simp only [Act.put, List.setIfInBounds_toArray, List.set_cons_zero, List.set_cons_succ]
    refine wpAnyH_done (by kernel_rfl) ?_ _
    go_wp2_with fail
    go_ret
    exact ⟨ret_i E.out, on B1.out SD.out⟩
  refine wpAnyH_take (i := 5) (v := .bool false) rfl (by kernel_rfl) (by kernel_rfl) (by kernel_rfl) (fun _ _ _ h => h) (Or.inl ⟨by rfl, fun w' hs => by go_simp⟩) SD.out ?_
  change wpAnyH _ _ _ _ _ _ _ (Act.put _ (some 20) _) _
  simp only [Act.put, List.setIfInBounds_toArray, List.set_cons_zero, List.set_cons_succ]
  refine wpAnyH_take (i := 6) (v := .bool false) rfl (by kernel_rfl) (by kernel_rfl) (by kernel_rfl) (fun _ _ _ h => h) (Or.inl ⟨by rfl, fun w' hs => by go_simp⟩) SD.out ?_
  change wpAnyH _ _ _ _ _ _ _ (Act.put _ (some 21) _) _
  simp only [Act.put, List.setIfInBounds_toArray, List.set_cons_zero, List.set_cons_succ]
  refine wpAnyH_take (i := 7) (v := .pointer (some ⟨q, 0, none⟩)) rfl (by kernel_rfl) (by kernel_rfl) (by kernel_rfl) (fun _ _ _ h => h) (Or.inl ⟨by rfl, fun w' hs => by go_simp⟩) SD.out ?_
  change wpAnyH _ _ _ _ _ _ _ (Act.put _ (some 22) _) _
  simp only [Act.put, List.setIfInBounds_toArray, List.set_cons_zero, List.set_cons_succ]
  refine wpAnyH_take (i := 8) (v := .pointer (some ⟨q, 0, none⟩)) rfl (by kernel_rfl) (by kernel_rfl) (by kernel_rfl) (fun _ _ _ h => h) (Or.inl ⟨by rfl, fun w' hs => by go_simp⟩) SD.out ?_
  change wpAnyH _ _ _ _ _ _ _ (Act.put _ (some 23) _) _
  simp only [Act.put, List.setIfInBounds_toArray, List.set_cons_zero, List.set_cons_succ]
  refine wpAnyH_take (i := 9) (v := .pointer (some ⟨q, 5, none⟩)) rfl (by kernel_rfl) (by kernel_rfl) (by kernel_rfl) (fun _ _ _ h => h) (Or.inl ⟨by rfl, fun w' hs => by go_simp⟩) SD.out ?_
  change wpAnyH _ _ _ _ _ _ _ (Act.put _ (some 24) _) _
  simp only [Act.put, List.setIfInBounds_toArray, List.set_cons_zero, List.set_cons_succ]
  refine wpAnyH_take (i := 10) (v := .slice ah lh ch) rfl (by kernel_rfl) (by kernel_rfl) (by kernel_rfl) (fun _ _ _ h => h) (Or.inl ⟨by rfl, fun w' hs => by have hq := Q1.out.keep hs; have y5 := hq.cell 5 rfl; go_simp⟩) SD.out ?_
  change wpAnyH _ _ _ _ _ _ _ (Act.put _ (some 25) _) _
  simp only [Act.put, List.setIfInBounds_toArray, List.set_cons_zero, List.set_cons_succ]
  refine wpAnyH_take (i := 11) (v := .int .i64 (lh : Int)) rfl (by kernel_rfl) (by kernel_rfl) (by kernel_rfl) (fun _ _ _ h => h) (Or.inl ⟨by rfl, fun w' hs => by go_simp⟩) SD.out ?_
  change wpAnyH _ _ _ _ _ _ _ (Act.put _ (some 26) _) _
  simp only [Act.put, List.setIfInBounds_toArray, List.set_cons_zero, List.set_cons_succ]
  refine wpAnyH_take (i := 12) (v := .pointer (some ⟨q, 0, none⟩)) rfl (by kernel_rfl) (by kernel_rfl) (by kernel_rfl) (fun _ _ _ h => h) (Or.inl ⟨by rfl, fun w' hs => by go_simp⟩) SD.out ?_
  change wpAnyH _ _ _ _ _ _ _ (Act.put _ (some 27) _) _
  simp only [Act.put, List.setIfInBounds_toArray, List.set_cons_zero, List.set_cons_succ]
  refine wpAnyH_take (i := 13) (v := .pointer (some ⟨q, 0, none⟩)) rfl (by kernel_rfl) (by kernel_rfl) (by kernel_rfl) (fun _ _ _ h => h) (Or.inl ⟨by rfl, fun w' hs => by go_simp⟩) SD.out ?_
  change wpAnyH _ _ _ _ _ _ _ (Act.put _ (some 28) _) _
  simp only [Act.put, List.setIfInBounds_toArray, List.set_cons_zero, List.set_cons_succ]
  refine wpAnyH_take (i := 14) (v := .pointer (some ⟨q, 0, none⟩)) rfl (by kernel_rfl) (by kernel_rfl) (by kernel_rfl) (fun _ _ _ h => h) (Or.inl ⟨by rfl, fun w' hs => by go_simp⟩) SD.out ?_
  change wpAnyH _ _ _ _ _ _ _ (Act.put _ (some 29) _) _
  simp only [Act.put, List.setIfInBounds_toArray, List.set_cons_zero, List.set_cons_succ]
  refine wpAnyH_take (i := 15) (v := .pointer (some ⟨q, 0, none⟩)) rfl (by kernel_rfl) (by kernel_rfl) (by kernel_rfl) (fun _ _ _ h => h) (Or.inl ⟨by rfl, fun w' hs => by go_simp⟩) SD.out ?_
  change wpAnyH _ _ _ _ _ _ _ (Act.put _ (some 30) _) _
  simp only [Act.put, List.setIfInBounds_toArray, List.set_cons_zero, List.set_cons_succ]
  refine wpAnyH_take (i := 16) (v := .slice a0 n0 c0) rfl (by kernel_rfl) (by kernel_rfl) (by kernel_rfl) (fun _ _ _ h => h) (Or.inl ⟨by rfl, fun w' hs => by have hq := Q1.out.keep hs; have y0 := hq.cell 0 rfl; go_simp⟩) SD.out ?_
  change wpAnyH _ _ _ _ _ _ _ (Act.put _ (some 31) _) _
  simp only [Act.put, List.setIfInBounds_toArray, List.set_cons_zero, List.set_cons_succ]
  refine wpAnyH_take (i := 17) (v := .int .i64 (n0 : Int)) rfl (by kernel_rfl) (by kernel_rfl) (by kernel_rfl) (fun _ _ _ h => h) (Or.inl ⟨by rfl, fun w' hs => by go_simp⟩) SD.out ?_
  change wpAnyH _ _ _ _ _ _ _ (Act.put _ (some 32) _) _
  simp only [Act.put, List.setIfInBounds_toArray, List.set_cons_zero, List.set_cons_succ]
  by_cases hn : lh = n0
  case neg =>
    have E : Hid (1 = V) := by show _ = _; rw [← HV.out, hoV, if_pos PZ.out, if_neg (by rw [HLH.out, ← HL0.out]; exact fun k => hn k.2)]
    have hi : ¬ (lh : Int) = (n0 : Int) := by omega
    refine wpAnyH_take (i := 18) (v := .bool true) rfl (by kernel_rfl) (by kernel_rfl) (by kernel_rfl) (fun _ _ _ h => h) (Or.inl ⟨by rfl, fun w' hs => by go_simp⟩) SD.out ?_
    change wpAnyH _ _ _ _ _ _ _ (Act.put _ (some 33) _) _
    simp only [Act.put, List.setIfInBounds_toArray, List.set_cons_zero, List.set_cons_succ]
    refine wpAnyH_take (i := 19) (v := .bool true) rfl (by kernel_rfl) (by kernel_rfl) (by kernel_rfl) (fun _ _ _ h => h) (Or.inl ⟨by rfl, fun w' hs => by go_simp⟩) SD.out ?_
    change wpAnyH _ _ _ _ _ _ _ (Act.put _ (some 34) _) _
    simp only [Act.put, List.setIfInBounds_toArray, List.set_cons_zero, List.set_cons_succ]
    refine wpAnyH_done (by kernel_rfl) ?_ _
    go_wp2_with fail
    go_ret
    exact ⟨ret_i E.out, on B1.out SD.out⟩
  have ME : Hid (wholeB X.mem = true ∧ X.harts.length = X.pol.own.length) := ⟨hw, by rw [HLH.out, ← HL0.out]; exact hn⟩
  have hi : (lh : Int) = (n0 : Int) := by omega
  clear hn hw
  refine wpAnyH_take (i := 18) (v := .bool false) rfl (by kernel_rfl) (by kernel_rfl) (by kernel_rfl) (fun _ _ _ h => h) (Or.inl ⟨by rfl, fun w' hs => by go_simp⟩) SD.out ?_
  change wpAnyH _ _ _ _ _ _ _ (Act.put _ (some 33) _) _
  simp only [Act.put, List.setIfInBounds_toArray, List.set_cons_zero, List.set_cons_succ]
  refine wpAnyH_take (i := 19) (v := .bool false) rfl (by kernel_rfl) (by kernel_rfl) (by kernel_rfl) (fun _ _ _ h => h) (Or.inl ⟨by rfl, fun w' hs => by go_simp⟩) SD.out ?_
  change wpAnyH _ _ _ _ _ _ _ (Act.put _ (some 34) _) _
  simp only [Act.put, List.setIfInBounds_toArray, List.set_cons_zero, List.set_cons_succ]
  refine wpAnyH_done (by kernel_rfl) ?_ _
  clear hi HM0
  have B2 : Hid (Below w.heap.size w x0) := on B1.out SD.out
  have Q2 : Hid (Vb x0 q #[.slice a0 n0 c0, .slice a1 n1 c1, .slice a2 n2 c2, .slice a3 n3 c3, .slice am lm cm, .slice ah lh ch, .int .i64 X.slot, .int .i64 X.left, .int .i64 X.clock] 43) := Q.out.keep B2.out
  have q5 := Q2.out.cell 5 rfl
  clear SD Q1 B1
  go_wp2_with fail
  go_loop [4] (fun c => ∃ j : Nat, j ≤ lh ∧ c = .int .i64 j ∧ hartsV (X.harts.drop j) = hartsV X.harts) (fun c => lh - (intOf c).toNat)
  case atStart => exact ⟨0, Nat.zero_le _, rfl, rfl⟩
  case round =>
    obtain ⟨j, hj, rfl, hT⟩ := hrel
    have HT : Hid (hartsV (X.harts.drop j) = hartsV X.harts) := hT
    clear hT
    by_cases hlt : j < lh
    · obtain ⟨x1, e1⟩ := GH.out (by omega)
      subst e1
      obtain ⟨r, c, i, o, z1, z2, _⟩ := (D.out.harts.keep B2.out).at j (by rw [HLH.out]; exact hlt)
      have ST := harts_step X.harts j (by rw [HLH.out]; exact hlt)
      obtain ⟨H, hH⟩ : ∃ H, X.harts.getD j voidH = H := ⟨_, rfl⟩
      rw [hH] at z1 z2 ST
      have HST : Hid (_ = _) := ST
      have Z1 : Hid (Hc x0 ⟨x1, j * 9, none⟩ r c i o H) := z1
      have Z2 : Hid (Hm x0 b r c i o H) := z2
      have hI : (j : Int) < (lh : Int) := by omega
      have HL : Hid (j < lh) := hlt
      clear z1 z2 hH hlt ST
      go_wp2_with fail
      refine (s_faultO _ _ _ _ _ _ H b _ Z2.out Z1.out.c0 Z1.out.c1 Z1.out.c2 Z1.out.c6 Z1.out.c7 Z1.out.c8).mono ?_
      rintro e w2 ⟨rfl, hw2⟩
      rw [hw2]
      clear hw2 w2
      by_cases hf : hfV H = 0
      · have HT2 : Hid (hartsV (X.harts.drop (j + 1)) = hartsV X.harts) := by
          have t := HST.out
          rw [if_pos hf, HT.out] at t
          exact t.symm
        rw [hf]
        clear hf
        go_wp2_with fail
        go_round
        case rel => exact ⟨j + 1, by have := HL.out; omega, by go_num, HT2.out⟩
        case measure => have := HL.out; simp [intOf]; omega
      · have HT2 : Hid (hfV H = V) := by
          have t := HST.out
          rw [if_neg hf, HT.out] at t
          show _ = _
          rw [← HV.out, hoV, if_pos PZ.out, if_pos ME.out, if_neg (by rw [t]; exact hf), t]
        rw [HT2.out] at hf ⊢
        go_wp2_with fail
        go_ret
        exact ⟨rfl, B2.out⟩
    · have hJ : ¬ (j : Int) < (lh : Int) := by omega
      have HZ : Hid (hartsV X.harts = 0) := by
        show _ = _
        rw [← HT.out, List.drop_of_length_le (by rw [HLH.out]; omega)]
        rfl
      have q8 := Q2.out.cell 8 rfl
      clear hlt
      cases hk : ckOk X.clock
      case false =>
        have HK : Hid ((decide (0 ≤ X.clock) && decide (X.clock ≤ 1000000)) = false) := hk
        have E : Hid (3 = V) := by show _ = _; rw [← HV.out, hoV, if_pos PZ.out, if_pos ME.out, if_pos HZ.out, if_neg (by rw [hk]; simp)]
        clear hk
        go_wp2_with (go_at_call 41; refine (l1_in _ _ _ _).mono ?_; rintro e w2 ⟨rfl, hw2⟩; rw [hw2]; clear hw2 w2; rw [HK.out])
        go_ret
        exact ⟨ret_i E.out, B2.out⟩
      have HK : Hid ((decide (0 ≤ X.clock) && decide (X.clock ≤ 1000000)) = true) := hk
      have CK : Hid (0 ≤ X.clock ∧ X.clock ≤ 1000000) := by show _ ∧ _; unfold ckOk at hk; simpa using hk
      have E : Hid ((if (tS X.pol X.clock).1 = X.slot ∧ (tS X.pol X.clock).2 = X.left then (0 : Int) else 1) = V) := by show _ = _; rw [← HV.out, hoV, if_pos PZ.out, if_pos ME.out, if_pos HZ.out, if_pos hk]
      clear hk
      go_wp2_with (go_at_call 41; refine (l1_in _ _ _ _).mono ?_; rintro e w2 ⟨rfl, hw2⟩; rw [hw2]; clear hw2 w2; rw [HK.out])
      clear q8 q5
      refine wp_region_held (S := fun w' => Below x0.heap.size x0 w') (by kernel_rfl) ?_
      change wpAnyH _ _ _ _ _ _ _ _ (World.drew _)
      have SD : Hid (Below x0.heap.size x0 x0.drew) := (Below.refl _ _).drew
      generalize x0.drew = x2 at *
      refine wpAnyH_take (i := 0) (v := .pointer (some ⟨q, 0, none⟩)) rfl (by kernel_rfl) (by kernel_rfl) (by kernel_rfl) (fun _ _ _ h => h) (Or.inl ⟨by rfl, fun w' hs => by go_simp⟩) SD.out ?_
      change wpAnyH _ _ _ _ _ _ _ (Act.put _ (some 61) _) _
      simp only [Act.put, List.setIfInBounds_toArray, List.set_cons_zero, List.set_cons_succ]
      refine wpAnyH_take (i := 1) (v := .pointer (some ⟨q, 0, none⟩)) rfl (by kernel_rfl) (by kernel_rfl) (by kernel_rfl) (fun _ _ _ h => h) (Or.inl ⟨by rfl, fun w' hs => by go_simp⟩) SD.out ?_
      change wpAnyH _ _ _ _ _ _ _ (Act.put _ (some 62) _) _
      simp only [Act.put, List.setIfInBounds_toArray, List.set_cons_zero, List.set_cons_succ]
      refine wpAnyH_take (i := 2) (v := .pointer (some ⟨q, 0, none⟩)) rfl (by kernel_rfl) (by kernel_rfl) (by kernel_rfl) (fun _ _ _ h => h) (Or.inl ⟨by rfl, fun w' hs => by go_simp⟩) SD.out ?_
      change wpAnyH _ _ _ _ _ _ _ (Act.put _ (some 63) _) _
      simp only [Act.put, List.setIfInBounds_toArray, List.set_cons_zero, List.set_cons_succ]
      refine wpAnyH_take (i := 3) (v := .pointer (some ⟨q, 0, none⟩)) rfl (by kernel_rfl) (by kernel_rfl) (by kernel_rfl) (fun _ _ _ h => h) (Or.inl ⟨by rfl, fun w' hs => by go_simp⟩) SD.out ?_
      change wpAnyH _ _ _ _ _ _ _ (Act.put _ (some 64) _) _
      simp only [Act.put, List.setIfInBounds_toArray, List.set_cons_zero, List.set_cons_succ]
      refine wpAnyH_take (i := 4) (v := .pointer (some ⟨q, 0, none⟩)) rfl (by kernel_rfl) (by kernel_rfl) (by kernel_rfl) (fun _ _ _ h => h) (Or.inl ⟨by rfl, fun w' hs => by go_simp⟩) SD.out ?_
      change wpAnyH _ _ _ _ _ _ _ (Act.put _ (some 65) _) _
      simp only [Act.put, List.setIfInBounds_toArray, List.set_cons_zero, List.set_cons_succ]
      refine wpAnyH_take (i := 5) (v := .pointer (some ⟨q, 8, none⟩)) rfl (by kernel_rfl) (by kernel_rfl) (by kernel_rfl) (fun _ _ _ h => h) (Or.inl ⟨by rfl, fun w' hs => by go_simp⟩) SD.out ?_
      change wpAnyH _ _ _ _ _ _ _ (Act.put _ (some 66) _) _
      simp only [Act.put, List.setIfInBounds_toArray, List.set_cons_zero, List.set_cons_succ]
      refine wpAnyH_take (i := 6) (v := .int .i64 X.clock) rfl (by kernel_rfl) (by kernel_rfl) (by kernel_rfl) (fun _ _ _ h => h) (Or.inl ⟨by rfl, fun w' hs => by have hq := Q2.out.keep hs; have y8 := hq.cell 8 rfl; go_simp⟩) SD.out ?_
      change wpAnyH _ _ _ _ _ _ _ (Act.put _ (some 67) _) _
      simp only [Act.put, List.setIfInBounds_toArray, List.set_cons_zero, List.set_cons_succ]
      refine wpAnyH_ready (rs := [7]) (by kernel_rfl) (by simp) ?_
      refine AllReadyH.cons rfl (fun K hK => ?_) AllReadyH.nil
      rw [if_pos (by rfl)]
      go_simp
      refine (s_turn _ X.clock X.pol _ ((HA.out.stay B2.out).stay SD.out) PZ.out CK.out.1 CK.out.2).mono ?_
      rintro e w3 ⟨rfl, b3⟩
      have S3 : Hid (Below x0.heap.size x0 w3) := on SD.out b3
      clear b3
      refine hK.out _ _ S3.out (fun _ => ?_)
      clear hK K
      obtain ⟨t1, ht1⟩ : ∃ t, (tS X.pol X.clock).1 = t := ⟨_, rfl⟩
      obtain ⟨t2, ht2⟩ : ∃ t, (tS X.pol X.clock).2 = t := ⟨_, rfl⟩
      rw [ht1, ht2] at E ⊢
      clear ht1 ht2
      refine wpAnyH_take (i := 8) (v := .tuple #[.int .i64 t1, .int .i64 t2]) rfl (by kernel_rfl) (by kernel_rfl) (by kernel_rfl) (fun _ _ _ h => h) (Or.inl ⟨by rfl, fun w' hs => by go_simp⟩) S3.out ?_
      change wpAnyH _ _ _ _ _ _ _ (Act.put _ (some 60) _) _
      simp only [Act.put, List.setIfInBounds_toArray, List.set_cons_zero, List.set_cons_succ]
      refine wpAnyH_take (i := 9) (v := .int .i64 t1) rfl (by kernel_rfl) (by kernel_rfl) (by kernel_rfl) (fun _ _ _ h => h) (Or.inl ⟨by rfl, fun w' hs => by go_simp⟩) S3.out ?_
      change wpAnyH _ _ _ _ _ _ _ (Act.put _ (some 69) _) _
      simp only [Act.put, List.setIfInBounds_toArray, List.set_cons_zero, List.set_cons_succ]
      refine wpAnyH_take (i := 10) (v := .int .i64 t2) rfl (by kernel_rfl) (by kernel_rfl) (by kernel_rfl) (fun _ _ _ h => h) (Or.inl ⟨by rfl, fun w' hs => by go_simp⟩) S3.out ?_
      change wpAnyH _ _ _ _ _ _ _ (Act.put _ (some 70) _) _
      simp only [Act.put, List.setIfInBounds_toArray, List.set_cons_zero, List.set_cons_succ]
      refine wpAnyH_take (i := 11) (v := .int .i64 t1) rfl (by kernel_rfl) (by kernel_rfl) (by kernel_rfl) (fun _ _ _ h => h) (Or.inl ⟨by rfl, fun w' hs => by go_simp⟩) S3.out ?_
      change wpAnyH _ _ _ _ _ _ _ (Act.put _ (some 6) _) _
      simp only [Act.put, List.setIfInBounds_toArray, List.set_cons_zero, List.set_cons_succ]
      refine wpAnyH_take (i := 12) (v := .int .i64 t2) rfl (by kernel_rfl) (by kernel_rfl) (by kernel_rfl) (fun _ _ _ h => h) (Or.inl ⟨by rfl, fun w' hs => by go_simp⟩) S3.out ?_
      change wpAnyH _ _ _ _ _ _ _ (Act.put _ (some 7) _) _
      simp only [Act.put, List.setIfInBounds_toArray, List.set_cons_zero, List.set_cons_succ]
      refine wpAnyH_done (by kernel_rfl) ?_ _
      have B3 : Hid (Below w.heap.size w w3) := on B2.out S3.out
      have Q3 : Hid (Vb w3 q #[.slice a0 n0 c0, .slice a1 n1 c1, .slice a2 n2 c2, .slice a3 n3 c3, .slice am lm cm, .slice ah lh ch, .int .i64 X.slot, .int .i64 X.left, .int .i64 X.clock] 43) := Q.out.keep B3.out
      have q6 := Q3.out.cell 6 rfl
      have q7 := Q3.out.cell 7 rfl
      by_cases h1 : t1 = X.slot
      · by_cases h2 : t2 = X.left
        · have E0 : Hid (0 = V) := by
            have t := E.out
            rw [if_pos ⟨h1, h2⟩] at t
            exact t
          subst h1 h2
          go_wp2_with fail
          go_ret
          exact ⟨ret_i E0.out, B3.out⟩
        · have E0 : Hid (1 = V) := by
            have t := E.out
            rw [if_neg (fun k => h2 k.2)] at t
            exact t
          have h3 : ¬ X.left = t2 := fun k => h2 k.symm
          subst h1
          go_wp2_with fail
          go_ret
          exact ⟨ret_i E0.out, B3.out⟩
      · have E0 : Hid (1 = V) := by
          have t := E.out
          rw [if_neg (fun k => h1 k.1)] at t
          exact t
        have h3 : ¬ X.slot = t1 := fun k => h1 k.symm
        go_wp2_with fail
        go_ret
        exact ⟨ret_i E0.out, B3.out⟩
end Go.Proofs.YtgacbocibeihiaaGreatDoor
namespace Go.Proofs.YtgacbocibeihiaaGreatDoor
open Go.RowKit
set_option linter.unusedVariables false

set_option maxRecDepth 20000 in
set_option maxHeartbeats 8000000 in
theorem s_steps (a0 a1 a2 a3 : Option Addr) (n0 c0 n1 c1 n2 c2 n3 c3 : Nat) (am : Option Addr) (lm cm : Nat) (ah : Option Addr) (lh ch : Nat) (X : Hst) (n : Int) (q : Nat) (w : World) (hv : Vb w q #[.slice a0 n0 c0, .slice a1 n1 c1, .slice a2 n2 c2, .slice a3 n3 c3, .slice am lm cm, .slice ah lh ch, .int .i64 X.slot, .int .i64 X.left, .int .i64 X.clock] 43) (hk : 0 ≤ X.clock ∧ X.clock ≤ 1000000) :
    Calls Tryz.prog 17 #[.pointer (some ⟨q, 0, none⟩), .int .i64 n] w fun e w' => e = .returned (.bool (decide (0 ≤ n ∧ n ≤ 200 ∧ X.clock + n ≤ 1000000))) ∧ w' = w := by
  have q8 : w.cell? ⟨q, 8, none⟩ = some (.int .i64 X.clock) := hv.cell 8 rfl
  obtain ⟨ck, hck⟩ : ∃ k, X.clock = k := ⟨_, rfl⟩
  rw [hck] at q8 hk ⊢
  by_cases h : 0 ≤ n ∧ n ≤ 200
  · have IN : (decide (0 ≤ n) && decide (n ≤ 200)) = true := by simp [h.1, h.2]
    have INH : Hid ((decide (0 ≤ n) && decide (n ≤ 200)) = true) := IN
    have wr1 : IntKind.i64.wrap (ck + n) = ck + n := by rw [IntKind.wrap_i64]; omega
    have e : decide (0 ≤ n ∧ n ≤ 200 ∧ ck + n ≤ 1000000) = decide (ck + n ≤ 1000000) := by
      by_cases h2 : ck + n ≤ 1000000
      · rw [decide_eq_true h2, decide_eq_true ⟨h.1, h.2, h2⟩]
      · rw [decide_eq_false h2, decide_eq_false (fun f => h2 f.2.2)]
    rw [e]
    clear e IN hv hck hk h
    go_enter Tryz.func17, Tryz.ntmps17
    go_wp2_with (go_at_call 41; refine (spec_in _ _ _ _).mono ?_; rintro e y ⟨rfl, hy⟩; rw [hy]; clear hy y; rw [INH.out])
    go_ret
    exact ⟨rfl, rfl⟩
  · have IN : Hid ((decide (0 ≤ n) && decide (n ≤ 200)) = false) := by
      show _ = _
      by_cases h0 : 0 ≤ n
      · have h1 : ¬ n ≤ 200 := fun f => h ⟨h0, f⟩
        rw [decide_eq_false h1, Bool.and_false]
      · rw [decide_eq_false h0, Bool.false_and]
    have e : decide (0 ≤ n ∧ n ≤ 200 ∧ ck + n ≤ 1000000) = false := decide_eq_false (fun f => h ⟨f.1, f.2.1⟩)
    rw [e]
    clear e hv hck hk h
    go_enter Tryz.func17, Tryz.ntmps17
    go_wp2_with (go_at_call 41; refine (spec_in _ _ _ _).mono ?_; rintro e y ⟨rfl, hy⟩; rw [hy]; clear hy y; rw [IN.out])
    go_ret
    exact ⟨rfl, rfl⟩
set_option maxRecDepth 20000 in
set_option maxHeartbeats 8000000 in
theorem s_traceOf (a0 a1 a2 a3 : Option Addr) (n0 c0 n1 c1 n2 c2 n3 c3 : Nat) (m h : Value) (X : Hst) (n : Int) (b : Nat) (w : World) (d : Oj w b a0 n0 c0 a1 n1 c1 a2 n2 c2 a3 n3 c3 m h X) :
    Calls Tryz.prog 5 #[.agg #[.slice a0 n0 c0, .slice a1 n1 c1, .slice a2 n2 c2, .slice a3 n3 c3, m, h, .int .i64 X.slot, .int .i64 X.left, .int .i64 X.clock], .int .i64 n] w fun e w' => ∃ v, e = .returned (.agg #[.int .i64 (trC X n), v]) ∧ Nums w' w.heap.size v (trZ X n) ∧ Below w.heap.size w w' := by
  obtain ⟨am, cm, e4, _⟩ := d.mem.shape
  obtain ⟨ah, ch, e5, _⟩ := d.harts.shape
  subst e4 e5
  obtain ⟨lm, hlm⟩ : ∃ k, X.mem.length = k := ⟨_, rfl⟩
  obtain ⟨lh, hlh⟩ : ∃ k, X.harts.length = k := ⟨_, rfl⟩
  rw [hlm, hlh] at d ⊢
  clear hlm hlh
  have D0 : Hid (Oj w b a0 n0 c0 a1 n1 c1 a2 n2 c2 a3 n3 c3 (.slice am lm cm) (.slice ah lh ch) X) := d
  generalize hW : (w.alloc (.cells #[.slice a0 n0 c0, .slice a1 n1 c1, .slice a2 n2 c2, .slice a3 n3 c3, .slice am lm cm, .slice ah lh ch, .int .i64 X.slot, .int .i64 X.left, .int .i64 X.clock] 43)).alloc (.cells #[.int .i64 0, .slice none 0 0] 34) = W
  have B0 : Hid (Below w.heap.size w W) := by show Below _ _ _; rw [← hW]; exact al (al (Below.refl _ _) _) _
  obtain ⟨s, hS⟩ : ∃ s, w.heap.size = s := ⟨_, rfl⟩
  have HSs : Hid (w.heap.size = s) := hS
  have z1 : s + 1 = (w.alloc (.cells #[.slice a0 n0 c0, .slice a1 n1 c1, .slice a2 n2 c2, .slice a3 n3 c3, .slice am lm cm, .slice ah lh ch, .int .i64 X.slot, .int .i64 X.left, .int .i64 X.clock] 43)).heap.size := by rw [← hS]; simp
  have Q : Hid (Vb W s #[.slice a0 n0 c0, .slice a1 n1 c1, .slice a2 n2 c2, .slice a3 n3 c3, .slice am lm cm, .slice ah lh ch, .int .i64 X.slot, .int .i64 X.left, .int .i64 X.clock] 43) := by show Vb _ _ _ _; rw [← hW, ← hS]; exact (Vb.new _ _ _).push _
  have R : Hid (Vb W (s + 1) #[.int .i64 0, .slice none 0 0] 34) := by show Vb _ _ _ _; rw [← hW, z1]; exact Vb.new _ _ _
  clear z1 d
  have q0 := Q.out.cell 0 rfl
  have q1 := Q.out.cell 1 rfl
  have q2 := Q.out.cell 2 rfl
  have q3 := Q.out.cell 3 rfl
  have q4 := Q.out.cell 4 rfl
  have q5 := Q.out.cell 5 rfl
  have q6 := Q.out.cell 6 rfl
  have q7 := Q.out.cell 7 rfl
  have q8 := Q.out.cell 8 rfl
  go_enter Tryz.func5, Tryz.ntmps5
  go_wp2_with fail
  clear hW hS q0 q1 q2 q3 q4 q5 q6 q7 q8
  refine (s_fault12 _ _ _ _ _ _ _ _ _ _ _ _ _ _ _ X b _ (D0.out.keep B0.out) Q.out).mono ?_
  rintro e w1 ⟨rfl, b1⟩
  have B1 : Hid (Below w.heap.size w w1) := on B0.out b1
  have Q1 : Hid (Vb w1 s #[.slice a0 n0 c0, .slice a1 n1 c1, .slice a2 n2 c2, .slice a3 n3 c3, .slice am lm cm, .slice ah lh ch, .int .i64 X.slot, .int .i64 X.left, .int .i64 X.clock] 43) := Q.out.keep b1
  have R1 : Hid (Vb w1 (s + 1) #[.int .i64 0, .slice none 0 0] 34) := R.out.keep b1
  clear b1
  obtain ⟨v, hv⟩ : ∃ v, hoV X = v := ⟨_, rfl⟩
  rw [hv]
  by_cases hz : v = 0
  case neg =>
    have hx0 : (v != 0) = true := by simp [hz]
    have CV : Hid (trC X n = v) := by show _ = _; rw [trC, if_neg (by rw [hv]; exact hz), hv]
    have ZV : Hid (trZ X n = []) := by show _ = _; rw [trZ, if_neg (by rw [CV.out]; exact hz)]
    clear hz hv
    have r0 := R1.out.cell 0 rfl
    have r1 := R1.out.cell 1 rfl
    have f0 := R1.out.free 0
    have f1 := R1.out.free 1
    have lt := R1.out.lt
    go_wp2_with fail
    exact bodyPost_ret (v := .agg #[.int .i64 v, .slice none 0 0]) (by simp [results, Tryz.results5, go_sem, r0, r1]) rfl ⟨.slice none 0 0, by rw [CV.out], by rw [ZV.out]; exact Nums.nil _ _, (B1.out.setCell (by have := HSs.out; show w.heap.size ≤ s + 1; omega) _).setCell (by have := HSs.out; show w.heap.size ≤ s + 1; omega) _⟩
  subst hz
  have HO : Hid (hoV X = 0) := hv
  have OK : Hid (pfV X.pol = 0 ∧ 0 ≤ X.clock ∧ X.clock ≤ 1000000) := ho_ok hv
  clear hv
  have SC : Hid (∀ u, Vb u s #[.slice a0 n0 c0, .slice a1 n1 c1, .slice a2 n2 c2, .slice a3 n3 c3, .slice am lm cm, .slice ah lh ch, .int .i64 X.slot, .int .i64 X.left, .int .i64 X.clock] 43 → Calls Tryz.prog 17 #[.pointer (some ⟨s, 0, none⟩), .int .i64 n] u fun e w' => e = .returned (.bool (decide (0 ≤ n ∧ n ≤ 200 ∧ X.clock + n ≤ 1000000))) ∧ w' = u) := fun u hu => s_steps _ _ _ _ _ _ _ _ _ _ _ _ _ _ _ _ _ _ X n s u hu OK.out.2
  by_cases hn : 0 ≤ n ∧ n ≤ 200 ∧ X.clock + n ≤ 1000000
  case neg =>
    have CV : Hid (trC X n = 3) := by show _ = _; rw [trC, if_pos HO.out, if_neg hn]
    have ZV : Hid (trZ X n = []) := by show _ = _; rw [trZ, if_neg (by rw [CV.out]; decide)]
    have DF : Hid (decide (0 ≤ n ∧ n ≤ 200 ∧ X.clock + n ≤ 1000000) = false) := decide_eq_false hn
    clear hn
    go_upto_region 5 with (go_at_call 17; refine (SC.out _ Q1.out).mono ?_; rintro e y ⟨rfl, hy⟩; rw [hy]; clear hy y; rw [DF.out])
    have r0 := R1.out.cell 0 rfl
    have r1 := R1.out.cell 1 rfl
    have f0 := R1.out.free 0
    have f1 := R1.out.free 1
    have lt := R1.out.lt
    go_wp2_with fail
    exact bodyPost_ret (v := .agg #[.int .i64 3, .slice none 0 0]) (by simp [results, Tryz.results5, go_sem, r0, r1]) rfl ⟨.slice none 0 0, by rw [CV.out], by rw [ZV.out]; exact Nums.nil _ _, (B1.out.setCell (by have := HSs.out; show w.heap.size ≤ s + 1; omega) _).setCell (by have := HSs.out; show w.heap.size ≤ s + 1; omega) _⟩
  have CV : Hid (trC X n = 0) := by show _ = _; rw [trC, if_pos HO.out, if_pos hn]
  have DT : Hid (decide (0 ≤ n ∧ n ≤ 200 ∧ X.clock + n ≤ 1000000) = true) := decide_eq_true hn
  obtain ⟨N, hNe⟩ := Int.eq_ofNat_of_zero_le hn.1
  have ZV : Hid (trZ X n = trL X.pol X.clock N) := by show _ = _; rw [trZ, if_pos CV.out, hNe, Int.toNat_natCast]
  have HN : Hid (N ≤ 200 ∧ X.clock + N ≤ 1000000) := ⟨by omega, by omega⟩
  have NE : Hid (n = (N : Int)) := hNe
  clear hn hNe
  go_upto_region 7 with (go_at_call 17; refine (SC.out _ Q1.out).mono ?_; rintro e y ⟨rfl, hy⟩; rw [hy]; clear hy y; rw [DT.out])
  obtain ⟨N', hN'⟩ : ∃ k : Nat, n = (k : Int) := ⟨N, NE.out⟩
  generalize hw4 : w1.alloc (.cells #[.int .i64 0, .slice none 0 0] 34) = w4
  have b4 : Below w1.heap.size w1 w4 := by rw [← hw4]; exact al (Below.refl _ _) _
  have V4 : Hid (Vb w4 w1.heap.size #[.int .i64 0, .slice none 0 0] 34) := by show Vb _ _ _ _; rw [← hw4]; exact Vb.new _ _ _
  have B4 : Hid (Below w.heap.size w w4) := on B1.out b4
  have Q4 : Hid (Vb w4 s #[.slice a0 n0 c0, .slice a1 n1 c1, .slice a2 n2 c2, .slice a3 n3 c3, .slice am lm cm, .slice ah lh ch, .int .i64 X.slot, .int .i64 X.left, .int .i64 X.clock] 43) := Q1.out.keep b4
  have R4 : Hid (Vb w4 (s + 1) #[.int .i64 0, .slice none 0 0] 34) := R1.out.keep b4
  have ZQ : Hid (w.heap.size ≤ w1.heap.size ∧ s + 1 < w1.heap.size ∧ w1.heap.size < w4.heap.size) := ⟨B1.out.size, R1.out.lt, V4.out.lt⟩
  clear hw4 b4
  generalize w1.heap.size = q at *
  have PL : Hid (IsPairs w a3 n3 c3 X.pol.plan) := D0.out.pol.plan
  have PN : Hid (1 ≤ n3 ∧ n3 ≤ 8 ∧ n3 = X.pol.plan.length) := ⟨by rw [PL.out.len]; exact pf_plan1 _ OK.out.1, by rw [PL.out.len]; exact (pf_plan _ OK.out.1).1, PL.out.len⟩
  obtain ⟨x, hx⟩ : ∃ x, a3 = some x := by
    rcases PL.out with ⟨_, e, _⟩ | ⟨x, e, _⟩
    · have := PN.out; omega
    · exact ⟨x, e⟩
  subst hx
  obtain rfl : N' = N := by have := NE.out; omega
  subst hN'
  have hN2 : (N' : Int) ≤ 200 := by have := HN.out; omega
  go_wp2_with fail
  go_loopw [7, 8, 9] (fun c _ _ wr => ∃ (j : Nat) (y : Value), j ≤ N' ∧ c = .int .i64 (j : Int) ∧ Nums wr w4.heap.size y (trL X.pol X.clock j) ∧ Vb wr q #[.int .i64 0, y] 34 ∧ Mq (fun k => k = q) w4 wr) (fun c _ _ _ => N' - (intOf c).toNat)
  case atStart => exact ⟨0, .slice none 0 0, Nat.zero_le _, rfl, Nums.nil _ _, V4.out, Mq.refl _ _⟩
  case round =>
    obtain ⟨j, y, hj, rfl, hY, hV, hM⟩ := hrel
    have HJ : Hid (j ≤ N') := hj
    obtain ⟨ya, yc, hye, _⟩ := hY.shape
    rw [trL_len] at hye
    subst hye
    have HY : Hid (Nums wr w4.heap.size (.slice ya j yc) (trL X.pol X.clock j)) := hY
    have HV : Hid (Vb wr q #[.int .i64 0, .slice ya j yc] 34) := hV
    have HM : Hid (Mq (fun k => k = q) w4 wr) := hM
    have BB : Hid (Below w.heap.size w wr) := Mq.under B4.out hM fun k e => by have := ZQ.out; omega
    have QR : Hid (Vb wr s #[.slice a0 n0 c0, .slice a1 n1 c1, .slice a2 n2 c2, .slice (some x) n3 c3, .slice am lm cm, .slice ah lh ch, .int .i64 X.slot, .int .i64 X.left, .int .i64 X.clock] 43) := hM.vb Q4.out (by have := ZQ.out; omega)
    clear hY hV hM hj
    by_cases hlt : j < N'
    · have hI : (j : Int) < (N' : Int) := by omega
      have HLT : Hid (j < N') := hlt
      have TI := tS_in X.pol OK.out.1 (X.clock + j)
      obtain ⟨i, hi⟩ := Int.eq_ofNat_of_zero_le TI.1
      have IN : Hid (i < n3) := by
        have := PN.out
        have h1 := TI.2.1
        rw [hi] at h1
        show _ < _
        omega
      have TG : Hid (trL X.pol X.clock (j + 1) = trL X.pol X.clock j ++ [(X.pol.plan.getD i (0, 0)).1]) := by
        show _ = _
        rw [trL_succ, tG, hi, Int.toNat_natCast]
      have ST := s_turn s (X.clock + j) X.pol wr ⟨_, _, _, _, _, _, _, _, _, _, _, _, QR.out.cell 0 rfl, QR.out.cell 1 rfl, QR.out.cell 2 rfl, QR.out.cell 3 rfl, D0.out.pol.stay BB.out⟩ OK.out.1 (by have := OK.out.2.1; omega) (by have := HN.out; have := HJ.out; omega)
      rw [hi] at ST
      obtain ⟨l, hl⟩ : ∃ l, (tS X.pol (X.clock + j)).2 = l := ⟨_, rfl⟩
      rw [hl] at ST
      have q8 : wr.cell? ⟨s, 8, none⟩ = some (.int .i64 X.clock) := QR.out.cell 8 rfl
      have wr1 : IntKind.i64.wrap (X.clock + j) = X.clock + j := by rw [IntKind.wrap_i64]; have := OK.out.2; have := HN.out; have := HJ.out; omega
      clear hlt TI hi hl
      go_wp2_with fail
      refine ST.mono ?_
      clear ST q8
      rintro e u1 ⟨rfl, cb1⟩
      have BU : Hid (Below w.heap.size w u1) := on BB.out cb1
      have YU : Hid (Nums u1 w4.heap.size (.slice ya j yc) (trL X.pol X.clock j)) := HY.out.keep cb1
      have VU : Hid (Vb u1 q #[.int .i64 0, .slice ya j yc] 34) := HV.out.keep cb1
      have MU : Hid (Mq (fun k => k = q) w4 u1) := HM.out.trans (Mq.of (below_grown cb1 none) fun k e => by cases e)
      have QU : Hid (Vb u1 s #[.slice a0 n0 c0, .slice a1 n1 c1, .slice a2 n2 c2, .slice (some x) n3 c3, .slice am lm cm, .slice ah lh ch, .int .i64 X.slot, .int .i64 X.left, .int .i64 X.clock] 43) := QR.out.keep cb1
      obtain ⟨x', hx', k0, k1⟩ := PL.out.at i IN.out
      rw [← Option.some.inj hx'] at k0
      obtain ⟨gz, hgz⟩ : ∃ z, (X.pol.plan.getD i (0, 0)).1 = z := ⟨_, rfl⟩
      rw [hgz] at k0 TG
      have K0 : Hid (∀ u, Below w.heap.size w u → u.cell? (x.add (i * 2)) = some (.int .i64 gz)) := fun u hu => cell_keep hu k0
      have SZ : Hid (w4.heap.size ≤ u1.heap.size) := MU.out.size
      have hin : (i : Int) < (n3 : Int) := by have := IN.out; omega
      clear cb1 hx' k1 k0 hgz
      go_upto_region 11 with fail
      have SQ : Hid (∀ u, (Below w.heap.size w u ∧ Vb u s #[.slice a0 n0 c0, .slice a1 n1 c1, .slice a2 n2 c2, .slice (some x) n3 c3, .slice am lm cm, .slice ah lh ch, .int .i64 X.slot, .int .i64 X.left, .int .i64 X.clock] 43) → u.cell? ⟨s, 3, none⟩ = some (.slice (some x) n3 c3) ∧ u.cell? (x.add (i * 2)) = some (.int .i64 gz)) := fun u hu => ⟨hu.2.cell 3 rfl, K0.out u hu.1⟩
      have S0 : Hid (Below w.heap.size w u1.drew ∧ Vb u1.drew s #[.slice a0 n0 c0, .slice a1 n1 c1, .slice a2 n2 c2, .slice (some x) n3 c3, .slice am lm cm, .slice ah lh ch, .int .i64 X.slot, .int .i64 X.left, .int .i64 X.clock] 43) := ⟨BU.out.drew, QU.out.keep (Below.refl _ _).drew⟩
      have Y0 : Hid (Nums u1.drew w4.heap.size (.slice ya j yc) (trL X.pol X.clock j)) := YU.out.keep (Below.refl _ _).drew
      have V0 : Hid (Vb u1.drew q #[.int .i64 0, .slice ya j yc] 34) := VU.out.keep (Below.refl _ _).drew
      have M0 : Hid (Mq (fun k => k = q) w4 u1.drew) := MU.out.trans (Mq.of (below_grown ((Below.refl u1.heap.size u1).drew) none) fun k e => by cases e)
      have Z0 : Hid (w4.heap.size ≤ u1.drew.heap.size) := M0.out.size
      refine wp_region_held (S := fun w' => Below w.heap.size w w' ∧ Vb w' s #[.slice a0 n0 c0, .slice a1 n1 c1, .slice a2 n2 c2, .slice (some x) n3 c3, .slice am lm cm, .slice ah lh ch, .int .i64 X.slot, .int .i64 X.left, .int .i64 X.clock] 43) (by kernel_rfl) ?_
      change wpAnyH _ _ _ _ _ _ _ _ (World.drew _)
      generalize u1.drew = v0 at *
      clear YU VU MU QU SZ
      refine wpAnyH_take (i := 0) (v := (.pointer (some ⟨q, 1, none⟩))) rfl (by kernel_rfl) (by kernel_rfl) (by kernel_rfl) (fun _ _ _ h => h) (Or.inl ⟨by rfl, fun w' hs => by go_simp⟩) S0.out ?_
      change wpAnyH _ _ _ _ _ _ _ (Act.put _ (some 34) _) _
      simp only [Act.put, List.setIfInBounds_toArray, List.set_cons_zero, List.set_cons_succ]
      refine wpAnyH_take (i := 2) (v := (.pointer (some ⟨s, 0, none⟩))) rfl (by kernel_rfl) (by kernel_rfl) (by kernel_rfl) (fun _ _ _ h => h) (Or.inl ⟨by rfl, fun w' hs => by go_simp⟩) S0.out ?_
      change wpAnyH _ _ _ _ _ _ _ (Act.put _ (some 36) _) _
      simp only [Act.put, List.setIfInBounds_toArray, List.set_cons_zero, List.set_cons_succ]
      refine wpAnyH_take (i := 3) (v := (.pointer (some ⟨s, 3, none⟩))) rfl (by kernel_rfl) (by kernel_rfl) (by kernel_rfl) (fun _ _ _ h => h) (Or.inl ⟨by rfl, fun w' hs => by go_simp⟩) S0.out ?_
      change wpAnyH _ _ _ _ _ _ _ (Act.put _ (some 37) _) _
      simp only [Act.put, List.setIfInBounds_toArray, List.set_cons_zero, List.set_cons_succ]
      refine wpAnyH_take (i := 4) (v := (.slice (some x) n3 c3)) rfl (by kernel_rfl) (by kernel_rfl) (by kernel_rfl) (fun _ _ _ h => h) (Or.inl ⟨by rfl, fun w' hs => by have y0 := (SQ.out w' hs).1; go_simp⟩) S0.out ?_
      change wpAnyH _ _ _ _ _ _ _ (Act.put _ (some 38) _) _
      simp only [Act.put, List.setIfInBounds_toArray, List.set_cons_zero, List.set_cons_succ]
      refine wpAnyH_take (i := 5) (v := (.int .i64 (i : Int))) rfl (by kernel_rfl) (by kernel_rfl) (by kernel_rfl) (fun _ _ _ h => h) (Or.inl ⟨by rfl, fun w' hs => by go_simp⟩) S0.out ?_
      change wpAnyH _ _ _ _ _ _ _ (Act.put _ (some 39) _) _
      simp only [Act.put, List.setIfInBounds_toArray, List.set_cons_zero, List.set_cons_succ]
      refine wpAnyH_take (i := 6) (v := (.pointer (some (x.add (i * 2))))) rfl (by kernel_rfl) (by kernel_rfl) (by kernel_rfl) (fun _ _ _ h => h) (Or.inl ⟨by rfl, fun w' hs => by go_simp⟩) S0.out ?_
      change wpAnyH _ _ _ _ _ _ _ (Act.put _ (some 40) _) _
      simp only [Act.put, List.setIfInBounds_toArray, List.set_cons_zero, List.set_cons_succ]
      refine wpAnyH_take (i := 7) (v := (.pointer (some (x.add (i * 2))))) rfl (by kernel_rfl) (by kernel_rfl) (by kernel_rfl) (fun _ _ _ h => h) (Or.inl ⟨by rfl, fun w' hs => by go_simp⟩) S0.out ?_
      change wpAnyH _ _ _ _ _ _ _ (Act.put _ (some 41) _) _
      simp only [Act.put, List.setIfInBounds_toArray, List.set_cons_zero, List.set_cons_succ]
      refine wpAnyH_take (i := 8) (v := (.int .i64 gz)) rfl (by kernel_rfl) (by kernel_rfl) (by kernel_rfl) (fun _ _ _ h => h) (Or.inl ⟨by rfl, fun w' hs => by have y0 := (SQ.out w' hs).2; go_simp⟩) S0.out ?_
      change wpAnyH _ _ _ _ _ _ _ (Act.put _ (some 42) _) _
      simp only [Act.put, List.setIfInBounds_toArray, List.set_cons_zero, List.set_cons_succ]
      refine wpAnyH_ready (rs := [1, 9]) (by kernel_rfl) (by simp) ?_
      refine AllReadyH.cons rfl (fun K hK => ?_) (AllReadyH.cons rfl (fun K hK => ?_) AllReadyH.nil)
      · rw [if_pos (by rfl)]
        have y1 : v0.cell? ⟨q, 1, none⟩ = some (.slice ya j yc) := V0.out.cell 1 rfl
        go_simp
        clear y1
        refine hK.out _ _ S0.out (fun _ => ?_)
        clear hK K
        refine wpAnyH_ready (rs := [9]) (by kernel_rfl) (by simp) ?_
        refine AllReadyH.cons rfl (fun K hK => ?_) AllReadyH.nil
        rw [if_pos (by rfl)]
        go_simp
        have S1 : Hid (Below w.heap.size w (v0.alloc (.cells #[.int .i64 gz] 2)) ∧ Vb (v0.alloc (.cells #[.int .i64 gz] 2)) s #[.slice a0 n0 c0, .slice a1 n1 c1, .slice a2 n2 c2, .slice (some x) n3 c3, .slice am lm cm, .slice ah lh ch, .int .i64 X.slot, .int .i64 X.left, .int .i64 X.clock] 43) := ⟨al S0.out.1 _, S0.out.2.push _⟩
        have Y1 : Hid (Nums (v0.alloc (.cells #[.int .i64 gz] 2)) w4.heap.size (.slice ya j yc) (trL X.pol X.clock j)) := Y0.out.keep (al (Below.refl _ _) _)
        have V1 : Hid (Vb (v0.alloc (.cells #[.int .i64 gz] 2)) q #[.int .i64 0, .slice ya j yc] 34) := V0.out.push _
        have M1 : Hid (Mq (fun k => k = q) w4 (v0.alloc (.cells #[.int .i64 gz] 2))) := M0.out.trans (Mq.of (World.grownBy_alloc v0 _ none) fun k e => by cases e)
        have CE : Hid (∀ ad, some (⟨v0.heap.size, 0, none⟩ : Addr) = some ad → ∀ i, i < 1 → (v0.alloc (.cells #[.int .i64 gz] 2)).cell? (ad.add i) = some (.int .i64 (([gz] : List Int).getD i 0))) := by
          intro ad had i hi
          obtain rfl := Option.some.inj had
          obtain rfl : i = 0 := by omega
          rw [Addr.add_mid]
          exact cell_new rfl
        have Z1 : Hid (w4.heap.size ≤ (v0.alloc (.cells #[.int .i64 gz] 2)).heap.size) := M1.out.size
        refine hK.out _ _ S1.out (fun _ => ?_)
        clear hK K
        generalize v0.alloc (.cells #[.int .i64 gz] 2) = v1 at *
        refine wpAnyH_ready (rs := [10]) (by kernel_rfl) (by simp) ?_
        refine AllReadyH.cons rfl (fun K hK => ?_) AllReadyH.nil
        refine step_append rfl (.tmp 35) (.tmp 43) rfl w4.heap.size (.slice ya j yc) (trL X.pol X.clock j) (by rfl) Y1.out (some ⟨v0.heap.size, 0, none⟩) 1 1 [gz] (by rfl) rfl (by simp) CE.out (by rw [trL_len]; have := HN.out; have := HJ.out; omega) w.heap.size w S1.out.1 (by have := ZQ.out; omega) Z1.out ?_
        intro y2 v2 N2 G2 B2
        have LB : ∀ k, (Value.slice ya j yc).ownBlock = some k → w4.heap.size ≤ k := fun k hk => (Y1.out.lt k hk).1
        have Y2 : Hid (Nums v2 w4.heap.size y2 (trL X.pol X.clock (j + 1))) := by show Nums _ _ _ _; rw [TG.out]; exact N2.out
        have V2 : Hid (Vb v2 q #[.int .i64 0, .slice ya j yc] 34) := V1.out.gr G2 (fun f => by have := LB q f.symm; have := ZQ.out; omega)
        have S2 : Hid (Below w.heap.size w v2 ∧ Vb v2 s #[.slice a0 n0 c0, .slice a1 n1 c1, .slice a2 n2 c2, .slice (some x) n3 c3, .slice am lm cm, .slice ah lh ch, .int .i64 X.slot, .int .i64 X.left, .int .i64 X.clock] 43) := ⟨B2, S1.out.2.gr G2 (fun f => by have := LB s f.symm; have := ZQ.out; omega)⟩
        have M2 : Hid (Mq (fun k => k = q) w4 v2) := by
          refine ⟨G2.os.trans M1.out.os, G2.tape.trans M1.out.tape, G2.output.trans M1.out.output, Nat.le_trans M1.out.size G2.size, fun k hk hn => ?_⟩
          rw [G2.block k (Nat.lt_of_lt_of_le hk M1.out.size) (fun f => by have := LB k f.symm; omega)]
          exact M1.out.block k hk hn
        obtain ⟨ya2, yc2, hy2, _⟩ := Y2.out.shape
        rw [trL_len] at hy2
        subst hy2
        change K (Act.put _ (some 44) _) _
        simp only [Act.put, List.setIfInBounds_toArray, List.set_cons_zero, List.set_cons_succ]
        refine hK.out _ _ S2.out (fun _ => ?_)
        clear hK K N2 G2 B2 LB
        refine wpAnyH_take (i := 11) (v := (.pointer (some ⟨q, 1, none⟩))) rfl (by kernel_rfl) (by kernel_rfl) (by kernel_rfl) (fun _ _ _ h => h) (Or.inl ⟨by rfl, fun w' hs => by go_simp⟩) S2.out ?_
        change wpAnyH _ _ _ _ _ _ _ (Act.put _ (some 45) _) _
        simp only [Act.put, List.setIfInBounds_toArray, List.set_cons_zero, List.set_cons_succ]
        refine wpAnyH_ready (rs := [12]) (by kernel_rfl) (by simp) ?_
        refine AllReadyH.cons rfl (fun K hK => ?_) AllReadyH.nil
        rw [if_pos (by rfl)]
        have y1 : v2.cell? ⟨q, 1, none⟩ = some (.slice ya j yc) := V2.out.cell 1 rfl
        have f1 := V2.out.free 1
        go_simp
        clear y1 f1
        have S3 : Hid (Below w.heap.size w (v2.setCell ⟨q, 1, none⟩ (.slice ya2 (j + 1) yc2)) ∧ Vb (v2.setCell ⟨q, 1, none⟩ (.slice ya2 (j + 1) yc2)) s #[.slice a0 n0 c0, .slice a1 n1 c1, .slice a2 n2 c2, .slice (some x) n3 c3, .slice am lm cm, .slice ah lh ch, .int .i64 X.slot, .int .i64 X.left, .int .i64 X.clock] 43) := ⟨S2.out.1.setCell (by have := ZQ.out; show w.heap.size ≤ q; omega) _, S2.out.2.put _ _ (by have := ZQ.out; show s ≠ q; omega)⟩
        have V3 : Hid (Vb (v2.setCell ⟨q, 1, none⟩ (.slice ya2 (j + 1) yc2)) q #[.int .i64 0, .slice ya2 (j + 1) yc2] 34) := V2.out.set 1 _
        have M3 : Hid (Mq (fun k => k = q) w4 (v2.setCell ⟨q, 1, none⟩ (.slice ya2 (j + 1) yc2))) := M2.out.set ⟨q, 1, none⟩ _ rfl
        have Y3 : Hid (Nums (v2.setCell ⟨q, 1, none⟩ (.slice ya2 (j + 1) yc2)) w4.heap.size (.slice ya2 (j + 1) yc2) (trL X.pol X.clock (j + 1))) := Y2.out.put _ _ (fun e => by have := (Y2.out.lt q e).1; have := ZQ.out; omega)
        generalize v2.setCell ⟨q, 1, none⟩ (.slice ya2 (j + 1) yc2) = v3 at *
        refine hK.out _ _ S3.out (fun _ => ?_)
        clear hK K
        refine wpAnyH_done (by kernel_rfl) ?_ _
        go_wp2_with fail
        go_roundw
        case rel => exact ⟨j + 1, _, by have := HLT.out; omega, by go_num, Y3.out, V3.out, M3.out⟩
        case measure => have := HLT.out; simp [intOf]; omega
      · rw [if_pos (by rfl)]
        go_simp
        refine hK.out _ _ ⟨al S0.out.1 _, S0.out.2.push _⟩ (fun _ => ?_)
        clear hK K
        refine wpAnyH_ready (rs := [1]) (by kernel_rfl) (by simp) ?_
        refine AllReadyH.cons rfl (fun K hK => ?_) AllReadyH.nil
        rw [if_pos (by rfl)]
        have y1 : (v0.alloc (.cells #[.int .i64 gz] 2)).cell? ⟨q, 1, none⟩ = some (.slice ya j yc) := (V0.out.push _).cell 1 rfl
        go_simp
        clear y1
        have S1 : Hid (Below w.heap.size w (v0.alloc (.cells #[.int .i64 gz] 2)) ∧ Vb (v0.alloc (.cells #[.int .i64 gz] 2)) s #[.slice a0 n0 c0, .slice a1 n1 c1, .slice a2 n2 c2, .slice (some x) n3 c3, .slice am lm cm, .slice ah lh ch, .int .i64 X.slot, .int .i64 X.left, .int .i64 X.clock] 43) := ⟨al S0.out.1 _, S0.out.2.push _⟩
        have Y1 : Hid (Nums (v0.alloc (.cells #[.int .i64 gz] 2)) w4.heap.size (.slice ya j yc) (trL X.pol X.clock j)) := Y0.out.keep (al (Below.refl _ _) _)
        have V1 : Hid (Vb (v0.alloc (.cells #[.int .i64 gz] 2)) q #[.int .i64 0, .slice ya j yc] 34) := V0.out.push _
        have M1 : Hid (Mq (fun k => k = q) w4 (v0.alloc (.cells #[.int .i64 gz] 2))) := M0.out.trans (Mq.of (World.grownBy_alloc v0 _ none) fun k e => by cases e)
        have CE : Hid (∀ ad, some (⟨v0.heap.size, 0, none⟩ : Addr) = some ad → ∀ i, i < 1 → (v0.alloc (.cells #[.int .i64 gz] 2)).cell? (ad.add i) = some (.int .i64 (([gz] : List Int).getD i 0))) := by
          intro ad had i hi
          obtain rfl := Option.some.inj had
          obtain rfl : i = 0 := by omega
          rw [Addr.add_mid]
          exact cell_new rfl
        have Z1 : Hid (w4.heap.size ≤ (v0.alloc (.cells #[.int .i64 gz] 2)).heap.size) := M1.out.size
        refine hK.out _ _ S1.out (fun _ => ?_)
        clear hK K
        generalize v0.alloc (.cells #[.int .i64 gz] 2) = v1 at *
        refine wpAnyH_ready (rs := [10]) (by kernel_rfl) (by simp) ?_
        refine AllReadyH.cons rfl (fun K hK => ?_) AllReadyH.nil
        refine step_append rfl (.tmp 35) (.tmp 43) rfl w4.heap.size (.slice ya j yc) (trL X.pol X.clock j) (by rfl) Y1.out (some ⟨v0.heap.size, 0, none⟩) 1 1 [gz] (by rfl) rfl (by simp) CE.out (by rw [trL_len]; have := HN.out; have := HJ.out; omega) w.heap.size w S1.out.1 (by have := ZQ.out; omega) Z1.out ?_
        intro y2 v2 N2 G2 B2
        have LB : ∀ k, (Value.slice ya j yc).ownBlock = some k → w4.heap.size ≤ k := fun k hk => (Y1.out.lt k hk).1
        have Y2 : Hid (Nums v2 w4.heap.size y2 (trL X.pol X.clock (j + 1))) := by show Nums _ _ _ _; rw [TG.out]; exact N2.out
        have V2 : Hid (Vb v2 q #[.int .i64 0, .slice ya j yc] 34) := V1.out.gr G2 (fun f => by have := LB q f.symm; have := ZQ.out; omega)
        have S2 : Hid (Below w.heap.size w v2 ∧ Vb v2 s #[.slice a0 n0 c0, .slice a1 n1 c1, .slice a2 n2 c2, .slice (some x) n3 c3, .slice am lm cm, .slice ah lh ch, .int .i64 X.slot, .int .i64 X.left, .int .i64 X.clock] 43) := ⟨B2, S1.out.2.gr G2 (fun f => by have := LB s f.symm; have := ZQ.out; omega)⟩
        have M2 : Hid (Mq (fun k => k = q) w4 v2) := by
          refine ⟨G2.os.trans M1.out.os, G2.tape.trans M1.out.tape, G2.output.trans M1.out.output, Nat.le_trans M1.out.size G2.size, fun k hk hn => ?_⟩
          rw [G2.block k (Nat.lt_of_lt_of_le hk M1.out.size) (fun f => by have := LB k f.symm; omega)]
          exact M1.out.block k hk hn
        obtain ⟨ya2, yc2, hy2, _⟩ := Y2.out.shape
        rw [trL_len] at hy2
        subst hy2
        change K (Act.put _ (some 44) _) _
        simp only [Act.put, List.setIfInBounds_toArray, List.set_cons_zero, List.set_cons_succ]
        refine hK.out _ _ S2.out (fun _ => ?_)
        clear hK K N2 G2 B2 LB
        refine wpAnyH_take (i := 11) (v := (.pointer (some ⟨q, 1, none⟩))) rfl (by kernel_rfl) (by kernel_rfl) (by kernel_rfl) (fun _ _ _ h => h) (Or.inl ⟨by rfl, fun w' hs => by go_simp⟩) S2.out ?_
        change wpAnyH _ _ _ _ _ _ _ (Act.put _ (some 45) _) _
        simp only [Act.put, List.setIfInBounds_toArray, List.set_cons_zero, List.set_cons_succ]
        refine wpAnyH_ready (rs := [12]) (by kernel_rfl) (by simp) ?_
        refine AllReadyH.cons rfl (fun K hK => ?_) AllReadyH.nil
        rw [if_pos (by rfl)]
        have y1 : v2.cell? ⟨q, 1, none⟩ = some (.slice ya j yc) := V2.out.cell 1 rfl
        have f1 := V2.out.free 1
        go_simp
        clear y1 f1
        have S3 : Hid (Below w.heap.size w (v2.setCell ⟨q, 1, none⟩ (.slice ya2 (j + 1) yc2)) ∧ Vb (v2.setCell ⟨q, 1, none⟩ (.slice ya2 (j + 1) yc2)) s #[.slice a0 n0 c0, .slice a1 n1 c1, .slice a2 n2 c2, .slice (some x) n3 c3, .slice am lm cm, .slice ah lh ch, .int .i64 X.slot, .int .i64 X.left, .int .i64 X.clock] 43) := ⟨S2.out.1.setCell (by have := ZQ.out; show w.heap.size ≤ q; omega) _, S2.out.2.put _ _ (by have := ZQ.out; show s ≠ q; omega)⟩
        have V3 : Hid (Vb (v2.setCell ⟨q, 1, none⟩ (.slice ya2 (j + 1) yc2)) q #[.int .i64 0, .slice ya2 (j + 1) yc2] 34) := V2.out.set 1 _
        have M3 : Hid (Mq (fun k => k = q) w4 (v2.setCell ⟨q, 1, none⟩ (.slice ya2 (j + 1) yc2))) := M2.out.set ⟨q, 1, none⟩ _ rfl
        have Y3 : Hid (Nums (v2.setCell ⟨q, 1, none⟩ (.slice ya2 (j + 1) yc2)) w4.heap.size (.slice ya2 (j + 1) yc2) (trL X.pol X.clock (j + 1))) := Y2.out.put _ _ (fun e => by have := (Y2.out.lt q e).1; have := ZQ.out; omega)
        generalize v2.setCell ⟨q, 1, none⟩ (.slice ya2 (j + 1) yc2) = v3 at *
        refine hK.out _ _ S3.out (fun _ => ?_)
        clear hK K
        refine wpAnyH_done (by kernel_rfl) ?_ _
        go_wp2_with fail
        go_roundw
        case rel => exact ⟨j + 1, _, by have := HLT.out; omega, by go_num, Y3.out, V3.out, M3.out⟩
        case measure => have := HLT.out; simp [intOf]; omega
    · have hI : ¬ (j : Int) < (N' : Int) := by omega
      obtain rfl : j = N' := by have := HJ.out; omega
      have RR : Hid (Vb wr (s + 1) #[.int .i64 0, .slice none 0 0] 34) := HM.out.vb R4.out (by have := ZQ.out; omega)
      have NL : Hid (∀ k, (Value.slice ya j yc).ownBlock = some k → w4.heap.size ≤ k) := fun k e => (HY.out.lt k e).1
      clear hlt
      have y0 := HV.out.cell 0 rfl
      have y1 := HV.out.cell 1 rfl
      have r0 := RR.out.cell 0 rfl
      have r1 := RR.out.cell 1 rfl
      have f0 := RR.out.free 0
      have f1 := RR.out.free 1
      have lt := RR.out.lt
      go_wp2_with fail
      refine bodyPost_ret (v := .agg #[.int .i64 0, .slice ya j yc]) (by simp [results, Tryz.results5, go_sem, r0, r1]) rfl ⟨.slice ya j yc, by rw [CV.out], ?_, (BB.out.setCell (by have := HSs.out; show w.heap.size ≤ s + 1; omega) _).setCell (by have := HSs.out; show w.heap.size ≤ s + 1; omega) _⟩
      have ne : (Value.slice ya j yc).ownBlock ≠ some (s + 1) := fun e => by have := NL.out _ e; have := ZQ.out; omega
      rw [ZV.out]
      exact ((HY.out.mono B4.out.size).put ⟨s + 1, 0, none⟩ (.int .i64 0) ne).put ⟨s + 1, 1, none⟩ (.slice ya j yc) ne
end Go.Proofs.YtgacbocibeihiaaGreatDoor
