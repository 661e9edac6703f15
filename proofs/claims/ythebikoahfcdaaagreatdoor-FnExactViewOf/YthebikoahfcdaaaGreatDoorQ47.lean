/- Texts of this seat, joined. -/
import Derived.BigQuiet
import Derived.Test.YthebikoahfcdaaaGreatDoorQ45
namespace Go.Proofs.YthebikoahfcdaaaGreatDoor
open Go.RowKit
set_option linter.unusedVariables false

set_option maxRecDepth 20000 in
set_option maxHeartbeats 4000000 in
theorem s_turn (q : Nat) (c : Int) (P : Plc) (w : World) (h : PolAt w q P) (hz : pfV P = 0) (hc : 0 ≤ c) (hc1 : c ≤ 1000000) :
    Calls Tryz.prog 45 #[.pointer (some ⟨q, 0, none⟩), .int .i64 c] w fun e w' => e = .returned (.tuple #[.int .i64 (tS P c).1, .int .i64 (tS P c).2]) ∧ Below w.heap.size w w' := by
  have PZ : Hid (pfV P = 0) := hz
  obtain ⟨u, hu⟩ : ∃ u, tS P c = u := ⟨_, rfl⟩
  rw [hu]
  have HU : Hid (tS P c = u) := hu
  obtain ⟨a0, n0, c0, a1, n1, c1, a2, n2, c2, a3, n3, c3, -, -, -, q3, hp⟩ := h
  have HPw : Hid (Pl w a0 n0 c0 a1 n1 c1 a2 n2 c2 a3 n3 c3 P) := hp
  have RP := rd_pos P PZ.out
  obtain ⟨rr, hrr⟩ : ∃ r, rdV P.plan = r := ⟨_, rfl⟩
  rw [hrr] at RP
  have HR : Hid (rdV P.plan = rr) := hrr
  have r1 := RP.1
  have r2 := RP.2
  have tm : c.tmod rr = c % rr := Int.tmod_eq_emod_of_nonneg hc
  have m0 : 0 ≤ c % rr := Int.emod_nonneg _ (by omega)
  have m1 : c % rr < rr := Int.emod_lt_of_pos _ (by omega)
  obtain ⟨m, hm⟩ : ∃ m, c % rr = m := ⟨_, rfl⟩
  rw [hm] at tm m0 m1
  have HM : Hid (c % rr = m) := hm
  have M01 : Hid (0 ≤ m ∧ m < rr) := ⟨m0, m1⟩
  have R4 : Hid (rr ≤ 400) := r2
  have HL3 : Hid (n3 = P.plan.length) := HPw.out.plan.len
  have L8 : Hid (1 ≤ n3 ∧ n3 ≤ 8) := by show _ ∧ _; rw [HPw.out.plan.len]; exact ⟨pf_plan1 P PZ.out, (pf_plan P PZ.out).1⟩
  have hmax3 : (n3 : Int) ≤ 9223372036854775807 := by have := L8.out; omega
  have ST8 : Hid (∀ j, j < P.plan.length → 1 ≤ (P.plan.getD j (0, 0)).2 ∧ (P.plan.getD j (0, 0)).2 ≤ 50) := (pf_plan P PZ.out).2
  clear hz hu hp hrr hm RP
  go_enter Tryz.func45, Tryz.ntmps45
  go_wp2_with fail
  go_loop [6, 7] (fun u v => ∃ j : Nat, j ≤ n3 ∧ v = .int .i64 j ∧ u = .int .i64 (rdV (P.plan.take j))) (fun _ v => n3 - (intOf v).toNat)
  case atStart => exact ⟨0, Nat.zero_le _, rfl, by simp [rdV]⟩
  case round =>
    obtain ⟨j, hj, rfl, rfl⟩ := hrel
    by_cases hlt : j < n3
    · obtain ⟨x, rfl, k0, k1⟩ := HPw.out.plan.at j hlt
      have hJ : (j : Int) < (n3 : Int) := by omega
      have J8 : (j : Int) ≤ 8 := by have := L8.out; omega
      have HLT : Hid (j < n3) := hlt
      have TK : Hid (_ = _) := rdV_take P.plan j (by have := HL3.out; omega)
      have bd := rd_bound P PZ.out j (by have := HL3.out; omega)
      have st := ST8.out j (by have := HL3.out; omega)
      have bd0 := bd.1
      have bd1 : rdV (P.plan.take j) ≤ 400 := by have := L8.out; omega
      have st0 := st.1
      have st1 := st.2
      obtain ⟨⟨g, t⟩, hL⟩ : ∃ L, P.plan.getD j (0, 0) = L := ⟨_, rfl⟩
      rw [hL] at k0 k1 TK st0 st1
      simp only at k0 k1 TK st0 st1
      clear hL hlt bd st
      generalize hsum : rdV (P.plan.take j) = sm at *
      clear hsum
      go_wp2_with fail
      go_round
      case rel => exact ⟨j + 1, by have := HLT.out; omega, by go_num, by rw [TK.out]⟩
      case measure => have := HLT.out; simp [intOf]; omega
    · have hJ : ¬ (j : Int) < (n3 : Int) := by omega
      have HJ : Hid (j = n3) := by show _ = _; omega
      clear hlt
      have EV : Hid (rdV (P.plan.take j) = rr) := by show _ = _; rw [List.take_of_length_le (by have := HL3.out; have := HJ.out; omega)]; exact HR.out
      rw [EV.out]
      go_wp2_with fail
      go_loop [8, 9] (fun u v => ∃ j : Nat, j < n3 ∧ v = .int .i64 j ∧ u = .int .i64 (m - rdV (P.plan.take j)) ∧ rdV (P.plan.take j) ≤ m) (fun _ v => n3 - (intOf v).toNat)
      case atStart => exact ⟨0, L8.out.1, rfl, by simp [rdV], by simp [rdV]; exact M01.out.1⟩
      case round =>
        rename_i jj _ _ _ _
        obtain ⟨j, hlt, rfl, rfl, hle⟩ := hrel
        obtain ⟨x, rfl, k0, k1⟩ := HPw.out.plan.at j hlt
        have HLT : Hid (j < n3) := hlt
        have hJ : (j : Int) < (n3 : Int) := by omega
        have J8 : (j : Int) ≤ 8 := by have := L8.out; omega
        have TK : Hid (_ = _) := rdV_take P.plan j (by have := HL3.out; omega)
        have st := ST8.out j (by have := HL3.out; omega)
        have bd := rd_bound P PZ.out j (by have := HL3.out; omega)
        have bd0 := bd.1
        have bd1 : rdV (P.plan.take j) ≤ 400 := by have := L8.out; omega
        have st0 := st.1
        have st1 := st.2
        have mm := M01.out
        have m40 : m ≤ 400 := by have := R4.out; omega
        obtain ⟨⟨g, t⟩, hL⟩ : ∃ L, P.plan.getD j (0, 0) = L := ⟨_, rfl⟩
        rw [hL] at k0 k1 TK st0 st1
        simp only at k0 k1 TK st0 st1
        clear hL bd st
        obtain ⟨sm, hsm⟩ : ∃ z, rdV (P.plan.take j) = z := ⟨_, rfl⟩
        rw [hsm] at TK bd0 bd1 hle ⊢
        have HSM : Hid (rdV (P.plan.take j) = sm) := hsm
        clear hsm
        by_cases he : t ≤ m - sm
        · have TK2 : Hid (rdV (P.plan.take (j + 1)) = sm + t) := TK.out
          have JN : Hid (j + 1 < n3) := by
            show _ < _
            rcases Nat.lt_or_ge (j + 1) n3 with h | h
            · exact h
            · exfalso
              have e : P.plan.take (j + 1) = P.plan := List.take_of_length_le (by have := HL3.out; omega)
              have := TK2.out
              rw [e, HR.out] at this
              omega
          go_wp2_with fail
          go_round
          case rel => exact ⟨j + 1, JN.out, by go_num, by rw [TK2.out]; go_num, by rw [TK2.out]; omega⟩
          case measure => have := HLT.out; simp [intOf]; omega
        · have EV := tS_at P PZ.out c j (by have := HL3.out; omega) (by rw [HSM.out, HR.out, HM.out]; exact hle) (by rw [TK.out, HR.out, HM.out]; omega)
          rw [TK.out, HR.out, HM.out, HU.out] at EV
          subst EV
          have e1 : t - (m - sm) = sm + t - m := by omega
          go_wp2_with fail
          go_quiet (fail)
          go_wp2_with fail
          exact bodyPost_ret (v := .tuple #[.int .i64 (j : Int), .int .i64 (sm + t - m)]) (by simp [results, Tryz.results45, go_sem]) rfl ⟨rfl, dr (Below.refl _ _) _⟩
end Go.Proofs.YthebikoahfcdaaaGreatDoor
