/- Texts of this seat, joined. -/
import Derived.Test.YtgacbocibeihiaaGreatDoorQ09
import Derived.Test.YtgacbocibeihiaaGreatDoorQ15
namespace Go.Proofs.YtgacbocibeihiaaGreatDoor
open Go.RowKit
set_option linter.unusedVariables false

def wholeB (ms : List Int) : Bool := decide (ms.length = 192) && decide (memV ms = 0)
theorem i_whole (v : Value) (ms : List Int) (b : Nat) (w : World) (h : Nums w b v ms) :
    Calls Tryz.prog 48 #[v, .int .i64 24] w fun e w' => e = .returned (.bool (wholeB ms)) ∧ w' = w := by
  obtain ⟨a, cap, rfl, l1, l2, hg⟩ := h.shape
  have HM : Hid (Nums w b _ ms) := h
  unfold wholeB
  have hl : (ms.length : Int) ≤ 9223372036854775807 := by unfold maxLen at l2; omega
  obtain ⟨n, hn⟩ : ∃ n, ms.length = n := ⟨_, rfl⟩
  rw [hn] at HM hl ⊢
  clear h l1 l2 hg
  by_cases h1 : n = 192
  · rw [decide_eq_true h1, Bool.true_and]
    have h1i : (n : Int) = 192 := by omega
    have HM2 : Hid (Nums w b (.slice a 192 cap) ms) := by rw [h1] at HM; exact HM
    subst h1
    clear hn h1i
    by_cases h2 : memV ms = 0
    · go_enter Tryz.func48, Tryz.ntmps48
      go_wp2_with (go_at_call 72; refine (impl_memFault _ ms b _ HM2.out).mono ?_; rintro e w ⟨rfl, rfl⟩; rw [h2])
      go_ret
      exact ⟨by first | rfl | simp [h2], rfl⟩
    · have h4 : decide (memV ms = 0) = false := decide_eq_false h2
      rw [h4]
      obtain ⟨mv, hmv⟩ : ∃ mv, memV ms = mv := ⟨_, rfl⟩
      rw [hmv] at h2
      have HMV : Hid (memV ms = mv) := hmv
      clear hmv h4
      have h5 : (mv == 0) = false := by simpa using h2
      go_enter Tryz.func48, Tryz.ntmps48
      go_wp2_with (go_at_call 72; refine (impl_memFault _ ms b _ HM2.out).mono ?_; rintro e w ⟨rfl, rfl⟩; rw [HMV.out])
      go_ret
      exact ⟨by first | rfl | simp [h5], rfl⟩
  · have h1i : ¬ (n : Int) = 192 := by omega
    rw [decide_eq_false h1, Bool.false_and]
    clear hn
    go_enter Tryz.func48, Tryz.ntmps48
    go_wp2_with fail
    go_ret
    exact ⟨by first | rfl | simp_all, rfl⟩
theorem l7_whole (v : Value) (ms : List Int) (b : Nat) (w : World) (h : Nums w b v ms) :
    Calls Tryz.prog 39 #[v] w fun e w' => e = .returned (.bool (wholeB ms)) ∧ w' = w := by
  obtain ⟨a, cap, rfl, l1, l2, hg⟩ := h.shape
  have HM : Hid (Nums w b _ ms) := h
  unfold wholeB
  have hl : (ms.length : Int) ≤ 9223372036854775807 := by unfold maxLen at l2; omega
  obtain ⟨n, hn⟩ : ∃ n, ms.length = n := ⟨_, rfl⟩
  rw [hn] at HM hl ⊢
  clear h l1 l2 hg
  by_cases h2 : memV ms = 0
  · rw [decide_eq_true h2, Bool.and_true]
    clear hn
    go_enter Tryz.func39, Tryz.ntmps39
    go_wp2_with (go_at_call 64; refine (spec_memFault _ ms b _ HM.out).mono ?_; rintro e w ⟨rfl, rfl⟩; rw [h2])
    go_ret
    exact ⟨congrArg (fun b => Ending.returned (.bool b)) (by apply Bool.eq_iff_iff.2; simp; omega), rfl⟩
  · have h4 : decide (memV ms = 0) = false := decide_eq_false h2
    rw [h4, Bool.and_false]
    obtain ⟨mv, hmv⟩ : ∃ mv, memV ms = mv := ⟨_, rfl⟩
    rw [hmv] at h2
    have HMV : Hid (memV ms = mv) := hmv
    have h5 : (mv == 0) = false := by simpa using h2
    clear hn hmv h4
    go_enter Tryz.func39, Tryz.ntmps39
    go_wp2_with (go_at_call 64; refine (spec_memFault _ ms b _ HM.out).mono ?_; rintro e w ⟨rfl, rfl⟩; rw [HMV.out])
    go_ret
    exact ⟨by first | rfl | simp [h5], rfl⟩
end Go.Proofs.YtgacbocibeihiaaGreatDoor
namespace Go.Proofs.YtgacbocibeihiaaGreatDoor
open Go.RowKit
set_option linter.unusedVariables false

theorem ret_b {a b : Bool} (h : a = b) : Ending.returned (.bool a) = .returned (.bool b) := by rw [h]

set_option maxHeartbeats 1000000 in
theorem i_words (a : Option Addr) (n cap : Nat) (zs : List Int) (w : World) (h : Rn w a n cap zs) :
    Calls Tryz.prog 73 #[.slice a n cap] w fun e w' => e = .returned (.bool (zs.all isW)) ∧ w' = w := by
  have HN : Hid (n = zs.length) := h.len
  have HZ : Hid (Rn w a n cap zs) := h
  have hl : (n : Int) ≤ 9223372036854775807 := by have := h.cap; unfold maxLen at this; omega
  clear h
  go_enter Tryz.func73, Tryz.ntmps73
  go_wp2_with fail
  go_loop [4, 7] (fun _ i => ∃ j : Nat, j ≤ n ∧ i = .int .i64 j ∧ Hid ((zs.take j).all isW = true)) (fun _ i => n - (intOf i).toNat)
  case atStart => exact ⟨0, Nat.zero_le _, rfl, rfl⟩
  case round =>
    obtain ⟨j, hj, rfl, hA⟩ := hrel
    by_cases hlt : j < n
    · obtain ⟨x, rfl, c1⟩ := HZ.out.at j hlt
      have hJ : (j : Int) < (n : Int) := by omega
      have HL : Hid (j < zs.length) := by show _ < _; have := HN.out; omega
      obtain ⟨z, hz⟩ : ∃ z, zs.getD j 0 = z := ⟨_, rfl⟩
      rw [hz] at c1
      have HZZ : Hid (zs.getD j 0 = z) := hz
      clear hz hlt
      cases hw : isW z
      · have HW : Hid (isW z = false) := hw
        go_wp2_with (go_at_call 91; refine (impl_isWord _ _).mono ?_; rintro e x ⟨rfl, rfl⟩; rw [hw])
        go_ret
        exact ⟨ret_b (all_not zs j HL.out (by rw [HZZ.out]; exact HW.out)).symm, rfl⟩
      · have HW : Hid (isW z = true) := hw
        go_wp2_with (go_at_call 91; refine (impl_isWord _ _).mono ?_; rintro e x ⟨rfl, rfl⟩; rw [hw])
        go_round
        case rel => exact ⟨j + 1, by have := HL.out; have := HN.out; omega, by go_num, by show _ = _; rw [all_take zs j HL.out, hA.out, HZZ.out, HW.out]; rfl⟩
        case measure => have := HL.out; have := HN.out; simp [intOf]; omega
    · have hJ : ¬ (j : Int) < (n : Int) := by omega
      obtain rfl : j = n := by omega
      go_wp2_with fail
      go_ret
      exact ⟨ret_b (by have := hA.out; rw [List.take_of_length_le (Nat.le_of_eq HN.out.symm)] at this; exact this.symm), rfl⟩

theorem s_word (z : Int) (w : World) : Calls Tryz.prog 66 #[.int .i64 z] w fun e w' => e = .returned (.bool (isW z)) ∧ w' = w := by
  have hw : (decide (0 ≤ z) && decide (z ≤ 4294967295)) = isW z := rfl
  go_enter Tryz.func66, Tryz.ntmps66
  go_wp2_with (go_at_call 41; refine (spec_in _ _ _ _).mono ?_; rintro e x ⟨rfl, rfl⟩; rw [hw])
  go_ret
  exact ⟨rfl, rfl⟩

set_option maxHeartbeats 1000000 in
theorem s_words (a : Option Addr) (n cap : Nat) (zs : List Int) (w : World) (h : Rn w a n cap zs) :
    Calls Tryz.prog 65 #[.slice a n cap] w fun e w' => e = .returned (.bool (zs.all isW)) ∧ w' = w := by
  have HN : Hid (n = zs.length) := h.len
  have HZ : Hid (Rn w a n cap zs) := h
  have hl : (n : Int) ≤ 9223372036854775807 := by have := h.cap; unfold maxLen at this; omega
  clear h
  go_enter Tryz.func65, Tryz.ntmps65
  go_wp2_with fail
  go_loop [3] (fun i => ∃ j : Nat, j ≤ n ∧ i = .int .i64 j ∧ Hid ((zs.take j).all isW = true)) (fun i => n - (intOf i).toNat)
  case atStart => exact ⟨0, Nat.zero_le _, rfl, rfl⟩
  case round =>
    obtain ⟨j, hj, rfl, hA⟩ := hrel
    by_cases hlt : j < n
    · obtain ⟨x, rfl, c1⟩ := HZ.out.at j hlt
      have hJ : (j : Int) < (n : Int) := by omega
      have HL : Hid (j < zs.length) := by show _ < _; have := HN.out; omega
      obtain ⟨z, hz⟩ : ∃ z, zs.getD j 0 = z := ⟨_, rfl⟩
      rw [hz] at c1
      have HZZ : Hid (zs.getD j 0 = z) := hz
      clear hz hlt
      cases hw : isW z
      · have HW : Hid (isW z = false) := hw
        go_wp2_with (go_at_call 66; refine (s_word _ _).mono ?_; rintro e x ⟨rfl, rfl⟩; rw [hw])
        go_ret
        exact ⟨ret_b (all_not zs j HL.out (by rw [HZZ.out]; exact HW.out)).symm, rfl⟩
      · have HW : Hid (isW z = true) := hw
        go_wp2_with (go_at_call 66; refine (s_word _ _).mono ?_; rintro e x ⟨rfl, rfl⟩; rw [hw])
        go_round
        case rel => exact ⟨j + 1, by have := HL.out; have := HN.out; omega, by go_num, by show _ = _; rw [all_take zs j HL.out, hA.out, HZZ.out, HW.out]; rfl⟩
        case measure => have := HL.out; have := HN.out; simp [intOf]; omega
    · have hJ : ¬ (j : Int) < (n : Int) := by omega
      obtain rfl : j = n := by omega
      go_wp2_with fail
      go_ret
      exact ⟨ret_b (by have := hA.out; rw [List.take_of_length_le (Nat.le_of_eq HN.out.symm)] at this; exact this.symm), rfl⟩

theorem stand_tmod (z m : Int) (h : 0 ≤ z) : z.tmod m = z % m := Int.tmod_eq_emod_of_nonneg h
theorem i_stand (k z : Int) (w : World) (hz : 0 ≤ z) (hz2 : z ≤ 4294967295) :
    Calls Tryz.prog 92 #[.int .i64 k, .int .i64 z] w fun e w' => e = .returned (.int .i64 (standV k z)) ∧ w' = w := by
  have t4 := stand_tmod z 4 hz
  have t8 := stand_tmod z 8 hz
  by_cases h0 : k = 0
  · subst h0
    go_enter Tryz.func92, Tryz.ntmps92
    go_wp2_with fail
    go_ret
    exact ⟨by simp [standV], rfl⟩
  by_cases h7 : k = 7
  · subst h7
    go_enter Tryz.func92, Tryz.ntmps92
    go_wp2_with fail
    go_ret
    exact ⟨by simp [standV], rfl⟩
  by_cases h10 : k = 10
  · subst h10
    by_cases h8 : 8 < z
    · go_enter Tryz.func92, Tryz.ntmps92
      go_wp2_with fail
      go_ret
      exact ⟨by simp [standV, h8], rfl⟩
    · go_enter Tryz.func92, Tryz.ntmps92
      go_wp2_with fail
      go_ret
      exact ⟨ret_i (by unfold standV; rw [if_neg (by decide), if_neg (by decide), if_pos rfl, if_neg (by omega)]), rfl⟩
  by_cases h6 : k = 6
  · subst h6
    go_enter Tryz.func92, Tryz.ntmps92
    go_wp2_with fail
    go_ret
    exact ⟨by simp [standV], rfl⟩
  by_cases h8 : k = 8
  · subst h8
    go_enter Tryz.func92, Tryz.ntmps92
    go_wp2_with fail
    go_ret
    exact ⟨by simp [standV], rfl⟩
  have hv : standV k z = z := by simp [standV, h0, h7, h10, h6, h8]
  rw [hv]
  clear hv
  go_enter Tryz.func92, Tryz.ntmps92
  go_wp2_with fail
  go_ret
  exact ⟨rfl, rfl⟩

set_option maxHeartbeats 1000000 in
theorem i_allStand (x : Addr) (cap : Nat) (zs : List Int) (w : World) (h : Rn w (some x) 11 cap zs) (hw : zs.all isW = true) :
    Calls Tryz.prog 74 #[.slice (some x) 11 cap] w fun e w' => e = .returned (.bool (standC zs)) ∧ w' = w := by
  have HN : Hid (zs.length = 11) := h.len.symm
  have HZ : Hid (Rn w (some x) 11 cap zs) := h
  have HW : Hid (zs.all isW = true) := hw
  have HC : Hid ((∀ k : Nat, k < 11 → standV k (zs.getD k 0) = zs.getD k 0) ↔ standC zs = true) := stand_all hw h.len.symm
  clear h hw
  go_enter Tryz.func74, Tryz.ntmps74
  go_wp2_with fail
  go_loop [3, 4, 7] (fun _ _ i => ∃ j : Nat, j ≤ 11 ∧ i = .int .i64 j ∧ Hid (∀ k : Nat, k < j → standV k (zs.getD k 0) = zs.getD k 0)) (fun _ _ i => 11 - (intOf i).toNat)
  case atStart => exact ⟨0, Nat.zero_le _, rfl, fun k hk => absurd hk (Nat.not_lt_zero _)⟩
  case round =>
    obtain ⟨j, hj, rfl, hA⟩ := hrel
    by_cases hlt : j < 11
    · obtain ⟨x', e, c1⟩ := HZ.out.at j hlt
      cases e
      have hJ : (j : Int) < 11 := by omega
      have HL : Hid (j < 11) := hlt
      have ha := all_at HW.out j
      obtain ⟨z, hz⟩ : ∃ z, zs.getD j 0 = z := ⟨_, rfl⟩
      rw [hz] at c1 ha
      have HA : Hid (0 ≤ z ∧ z ≤ 4294967295) := ha
      have HZZ : Hid (zs.getD j 0 = z) := hz
      obtain ⟨u, hu⟩ : ∃ u, standV (j : Int) z = u := ⟨_, rfl⟩
      have HU : Hid (standV (j : Int) z = u) := hu
      clear hz hlt ha hu
      by_cases hs : u = z
      · have HS : Hid (u = z) := hs
        subst hs
        go_wp2_with (go_at_call 92; refine (i_stand _ _ _ HA.out.1 HA.out.2).mono ?_; rintro e x ⟨rfl, rfl⟩; rw [HU.out])
        go_round
        case rel => exact ⟨j + 1, by have := HL.out; omega, by go_num, fun k hk => by
          by_cases e : k = j
          · subst e; rw [HZZ.out]; exact HU.out
          · exact hA.out k (by omega)⟩
        case measure => have := HL.out; simp [intOf]; omega
      · have HS : Hid (¬ u = z) := hs
        go_wp2_with (go_at_call 92; refine (i_stand _ _ _ HA.out.1 HA.out.2).mono ?_; rintro e x ⟨rfl, rfl⟩; rw [HU.out])
        go_ret
        refine ⟨?_, rfl⟩
        cases hc : standC zs
        · rfl
        · exact absurd (HU.out.symm.trans (by have := HC.out.2 hc j HL.out; rw [HZZ.out] at this; exact this)) HS.out
    · have hJ : ¬ (j : Int) < 11 := by omega
      obtain rfl : j = 11 := by omega
      go_wp2_with fail
      go_ret
      exact ⟨ret_b (HC.out.1 hA.out).symm, rfl⟩
end Go.Proofs.YtgacbocibeihiaaGreatDoor
