/- Texts of this seat, joined. -/
import Derived.Test.YtadkhognlapckaaGreatDoorQ18
namespace Go.Proofs.YtadkhognlapckaaGreatDoor
open Go.RowKit
set_option linter.unusedVariables false

theorem spec_faultBad (a : Option Addr) (n cap : Nat) (top : Int) (w : World) (hn : n ≠ 8) (hm : n ≤ 1048576) (h1 : 1 ≤ top) (h2 : top ≤ 24) :
    Calls Tryz.prog 63 #[.slice a n cap, .int .i64 top] w fun e w' => e = .returned (.int .i64 1) ∧ w' = w := by
  have g : ((n : Int) != 8) = true := by simp; omega
  have hi : (n : Int) ≤ 1048576 := by omega
  have k : (decide (1 ≤ top) && decide (top ≤ 24)) = true := by simp; omega
  go_enter Tryz.func63, Tryz.ntmps63
  go_wp2_with (go_at_call 86; refine (spec_in _ _ _ _).mono ?_; rintro e x ⟨rfl, rfl⟩; rw [k])
  go_ret
  exact ⟨rfl, rfl⟩

set_option maxHeartbeats 2000000 in
theorem spec_fault (v : Value) (rs : List (Int × Int)) (top : Int) (b : Nat) (w : World) (h : Prs 125 w b v rs) (hm : rs.length ≤ 1048576) :
    Calls Tryz.prog 63 #[v, .int .i64 top] w fun e w' => e = .returned (.int .i64 (pgsV rs top)) ∧ w' = w := by
  obtain ⟨a, cap, rfl, l1, l2, hg⟩ := h.shape
  by_cases h1 : (decide (1 ≤ top) && decide (top ≤ 24)) = true
  case neg =>
    rw [Bool.not_eq_true] at h1
    rw [pgsV, if_neg (by simp at h1; omega)]
    clear h
    go_enter Tryz.func63, Tryz.ntmps63
    go_wp2_with (go_at_call 86; refine (spec_in _ _ _ _).mono ?_; rintro e x ⟨rfl, rfl⟩; rw [h1])
    go_ret
    exact ⟨rfl, rfl⟩
  have h2 : 1 ≤ top ∧ top ≤ 24 := by simpa using h1
  obtain ⟨t1, t2⟩ := h2
  by_cases hl : rs.length = 8
  case neg =>
    rw [pgsV, if_pos (by omega), if_neg hl]
    exact spec_faultBad _ _ _ _ _ hl hm t1 t2
  rw [pgsV, if_pos (by omega), if_pos hl]
  rw [hl] at hg ⊢
  have HZ : Hid (Prs 125 w b (.slice a 8 cap) rs) := by show Prs 125 _ _ _ _; rw [← hl]; exact h
  have HN : Hid (rs.length = 8) := hl
  obtain ⟨g, rfl⟩ := hg (by omega)
  clear h hl l1 l2 hg hm
  go_enter Tryz.func63, Tryz.ntmps63
  go_wp2_with (go_at_call 86; refine (spec_in _ _ _ _).mono ?_; rintro e x ⟨rfl, rfl⟩; rw [h1])
  go_loop [5] (fun c => ∃ j : Nat, j ≤ 8 ∧ c = .int .i64 j ∧ okTo top rs j) (fun c => 8 - (intOf c).toNat)
  case atStart => exact ⟨0, Nat.zero_le _, rfl, fun i hi => by omega⟩
  case round =>
    obtain ⟨j, hj, rfl, hA⟩ := hrel
    by_cases hlt : j < 8
    · have c1 := (HZ.out.cell HN.out.symm j hlt).1
      have c2 := (HZ.out.cell HN.out.symm j hlt).2
      have hI : (j : Int) < 8 := by omega
      have HL : Hid (j < 8) := hlt
      have HS : Hid (pgC top (rs.getD j (0, 0)).1 (rs.getD j (0, 0)).2 = 0 → okTo top rs (j + 1)) := okTo_succ hA
      have HT : Hid (pgC top (rs.getD j (0, 0)).1 (rs.getD j (0, 0)).2 ≠ 0 → firstC top rs = pgC top (rs.getD j (0, 0)).1 (rs.getD j (0, 0)).2) := firstC_at (by have := HN.out; omega) hA
      generalize (rs.getD j (0, 0)).1 = p at *
      generalize (rs.getD j (0, 0)).2 = q at *
      clear hlt hA
      by_cases k1 : (decide (-1 ≤ p) && decide (p ≤ top - 1)) = true
      case neg =>
        rw [Bool.not_eq_true] at k1
        have e : pgC top p q = 3 := pgC_range (by simp at k1; omega)
        have HT2 : Hid (firstC top rs = 3) := by show _ = _; rw [HT.out (by omega), e]
        clear e HT HS
        go_wp2_with (go_at_call 86; refine (spec_in _ _ _ _).mono ?_; rintro e x ⟨rfl, rfl⟩; rw [k1])
        go_ret
        exact ⟨by rw [HT2.out]; rfl, rfl⟩
      by_cases k2 : (decide (0 ≤ q) && decide (q ≤ 7)) = true
      case neg =>
        rw [Bool.not_eq_true] at k2
        have e : pgC top p q = 3 := pgC_range (by simp at k2; omega)
        have HT2 : Hid (firstC top rs = 3) := by show _ = _; rw [HT.out (by omega), e]
        clear e HT HS
        go_wp2_with (go_at_call 86; refine (spec_in _ _ _ _).mono ?_; rintro e x ⟨rfl, rfl⟩; first | rw [k1] | rw [k2])
        go_ret
        exact ⟨by rw [HT2.out]; rfl, rfl⟩
      have b1 : -1 ≤ p ∧ p ≤ top - 1 := by simpa using k1
      have b2 : 0 ≤ q ∧ q ≤ 7 := by simpa using k2
      obtain ⟨p1, p2⟩ := b1
      obtain ⟨p3, p4⟩ := b2
      by_cases k3 : p < 0
      case neg =>
        have e : pgC top p q = 0 := pgC_ok (by omega) (by omega)
        have S := HS.out e
        have HS' : Hid (okTo top rs (j + 1)) := S
        clear e HT HS S
        go_wp2_with (go_at_call 86; refine (spec_in _ _ _ _).mono ?_; rintro e x ⟨rfl, rfl⟩; first | rw [k1] | rw [k2])
        go_round
        case rel => exact ⟨j + 1, by have := HL.out; omega, by go_num, HS'.out⟩
        case measure => have := HL.out; simp [intOf]; omega
      by_cases k4 : q = 0
      case neg =>
        have e : pgC top p q = 1 := pgC_form (by omega) (by omega)
        have HT2 : Hid (firstC top rs = 1) := by show _ = _; rw [HT.out (by omega), e]
        have k5 : (q != 0) = true := by simpa using k4
        clear e HT HS k4
        go_wp2_with (go_at_call 86; refine (spec_in _ _ _ _).mono ?_; rintro e x ⟨rfl, rfl⟩; first | rw [k1] | rw [k2])
        go_ret
        exact ⟨by rw [HT2.out]; rfl, rfl⟩
      · have e : pgC top p q = 0 := pgC_ok (by omega) (by omega)
        have HS' : Hid (okTo top rs (j + 1)) := HS.out e
        subst k4
        clear e HT HS
        go_wp2_with (go_at_call 86; refine (spec_in _ _ _ _).mono ?_; rintro e x ⟨rfl, rfl⟩; first | rw [k1] | rw [k2])
        go_round
        case rel => exact ⟨j + 1, by have := HL.out; omega, by go_num, HS'.out⟩
        case measure => have := HL.out; simp [intOf]; omega
    · have hI : ¬ (j : Int) < 8 := by omega
      obtain rfl : j = 8 := by omega
      have HE : Hid (firstC top rs = 0) := firstC_ok (by rw [HN.out]; exact hA)
      clear hA
      go_wp2_with fail
      go_ret
      exact ⟨by rw [HE.out]; rfl, rfl⟩
end Go.Proofs.YtadkhognlapckaaGreatDoor
