/- Texts of this seat, joined. -/
import Derived.Test.YtdmlejfopmimfaaGreatDoorQ28
namespace Go.Proofs.YtdmlejfopmimfaaGreatDoor
open Go.RowKit
set_option linter.unusedVariables false

def nameB (l : Wb) : Bool := decide (l.length ≤ 8) && allW 97 122 l

theorem i_name (l : Wb) (w : World) (hl : l.length ≤ 1048576) :
    Calls Tryz.prog 71 #[.string (bq l)] w fun e w' => e = .returned (.bool (nameB l)) ∧ w' = w := by
  have hi := fun w => i_within l 97 122 (by decide) (by decide) hl w
  have hz : (bq l).size = l.length := bq_size l
  obtain ⟨n, hn⟩ : ∃ n, l.length = n := ⟨_, rfl⟩
  rw [hn] at hz
  have HV : Hid (nameB l = (decide (n ≤ 8) && allW 97 122 l)) := by show _ = _; rw [← hn]; rfl
  generalize allW 97 122 l = V at *
  generalize nameB l = R at *
  have hnI : (n : Int) ≤ 1048576 := by omega
  by_cases h8 : n ≤ 8
  · have h8I : (n : Int) ≤ 8 := by omega
    have HR : Hid (R = V) := by show _ = _; rw [HV.out, decide_eq_true h8]; rfl
    clear hn hl
    go_enter Tryz.func71, Tryz.ntmps71
    go_wp2_with (go_at_call 87; refine (hi _).mono ?_; rintro e x ⟨rfl, rfl⟩)
    go_ret
    exact ⟨by rw [HR.out]; rfl, rfl⟩
  · have h8I : ¬ (n : Int) ≤ 8 := by omega
    have HR : Hid (R = false) := by show _ = _; rw [HV.out, decide_eq_false h8]; rfl
    clear hn hl
    go_enter Tryz.func71, Tryz.ntmps71
    go_wp2_with fail
    go_ret
    exact ⟨by rw [HR.out]; rfl, rfl⟩

set_option maxHeartbeats 2000000 in
theorem s_name (l : Wb) (w : World) (hl : l.length ≤ 1048576) :
    Calls Tryz.prog 54 #[.string (bq l)] w fun e w' => e = .returned (.bool (nameB l)) ∧ w' = w := by
  have hz : (bq l).size = l.length := bq_size l
  obtain ⟨n, hn⟩ : ∃ n, l.length = n := ⟨_, rfl⟩
  rw [hn] at hz hl
  have HN : Hid (l.length = n ∧ n ≤ 1048576) := ⟨hn, hl⟩
  have hnI : (n : Int) ≤ 1048576 := by omega
  have GT : Hid (∀ j (h : j < (bq l).size), (bq l)[j]'h = l.getD j 0) := bq_get l
  by_cases hbad : n < 1 ∨ 8 < n
  · have HR : Hid (nameB l = false) := by
      show _ = _
      unfold nameB allW
      rcases hbad with h | h
      · obtain rfl : l = [] := List.eq_nil_of_length_eq_zero (by omega)
        rfl
      · rw [decide_eq_false (by omega)]; rfl
    have hd : decide ((n : Int) < 1) = true ∨ decide ((n : Int) < 1) = false ∧ decide (8 < (n : Int)) = true := by
      by_cases h : n < 1
      · exact .inl (decide_eq_true (by omega))
      · exact .inr ⟨decide_eq_false (by omega), decide_eq_true (by omega)⟩
    generalize nameB l = R at *
    clear hn hbad
    rcases hd with d1 | ⟨d1, d2⟩
    all_goals
      go_enter Tryz.func54, Tryz.ntmps54
      go_wp2_with fail
      go_ret
      exact ⟨by rw [HR.out]; rfl, rfl⟩
  have i1 : ¬ (n : Int) < 1 := by omega
  have i2 : (n : Int) ≤ 8 := by omega
  have i3 : ¬ n < 1 := by omega
  have NB : Hid (nameB l = l.all (withinB 97 122)) := by
    show _ = _
    unfold nameB allW
    have : l.isEmpty = false := by cases l with | nil => simp at hn; omega | cons a l => rfl
    rw [decide_eq_true (by omega), this]
    simp
  generalize nameB l = R at *
  clear hn hbad
  go_enter Tryz.func54, Tryz.ntmps54
  go_wp2_with fail
  go_loop [3] (fun i => ∃ j : Nat, j ≤ n ∧ i = .int .i64 j ∧ Hid ((l.take j).all (withinB 97 122) = true)) (fun i => n - (intOf i).toNat)
  case atStart => exact ⟨0, Nat.zero_le _, rfl, rfl⟩
  case round =>
    obtain ⟨j, hj, rfl, hA⟩ := hrel
    by_cases hlt : j < n
    · have hJ : (j : Int) < (n : Int) := by omega
      have HL : Hid (j < n) := hlt
      have hg := GT.out j (by omega)
      obtain ⟨c, hc⟩ : ∃ c, l.getD j 0 = c := ⟨_, rfl⟩
      rw [hc] at hg
      have HC : Hid (l.getD j 0 = c) := hc
      clear hc hj
      by_cases h1 : c.toNat < 97
      · have HW : Hid (withinB 97 122 c = false) := by show _ = _; unfold withinB; rw [decide_eq_false (by omega)]; rfl
        have h1I : (c.toNat : Int) < 97 := by omega
        go_wp2_with fail
        go_ret
        exact ⟨by rw [NB.out, all_falseB _ l j (by have := HN.out; have := HL.out; omega) (by rw [HC.out]; exact HW.out)]; rfl, rfl⟩
      have h1I : ¬ (c.toNat : Int) < 97 := by omega
      by_cases h2 : 122 < c.toNat
      · have HW : Hid (withinB 97 122 c = false) := by show _ = _; unfold withinB; rw [decide_eq_false (p := c.toNat ≤ 122) (by omega), Bool.and_false]
        have h2I : 122 < (c.toNat : Int) := by omega
        go_wp2_with fail
        go_ret
        exact ⟨by rw [NB.out, all_falseB _ l j (by have := HN.out; have := HL.out; omega) (by rw [HC.out]; exact HW.out)]; rfl, rfl⟩
      have h2I : ¬ 122 < (c.toNat : Int) := by omega
      have HW : Hid (withinB 97 122 c = true) := by show _ = _; unfold withinB; rw [decide_eq_true (by omega), decide_eq_true (by omega)]; rfl
      go_wp2_with fail
      go_round
      case rel => exact ⟨j + 1, by have := HL.out; omega, by go_num, by show _ = _; rw [all_takeB _ l j (by have := HN.out; have := HL.out; omega), hA.out, HC.out, HW.out]; rfl⟩
      case measure => have := HL.out; simp [intOf]; omega
    · have hJ : ¬ (j : Int) < (n : Int) := by omega
      have EJ : Hid (l.all (withinB 97 122) = true) := by
        show _ = _
        have := hA.out
        rwa [List.take_of_length_le (by have := HN.out; omega)] at this
      go_wp2_with fail
      go_ret
      exact ⟨by rw [NB.out, EJ.out]; rfl, rfl⟩

def labW : Wb := [108, 97, 98, 101, 108]
/-- Is a line a label's, does it stand for a word? -/
def labB : List Wb → Bool | [] => false | x :: _ => decide (x = labW)
def imgB : List Wb → Bool | [] => false | x :: _ => !decide (x = labW)
theorem lab_eq (x : Wb) : ((bq x).toList == [108, 97, 98, 101, 108]) = decide (x = labW) := by
  rw [bq_toList, show ([108, 97, 98, 101, 108] : Wb) = labW from rfl]
  by_cases h : x = labW
  · subst h; simp
  · rw [decide_eq_false h]; simpa using h
set_option maxHeartbeats 1000000 in
theorem i_isLabel (a : Option Addr) (n cap : Nat) (ss : List Wb) (w : World) (h : Rs w a n cap ss) (hn : n ≤ 1048576) :
    Calls Tryz.prog 45 #[.slice a n cap] w fun e w' => e = .returned (.bool (labB ss)) ∧ w' = w := by
  have hl := h.len
  have hnI : (n : Int) ≤ 1048576 := by omega
  cases ss with
  | nil =>
    obtain rfl : n = 0 := by simpa using hl
    clear h hn hl
    go_enter Tryz.func45, Tryz.ntmps45
    go_wp2_with fail
    go_ret
    exact ⟨rfl, rfl⟩
  | cons x r =>
    obtain ⟨y, rfl, cy⟩ := h.at 0 (by simp at hl; omega)
    have cy : w.cell? y = some (.string (bq x)) := cy
    have le := lab_eq x
    have h0 : 0 < (n : Int) := by simp at hl; omega
    have h00 : 0 < n := by omega
    have h01 : ¬ n = 0 := by omega
    have hv : labB (x :: r) = decide (x = labW) := rfl
    rw [hv]
    generalize decide (x = labW) = V at *
    clear h hn hl hv
    go_enter Tryz.func45, Tryz.ntmps45
    go_wp2_with fail
    go_ret
    exact ⟨by first | rfl | (rw [← le]; rfl), rfl⟩
set_option maxHeartbeats 1000000 in
theorem i_isImage (a : Option Addr) (n cap : Nat) (ss : List Wb) (w : World) (h : Rs w a n cap ss) (hn : n ≤ 1048576) :
    Calls Tryz.prog 24 #[.slice a n cap] w fun e w' => e = .returned (.bool (imgB ss)) ∧ w' = w := by
  have hl := h.len
  have hnI : (n : Int) ≤ 1048576 := by omega
  cases ss with
  | nil =>
    obtain rfl : n = 0 := by simpa using hl
    clear h hn hl
    go_enter Tryz.func24, Tryz.ntmps24
    go_wp2_with fail
    go_ret
    exact ⟨rfl, rfl⟩
  | cons x r =>
    obtain ⟨y, rfl, cy⟩ := h.at 0 (by simp at hl; omega)
    have cy : w.cell? y = some (.string (bq x)) := cy
    have le := lab_eq x
    have h0 : 0 < (n : Int) := by simp at hl; omega
    have h00 : 0 < n := by omega
    have h01 : ¬ n = 0 := by omega
    have hv : imgB (x :: r) = !decide (x = labW) := rfl
    rw [hv]
    generalize decide (x = labW) = V at *
    clear h hn hl hv
    go_enter Tryz.func24, Tryz.ntmps24
    go_wp2_with fail
    go_ret
    exact ⟨by first | rfl | (rw [← le]; rfl), rfl⟩
end Go.Proofs.YtdmlejfopmimfaaGreatDoor
