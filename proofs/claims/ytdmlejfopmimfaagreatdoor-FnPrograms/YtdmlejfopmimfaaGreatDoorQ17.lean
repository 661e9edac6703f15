/- Texts of this seat, joined. -/
import Derived.Deep.Cut
import Derived.Test.YtdmlejfopmimfaaGreatDoorQ13
namespace Go.Proofs.YtdmlejfopmimfaaGreatDoor
open Go.RowKit
set_option linter.unusedVariables false

def withinB (lo hi : Nat) (c : UInt8) : Bool := decide (lo ≤ c.toNat) && decide (c.toNat ≤ hi)
def allW (lo hi : Nat) (l : Wb) : Bool := l.all (withinB lo hi) && !l.isEmpty

theorem bq_get (l : Wb) (j : Nat) (h : j < (bq l).size) : (bq l)[j]'h = l.getD j 0 := by
  have hl : j < l.length := by rw [bq_size] at h; exact h
  rw [List.getD, List.getElem?_eq_getElem hl]
  show (l.toArray)[j]'_ = _
  exact List.getElem_toArray _
theorem all_takeB (f : UInt8 → Bool) (l : Wb) (j : Nat) (h : j < l.length) : (l.take (j + 1)).all f = ((l.take j).all f && f (l.getD j 0)) := by
  rw [List.take_add_one, List.getElem?_eq_getElem h, List.all_append]
  simp [List.getD, List.getElem?_eq_getElem h]
theorem all_falseB (f : UInt8 → Bool) (l : Wb) (j : Nat) (h : j < l.length) (hf : f (l.getD j 0) = false) : l.all f = false := by
  rw [List.all_eq_false]
  exact ⟨l.getD j 0, by simp [List.getD, List.getElem?_eq_getElem h], by rw [hf]; decide⟩
theorem bq_toList (l : Wb) : (bq l).toList = l := by rw [ByteArray.toList_eq]; rfl

set_option maxHeartbeats 1000000 in
theorem i_within (l : Wb) (lo hi : Nat) (hlo : lo ≤ 255) (hhi : hi ≤ 255) (hl : l.length ≤ 1048576) (w : World) :
    Calls Tryz.prog 87 #[.string (bq l), .int .u8 lo, .int .u8 hi] w fun e w' => e = .returned (.bool (allW lo hi l)) ∧ w' = w := by
  have hn : (bq l).size = l.length := bq_size l
  obtain ⟨n, hln⟩ : ∃ n, l.length = n := ⟨_, rfl⟩
  rw [hln] at hn hl
  have HN : Hid (l.length = n ∧ n ≤ 1048576) := ⟨hln, hl⟩
  have hnI : (n : Int) ≤ 1048576 := by omega
  have HE : Hid (l.isEmpty = decide (n = 0)) := by show _ = _; rw [← hln]; cases l <;> simp
  have hq := bq_toList l
  have GT : Hid (∀ j (h : j < (bq l).size), (bq l)[j]'h = l.getD j 0) := bq_get l
  clear hln
  generalize bq l = S at *
  go_enter Tryz.func87, Tryz.ntmps87
  go_wp2_with fail
  go_loop [6, 7, 10] (fun r _ i => ∃ j : Nat, j ≤ n ∧ i = .int .i64 j ∧ r = .bool false ∧ Hid ((l.take j).all (withinB lo hi) = true)) (fun _ _ i => n - (intOf i).toNat)
  case atStart => exact ⟨0, Nat.zero_le _, rfl, rfl, rfl⟩
  case round =>
    obtain ⟨j, hj, rfl, rfl, hA⟩ := hrel
    by_cases hlt : j < n
    · have hJ : (j : Int) < (n : Int) := by omega
      have HL : Hid (j < n) := hlt
      have hg := GT.out j (by omega)
      obtain ⟨c, hc⟩ : ∃ c, l.getD j 0 = c := ⟨_, rfl⟩
      rw [hc] at hg
      have HC : Hid (l.getD j 0 = c) := hc
      clear hc hj hq
      by_cases h1 : c.toNat < lo
      · have HW : Hid (withinB lo hi c = false) := by show _ = _; unfold withinB; rw [decide_eq_false (by omega)]; rfl
        go_wp2_with fail
        go_ret
        exact ⟨by rw [allW, all_falseB _ l j (by have := HN.out; have := HL.out; omega) (by rw [HC.out]; exact HW.out)]; rfl, rfl⟩
      by_cases h2 : hi < c.toNat
      · have HW : Hid (withinB lo hi c = false) := by show _ = _; unfold withinB; rw [decide_eq_false (p := c.toNat ≤ hi) (by omega), Bool.and_false]
        go_wp2_with fail
        go_ret
        exact ⟨by rw [allW, all_falseB _ l j (by have := HN.out; have := HL.out; omega) (by rw [HC.out]; exact HW.out)]; rfl, rfl⟩
      have HW : Hid (withinB lo hi c = true) := by show _ = _; unfold withinB; rw [decide_eq_true (by omega), decide_eq_true (by omega)]; rfl
      go_wp2_with fail
      go_round
      case rel => exact ⟨j + 1, by have := HL.out; omega, by go_num, rfl, by show _ = _; rw [all_takeB _ l j (by have := HN.out; have := HL.out; omega), hA.out, HC.out, HW.out]; rfl⟩
      case measure => have := HL.out; simp [intOf]; omega
    · have hJ : ¬ (j : Int) < (n : Int) := by omega
      have EJ : Hid (l.all (withinB lo hi) = true) := by
        show _ = _
        have := hA.out
        rwa [List.take_of_length_le (by have := HN.out; omega)] at this
      go_wp2_with fail
      go_ret
      exact ⟨by rw [allW, EJ.out, Bool.true_and]; rfl, rfl⟩
end Go.Proofs.YtdmlejfopmimfaaGreatDoor
