/- Memories: when one has a fault, by program and model. -/
import Derived.Test.YtmddpomibogfcaaNumb
import Derived.Test.YtmddpomibogfcaaWords
namespace Go.Proofs.Ytmddpomibogfcaa
open Go.RowKit
set_option linter.unusedVariables false

def isW (z : Int) : Bool := decide (0 ≤ z) && decide (z ≤ 4294967295)
def formB (n : Nat) : Bool := decide (n % 8 = 0 ∧ 8 ≤ n ∧ n ≤ 192)
def memV (zs : List Int) : Int := if formB zs.length then (if zs.all isW then 0 else 3) else 1

theorem isW_wd (z : Int) : (wd z == z) = isW z := by
  have h := wd_in z
  rw [Bool.eq_iff_iff]
  simp only [isW, beq_iff_eq, Bool.and_eq_true, decide_eq_true_eq]
  constructor
  · intro e
    rw [e] at h
    omega
  · intro e
    unfold wd
    omega
theorem all_take (zs : List Int) (j : Nat) (h : j < zs.length) : (zs.take (j + 1)).all isW = ((zs.take j).all isW && isW (zs.getD j 0)) := by
  rw [List.take_succ_eq_append_getElem h, List.all_append, List.getD, List.getElem?_eq_getElem h]
  simp
theorem all_not (zs : List Int) (j : Nat) (h : j < zs.length) (hz : isW (zs.getD j 0) = false) : zs.all isW = false := by
  rw [List.getD, List.getElem?_eq_getElem h] at hz
  rw [List.all_eq_false]
  exact ⟨_, List.getElem_mem h, by simpa using hz⟩

theorem impl_isWord (z : Int) (w : World) : Calls Try.prog 43 #[.int .i64 z] w fun e w' => e = .returned (.bool (isW z)) ∧ w' = w := by
  rw [← isW_wd]
  go_enter Try.func43, Try.ntmps43
  go_wp2_with (go_at_call 53; refine (impl_wrap _ _).mono ?_; rintro e x ⟨rfl, rfl⟩)
  go_ret
  exact ⟨rfl, rfl⟩

theorem spec_in (z a b : Int) (w : World) : Calls Try.prog 50 #[.int .i64 z, .int .i64 a, .int .i64 b] w fun e w' => e = .returned (.bool (decide (a ≤ z) && decide (z ≤ b))) ∧ w' = w := by
  by_cases h : a ≤ z
  · go_enter Try.func50, Try.ntmps50
    go_wp2
    go_ret
    exact ⟨by simp [h], rfl⟩
  · go_enter Try.func50, Try.ntmps50
    go_wp2
    go_ret
    exact ⟨by simp; omega, rfl⟩

theorem ret_i {a b : Int} (h : a = b) : Ending.returned (.int .i64 a) = .returned (.int .i64 b) := by rw [h]
theorem memV_form {zs : List Int} {n : Nat} (hn : zs.length = n) (h : formB n = false) : memV zs = 1 := by simp [memV, hn, h]
theorem memV_not {zs : List Int} {n : Nat} (hn : zs.length = n) (h : formB n = true) (ha : zs.all isW = false) : memV zs = 3 := by simp [memV, hn, h, ha]
theorem memV_ok {zs : List Int} {n : Nat} (hn : zs.length = n) (h : formB n = true) (ha : zs.all isW = true) : memV zs = 0 := by simp [memV, hn, h, ha]

end Go.Proofs.Ytmddpomibogfcaa
