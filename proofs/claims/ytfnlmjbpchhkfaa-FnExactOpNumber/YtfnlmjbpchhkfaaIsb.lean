/- Chapter 2's model: the fault of an instruction, which fields must be 0, and how a law hands an instruction on. -/
import Derived.Test.YtfnlmjbpchhkfaaIsa
namespace Go.Proofs.Ytfnlmjbpchhkfaa
open Go.RowKit

def inB (v lo hi : Int) : Bool := decide (lo ≤ v ∧ v ≤ hi)
theorem inB_true {v lo hi : Int} (h : lo ≤ v ∧ v ≤ hi) : inB v lo hi = true := decide_eq_true h
theorem inB_false {v lo hi : Int} (h : ¬ (lo ≤ v ∧ v ≤ hi)) : inB v lo hi = false := decide_eq_false h

theorem spec_inI (v lo hi : Int) (w : World) : Calls Try.prog 16 #[.int .i64 v, .int .i64 lo, .int .i64 hi] w fun e w' => e = .returned (.bool (inB v lo hi)) ∧ w' = w := by
  by_cases h : lo ≤ v
  · have e : inB v lo hi = decide (v ≤ hi) := by simp [inB, h]
    rw [e]
    go_enter Try.func16, Try.ntmps16
    go_wp2
    go_ret
    exact ⟨rfl, rfl⟩
  · have e : inB v lo hi = false := by simp [inB, h]
    rw [e]
    go_enter Try.func16, Try.ntmps16
    go_wp2
    go_ret
    exact ⟨rfl, rfl⟩

def bareD (op : Int) : Bool := decide (22 ≤ op ∧ op ≤ 26)
def bareA (op : Int) : Bool := decide (op = 13 ∨ op = 19 ∨ op = 21 ∨ 23 ≤ op ∧ op ≤ 26)
def bareI (op : Int) : Bool := decide (23 ≤ op ∧ op ≤ 26)

end Go.Proofs.Ytfnlmjbpchhkfaa
