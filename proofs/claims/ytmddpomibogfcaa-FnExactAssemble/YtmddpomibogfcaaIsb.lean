/- Chapter 2's model: the fault of an instruction, which fields must be 0, and how a law hands an instruction on. -/
import Derived.Test.YtmddpomibogfcaaIsa
namespace Go.Proofs.Ytmddpomibogfcaa
open Go.RowKit

def inB (v lo hi : Int) : Bool := decide (lo ≤ v ∧ v ≤ hi)
theorem inB_true {v lo hi : Int} (h : lo ≤ v ∧ v ≤ hi) : inB v lo hi = true := decide_eq_true h
theorem inB_false {v lo hi : Int} (h : ¬ (lo ≤ v ∧ v ≤ hi)) : inB v lo hi = false := decide_eq_false h

theorem spec_inI (v lo hi : Int) (w : World) : Calls Try.prog 50 #[.int .i64 v, .int .i64 lo, .int .i64 hi] w fun e w' => e = .returned (.bool (inB v lo hi)) ∧ w' = w := by
  by_cases h : lo ≤ v
  · have e : inB v lo hi = decide (v ≤ hi) := by simp [inB, h]
    rw [e]
    go_enter Try.func50, Try.ntmps50
    go_wp2
    go_ret
    exact ⟨rfl, rfl⟩
  · have e : inB v lo hi = false := by simp [inB, h]
    rw [e]
    go_enter Try.func50, Try.ntmps50
    go_wp2
    go_ret
    exact ⟨rfl, rfl⟩

def bareD (op : Int) : Bool := decide (22 ≤ op ∧ op ≤ 26)
def bareA (op : Int) : Bool := decide (op = 13 ∨ op = 19 ∨ op = 21 ∨ 23 ≤ op ∧ op ≤ 26)
def bareI (op : Int) : Bool := decide (23 ≤ op ∧ op ≤ 26)

theorem spec_bare (op : Int) (w : World) (h : 1 ≤ op ∧ op ≤ 26) : Calls Try.prog 24 #[.int .i64 op] w fun e w' => e = .returned (.tuple #[.bool (bareD op), .bool (bareA op), .bool (bareI op)]) ∧ w' = w := by
  rcases op_class h with rfl | rfl | rfl | rfl | rfl | rfl | rfl | rfl | ⟨g1, g2, g3, g4, g5, g6, g7, g8, g9⟩
  rotate_right 1
  · have e1 : bareD op = false := decide_eq_false (by have g9 := g9.out; omega)
    have e2 : bareA op = false := decide_eq_false (by have g9 := g9.out; omega)
    have e3 : bareI op = false := decide_eq_false (by have g9 := g9.out; omega)
    rw [e1, e2, e3]
    clear e1 e2 e3 h
    go_enter Try.func24, Try.ntmps24
    go_wp2
    exact bodyPost_ret (v := .tuple #[.bool false, .bool false, .bool false]) (by simp [results, Try.results24, go_sem]) rfl ⟨rfl, rfl⟩
  all_goals
    go_enter Try.func24, Try.ntmps24
    go_wp2
  all_goals exact bodyPost_ret (v := .tuple #[.bool _, .bool _, .bool _]) (by simp [results, Try.results24, go_sem]; exact ⟨rfl, rfl, rfl⟩) rfl ⟨rfl, rfl⟩
end Go.Proofs.Ytmddpomibogfcaa
