/- Texts of this seat, joined. -/
import Derived.Test.YtdmlejfopmimfaaGreatDoorQ06
namespace Go.Proofs.YtdmlejfopmimfaaGreatDoor
open Go.RowKit

def inB (v lo hi : Int) : Bool := decide (lo ≤ v ∧ v ≤ hi)
theorem inB_true {v lo hi : Int} (h : lo ≤ v ∧ v ≤ hi) : inB v lo hi = true := decide_eq_true h
theorem inB_false {v lo hi : Int} (h : ¬ (lo ≤ v ∧ v ≤ hi)) : inB v lo hi = false := decide_eq_false h

theorem spec_inI (v lo hi : Int) (w : World) : Calls Tryz.prog 61 #[.int .i64 v, .int .i64 lo, .int .i64 hi] w fun e w' => e = .returned (.bool (inB v lo hi)) ∧ w' = w := by
  by_cases h : lo ≤ v
  · have e : inB v lo hi = decide (v ≤ hi) := by simp [inB, h]
    rw [e]
    go_enter Tryz.func61, Tryz.ntmps61
    go_wp2
    go_ret
    exact ⟨rfl, rfl⟩
  · have e : inB v lo hi = false := by simp [inB, h]
    rw [e]
    go_enter Tryz.func61, Tryz.ntmps61
    go_wp2
    go_ret
    exact ⟨rfl, rfl⟩

def bareD (op : Int) : Bool := decide (22 ≤ op ∧ op ≤ 26)
def bareA (op : Int) : Bool := decide (op = 13 ∨ op = 19 ∨ op = 21 ∨ 23 ≤ op ∧ op ≤ 26)
def bareI (op : Int) : Bool := decide (23 ≤ op ∧ op ≤ 26)

theorem spec_bare (op : Int) (w : World) (h : 1 ≤ op ∧ op ≤ 26) : Calls Tryz.prog 59 #[.int .i64 op] w fun e w' => e = .returned (.tuple #[.bool (bareD op), .bool (bareA op), .bool (bareI op)]) ∧ w' = w := by
  rcases op_class h with rfl | rfl | rfl | rfl | rfl | rfl | rfl | rfl | ⟨g1, g2, g3, g4, g5, g6, g7, g8, g9⟩
  rotate_right 1
  · have e1 : bareD op = false := decide_eq_false (by have g9 := g9.out; omega)
    have e2 : bareA op = false := decide_eq_false (by have g9 := g9.out; omega)
    have e3 : bareI op = false := decide_eq_false (by have g9 := g9.out; omega)
    rw [e1, e2, e3]
    clear e1 e2 e3 h
    go_enter Tryz.func59, Tryz.ntmps59
    go_wp2
    exact bodyPost_ret (v := .tuple #[.bool false, .bool false, .bool false]) (by simp [results, Tryz.results59, go_sem]) rfl ⟨rfl, rfl⟩
  all_goals
    go_enter Tryz.func59, Tryz.ntmps59
    go_wp2
  all_goals exact bodyPost_ret (v := .tuple #[.bool _, .bool _, .bool _]) (by simp [results, Tryz.results59, go_sem]; exact ⟨rfl, rfl, rfl⟩) rfl ⟨rfl, rfl⟩
end Go.Proofs.YtdmlejfopmimfaaGreatDoor
