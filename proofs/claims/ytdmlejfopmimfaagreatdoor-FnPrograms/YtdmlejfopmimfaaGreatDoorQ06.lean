/- Texts of this seat, joined. -/
import Derived.Test.YtdmlejfopmimfaaGreatDoorQ01
namespace Go.Proofs.YtdmlejfopmimfaaGreatDoor
open Go.RowKit

/-- The code of an instruction's fault. -/
def insC (op d a imm : Int) : Int :=
  if 1 ≤ op ∧ op ≤ 26 ∧ 0 ≤ d ∧ d ≤ 15 ∧ 0 ≤ a ∧ a ≤ 15 ∧ 0 ≤ imm ∧ imm ≤ 65535 then
    if (op ≠ 13 ∧ op ≠ 19 ∧ op ≠ 21 ∨ a = 0) ∧ (op ≠ 22 ∨ d = 0) ∧ (op < 23 ∨ d = 0 ∧ a = 0 ∧ imm = 0) ∧ (11 < op ∨ imm ≤ 15) ∧ (op ≠ 21 ∧ op ≠ 22 ∨ imm ≤ 10) then 0 else 1
  else 3
theorem insC_3 {op d a imm : Int} (h : ¬ (1 ≤ op ∧ op ≤ 26 ∧ 0 ≤ d ∧ d ≤ 15 ∧ 0 ≤ a ∧ a ≤ 15 ∧ 0 ≤ imm ∧ imm ≤ 65535)) : insC op d a imm = 3 := if_neg h
theorem insC_zero {op d a imm : Int} (h : 1 ≤ op ∧ op ≤ 26 ∧ 0 ≤ d ∧ d ≤ 15 ∧ 0 ≤ a ∧ a ≤ 15 ∧ 0 ≤ imm ∧ imm ≤ 65535) :
    insC op d a imm = 0 ↔ (op ≠ 13 ∧ op ≠ 19 ∧ op ≠ 21 ∨ a = 0) ∧ (op ≠ 22 ∨ d = 0) ∧ (op < 23 ∨ d = 0 ∧ a = 0 ∧ imm = 0) ∧ (11 < op ∨ imm ≤ 15) ∧ (op ≠ 21 ∧ op ≠ 22 ∨ imm ≤ 10) := by
  rw [insC, if_pos h]
  split
  · rename_i g; exact ⟨fun _ => g, fun _ => rfl⟩
  · rename_i g; exact ⟨fun e => by omega, fun e => absurd e g⟩

/-- The ops in classes, as the tests ask them. -/
theorem op_class {op : Int} (h : 1 ≤ op ∧ op ≤ 26) : op = 13 ∨ op = 19 ∨ op = 21 ∨ op = 22 ∨ op = 23 ∨ op = 24 ∨ op = 25 ∨ op = 26 ∨
    ((op == 13) = false ∧ (op == 19) = false ∧ (op == 21) = false ∧ (op == 22) = false ∧ (op == 23) = false ∧ (op == 24) = false ∧ (op == 25) = false ∧ (op == 26) = false ∧ Hid (op ≠ 13 ∧ op ≠ 19 ∧ op ≠ 21 ∧ op < 22 ∧ 1 ≤ op)) := by
  simp only [beq_eq_false_iff_ne, Hid]
  omega

set_option maxHeartbeats 2000000 in
theorem impl_hasForm (op d a imm : Int) (w : World) (h : 1 ≤ op ∧ op ≤ 26 ∧ 0 ≤ d ∧ d ≤ 15 ∧ 0 ≤ a ∧ a ≤ 15 ∧ 0 ≤ imm ∧ imm ≤ 65535) :
    Calls Tryz.prog 84 #[.agg #[.int .i64 op, .int .i64 d, .int .i64 a, .int .i64 imm]] w fun e w' => e = .returned (.bool (insC op d a imm == 0)) ∧ Below w.heap.size w w' := by
  have hi : Hid (_ ↔ _) := insC_zero h
  have hh : Hid _ := h
  obtain hcl := op_class (op := op) ⟨h.1, h.2.1⟩
  clear h
  generalize hc : insC op d a imm = c at hi
  clear hc
  rcases hcl with rfl | rfl | rfl | rfl | rfl | rfl | rfl | rfl | ⟨g1, g2, g3, g4, g5, g6, g7, g8, g9⟩
  all_goals
    go_enter Tryz.func84, Tryz.ntmps84
    go_wp2
  all_goals go_ret
  all_goals refine ⟨congrArg (fun b => Ending.returned (Value.bool b)) ?_, ((Below.refl _ _).alloc (Nat.le_refl _) _)⟩
  all_goals have hi := hi.out
  all_goals have hh := hh.out
  all_goals rw [Bool.eq_iff_iff]
  all_goals simp only [beq_iff_eq, Bool.false_eq_true, decide_eq_true_eq, hi]
  all_goals first | omega | (simp; done) | (simp; omega) | (have g9 := g9.out; omega) | (have g9 := g9.out; simp; omega) | skip

set_option maxHeartbeats 2000000 in
theorem impl_insFault (op d a imm : Int) (w : World) :
    Calls Tryz.prog 67 #[.agg #[.int .i64 op, .int .i64 d, .int .i64 a, .int .i64 imm]] w fun e w' => e = .returned (.int .i64 (insC op d a imm)) ∧ Below w.heap.size w w' := by
  by_cases h : 1 ≤ op ∧ op ≤ 26 ∧ 0 ≤ d ∧ d ≤ 15 ∧ 0 ≤ a ∧ a ≤ 15 ∧ 0 ≤ imm ∧ imm ≤ 65535
  · have h3 : insC op d a imm = 0 ∨ insC op d a imm = 1 := by rw [insC, if_pos h]; split <;> simp
    have hf := fun w => impl_hasForm op d a imm w h
    obtain ⟨h1, h2, h3, h4, h5, h6, h7, h8⟩ := h
    generalize insC op d a imm = c at *
    rcases h3 with rfl | rfl
    all_goals
      go_enter Tryz.func67, Tryz.ntmps67
      go_wp2_with (first | (go_at_call 84; refine (hf _).mono ?_; rintro e w1 ⟨rfl, hb⟩) | go_in)
    all_goals go_ret
    all_goals exact ⟨rfl, ((Below.refl _ _).alloc (Nat.le_refl _) _).trans (hb.mono (by simp))⟩
  · rw [insC_3 h]
    go_enter Tryz.func67, Tryz.ntmps67
    go_wp2_with (first | (go_at_call 84; exfalso; omega) | go_in)
    all_goals go_ret
    all_goals exact ⟨rfl, ((Below.refl _ _).alloc (Nat.le_refl _) _)⟩

end Go.Proofs.YtdmlejfopmimfaaGreatDoor
