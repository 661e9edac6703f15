/- Chapter 2's instructions: what the faults, the words and the offsets answer, one contract a function, of the program and of the model. -/
import Derived.Test.YtdjhhhebechgdaaBase
namespace Go.Proofs.Ytdjhhhebechgdaa
open Go.RowKit

/-- The code of an instruction's fault. -/
def insC (op d a imm : Int) : Int :=
  if 1 ≤ op ∧ op ≤ 26 ∧ 0 ≤ d ∧ d ≤ 15 ∧ 0 ≤ a ∧ a ≤ 15 ∧ 0 ≤ imm ∧ imm ≤ 65535 then
    if (op ≠ 13 ∧ op ≠ 19 ∧ op ≠ 21 ∨ a = 0) ∧ (op ≠ 22 ∨ d = 0) ∧ (op < 23 ∨ d = 0 ∧ a = 0 ∧ imm = 0) ∧ (11 < op ∨ imm ≤ 15) ∧ (op ≠ 21 ∧ op ≠ 22 ∨ imm ≤ 10) then 0 else 1
  else 3
theorem insC_3 {op d a imm : Int} (h : ¬ (1 ≤ op ∧ op ≤ 26 ∧ 0 ≤ d ∧ d ≤ 15 ∧ 0 ≤ a ∧ a ≤ 15 ∧ 0 ≤ imm ∧ imm ≤ 65535)) : insC op d a imm = 3 := if_neg h
theorem insC_1 {op d a imm : Int} (h : 1 ≤ op ∧ op ≤ 26 ∧ 0 ≤ d ∧ d ≤ 15 ∧ 0 ≤ a ∧ a ≤ 15 ∧ 0 ≤ imm ∧ imm ≤ 65535)
    (g : ¬ ((op ≠ 13 ∧ op ≠ 19 ∧ op ≠ 21 ∨ a = 0) ∧ (op ≠ 22 ∨ d = 0) ∧ (op < 23 ∨ d = 0 ∧ a = 0 ∧ imm = 0) ∧ (11 < op ∨ imm ≤ 15) ∧ (op ≠ 21 ∧ op ≠ 22 ∨ imm ≤ 10))) : insC op d a imm = 1 := by
  rw [insC, if_pos h, if_neg g]
theorem insC_0 {op d a imm : Int} (h : 1 ≤ op ∧ op ≤ 26 ∧ 0 ≤ d ∧ d ≤ 15 ∧ 0 ≤ a ∧ a ≤ 15 ∧ 0 ≤ imm ∧ imm ≤ 65535)
    (g : (op ≠ 13 ∧ op ≠ 19 ∧ op ≠ 21 ∨ a = 0) ∧ (op ≠ 22 ∨ d = 0) ∧ (op < 23 ∨ d = 0 ∧ a = 0 ∧ imm = 0) ∧ (11 < op ∨ imm ≤ 15) ∧ (op ≠ 21 ∧ op ≠ 22 ∨ imm ≤ 10)) : insC op d a imm = 0 := by
  rw [insC, if_pos h, if_pos g]

theorem insC_zero {op d a imm : Int} (h : 1 ≤ op ∧ op ≤ 26 ∧ 0 ≤ d ∧ d ≤ 15 ∧ 0 ≤ a ∧ a ≤ 15 ∧ 0 ≤ imm ∧ imm ≤ 65535) :
    insC op d a imm = 0 ↔ (op ≠ 13 ∧ op ≠ 19 ∧ op ≠ 21 ∨ a = 0) ∧ (op ≠ 22 ∨ d = 0) ∧ (op < 23 ∨ d = 0 ∧ a = 0 ∧ imm = 0) ∧ (11 < op ∨ imm ≤ 15) ∧ (op ≠ 21 ∧ op ≠ 22 ∨ imm ≤ 10) := by
  rw [insC, if_pos h]
  split
  · rename_i g; exact ⟨fun _ => g, fun _ => rfl⟩
  · rename_i g; exact ⟨fun e => by omega, fun e => absurd e g⟩

/-- The ops in classes, as the tests ask them. -/
theorem op_class {op : Int} (h : 1 ≤ op ∧ op ≤ 26) : op = 13 ∨ op = 19 ∨ op = 21 ∨ op = 22 ∨ op = 23 ∨ op = 24 ∨ op = 25 ∨ op = 26 ∨
    ((op == 13) = false ∧ (op == 19) = false ∧ (op == 21) = false ∧ (op == 22) = false ∧ (op == 23) = false ∧ (op == 24) = false ∧ (op == 25) = false ∧ (op == 26) = false ∧ Hid (op ≠ 13 ∧ op ≠ 19 ∧ op ≠ 21 ∧ op < 22 ∧ 1 ≤ op)) := by
  simp only [beq_eq_false_iff_ne, Hid]
  omega

end Go.Proofs.Ytdjhhhebechgdaa
