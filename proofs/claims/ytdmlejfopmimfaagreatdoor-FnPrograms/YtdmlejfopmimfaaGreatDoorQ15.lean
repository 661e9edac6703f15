/- Texts of this seat, joined. -/
import Derived.Test.YtdmlejfopmimfaaGreatDoorQ04
namespace Go.Proofs.YtdmlejfopmimfaaGreatDoor
open Go.RowKit
set_option linter.unusedVariables false

theorem cell_grown {w w' : World} {row : Option Nat} {p : Addr} {v : Value} (g : w.grownBy w' row) (h : w.cell? p = some v) (hne : some p.block ≠ row) : w'.cell? p = some v := by
  rw [← h]
  exact World.cell?_of_block (w := w) (g.block p.block (block_of_cell h) hne)
end Go.Proofs.YtdmlejfopmimfaaGreatDoor
namespace Go.Proofs.YtdmlejfopmimfaaGreatDoor
open Go.RowKit
set_option linter.unusedVariables false

def isW (z : Int) : Bool := decide (0 ≤ z) && decide (z ≤ 4294967295)
theorem isW_wd (z : Int) : (wd z == z) = isW z := by
  have h := wd_in z
  rw [Bool.eq_iff_iff]
  simp only [isW, beq_iff_eq, Bool.and_eq_true, decide_eq_true_eq]
  constructor
  · intro e
    rw [e] at h
    omega
  · intro e
    unfold wd
    omega
theorem all_take (zs : List Int) (j : Nat) (h : j < zs.length) : (zs.take (j + 1)).all isW = ((zs.take j).all isW && isW (zs.getD j 0)) := by
  rw [List.take_succ_eq_append_getElem h, List.all_append, List.getD, List.getElem?_eq_getElem h]
  simp
theorem all_not (zs : List Int) (j : Nat) (h : j < zs.length) (hz : isW (zs.getD j 0) = false) : zs.all isW = false := by
  rw [List.getD, List.getElem?_eq_getElem h] at hz
  rw [List.all_eq_false]
  exact ⟨_, List.getElem_mem h, by simpa using hz⟩

theorem impl_isWord (z : Int) (w : World) : Calls Tryz.prog 37 #[.int .i64 z] w fun e w' => e = .returned (.bool (isW z)) ∧ w' = w := by
  rw [← isW_wd]
  go_enter Tryz.func37, Tryz.ntmps37
  go_wp2_with (go_at_call 64; refine (impl_wrap _ _).mono ?_; rintro e x ⟨rfl, rfl⟩)
  go_ret
  exact ⟨rfl, rfl⟩

theorem spec_in (z a b : Int) (w : World) : Calls Tryz.prog 61 #[.int .i64 z, .int .i64 a, .int .i64 b] w fun e w' => e = .returned (.bool (decide (a ≤ z) && decide (z ≤ b))) ∧ w' = w := by
  by_cases h : a ≤ z
  · go_enter Tryz.func61, Tryz.ntmps61
    go_wp2
    go_ret
    exact ⟨by simp [h], rfl⟩
  · go_enter Tryz.func61, Tryz.ntmps61
    go_wp2
    go_ret
    exact ⟨by simp; omega, rfl⟩

end Go.Proofs.YtdmlejfopmimfaaGreatDoor
