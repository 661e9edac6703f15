/- Texts of this seat, joined. -/
import Derived.Test.YtbegbphbcjoglaaGreatDoorQ01
import Derived.Test.YtbegbphbcjoglaaGreatDoorQ03
namespace Go.Proofs.YtbegbphbcjoglaaGreatDoor
open Go.RowKit
set_option linter.unusedVariables false

theorem cell_grown {w w' : World} {row : Option Nat} {p : Addr} {v : Value} (g : w.grownBy w' row) (h : w.cell? p = some v) (hne : some p.block ≠ row) : w'.cell? p = some v := by
  rw [← h]
  exact World.cell?_of_block (w := w) (g.block p.block (block_of_cell h) hne)
theorem below_of_grown {a w w' : World} {v : Value} {base : Nat} {zs : List Int} (h : Below a.heap.size a w) (g : w.grownBy w' v.ownBlock) (n : Nums w base v zs) (hb : a.heap.size ≤ base) : Below a.heap.size a w' :=
  h.grown g h.size (fun k hk => Nat.le_trans hb (n.lt k hk).1)
theorem own_ne {w w' : World} {base base' : Nat} {v u : Value} {zs ys : List Int} (h : Nums w base v zs) (k : Nums w' base' u ys) (hb : w.heap.size ≤ base') : v.ownBlock = none ∨ v.ownBlock ≠ u.ownBlock := by
  cases e : v.ownBlock with
  | none => exact .inl rfl
  | some x =>
    refine .inr fun e2 => ?_
    have h1 := (h.lt x e).2
    have h2 := (k.lt x e2.symm).1
    omega
theorem own_not {w : World} {base : Nat} {v : Value} {zs : List Int} (h : Nums w base v zs) (x : Nat) (hx : x < base ∨ w.heap.size ≤ x) : some x ≠ v.ownBlock := by
  intro e
  have := h.lt x e.symm
  omega
end Go.Proofs.YtbegbphbcjoglaaGreatDoor
namespace Go.Proofs.YtbegbphbcjoglaaGreatDoor
open Go.RowKit
set_option linter.unusedVariables false

def isW (z : Int) : Bool := decide (0 ≤ z) && decide (z ≤ 4294967295)
theorem isW_wd (z : Int) : (wd z == z) = isW z := by
  have h := wd_in z
  rw [Bool.eq_iff_iff]
  simp only [isW, beq_iff_eq, Bool.and_eq_true, decide_eq_true_eq]
  constructor
  · intro e
    rw [e] at h
    omega
  · intro e
    unfold wd
    omega
theorem all_take (zs : List Int) (j : Nat) (h : j < zs.length) : (zs.take (j + 1)).all isW = ((zs.take j).all isW && isW (zs.getD j 0)) := by
  rw [List.take_succ_eq_append_getElem h, List.all_append, List.getD, List.getElem?_eq_getElem h]
  simp
theorem all_not (zs : List Int) (j : Nat) (h : j < zs.length) (hz : isW (zs.getD j 0) = false) : zs.all isW = false := by
  rw [List.getD, List.getElem?_eq_getElem h] at hz
  rw [List.all_eq_false]
  exact ⟨_, List.getElem_mem h, by simpa using hz⟩

theorem impl_isWord (z : Int) (w : World) : Calls Tryz.prog 85 #[.int .i64 z] w fun e w' => e = .returned (.bool (isW z)) ∧ w' = w := by
  rw [← isW_wd]
  go_enter Tryz.func85, Tryz.ntmps85
  go_wp2_with (go_at_call 60; refine (impl_wrap _ _).mono ?_; rintro e x ⟨rfl, rfl⟩)
  go_ret
  exact ⟨rfl, rfl⟩

theorem spec_in (z a b : Int) (w : World) : Calls Tryz.prog 80 #[.int .i64 z, .int .i64 a, .int .i64 b] w fun e w' => e = .returned (.bool (decide (a ≤ z) && decide (z ≤ b))) ∧ w' = w := by
  by_cases h : a ≤ z
  · go_enter Tryz.func80, Tryz.ntmps80
    go_wp2
    go_ret
    exact ⟨by simp [h], rfl⟩
  · go_enter Tryz.func80, Tryz.ntmps80
    go_wp2
    go_ret
    exact ⟨by simp; omega, rfl⟩

end Go.Proofs.YtbegbphbcjoglaaGreatDoor
