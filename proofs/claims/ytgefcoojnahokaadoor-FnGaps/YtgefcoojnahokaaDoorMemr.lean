/- Answers that hold a memory: compared, marked and held. -/
import Derived.Test.YtgefcoojnahokaaDoorNumb
namespace Go.Proofs.YtgefcoojnahokaaDoor
open Go.RowKit
set_option linter.unusedVariables false

theorem grown_pre {w w' : World} {o : Obj} {row : Option Nat} (h : (w.alloc o).grownBy w' row) : w.grownBy w' row :=
  ⟨h.os, h.tape, h.output, by have := h.size; simp at this; omega, fun k hk hn => by rw [h.block k (by simp; omega) hn, Below.heap_alloc _ _ _ hk]⟩

theorem cell_grown {w w' : World} {row : Option Nat} {p : Addr} {v : Value} (g : w.grownBy w' row) (h : w.cell? p = some v) (hne : some p.block ≠ row) : w'.cell? p = some v := by
  rw [← h]
  exact World.cell?_of_block (w := w) (g.block p.block (block_of_cell h) hne)
theorem below_of_grown {a w w' : World} {v : Value} {base : Nat} {zs : List Int} (h : Below a.heap.size a w) (g : w.grownBy w' v.ownBlock) (n : Nums w base v zs) (hb : a.heap.size ≤ base) : Below a.heap.size a w' :=
  h.grown g h.size (fun k hk => Nat.le_trans hb (n.lt k hk).1)
theorem own_ne {w w' : World} {base base' : Nat} {v u : Value} {zs ys : List Int} (h : Nums w base v zs) (k : Nums w' base' u ys) (hb : w.heap.size ≤ base') : v.ownBlock = none ∨ v.ownBlock ≠ u.ownBlock := by
  cases e : v.ownBlock with
  | none => exact .inl rfl
  | some x =>
    refine .inr fun e2 => ?_
    have h1 := (h.lt x e).2
    have h2 := (k.lt x e2.symm).1
    omega
theorem own_not {w : World} {base : Nat} {v : Value} {zs : List Int} (h : Nums w base v zs) (x : Nat) (hx : x < base ∨ w.heap.size ≤ x) : some x ≠ v.ownBlock := by
  intro e
  have := h.lt x e.symm
  omega
end Go.Proofs.YtgefcoojnahokaaDoor
