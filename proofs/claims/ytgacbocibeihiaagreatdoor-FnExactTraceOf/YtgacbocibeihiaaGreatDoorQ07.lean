/- Texts of this seat, joined. -/
import Derived.Test.YtgacbocibeihiaaGreatDoorQ06
namespace Go.Proofs.YtgacbocibeihiaaGreatDoor
open Go.RowKit
set_option linter.unusedVariables false

theorem grown_pre {w w' : World} {o : Obj} {row : Option Nat} (h : (w.alloc o).grownBy w' row) : w.grownBy w' row :=
  ⟨h.os, h.tape, h.output, by have := h.size; simp at this; omega, fun k hk hn => by rw [h.block k (by simp; omega) hn, Below.heap_alloc _ _ _ hk]⟩

theorem own_ne {w w' : World} {base base' : Nat} {v u : Value} {zs ys : List Int} (h : Nums w base v zs) (k : Nums w' base' u ys) (hb : w.heap.size ≤ base') : v.ownBlock = none ∨ v.ownBlock ≠ u.ownBlock := by
  cases e : v.ownBlock with
  | none => exact .inl rfl
  | some x =>
    refine .inr fun e2 => ?_
    have h1 := (h.lt x e).2
    have h2 := (k.lt x e2.symm).1
    omega
end Go.Proofs.YtgacbocibeihiaaGreatDoor
