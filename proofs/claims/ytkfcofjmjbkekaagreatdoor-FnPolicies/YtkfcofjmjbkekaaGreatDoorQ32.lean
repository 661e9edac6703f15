/- Texts of this seat, joined. -/
import Derived.Test.YtkfcofjmjbkekaaGreatDoorQ10
import Derived.Test.YtkfcofjmjbkekaaGreatDoorQ29
namespace Go.Proofs.YtkfcofjmjbkekaaGreatDoor
open Go.RowKit
set_option linter.unusedVariables false

theorem own_types {w : World} {base base' e e' sz sz' n m : Nat} {v u : Value} {xs ys : List Value} (h : w.ownsRow base e sz v n xs) (k : w.ownsRow base' e' sz' u m ys) (hne : e ≠ e') : v.ownBlock = none ∨ v.ownBlock ≠ u.ownBlock := by
  obtain ⟨h1, ⟨rfl, h3⟩ | ⟨g, cap, cur, rfl, hg, hr, rest⟩⟩ := h
  · exact .inl rfl
  · obtain ⟨k1, ⟨rfl, k3⟩ | ⟨g', cap', cur', rfl, kg, kr, rest'⟩⟩ := k
    · exact .inr (fun e => by cases e)
    · refine .inr fun e => ?_
      cases e
      rw [hr] at kr
      cases kr
      exact hne rfl

def ext (n b : Nat) (B : Nat → Nat) : Nat → Nat := fun i => if i = n then b else B i
end Go.Proofs.YtkfcofjmjbkekaaGreatDoor
