/- Texts of this seat, joined. -/
import Derived.Test.YtkfcofjmjbkekaaGreatDoorQ31
namespace Go.Proofs.YtkfcofjmjbkekaaGreatDoor
open Go.RowKit
set_option linter.unusedVariables false

/-- Where the lists of a host lie. -/
structure Oh (w : World) (a0 a1 a2 a3 a4 a5 : Option Addr) (n0 n1 n2 n3 n4 n5 g0 g1 g2 g3 g4 g5 : Nat) (R : List (Nat × Nat)) (S : Nat → Hsx) : Prop where
  pol : Ph w a0 a1 a2 a3 n0 n1 n2 n3 g0 g1 g2 g3 R
  at4 : 0 < n4 → a4 = some ⟨g4, 0, none⟩
  at5 : 0 < n5 → a5 = some ⟨g5, 0, none⟩
  mach : ∀ j, j < n5 → Mzm w g5 j (S j)
  s4 : n4 ≤ 1048576
  s5 : n5 ≤ 1048576
theorem Oh.keep {w w' : World} {a0 a1 a2 a3 a4 a5 : Option Addr} {n0 n1 n2 n3 n4 n5 g0 g1 g2 g3 g4 g5 : Nat} {R : List (Nat × Nat)} {S : Nat → Hsx} (h : Oh w a0 a1 a2 a3 a4 a5 n0 n1 n2 n3 n4 n5 g0 g1 g2 g3 g4 g5 R S) (b : Below w.heap.size w w') : Oh w' a0 a1 a2 a3 a4 a5 n0 n1 n2 n3 n4 n5 g0 g1 g2 g3 g4 g5 R S :=
  { h with pol := h.pol.keep b, mach := fun j hj => (h.mach j hj).keep b }
end Go.Proofs.YtkfcofjmjbkekaaGreatDoor
