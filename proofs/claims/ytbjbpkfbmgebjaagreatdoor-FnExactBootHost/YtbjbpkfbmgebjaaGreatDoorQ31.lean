/- Texts of this seat, joined. -/
import Derived.Test.YtbjbpkfbmgebjaaGreatDoorQ15
import Derived.Test.YtbjbpkfbmgebjaaGreatDoorQ28
namespace Go.Proofs.YtbjbpkfbmgebjaaGreatDoor
open Go.RowKit
set_option linter.unusedVariables false

/-- A variable of two cells. -/
def C2 (w : World) (s : Nat) (a b : Value) : Prop := w.cell? ⟨s, 0, none⟩ = some a ∧ w.cell? ⟨s, 1, none⟩ = some b
theorem C2.keep {w w' : World} {s : Nat} {a b : Value} (h : C2 w s a b) (k : Below w.heap.size w w') : C2 w' s a b := ⟨cell_keep k h.1, cell_keep k h.2⟩
theorem C2.mk {w w' : World} {s lo hi : Nat} {a b : Value} (h : C2 w s a b) (m : Mk lo hi w w') (hp : s < lo ∨ hi ≤ s) : C2 w' s a b := ⟨m.cell h.1 hp, m.cell h.2 hp⟩
theorem C2.grown {w w' : World} {s : Nat} {a b : Value} {row : Option Nat} (h : C2 w s a b) (g : w.grownBy w' row) (hn : some s ≠ row) : C2 w' s a b := ⟨cell_grown g h.1 hn, cell_grown g h.2 hn⟩
theorem C2.new (w : World) (a b : Value) (t : TypeId) : C2 (w.alloc (.cells #[a, b] t)) w.heap.size a b := ⟨cell_new rfl, cell_new rfl⟩
theorem C2.lt {w : World} {s : Nat} {a b : Value} (h : C2 w s a b) : s < w.heap.size := block_of_cell h.1
/-- A variable of four cells. -/
def C4 (w : World) (s : Nat) (a b c d : Value) : Prop := w.cell? ⟨s, 0, none⟩ = some a ∧ w.cell? ⟨s, 1, none⟩ = some b ∧ w.cell? ⟨s, 2, none⟩ = some c ∧ w.cell? ⟨s, 3, none⟩ = some d
theorem C4.keep {w w' : World} {s : Nat} {a b c d : Value} (h : C4 w s a b c d) (k : Below w.heap.size w w') : C4 w' s a b c d := ⟨cell_keep k h.1, cell_keep k h.2.1, cell_keep k h.2.2.1, cell_keep k h.2.2.2⟩
theorem C4.mk {w w' : World} {s lo hi : Nat} {a b c d : Value} (h : C4 w s a b c d) (m : Mk lo hi w w') (hp : s < lo ∨ hi ≤ s) : C4 w' s a b c d := ⟨m.cell h.1 hp, m.cell h.2.1 hp, m.cell h.2.2.1 hp, m.cell h.2.2.2 hp⟩
theorem C4.grown {w w' : World} {s : Nat} {a b c d : Value} {row : Option Nat} (h : C4 w s a b c d) (g : w.grownBy w' row) (hn : some s ≠ row) : C4 w' s a b c d := ⟨cell_grown g h.1 hn, cell_grown g h.2.1 hn, cell_grown g h.2.2.1 hn, cell_grown g h.2.2.2 hn⟩
theorem C4.new (w : World) (a b c d : Value) (t : TypeId) : C4 (w.alloc (.cells #[a, b, c, d] t)) w.heap.size a b c d := ⟨cell_new rfl, cell_new rfl, cell_new rfl, cell_new rfl⟩
theorem C4.lt {w : World} {s : Nat} {a b c d : Value} (h : C4 w s a b c d) : s < w.heap.size := block_of_cell h.1
end Go.Proofs.YtbjbpkfbmgebjaaGreatDoor
