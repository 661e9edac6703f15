/- Texts of this seat, joined. -/
import Derived.Test.YtdhdfopkcpkbeaaGreatDoorQ21
import Derived.Test.YtdhdfopkcpkbeaaGreatDoorQ33
namespace Go.Proofs.YtdhdfopkcpkbeaaGreatDoor
open Go.RowKit
set_option linter.unusedVariables false

/-- The answer's place, still 0 and 0. -/
def Rs (w : World) (s : Nat) : Prop := w.cell? ⟨s + 1, 0, none⟩ = some (.int .i64 0) ∧ w.cell? ⟨s + 1, 1, none⟩ = some (.int .i64 0) ∧ w.frozen? ⟨s + 1, 0, none⟩ = false ∧ w.frozen? ⟨s + 1, 1, none⟩ = false ∧ s + 1 < w.heap.size
theorem Rs.keep {w w' : World} {s : Nat} (h : Rs w s) (b : Below w.heap.size w w') : Rs w' s :=
  ⟨cell_keep b h.1, cell_keep b h.2.1, by rw [b.frozen (p := ⟨s + 1, 0, none⟩) h.2.2.2.2]; exact h.2.2.1, by rw [b.frozen (p := ⟨s + 1, 1, none⟩) h.2.2.2.2]; exact h.2.2.2.1, Nat.lt_of_lt_of_le h.2.2.2.2 b.size⟩
end Go.Proofs.YtdhdfopkcpkbeaaGreatDoor
