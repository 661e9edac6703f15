/- Owners, steps and rounds: the model and the program. -/
import Derived.Test.YtgefcoojnahokaaDoorPig
import Derived.Test.YtgefcoojnahokaaDoorPlt
namespace Go.Proofs.YtgefcoojnahokaaDoor
open Go.RowKit
set_option linter.unusedVariables false

/-- The answer's place, still 0 and 0. -/
def Rs (w : World) (s : Nat) : Prop := w.cell? ⟨s + 1, 0, none⟩ = some (.int .i64 0) ∧ w.cell? ⟨s + 1, 1, none⟩ = some (.int .i64 0) ∧ w.frozen? ⟨s + 1, 0, none⟩ = false ∧ w.frozen? ⟨s + 1, 1, none⟩ = false ∧ s + 1 < w.heap.size
theorem Rs.keep {w w' : World} {s : Nat} (h : Rs w s) (b : Below w.heap.size w w') : Rs w' s :=
  ⟨cell_keep b h.1, cell_keep b h.2.1, by rw [b.frozen (p := ⟨s + 1, 0, none⟩) h.2.2.2.2]; exact h.2.2.1, by rw [b.frozen (p := ⟨s + 1, 1, none⟩) h.2.2.2.2]; exact h.2.2.2.1, Nat.lt_of_lt_of_le h.2.2.2.2 b.size⟩
def oR (P : Plc) (pg : Int) : Int × Int := if pfV P = 0 then (if ownerFrom 0 P.own pg = -1 then (4, 0) else (0, ownerFrom 0 P.own pg)) else (pfV P, 0)
theorem oR_bad (P : Plc) (pg : Int) (h : ¬ pfV P = 0) : oR P pg = (pfV P, 0) := by rw [oR, if_neg h]
theorem oR_none (P : Plc) (pg : Int) (h : pfV P = 0) (k : ownerFrom 0 P.own pg = -1) : oR P pg = (4, 0) := by rw [oR, if_pos h, if_pos k]
theorem oR_is (P : Plc) (pg : Int) (h : pfV P = 0) (k : ¬ ownerFrom 0 P.own pg = -1) : oR P pg = (0, ownerFrom 0 P.own pg) := by rw [oR, if_pos h, if_neg k]

end Go.Proofs.YtgefcoojnahokaaDoor
