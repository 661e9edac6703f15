/- Slices of bells: taken over, counted and compared. -/
import Derived.Test.YtgefcoojnahokaaDoorPairs
import Derived.Deep.RegionWith
import Derived.Deep.Slices
namespace Go.Proofs.YtgefcoojnahokaaDoor
open Go.RowKit
set_option linter.unusedVariables false

theorem info_bell : (Tryd.prog.info? 68).map (fun i => (i.zero, i.size, i.bytes)) = some (some (.agg #[.int .i64 0, .int .i64 0]), 2, 16) := by kernel_rfl

theorem made_bells (m : Nat) : (madeCells #[Value.int .i64 0, Value.int .i64 0] m).toList = List.replicate m (Value.int .i64 0) := by
  apply List.ext_getElem?
  intro j
  by_cases hj : j < m
  · have h : j % 2 = 0 ∨ j % 2 = 1 := by omega
    rcases h with h | h <;> simp [madeCells, hj, h]
  · simp [madeCells, hj]

end Go.Proofs.YtgefcoojnahokaaDoor
