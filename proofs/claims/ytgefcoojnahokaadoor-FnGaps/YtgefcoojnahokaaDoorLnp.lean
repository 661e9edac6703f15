/- Slices of lanes: taken over, counted and compared. -/
import Derived.Test.YtgefcoojnahokaaDoorLns
import Derived.Deep.RegionWith
import Derived.Deep.Slices
namespace Go.Proofs.YtgefcoojnahokaaDoor
open Go.RowKit
set_option linter.unusedVariables false

theorem info_lane : (Tryd.prog.info? 66).map (fun i => (i.zero, i.size, i.bytes)) = some (some lz.val, 5, 40) := by kernel_rfl

theorem made_lanes (m : Nat) : (madeCells #[Value.int .i64 0, Value.int .i64 0, Value.int .i64 0, Value.int .i64 0, Value.int .i64 0] m).toList = List.replicate m (Value.int .i64 0) := by
  apply List.ext_getElem?
  intro j
  by_cases hj : j < m
  · have h : j % 5 = 0 ∨ j % 5 = 1 ∨ j % 5 = 2 ∨ j % 5 = 3 ∨ j % 5 = 4 := by omega
    rcases h with h | h | h | h | h <;> simp [madeCells, hj, h]
  · simp [madeCells, hj]

end Go.Proofs.YtgefcoojnahokaaDoor
