/- Slices of hits: taken over, counted and compared. -/
import Derived.Test.YtaajaikpkcgalaaQuads
import Derived.Deep.RegionWith
import Derived.Deep.Slices
namespace Go.Proofs.Ytaajaikpkcgalaa
open Go.RowKit
set_option linter.unusedVariables false

theorem info_hit : (Try.prog.info? 65).map (fun i => (i.zero, i.size, i.bytes)) = some (some qz.val, 4, 32) := by kernel_rfl

theorem made_hits (m : Nat) : (madeCells #[Value.int .i64 0, Value.int .i64 0, Value.int .i64 0, Value.int .i64 0] m).toList = List.replicate m (Value.int .i64 0) := by
  apply List.ext_getElem?
  intro j
  by_cases hj : j < m
  · have h : j % 4 = 0 ∨ j % 4 = 1 ∨ j % 4 = 2 ∨ j % 4 = 3 := by omega
    rcases h with h | h | h | h <;> simp [madeCells, hj, h]
  · simp [madeCells, hj]

end Go.Proofs.Ytaajaikpkcgalaa
