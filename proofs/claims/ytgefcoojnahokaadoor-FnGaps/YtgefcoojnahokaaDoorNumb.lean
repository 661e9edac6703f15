/- Slices of int64: two that are the same are told so; what is marked is held. -/
import Derived.Test.YtgefcoojnahokaaDoorNums
namespace Go.Proofs.YtgefcoojnahokaaDoor
open Go.RowKit
set_option linter.unusedVariables false

def marks (k : Int) (n : Nat) : List Int := (List.range n).map fun (i : Nat) => k + (i : Int)
theorem marks_length (k : Int) (n : Nat) : (marks k n).length = n := by simp [marks]
theorem marks_getD (k : Int) (n i : Nat) (h : i < n) : (marks k n).getD i 0 = k + (i : Int) := by
  simp [marks, List.getD, h]
theorem marks_set (k : Int) (zs : List Int) (j : Nat) (h : j < zs.length) : (marks k j ++ zs.drop j).set j (k + (j : Int)) = marks k (j + 1) ++ zs.drop (j + 1) := by
  rw [List.drop_eq_getElem_cons h, List.set_append_right _ _ (by simp [marks]), marks_length, Nat.sub_self, List.set_cons_zero]
  simp [marks, List.range_succ]

end Go.Proofs.YtgefcoojnahokaaDoor
