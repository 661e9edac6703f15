/- WalkPages and WalkBoth, by program and model. -/
import Derived.Test.YtccbiejlljbfcaaPgv
namespace Go.Proofs.Ytccbiejlljbfcaa
open Go.RowKit
set_option linter.unusedVariables false

/-- Code and value of WalkPages. -/
def wpC (rs : List (Int × Int)) (x k : Int) : Int := if pgsV rs 24 = 0 then wkC rs x k else pgsV rs 24
def wpV (rs : List (Int × Int)) (x k : Int) : Int := if pgsV rs 24 = 0 then wkV rs x k else 0
theorem thr_one (rs : List (Int × Int)) (x k : Int) : thr [rs] x k = (wkC rs x k, wkV rs x k) := by
  rw [thr]
  split
  · next h => rw [thr, h]
  · rfl
theorem thr_two (rs qs : List (Int × Int)) (x k : Int) : thr [rs, qs] x k = if wkC rs x k = 0 then (wkC qs (wkV rs x k) k, wkV qs (wkV rs x k) k) else (wkC rs x k, wkV rs x k) := by
  rw [thr, thr_one]

end Go.Proofs.Ytccbiejlljbfcaa
