/- A new memory, by program and model. -/
import Derived.Test.YtijajemalokgjaaJoin
import Derived.Test.YtijajemalokgjaaMemr
namespace Go.Proofs.Ytijajemalokgjaa
open Go.RowKit
set_option linter.unusedVariables false

def newC (p : Int) : Int := if 1 ≤ p ∧ p ≤ 24 then 0 else 3
def newZ (p : Int) : List Int := if 1 ≤ p ∧ p ≤ 24 then List.replicate (p.toNat * 8) 0 else []

theorem newZ_len (p : Int) : (newZ p).length ≤ 192 := by
  unfold newZ
  split
  · simp; omega
  · simp

theorem made_replicate (z : Value) (k m : Nat) (hk : 0 < k) : (madeCells (Array.replicate k z) m).toList = List.replicate m z := by
  apply List.ext_getElem?
  intro j
  by_cases hj : j < m
  · have : j % k < k := Nat.mod_lt _ hk
    simp [madeCells, hj, this]
  · simp [madeCells, hj]

theorem info_wpage : (Try.prog.info? 76).map (fun i => (i.zero, i.size, i.bytes)) = some (some (.agg (Array.replicate 8 (.int .i64 0))), 8, 64) := by kernel_rfl

end Go.Proofs.Ytijajemalokgjaa
