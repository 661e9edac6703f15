/- A program's machine: what is pending. -/
import Derived.Test.YtccbiejlljbfcaaHha
import Derived.BigQuiet
import Derived.Deep.QuietTactic
namespace Go.Proofs.Ytccbiejlljbfcaa
open Go.RowKit
set_option linter.unusedVariables false

theorem pend_eq (H : Ht) (a b c : Int) (ha : (if gt H.csr 9 ≠ 0 ∧ gt H.csr 9 ≤ H.done then (1 : Int) else 0) = a) (hb : (if H.rung then (2 : Int) else 0) = b) (hc : (if 0 < H.inn.length then (4 : Int) else 0) = c) : a + b + c = pendV H := by
  subst ha hb hc
  rfl
end Go.Proofs.Ytccbiejlljbfcaa
