/- SetCsr, of both. -/
import Derived.Test.YtaajaikpkcgalaaDoorHob
import Derived.Test.YtaajaikpkcgalaaDoorHst
namespace Go.Proofs.YtaajaikpkcgalaaDoor
open Go.RowKit
set_option linter.unusedVariables false

theorem st_three {H : Ht} (K : Hok H) : gt H.csr 0 ≤ 3 := by
  have := K.st
  simp only [standC, Bool.and_eq_true, decide_eq_true_eq] at this
  exact this.1.1.1.1

end Go.Proofs.YtaajaikpkcgalaaDoor
