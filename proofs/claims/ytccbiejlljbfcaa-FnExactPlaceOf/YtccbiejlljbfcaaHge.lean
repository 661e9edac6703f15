/- Numbers of a machine that are got, of both. -/
import Derived.Test.YtccbiejlljbfcaaHpe
import Derived.Test.YtccbiejlljbfcaaHfi
import Derived.Test.YtccbiejlljbfcaaHfs
namespace Go.Proofs.Ytccbiejlljbfcaa
open Go.RowKit
set_option linter.unusedVariables false

theorem mca_at (H : Ht) (i o : Value) (n : Nat) (hn : n < 11) : (mca H i o)[17 + n]? = some (.int .i64 (gt H.csr n)) := by
  have e : n = 0 ∨ n = 1 ∨ n = 2 ∨ n = 3 ∨ n = 4 ∨ n = 5 ∨ n = 6 ∨ n = 7 ∨ n = 8 ∨ n = 9 ∨ n = 10 := by omega
  rcases e with rfl | rfl | rfl | rfl | rfl | rfl | rfl | rfl | rfl | rfl | rfl <;> rfl
theorem getV_at (H : Ht) (n : Nat) (h6 : n ≠ 6) (h8 : n ≠ 8) : getV H (n : Int) = gt H.csr n := by
  unfold getV
  rw [if_neg (by omega), if_neg (by omega)]
  rfl

end Go.Proofs.Ytccbiejlljbfcaa
