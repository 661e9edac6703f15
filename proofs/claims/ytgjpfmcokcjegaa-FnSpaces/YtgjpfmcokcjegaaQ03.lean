/- Texts of this seat, joined. -/
import Derived.Test.YtgjpfmcokcjegaaQ01
import Derived.Test.YtgjpfmcokcjegaaQ02
namespace Go.Proofs.Ytgjpfmcokcjegaa
open Go.RowKit
theorem field_value (x y : Value) (w : World) : (Instr.field 31 (.agg #[x, y]) 1).run Try.prog w = .ok y w := by kernel_rfl
theorem impl_wrap (n : Int) (w : World) : Calls Try.prog 76 #[.int .i64 n] w fun e w' => e = .returned (.int .i64 (wd n)) ∧ w' = w := by
  go_enter Try.func76, Try.ntmps76
  go_wp2
  go_ret
  exact ⟨rfl, rfl⟩
end Go.Proofs.Ytgjpfmcokcjegaa
