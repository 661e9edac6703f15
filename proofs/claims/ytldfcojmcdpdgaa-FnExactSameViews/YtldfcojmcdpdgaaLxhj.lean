/- A part of the listing. -/
import Derived.Test.YtldfcojmcdpdgaaLxh0
namespace Go.Proofs.Ytldfcojmcdpdgaa
open Go.RowKit
set_option linter.unusedVariables false

theorem lxLxh9 : lexPart .any (regOps 1 (Try.f20.body.getD .skip)).toArray 7 63 (setAll 63 0 (Array.replicate 98 false)) = true := by kernel_rfl
end Go.Proofs.Ytldfcojmcdpdgaa
