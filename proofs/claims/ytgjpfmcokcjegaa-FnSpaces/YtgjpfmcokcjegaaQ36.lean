/- Texts of this seat, joined. -/
import Derived.Deep.Cut
import Derived.Test.YtgjpfmcokcjegaaQ34
namespace Go.Proofs.Ytgjpfmcokcjegaa
open Go.RowKit
set_option linter.unusedVariables false
def newR (zs : List Int) : Int × Ht := if 40 < zs.length then (2, voidH) else (if zs.all isW then (0, newV zs) else (3, voidH))
end Go.Proofs.Ytgjpfmcokcjegaa
