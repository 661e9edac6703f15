/- The model's text of an instruction, fields that are told: case fff. -/
import Derived.Test.YtedjnokeknmbaaaDoorText
namespace Go.Proofs.YtedjnokeknmbaaaDoor
open Go.RowKit
set_option linter.unusedVariables false

end Go.Proofs.YtedjnokeknmbaaaDoor
