/- Lists of pages: when one has a fault, by the model. -/
import Derived.Test.YteaccakodaidpaaPgf
namespace Go.Proofs.Yteaccakodaidpaa
open Go.RowKit
set_option linter.unusedVariables false

end Go.Proofs.Yteaccakodaidpaa
