/- Links to a guest: the two functions themselves. -/
import Derived.Test.YtnhebeehpkecfaaGreatDoorLnk
import Derived.Test.YtnhebeehpkecfaaGreatDoorPfv
namespace Go.Proofs.YtnhebeehpkecfaaGreatDoor
open Go.RowKit
set_option linter.unusedVariables false

end Go.Proofs.YtnhebeehpkecfaaGreatDoor
