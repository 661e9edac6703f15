import Derived.Test.YtignbeibcakgpaaGreatDoorQ23
namespace Go.Proofs.YtignbeibcakgpaaGreatDoor
set_option maxRecDepth 20000
set_option maxHeartbeats 16000000
open Go.RowKit
set_option linter.unusedVariables false
theorem Hx.keep{L:List (Addr×Bool)}{k:Int}{w w':World}(h:Hx L k w)(b:Below w.heap.size w w'):Hx L k w':=fun i x e=>cell_keep b (h i x e)
end Go.Proofs.YtignbeibcakgpaaGreatDoor
