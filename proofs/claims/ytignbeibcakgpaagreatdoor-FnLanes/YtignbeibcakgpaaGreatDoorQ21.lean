import Derived.Test.YtignbeibcakgpaaGreatDoorQ20
namespace Go.Proofs.YtignbeibcakgpaaGreatDoor
set_option maxRecDepth 20000
set_option maxHeartbeats 16000000
open Go.RowKit
set_option linter.unusedVariables false
theorem cN_pos{g n:Nat}{x:Addr×Bool}(h:x ∈ cN g n):0<n:=by
 simp only[cN,List.mem_map,List.mem_range]at h;obtain⟨j,hj,_⟩:=h;omega
end Go.Proofs.YtignbeibcakgpaaGreatDoor
