import Derived.Test.YtignbeibcakgpaaGreatDoorQ21
namespace Go.Proofs.YtignbeibcakgpaaGreatDoor
set_option maxRecDepth 20000
set_option maxHeartbeats 16000000
open Go.RowKit
set_option linter.unusedVariables false
variable{L M:List (Addr×Bool)}{k:Int}{w:World}
theorem Hx.left(h:Hx (L++M) k w):Hx L k w:=fun i x e=>
 h i x (by rw[List.getElem?_append_left (List.getElem?_eq_some_iff.1 e).1];exact e)
theorem Hx.right(h:Hx (L++M) k w):Hx M (k+L.length) w:=fun i x e=>by
 have:=h (L.length+i) x (by rw[List.getElem?_append_right (by omega),Nat.add_sub_cancel_left];exact e)
 rw[show k+((L.length+i:Nat):Int)=k+L.length+i by omega]at this
 exact this
end Go.Proofs.YtignbeibcakgpaaGreatDoor
