import Derived.Test.YtignbeibcakgpaaGreatDoorQ22
namespace Go.Proofs.YtignbeibcakgpaaGreatDoor
set_option maxRecDepth 20000
set_option maxHeartbeats 16000000
open Go.RowKit
set_option linter.unusedVariables false
theorem Mx.pre{L:List (Addr×Bool)}{k:Int}{a b c:World}(h:Mx [] k a b)(m:Mx L k b c):Mx L k a c:=by
 have:=h.trans (M:=L) (by simpa using m) (by simp)
 simpa using this
variable{w:World}{g sz n:Nat}{a:Option Addr}
theorem Mg.lt(h:Mg w g sz a n)(hs:0<sz)(hn:0<n):g<w.heap.size:=by
 obtain⟨_,h3⟩:=h hn
 obtain⟨⟨z,hz⟩,_⟩:=h3 0 (Nat.mul_pos hn hs)
 exact block_of_cell hz
theorem Mg.at(h:Mg w g sz a n)(hn:0<n):a=some ⟨g,0,none⟩:=(h hn).1
theorem Mg.cells(h:Mg w g sz a n){x:Addr×Bool}(hx:x ∈ cN g (n*sz)):x.1.block=g∧0<n∧g<w.heap.size:=by
 have hp:=cN_pos hx
 have h1:0<n:=Nat.pos_of_mul_pos_right hp
 have h2:0<sz:=Nat.pos_of_mul_pos_left hp
 exact⟨cN_block hx,h1,h.lt h2 h1⟩
theorem Mg.alloc(h:Mg w g sz a n)(o:Obj):Mg (w.alloc o) g sz a n:=h.mx ((Mx.refl 0 w).alloc o) (by simp)
end Go.Proofs.YtignbeibcakgpaaGreatDoor
