import Derived.Test.YtaefollmeoepkaaGreatDoorQ24
namespace Go.Proofs.YtaefollmeoepkaaGreatDoor
set_option maxRecDepth 20000
set_option maxHeartbeats 16000000
open Go.RowKit
set_option linter.unusedVariables false
theorem due_even{H:Ht}(h:gt H.csr 0%2=0):dueV H= -1:=by
 unfold dueV
 exact if_pos (.inl h)
theorem due_none{H:Ht}(h:bothV H=0):dueV H= -1:=by
 unfold dueV
 exact if_pos (.inr h)
theorem due_some{H:Ht}{b:Int}(h:¬gt H.csr 0%2=0)(k:bothV H=b)(hb:¬b=0):dueV H=lowV b:=by
 unfold dueV
 rw[if_neg (fun e=>e.elim h (fun e=>hb (k.symm.trans e))),k]
end Go.Proofs.YtaefollmeoepkaaGreatDoor
