/- What the functions on words answer, one contract a function: BitWords of the program and of the model, and the comparison of two results. -/
import Derived.Test.YtmdmmmcidapijaaGreatDoorBase
import Derived.Test.YtmdmmmcidapijaaGreatDoorWordMath
namespace Go.Proofs.YtmdmmmcidapijaaGreatDoor
open Go.RowKit

theorem ret_i64 {a b : Int} (h : a = b) : Ending.returned (.int .i64 a) = .returned (.int .i64 b) := by rw [h]
end Go.Proofs.YtmdmmmcidapijaaGreatDoor
