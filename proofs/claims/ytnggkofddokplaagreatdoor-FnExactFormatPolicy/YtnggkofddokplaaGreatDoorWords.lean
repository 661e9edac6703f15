/- What the functions on words answer, one contract a function: BitWords of the program and of the model, and the comparison of two results. -/
import Derived.Test.YtnggkofddokplaaGreatDoorBase
import Derived.Test.YtnggkofddokplaaGreatDoorWordMath
namespace Go.Proofs.YtnggkofddokplaaGreatDoor
open Go.RowKit

theorem ret_i64 {a b : Int} (h : a = b) : Ending.returned (.int .i64 a) = .returned (.int .i64 b) := by rw [h]
end Go.Proofs.YtnggkofddokplaaGreatDoor
