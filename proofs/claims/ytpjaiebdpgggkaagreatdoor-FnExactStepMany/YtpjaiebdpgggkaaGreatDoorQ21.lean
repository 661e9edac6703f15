/- Texts of this seat, joined. -/
import Derived.BigQuiet
import Derived.Deep.QuietTactic
import Derived.Test.YtpjaiebdpgggkaaGreatDoorQ03
import Derived.Test.YtpjaiebdpgggkaaGreatDoorQ15
import Derived.Test.YtpjaiebdpgggkaaGreatDoorQ20
namespace Go.Proofs.YtpjaiebdpgggkaaGreatDoor
open Go.RowKit
set_option linter.unusedVariables false

theorem made_replicate (z : Value) (k m : Nat) (hk : 0 < k) : (madeCells (Array.replicate k z) m).toList = List.replicate m z := by
  apply List.ext_getElem?
  intro j
  by_cases hj : j < m
  · have : j % k < k := Nat.mod_lt _ hk
    simp [madeCells, hj, this]
  · simp [madeCells, hj]

theorem info_wpage : (Tryz.prog.info? 118).map (fun i => (i.zero, i.size, i.bytes)) = some (some (.agg (Array.replicate 8 (.int .i64 0))), 8, 64) := by kernel_rfl

end Go.Proofs.YtpjaiebdpgggkaaGreatDoor
namespace Go.Proofs.YtpjaiebdpgggkaaGreatDoor
open Go.RowKit
set_option linter.unusedVariables false

theorem pend_eq (H : Ht) (a b c : Int) (ha : (if gt H.csr 9 ≠ 0 ∧ gt H.csr 9 ≤ H.done then (1 : Int) else 0) = a) (hb : (if H.rung then (2 : Int) else 0) = b) (hc : (if 0 < H.inn.length then (4 : Int) else 0) = c) : a + b + c = pendV H := by
  subst ha hb hc
  rfl
end Go.Proofs.YtpjaiebdpgggkaaGreatDoor
