/-
  No cell of these rows narrows 'for every input' (looked for: loops, veiled, ifaces, maps, wideKeys, modest, calm, conditions, laid).
  DERIVED. THE GIVEN ROWS OF THIS SEAT. 6 by the template 'for every input the law returns true; each argument reads behind the call as it read before'; 0 by the template 'total and deterministic' (their statements: YteaccakodaidpaaTotals.lean).
  GIVEN WITH THE SEED: the statements are not yours to turn. If you find one false, say at which input.
  Laid BY PROGRAM, IN A SANDBOX (cutbox-rows.mjs): the forced cells as the released guide's own fill.sh prints them over the translation 2d8a85126bdc6ddc… (all of the seat's roots in one cut). By AI agents, Wed Nov 11 2026. No macro, syntax, notation, axiom, sorry.
-/
import Derived.Test.YteaccakodaidpaaChecked
import GoSem.Claim
import GoSem.ClaimJoined
import GoSem.ClaimMapViews
import Derived.JoinedTies
import Derived.KernelRfl
namespace Go.Proofs.Yteaccakodaidpaa
/- THE CELL 'sum', in the pinned program and in every row, IS THE sha256 OF THE DUMP (.gsa) THAT YteaccakodaidpaaProg.lean LOADS. Nothing in Lean hashes anything: it is a label: what it is worth is what the hold of that sum in a sandbox is worth. -/
noncomputable def Try.pinned : Pinned := { name := "yteaccakodaidpaa", sum := "2d8a85126bdc6ddcfc43e309a0f4ff97d893432c0435cd2939e04ff29c02369d", checked := Try.checked }
namespace Rows
def none {H : Type} : Left H := { results := [], args := [] }

/-- 'laws.FnFills': WHATEVER THE INPUT: true; the input reads as it did. -/
def fnFillsSpec : ChangeSpec := { name := "fnFills", fn := fun _ => fun
  | [d] => { results := [.lit (.bool true)], args := [d] }
  | _ => none }
def fnFillsRow : OpenClaim := { program := "yteaccakodaidpaa", sum := "2d8a85126bdc6ddcfc43e309a0f4ff97d893432c0435cd2939e04ff29c02369d", func := "loop.example/g00213/laws.FnFills", spec := "fnFills", unfollowed := true, recurses := true, plainKeys := false, apart := false }
def FnFillsSaid : Prop := fnFillsRow.holds Try.pinned (OpenSpec.ofChange fnFillsSpec)

/-- ITS FALSE NEIGHBOUR: 'it returns false'. Refute it at one input. -/
def fnFillsWrong : ChangeSpec := { name := "fnFills", fn := fun _ => fun
  | [d] => { results := [.lit (.bool false)], args := [d] }
  | _ => none }
def FnFillsWrongFalsely : Prop := fnFillsRow.holds Try.pinned (OpenSpec.ofChange fnFillsWrong)

/-- 'laws.FnDevices': WHATEVER THE INPUT: true; the input reads as it did. -/
def fnDevicesSpec : ChangeSpec := { name := "fnDevices", fn := fun _ => fun
  | [d] => { results := [.lit (.bool true)], args := [d] }
  | _ => none }
def fnDevicesRow : OpenClaim := { program := "yteaccakodaidpaa", sum := "2d8a85126bdc6ddcfc43e309a0f4ff97d893432c0435cd2939e04ff29c02369d", func := "loop.example/g00213/laws.FnDevices", spec := "fnDevices", plainKeys := false, apart := false }
def FnDevicesSaid : Prop := fnDevicesRow.holds Try.pinned (OpenSpec.ofChange fnDevicesSpec)

/-- ITS FALSE NEIGHBOUR: 'it returns false'. Refute it at one input. -/
def fnDevicesWrong : ChangeSpec := { name := "fnDevices", fn := fun _ => fun
  | [d] => { results := [.lit (.bool false)], args := [d] }
  | _ => none }
def FnDevicesWrongFalsely : Prop := fnDevicesRow.holds Try.pinned (OpenSpec.ofChange fnDevicesWrong)

/-- 'laws.FnExactDeviceRead': WHATEVER THE INPUT: true; the input reads as it did. -/
def fnExactDeviceReadSpec : ChangeSpec := { name := "fnExactDeviceRead", fn := fun _ => fun
  | [d1, d2] => { results := [.lit (.bool true)], args := [d1, d2] }
  | _ => none }
def fnExactDeviceReadRow : OpenClaim := { program := "yteaccakodaidpaa", sum := "2d8a85126bdc6ddcfc43e309a0f4ff97d893432c0435cd2939e04ff29c02369d", func := "loop.example/g00213/laws.FnExactDeviceRead", spec := "fnExactDeviceRead", plainKeys := false, apart := false }
def FnExactDeviceReadSaid : Prop := fnExactDeviceReadRow.holds Try.pinned (OpenSpec.ofChange fnExactDeviceReadSpec)

/-- ITS FALSE NEIGHBOUR: 'it returns false'. Refute it at one input. -/
def fnExactDeviceReadWrong : ChangeSpec := { name := "fnExactDeviceRead", fn := fun _ => fun
  | [d1, d2] => { results := [.lit (.bool false)], args := [d1, d2] }
  | _ => none }
def FnExactDeviceReadWrongFalsely : Prop := fnExactDeviceReadRow.holds Try.pinned (OpenSpec.ofChange fnExactDeviceReadWrong)

/-- 'laws.FnExactDeviceWrite': WHATEVER THE INPUT: true; the input reads as it did. -/
def fnExactDeviceWriteSpec : ChangeSpec := { name := "fnExactDeviceWrite", fn := fun _ => fun
  | [d1, d2, d3] => { results := [.lit (.bool true)], args := [d1, d2, d3] }
  | _ => none }
def fnExactDeviceWriteRow : OpenClaim := { program := "yteaccakodaidpaa", sum := "2d8a85126bdc6ddcfc43e309a0f4ff97d893432c0435cd2939e04ff29c02369d", func := "loop.example/g00213/laws.FnExactDeviceWrite", spec := "fnExactDeviceWrite", plainKeys := false, apart := false }
def FnExactDeviceWriteSaid : Prop := fnExactDeviceWriteRow.holds Try.pinned (OpenSpec.ofChange fnExactDeviceWriteSpec)

/-- ITS FALSE NEIGHBOUR: 'it returns false'. Refute it at one input. -/
def fnExactDeviceWriteWrong : ChangeSpec := { name := "fnExactDeviceWrite", fn := fun _ => fun
  | [d1, d2, d3] => { results := [.lit (.bool false)], args := [d1, d2, d3] }
  | _ => none }
def FnExactDeviceWriteWrongFalsely : Prop := fnExactDeviceWriteRow.holds Try.pinned (OpenSpec.ofChange fnExactDeviceWriteWrong)

/-- 'laws.FnExactFeedHart': WHATEVER THE INPUT: true; the input reads as it did. -/
def fnExactFeedHartSpec : ChangeSpec := { name := "fnExactFeedHart", fn := fun _ => fun
  | [d1, d2] => { results := [.lit (.bool true)], args := [d1, d2] }
  | _ => none }
def fnExactFeedHartRow : OpenClaim := { program := "yteaccakodaidpaa", sum := "2d8a85126bdc6ddcfc43e309a0f4ff97d893432c0435cd2939e04ff29c02369d", func := "loop.example/g00213/laws.FnExactFeedHart", spec := "fnExactFeedHart", plainKeys := false, apart := false }
def FnExactFeedHartSaid : Prop := fnExactFeedHartRow.holds Try.pinned (OpenSpec.ofChange fnExactFeedHartSpec)

/-- ITS FALSE NEIGHBOUR: 'it returns false'. Refute it at one input. -/
def fnExactFeedHartWrong : ChangeSpec := { name := "fnExactFeedHart", fn := fun _ => fun
  | [d1, d2] => { results := [.lit (.bool false)], args := [d1, d2] }
  | _ => none }
def FnExactFeedHartWrongFalsely : Prop := fnExactFeedHartRow.holds Try.pinned (OpenSpec.ofChange fnExactFeedHartWrong)

/-- 'laws.FnExactRingHart': WHATEVER THE INPUT: true; the input reads as it did. -/
def fnExactRingHartSpec : ChangeSpec := { name := "fnExactRingHart", fn := fun _ => fun
  | [d] => { results := [.lit (.bool true)], args := [d] }
  | _ => none }
def fnExactRingHartRow : OpenClaim := { program := "yteaccakodaidpaa", sum := "2d8a85126bdc6ddcfc43e309a0f4ff97d893432c0435cd2939e04ff29c02369d", func := "loop.example/g00213/laws.FnExactRingHart", spec := "fnExactRingHart", plainKeys := false, apart := false }
def FnExactRingHartSaid : Prop := fnExactRingHartRow.holds Try.pinned (OpenSpec.ofChange fnExactRingHartSpec)

/-- ITS FALSE NEIGHBOUR: 'it returns false'. Refute it at one input. -/
def fnExactRingHartWrong : ChangeSpec := { name := "fnExactRingHart", fn := fun _ => fun
  | [d] => { results := [.lit (.bool false)], args := [d] }
  | _ => none }
def FnExactRingHartWrongFalsely : Prop := fnExactRingHartRow.holds Try.pinned (OpenSpec.ofChange fnExactRingHartWrong)

/- THE SECOND FORM. 'bulk': how many values and letters a reading holds, each counted each time it is reached (what is shared counts as often as it is met; a slice's spare places count too). A statement '..UptoSaid' is the law's where the arguments, and the package variables that the reading takes, are together of bulk at most 1048576: NARROWER than '..Said'. Prove '..Said' where nothing that the law and all that it calls make is longer than what came in: it says more and counts as full. Else prove '..UptoSaid'. A law counts once. -/
mutual
def uptoBulk {H : Type} : DataW H → Nat
  | .lit (.string bytes) => bytes.length + 1
  | .lit _ => 1
  | .nil => 1
  | .ptr d => uptoBulk d + 1
  | .slice elems spare => uptoBulkAll elems + uptoBulkAll spare + 1
  | .agg parts => uptoBulkAll parts + 1
  | .iface _ d => uptoBulk d + 1
  | .map entries => uptoBulkEntries entries + 1
  | .held _ => 1
def uptoBulkAll {H : Type} : List (DataW H) → Nat
  | [] => 0
  | d :: r => uptoBulk d + uptoBulkAll r
def uptoBulkEntries {H : Type} : List (Lit × DataW H) → Nat
  | [] => 0
  | x :: r => uptoBulkEntry x + uptoBulkEntries r
def uptoBulkEntry {H : Type} : Lit × DataW H → Nat
  | (.string bytes, d) => bytes.length + uptoBulk d + 1
  | (_, d) => uptoBulk d + 1
 end
def uptoSmall : (H : Type) → List (DataW H) → Bool := fun _ ds => decide (uptoBulkAll ds ≤ 1048576)
def OpenSpec.upto (s : _root_.Go.ChangeSpec) : _root_.Go.OpenSpec := { _root_.Go.OpenSpec.ofChange s with cond := some uptoSmall }

/-- 'laws.FnFills', WHERE WHAT IT READS IS OF BULK AT MOST 1048576: true; the input reads as it did. -/
def fnFillsUptoRow : OpenClaim := { program := "yteaccakodaidpaa", sum := "2d8a85126bdc6ddcfc43e309a0f4ff97d893432c0435cd2939e04ff29c02369d", func := "loop.example/g00213/laws.FnFills", spec := "fnFills", unfollowed := true, recurses := true, plainKeys := false, apart := false, narrowed := true }
def FnFillsUptoSaid : Prop := fnFillsUptoRow.holds Try.pinned (OpenSpec.upto fnFillsSpec)

/-- 'laws.FnDevices', WHERE WHAT IT READS IS OF BULK AT MOST 1048576: true; the input reads as it did. -/
def fnDevicesUptoRow : OpenClaim := { program := "yteaccakodaidpaa", sum := "2d8a85126bdc6ddcfc43e309a0f4ff97d893432c0435cd2939e04ff29c02369d", func := "loop.example/g00213/laws.FnDevices", spec := "fnDevices", plainKeys := false, apart := false, narrowed := true }
def FnDevicesUptoSaid : Prop := fnDevicesUptoRow.holds Try.pinned (OpenSpec.upto fnDevicesSpec)

/-- 'laws.FnExactDeviceRead', WHERE WHAT IT READS IS OF BULK AT MOST 1048576: true; the input reads as it did. -/
def fnExactDeviceReadUptoRow : OpenClaim := { program := "yteaccakodaidpaa", sum := "2d8a85126bdc6ddcfc43e309a0f4ff97d893432c0435cd2939e04ff29c02369d", func := "loop.example/g00213/laws.FnExactDeviceRead", spec := "fnExactDeviceRead", plainKeys := false, apart := false, narrowed := true }
def FnExactDeviceReadUptoSaid : Prop := fnExactDeviceReadUptoRow.holds Try.pinned (OpenSpec.upto fnExactDeviceReadSpec)

/-- 'laws.FnExactDeviceWrite', WHERE WHAT IT READS IS OF BULK AT MOST 1048576: true; the input reads as it did. -/
def fnExactDeviceWriteUptoRow : OpenClaim := { program := "yteaccakodaidpaa", sum := "2d8a85126bdc6ddcfc43e309a0f4ff97d893432c0435cd2939e04ff29c02369d", func := "loop.example/g00213/laws.FnExactDeviceWrite", spec := "fnExactDeviceWrite", plainKeys := false, apart := false, narrowed := true }
def FnExactDeviceWriteUptoSaid : Prop := fnExactDeviceWriteUptoRow.holds Try.pinned (OpenSpec.upto fnExactDeviceWriteSpec)

/-- 'laws.FnExactFeedHart', WHERE WHAT IT READS IS OF BULK AT MOST 1048576: true; the input reads as it did. -/
def fnExactFeedHartUptoRow : OpenClaim := { program := "yteaccakodaidpaa", sum := "2d8a85126bdc6ddcfc43e309a0f4ff97d893432c0435cd2939e04ff29c02369d", func := "loop.example/g00213/laws.FnExactFeedHart", spec := "fnExactFeedHart", plainKeys := false, apart := false, narrowed := true }
def FnExactFeedHartUptoSaid : Prop := fnExactFeedHartUptoRow.holds Try.pinned (OpenSpec.upto fnExactFeedHartSpec)

/-- 'laws.FnExactRingHart', WHERE WHAT IT READS IS OF BULK AT MOST 1048576: true; the input reads as it did. -/
def fnExactRingHartUptoRow : OpenClaim := { program := "yteaccakodaidpaa", sum := "2d8a85126bdc6ddcfc43e309a0f4ff97d893432c0435cd2939e04ff29c02369d", func := "loop.example/g00213/laws.FnExactRingHart", spec := "fnExactRingHart", plainKeys := false, apart := false, narrowed := true }
def FnExactRingHartUptoSaid : Prop := fnExactRingHartUptoRow.holds Try.pinned (OpenSpec.upto fnExactRingHartSpec)

end Rows
end Go.Proofs.Yteaccakodaidpaa
