/-
  No cell of these rows narrows 'for every input' (looked for: loops, veiled, ifaces, maps, wideKeys, modest, calm, conditions, laid).
  DERIVED. THE GIVEN ROWS OF THIS SEAT. 9 by the template 'for every input the law returns true; each argument reads behind the call as it read before'; 0 by the template 'total and deterministic' (their statements: YtedilhlcflmgjaaTotals.lean).
  GIVEN WITH THE SEED: the statements are not yours to turn. If you find one false, say at which input.
  Laid BY PROGRAM, IN A SANDBOX (cutbox-rows.mjs): the forced cells as the released guide's own fill.sh prints them over the translation 6e28d5d5ca2b1a73… (all of the seat's roots in one cut). By AI agents, Wed Nov 11 2026. No macro, syntax, notation, axiom, sorry.
-/
import Derived.Test.YtedilhlcflmgjaaChecked
import GoSem.Claim
import GoSem.ClaimJoined
import GoSem.ClaimMapViews
import Derived.JoinedTies
import Derived.KernelRfl
namespace Go.Proofs.Ytedilhlcflmgjaa
/- THE CELL 'sum', in the pinned program and in every row, IS THE sha256 OF THE DUMP (.gsa) THAT YtedilhlcflmgjaaProg.lean LOADS. Nothing in Lean hashes anything: it is a label: what it is worth is what the hold of that sum in a sandbox is worth. -/
noncomputable def Try.pinned : Pinned := { name := "ytedilhlcflmgjaa", sum := "6e28d5d5ca2b1a735bf44bbf41d8d26abef2d49a367e8152e03abcc684a768bf", checked := Try.checked }
namespace Rows
def none {H : Type} : Left H := { results := [], args := [] }

/-- 'laws.FnFills': WHATEVER THE INPUT: true; the input reads as it did. -/
def fnFillsSpec : ChangeSpec := { name := "fnFills", fn := fun _ => fun
  | [d] => { results := [.lit (.bool true)], args := [d] }
  | _ => none }
def fnFillsRow : OpenClaim := { program := "ytedilhlcflmgjaa", sum := "6e28d5d5ca2b1a735bf44bbf41d8d26abef2d49a367e8152e03abcc684a768bf", func := "loop.example/g00213/laws.FnFills", spec := "fnFills", unfollowed := true, recurses := true, plainKeys := false, apart := false }
def FnFillsSaid : Prop := fnFillsRow.holds Try.pinned (OpenSpec.ofChange fnFillsSpec)

/-- ITS FALSE NEIGHBOUR: 'it returns false'. Refute it at one input. -/
def fnFillsWrong : ChangeSpec := { name := "fnFills", fn := fun _ => fun
  | [d] => { results := [.lit (.bool false)], args := [d] }
  | _ => none }
def FnFillsWrongFalsely : Prop := fnFillsRow.holds Try.pinned (OpenSpec.ofChange fnFillsWrong)

/-- 'laws.FnCsrs': WHATEVER THE INPUT: true; the input reads as it did. -/
def fnCsrsSpec : ChangeSpec := { name := "fnCsrs", fn := fun _ => fun
  | [d] => { results := [.lit (.bool true)], args := [d] }
  | _ => none }
def fnCsrsRow : OpenClaim := { program := "ytedilhlcflmgjaa", sum := "6e28d5d5ca2b1a735bf44bbf41d8d26abef2d49a367e8152e03abcc684a768bf", func := "loop.example/g00213/laws.FnCsrs", spec := "fnCsrs", plainKeys := false, apart := false }
def FnCsrsSaid : Prop := fnCsrsRow.holds Try.pinned (OpenSpec.ofChange fnCsrsSpec)

/-- ITS FALSE NEIGHBOUR: 'it returns false'. Refute it at one input. -/
def fnCsrsWrong : ChangeSpec := { name := "fnCsrs", fn := fun _ => fun
  | [d] => { results := [.lit (.bool false)], args := [d] }
  | _ => none }
def FnCsrsWrongFalsely : Prop := fnCsrsRow.holds Try.pinned (OpenSpec.ofChange fnCsrsWrong)

/-- 'laws.FnExactHartFault': WHATEVER THE INPUT: true; the input reads as it did. -/
def fnExactHartFaultSpec : ChangeSpec := { name := "fnExactHartFault", fn := fun _ => fun
  | [d] => { results := [.lit (.bool true)], args := [d] }
  | _ => none }
def fnExactHartFaultRow : OpenClaim := { program := "ytedilhlcflmgjaa", sum := "6e28d5d5ca2b1a735bf44bbf41d8d26abef2d49a367e8152e03abcc684a768bf", func := "loop.example/g00213/laws.FnExactHartFault", spec := "fnExactHartFault", plainKeys := false, apart := false }
def FnExactHartFaultSaid : Prop := fnExactHartFaultRow.holds Try.pinned (OpenSpec.ofChange fnExactHartFaultSpec)

/-- ITS FALSE NEIGHBOUR: 'it returns false'. Refute it at one input. -/
def fnExactHartFaultWrong : ChangeSpec := { name := "fnExactHartFault", fn := fun _ => fun
  | [d] => { results := [.lit (.bool false)], args := [d] }
  | _ => none }
def FnExactHartFaultWrongFalsely : Prop := fnExactHartFaultRow.holds Try.pinned (OpenSpec.ofChange fnExactHartFaultWrong)

/-- 'laws.FnExactNewHart': WHATEVER THE INPUT: true; the input reads as it did. -/
def fnExactNewHartSpec : ChangeSpec := { name := "fnExactNewHart", fn := fun _ => fun
  | [d] => { results := [.lit (.bool true)], args := [d] }
  | _ => none }
def fnExactNewHartRow : OpenClaim := { program := "ytedilhlcflmgjaa", sum := "6e28d5d5ca2b1a735bf44bbf41d8d26abef2d49a367e8152e03abcc684a768bf", func := "loop.example/g00213/laws.FnExactNewHart", spec := "fnExactNewHart", plainKeys := false, apart := false }
def FnExactNewHartSaid : Prop := fnExactNewHartRow.holds Try.pinned (OpenSpec.ofChange fnExactNewHartSpec)

/-- ITS FALSE NEIGHBOUR: 'it returns false'. Refute it at one input. -/
def fnExactNewHartWrong : ChangeSpec := { name := "fnExactNewHart", fn := fun _ => fun
  | [d] => { results := [.lit (.bool false)], args := [d] }
  | _ => none }
def FnExactNewHartWrongFalsely : Prop := fnExactNewHartRow.holds Try.pinned (OpenSpec.ofChange fnExactNewHartWrong)

/-- 'laws.FnExactGetCsr': WHATEVER THE INPUT: true; the input reads as it did. -/
def fnExactGetCsrSpec : ChangeSpec := { name := "fnExactGetCsr", fn := fun _ => fun
  | [d1, d2] => { results := [.lit (.bool true)], args := [d1, d2] }
  | _ => none }
def fnExactGetCsrRow : OpenClaim := { program := "ytedilhlcflmgjaa", sum := "6e28d5d5ca2b1a735bf44bbf41d8d26abef2d49a367e8152e03abcc684a768bf", func := "loop.example/g00213/laws.FnExactGetCsr", spec := "fnExactGetCsr", plainKeys := false, apart := false }
def FnExactGetCsrSaid : Prop := fnExactGetCsrRow.holds Try.pinned (OpenSpec.ofChange fnExactGetCsrSpec)

/-- ITS FALSE NEIGHBOUR: 'it returns false'. Refute it at one input. -/
def fnExactGetCsrWrong : ChangeSpec := { name := "fnExactGetCsr", fn := fun _ => fun
  | [d1, d2] => { results := [.lit (.bool false)], args := [d1, d2] }
  | _ => none }
def FnExactGetCsrWrongFalsely : Prop := fnExactGetCsrRow.holds Try.pinned (OpenSpec.ofChange fnExactGetCsrWrong)

/-- 'laws.FnExactSetCsr': WHATEVER THE INPUT: true; the input reads as it did. -/
def fnExactSetCsrSpec : ChangeSpec := { name := "fnExactSetCsr", fn := fun _ => fun
  | [d1, d2, d3] => { results := [.lit (.bool true)], args := [d1, d2, d3] }
  | _ => none }
def fnExactSetCsrRow : OpenClaim := { program := "ytedilhlcflmgjaa", sum := "6e28d5d5ca2b1a735bf44bbf41d8d26abef2d49a367e8152e03abcc684a768bf", func := "loop.example/g00213/laws.FnExactSetCsr", spec := "fnExactSetCsr", plainKeys := false, apart := false }
def FnExactSetCsrSaid : Prop := fnExactSetCsrRow.holds Try.pinned (OpenSpec.ofChange fnExactSetCsrSpec)

/-- ITS FALSE NEIGHBOUR: 'it returns false'. Refute it at one input. -/
def fnExactSetCsrWrong : ChangeSpec := { name := "fnExactSetCsr", fn := fun _ => fun
  | [d1, d2, d3] => { results := [.lit (.bool false)], args := [d1, d2, d3] }
  | _ => none }
def FnExactSetCsrWrongFalsely : Prop := fnExactSetCsrRow.holds Try.pinned (OpenSpec.ofChange fnExactSetCsrWrong)

/-- 'laws.FnExactPendingOf': WHATEVER THE INPUT: true; the input reads as it did. -/
def fnExactPendingOfSpec : ChangeSpec := { name := "fnExactPendingOf", fn := fun _ => fun
  | [d] => { results := [.lit (.bool true)], args := [d] }
  | _ => none }
def fnExactPendingOfRow : OpenClaim := { program := "ytedilhlcflmgjaa", sum := "6e28d5d5ca2b1a735bf44bbf41d8d26abef2d49a367e8152e03abcc684a768bf", func := "loop.example/g00213/laws.FnExactPendingOf", spec := "fnExactPendingOf", plainKeys := false, apart := false }
def FnExactPendingOfSaid : Prop := fnExactPendingOfRow.holds Try.pinned (OpenSpec.ofChange fnExactPendingOfSpec)

/-- ITS FALSE NEIGHBOUR: 'it returns false'. Refute it at one input. -/
def fnExactPendingOfWrong : ChangeSpec := { name := "fnExactPendingOf", fn := fun _ => fun
  | [d] => { results := [.lit (.bool false)], args := [d] }
  | _ => none }
def FnExactPendingOfWrongFalsely : Prop := fnExactPendingOfRow.holds Try.pinned (OpenSpec.ofChange fnExactPendingOfWrong)

/-- 'laws.FnExactTrapHart': WHATEVER THE INPUT: true; the input reads as it did. -/
def fnExactTrapHartSpec : ChangeSpec := { name := "fnExactTrapHart", fn := fun _ => fun
  | [d1, d2, d3] => { results := [.lit (.bool true)], args := [d1, d2, d3] }
  | _ => none }
def fnExactTrapHartRow : OpenClaim := { program := "ytedilhlcflmgjaa", sum := "6e28d5d5ca2b1a735bf44bbf41d8d26abef2d49a367e8152e03abcc684a768bf", func := "loop.example/g00213/laws.FnExactTrapHart", spec := "fnExactTrapHart", plainKeys := false, apart := false }
def FnExactTrapHartSaid : Prop := fnExactTrapHartRow.holds Try.pinned (OpenSpec.ofChange fnExactTrapHartSpec)

/-- ITS FALSE NEIGHBOUR: 'it returns false'. Refute it at one input. -/
def fnExactTrapHartWrong : ChangeSpec := { name := "fnExactTrapHart", fn := fun _ => fun
  | [d1, d2, d3] => { results := [.lit (.bool false)], args := [d1, d2, d3] }
  | _ => none }
def FnExactTrapHartWrongFalsely : Prop := fnExactTrapHartRow.holds Try.pinned (OpenSpec.ofChange fnExactTrapHartWrong)

/-- 'laws.FnExactBackHart': WHATEVER THE INPUT: true; the input reads as it did. -/
def fnExactBackHartSpec : ChangeSpec := { name := "fnExactBackHart", fn := fun _ => fun
  | [d] => { results := [.lit (.bool true)], args := [d] }
  | _ => none }
def fnExactBackHartRow : OpenClaim := { program := "ytedilhlcflmgjaa", sum := "6e28d5d5ca2b1a735bf44bbf41d8d26abef2d49a367e8152e03abcc684a768bf", func := "loop.example/g00213/laws.FnExactBackHart", spec := "fnExactBackHart", plainKeys := false, apart := false }
def FnExactBackHartSaid : Prop := fnExactBackHartRow.holds Try.pinned (OpenSpec.ofChange fnExactBackHartSpec)

/-- ITS FALSE NEIGHBOUR: 'it returns false'. Refute it at one input. -/
def fnExactBackHartWrong : ChangeSpec := { name := "fnExactBackHart", fn := fun _ => fun
  | [d] => { results := [.lit (.bool false)], args := [d] }
  | _ => none }
def FnExactBackHartWrongFalsely : Prop := fnExactBackHartRow.holds Try.pinned (OpenSpec.ofChange fnExactBackHartWrong)

/- THE SECOND FORM. 'bulk': how many values and letters a reading holds, each counted each time it is reached (what is shared counts as often as it is met; a slice's spare places count too). A statement '..UptoSaid' is the law's where the arguments, and the package variables that the reading takes, are together of bulk at most 1048576: NARROWER than '..Said'. Prove '..Said' where nothing that the law and all that it calls make is longer than what came in: it says more and counts as full. Else prove '..UptoSaid'. A law counts once. -/
mutual
def uptoBulk {H : Type} : DataW H → Nat
  | .lit (.string bytes) => bytes.length + 1
  | .lit _ => 1
  | .nil => 1
  | .ptr d => uptoBulk d + 1
  | .slice elems spare => uptoBulkAll elems + uptoBulkAll spare + 1
  | .agg parts => uptoBulkAll parts + 1
  | .iface _ d => uptoBulk d + 1
  | .map entries => uptoBulkEntries entries + 1
  | .held _ => 1
def uptoBulkAll {H : Type} : List (DataW H) → Nat
  | [] => 0
  | d :: r => uptoBulk d + uptoBulkAll r
def uptoBulkEntries {H : Type} : List (Lit × DataW H) → Nat
  | [] => 0
  | x :: r => uptoBulkEntry x + uptoBulkEntries r
def uptoBulkEntry {H : Type} : Lit × DataW H → Nat
  | (.string bytes, d) => bytes.length + uptoBulk d + 1
  | (_, d) => uptoBulk d + 1
 end
def uptoSmall : (H : Type) → List (DataW H) → Bool := fun _ ds => decide (uptoBulkAll ds ≤ 1048576)
def OpenSpec.upto (s : _root_.Go.ChangeSpec) : _root_.Go.OpenSpec := { _root_.Go.OpenSpec.ofChange s with cond := some uptoSmall }

/-- 'laws.FnFills', WHERE WHAT IT READS IS OF BULK AT MOST 1048576: true; the input reads as it did. -/
def fnFillsUptoRow : OpenClaim := { program := "ytedilhlcflmgjaa", sum := "6e28d5d5ca2b1a735bf44bbf41d8d26abef2d49a367e8152e03abcc684a768bf", func := "loop.example/g00213/laws.FnFills", spec := "fnFills", unfollowed := true, recurses := true, plainKeys := false, apart := false, narrowed := true }
def FnFillsUptoSaid : Prop := fnFillsUptoRow.holds Try.pinned (OpenSpec.upto fnFillsSpec)

/-- 'laws.FnCsrs', WHERE WHAT IT READS IS OF BULK AT MOST 1048576: true; the input reads as it did. -/
def fnCsrsUptoRow : OpenClaim := { program := "ytedilhlcflmgjaa", sum := "6e28d5d5ca2b1a735bf44bbf41d8d26abef2d49a367e8152e03abcc684a768bf", func := "loop.example/g00213/laws.FnCsrs", spec := "fnCsrs", plainKeys := false, apart := false, narrowed := true }
def FnCsrsUptoSaid : Prop := fnCsrsUptoRow.holds Try.pinned (OpenSpec.upto fnCsrsSpec)

/-- 'laws.FnExactHartFault', WHERE WHAT IT READS IS OF BULK AT MOST 1048576: true; the input reads as it did. -/
def fnExactHartFaultUptoRow : OpenClaim := { program := "ytedilhlcflmgjaa", sum := "6e28d5d5ca2b1a735bf44bbf41d8d26abef2d49a367e8152e03abcc684a768bf", func := "loop.example/g00213/laws.FnExactHartFault", spec := "fnExactHartFault", plainKeys := false, apart := false, narrowed := true }
def FnExactHartFaultUptoSaid : Prop := fnExactHartFaultUptoRow.holds Try.pinned (OpenSpec.upto fnExactHartFaultSpec)

/-- 'laws.FnExactNewHart', WHERE WHAT IT READS IS OF BULK AT MOST 1048576: true; the input reads as it did. -/
def fnExactNewHartUptoRow : OpenClaim := { program := "ytedilhlcflmgjaa", sum := "6e28d5d5ca2b1a735bf44bbf41d8d26abef2d49a367e8152e03abcc684a768bf", func := "loop.example/g00213/laws.FnExactNewHart", spec := "fnExactNewHart", plainKeys := false, apart := false, narrowed := true }
def FnExactNewHartUptoSaid : Prop := fnExactNewHartUptoRow.holds Try.pinned (OpenSpec.upto fnExactNewHartSpec)

/-- 'laws.FnExactGetCsr', WHERE WHAT IT READS IS OF BULK AT MOST 1048576: true; the input reads as it did. -/
def fnExactGetCsrUptoRow : OpenClaim := { program := "ytedilhlcflmgjaa", sum := "6e28d5d5ca2b1a735bf44bbf41d8d26abef2d49a367e8152e03abcc684a768bf", func := "loop.example/g00213/laws.FnExactGetCsr", spec := "fnExactGetCsr", plainKeys := false, apart := false, narrowed := true }
def FnExactGetCsrUptoSaid : Prop := fnExactGetCsrUptoRow.holds Try.pinned (OpenSpec.upto fnExactGetCsrSpec)

/-- 'laws.FnExactSetCsr', WHERE WHAT IT READS IS OF BULK AT MOST 1048576: true; the input reads as it did. -/
def fnExactSetCsrUptoRow : OpenClaim := { program := "ytedilhlcflmgjaa", sum := "6e28d5d5ca2b1a735bf44bbf41d8d26abef2d49a367e8152e03abcc684a768bf", func := "loop.example/g00213/laws.FnExactSetCsr", spec := "fnExactSetCsr", plainKeys := false, apart := false, narrowed := true }
def FnExactSetCsrUptoSaid : Prop := fnExactSetCsrUptoRow.holds Try.pinned (OpenSpec.upto fnExactSetCsrSpec)

/-- 'laws.FnExactPendingOf', WHERE WHAT IT READS IS OF BULK AT MOST 1048576: true; the input reads as it did. -/
def fnExactPendingOfUptoRow : OpenClaim := { program := "ytedilhlcflmgjaa", sum := "6e28d5d5ca2b1a735bf44bbf41d8d26abef2d49a367e8152e03abcc684a768bf", func := "loop.example/g00213/laws.FnExactPendingOf", spec := "fnExactPendingOf", plainKeys := false, apart := false, narrowed := true }
def FnExactPendingOfUptoSaid : Prop := fnExactPendingOfUptoRow.holds Try.pinned (OpenSpec.upto fnExactPendingOfSpec)

/-- 'laws.FnExactTrapHart', WHERE WHAT IT READS IS OF BULK AT MOST 1048576: true; the input reads as it did. -/
def fnExactTrapHartUptoRow : OpenClaim := { program := "ytedilhlcflmgjaa", sum := "6e28d5d5ca2b1a735bf44bbf41d8d26abef2d49a367e8152e03abcc684a768bf", func := "loop.example/g00213/laws.FnExactTrapHart", spec := "fnExactTrapHart", plainKeys := false, apart := false, narrowed := true }
def FnExactTrapHartUptoSaid : Prop := fnExactTrapHartUptoRow.holds Try.pinned (OpenSpec.upto fnExactTrapHartSpec)

/-- 'laws.FnExactBackHart', WHERE WHAT IT READS IS OF BULK AT MOST 1048576: true; the input reads as it did. -/
def fnExactBackHartUptoRow : OpenClaim := { program := "ytedilhlcflmgjaa", sum := "6e28d5d5ca2b1a735bf44bbf41d8d26abef2d49a367e8152e03abcc684a768bf", func := "loop.example/g00213/laws.FnExactBackHart", spec := "fnExactBackHart", plainKeys := false, apart := false, narrowed := true }
def FnExactBackHartUptoSaid : Prop := fnExactBackHartUptoRow.holds Try.pinned (OpenSpec.upto fnExactBackHartSpec)

end Rows
end Go.Proofs.Ytedilhlcflmgjaa
