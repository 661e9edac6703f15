/-
  No cell of these rows narrows 'for every input' (looked for: loops, veiled, ifaces, maps, wideKeys, modest, calm, conditions, laid).
  DERIVED. THE GIVEN ROWS OF THIS SEAT. 7 by the template 'for every input the law returns true; each argument reads behind the call as it read before'; 0 by the template 'total and deterministic' (their statements: YtppchckdkdpmaaaTotals.lean).
  GIVEN WITH THE SEED: the statements are not yours to turn. If you find one false, say at which input.
  Laid BY PROGRAM, IN A SANDBOX (cutbox-rows.mjs): the forced cells as the released guide's own fill.sh prints them over the translation 4a924e457ed9ad82… (all of the seat's roots in one cut). By AI agents, Wed Nov 11 2026. No macro, syntax, notation, axiom, sorry.
-/
import Derived.Test.YtppchckdkdpmaaaChecked
import GoSem.Claim
import GoSem.ClaimJoined
import GoSem.ClaimMapViews
import Derived.JoinedTies
import Derived.KernelRfl
namespace Go.Proofs.Ytppchckdkdpmaaa
/- THE CELL 'sum', in the pinned program and in every row, IS THE sha256 OF THE DUMP (.gsa) THAT YtppchckdkdpmaaaProg.lean LOADS. Nothing in Lean hashes anything: it is a label: what it is worth is what the hold of that sum in a sandbox is worth. -/
noncomputable def Try.pinned : Pinned := { name := "ytppchckdkdpmaaa", sum := "4a924e457ed9ad82714d3f51abada0acaf9618a235a605cbd42b89e74c96e60d", checked := Try.checked }
namespace Rows
def none {H : Type} : Left H := { results := [], args := [] }

/-- 'laws.FnExactInsFault': WHATEVER THE INPUT: true; the input reads as it did. -/
def fnExactInsFaultSpec : ChangeSpec := { name := "fnExactInsFault", fn := fun _ => fun
  | [d] => { results := [.lit (.bool true)], args := [d] }
  | _ => none }
def fnExactInsFaultRow : OpenClaim := { program := "ytppchckdkdpmaaa", sum := "4a924e457ed9ad82714d3f51abada0acaf9618a235a605cbd42b89e74c96e60d", func := "loop.example/g00213/laws.FnExactInsFault", spec := "fnExactInsFault", apart := false }
def FnExactInsFaultSaid : Prop := fnExactInsFaultRow.holds Try.pinned (OpenSpec.ofChange fnExactInsFaultSpec)

/-- ITS FALSE NEIGHBOUR: 'it returns false'. Refute it at one input. -/
def fnExactInsFaultWrong : ChangeSpec := { name := "fnExactInsFault", fn := fun _ => fun
  | [d] => { results := [.lit (.bool false)], args := [d] }
  | _ => none }
def FnExactInsFaultWrongFalsely : Prop := fnExactInsFaultRow.holds Try.pinned (OpenSpec.ofChange fnExactInsFaultWrong)

/-- 'laws.FnExactEncodeIns': WHATEVER THE INPUT: true; the input reads as it did. -/
def fnExactEncodeInsSpec : ChangeSpec := { name := "fnExactEncodeIns", fn := fun _ => fun
  | [d] => { results := [.lit (.bool true)], args := [d] }
  | _ => none }
def fnExactEncodeInsRow : OpenClaim := { program := "ytppchckdkdpmaaa", sum := "4a924e457ed9ad82714d3f51abada0acaf9618a235a605cbd42b89e74c96e60d", func := "loop.example/g00213/laws.FnExactEncodeIns", spec := "fnExactEncodeIns", apart := false }
def FnExactEncodeInsSaid : Prop := fnExactEncodeInsRow.holds Try.pinned (OpenSpec.ofChange fnExactEncodeInsSpec)

/-- ITS FALSE NEIGHBOUR: 'it returns false'. Refute it at one input. -/
def fnExactEncodeInsWrong : ChangeSpec := { name := "fnExactEncodeIns", fn := fun _ => fun
  | [d] => { results := [.lit (.bool false)], args := [d] }
  | _ => none }
def FnExactEncodeInsWrongFalsely : Prop := fnExactEncodeInsRow.holds Try.pinned (OpenSpec.ofChange fnExactEncodeInsWrong)

/-- 'laws.FnExactDecodeIns': WHATEVER THE INPUT: true; the input reads as it did. -/
def fnExactDecodeInsSpec : ChangeSpec := { name := "fnExactDecodeIns", fn := fun _ => fun
  | [d] => { results := [.lit (.bool true)], args := [d] }
  | _ => none }
def fnExactDecodeInsRow : OpenClaim := { program := "ytppchckdkdpmaaa", sum := "4a924e457ed9ad82714d3f51abada0acaf9618a235a605cbd42b89e74c96e60d", func := "loop.example/g00213/laws.FnExactDecodeIns", spec := "fnExactDecodeIns", apart := false }
def FnExactDecodeInsSaid : Prop := fnExactDecodeInsRow.holds Try.pinned (OpenSpec.ofChange fnExactDecodeInsSpec)

/-- ITS FALSE NEIGHBOUR: 'it returns false'. Refute it at one input. -/
def fnExactDecodeInsWrong : ChangeSpec := { name := "fnExactDecodeIns", fn := fun _ => fun
  | [d] => { results := [.lit (.bool false)], args := [d] }
  | _ => none }
def FnExactDecodeInsWrongFalsely : Prop := fnExactDecodeInsRow.holds Try.pinned (OpenSpec.ofChange fnExactDecodeInsWrong)

/-- 'laws.FnExactAluOf': WHATEVER THE INPUT: true; the input reads as it did. -/
def fnExactAluOfSpec : ChangeSpec := { name := "fnExactAluOf", fn := fun _ => fun
  | [d1, d2, d3] => { results := [.lit (.bool true)], args := [d1, d2, d3] }
  | _ => none }
def fnExactAluOfRow : OpenClaim := { program := "ytppchckdkdpmaaa", sum := "4a924e457ed9ad82714d3f51abada0acaf9618a235a605cbd42b89e74c96e60d", func := "loop.example/g00213/laws.FnExactAluOf", spec := "fnExactAluOf", unfollowed := true, recurses := true, apart := false }
def FnExactAluOfSaid : Prop := fnExactAluOfRow.holds Try.pinned (OpenSpec.ofChange fnExactAluOfSpec)

/-- ITS FALSE NEIGHBOUR: 'it returns false'. Refute it at one input. -/
def fnExactAluOfWrong : ChangeSpec := { name := "fnExactAluOf", fn := fun _ => fun
  | [d1, d2, d3] => { results := [.lit (.bool false)], args := [d1, d2, d3] }
  | _ => none }
def FnExactAluOfWrongFalsely : Prop := fnExactAluOfRow.holds Try.pinned (OpenSpec.ofChange fnExactAluOfWrong)

/-- 'laws.FnExactOffsetOf': WHATEVER THE INPUT: true; the input reads as it did. -/
def fnExactOffsetOfSpec : ChangeSpec := { name := "fnExactOffsetOf", fn := fun _ => fun
  | [d] => { results := [.lit (.bool true)], args := [d] }
  | _ => none }
def fnExactOffsetOfRow : OpenClaim := { program := "ytppchckdkdpmaaa", sum := "4a924e457ed9ad82714d3f51abada0acaf9618a235a605cbd42b89e74c96e60d", func := "loop.example/g00213/laws.FnExactOffsetOf", spec := "fnExactOffsetOf", apart := false }
def FnExactOffsetOfSaid : Prop := fnExactOffsetOfRow.holds Try.pinned (OpenSpec.ofChange fnExactOffsetOfSpec)

/-- ITS FALSE NEIGHBOUR: 'it returns false'. Refute it at one input. -/
def fnExactOffsetOfWrong : ChangeSpec := { name := "fnExactOffsetOf", fn := fun _ => fun
  | [d] => { results := [.lit (.bool false)], args := [d] }
  | _ => none }
def FnExactOffsetOfWrongFalsely : Prop := fnExactOffsetOfRow.holds Try.pinned (OpenSpec.ofChange fnExactOffsetOfWrong)

/-- 'laws.FnExactWritesD': WHATEVER THE INPUT: true; the input reads as it did. -/
def fnExactWritesDSpec : ChangeSpec := { name := "fnExactWritesD", fn := fun _ => fun
  | [d] => { results := [.lit (.bool true)], args := [d] }
  | _ => none }
def fnExactWritesDRow : OpenClaim := { program := "ytppchckdkdpmaaa", sum := "4a924e457ed9ad82714d3f51abada0acaf9618a235a605cbd42b89e74c96e60d", func := "loop.example/g00213/laws.FnExactWritesD", spec := "fnExactWritesD", apart := false }
def FnExactWritesDSaid : Prop := fnExactWritesDRow.holds Try.pinned (OpenSpec.ofChange fnExactWritesDSpec)

/-- ITS FALSE NEIGHBOUR: 'it returns false'. Refute it at one input. -/
def fnExactWritesDWrong : ChangeSpec := { name := "fnExactWritesD", fn := fun _ => fun
  | [d] => { results := [.lit (.bool false)], args := [d] }
  | _ => none }
def FnExactWritesDWrongFalsely : Prop := fnExactWritesDRow.holds Try.pinned (OpenSpec.ofChange fnExactWritesDWrong)

/-- 'laws.FnExactOpName': WHATEVER THE INPUT: true; the input reads as it did. -/
def fnExactOpNameSpec : ChangeSpec := { name := "fnExactOpName", fn := fun _ => fun
  | [d] => { results := [.lit (.bool true)], args := [d] }
  | _ => none }
def fnExactOpNameRow : OpenClaim := { program := "ytppchckdkdpmaaa", sum := "4a924e457ed9ad82714d3f51abada0acaf9618a235a605cbd42b89e74c96e60d", func := "loop.example/g00213/laws.FnExactOpName", spec := "fnExactOpName", apart := false }
def FnExactOpNameSaid : Prop := fnExactOpNameRow.holds Try.pinned (OpenSpec.ofChange fnExactOpNameSpec)

/-- ITS FALSE NEIGHBOUR: 'it returns false'. Refute it at one input. -/
def fnExactOpNameWrong : ChangeSpec := { name := "fnExactOpName", fn := fun _ => fun
  | [d] => { results := [.lit (.bool false)], args := [d] }
  | _ => none }
def FnExactOpNameWrongFalsely : Prop := fnExactOpNameRow.holds Try.pinned (OpenSpec.ofChange fnExactOpNameWrong)

/- THE SECOND FORM. 'bulk': how many values and letters a reading holds, each counted each time it is reached (what is shared counts as often as it is met; a slice's spare places count too). A statement '..UptoSaid' is the law's where the arguments, and the package variables that the reading takes, are together of bulk at most 1048576: NARROWER than '..Said'. Prove '..Said' where nothing that the law and all that it calls make is longer than what came in: it says more and counts as full. Else prove '..UptoSaid'. A law counts once. -/
mutual
def uptoBulk {H : Type} : DataW H → Nat
  | .lit (.string bytes) => bytes.length + 1
  | .lit _ => 1
  | .nil => 1
  | .ptr d => uptoBulk d + 1
  | .slice elems spare => uptoBulkAll elems + uptoBulkAll spare + 1
  | .agg parts => uptoBulkAll parts + 1
  | .iface _ d => uptoBulk d + 1
  | .map entries => uptoBulkEntries entries + 1
  | .held _ => 1
def uptoBulkAll {H : Type} : List (DataW H) → Nat
  | [] => 0
  | d :: r => uptoBulk d + uptoBulkAll r
def uptoBulkEntries {H : Type} : List (Lit × DataW H) → Nat
  | [] => 0
  | x :: r => uptoBulkEntry x + uptoBulkEntries r
def uptoBulkEntry {H : Type} : Lit × DataW H → Nat
  | (.string bytes, d) => bytes.length + uptoBulk d + 1
  | (_, d) => uptoBulk d + 1
 end
def uptoSmall : (H : Type) → List (DataW H) → Bool := fun _ ds => decide (uptoBulkAll ds ≤ 1048576)
def OpenSpec.upto (s : _root_.Go.ChangeSpec) : _root_.Go.OpenSpec := { _root_.Go.OpenSpec.ofChange s with cond := some uptoSmall }

/-- 'laws.FnExactInsFault', WHERE WHAT IT READS IS OF BULK AT MOST 1048576: true; the input reads as it did. -/
def fnExactInsFaultUptoRow : OpenClaim := { program := "ytppchckdkdpmaaa", sum := "4a924e457ed9ad82714d3f51abada0acaf9618a235a605cbd42b89e74c96e60d", func := "loop.example/g00213/laws.FnExactInsFault", spec := "fnExactInsFault", apart := false, narrowed := true }
def FnExactInsFaultUptoSaid : Prop := fnExactInsFaultUptoRow.holds Try.pinned (OpenSpec.upto fnExactInsFaultSpec)

/-- 'laws.FnExactEncodeIns', WHERE WHAT IT READS IS OF BULK AT MOST 1048576: true; the input reads as it did. -/
def fnExactEncodeInsUptoRow : OpenClaim := { program := "ytppchckdkdpmaaa", sum := "4a924e457ed9ad82714d3f51abada0acaf9618a235a605cbd42b89e74c96e60d", func := "loop.example/g00213/laws.FnExactEncodeIns", spec := "fnExactEncodeIns", apart := false, narrowed := true }
def FnExactEncodeInsUptoSaid : Prop := fnExactEncodeInsUptoRow.holds Try.pinned (OpenSpec.upto fnExactEncodeInsSpec)

/-- 'laws.FnExactDecodeIns', WHERE WHAT IT READS IS OF BULK AT MOST 1048576: true; the input reads as it did. -/
def fnExactDecodeInsUptoRow : OpenClaim := { program := "ytppchckdkdpmaaa", sum := "4a924e457ed9ad82714d3f51abada0acaf9618a235a605cbd42b89e74c96e60d", func := "loop.example/g00213/laws.FnExactDecodeIns", spec := "fnExactDecodeIns", apart := false, narrowed := true }
def FnExactDecodeInsUptoSaid : Prop := fnExactDecodeInsUptoRow.holds Try.pinned (OpenSpec.upto fnExactDecodeInsSpec)

/-- 'laws.FnExactAluOf', WHERE WHAT IT READS IS OF BULK AT MOST 1048576: true; the input reads as it did. -/
def fnExactAluOfUptoRow : OpenClaim := { program := "ytppchckdkdpmaaa", sum := "4a924e457ed9ad82714d3f51abada0acaf9618a235a605cbd42b89e74c96e60d", func := "loop.example/g00213/laws.FnExactAluOf", spec := "fnExactAluOf", unfollowed := true, recurses := true, apart := false, narrowed := true }
def FnExactAluOfUptoSaid : Prop := fnExactAluOfUptoRow.holds Try.pinned (OpenSpec.upto fnExactAluOfSpec)

/-- 'laws.FnExactOffsetOf', WHERE WHAT IT READS IS OF BULK AT MOST 1048576: true; the input reads as it did. -/
def fnExactOffsetOfUptoRow : OpenClaim := { program := "ytppchckdkdpmaaa", sum := "4a924e457ed9ad82714d3f51abada0acaf9618a235a605cbd42b89e74c96e60d", func := "loop.example/g00213/laws.FnExactOffsetOf", spec := "fnExactOffsetOf", apart := false, narrowed := true }
def FnExactOffsetOfUptoSaid : Prop := fnExactOffsetOfUptoRow.holds Try.pinned (OpenSpec.upto fnExactOffsetOfSpec)

/-- 'laws.FnExactWritesD', WHERE WHAT IT READS IS OF BULK AT MOST 1048576: true; the input reads as it did. -/
def fnExactWritesDUptoRow : OpenClaim := { program := "ytppchckdkdpmaaa", sum := "4a924e457ed9ad82714d3f51abada0acaf9618a235a605cbd42b89e74c96e60d", func := "loop.example/g00213/laws.FnExactWritesD", spec := "fnExactWritesD", apart := false, narrowed := true }
def FnExactWritesDUptoSaid : Prop := fnExactWritesDUptoRow.holds Try.pinned (OpenSpec.upto fnExactWritesDSpec)

/-- 'laws.FnExactOpName', WHERE WHAT IT READS IS OF BULK AT MOST 1048576: true; the input reads as it did. -/
def fnExactOpNameUptoRow : OpenClaim := { program := "ytppchckdkdpmaaa", sum := "4a924e457ed9ad82714d3f51abada0acaf9618a235a605cbd42b89e74c96e60d", func := "loop.example/g00213/laws.FnExactOpName", spec := "fnExactOpName", apart := false, narrowed := true }
def FnExactOpNameUptoSaid : Prop := fnExactOpNameUptoRow.holds Try.pinned (OpenSpec.upto fnExactOpNameSpec)

end Rows
end Go.Proofs.Ytppchckdkdpmaaa
