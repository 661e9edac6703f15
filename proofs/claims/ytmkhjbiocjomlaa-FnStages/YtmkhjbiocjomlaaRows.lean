/-
  No cell of these rows narrows 'for every input' (looked for: loops, veiled, ifaces, maps, wideKeys, modest, calm, conditions, laid).
  DERIVED. THE GIVEN ROWS OF THIS SEAT. 11 by the template 'for every input the law returns true; each argument reads behind the call as it read before'; 0 by the template 'total and deterministic' (their statements: YtmkhjbiocjomlaaTotals.lean).
  GIVEN WITH THE SEED: the statements are not yours to turn. If you find one false, say at which input.
  Laid BY PROGRAM, IN A SANDBOX (cutbox-rows.mjs): the forced cells as the released guide's own fill.sh prints them over the translation 969af71875bfecb7… (all of the seat's roots in one cut). By AI agents, Wed Nov 11 2026. No macro, syntax, notation, axiom, sorry.
-/
import Derived.Test.YtmkhjbiocjomlaaChecked
import GoSem.Claim
import GoSem.ClaimJoined
import GoSem.ClaimMapViews
import Derived.JoinedTies
import Derived.KernelRfl
namespace Go.Proofs.Ytmkhjbiocjomlaa
/- THE CELL 'sum', in the pinned program and in every row, IS THE sha256 OF THE DUMP (.gsa) THAT YtmkhjbiocjomlaaProg.lean LOADS. Nothing in Lean hashes anything: it is a label: what it is worth is what the hold of that sum in a sandbox is worth. -/
noncomputable def Try.pinned : Pinned := { name := "ytmkhjbiocjomlaa", sum := "969af71875bfecb7f4a6eeb94a92897fbb88eefc308657a32497bd2483a1ea44", checked := Try.checked }
namespace Rows
def none {H : Type} : Left H := { results := [], args := [] }

/-- 'laws.FnStages': WHATEVER THE INPUT: true; the input reads as it did. -/
def fnStagesSpec : ChangeSpec := { name := "fnStages", fn := fun _ => fun
  | [d] => { results := [.lit (.bool true)], args := [d] }
  | _ => none }
def fnStagesRow : OpenClaim := { program := "ytmkhjbiocjomlaa", sum := "969af71875bfecb7f4a6eeb94a92897fbb88eefc308657a32497bd2483a1ea44", func := "loop.example/g00213/laws.FnStages", spec := "fnStages", unfollowed := true, recurses := true, apart := false }
def FnStagesSaid : Prop := fnStagesRow.holds Try.pinned (OpenSpec.ofChange fnStagesSpec)

/-- ITS FALSE NEIGHBOUR: 'it returns false'. Refute it at one input. -/
def fnStagesWrong : ChangeSpec := { name := "fnStages", fn := fun _ => fun
  | [d] => { results := [.lit (.bool false)], args := [d] }
  | _ => none }
def FnStagesWrongFalsely : Prop := fnStagesRow.holds Try.pinned (OpenSpec.ofChange fnStagesWrong)

/-- 'laws.FnEntries': WHATEVER THE INPUT: true; the input reads as it did. -/
def fnEntriesSpec : ChangeSpec := { name := "fnEntries", fn := fun _ => fun
  | [d] => { results := [.lit (.bool true)], args := [d] }
  | _ => none }
def fnEntriesRow : OpenClaim := { program := "ytmkhjbiocjomlaa", sum := "969af71875bfecb7f4a6eeb94a92897fbb88eefc308657a32497bd2483a1ea44", func := "loop.example/g00213/laws.FnEntries", spec := "fnEntries", apart := false }
def FnEntriesSaid : Prop := fnEntriesRow.holds Try.pinned (OpenSpec.ofChange fnEntriesSpec)

/-- ITS FALSE NEIGHBOUR: 'it returns false'. Refute it at one input. -/
def fnEntriesWrong : ChangeSpec := { name := "fnEntries", fn := fun _ => fun
  | [d] => { results := [.lit (.bool false)], args := [d] }
  | _ => none }
def FnEntriesWrongFalsely : Prop := fnEntriesRow.holds Try.pinned (OpenSpec.ofChange fnEntriesWrong)

/-- 'laws.FnExactPagesFault': WHATEVER THE INPUT: true; the input reads as it did. -/
def fnExactPagesFaultSpec : ChangeSpec := { name := "fnExactPagesFault", fn := fun _ => fun
  | [d1, d2] => { results := [.lit (.bool true)], args := [d1, d2] }
  | _ => none }
def fnExactPagesFaultRow : OpenClaim := { program := "ytmkhjbiocjomlaa", sum := "969af71875bfecb7f4a6eeb94a92897fbb88eefc308657a32497bd2483a1ea44", func := "loop.example/g00213/laws.FnExactPagesFault", spec := "fnExactPagesFault", apart := false }
def FnExactPagesFaultSaid : Prop := fnExactPagesFaultRow.holds Try.pinned (OpenSpec.ofChange fnExactPagesFaultSpec)

/-- ITS FALSE NEIGHBOUR: 'it returns false'. Refute it at one input. -/
def fnExactPagesFaultWrong : ChangeSpec := { name := "fnExactPagesFault", fn := fun _ => fun
  | [d1, d2] => { results := [.lit (.bool false)], args := [d1, d2] }
  | _ => none }
def FnExactPagesFaultWrongFalsely : Prop := fnExactPagesFaultRow.holds Try.pinned (OpenSpec.ofChange fnExactPagesFaultWrong)

/-- 'laws.FnExactEntryOf': WHATEVER THE INPUT: true; the input reads as it did. -/
def fnExactEntryOfSpec : ChangeSpec := { name := "fnExactEntryOf", fn := fun _ => fun
  | [d] => { results := [.lit (.bool true)], args := [d] }
  | _ => none }
def fnExactEntryOfRow : OpenClaim := { program := "ytmkhjbiocjomlaa", sum := "969af71875bfecb7f4a6eeb94a92897fbb88eefc308657a32497bd2483a1ea44", func := "loop.example/g00213/laws.FnExactEntryOf", spec := "fnExactEntryOf", apart := false }
def FnExactEntryOfSaid : Prop := fnExactEntryOfRow.holds Try.pinned (OpenSpec.ofChange fnExactEntryOfSpec)

/-- ITS FALSE NEIGHBOUR: 'it returns false'. Refute it at one input. -/
def fnExactEntryOfWrong : ChangeSpec := { name := "fnExactEntryOf", fn := fun _ => fun
  | [d] => { results := [.lit (.bool false)], args := [d] }
  | _ => none }
def FnExactEntryOfWrongFalsely : Prop := fnExactEntryOfRow.holds Try.pinned (OpenSpec.ofChange fnExactEntryOfWrong)

/-- 'laws.FnExactEntryWord': WHATEVER THE INPUT: true; the input reads as it did. -/
def fnExactEntryWordSpec : ChangeSpec := { name := "fnExactEntryWord", fn := fun _ => fun
  | [d] => { results := [.lit (.bool true)], args := [d] }
  | _ => none }
def fnExactEntryWordRow : OpenClaim := { program := "ytmkhjbiocjomlaa", sum := "969af71875bfecb7f4a6eeb94a92897fbb88eefc308657a32497bd2483a1ea44", func := "loop.example/g00213/laws.FnExactEntryWord", spec := "fnExactEntryWord", apart := false }
def FnExactEntryWordSaid : Prop := fnExactEntryWordRow.holds Try.pinned (OpenSpec.ofChange fnExactEntryWordSpec)

/-- ITS FALSE NEIGHBOUR: 'it returns false'. Refute it at one input. -/
def fnExactEntryWordWrong : ChangeSpec := { name := "fnExactEntryWord", fn := fun _ => fun
  | [d] => { results := [.lit (.bool false)], args := [d] }
  | _ => none }
def FnExactEntryWordWrongFalsely : Prop := fnExactEntryWordRow.holds Try.pinned (OpenSpec.ofChange fnExactEntryWordWrong)

/-- 'laws.FnExactPagesFrom': WHATEVER THE INPUT: true; the input reads as it did. -/
def fnExactPagesFromSpec : ChangeSpec := { name := "fnExactPagesFrom", fn := fun _ => fun
  | [d] => { results := [.lit (.bool true)], args := [d] }
  | _ => none }
def fnExactPagesFromRow : OpenClaim := { program := "ytmkhjbiocjomlaa", sum := "969af71875bfecb7f4a6eeb94a92897fbb88eefc308657a32497bd2483a1ea44", func := "loop.example/g00213/laws.FnExactPagesFrom", spec := "fnExactPagesFrom", apart := false }
def FnExactPagesFromSaid : Prop := fnExactPagesFromRow.holds Try.pinned (OpenSpec.ofChange fnExactPagesFromSpec)

/-- ITS FALSE NEIGHBOUR: 'it returns false'. Refute it at one input. -/
def fnExactPagesFromWrong : ChangeSpec := { name := "fnExactPagesFrom", fn := fun _ => fun
  | [d] => { results := [.lit (.bool false)], args := [d] }
  | _ => none }
def FnExactPagesFromWrongFalsely : Prop := fnExactPagesFromRow.holds Try.pinned (OpenSpec.ofChange fnExactPagesFromWrong)

/-- 'laws.FnExactWalkPages': WHATEVER THE INPUT: true; the input reads as it did. -/
def fnExactWalkPagesSpec : ChangeSpec := { name := "fnExactWalkPages", fn := fun _ => fun
  | [d1, d2, d3] => { results := [.lit (.bool true)], args := [d1, d2, d3] }
  | _ => none }
def fnExactWalkPagesRow : OpenClaim := { program := "ytmkhjbiocjomlaa", sum := "969af71875bfecb7f4a6eeb94a92897fbb88eefc308657a32497bd2483a1ea44", func := "loop.example/g00213/laws.FnExactWalkPages", spec := "fnExactWalkPages", unfollowed := true, recurses := true, apart := false }
def FnExactWalkPagesSaid : Prop := fnExactWalkPagesRow.holds Try.pinned (OpenSpec.ofChange fnExactWalkPagesSpec)

/-- ITS FALSE NEIGHBOUR: 'it returns false'. Refute it at one input. -/
def fnExactWalkPagesWrong : ChangeSpec := { name := "fnExactWalkPages", fn := fun _ => fun
  | [d1, d2, d3] => { results := [.lit (.bool false)], args := [d1, d2, d3] }
  | _ => none }
def FnExactWalkPagesWrongFalsely : Prop := fnExactWalkPagesRow.holds Try.pinned (OpenSpec.ofChange fnExactWalkPagesWrong)

/-- 'laws.FnExactWalkBoth': WHATEVER THE INPUT: true; the input reads as it did. -/
def fnExactWalkBothSpec : ChangeSpec := { name := "fnExactWalkBoth", fn := fun _ => fun
  | [d1, d2, d3, d4] => { results := [.lit (.bool true)], args := [d1, d2, d3, d4] }
  | _ => none }
def fnExactWalkBothRow : OpenClaim := { program := "ytmkhjbiocjomlaa", sum := "969af71875bfecb7f4a6eeb94a92897fbb88eefc308657a32497bd2483a1ea44", func := "loop.example/g00213/laws.FnExactWalkBoth", spec := "fnExactWalkBoth", unfollowed := true, recurses := true, apart := false }
def FnExactWalkBothSaid : Prop := fnExactWalkBothRow.holds Try.pinned (OpenSpec.ofChange fnExactWalkBothSpec)

/-- ITS FALSE NEIGHBOUR: 'it returns false'. Refute it at one input. -/
def fnExactWalkBothWrong : ChangeSpec := { name := "fnExactWalkBoth", fn := fun _ => fun
  | [d1, d2, d3, d4] => { results := [.lit (.bool false)], args := [d1, d2, d3, d4] }
  | _ => none }
def FnExactWalkBothWrongFalsely : Prop := fnExactWalkBothRow.holds Try.pinned (OpenSpec.ofChange fnExactWalkBothWrong)

/-- 'laws.FnExactComposePages': WHATEVER THE INPUT: true; the input reads as it did. -/
def fnExactComposePagesSpec : ChangeSpec := { name := "fnExactComposePages", fn := fun _ => fun
  | [d1, d2] => { results := [.lit (.bool true)], args := [d1, d2] }
  | _ => none }
def fnExactComposePagesRow : OpenClaim := { program := "ytmkhjbiocjomlaa", sum := "969af71875bfecb7f4a6eeb94a92897fbb88eefc308657a32497bd2483a1ea44", func := "loop.example/g00213/laws.FnExactComposePages", spec := "fnExactComposePages", apart := false }
def FnExactComposePagesSaid : Prop := fnExactComposePagesRow.holds Try.pinned (OpenSpec.ofChange fnExactComposePagesSpec)

/-- ITS FALSE NEIGHBOUR: 'it returns false'. Refute it at one input. -/
def fnExactComposePagesWrong : ChangeSpec := { name := "fnExactComposePages", fn := fun _ => fun
  | [d1, d2] => { results := [.lit (.bool false)], args := [d1, d2] }
  | _ => none }
def FnExactComposePagesWrongFalsely : Prop := fnExactComposePagesRow.holds Try.pinned (OpenSpec.ofChange fnExactComposePagesWrong)

/-- 'laws.FnExactWritableBoth': WHATEVER THE INPUT: true; the input reads as it did. -/
def fnExactWritableBothSpec : ChangeSpec := { name := "fnExactWritableBoth", fn := fun _ => fun
  | [d1, d2] => { results := [.lit (.bool true)], args := [d1, d2] }
  | _ => none }
def fnExactWritableBothRow : OpenClaim := { program := "ytmkhjbiocjomlaa", sum := "969af71875bfecb7f4a6eeb94a92897fbb88eefc308657a32497bd2483a1ea44", func := "loop.example/g00213/laws.FnExactWritableBoth", spec := "fnExactWritableBoth", unfollowed := true, recurses := true, apart := false }
def FnExactWritableBothSaid : Prop := fnExactWritableBothRow.holds Try.pinned (OpenSpec.ofChange fnExactWritableBothSpec)

/-- ITS FALSE NEIGHBOUR: 'it returns false'. Refute it at one input. -/
def fnExactWritableBothWrong : ChangeSpec := { name := "fnExactWritableBoth", fn := fun _ => fun
  | [d1, d2] => { results := [.lit (.bool false)], args := [d1, d2] }
  | _ => none }
def FnExactWritableBothWrongFalsely : Prop := fnExactWritableBothRow.holds Try.pinned (OpenSpec.ofChange fnExactWritableBothWrong)

/-- 'laws.FnExactReadableBoth': WHATEVER THE INPUT: true; the input reads as it did. -/
def fnExactReadableBothSpec : ChangeSpec := { name := "fnExactReadableBoth", fn := fun _ => fun
  | [d1, d2] => { results := [.lit (.bool true)], args := [d1, d2] }
  | _ => none }
def fnExactReadableBothRow : OpenClaim := { program := "ytmkhjbiocjomlaa", sum := "969af71875bfecb7f4a6eeb94a92897fbb88eefc308657a32497bd2483a1ea44", func := "loop.example/g00213/laws.FnExactReadableBoth", spec := "fnExactReadableBoth", unfollowed := true, recurses := true, apart := false }
def FnExactReadableBothSaid : Prop := fnExactReadableBothRow.holds Try.pinned (OpenSpec.ofChange fnExactReadableBothSpec)

/-- ITS FALSE NEIGHBOUR: 'it returns false'. Refute it at one input. -/
def fnExactReadableBothWrong : ChangeSpec := { name := "fnExactReadableBoth", fn := fun _ => fun
  | [d1, d2] => { results := [.lit (.bool false)], args := [d1, d2] }
  | _ => none }
def FnExactReadableBothWrongFalsely : Prop := fnExactReadableBothRow.holds Try.pinned (OpenSpec.ofChange fnExactReadableBothWrong)

/- THE SECOND FORM. 'bulk': how many values and letters a reading holds, each counted each time it is reached (what is shared counts as often as it is met; a slice's spare places count too). A statement '..UptoSaid' is the law's where the arguments, and the package variables that the reading takes, are together of bulk at most 1048576: NARROWER than '..Said'. Prove '..Said' where nothing that the law and all that it calls make is longer than what came in: it says more and counts as full. Else prove '..UptoSaid'. A law counts once. -/
mutual
def uptoBulk {H : Type} : DataW H → Nat
  | .lit (.string bytes) => bytes.length + 1
  | .lit _ => 1
  | .nil => 1
  | .ptr d => uptoBulk d + 1
  | .slice elems spare => uptoBulkAll elems + uptoBulkAll spare + 1
  | .agg parts => uptoBulkAll parts + 1
  | .iface _ d => uptoBulk d + 1
  | .map entries => uptoBulkEntries entries + 1
  | .held _ => 1
def uptoBulkAll {H : Type} : List (DataW H) → Nat
  | [] => 0
  | d :: r => uptoBulk d + uptoBulkAll r
def uptoBulkEntries {H : Type} : List (Lit × DataW H) → Nat
  | [] => 0
  | x :: r => uptoBulkEntry x + uptoBulkEntries r
def uptoBulkEntry {H : Type} : Lit × DataW H → Nat
  | (.string bytes, d) => bytes.length + uptoBulk d + 1
  | (_, d) => uptoBulk d + 1
 end
def uptoSmall : (H : Type) → List (DataW H) → Bool := fun _ ds => decide (uptoBulkAll ds ≤ 1048576)
def OpenSpec.upto (s : _root_.Go.ChangeSpec) : _root_.Go.OpenSpec := { _root_.Go.OpenSpec.ofChange s with cond := some uptoSmall }

/-- 'laws.FnStages', WHERE WHAT IT READS IS OF BULK AT MOST 1048576: true; the input reads as it did. -/
def fnStagesUptoRow : OpenClaim := { program := "ytmkhjbiocjomlaa", sum := "969af71875bfecb7f4a6eeb94a92897fbb88eefc308657a32497bd2483a1ea44", func := "loop.example/g00213/laws.FnStages", spec := "fnStages", unfollowed := true, recurses := true, apart := false, narrowed := true }
def FnStagesUptoSaid : Prop := fnStagesUptoRow.holds Try.pinned (OpenSpec.upto fnStagesSpec)

/-- 'laws.FnEntries', WHERE WHAT IT READS IS OF BULK AT MOST 1048576: true; the input reads as it did. -/
def fnEntriesUptoRow : OpenClaim := { program := "ytmkhjbiocjomlaa", sum := "969af71875bfecb7f4a6eeb94a92897fbb88eefc308657a32497bd2483a1ea44", func := "loop.example/g00213/laws.FnEntries", spec := "fnEntries", apart := false, narrowed := true }
def FnEntriesUptoSaid : Prop := fnEntriesUptoRow.holds Try.pinned (OpenSpec.upto fnEntriesSpec)

/-- 'laws.FnExactPagesFault', WHERE WHAT IT READS IS OF BULK AT MOST 1048576: true; the input reads as it did. -/
def fnExactPagesFaultUptoRow : OpenClaim := { program := "ytmkhjbiocjomlaa", sum := "969af71875bfecb7f4a6eeb94a92897fbb88eefc308657a32497bd2483a1ea44", func := "loop.example/g00213/laws.FnExactPagesFault", spec := "fnExactPagesFault", apart := false, narrowed := true }
def FnExactPagesFaultUptoSaid : Prop := fnExactPagesFaultUptoRow.holds Try.pinned (OpenSpec.upto fnExactPagesFaultSpec)

/-- 'laws.FnExactEntryOf', WHERE WHAT IT READS IS OF BULK AT MOST 1048576: true; the input reads as it did. -/
def fnExactEntryOfUptoRow : OpenClaim := { program := "ytmkhjbiocjomlaa", sum := "969af71875bfecb7f4a6eeb94a92897fbb88eefc308657a32497bd2483a1ea44", func := "loop.example/g00213/laws.FnExactEntryOf", spec := "fnExactEntryOf", apart := false, narrowed := true }
def FnExactEntryOfUptoSaid : Prop := fnExactEntryOfUptoRow.holds Try.pinned (OpenSpec.upto fnExactEntryOfSpec)

/-- 'laws.FnExactEntryWord', WHERE WHAT IT READS IS OF BULK AT MOST 1048576: true; the input reads as it did. -/
def fnExactEntryWordUptoRow : OpenClaim := { program := "ytmkhjbiocjomlaa", sum := "969af71875bfecb7f4a6eeb94a92897fbb88eefc308657a32497bd2483a1ea44", func := "loop.example/g00213/laws.FnExactEntryWord", spec := "fnExactEntryWord", apart := false, narrowed := true }
def FnExactEntryWordUptoSaid : Prop := fnExactEntryWordUptoRow.holds Try.pinned (OpenSpec.upto fnExactEntryWordSpec)

/-- 'laws.FnExactPagesFrom', WHERE WHAT IT READS IS OF BULK AT MOST 1048576: true; the input reads as it did. -/
def fnExactPagesFromUptoRow : OpenClaim := { program := "ytmkhjbiocjomlaa", sum := "969af71875bfecb7f4a6eeb94a92897fbb88eefc308657a32497bd2483a1ea44", func := "loop.example/g00213/laws.FnExactPagesFrom", spec := "fnExactPagesFrom", apart := false, narrowed := true }
def FnExactPagesFromUptoSaid : Prop := fnExactPagesFromUptoRow.holds Try.pinned (OpenSpec.upto fnExactPagesFromSpec)

/-- 'laws.FnExactWalkPages', WHERE WHAT IT READS IS OF BULK AT MOST 1048576: true; the input reads as it did. -/
def fnExactWalkPagesUptoRow : OpenClaim := { program := "ytmkhjbiocjomlaa", sum := "969af71875bfecb7f4a6eeb94a92897fbb88eefc308657a32497bd2483a1ea44", func := "loop.example/g00213/laws.FnExactWalkPages", spec := "fnExactWalkPages", unfollowed := true, recurses := true, apart := false, narrowed := true }
def FnExactWalkPagesUptoSaid : Prop := fnExactWalkPagesUptoRow.holds Try.pinned (OpenSpec.upto fnExactWalkPagesSpec)

/-- 'laws.FnExactWalkBoth', WHERE WHAT IT READS IS OF BULK AT MOST 1048576: true; the input reads as it did. -/
def fnExactWalkBothUptoRow : OpenClaim := { program := "ytmkhjbiocjomlaa", sum := "969af71875bfecb7f4a6eeb94a92897fbb88eefc308657a32497bd2483a1ea44", func := "loop.example/g00213/laws.FnExactWalkBoth", spec := "fnExactWalkBoth", unfollowed := true, recurses := true, apart := false, narrowed := true }
def FnExactWalkBothUptoSaid : Prop := fnExactWalkBothUptoRow.holds Try.pinned (OpenSpec.upto fnExactWalkBothSpec)

/-- 'laws.FnExactComposePages', WHERE WHAT IT READS IS OF BULK AT MOST 1048576: true; the input reads as it did. -/
def fnExactComposePagesUptoRow : OpenClaim := { program := "ytmkhjbiocjomlaa", sum := "969af71875bfecb7f4a6eeb94a92897fbb88eefc308657a32497bd2483a1ea44", func := "loop.example/g00213/laws.FnExactComposePages", spec := "fnExactComposePages", apart := false, narrowed := true }
def FnExactComposePagesUptoSaid : Prop := fnExactComposePagesUptoRow.holds Try.pinned (OpenSpec.upto fnExactComposePagesSpec)

/-- 'laws.FnExactWritableBoth', WHERE WHAT IT READS IS OF BULK AT MOST 1048576: true; the input reads as it did. -/
def fnExactWritableBothUptoRow : OpenClaim := { program := "ytmkhjbiocjomlaa", sum := "969af71875bfecb7f4a6eeb94a92897fbb88eefc308657a32497bd2483a1ea44", func := "loop.example/g00213/laws.FnExactWritableBoth", spec := "fnExactWritableBoth", unfollowed := true, recurses := true, apart := false, narrowed := true }
def FnExactWritableBothUptoSaid : Prop := fnExactWritableBothUptoRow.holds Try.pinned (OpenSpec.upto fnExactWritableBothSpec)

/-- 'laws.FnExactReadableBoth', WHERE WHAT IT READS IS OF BULK AT MOST 1048576: true; the input reads as it did. -/
def fnExactReadableBothUptoRow : OpenClaim := { program := "ytmkhjbiocjomlaa", sum := "969af71875bfecb7f4a6eeb94a92897fbb88eefc308657a32497bd2483a1ea44", func := "loop.example/g00213/laws.FnExactReadableBoth", spec := "fnExactReadableBoth", unfollowed := true, recurses := true, apart := false, narrowed := true }
def FnExactReadableBothUptoSaid : Prop := fnExactReadableBothUptoRow.holds Try.pinned (OpenSpec.upto fnExactReadableBothSpec)

end Rows
end Go.Proofs.Ytmkhjbiocjomlaa
