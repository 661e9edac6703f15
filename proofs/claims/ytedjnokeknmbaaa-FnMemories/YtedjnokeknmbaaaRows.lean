/-
  No cell of these rows narrows 'for every input' (looked for: loops, veiled, ifaces, maps, wideKeys, modest, calm, conditions, laid).
  DERIVED. THE GIVEN ROWS OF THIS SEAT. 11 by the template 'for every input the law returns true; each argument reads behind the call as it read before'; 0 by the template 'total and deterministic' (their statements: YtedjnokeknmbaaaTotals.lean).
  GIVEN WITH THE SEED: the statements are not yours to turn. If you find one false, say at which input.
  Laid BY PROGRAM, IN A SANDBOX (cutbox-rows.mjs): the forced cells as the released guide's own fill.sh prints them over the translation cf2cd4924a24df5e… (all of the seat's roots in one cut). By AI agents, Wed Nov 11 2026. No macro, syntax, notation, axiom, sorry.
-/
import Derived.Test.YtedjnokeknmbaaaChecked
import GoSem.Claim
import GoSem.ClaimJoined
import GoSem.ClaimMapViews
import Derived.JoinedTies
import Derived.KernelRfl
namespace Go.Proofs.Ytedjnokeknmbaaa
/- THE CELL 'sum', in the pinned program and in every row, IS THE sha256 OF THE DUMP (.gsa) THAT YtedjnokeknmbaaaProg.lean LOADS. Nothing in Lean hashes anything: it is a label: what it is worth is what the hold of that sum in a sandbox is worth. -/
noncomputable def Try.pinned : Pinned := { name := "ytedjnokeknmbaaa", sum := "cf2cd4924a24df5e5cb995d163ee1018bd62cf4b05c2673ac5ab9868782c1d14", checked := Try.checked }
namespace Rows
def none {H : Type} : Left H := { results := [], args := [] }

/-- 'laws.FnMemories': WHATEVER THE INPUT: true; the input reads as it did. -/
def fnMemoriesSpec : ChangeSpec := { name := "fnMemories", fn := fun _ => fun
  | [d] => { results := [.lit (.bool true)], args := [d] }
  | _ => none }
def fnMemoriesRow : OpenClaim := { program := "ytedjnokeknmbaaa", sum := "cf2cd4924a24df5e5cb995d163ee1018bd62cf4b05c2673ac5ab9868782c1d14", func := "loop.example/g00213/laws.FnMemories", spec := "fnMemories", apart := false }
def FnMemoriesSaid : Prop := fnMemoriesRow.holds Try.pinned (OpenSpec.ofChange fnMemoriesSpec)

/-- ITS FALSE NEIGHBOUR: 'it returns false'. Refute it at one input. -/
def fnMemoriesWrong : ChangeSpec := { name := "fnMemories", fn := fun _ => fun
  | [d] => { results := [.lit (.bool false)], args := [d] }
  | _ => none }
def FnMemoriesWrongFalsely : Prop := fnMemoriesRow.holds Try.pinned (OpenSpec.ofChange fnMemoriesWrong)

/-- 'laws.FnExactMemoryFault': WHATEVER THE INPUT: true; the input reads as it did. -/
def fnExactMemoryFaultSpec : ChangeSpec := { name := "fnExactMemoryFault", fn := fun _ => fun
  | [d] => { results := [.lit (.bool true)], args := [d] }
  | _ => none }
def fnExactMemoryFaultRow : OpenClaim := { program := "ytedjnokeknmbaaa", sum := "cf2cd4924a24df5e5cb995d163ee1018bd62cf4b05c2673ac5ab9868782c1d14", func := "loop.example/g00213/laws.FnExactMemoryFault", spec := "fnExactMemoryFault", apart := false }
def FnExactMemoryFaultSaid : Prop := fnExactMemoryFaultRow.holds Try.pinned (OpenSpec.ofChange fnExactMemoryFaultSpec)

/-- ITS FALSE NEIGHBOUR: 'it returns false'. Refute it at one input. -/
def fnExactMemoryFaultWrong : ChangeSpec := { name := "fnExactMemoryFault", fn := fun _ => fun
  | [d] => { results := [.lit (.bool false)], args := [d] }
  | _ => none }
def FnExactMemoryFaultWrongFalsely : Prop := fnExactMemoryFaultRow.holds Try.pinned (OpenSpec.ofChange fnExactMemoryFaultWrong)

/-- 'laws.FnExactNewMemory': WHATEVER THE INPUT: true; the input reads as it did. -/
def fnExactNewMemorySpec : ChangeSpec := { name := "fnExactNewMemory", fn := fun _ => fun
  | [d] => { results := [.lit (.bool true)], args := [d] }
  | _ => none }
def fnExactNewMemoryRow : OpenClaim := { program := "ytedjnokeknmbaaa", sum := "cf2cd4924a24df5e5cb995d163ee1018bd62cf4b05c2673ac5ab9868782c1d14", func := "loop.example/g00213/laws.FnExactNewMemory", spec := "fnExactNewMemory", apart := false }
def FnExactNewMemorySaid : Prop := fnExactNewMemoryRow.holds Try.pinned (OpenSpec.ofChange fnExactNewMemorySpec)

/-- ITS FALSE NEIGHBOUR: 'it returns false'. Refute it at one input. -/
def fnExactNewMemoryWrong : ChangeSpec := { name := "fnExactNewMemory", fn := fun _ => fun
  | [d] => { results := [.lit (.bool false)], args := [d] }
  | _ => none }
def FnExactNewMemoryWrongFalsely : Prop := fnExactNewMemoryRow.holds Try.pinned (OpenSpec.ofChange fnExactNewMemoryWrong)

/-- 'laws.FnExactReadWord': WHATEVER THE INPUT: true; the input reads as it did. -/
def fnExactReadWordSpec : ChangeSpec := { name := "fnExactReadWord", fn := fun _ => fun
  | [d1, d2] => { results := [.lit (.bool true)], args := [d1, d2] }
  | _ => none }
def fnExactReadWordRow : OpenClaim := { program := "ytedjnokeknmbaaa", sum := "cf2cd4924a24df5e5cb995d163ee1018bd62cf4b05c2673ac5ab9868782c1d14", func := "loop.example/g00213/laws.FnExactReadWord", spec := "fnExactReadWord", apart := false }
def FnExactReadWordSaid : Prop := fnExactReadWordRow.holds Try.pinned (OpenSpec.ofChange fnExactReadWordSpec)

/-- ITS FALSE NEIGHBOUR: 'it returns false'. Refute it at one input. -/
def fnExactReadWordWrong : ChangeSpec := { name := "fnExactReadWord", fn := fun _ => fun
  | [d1, d2] => { results := [.lit (.bool false)], args := [d1, d2] }
  | _ => none }
def FnExactReadWordWrongFalsely : Prop := fnExactReadWordRow.holds Try.pinned (OpenSpec.ofChange fnExactReadWordWrong)

/-- 'laws.FnExactWriteWord': WHATEVER THE INPUT: true; the input reads as it did. -/
def fnExactWriteWordSpec : ChangeSpec := { name := "fnExactWriteWord", fn := fun _ => fun
  | [d1, d2, d3] => { results := [.lit (.bool true)], args := [d1, d2, d3] }
  | _ => none }
def fnExactWriteWordRow : OpenClaim := { program := "ytedjnokeknmbaaa", sum := "cf2cd4924a24df5e5cb995d163ee1018bd62cf4b05c2673ac5ab9868782c1d14", func := "loop.example/g00213/laws.FnExactWriteWord", spec := "fnExactWriteWord", apart := false }
def FnExactWriteWordSaid : Prop := fnExactWriteWordRow.holds Try.pinned (OpenSpec.ofChange fnExactWriteWordSpec)

/-- ITS FALSE NEIGHBOUR: 'it returns false'. Refute it at one input. -/
def fnExactWriteWordWrong : ChangeSpec := { name := "fnExactWriteWord", fn := fun _ => fun
  | [d1, d2, d3] => { results := [.lit (.bool false)], args := [d1, d2, d3] }
  | _ => none }
def FnExactWriteWordWrongFalsely : Prop := fnExactWriteWordRow.holds Try.pinned (OpenSpec.ofChange fnExactWriteWordWrong)

/-- 'laws.FnExactLoadWords': WHATEVER THE INPUT: true; the input reads as it did. -/
def fnExactLoadWordsSpec : ChangeSpec := { name := "fnExactLoadWords", fn := fun _ => fun
  | [d1, d2, d3] => { results := [.lit (.bool true)], args := [d1, d2, d3] }
  | _ => none }
def fnExactLoadWordsRow : OpenClaim := { program := "ytedjnokeknmbaaa", sum := "cf2cd4924a24df5e5cb995d163ee1018bd62cf4b05c2673ac5ab9868782c1d14", func := "loop.example/g00213/laws.FnExactLoadWords", spec := "fnExactLoadWords", apart := false }
def FnExactLoadWordsSaid : Prop := fnExactLoadWordsRow.holds Try.pinned (OpenSpec.ofChange fnExactLoadWordsSpec)

/-- ITS FALSE NEIGHBOUR: 'it returns false'. Refute it at one input. -/
def fnExactLoadWordsWrong : ChangeSpec := { name := "fnExactLoadWords", fn := fun _ => fun
  | [d1, d2, d3] => { results := [.lit (.bool false)], args := [d1, d2, d3] }
  | _ => none }
def FnExactLoadWordsWrongFalsely : Prop := fnExactLoadWordsRow.holds Try.pinned (OpenSpec.ofChange fnExactLoadWordsWrong)

/-- 'laws.FnExactRegionFault': WHATEVER THE INPUT: true; the input reads as it did. -/
def fnExactRegionFaultSpec : ChangeSpec := { name := "fnExactRegionFault", fn := fun _ => fun
  | [d] => { results := [.lit (.bool true)], args := [d] }
  | _ => none }
def fnExactRegionFaultRow : OpenClaim := { program := "ytedjnokeknmbaaa", sum := "cf2cd4924a24df5e5cb995d163ee1018bd62cf4b05c2673ac5ab9868782c1d14", func := "loop.example/g00213/laws.FnExactRegionFault", spec := "fnExactRegionFault", apart := false }
def FnExactRegionFaultSaid : Prop := fnExactRegionFaultRow.holds Try.pinned (OpenSpec.ofChange fnExactRegionFaultSpec)

/-- ITS FALSE NEIGHBOUR: 'it returns false'. Refute it at one input. -/
def fnExactRegionFaultWrong : ChangeSpec := { name := "fnExactRegionFault", fn := fun _ => fun
  | [d] => { results := [.lit (.bool false)], args := [d] }
  | _ => none }
def FnExactRegionFaultWrongFalsely : Prop := fnExactRegionFaultRow.holds Try.pinned (OpenSpec.ofChange fnExactRegionFaultWrong)

/-- 'laws.FnExactRegionsMeet': WHATEVER THE INPUT: true; the input reads as it did. -/
def fnExactRegionsMeetSpec : ChangeSpec := { name := "fnExactRegionsMeet", fn := fun _ => fun
  | [d1, d2] => { results := [.lit (.bool true)], args := [d1, d2] }
  | _ => none }
def fnExactRegionsMeetRow : OpenClaim := { program := "ytedjnokeknmbaaa", sum := "cf2cd4924a24df5e5cb995d163ee1018bd62cf4b05c2673ac5ab9868782c1d14", func := "loop.example/g00213/laws.FnExactRegionsMeet", spec := "fnExactRegionsMeet", apart := false }
def FnExactRegionsMeetSaid : Prop := fnExactRegionsMeetRow.holds Try.pinned (OpenSpec.ofChange fnExactRegionsMeetSpec)

/-- ITS FALSE NEIGHBOUR: 'it returns false'. Refute it at one input. -/
def fnExactRegionsMeetWrong : ChangeSpec := { name := "fnExactRegionsMeet", fn := fun _ => fun
  | [d1, d2] => { results := [.lit (.bool false)], args := [d1, d2] }
  | _ => none }
def FnExactRegionsMeetWrongFalsely : Prop := fnExactRegionsMeetRow.holds Try.pinned (OpenSpec.ofChange fnExactRegionsMeetWrong)

/-- 'laws.FnExactRegionsApart': WHATEVER THE INPUT: true; the input reads as it did. -/
def fnExactRegionsApartSpec : ChangeSpec := { name := "fnExactRegionsApart", fn := fun _ => fun
  | [d] => { results := [.lit (.bool true)], args := [d] }
  | _ => none }
def fnExactRegionsApartRow : OpenClaim := { program := "ytedjnokeknmbaaa", sum := "cf2cd4924a24df5e5cb995d163ee1018bd62cf4b05c2673ac5ab9868782c1d14", func := "loop.example/g00213/laws.FnExactRegionsApart", spec := "fnExactRegionsApart", apart := false }
def FnExactRegionsApartSaid : Prop := fnExactRegionsApartRow.holds Try.pinned (OpenSpec.ofChange fnExactRegionsApartSpec)

/-- ITS FALSE NEIGHBOUR: 'it returns false'. Refute it at one input. -/
def fnExactRegionsApartWrong : ChangeSpec := { name := "fnExactRegionsApart", fn := fun _ => fun
  | [d] => { results := [.lit (.bool false)], args := [d] }
  | _ => none }
def FnExactRegionsApartWrongFalsely : Prop := fnExactRegionsApartRow.holds Try.pinned (OpenSpec.ofChange fnExactRegionsApartWrong)

/-- 'laws.FnExactPagesOf': WHATEVER THE INPUT: true; the input reads as it did. -/
def fnExactPagesOfSpec : ChangeSpec := { name := "fnExactPagesOf", fn := fun _ => fun
  | [d] => { results := [.lit (.bool true)], args := [d] }
  | _ => none }
def fnExactPagesOfRow : OpenClaim := { program := "ytedjnokeknmbaaa", sum := "cf2cd4924a24df5e5cb995d163ee1018bd62cf4b05c2673ac5ab9868782c1d14", func := "loop.example/g00213/laws.FnExactPagesOf", spec := "fnExactPagesOf", apart := false }
def FnExactPagesOfSaid : Prop := fnExactPagesOfRow.holds Try.pinned (OpenSpec.ofChange fnExactPagesOfSpec)

/-- ITS FALSE NEIGHBOUR: 'it returns false'. Refute it at one input. -/
def fnExactPagesOfWrong : ChangeSpec := { name := "fnExactPagesOf", fn := fun _ => fun
  | [d] => { results := [.lit (.bool false)], args := [d] }
  | _ => none }
def FnExactPagesOfWrongFalsely : Prop := fnExactPagesOfRow.holds Try.pinned (OpenSpec.ofChange fnExactPagesOfWrong)

/-- 'laws.FnExactWipeRegion': WHATEVER THE INPUT: true; the input reads as it did. -/
def fnExactWipeRegionSpec : ChangeSpec := { name := "fnExactWipeRegion", fn := fun _ => fun
  | [d1, d2] => { results := [.lit (.bool true)], args := [d1, d2] }
  | _ => none }
def fnExactWipeRegionRow : OpenClaim := { program := "ytedjnokeknmbaaa", sum := "cf2cd4924a24df5e5cb995d163ee1018bd62cf4b05c2673ac5ab9868782c1d14", func := "loop.example/g00213/laws.FnExactWipeRegion", spec := "fnExactWipeRegion", apart := false }
def FnExactWipeRegionSaid : Prop := fnExactWipeRegionRow.holds Try.pinned (OpenSpec.ofChange fnExactWipeRegionSpec)

/-- ITS FALSE NEIGHBOUR: 'it returns false'. Refute it at one input. -/
def fnExactWipeRegionWrong : ChangeSpec := { name := "fnExactWipeRegion", fn := fun _ => fun
  | [d1, d2] => { results := [.lit (.bool false)], args := [d1, d2] }
  | _ => none }
def FnExactWipeRegionWrongFalsely : Prop := fnExactWipeRegionRow.holds Try.pinned (OpenSpec.ofChange fnExactWipeRegionWrong)

/- THE SECOND FORM. 'bulk': how many values and letters a reading holds, each counted each time it is reached (what is shared counts as often as it is met; a slice's spare places count too). A statement '..UptoSaid' is the law's where the arguments, and the package variables that the reading takes, are together of bulk at most 1048576: NARROWER than '..Said'. Prove '..Said' where nothing that the law and all that it calls make is longer than what came in: it says more and counts as full. Else prove '..UptoSaid'. A law counts once. -/
mutual
def uptoBulk {H : Type} : DataW H → Nat
  | .lit (.string bytes) => bytes.length + 1
  | .lit _ => 1
  | .nil => 1
  | .ptr d => uptoBulk d + 1
  | .slice elems spare => uptoBulkAll elems + uptoBulkAll spare + 1
  | .agg parts => uptoBulkAll parts + 1
  | .iface _ d => uptoBulk d + 1
  | .map entries => uptoBulkEntries entries + 1
  | .held _ => 1
def uptoBulkAll {H : Type} : List (DataW H) → Nat
  | [] => 0
  | d :: r => uptoBulk d + uptoBulkAll r
def uptoBulkEntries {H : Type} : List (Lit × DataW H) → Nat
  | [] => 0
  | x :: r => uptoBulkEntry x + uptoBulkEntries r
def uptoBulkEntry {H : Type} : Lit × DataW H → Nat
  | (.string bytes, d) => bytes.length + uptoBulk d + 1
  | (_, d) => uptoBulk d + 1
 end
def uptoSmall : (H : Type) → List (DataW H) → Bool := fun _ ds => decide (uptoBulkAll ds ≤ 1048576)
def OpenSpec.upto (s : _root_.Go.ChangeSpec) : _root_.Go.OpenSpec := { _root_.Go.OpenSpec.ofChange s with cond := some uptoSmall }

/-- 'laws.FnMemories', WHERE WHAT IT READS IS OF BULK AT MOST 1048576: true; the input reads as it did. -/
def fnMemoriesUptoRow : OpenClaim := { program := "ytedjnokeknmbaaa", sum := "cf2cd4924a24df5e5cb995d163ee1018bd62cf4b05c2673ac5ab9868782c1d14", func := "loop.example/g00213/laws.FnMemories", spec := "fnMemories", apart := false, narrowed := true }
def FnMemoriesUptoSaid : Prop := fnMemoriesUptoRow.holds Try.pinned (OpenSpec.upto fnMemoriesSpec)

/-- 'laws.FnExactMemoryFault', WHERE WHAT IT READS IS OF BULK AT MOST 1048576: true; the input reads as it did. -/
def fnExactMemoryFaultUptoRow : OpenClaim := { program := "ytedjnokeknmbaaa", sum := "cf2cd4924a24df5e5cb995d163ee1018bd62cf4b05c2673ac5ab9868782c1d14", func := "loop.example/g00213/laws.FnExactMemoryFault", spec := "fnExactMemoryFault", apart := false, narrowed := true }
def FnExactMemoryFaultUptoSaid : Prop := fnExactMemoryFaultUptoRow.holds Try.pinned (OpenSpec.upto fnExactMemoryFaultSpec)

/-- 'laws.FnExactNewMemory', WHERE WHAT IT READS IS OF BULK AT MOST 1048576: true; the input reads as it did. -/
def fnExactNewMemoryUptoRow : OpenClaim := { program := "ytedjnokeknmbaaa", sum := "cf2cd4924a24df5e5cb995d163ee1018bd62cf4b05c2673ac5ab9868782c1d14", func := "loop.example/g00213/laws.FnExactNewMemory", spec := "fnExactNewMemory", apart := false, narrowed := true }
def FnExactNewMemoryUptoSaid : Prop := fnExactNewMemoryUptoRow.holds Try.pinned (OpenSpec.upto fnExactNewMemorySpec)

/-- 'laws.FnExactReadWord', WHERE WHAT IT READS IS OF BULK AT MOST 1048576: true; the input reads as it did. -/
def fnExactReadWordUptoRow : OpenClaim := { program := "ytedjnokeknmbaaa", sum := "cf2cd4924a24df5e5cb995d163ee1018bd62cf4b05c2673ac5ab9868782c1d14", func := "loop.example/g00213/laws.FnExactReadWord", spec := "fnExactReadWord", apart := false, narrowed := true }
def FnExactReadWordUptoSaid : Prop := fnExactReadWordUptoRow.holds Try.pinned (OpenSpec.upto fnExactReadWordSpec)

/-- 'laws.FnExactWriteWord', WHERE WHAT IT READS IS OF BULK AT MOST 1048576: true; the input reads as it did. -/
def fnExactWriteWordUptoRow : OpenClaim := { program := "ytedjnokeknmbaaa", sum := "cf2cd4924a24df5e5cb995d163ee1018bd62cf4b05c2673ac5ab9868782c1d14", func := "loop.example/g00213/laws.FnExactWriteWord", spec := "fnExactWriteWord", apart := false, narrowed := true }
def FnExactWriteWordUptoSaid : Prop := fnExactWriteWordUptoRow.holds Try.pinned (OpenSpec.upto fnExactWriteWordSpec)

/-- 'laws.FnExactLoadWords', WHERE WHAT IT READS IS OF BULK AT MOST 1048576: true; the input reads as it did. -/
def fnExactLoadWordsUptoRow : OpenClaim := { program := "ytedjnokeknmbaaa", sum := "cf2cd4924a24df5e5cb995d163ee1018bd62cf4b05c2673ac5ab9868782c1d14", func := "loop.example/g00213/laws.FnExactLoadWords", spec := "fnExactLoadWords", apart := false, narrowed := true }
def FnExactLoadWordsUptoSaid : Prop := fnExactLoadWordsUptoRow.holds Try.pinned (OpenSpec.upto fnExactLoadWordsSpec)

/-- 'laws.FnExactRegionFault', WHERE WHAT IT READS IS OF BULK AT MOST 1048576: true; the input reads as it did. -/
def fnExactRegionFaultUptoRow : OpenClaim := { program := "ytedjnokeknmbaaa", sum := "cf2cd4924a24df5e5cb995d163ee1018bd62cf4b05c2673ac5ab9868782c1d14", func := "loop.example/g00213/laws.FnExactRegionFault", spec := "fnExactRegionFault", apart := false, narrowed := true }
def FnExactRegionFaultUptoSaid : Prop := fnExactRegionFaultUptoRow.holds Try.pinned (OpenSpec.upto fnExactRegionFaultSpec)

/-- 'laws.FnExactRegionsMeet', WHERE WHAT IT READS IS OF BULK AT MOST 1048576: true; the input reads as it did. -/
def fnExactRegionsMeetUptoRow : OpenClaim := { program := "ytedjnokeknmbaaa", sum := "cf2cd4924a24df5e5cb995d163ee1018bd62cf4b05c2673ac5ab9868782c1d14", func := "loop.example/g00213/laws.FnExactRegionsMeet", spec := "fnExactRegionsMeet", apart := false, narrowed := true }
def FnExactRegionsMeetUptoSaid : Prop := fnExactRegionsMeetUptoRow.holds Try.pinned (OpenSpec.upto fnExactRegionsMeetSpec)

/-- 'laws.FnExactRegionsApart', WHERE WHAT IT READS IS OF BULK AT MOST 1048576: true; the input reads as it did. -/
def fnExactRegionsApartUptoRow : OpenClaim := { program := "ytedjnokeknmbaaa", sum := "cf2cd4924a24df5e5cb995d163ee1018bd62cf4b05c2673ac5ab9868782c1d14", func := "loop.example/g00213/laws.FnExactRegionsApart", spec := "fnExactRegionsApart", apart := false, narrowed := true }
def FnExactRegionsApartUptoSaid : Prop := fnExactRegionsApartUptoRow.holds Try.pinned (OpenSpec.upto fnExactRegionsApartSpec)

/-- 'laws.FnExactPagesOf', WHERE WHAT IT READS IS OF BULK AT MOST 1048576: true; the input reads as it did. -/
def fnExactPagesOfUptoRow : OpenClaim := { program := "ytedjnokeknmbaaa", sum := "cf2cd4924a24df5e5cb995d163ee1018bd62cf4b05c2673ac5ab9868782c1d14", func := "loop.example/g00213/laws.FnExactPagesOf", spec := "fnExactPagesOf", apart := false, narrowed := true }
def FnExactPagesOfUptoSaid : Prop := fnExactPagesOfUptoRow.holds Try.pinned (OpenSpec.upto fnExactPagesOfSpec)

/-- 'laws.FnExactWipeRegion', WHERE WHAT IT READS IS OF BULK AT MOST 1048576: true; the input reads as it did. -/
def fnExactWipeRegionUptoRow : OpenClaim := { program := "ytedjnokeknmbaaa", sum := "cf2cd4924a24df5e5cb995d163ee1018bd62cf4b05c2673ac5ab9868782c1d14", func := "loop.example/g00213/laws.FnExactWipeRegion", spec := "fnExactWipeRegion", apart := false, narrowed := true }
def FnExactWipeRegionUptoSaid : Prop := fnExactWipeRegionUptoRow.holds Try.pinned (OpenSpec.upto fnExactWipeRegionSpec)

end Rows
end Go.Proofs.Ytedjnokeknmbaaa
