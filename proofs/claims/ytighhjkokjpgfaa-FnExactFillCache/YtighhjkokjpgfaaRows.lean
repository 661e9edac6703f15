/-
  No cell of these rows narrows 'for every input' (looked for: loops, veiled, ifaces, maps, wideKeys, modest, calm, conditions, laid).
  DERIVED. THE GIVEN ROWS OF THIS SEAT. 12 by the template 'for every input the law returns true; each argument reads behind the call as it read before'; 0 by the template 'total and deterministic' (their statements: YtighhjkokjpgfaaTotals.lean).
  GIVEN WITH THE SEED: the statements are not yours to turn. If you find one false, say at which input.
  Laid BY PROGRAM, IN A SANDBOX (cutbox-rows.mjs): the forced cells as the released guide's own fill.sh prints them over the translation 51dfbbdd1c09f279… (all of the seat's roots in one cut). By AI agents, Wed Nov 11 2026. No macro, syntax, notation, axiom, sorry.
-/
import Derived.Test.YtighhjkokjpgfaaChecked
import GoSem.Claim
import GoSem.ClaimJoined
import GoSem.ClaimMapViews
import Derived.JoinedTies
import Derived.KernelRfl
namespace Go.Proofs.Ytighhjkokjpgfaa
/- THE CELL 'sum', in the pinned program and in every row, IS THE sha256 OF THE DUMP (.gsa) THAT YtighhjkokjpgfaaProg.lean LOADS. Nothing in Lean hashes anything: it is a label: what it is worth is what the hold of that sum in a sandbox is worth. -/
noncomputable def Try.pinned : Pinned := { name := "ytighhjkokjpgfaa", sum := "51dfbbdd1c09f2795b6a6de375eaf1c31d77129b6be867fa083726a83a3c572d", checked := Try.checked }
namespace Rows
def none {H : Type} : Left H := { results := [], args := [] }

/-- 'laws.FnStages': WHATEVER THE INPUT: true; the input reads as it did. -/
def fnStagesSpec : ChangeSpec := { name := "fnStages", fn := fun _ => fun
  | [d] => { results := [.lit (.bool true)], args := [d] }
  | _ => none }
def fnStagesRow : OpenClaim := { program := "ytighhjkokjpgfaa", sum := "51dfbbdd1c09f2795b6a6de375eaf1c31d77129b6be867fa083726a83a3c572d", func := "loop.example/g00213/laws.FnStages", spec := "fnStages", unfollowed := true, recurses := true, plainKeys := false, apart := false }
def FnStagesSaid : Prop := fnStagesRow.holds Try.pinned (OpenSpec.ofChange fnStagesSpec)

/-- ITS FALSE NEIGHBOUR: 'it returns false'. Refute it at one input. -/
def fnStagesWrong : ChangeSpec := { name := "fnStages", fn := fun _ => fun
  | [d] => { results := [.lit (.bool false)], args := [d] }
  | _ => none }
def FnStagesWrongFalsely : Prop := fnStagesRow.holds Try.pinned (OpenSpec.ofChange fnStagesWrong)

/-- 'laws.FnCaches': WHATEVER THE INPUT: true; the input reads as it did. -/
def fnCachesSpec : ChangeSpec := { name := "fnCaches", fn := fun _ => fun
  | [d] => { results := [.lit (.bool true)], args := [d] }
  | _ => none }
def fnCachesRow : OpenClaim := { program := "ytighhjkokjpgfaa", sum := "51dfbbdd1c09f2795b6a6de375eaf1c31d77129b6be867fa083726a83a3c572d", func := "loop.example/g00213/laws.FnCaches", spec := "fnCaches", unfollowed := true, recurses := true, plainKeys := false, apart := false }
def FnCachesSaid : Prop := fnCachesRow.holds Try.pinned (OpenSpec.ofChange fnCachesSpec)

/-- ITS FALSE NEIGHBOUR: 'it returns false'. Refute it at one input. -/
def fnCachesWrong : ChangeSpec := { name := "fnCaches", fn := fun _ => fun
  | [d] => { results := [.lit (.bool false)], args := [d] }
  | _ => none }
def FnCachesWrongFalsely : Prop := fnCachesRow.holds Try.pinned (OpenSpec.ofChange fnCachesWrong)

/-- 'laws.FnFills': WHATEVER THE INPUT: true; the input reads as it did. -/
def fnFillsSpec : ChangeSpec := { name := "fnFills", fn := fun _ => fun
  | [d] => { results := [.lit (.bool true)], args := [d] }
  | _ => none }
def fnFillsRow : OpenClaim := { program := "ytighhjkokjpgfaa", sum := "51dfbbdd1c09f2795b6a6de375eaf1c31d77129b6be867fa083726a83a3c572d", func := "loop.example/g00213/laws.FnFills", spec := "fnFills", unfollowed := true, recurses := true, plainKeys := false, apart := false }
def FnFillsSaid : Prop := fnFillsRow.holds Try.pinned (OpenSpec.ofChange fnFillsSpec)

/-- ITS FALSE NEIGHBOUR: 'it returns false'. Refute it at one input. -/
def fnFillsWrong : ChangeSpec := { name := "fnFills", fn := fun _ => fun
  | [d] => { results := [.lit (.bool false)], args := [d] }
  | _ => none }
def FnFillsWrongFalsely : Prop := fnFillsRow.holds Try.pinned (OpenSpec.ofChange fnFillsWrong)

/-- 'laws.FnExactWalkPages': WHATEVER THE INPUT: true; the input reads as it did. -/
def fnExactWalkPagesSpec : ChangeSpec := { name := "fnExactWalkPages", fn := fun _ => fun
  | [d1, d2, d3] => { results := [.lit (.bool true)], args := [d1, d2, d3] }
  | _ => none }
def fnExactWalkPagesRow : OpenClaim := { program := "ytighhjkokjpgfaa", sum := "51dfbbdd1c09f2795b6a6de375eaf1c31d77129b6be867fa083726a83a3c572d", func := "loop.example/g00213/laws.FnExactWalkPages", spec := "fnExactWalkPages", unfollowed := true, recurses := true, plainKeys := false, apart := false }
def FnExactWalkPagesSaid : Prop := fnExactWalkPagesRow.holds Try.pinned (OpenSpec.ofChange fnExactWalkPagesSpec)

/-- ITS FALSE NEIGHBOUR: 'it returns false'. Refute it at one input. -/
def fnExactWalkPagesWrong : ChangeSpec := { name := "fnExactWalkPages", fn := fun _ => fun
  | [d1, d2, d3] => { results := [.lit (.bool false)], args := [d1, d2, d3] }
  | _ => none }
def FnExactWalkPagesWrongFalsely : Prop := fnExactWalkPagesRow.holds Try.pinned (OpenSpec.ofChange fnExactWalkPagesWrong)

/-- 'laws.FnExactWalkBoth': WHATEVER THE INPUT: true; the input reads as it did. -/
def fnExactWalkBothSpec : ChangeSpec := { name := "fnExactWalkBoth", fn := fun _ => fun
  | [d1, d2, d3, d4] => { results := [.lit (.bool true)], args := [d1, d2, d3, d4] }
  | _ => none }
def fnExactWalkBothRow : OpenClaim := { program := "ytighhjkokjpgfaa", sum := "51dfbbdd1c09f2795b6a6de375eaf1c31d77129b6be867fa083726a83a3c572d", func := "loop.example/g00213/laws.FnExactWalkBoth", spec := "fnExactWalkBoth", unfollowed := true, recurses := true, plainKeys := false, apart := false }
def FnExactWalkBothSaid : Prop := fnExactWalkBothRow.holds Try.pinned (OpenSpec.ofChange fnExactWalkBothSpec)

/-- ITS FALSE NEIGHBOUR: 'it returns false'. Refute it at one input. -/
def fnExactWalkBothWrong : ChangeSpec := { name := "fnExactWalkBoth", fn := fun _ => fun
  | [d1, d2, d3, d4] => { results := [.lit (.bool false)], args := [d1, d2, d3, d4] }
  | _ => none }
def FnExactWalkBothWrongFalsely : Prop := fnExactWalkBothRow.holds Try.pinned (OpenSpec.ofChange fnExactWalkBothWrong)

/-- 'laws.FnExactComposePages': WHATEVER THE INPUT: true; the input reads as it did. -/
def fnExactComposePagesSpec : ChangeSpec := { name := "fnExactComposePages", fn := fun _ => fun
  | [d1, d2] => { results := [.lit (.bool true)], args := [d1, d2] }
  | _ => none }
def fnExactComposePagesRow : OpenClaim := { program := "ytighhjkokjpgfaa", sum := "51dfbbdd1c09f2795b6a6de375eaf1c31d77129b6be867fa083726a83a3c572d", func := "loop.example/g00213/laws.FnExactComposePages", spec := "fnExactComposePages", plainKeys := false, apart := false }
def FnExactComposePagesSaid : Prop := fnExactComposePagesRow.holds Try.pinned (OpenSpec.ofChange fnExactComposePagesSpec)

/-- ITS FALSE NEIGHBOUR: 'it returns false'. Refute it at one input. -/
def fnExactComposePagesWrong : ChangeSpec := { name := "fnExactComposePages", fn := fun _ => fun
  | [d1, d2] => { results := [.lit (.bool false)], args := [d1, d2] }
  | _ => none }
def FnExactComposePagesWrongFalsely : Prop := fnExactComposePagesRow.holds Try.pinned (OpenSpec.ofChange fnExactComposePagesWrong)

/-- 'laws.FnExactReadableBoth': WHATEVER THE INPUT: true; the input reads as it did. -/
def fnExactReadableBothSpec : ChangeSpec := { name := "fnExactReadableBoth", fn := fun _ => fun
  | [d1, d2] => { results := [.lit (.bool true)], args := [d1, d2] }
  | _ => none }
def fnExactReadableBothRow : OpenClaim := { program := "ytighhjkokjpgfaa", sum := "51dfbbdd1c09f2795b6a6de375eaf1c31d77129b6be867fa083726a83a3c572d", func := "loop.example/g00213/laws.FnExactReadableBoth", spec := "fnExactReadableBoth", unfollowed := true, recurses := true, plainKeys := false, apart := false }
def FnExactReadableBothSaid : Prop := fnExactReadableBothRow.holds Try.pinned (OpenSpec.ofChange fnExactReadableBothSpec)

/-- ITS FALSE NEIGHBOUR: 'it returns false'. Refute it at one input. -/
def fnExactReadableBothWrong : ChangeSpec := { name := "fnExactReadableBoth", fn := fun _ => fun
  | [d1, d2] => { results := [.lit (.bool false)], args := [d1, d2] }
  | _ => none }
def FnExactReadableBothWrongFalsely : Prop := fnExactReadableBothRow.holds Try.pinned (OpenSpec.ofChange fnExactReadableBothWrong)

/-- 'laws.FnExactCacheFault': WHATEVER THE INPUT: true; the input reads as it did. -/
def fnExactCacheFaultSpec : ChangeSpec := { name := "fnExactCacheFault", fn := fun _ => fun
  | [d] => { results := [.lit (.bool true)], args := [d] }
  | _ => none }
def fnExactCacheFaultRow : OpenClaim := { program := "ytighhjkokjpgfaa", sum := "51dfbbdd1c09f2795b6a6de375eaf1c31d77129b6be867fa083726a83a3c572d", func := "loop.example/g00213/laws.FnExactCacheFault", spec := "fnExactCacheFault", unfollowed := true, recurses := true, plainKeys := false, apart := false }
def FnExactCacheFaultSaid : Prop := fnExactCacheFaultRow.holds Try.pinned (OpenSpec.ofChange fnExactCacheFaultSpec)

/-- ITS FALSE NEIGHBOUR: 'it returns false'. Refute it at one input. -/
def fnExactCacheFaultWrong : ChangeSpec := { name := "fnExactCacheFault", fn := fun _ => fun
  | [d] => { results := [.lit (.bool false)], args := [d] }
  | _ => none }
def FnExactCacheFaultWrongFalsely : Prop := fnExactCacheFaultRow.holds Try.pinned (OpenSpec.ofChange fnExactCacheFaultWrong)

/-- 'laws.FnExactFindHit': WHATEVER THE INPUT: true; the input reads as it did. -/
def fnExactFindHitSpec : ChangeSpec := { name := "fnExactFindHit", fn := fun _ => fun
  | [d1, d2, d3] => { results := [.lit (.bool true)], args := [d1, d2, d3] }
  | _ => none }
def fnExactFindHitRow : OpenClaim := { program := "ytighhjkokjpgfaa", sum := "51dfbbdd1c09f2795b6a6de375eaf1c31d77129b6be867fa083726a83a3c572d", func := "loop.example/g00213/laws.FnExactFindHit", spec := "fnExactFindHit", unfollowed := true, recurses := true, plainKeys := false, apart := false }
def FnExactFindHitSaid : Prop := fnExactFindHitRow.holds Try.pinned (OpenSpec.ofChange fnExactFindHitSpec)

/-- ITS FALSE NEIGHBOUR: 'it returns false'. Refute it at one input. -/
def fnExactFindHitWrong : ChangeSpec := { name := "fnExactFindHit", fn := fun _ => fun
  | [d1, d2, d3] => { results := [.lit (.bool false)], args := [d1, d2, d3] }
  | _ => none }
def FnExactFindHitWrongFalsely : Prop := fnExactFindHitRow.holds Try.pinned (OpenSpec.ofChange fnExactFindHitWrong)

/-- 'laws.FnExactFillCache': WHATEVER THE INPUT: true; the input reads as it did. -/
def fnExactFillCacheSpec : ChangeSpec := { name := "fnExactFillCache", fn := fun _ => fun
  | [d1, d2] => { results := [.lit (.bool true)], args := [d1, d2] }
  | _ => none }
def fnExactFillCacheRow : OpenClaim := { program := "ytighhjkokjpgfaa", sum := "51dfbbdd1c09f2795b6a6de375eaf1c31d77129b6be867fa083726a83a3c572d", func := "loop.example/g00213/laws.FnExactFillCache", spec := "fnExactFillCache", unfollowed := true, recurses := true, plainKeys := false, apart := false }
def FnExactFillCacheSaid : Prop := fnExactFillCacheRow.holds Try.pinned (OpenSpec.ofChange fnExactFillCacheSpec)

/-- ITS FALSE NEIGHBOUR: 'it returns false'. Refute it at one input. -/
def fnExactFillCacheWrong : ChangeSpec := { name := "fnExactFillCache", fn := fun _ => fun
  | [d1, d2] => { results := [.lit (.bool false)], args := [d1, d2] }
  | _ => none }
def FnExactFillCacheWrongFalsely : Prop := fnExactFillCacheRow.holds Try.pinned (OpenSpec.ofChange fnExactFillCacheWrong)

/-- 'laws.FnExactFlushCache': WHATEVER THE INPUT: true; the input reads as it did. -/
def fnExactFlushCacheSpec : ChangeSpec := { name := "fnExactFlushCache", fn := fun _ => fun
  | [d1, d2] => { results := [.lit (.bool true)], args := [d1, d2] }
  | _ => none }
def fnExactFlushCacheRow : OpenClaim := { program := "ytighhjkokjpgfaa", sum := "51dfbbdd1c09f2795b6a6de375eaf1c31d77129b6be867fa083726a83a3c572d", func := "loop.example/g00213/laws.FnExactFlushCache", spec := "fnExactFlushCache", unfollowed := true, recurses := true, plainKeys := false, apart := false }
def FnExactFlushCacheSaid : Prop := fnExactFlushCacheRow.holds Try.pinned (OpenSpec.ofChange fnExactFlushCacheSpec)

/-- ITS FALSE NEIGHBOUR: 'it returns false'. Refute it at one input. -/
def fnExactFlushCacheWrong : ChangeSpec := { name := "fnExactFlushCache", fn := fun _ => fun
  | [d1, d2] => { results := [.lit (.bool false)], args := [d1, d2] }
  | _ => none }
def FnExactFlushCacheWrongFalsely : Prop := fnExactFlushCacheRow.holds Try.pinned (OpenSpec.ofChange fnExactFlushCacheWrong)

/-- 'laws.FnExactCacheFits': WHATEVER THE INPUT: true; the input reads as it did. -/
def fnExactCacheFitsSpec : ChangeSpec := { name := "fnExactCacheFits", fn := fun _ => fun
  | [d1, d2, d3] => { results := [.lit (.bool true)], args := [d1, d2, d3] }
  | _ => none }
def fnExactCacheFitsRow : OpenClaim := { program := "ytighhjkokjpgfaa", sum := "51dfbbdd1c09f2795b6a6de375eaf1c31d77129b6be867fa083726a83a3c572d", func := "loop.example/g00213/laws.FnExactCacheFits", spec := "fnExactCacheFits", unfollowed := true, recurses := true, plainKeys := false, apart := false }
def FnExactCacheFitsSaid : Prop := fnExactCacheFitsRow.holds Try.pinned (OpenSpec.ofChange fnExactCacheFitsSpec)

/-- ITS FALSE NEIGHBOUR: 'it returns false'. Refute it at one input. -/
def fnExactCacheFitsWrong : ChangeSpec := { name := "fnExactCacheFits", fn := fun _ => fun
  | [d1, d2, d3] => { results := [.lit (.bool false)], args := [d1, d2, d3] }
  | _ => none }
def FnExactCacheFitsWrongFalsely : Prop := fnExactCacheFitsRow.holds Try.pinned (OpenSpec.ofChange fnExactCacheFitsWrong)

/- THE SECOND FORM. 'bulk': how many values and letters a reading holds, each counted each time it is reached (what is shared counts as often as it is met; a slice's spare places count too). A statement '..UptoSaid' is the law's where the arguments, and the package variables that the reading takes, are together of bulk at most 1048576: NARROWER than '..Said'. Prove '..Said' where nothing that the law and all that it calls make is longer than what came in: it says more and counts as full. Else prove '..UptoSaid'. A law counts once. -/
mutual
def uptoBulk {H : Type} : DataW H → Nat
  | .lit (.string bytes) => bytes.length + 1
  | .lit _ => 1
  | .nil => 1
  | .ptr d => uptoBulk d + 1
  | .slice elems spare => uptoBulkAll elems + uptoBulkAll spare + 1
  | .agg parts => uptoBulkAll parts + 1
  | .iface _ d => uptoBulk d + 1
  | .map entries => uptoBulkEntries entries + 1
  | .held _ => 1
def uptoBulkAll {H : Type} : List (DataW H) → Nat
  | [] => 0
  | d :: r => uptoBulk d + uptoBulkAll r
def uptoBulkEntries {H : Type} : List (Lit × DataW H) → Nat
  | [] => 0
  | x :: r => uptoBulkEntry x + uptoBulkEntries r
def uptoBulkEntry {H : Type} : Lit × DataW H → Nat
  | (.string bytes, d) => bytes.length + uptoBulk d + 1
  | (_, d) => uptoBulk d + 1
 end
def uptoSmall : (H : Type) → List (DataW H) → Bool := fun _ ds => decide (uptoBulkAll ds ≤ 1048576)
def OpenSpec.upto (s : _root_.Go.ChangeSpec) : _root_.Go.OpenSpec := { _root_.Go.OpenSpec.ofChange s with cond := some uptoSmall }

/-- 'laws.FnStages', WHERE WHAT IT READS IS OF BULK AT MOST 1048576: true; the input reads as it did. -/
def fnStagesUptoRow : OpenClaim := { program := "ytighhjkokjpgfaa", sum := "51dfbbdd1c09f2795b6a6de375eaf1c31d77129b6be867fa083726a83a3c572d", func := "loop.example/g00213/laws.FnStages", spec := "fnStages", unfollowed := true, recurses := true, plainKeys := false, apart := false, narrowed := true }
def FnStagesUptoSaid : Prop := fnStagesUptoRow.holds Try.pinned (OpenSpec.upto fnStagesSpec)

/-- 'laws.FnCaches', WHERE WHAT IT READS IS OF BULK AT MOST 1048576: true; the input reads as it did. -/
def fnCachesUptoRow : OpenClaim := { program := "ytighhjkokjpgfaa", sum := "51dfbbdd1c09f2795b6a6de375eaf1c31d77129b6be867fa083726a83a3c572d", func := "loop.example/g00213/laws.FnCaches", spec := "fnCaches", unfollowed := true, recurses := true, plainKeys := false, apart := false, narrowed := true }
def FnCachesUptoSaid : Prop := fnCachesUptoRow.holds Try.pinned (OpenSpec.upto fnCachesSpec)

/-- 'laws.FnFills', WHERE WHAT IT READS IS OF BULK AT MOST 1048576: true; the input reads as it did. -/
def fnFillsUptoRow : OpenClaim := { program := "ytighhjkokjpgfaa", sum := "51dfbbdd1c09f2795b6a6de375eaf1c31d77129b6be867fa083726a83a3c572d", func := "loop.example/g00213/laws.FnFills", spec := "fnFills", unfollowed := true, recurses := true, plainKeys := false, apart := false, narrowed := true }
def FnFillsUptoSaid : Prop := fnFillsUptoRow.holds Try.pinned (OpenSpec.upto fnFillsSpec)

/-- 'laws.FnExactWalkPages', WHERE WHAT IT READS IS OF BULK AT MOST 1048576: true; the input reads as it did. -/
def fnExactWalkPagesUptoRow : OpenClaim := { program := "ytighhjkokjpgfaa", sum := "51dfbbdd1c09f2795b6a6de375eaf1c31d77129b6be867fa083726a83a3c572d", func := "loop.example/g00213/laws.FnExactWalkPages", spec := "fnExactWalkPages", unfollowed := true, recurses := true, plainKeys := false, apart := false, narrowed := true }
def FnExactWalkPagesUptoSaid : Prop := fnExactWalkPagesUptoRow.holds Try.pinned (OpenSpec.upto fnExactWalkPagesSpec)

/-- 'laws.FnExactWalkBoth', WHERE WHAT IT READS IS OF BULK AT MOST 1048576: true; the input reads as it did. -/
def fnExactWalkBothUptoRow : OpenClaim := { program := "ytighhjkokjpgfaa", sum := "51dfbbdd1c09f2795b6a6de375eaf1c31d77129b6be867fa083726a83a3c572d", func := "loop.example/g00213/laws.FnExactWalkBoth", spec := "fnExactWalkBoth", unfollowed := true, recurses := true, plainKeys := false, apart := false, narrowed := true }
def FnExactWalkBothUptoSaid : Prop := fnExactWalkBothUptoRow.holds Try.pinned (OpenSpec.upto fnExactWalkBothSpec)

/-- 'laws.FnExactComposePages', WHERE WHAT IT READS IS OF BULK AT MOST 1048576: true; the input reads as it did. -/
def fnExactComposePagesUptoRow : OpenClaim := { program := "ytighhjkokjpgfaa", sum := "51dfbbdd1c09f2795b6a6de375eaf1c31d77129b6be867fa083726a83a3c572d", func := "loop.example/g00213/laws.FnExactComposePages", spec := "fnExactComposePages", plainKeys := false, apart := false, narrowed := true }
def FnExactComposePagesUptoSaid : Prop := fnExactComposePagesUptoRow.holds Try.pinned (OpenSpec.upto fnExactComposePagesSpec)

/-- 'laws.FnExactReadableBoth', WHERE WHAT IT READS IS OF BULK AT MOST 1048576: true; the input reads as it did. -/
def fnExactReadableBothUptoRow : OpenClaim := { program := "ytighhjkokjpgfaa", sum := "51dfbbdd1c09f2795b6a6de375eaf1c31d77129b6be867fa083726a83a3c572d", func := "loop.example/g00213/laws.FnExactReadableBoth", spec := "fnExactReadableBoth", unfollowed := true, recurses := true, plainKeys := false, apart := false, narrowed := true }
def FnExactReadableBothUptoSaid : Prop := fnExactReadableBothUptoRow.holds Try.pinned (OpenSpec.upto fnExactReadableBothSpec)

/-- 'laws.FnExactCacheFault', WHERE WHAT IT READS IS OF BULK AT MOST 1048576: true; the input reads as it did. -/
def fnExactCacheFaultUptoRow : OpenClaim := { program := "ytighhjkokjpgfaa", sum := "51dfbbdd1c09f2795b6a6de375eaf1c31d77129b6be867fa083726a83a3c572d", func := "loop.example/g00213/laws.FnExactCacheFault", spec := "fnExactCacheFault", unfollowed := true, recurses := true, plainKeys := false, apart := false, narrowed := true }
def FnExactCacheFaultUptoSaid : Prop := fnExactCacheFaultUptoRow.holds Try.pinned (OpenSpec.upto fnExactCacheFaultSpec)

/-- 'laws.FnExactFindHit', WHERE WHAT IT READS IS OF BULK AT MOST 1048576: true; the input reads as it did. -/
def fnExactFindHitUptoRow : OpenClaim := { program := "ytighhjkokjpgfaa", sum := "51dfbbdd1c09f2795b6a6de375eaf1c31d77129b6be867fa083726a83a3c572d", func := "loop.example/g00213/laws.FnExactFindHit", spec := "fnExactFindHit", unfollowed := true, recurses := true, plainKeys := false, apart := false, narrowed := true }
def FnExactFindHitUptoSaid : Prop := fnExactFindHitUptoRow.holds Try.pinned (OpenSpec.upto fnExactFindHitSpec)

/-- 'laws.FnExactFillCache', WHERE WHAT IT READS IS OF BULK AT MOST 1048576: true; the input reads as it did. -/
def fnExactFillCacheUptoRow : OpenClaim := { program := "ytighhjkokjpgfaa", sum := "51dfbbdd1c09f2795b6a6de375eaf1c31d77129b6be867fa083726a83a3c572d", func := "loop.example/g00213/laws.FnExactFillCache", spec := "fnExactFillCache", unfollowed := true, recurses := true, plainKeys := false, apart := false, narrowed := true }
def FnExactFillCacheUptoSaid : Prop := fnExactFillCacheUptoRow.holds Try.pinned (OpenSpec.upto fnExactFillCacheSpec)

/-- 'laws.FnExactFlushCache', WHERE WHAT IT READS IS OF BULK AT MOST 1048576: true; the input reads as it did. -/
def fnExactFlushCacheUptoRow : OpenClaim := { program := "ytighhjkokjpgfaa", sum := "51dfbbdd1c09f2795b6a6de375eaf1c31d77129b6be867fa083726a83a3c572d", func := "loop.example/g00213/laws.FnExactFlushCache", spec := "fnExactFlushCache", unfollowed := true, recurses := true, plainKeys := false, apart := false, narrowed := true }
def FnExactFlushCacheUptoSaid : Prop := fnExactFlushCacheUptoRow.holds Try.pinned (OpenSpec.upto fnExactFlushCacheSpec)

/-- 'laws.FnExactCacheFits', WHERE WHAT IT READS IS OF BULK AT MOST 1048576: true; the input reads as it did. -/
def fnExactCacheFitsUptoRow : OpenClaim := { program := "ytighhjkokjpgfaa", sum := "51dfbbdd1c09f2795b6a6de375eaf1c31d77129b6be867fa083726a83a3c572d", func := "loop.example/g00213/laws.FnExactCacheFits", spec := "fnExactCacheFits", unfollowed := true, recurses := true, plainKeys := false, apart := false, narrowed := true }
def FnExactCacheFitsUptoSaid : Prop := fnExactCacheFitsUptoRow.holds Try.pinned (OpenSpec.upto fnExactCacheFitsSpec)

end Rows
end Go.Proofs.Ytighhjkokjpgfaa
