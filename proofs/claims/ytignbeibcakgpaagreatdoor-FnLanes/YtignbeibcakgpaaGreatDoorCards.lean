/-
  DERIVED. GIVEN WITH THE SEED: THE CARDS: each row of YtignbeibcakgpaaGreatDoorRows.lean that lists a variable, with what it lists TIED to the program's text (the seventh form; the later family's looks); each row that meets fmt, with fmt's text TOLD by the authors' own Lean function (tested against real Go, not proved from fmt's source: count such statements apart). THE CARD IS WHAT COUNTS. Prove the row's statement (the work); the ties are given (YtignbeibcakgpaaGreatDoorTie.lean); close each card by the builder's one call (the guide's Derived/Test/ToyasCard.lean, 'card_holds'). Laid BY PROGRAM, IN A SANDBOX (cutbox-door.mjs). By AI agents, Wed Nov 11 2026. No macro, syntax, notation, axiom, sorry.
-/
import Derived.Test.YtignbeibcakgpaaGreatDoorRows
import GoSem.ClaimSeven
namespace Go.Proofs.YtignbeibcakgpaaGreatDoor
namespace Rows

/-- THE TIED CARD OF 'laws.FnLanes'. -/
def fnLanesCard : Claim7 := { stood := { row := fnLanesRow, standIns := [], harness := (true, "59611f8c0a007ed3edc5112d62e9c164cd8bd51a266c1a3b0a2248423a1343a8"), looks := true }, kinds := [], alts := [], laidByText := true, laidKinds := [.data, .handle], laidTests := true, laidLooks := .later }
def FnLanesCardSaid : Prop := Claim7.holds Tryz.pinned (.plain (OpenSpec.ofChange fnLanesSpec)) fnLanesCard

/-- THE SECOND FORM's CARD OF 'laws.FnLanes'. -/
def fnLanesUptoCard : Claim7 := { stood := { row := fnLanesUptoRow, standIns := [], harness := (true, "59611f8c0a007ed3edc5112d62e9c164cd8bd51a266c1a3b0a2248423a1343a8"), looks := true }, kinds := [], alts := [], laidByText := true, laidKinds := [.data, .handle], laidTests := true, laidLooks := .later }
def FnLanesUptoCardSaid : Prop := Claim7.holds Tryz.pinned (.plain (OpenSpec.upto fnLanesSpec)) fnLanesUptoCard
end Rows
end Go.Proofs.YtignbeibcakgpaaGreatDoor
