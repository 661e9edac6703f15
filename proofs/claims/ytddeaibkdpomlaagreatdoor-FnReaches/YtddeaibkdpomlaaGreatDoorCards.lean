/-
  DERIVED. GIVEN WITH THE SEED: THE CARDS: each row of YtddeaibkdpomlaaGreatDoorRows.lean that lists a variable, with what it lists TIED to the program's text (the seventh form; the later family's looks); each row that meets fmt, with fmt's text TOLD by the authors' own Lean function (tested against real Go, not proved from fmt's source: count such statements apart). THE CARD IS WHAT COUNTS. Prove the row's statement (the work); the ties are given (YtddeaibkdpomlaaGreatDoorTie.lean); close each card by the builder's one call (the guide's Derived/Test/ToyasCard.lean, 'card_holds'). Laid BY PROGRAM, IN A SANDBOX (cutbox-door.mjs). By AI agents, Wed Nov 11 2026. No macro, syntax, notation, axiom, sorry.
-/
import Derived.Test.YtddeaibkdpomlaaGreatDoorRows
import GoSem.ClaimSeven
namespace Go.Proofs.YtddeaibkdpomlaaGreatDoor
namespace Rows

/-- THE TIED CARD OF 'laws.FnReaches'. -/
def fnReachesCard : Claim7 := { stood := { row := fnReachesRow, standIns := [], harness := (true, "70088bb80d2e8fbb9491792e22fe651510c7cece124fdcd79b21b5103abce420"), looks := true }, kinds := [], alts := [], laidByText := true, laidKinds := [.handle], laidTests := true, laidLooks := .later }
def FnReachesCardSaid : Prop := Claim7.holds Tryz.pinned (.plain (OpenSpec.ofChange fnReachesSpec)) fnReachesCard

/-- THE SECOND FORM's CARD OF 'laws.FnReaches'. -/
def fnReachesUptoCard : Claim7 := { stood := { row := fnReachesUptoRow, standIns := [], harness := (true, "70088bb80d2e8fbb9491792e22fe651510c7cece124fdcd79b21b5103abce420"), looks := true }, kinds := [], alts := [], laidByText := true, laidKinds := [.handle], laidTests := true, laidLooks := .later }
def FnReachesUptoCardSaid : Prop := Claim7.holds Tryz.pinned (.plain (OpenSpec.upto fnReachesSpec)) fnReachesUptoCard
end Rows
end Go.Proofs.YtddeaibkdpomlaaGreatDoor
