/-
  DERIVED. GIVEN WITH THE SEED: THE CARDS: each row of YtcdbhhhihhdghaaGreatDoorRows.lean that lists a variable, with what it lists TIED to the program's text (the seventh form; the later family's looks); each row that meets fmt, with fmt's text TOLD by the authors' own Lean function (tested against real Go, not proved from fmt's source: count such statements apart). THE CARD IS WHAT COUNTS. Prove the row's statement (the work); the ties are given (YtcdbhhhihhdghaaGreatDoorTie.lean); close each card by the builder's one call (the guide's Derived/Test/ToyasCard.lean, 'card_holds'). Laid BY PROGRAM, IN A SANDBOX (cutbox-door.mjs). By AI agents, Wed Nov 11 2026. No macro, syntax, notation, axiom, sorry.
-/
import Derived.Test.YtcdbhhhihhdghaaGreatDoorRows
import GoSem.ClaimSeven
namespace Go.Proofs.YtcdbhhhihhdghaaGreatDoor
namespace Rows

/-- THE TIED CARD OF 'laws.FnExactParsePolicy'. -/
def fnExactParsePolicyCard : Claim7 := { stood := { row := fnExactParsePolicyRow, standIns := [], harness := (true, "bfa5b09968a7d33e77b4632da723f3c12e4552efd859d425c64d3fb867238d36"), looks := true }, kinds := [], alts := [], laidByText := true, laidKinds := [.data, .data, .data, .data, .handle, .sentinel, .sentinel, .data, .pinned], laidTests := true, laidLooks := .later }
def FnExactParsePolicyCardSaid : Prop := Claim7.holds Tryz.pinned (.plain (OpenSpec.ofChange fnExactParsePolicySpec)) fnExactParsePolicyCard

/-- THE SECOND FORM's CARD OF 'laws.FnExactParsePolicy'. -/
def fnExactParsePolicyUptoCard : Claim7 := { stood := { row := fnExactParsePolicyUptoRow, standIns := [], harness := (true, "bfa5b09968a7d33e77b4632da723f3c12e4552efd859d425c64d3fb867238d36"), looks := true }, kinds := [], alts := [], laidByText := true, laidKinds := [.data, .data, .data, .data, .handle, .sentinel, .sentinel, .data, .pinned], laidTests := true, laidLooks := .later }
def FnExactParsePolicyUptoCardSaid : Prop := Claim7.holds Tryz.pinned (.plain (OpenSpec.upto fnExactParsePolicySpec)) fnExactParsePolicyUptoCard
end Rows
end Go.Proofs.YtcdbhhhihhdghaaGreatDoor
