/-
  DERIVED. GIVEN WITH THE SEED: THE CARDS: each row of YtadkhognlapckaaGreatDoorRows.lean that lists a variable, with what it lists TIED to the program's text (the seventh form; the later family's looks); each row that meets fmt, with fmt's text TOLD by the authors' own Lean function (tested against real Go, not proved from fmt's source: count such statements apart). THE CARD IS WHAT COUNTS. Prove the row's statement (the work); the ties are given (YtadkhognlapckaaGreatDoorTie.lean); close each card by the builder's one call (the guide's Derived/Test/ToyasCard.lean, 'card_holds'). Laid BY PROGRAM, IN A SANDBOX (cutbox-door.mjs). By AI agents, Wed Nov 11 2026. No macro, syntax, notation, axiom, sorry.
-/
import Derived.Test.YtadkhognlapckaaGreatDoorRows
import GoSem.ClaimSeven
namespace Go.Proofs.YtadkhognlapckaaGreatDoor
namespace Rows

/-- THE TIED CARD OF 'laws.FnExactSoloView'. -/
def fnExactSoloViewCard : Claim7 := { stood := { row := fnExactSoloViewRow, standIns := [], harness := (true, "0dd6ae4a4e9b757706162c4881413e445afc87c220c10f9c7674d964d532eda6"), looks := true }, kinds := [], alts := [], laidByText := true, laidKinds := [.handle], laidTests := true, laidLooks := .later }
def FnExactSoloViewCardSaid : Prop := Claim7.holds Tryz.pinned (.plain (OpenSpec.ofChange fnExactSoloViewSpec)) fnExactSoloViewCard

/-- THE SECOND FORM's CARD OF 'laws.FnExactSoloView'. -/
def fnExactSoloViewUptoCard : Claim7 := { stood := { row := fnExactSoloViewUptoRow, standIns := [], harness := (true, "0dd6ae4a4e9b757706162c4881413e445afc87c220c10f9c7674d964d532eda6"), looks := true }, kinds := [], alts := [], laidByText := true, laidKinds := [.handle], laidTests := true, laidLooks := .later }
def FnExactSoloViewUptoCardSaid : Prop := Claim7.holds Tryz.pinned (.plain (OpenSpec.upto fnExactSoloViewSpec)) fnExactSoloViewUptoCard
end Rows
end Go.Proofs.YtadkhognlapckaaGreatDoor
