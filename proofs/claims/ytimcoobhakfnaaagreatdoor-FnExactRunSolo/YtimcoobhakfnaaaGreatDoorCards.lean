/-
  DERIVED. GIVEN WITH THE SEED: THE CARDS: each row of YtimcoobhakfnaaaGreatDoorRows.lean that lists a variable, with what it lists TIED to the program's text (the seventh form; the later family's looks); each row that meets fmt, with fmt's text TOLD by the authors' own Lean function (tested against real Go, not proved from fmt's source: count such statements apart). THE CARD IS WHAT COUNTS. Prove the row's statement (the work); the ties are given (YtimcoobhakfnaaaGreatDoorTie.lean); close each card by the builder's one call (the guide's Derived/Test/ToyasCard.lean, 'card_holds'). Laid BY PROGRAM, IN A SANDBOX (cutbox-door.mjs). By AI agents, Wed Nov 11 2026. No macro, syntax, notation, axiom, sorry.
-/
import Derived.Test.YtimcoobhakfnaaaGreatDoorRows
import GoSem.ClaimSeven
namespace Go.Proofs.YtimcoobhakfnaaaGreatDoor
namespace Rows

/-- THE TIED CARD OF 'laws.FnExactRunSolo'. -/
def fnExactRunSoloCard : Claim7 := { stood := { row := fnExactRunSoloRow, standIns := [], harness := (true, "7616ce3e3f77dd0b83490614320c953f8153e7036fb268aaf59fffc71e2a6926"), looks := true }, kinds := [], alts := [], laidByText := true, laidKinds := [.data], laidTests := true, laidLooks := .later }
def FnExactRunSoloCardSaid : Prop := Claim7.holds Tryz.pinned (.plain (OpenSpec.ofChange fnExactRunSoloSpec)) fnExactRunSoloCard

/-- THE SECOND FORM's CARD OF 'laws.FnExactRunSolo'. -/
def fnExactRunSoloUptoCard : Claim7 := { stood := { row := fnExactRunSoloUptoRow, standIns := [], harness := (true, "7616ce3e3f77dd0b83490614320c953f8153e7036fb268aaf59fffc71e2a6926"), looks := true }, kinds := [], alts := [], laidByText := true, laidKinds := [.data], laidTests := true, laidLooks := .later }
def FnExactRunSoloUptoCardSaid : Prop := Claim7.holds Tryz.pinned (.plain (OpenSpec.upto fnExactRunSoloSpec)) fnExactRunSoloUptoCard
end Rows
end Go.Proofs.YtimcoobhakfnaaaGreatDoor
