/-
  DERIVED. GIVEN WITH THE SEED: THE CARDS: each row of YtbegbphbcjoglaaGreatDoorRows.lean that lists a variable, with what it lists TIED to the program's text (the seventh form; the later family's looks); each row that meets fmt, with fmt's text TOLD by the authors' own Lean function (tested against real Go, not proved from fmt's source: count such statements apart). THE CARD IS WHAT COUNTS. Prove the row's statement (the work); the ties are given (YtbegbphbcjoglaaGreatDoorTie.lean); close each card by the builder's one call (the guide's Derived/Test/ToyasCard.lean, 'card_holds'). Laid BY PROGRAM, IN A SANDBOX (cutbox-door.mjs). By AI agents, Wed Nov 11 2026. No macro, syntax, notation, axiom, sorry.
-/
import Derived.Test.YtbegbphbcjoglaaGreatDoorRows
import GoSem.ClaimSeven
namespace Go.Proofs.YtbegbphbcjoglaaGreatDoor
namespace Rows

/-- THE TIED CARD OF 'laws.FnExactSoloOf'. -/
def fnExactSoloOfCard : Claim7 := { stood := { row := fnExactSoloOfRow, standIns := [], harness := (true, "29db3e30beb49aa0386a82fc3f560059cf66a030d590288842adbb397b71a934"), looks := true }, kinds := [], alts := [], laidByText := true, laidKinds := [.handle], laidTests := true, laidLooks := .later }
def FnExactSoloOfCardSaid : Prop := Claim7.holds Tryz.pinned (.plain (OpenSpec.ofChange fnExactSoloOfSpec)) fnExactSoloOfCard

/-- THE SECOND FORM's CARD OF 'laws.FnExactSoloOf'. -/
def fnExactSoloOfUptoCard : Claim7 := { stood := { row := fnExactSoloOfUptoRow, standIns := [], harness := (true, "29db3e30beb49aa0386a82fc3f560059cf66a030d590288842adbb397b71a934"), looks := true }, kinds := [], alts := [], laidByText := true, laidKinds := [.handle], laidTests := true, laidLooks := .later }
def FnExactSoloOfUptoCardSaid : Prop := Claim7.holds Tryz.pinned (.plain (OpenSpec.upto fnExactSoloOfSpec)) fnExactSoloOfUptoCard
end Rows
end Go.Proofs.YtbegbphbcjoglaaGreatDoor
