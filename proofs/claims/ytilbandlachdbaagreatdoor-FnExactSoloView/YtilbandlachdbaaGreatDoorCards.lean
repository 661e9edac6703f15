/-
  DERIVED. GIVEN WITH THE SEED: THE CARDS: each row of YtilbandlachdbaaGreatDoorRows.lean that lists a variable, with what it lists TIED to the program's text (the seventh form; the later family's looks); each row that meets fmt, with fmt's text TOLD by the authors' own Lean function (tested against real Go, not proved from fmt's source: count such statements apart). THE CARD IS WHAT COUNTS. Prove the row's statement (the work); the ties are given (YtilbandlachdbaaGreatDoorTie.lean); close each card by the builder's one call (the guide's Derived/Test/ToyasCard.lean, 'card_holds'). Laid BY PROGRAM, IN A SANDBOX (cutbox-door.mjs). By AI agents, Wed Nov 11 2026. No macro, syntax, notation, axiom, sorry.
-/
import Derived.Test.YtilbandlachdbaaGreatDoorRows
import GoSem.ClaimSeven
namespace Go.Proofs.YtilbandlachdbaaGreatDoor
namespace Rows

/-- THE TIED CARD OF 'laws.FnExactViewOf'. -/
def fnExactViewOfCard : Claim7 := { stood := { row := fnExactViewOfRow, standIns := [], harness := (true, "950f9c644ea0e9ca4838faad416079daa5aeeef8251a186229c6b59aed7a673c"), looks := true }, kinds := [], alts := [], laidByText := true, laidKinds := [.handle], laidTests := true, laidLooks := .later }
def FnExactViewOfCardSaid : Prop := Claim7.holds Tryz.pinned (.plain (OpenSpec.ofChange fnExactViewOfSpec)) fnExactViewOfCard

/-- THE TIED CARD OF 'laws.FnExactSoloView'. -/
def fnExactSoloViewCard : Claim7 := { stood := { row := fnExactSoloViewRow, standIns := [], harness := (true, "950f9c644ea0e9ca4838faad416079daa5aeeef8251a186229c6b59aed7a673c"), looks := true }, kinds := [], alts := [], laidByText := true, laidKinds := [.handle], laidTests := true, laidLooks := .later }
def FnExactSoloViewCardSaid : Prop := Claim7.holds Tryz.pinned (.plain (OpenSpec.ofChange fnExactSoloViewSpec)) fnExactSoloViewCard

/-- THE SECOND FORM's CARD OF 'laws.FnExactViewOf'. -/
def fnExactViewOfUptoCard : Claim7 := { stood := { row := fnExactViewOfUptoRow, standIns := [], harness := (true, "950f9c644ea0e9ca4838faad416079daa5aeeef8251a186229c6b59aed7a673c"), looks := true }, kinds := [], alts := [], laidByText := true, laidKinds := [.handle], laidTests := true, laidLooks := .later }
def FnExactViewOfUptoCardSaid : Prop := Claim7.holds Tryz.pinned (.plain (OpenSpec.upto fnExactViewOfSpec)) fnExactViewOfUptoCard

/-- THE SECOND FORM's CARD OF 'laws.FnExactSoloView'. -/
def fnExactSoloViewUptoCard : Claim7 := { stood := { row := fnExactSoloViewUptoRow, standIns := [], harness := (true, "950f9c644ea0e9ca4838faad416079daa5aeeef8251a186229c6b59aed7a673c"), looks := true }, kinds := [], alts := [], laidByText := true, laidKinds := [.handle], laidTests := true, laidLooks := .later }
def FnExactSoloViewUptoCardSaid : Prop := Claim7.holds Tryz.pinned (.plain (OpenSpec.upto fnExactSoloViewSpec)) fnExactSoloViewUptoCard
end Rows
end Go.Proofs.YtilbandlachdbaaGreatDoor
