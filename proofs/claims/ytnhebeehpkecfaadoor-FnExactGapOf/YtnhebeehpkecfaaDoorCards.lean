/-
  DERIVED. GIVEN WITH THE SEED: THE CARDS: each row of YtnhebeehpkecfaaDoorRows.lean that lists a variable, with what it lists TIED to the program's text (the seventh form; the later family's looks); each row that meets fmt, with fmt's text TOLD by the authors' own Lean function (tested against real Go, not proved from fmt's source: count such statements apart). THE CARD IS WHAT COUNTS. Prove the row's statement (the work); the ties are given (YtnhebeehpkecfaaDoorTie.lean); close each card by the builder's one call (the guide's Derived/Test/ToyasCard.lean, 'card_holds'). Laid BY PROGRAM, IN A SANDBOX (cutbox-door.mjs). By AI agents, Wed Nov 11 2026. No macro, syntax, notation, axiom, sorry.
-/
import Derived.Test.YtnhebeehpkecfaaDoorRows
import GoSem.ClaimSeven
namespace Go.Proofs.YtnhebeehpkecfaaDoor
namespace Rows

/-- THE TIED CARD OF 'laws.FnExactGapOf'. -/
def fnExactGapOfCard : Claim7 := { stood := { row := fnExactGapOfRow, standIns := [], harness := (true, "d105363cf6323d72a197ffdb10217c301d1c7680cc90c8913df8eb4b33f6cda6"), looks := true }, kinds := [], alts := [], laidByText := true, laidKinds := [.handle], laidTests := true, laidLooks := .later }
def FnExactGapOfCardSaid : Prop := Claim7.holds Tryd.pinned (.plain (OpenSpec.ofChange fnExactGapOfSpec)) fnExactGapOfCard

/-- THE SECOND FORM's CARD OF 'laws.FnExactGapOf'. -/
def fnExactGapOfUptoCard : Claim7 := { stood := { row := fnExactGapOfUptoRow, standIns := [], harness := (true, "d105363cf6323d72a197ffdb10217c301d1c7680cc90c8913df8eb4b33f6cda6"), looks := true }, kinds := [], alts := [], laidByText := true, laidKinds := [.handle], laidTests := true, laidLooks := .later }
def FnExactGapOfUptoCardSaid : Prop := Claim7.holds Tryd.pinned (.plain (OpenSpec.upto fnExactGapOfSpec)) fnExactGapOfUptoCard
end Rows
end Go.Proofs.YtnhebeehpkecfaaDoor
