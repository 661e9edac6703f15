/-
  DERIVED. GIVEN WITH THE SEED: THE CARDS: each row of YthnaggeilbcioaaGreatDoorRows.lean that lists a variable, with what it lists TIED to the program's text (the seventh form; the later family's looks); each row that meets fmt, with fmt's text TOLD by the authors' own Lean function (tested against real Go, not proved from fmt's source: count such statements apart). THE CARD IS WHAT COUNTS. Prove the row's statement (the work); the ties are given (YthnaggeilbcioaaGreatDoorTie.lean); close each card by the builder's one call (the guide's Derived/Test/ToyasCard.lean, 'card_holds'). Laid BY PROGRAM, IN A SANDBOX (cutbox-door.mjs). By AI agents, Wed Nov 11 2026. No macro, syntax, notation, axiom, sorry.
-/
import Derived.Test.YthnaggeilbcioaaGreatDoorRows
import GoSem.ClaimSeven
namespace Go.Proofs.YthnaggeilbcioaaGreatDoor
namespace Rows

/-- THE TIED CARD OF 'laws.FnExactSoloFrom'. -/
def fnExactSoloFromCard : Claim7 := { stood := { row := fnExactSoloFromRow, standIns := [], harness := (true, "c9b8754c6838efe2becf7a32f66461a0206fe11094b27d4268493598a9d3c4e1"), looks := true }, kinds := [], alts := [], laidByText := true, laidKinds := [.handle], laidTests := true, laidLooks := .later }
def FnExactSoloFromCardSaid : Prop := Claim7.holds Tryz.pinned (.plain (OpenSpec.ofChange fnExactSoloFromSpec)) fnExactSoloFromCard

/-- THE SECOND FORM's CARD OF 'laws.FnExactSoloFrom'. -/
def fnExactSoloFromUptoCard : Claim7 := { stood := { row := fnExactSoloFromUptoRow, standIns := [], harness := (true, "c9b8754c6838efe2becf7a32f66461a0206fe11094b27d4268493598a9d3c4e1"), looks := true }, kinds := [], alts := [], laidByText := true, laidKinds := [.handle], laidTests := true, laidLooks := .later }
def FnExactSoloFromUptoCardSaid : Prop := Claim7.holds Tryz.pinned (.plain (OpenSpec.upto fnExactSoloFromSpec)) fnExactSoloFromUptoCard
end Rows
end Go.Proofs.YthnaggeilbcioaaGreatDoor
