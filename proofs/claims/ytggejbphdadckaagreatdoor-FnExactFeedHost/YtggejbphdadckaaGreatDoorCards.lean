/-
  DERIVED. GIVEN WITH THE SEED: THE CARDS: each row of YtggejbphdadckaaGreatDoorRows.lean that lists a variable, with what it lists TIED to the program's text (the seventh form; the later family's looks); each row that meets fmt, with fmt's text TOLD by the authors' own Lean function (tested against real Go, not proved from fmt's source: count such statements apart). THE CARD IS WHAT COUNTS. Prove the row's statement (the work); the ties are given (YtggejbphdadckaaGreatDoorTie.lean); close each card by the builder's one call (the guide's Derived/Test/ToyasCard.lean, 'card_holds'). Laid BY PROGRAM, IN A SANDBOX (cutbox-door.mjs). By AI agents, Wed Nov 11 2026. No macro, syntax, notation, axiom, sorry.
-/
import Derived.Test.YtggejbphdadckaaGreatDoorRows
import GoSem.ClaimSeven
namespace Go.Proofs.YtggejbphdadckaaGreatDoor
namespace Rows

/-- THE TIED CARD OF 'laws.FnExactFeedHost'. -/
def fnExactFeedHostCard : Claim7 := { stood := { row := fnExactFeedHostRow, standIns := [], harness := (true, "e2342d1bac18347f63e8d351f40b6f2ca4a310c9ce2e291bb8c07351c7c373a2"), looks := true }, kinds := [], alts := [], laidByText := true, laidKinds := [.handle], laidTests := true, laidLooks := .later }
def FnExactFeedHostCardSaid : Prop := Claim7.holds Tryz.pinned (.plain (OpenSpec.ofChange fnExactFeedHostSpec)) fnExactFeedHostCard

/-- THE SECOND FORM's CARD OF 'laws.FnExactFeedHost'. -/
def fnExactFeedHostUptoCard : Claim7 := { stood := { row := fnExactFeedHostUptoRow, standIns := [], harness := (true, "e2342d1bac18347f63e8d351f40b6f2ca4a310c9ce2e291bb8c07351c7c373a2"), looks := true }, kinds := [], alts := [], laidByText := true, laidKinds := [.handle], laidTests := true, laidLooks := .later }
def FnExactFeedHostUptoCardSaid : Prop := Claim7.holds Tryz.pinned (.plain (OpenSpec.upto fnExactFeedHostSpec)) fnExactFeedHostUptoCard
end Rows
end Go.Proofs.YtggejbphdadckaaGreatDoor
