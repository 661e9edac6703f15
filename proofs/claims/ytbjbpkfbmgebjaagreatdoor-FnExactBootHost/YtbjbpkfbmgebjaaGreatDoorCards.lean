/-
  DERIVED. GIVEN WITH THE SEED: THE CARDS: each row of YtbjbpkfbmgebjaaGreatDoorRows.lean that lists a variable, with what it lists TIED to the program's text (the seventh form; the later family's looks); each row that meets fmt, with fmt's text TOLD by the authors' own Lean function (tested against real Go, not proved from fmt's source: count such statements apart). THE CARD IS WHAT COUNTS. Prove the row's statement (the work); the ties are given (YtbjbpkfbmgebjaaGreatDoorTie.lean); close each card by the builder's one call (the guide's Derived/Test/ToyasCard.lean, 'card_holds'). Laid BY PROGRAM, IN A SANDBOX (cutbox-door.mjs). By AI agents, Wed Nov 11 2026. No macro, syntax, notation, axiom, sorry.
-/
import Derived.Test.YtbjbpkfbmgebjaaGreatDoorRows
import GoSem.ClaimSeven
namespace Go.Proofs.YtbjbpkfbmgebjaaGreatDoor
namespace Rows

/-- THE TIED CARD OF 'laws.FnExactBootHost'. -/
def fnExactBootHostCard : Claim7 := { stood := { row := fnExactBootHostRow, standIns := [], harness := (true, "fe6896aab76a68db18a8d30de73b6e3716f773ca40082cc2d97a0b2979dd5f4e"), looks := true }, kinds := [], alts := [], laidByText := true, laidKinds := [.handle], laidTests := true, laidLooks := .later }
def FnExactBootHostCardSaid : Prop := Claim7.holds Tryz.pinned (.plain (OpenSpec.ofChange fnExactBootHostSpec)) fnExactBootHostCard

/-- THE SECOND FORM's CARD OF 'laws.FnExactBootHost'. -/
def fnExactBootHostUptoCard : Claim7 := { stood := { row := fnExactBootHostUptoRow, standIns := [], harness := (true, "fe6896aab76a68db18a8d30de73b6e3716f773ca40082cc2d97a0b2979dd5f4e"), looks := true }, kinds := [], alts := [], laidByText := true, laidKinds := [.handle], laidTests := true, laidLooks := .later }
def FnExactBootHostUptoCardSaid : Prop := Claim7.holds Tryz.pinned (.plain (OpenSpec.upto fnExactBootHostSpec)) fnExactBootHostUptoCard
end Rows
end Go.Proofs.YtbjbpkfbmgebjaaGreatDoor
