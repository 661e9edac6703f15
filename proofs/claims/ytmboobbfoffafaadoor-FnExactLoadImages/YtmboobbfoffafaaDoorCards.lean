/-
  DERIVED. GIVEN WITH THE SEED: THE CARDS: each row of YtmboobbfoffafaaDoorRows.lean that lists a variable, with what it lists TIED to the program's text (the seventh form; the later family's looks); each row that meets fmt, with fmt's text TOLD by the authors' own Lean function (tested against real Go, not proved from fmt's source: count such statements apart). THE CARD IS WHAT COUNTS. Prove the row's statement (the work); the ties are given (YtmboobbfoffafaaDoorTie.lean); close each card by the builder's one call (the guide's Derived/Test/ToyasCard.lean, 'card_holds'). Laid BY PROGRAM, IN A SANDBOX (cutbox-door.mjs). By AI agents, Wed Nov 11 2026. No macro, syntax, notation, axiom, sorry.
-/
import Derived.Test.YtmboobbfoffafaaDoorRows
import GoSem.ClaimSeven
namespace Go.Proofs.YtmboobbfoffafaaDoor
namespace Rows

/-- THE TIED CARD OF 'laws.FnExactLoadImages'. -/
def fnExactLoadImagesCard : Claim7 := { stood := { row := fnExactLoadImagesRow, standIns := [], harness := (true, "ef85441437497c6272693ed718e2f9a8c22fadb566902cfb80d48ceabbf7c196"), looks := true }, kinds := [], alts := [], laidByText := true, laidKinds := [.handle], laidTests := true, laidLooks := .later }
def FnExactLoadImagesCardSaid : Prop := Claim7.holds Tryd.pinned (.plain (OpenSpec.ofChange fnExactLoadImagesSpec)) fnExactLoadImagesCard

/-- THE TIED CARD OF 'laws.FnExactFreePages'. -/
def fnExactFreePagesCard : Claim7 := { stood := { row := fnExactFreePagesRow, standIns := [], harness := (true, "ef85441437497c6272693ed718e2f9a8c22fadb566902cfb80d48ceabbf7c196"), looks := true }, kinds := [], alts := [], laidByText := true, laidKinds := [.handle], laidTests := true, laidLooks := .later }
def FnExactFreePagesCardSaid : Prop := Claim7.holds Tryd.pinned (.plain (OpenSpec.ofChange fnExactFreePagesSpec)) fnExactFreePagesCard

/-- THE SECOND FORM's CARD OF 'laws.FnExactLoadImages'. -/
def fnExactLoadImagesUptoCard : Claim7 := { stood := { row := fnExactLoadImagesUptoRow, standIns := [], harness := (true, "ef85441437497c6272693ed718e2f9a8c22fadb566902cfb80d48ceabbf7c196"), looks := true }, kinds := [], alts := [], laidByText := true, laidKinds := [.handle], laidTests := true, laidLooks := .later }
def FnExactLoadImagesUptoCardSaid : Prop := Claim7.holds Tryd.pinned (.plain (OpenSpec.upto fnExactLoadImagesSpec)) fnExactLoadImagesUptoCard

/-- THE SECOND FORM's CARD OF 'laws.FnExactFreePages'. -/
def fnExactFreePagesUptoCard : Claim7 := { stood := { row := fnExactFreePagesUptoRow, standIns := [], harness := (true, "ef85441437497c6272693ed718e2f9a8c22fadb566902cfb80d48ceabbf7c196"), looks := true }, kinds := [], alts := [], laidByText := true, laidKinds := [.handle], laidTests := true, laidLooks := .later }
def FnExactFreePagesUptoCardSaid : Prop := Claim7.holds Tryd.pinned (.plain (OpenSpec.upto fnExactFreePagesSpec)) fnExactFreePagesUptoCard
end Rows
end Go.Proofs.YtmboobbfoffafaaDoor
