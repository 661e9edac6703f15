/-
  DERIVED. GIVEN WITH THE SEED: THE CARDS: each row of YtnhebeehpkecfaaGreatDoorRows.lean that lists a variable, with what it lists TIED to the program's text (the seventh form; the later family's looks); each row that meets fmt, with fmt's text TOLD by the authors' own Lean function (tested against real Go, not proved from fmt's source: count such statements apart). THE CARD IS WHAT COUNTS. Prove the row's statement (the work); the ties are given (YtnhebeehpkecfaaGreatDoorTie.lean); close each card by the builder's one call (the guide's Derived/Test/ToyasCard.lean, 'card_holds'). Laid BY PROGRAM, IN A SANDBOX (cutbox-door.mjs). By AI agents, Wed Nov 11 2026. No macro, syntax, notation, axiom, sorry.
-/
import Derived.Test.YtnhebeehpkecfaaGreatDoorRows
import GoSem.ClaimSeven
namespace Go.Proofs.YtnhebeehpkecfaaGreatDoor
namespace Rows

/-- THE TIED CARD OF 'laws.FnExactMayChange'. -/
def fnExactMayChangeCard : Claim7 := { stood := { row := fnExactMayChangeRow, standIns := [], harness := (true, "117e6109c2d3ac1fc1edfbd5e0f87c97c003875fef7a37f0d9c43e5f1ad41c04"), looks := true }, kinds := [], alts := [], laidByText := true, laidKinds := [.handle], laidTests := true, laidLooks := .later }
def FnExactMayChangeCardSaid : Prop := Claim7.holds Tryz.pinned (.plain (OpenSpec.ofChange fnExactMayChangeSpec)) fnExactMayChangeCard

/-- THE TIED CARD OF 'laws.FnExactStrangersTo'. -/
def fnExactStrangersToCard : Claim7 := { stood := { row := fnExactStrangersToRow, standIns := [], harness := (true, "117e6109c2d3ac1fc1edfbd5e0f87c97c003875fef7a37f0d9c43e5f1ad41c04"), looks := true }, kinds := [], alts := [], laidByText := true, laidKinds := [.handle], laidTests := true, laidLooks := .later }
def FnExactStrangersToCardSaid : Prop := Claim7.holds Tryz.pinned (.plain (OpenSpec.ofChange fnExactStrangersToSpec)) fnExactStrangersToCard

/-- THE SECOND FORM's CARD OF 'laws.FnExactMayChange'. -/
def fnExactMayChangeUptoCard : Claim7 := { stood := { row := fnExactMayChangeUptoRow, standIns := [], harness := (true, "117e6109c2d3ac1fc1edfbd5e0f87c97c003875fef7a37f0d9c43e5f1ad41c04"), looks := true }, kinds := [], alts := [], laidByText := true, laidKinds := [.handle], laidTests := true, laidLooks := .later }
def FnExactMayChangeUptoCardSaid : Prop := Claim7.holds Tryz.pinned (.plain (OpenSpec.upto fnExactMayChangeSpec)) fnExactMayChangeUptoCard

/-- THE SECOND FORM's CARD OF 'laws.FnExactStrangersTo'. -/
def fnExactStrangersToUptoCard : Claim7 := { stood := { row := fnExactStrangersToUptoRow, standIns := [], harness := (true, "117e6109c2d3ac1fc1edfbd5e0f87c97c003875fef7a37f0d9c43e5f1ad41c04"), looks := true }, kinds := [], alts := [], laidByText := true, laidKinds := [.handle], laidTests := true, laidLooks := .later }
def FnExactStrangersToUptoCardSaid : Prop := Claim7.holds Tryz.pinned (.plain (OpenSpec.upto fnExactStrangersToSpec)) fnExactStrangersToUptoCard
end Rows
end Go.Proofs.YtnhebeehpkecfaaGreatDoor
