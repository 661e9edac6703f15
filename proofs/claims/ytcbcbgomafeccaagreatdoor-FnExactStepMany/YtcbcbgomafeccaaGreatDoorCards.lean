/-
  DERIVED. GIVEN WITH THE SEED: THE CARDS: each row of YtcbcbgomafeccaaGreatDoorRows.lean that lists a variable, with what it lists TIED to the program's text (the seventh form; the later family's looks); each row that meets fmt, with fmt's text TOLD by the authors' own Lean function (tested against real Go, not proved from fmt's source: count such statements apart). THE CARD IS WHAT COUNTS. Prove the row's statement (the work); the ties are given (YtcbcbgomafeccaaGreatDoorTie.lean); close each card by the builder's one call (the guide's Derived/Test/ToyasCard.lean, 'card_holds'). Laid BY PROGRAM, IN A SANDBOX (cutbox-door.mjs). By AI agents, Wed Nov 11 2026. No macro, syntax, notation, axiom, sorry.
-/
import Derived.Test.YtcbcbgomafeccaaGreatDoorRows
import GoSem.ClaimSeven
namespace Go.Proofs.YtcbcbgomafeccaaGreatDoor
namespace Rows

/-- THE TIED CARD OF 'laws.FnExactStepHart'. -/
def fnExactStepHartCard : Claim7 := { stood := { row := fnExactStepHartRow, standIns := [], harness := (true, "acfe3791ce0a9148f8dfcdc0083ae674d9b86224dc548a761d892e055f23f256"), looks := true }, kinds := [], alts := [], laidByText := true, laidKinds := [.data], laidTests := true, laidLooks := .later }
def FnExactStepHartCardSaid : Prop := Claim7.holds Tryz.pinned (.plain (OpenSpec.ofChange fnExactStepHartSpec)) fnExactStepHartCard

/-- THE TIED CARD OF 'laws.FnExactStepMany'. -/
def fnExactStepManyCard : Claim7 := { stood := { row := fnExactStepManyRow, standIns := [], harness := (true, "acfe3791ce0a9148f8dfcdc0083ae674d9b86224dc548a761d892e055f23f256"), looks := true }, kinds := [], alts := [], laidByText := true, laidKinds := [.data], laidTests := true, laidLooks := .later }
def FnExactStepManyCardSaid : Prop := Claim7.holds Tryz.pinned (.plain (OpenSpec.ofChange fnExactStepManySpec)) fnExactStepManyCard

/-- THE SECOND FORM's CARD OF 'laws.FnExactStepHart'. -/
def fnExactStepHartUptoCard : Claim7 := { stood := { row := fnExactStepHartUptoRow, standIns := [], harness := (true, "acfe3791ce0a9148f8dfcdc0083ae674d9b86224dc548a761d892e055f23f256"), looks := true }, kinds := [], alts := [], laidByText := true, laidKinds := [.data], laidTests := true, laidLooks := .later }
def FnExactStepHartUptoCardSaid : Prop := Claim7.holds Tryz.pinned (.plain (OpenSpec.upto fnExactStepHartSpec)) fnExactStepHartUptoCard

/-- THE SECOND FORM's CARD OF 'laws.FnExactStepMany'. -/
def fnExactStepManyUptoCard : Claim7 := { stood := { row := fnExactStepManyUptoRow, standIns := [], harness := (true, "acfe3791ce0a9148f8dfcdc0083ae674d9b86224dc548a761d892e055f23f256"), looks := true }, kinds := [], alts := [], laidByText := true, laidKinds := [.data], laidTests := true, laidLooks := .later }
def FnExactStepManyUptoCardSaid : Prop := Claim7.holds Tryz.pinned (.plain (OpenSpec.upto fnExactStepManySpec)) fnExactStepManyUptoCard
end Rows
end Go.Proofs.YtcbcbgomafeccaaGreatDoor
