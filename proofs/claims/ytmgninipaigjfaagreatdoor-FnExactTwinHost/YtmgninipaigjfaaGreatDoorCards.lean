/-
  DERIVED. GIVEN WITH THE SEED: THE CARDS: each row of YtmgninipaigjfaaGreatDoorRows.lean that lists a variable, with what it lists TIED to the program's text (the seventh form; the later family's looks); each row that meets fmt, with fmt's text TOLD by the authors' own Lean function (tested against real Go, not proved from fmt's source: count such statements apart). THE CARD IS WHAT COUNTS. Prove the row's statement (the work); the ties are given (YtmgninipaigjfaaGreatDoorTie.lean); close each card by the builder's one call (the guide's Derived/Test/ToyasCard.lean, 'card_holds'). Laid BY PROGRAM, IN A SANDBOX (cutbox-door.mjs). By AI agents, Wed Nov 11 2026. No macro, syntax, notation, axiom, sorry.
-/
import Derived.Test.YtmgninipaigjfaaGreatDoorRows
import GoSem.ClaimSeven
namespace Go.Proofs.YtmgninipaigjfaaGreatDoor
namespace Rows

/-- THE TIED CARD OF 'laws.FnExactTwinHost'. -/
def fnExactTwinHostCard : Claim7 := { stood := { row := fnExactTwinHostRow, standIns := [], harness := (true, "0ff97d37ad5413b8191fa3306d3894385542a24a68c0f096c6120d80d83303ef"), looks := true }, kinds := [], alts := [], laidByText := true, laidKinds := [.handle], laidTests := true, laidLooks := .later }
def FnExactTwinHostCardSaid : Prop := Claim7.holds Tryz.pinned (.plain (OpenSpec.ofChange fnExactTwinHostSpec)) fnExactTwinHostCard

/-- THE SECOND FORM's CARD OF 'laws.FnExactTwinHost'. -/
def fnExactTwinHostUptoCard : Claim7 := { stood := { row := fnExactTwinHostUptoRow, standIns := [], harness := (true, "0ff97d37ad5413b8191fa3306d3894385542a24a68c0f096c6120d80d83303ef"), looks := true }, kinds := [], alts := [], laidByText := true, laidKinds := [.handle], laidTests := true, laidLooks := .later }
def FnExactTwinHostUptoCardSaid : Prop := Claim7.holds Tryz.pinned (.plain (OpenSpec.upto fnExactTwinHostSpec)) fnExactTwinHostUptoCard
end Rows
end Go.Proofs.YtmgninipaigjfaaGreatDoor
