/-
  DERIVED. GIVEN WITH THE SEED: THE CARDS: each row of YtkaehdlgimodjaaGreatDoorRows.lean that lists a variable, with what it lists TIED to the program's text (the seventh form; the later family's looks); each row that meets fmt, with fmt's text TOLD by the authors' own Lean function (tested against real Go, not proved from fmt's source: count such statements apart). THE CARD IS WHAT COUNTS. Prove the row's statement (the work); the ties are given (YtkaehdlgimodjaaGreatDoorTie.lean); close each card by the builder's one call (the guide's Derived/Test/ToyasCard.lean, 'card_holds'). Laid BY PROGRAM, IN A SANDBOX (cutbox-door.mjs). By AI agents, Wed Nov 11 2026. No macro, syntax, notation, axiom, sorry.
-/
import Derived.Test.YtkaehdlgimodjaaGreatDoorRows
import GoSem.ClaimSeven
namespace Go.Proofs.YtkaehdlgimodjaaGreatDoor
namespace Rows

/-- THE TIED CARD OF 'laws.FnExactHostText'. -/
def fnExactHostTextCard : Claim7 := { stood := { row := fnExactHostTextRow, standIns := [], harness := (true, "41b34936a9fece7421163e84d88e40fad90e9dc73429e3ff486d6947f1552ace"), looks := true }, kinds := [], alts := [], laidByText := true, laidKinds := [.data, .data, .data, .handle], laidTests := true, laidLooks := .later }
def FnExactHostTextCardSaid : Prop := Claim7.holds Tryz.pinned (.plain (OpenSpec.ofChange fnExactHostTextSpec)) fnExactHostTextCard

/-- THE SECOND FORM's CARD OF 'laws.FnExactHostText'. -/
def fnExactHostTextUptoCard : Claim7 := { stood := { row := fnExactHostTextUptoRow, standIns := [], harness := (true, "41b34936a9fece7421163e84d88e40fad90e9dc73429e3ff486d6947f1552ace"), looks := true }, kinds := [], alts := [], laidByText := true, laidKinds := [.data, .data, .data, .handle], laidTests := true, laidLooks := .later }
def FnExactHostTextUptoCardSaid : Prop := Claim7.holds Tryz.pinned (.plain (OpenSpec.upto fnExactHostTextSpec)) fnExactHostTextUptoCard
end Rows
end Go.Proofs.YtkaehdlgimodjaaGreatDoor
