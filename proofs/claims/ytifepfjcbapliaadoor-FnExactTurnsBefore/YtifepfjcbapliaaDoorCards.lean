/-
  DERIVED. GIVEN WITH THE SEED: THE CARDS: each row of YtifepfjcbapliaaDoorRows.lean that lists a variable, with what it lists TIED to the program's text (the seventh form; the later family's looks); each row that meets fmt, with fmt's text TOLD by the authors' own Lean function (tested against real Go, not proved from fmt's source: count such statements apart). THE CARD IS WHAT COUNTS. Prove the row's statement (the work); the ties are given (YtifepfjcbapliaaDoorTie.lean); close each card by the builder's one call (the guide's Derived/Test/ToyasCard.lean, 'card_holds'). Laid BY PROGRAM, IN A SANDBOX (cutbox-door.mjs). By AI agents, Wed Nov 11 2026. No macro, syntax, notation, axiom, sorry.
-/
import Derived.Test.YtifepfjcbapliaaDoorRows
import GoSem.ClaimSeven
namespace Go.Proofs.YtifepfjcbapliaaDoor
namespace Rows

/-- THE TIED CARD OF 'laws.FnExactTurnAt'. -/
def fnExactTurnAtCard : Claim7 := { stood := { row := fnExactTurnAtRow, standIns := [], harness := (true, "aed3b4f3662bd0bc5e7b28f4b9292ad44de6e92200bd48fe59b90711ae49cfe9"), looks := true }, kinds := [], alts := [], laidByText := true, laidKinds := [.handle], laidTests := true, laidLooks := .later }
def FnExactTurnAtCardSaid : Prop := Claim7.holds Tryd.pinned (.plain (OpenSpec.ofChange fnExactTurnAtSpec)) fnExactTurnAtCard

/-- THE TIED CARD OF 'laws.FnExactTurnsBefore'. -/
def fnExactTurnsBeforeCard : Claim7 := { stood := { row := fnExactTurnsBeforeRow, standIns := [], harness := (true, "aed3b4f3662bd0bc5e7b28f4b9292ad44de6e92200bd48fe59b90711ae49cfe9"), looks := true }, kinds := [], alts := [], laidByText := true, laidKinds := [.handle], laidTests := true, laidLooks := .later }
def FnExactTurnsBeforeCardSaid : Prop := Claim7.holds Tryd.pinned (.plain (OpenSpec.ofChange fnExactTurnsBeforeSpec)) fnExactTurnsBeforeCard

/-- THE SECOND FORM's CARD OF 'laws.FnExactTurnAt'. -/
def fnExactTurnAtUptoCard : Claim7 := { stood := { row := fnExactTurnAtUptoRow, standIns := [], harness := (true, "aed3b4f3662bd0bc5e7b28f4b9292ad44de6e92200bd48fe59b90711ae49cfe9"), looks := true }, kinds := [], alts := [], laidByText := true, laidKinds := [.handle], laidTests := true, laidLooks := .later }
def FnExactTurnAtUptoCardSaid : Prop := Claim7.holds Tryd.pinned (.plain (OpenSpec.upto fnExactTurnAtSpec)) fnExactTurnAtUptoCard

/-- THE SECOND FORM's CARD OF 'laws.FnExactTurnsBefore'. -/
def fnExactTurnsBeforeUptoCard : Claim7 := { stood := { row := fnExactTurnsBeforeUptoRow, standIns := [], harness := (true, "aed3b4f3662bd0bc5e7b28f4b9292ad44de6e92200bd48fe59b90711ae49cfe9"), looks := true }, kinds := [], alts := [], laidByText := true, laidKinds := [.handle], laidTests := true, laidLooks := .later }
def FnExactTurnsBeforeUptoCardSaid : Prop := Claim7.holds Tryd.pinned (.plain (OpenSpec.upto fnExactTurnsBeforeSpec)) fnExactTurnsBeforeUptoCard
end Rows
end Go.Proofs.YtifepfjcbapliaaDoor
