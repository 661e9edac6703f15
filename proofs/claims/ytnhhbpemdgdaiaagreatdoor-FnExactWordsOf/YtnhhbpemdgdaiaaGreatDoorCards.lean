/-
  DERIVED. GIVEN WITH THE SEED: THE CARDS: each row of YtnhhbpemdgdaiaaGreatDoorRows.lean that lists a variable, with what it lists TIED to the program's text (the seventh form; the later family's looks); each row that meets fmt, with fmt's text TOLD by the authors' own Lean function (tested against real Go, not proved from fmt's source: count such statements apart). THE CARD IS WHAT COUNTS. Prove the row's statement (the work); the ties are given (YtnhhbpemdgdaiaaGreatDoorTie.lean); close each card by the builder's one call (the guide's Derived/Test/ToyasCard.lean, 'card_holds'). Laid BY PROGRAM, IN A SANDBOX (cutbox-door.mjs). By AI agents, Wed Nov 11 2026. No macro, syntax, notation, axiom, sorry.
-/
import Derived.Test.YtnhhbpemdgdaiaaGreatDoorRows
import GoSem.ClaimSeven
namespace Go.Proofs.YtnhhbpemdgdaiaaGreatDoor
namespace Rows

/-- THE TIED CARD OF 'laws.FnExactWordsOf'. -/
def fnExactWordsOfCard : Claim7 := { stood := { row := fnExactWordsOfRow, standIns := [], harness := (true, "9da6df707be8185bf6426d813ada64221558c67cbe3476d44c2c48367f14cbb9"), looks := true }, kinds := [], alts := [], laidByText := true, laidKinds := [.handle], laidTests := true, laidLooks := .later }
def FnExactWordsOfCardSaid : Prop := Claim7.holds Tryz.pinned (.plain (OpenSpec.ofChange fnExactWordsOfSpec)) fnExactWordsOfCard

/-- THE TIED CARD OF 'laws.FnExactLaneWords'. -/
def fnExactLaneWordsCard : Claim7 := { stood := { row := fnExactLaneWordsRow, standIns := [], harness := (true, "9da6df707be8185bf6426d813ada64221558c67cbe3476d44c2c48367f14cbb9"), looks := true }, kinds := [], alts := [], laidByText := true, laidKinds := [.handle], laidTests := true, laidLooks := .later }
def FnExactLaneWordsCardSaid : Prop := Claim7.holds Tryz.pinned (.plain (OpenSpec.ofChange fnExactLaneWordsSpec)) fnExactLaneWordsCard

/-- THE SECOND FORM's CARD OF 'laws.FnExactWordsOf'. -/
def fnExactWordsOfUptoCard : Claim7 := { stood := { row := fnExactWordsOfUptoRow, standIns := [], harness := (true, "9da6df707be8185bf6426d813ada64221558c67cbe3476d44c2c48367f14cbb9"), looks := true }, kinds := [], alts := [], laidByText := true, laidKinds := [.handle], laidTests := true, laidLooks := .later }
def FnExactWordsOfUptoCardSaid : Prop := Claim7.holds Tryz.pinned (.plain (OpenSpec.upto fnExactWordsOfSpec)) fnExactWordsOfUptoCard

/-- THE SECOND FORM's CARD OF 'laws.FnExactLaneWords'. -/
def fnExactLaneWordsUptoCard : Claim7 := { stood := { row := fnExactLaneWordsUptoRow, standIns := [], harness := (true, "9da6df707be8185bf6426d813ada64221558c67cbe3476d44c2c48367f14cbb9"), looks := true }, kinds := [], alts := [], laidByText := true, laidKinds := [.handle], laidTests := true, laidLooks := .later }
def FnExactLaneWordsUptoCardSaid : Prop := Claim7.holds Tryz.pinned (.plain (OpenSpec.upto fnExactLaneWordsSpec)) fnExactLaneWordsUptoCard
end Rows
end Go.Proofs.YtnhhbpemdgdaiaaGreatDoor
