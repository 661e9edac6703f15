/-
  DERIVED. GIVEN WITH THE SEED: THE CARDS: each row of YtdogabmehjbphaaDoorRows.lean that lists a variable, with what it lists TIED to the program's text (the seventh form; the later family's looks); each row that meets fmt, with fmt's text TOLD by the authors' own Lean function (tested against real Go, not proved from fmt's source: count such statements apart). THE CARD IS WHAT COUNTS. Prove the row's statement (the work); the ties are given (YtdogabmehjbphaaDoorTie.lean); close each card by the builder's one call (the guide's Derived/Test/ToyasCard.lean, 'card_holds'). Laid BY PROGRAM, IN A SANDBOX (cutbox-door.mjs). By AI agents, Wed Nov 11 2026. No macro, syntax, notation, axiom, sorry.
-/
import Derived.Test.YtdogabmehjbphaaDoorRows
import GoSem.ClaimSeven
namespace Go.Proofs.YtdogabmehjbphaaDoor
namespace Rows

/-- THE TIED CARD OF 'laws.FnExactDisassemble'. -/
def fnExactDisassembleCard : Claim7 := { stood := { row := fnExactDisassembleRow, standIns := [], harness := (true, "1bc3c128692c92a02d62a63fe0f089f7baafef0f43ca2880ca09e1bd7675df7f"), looks := false }, kinds := [], alts := [], laidByText := true, laidKinds := [.data, .data, .data], laidTests := true, laidLooks := .later }
def FnExactDisassembleCardSaid : Prop := Claim7.holds Tryd.pinned (.plain (OpenSpec.ofChange fnExactDisassembleSpec)) fnExactDisassembleCard

/-- THE SECOND FORM's CARD OF 'laws.FnExactDisassemble'. -/
def fnExactDisassembleUptoCard : Claim7 := { stood := { row := fnExactDisassembleUptoRow, standIns := [], harness := (true, "1bc3c128692c92a02d62a63fe0f089f7baafef0f43ca2880ca09e1bd7675df7f"), looks := false }, kinds := [], alts := [], laidByText := true, laidKinds := [.data, .data, .data], laidTests := true, laidLooks := .later }
def FnExactDisassembleUptoCardSaid : Prop := Claim7.holds Tryd.pinned (.plain (OpenSpec.upto fnExactDisassembleSpec)) fnExactDisassembleUptoCard
end Rows
end Go.Proofs.YtdogabmehjbphaaDoor
