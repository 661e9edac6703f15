/-
  DERIVED. GIVEN WITH THE SEED: THE CARDS: each row of YtgefcoojnahokaaDoorRows.lean that lists a variable, with what it lists TIED to the program's text (the seventh form; the later family's looks); each row that meets fmt, with fmt's text TOLD by the authors' own Lean function (tested against real Go, not proved from fmt's source: count such statements apart). THE CARD IS WHAT COUNTS. Prove the row's statement (the work); the ties are given (YtgefcoojnahokaaDoorTie.lean); close each card by the builder's one call (the guide's Derived/Test/ToyasCard.lean, 'card_holds'). Laid BY PROGRAM, IN A SANDBOX (cutbox-door.mjs). By AI agents, Wed Nov 11 2026. No macro, syntax, notation, axiom, sorry.
-/
import Derived.Test.YtgefcoojnahokaaDoorRows
import GoSem.ClaimSeven
namespace Go.Proofs.YtgefcoojnahokaaDoor
namespace Rows

/-- THE TIED CARD OF 'laws.FnGaps'. -/
def fnGapsCard : Claim7 := { stood := { row := fnGapsRow, standIns := [], harness := (true, "7d1a9090cf2d18f9fa3c678da05eb09193be80748d00f3f169f52ed6c2f5d575"), looks := true }, kinds := [], alts := [], laidByText := true, laidKinds := [.handle], laidTests := true, laidLooks := .later }
def FnGapsCardSaid : Prop := Claim7.holds Tryd.pinned (.plain (OpenSpec.ofChange fnGapsSpec)) fnGapsCard

/-- THE SECOND FORM's CARD OF 'laws.FnGaps'. -/
def fnGapsUptoCard : Claim7 := { stood := { row := fnGapsUptoRow, standIns := [], harness := (true, "7d1a9090cf2d18f9fa3c678da05eb09193be80748d00f3f169f52ed6c2f5d575"), looks := true }, kinds := [], alts := [], laidByText := true, laidKinds := [.handle], laidTests := true, laidLooks := .later }
def FnGapsUptoCardSaid : Prop := Claim7.holds Tryd.pinned (.plain (OpenSpec.upto fnGapsSpec)) fnGapsUptoCard
end Rows
end Go.Proofs.YtgefcoojnahokaaDoor
