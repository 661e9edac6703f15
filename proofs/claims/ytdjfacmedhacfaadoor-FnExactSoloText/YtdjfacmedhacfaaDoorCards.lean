/-
  DERIVED. GIVEN WITH THE SEED: THE CARDS: each row of YtdjfacmedhacfaaDoorRows.lean that lists a variable, with what it lists TIED to the program's text (the seventh form; the later family's looks); each row that meets fmt, with fmt's text TOLD by the authors' own Lean function (tested against real Go, not proved from fmt's source: count such statements apart). THE CARD IS WHAT COUNTS. Prove the row's statement (the work); the ties are given (YtdjfacmedhacfaaDoorTie.lean); close each card by the builder's one call (the guide's Derived/Test/ToyasCard.lean, 'card_holds'). Laid BY PROGRAM, IN A SANDBOX (cutbox-door.mjs). By AI agents, Wed Nov 11 2026. No macro, syntax, notation, axiom, sorry.
-/
import Derived.Test.YtdjfacmedhacfaaDoorRows
import GoSem.ClaimSeven
namespace Go.Proofs.YtdjfacmedhacfaaDoor
namespace Rows

/-- THE TIED CARD OF 'laws.FnExactSoloText'. -/
def fnExactSoloTextCard : Claim7 := { stood := { row := fnExactSoloTextRow, standIns := [], harness := (true, "6c29029d2628cb4caeae9e485694e0bdf61219025eb9b36bf2505cc7418174d6"), looks := false }, kinds := [], alts := [], laidByText := true, laidKinds := [.data, .data, .data], laidTests := true, laidLooks := .later }
def FnExactSoloTextCardSaid : Prop := Claim7.holds Tryd.pinned (.plain (OpenSpec.ofChange fnExactSoloTextSpec)) fnExactSoloTextCard

/-- THE SECOND FORM's CARD OF 'laws.FnExactSoloText'. -/
def fnExactSoloTextUptoCard : Claim7 := { stood := { row := fnExactSoloTextUptoRow, standIns := [], harness := (true, "6c29029d2628cb4caeae9e485694e0bdf61219025eb9b36bf2505cc7418174d6"), looks := false }, kinds := [], alts := [], laidByText := true, laidKinds := [.data, .data, .data], laidTests := true, laidLooks := .later }
def FnExactSoloTextUptoCardSaid : Prop := Claim7.holds Tryd.pinned (.plain (OpenSpec.upto fnExactSoloTextSpec)) fnExactSoloTextUptoCard
end Rows
end Go.Proofs.YtdjfacmedhacfaaDoor
