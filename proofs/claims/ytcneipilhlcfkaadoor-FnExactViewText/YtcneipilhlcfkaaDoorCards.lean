/-
  DERIVED. GIVEN WITH THE SEED: THE CARDS: each row of YtcneipilhlcfkaaDoorRows.lean that lists a variable, with what it lists TIED to the program's text (the seventh form; the later family's looks); each row that meets fmt, with fmt's text TOLD by the authors' own Lean function (tested against real Go, not proved from fmt's source: count such statements apart). THE CARD IS WHAT COUNTS. Prove the row's statement (the work); the ties are given (YtcneipilhlcfkaaDoorTie.lean); close each card by the builder's one call (the guide's Derived/Test/ToyasCard.lean, 'card_holds'). Laid BY PROGRAM, IN A SANDBOX (cutbox-door.mjs). By AI agents, Wed Nov 11 2026. No macro, syntax, notation, axiom, sorry.
-/
import Derived.Test.YtcneipilhlcfkaaDoorRows
import GoSem.ClaimSeven
namespace Go.Proofs.YtcneipilhlcfkaaDoor
namespace Rows

/-- THE TIED CARD OF 'laws.FnExactSoloText'. -/
def fnExactSoloTextCard : Claim7 := { stood := { row := fnExactSoloTextRow, standIns := [], harness := (true, "87a2781fad5c31691a5971297d073ede6b54cebdfdc345ddc9328cb6ad76bc0b"), looks := false }, kinds := [], alts := [], laidByText := true, laidKinds := [.data, .data, .data], laidTests := true, laidLooks := .later }
def FnExactSoloTextCardSaid : Prop := Claim7.holds Tryd.pinned (.plain (OpenSpec.ofChange fnExactSoloTextSpec)) fnExactSoloTextCard

/-- THE TIED CARD OF 'laws.FnExactViewText'. -/
def fnExactViewTextCard : Claim7 := { stood := { row := fnExactViewTextRow, standIns := [], harness := (true, "87a2781fad5c31691a5971297d073ede6b54cebdfdc345ddc9328cb6ad76bc0b"), looks := false }, kinds := [], alts := [], laidByText := true, laidKinds := [.data, .data, .data], laidTests := true, laidLooks := .later }
def FnExactViewTextCardSaid : Prop := Claim7.holds Tryd.pinned (.plain (OpenSpec.ofChange fnExactViewTextSpec)) fnExactViewTextCard

/-- THE SECOND FORM's CARD OF 'laws.FnExactSoloText'. -/
def fnExactSoloTextUptoCard : Claim7 := { stood := { row := fnExactSoloTextUptoRow, standIns := [], harness := (true, "87a2781fad5c31691a5971297d073ede6b54cebdfdc345ddc9328cb6ad76bc0b"), looks := false }, kinds := [], alts := [], laidByText := true, laidKinds := [.data, .data, .data], laidTests := true, laidLooks := .later }
def FnExactSoloTextUptoCardSaid : Prop := Claim7.holds Tryd.pinned (.plain (OpenSpec.upto fnExactSoloTextSpec)) fnExactSoloTextUptoCard

/-- THE SECOND FORM's CARD OF 'laws.FnExactViewText'. -/
def fnExactViewTextUptoCard : Claim7 := { stood := { row := fnExactViewTextUptoRow, standIns := [], harness := (true, "87a2781fad5c31691a5971297d073ede6b54cebdfdc345ddc9328cb6ad76bc0b"), looks := false }, kinds := [], alts := [], laidByText := true, laidKinds := [.data, .data, .data], laidTests := true, laidLooks := .later }
def FnExactViewTextUptoCardSaid : Prop := Claim7.holds Tryd.pinned (.plain (OpenSpec.upto fnExactViewTextSpec)) fnExactViewTextUptoCard
end Rows
end Go.Proofs.YtcneipilhlcfkaaDoor
