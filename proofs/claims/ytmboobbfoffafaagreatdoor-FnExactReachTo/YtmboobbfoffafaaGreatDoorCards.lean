/-
  DERIVED. GIVEN WITH THE SEED: THE CARDS: each row of YtmboobbfoffafaaGreatDoorRows.lean that lists a variable, with what it lists TIED to the program's text (the seventh form; the later family's looks); each row that meets fmt, with fmt's text TOLD by the authors' own Lean function (tested against real Go, not proved from fmt's source: count such statements apart). THE CARD IS WHAT COUNTS. Prove the row's statement (the work); the ties are given (YtmboobbfoffafaaGreatDoorTie.lean); close each card by the builder's one call (the guide's Derived/Test/ToyasCard.lean, 'card_holds'). Laid BY PROGRAM, IN A SANDBOX (cutbox-door.mjs). By AI agents, Wed Nov 11 2026. No macro, syntax, notation, axiom, sorry.
-/
import Derived.Test.YtmboobbfoffafaaGreatDoorRows
import GoSem.ClaimSeven
namespace Go.Proofs.YtmboobbfoffafaaGreatDoor
namespace Rows

/-- THE TIED CARD OF 'laws.FnReaches'. -/
def fnReachesCard : Claim7 := { stood := { row := fnReachesRow, standIns := [], harness := (true, "58f5565933dda5987d5cff133a34cdea08a5fbe41f62dbcc229d4af6a89346f7"), looks := true }, kinds := [], alts := [], laidByText := true, laidKinds := [.handle], laidTests := true, laidLooks := .later }
def FnReachesCardSaid : Prop := Claim7.holds Tryz.pinned (.plain (OpenSpec.ofChange fnReachesSpec)) fnReachesCard

/-- THE TIED CARD OF 'laws.FnLayouts'. -/
def fnLayoutsCard : Claim7 := { stood := { row := fnLayoutsRow, standIns := [], harness := (true, "58f5565933dda5987d5cff133a34cdea08a5fbe41f62dbcc229d4af6a89346f7"), looks := true }, kinds := [], alts := [], laidByText := true, laidKinds := [.handle], laidTests := true, laidLooks := .later }
def FnLayoutsCardSaid : Prop := Claim7.holds Tryz.pinned (.plain (OpenSpec.ofChange fnLayoutsSpec)) fnLayoutsCard

/-- THE TIED CARD OF 'laws.FnExactLinksTo'. -/
def fnExactLinksToCard : Claim7 := { stood := { row := fnExactLinksToRow, standIns := [], harness := (true, "58f5565933dda5987d5cff133a34cdea08a5fbe41f62dbcc229d4af6a89346f7"), looks := true }, kinds := [], alts := [], laidByText := true, laidKinds := [.handle], laidTests := true, laidLooks := .later }
def FnExactLinksToCardSaid : Prop := Claim7.holds Tryz.pinned (.plain (OpenSpec.ofChange fnExactLinksToSpec)) fnExactLinksToCard

/-- THE TIED CARD OF 'laws.FnExactReachTo'. -/
def fnExactReachToCard : Claim7 := { stood := { row := fnExactReachToRow, standIns := [], harness := (true, "58f5565933dda5987d5cff133a34cdea08a5fbe41f62dbcc229d4af6a89346f7"), looks := true }, kinds := [], alts := [], laidByText := true, laidKinds := [.handle], laidTests := true, laidLooks := .later }
def FnExactReachToCardSaid : Prop := Claim7.holds Tryz.pinned (.plain (OpenSpec.ofChange fnExactReachToSpec)) fnExactReachToCard

/-- THE TIED CARD OF 'laws.FnExactPagesFor'. -/
def fnExactPagesForCard : Claim7 := { stood := { row := fnExactPagesForRow, standIns := [], harness := (true, "58f5565933dda5987d5cff133a34cdea08a5fbe41f62dbcc229d4af6a89346f7"), looks := true }, kinds := [], alts := [], laidByText := true, laidKinds := [.handle], laidTests := true, laidLooks := .later }
def FnExactPagesForCardSaid : Prop := Claim7.holds Tryz.pinned (.plain (OpenSpec.ofChange fnExactPagesForSpec)) fnExactPagesForCard

/-- THE TIED CARD OF 'laws.FnExactBuildMaps'. -/
def fnExactBuildMapsCard : Claim7 := { stood := { row := fnExactBuildMapsRow, standIns := [], harness := (true, "58f5565933dda5987d5cff133a34cdea08a5fbe41f62dbcc229d4af6a89346f7"), looks := true }, kinds := [], alts := [], laidByText := true, laidKinds := [.handle], laidTests := true, laidLooks := .later }
def FnExactBuildMapsCardSaid : Prop := Claim7.holds Tryz.pinned (.plain (OpenSpec.ofChange fnExactBuildMapsSpec)) fnExactBuildMapsCard

/-- THE TIED CARD OF 'laws.FnExactMapsSafe'. -/
def fnExactMapsSafeCard : Claim7 := { stood := { row := fnExactMapsSafeRow, standIns := [], harness := (true, "58f5565933dda5987d5cff133a34cdea08a5fbe41f62dbcc229d4af6a89346f7"), looks := true }, kinds := [], alts := [], laidByText := true, laidKinds := [.handle], laidTests := true, laidLooks := .later }
def FnExactMapsSafeCardSaid : Prop := Claim7.holds Tryz.pinned (.plain (OpenSpec.ofChange fnExactMapsSafeSpec)) fnExactMapsSafeCard

/-- THE TIED CARD OF 'laws.FnExactWordsOf'. -/
def fnExactWordsOfCard : Claim7 := { stood := { row := fnExactWordsOfRow, standIns := [], harness := (true, "58f5565933dda5987d5cff133a34cdea08a5fbe41f62dbcc229d4af6a89346f7"), looks := true }, kinds := [], alts := [], laidByText := true, laidKinds := [.handle], laidTests := true, laidLooks := .later }
def FnExactWordsOfCardSaid : Prop := Claim7.holds Tryz.pinned (.plain (OpenSpec.ofChange fnExactWordsOfSpec)) fnExactWordsOfCard

/-- THE TIED CARD OF 'laws.FnExactLaneWords'. -/
def fnExactLaneWordsCard : Claim7 := { stood := { row := fnExactLaneWordsRow, standIns := [], harness := (true, "58f5565933dda5987d5cff133a34cdea08a5fbe41f62dbcc229d4af6a89346f7"), looks := true }, kinds := [], alts := [], laidByText := true, laidKinds := [.handle], laidTests := true, laidLooks := .later }
def FnExactLaneWordsCardSaid : Prop := Claim7.holds Tryz.pinned (.plain (OpenSpec.ofChange fnExactLaneWordsSpec)) fnExactLaneWordsCard

/-- THE SECOND FORM's CARD OF 'laws.FnReaches'. -/
def fnReachesUptoCard : Claim7 := { stood := { row := fnReachesUptoRow, standIns := [], harness := (true, "58f5565933dda5987d5cff133a34cdea08a5fbe41f62dbcc229d4af6a89346f7"), looks := true }, kinds := [], alts := [], laidByText := true, laidKinds := [.handle], laidTests := true, laidLooks := .later }
def FnReachesUptoCardSaid : Prop := Claim7.holds Tryz.pinned (.plain (OpenSpec.upto fnReachesSpec)) fnReachesUptoCard

/-- THE SECOND FORM's CARD OF 'laws.FnLayouts'. -/
def fnLayoutsUptoCard : Claim7 := { stood := { row := fnLayoutsUptoRow, standIns := [], harness := (true, "58f5565933dda5987d5cff133a34cdea08a5fbe41f62dbcc229d4af6a89346f7"), looks := true }, kinds := [], alts := [], laidByText := true, laidKinds := [.handle], laidTests := true, laidLooks := .later }
def FnLayoutsUptoCardSaid : Prop := Claim7.holds Tryz.pinned (.plain (OpenSpec.upto fnLayoutsSpec)) fnLayoutsUptoCard

/-- THE SECOND FORM's CARD OF 'laws.FnExactLinksTo'. -/
def fnExactLinksToUptoCard : Claim7 := { stood := { row := fnExactLinksToUptoRow, standIns := [], harness := (true, "58f5565933dda5987d5cff133a34cdea08a5fbe41f62dbcc229d4af6a89346f7"), looks := true }, kinds := [], alts := [], laidByText := true, laidKinds := [.handle], laidTests := true, laidLooks := .later }
def FnExactLinksToUptoCardSaid : Prop := Claim7.holds Tryz.pinned (.plain (OpenSpec.upto fnExactLinksToSpec)) fnExactLinksToUptoCard

/-- THE SECOND FORM's CARD OF 'laws.FnExactReachTo'. -/
def fnExactReachToUptoCard : Claim7 := { stood := { row := fnExactReachToUptoRow, standIns := [], harness := (true, "58f5565933dda5987d5cff133a34cdea08a5fbe41f62dbcc229d4af6a89346f7"), looks := true }, kinds := [], alts := [], laidByText := true, laidKinds := [.handle], laidTests := true, laidLooks := .later }
def FnExactReachToUptoCardSaid : Prop := Claim7.holds Tryz.pinned (.plain (OpenSpec.upto fnExactReachToSpec)) fnExactReachToUptoCard

/-- THE SECOND FORM's CARD OF 'laws.FnExactPagesFor'. -/
def fnExactPagesForUptoCard : Claim7 := { stood := { row := fnExactPagesForUptoRow, standIns := [], harness := (true, "58f5565933dda5987d5cff133a34cdea08a5fbe41f62dbcc229d4af6a89346f7"), looks := true }, kinds := [], alts := [], laidByText := true, laidKinds := [.handle], laidTests := true, laidLooks := .later }
def FnExactPagesForUptoCardSaid : Prop := Claim7.holds Tryz.pinned (.plain (OpenSpec.upto fnExactPagesForSpec)) fnExactPagesForUptoCard

/-- THE SECOND FORM's CARD OF 'laws.FnExactBuildMaps'. -/
def fnExactBuildMapsUptoCard : Claim7 := { stood := { row := fnExactBuildMapsUptoRow, standIns := [], harness := (true, "58f5565933dda5987d5cff133a34cdea08a5fbe41f62dbcc229d4af6a89346f7"), looks := true }, kinds := [], alts := [], laidByText := true, laidKinds := [.handle], laidTests := true, laidLooks := .later }
def FnExactBuildMapsUptoCardSaid : Prop := Claim7.holds Tryz.pinned (.plain (OpenSpec.upto fnExactBuildMapsSpec)) fnExactBuildMapsUptoCard

/-- THE SECOND FORM's CARD OF 'laws.FnExactMapsSafe'. -/
def fnExactMapsSafeUptoCard : Claim7 := { stood := { row := fnExactMapsSafeUptoRow, standIns := [], harness := (true, "58f5565933dda5987d5cff133a34cdea08a5fbe41f62dbcc229d4af6a89346f7"), looks := true }, kinds := [], alts := [], laidByText := true, laidKinds := [.handle], laidTests := true, laidLooks := .later }
def FnExactMapsSafeUptoCardSaid : Prop := Claim7.holds Tryz.pinned (.plain (OpenSpec.upto fnExactMapsSafeSpec)) fnExactMapsSafeUptoCard

/-- THE SECOND FORM's CARD OF 'laws.FnExactWordsOf'. -/
def fnExactWordsOfUptoCard : Claim7 := { stood := { row := fnExactWordsOfUptoRow, standIns := [], harness := (true, "58f5565933dda5987d5cff133a34cdea08a5fbe41f62dbcc229d4af6a89346f7"), looks := true }, kinds := [], alts := [], laidByText := true, laidKinds := [.handle], laidTests := true, laidLooks := .later }
def FnExactWordsOfUptoCardSaid : Prop := Claim7.holds Tryz.pinned (.plain (OpenSpec.upto fnExactWordsOfSpec)) fnExactWordsOfUptoCard

/-- THE SECOND FORM's CARD OF 'laws.FnExactLaneWords'. -/
def fnExactLaneWordsUptoCard : Claim7 := { stood := { row := fnExactLaneWordsUptoRow, standIns := [], harness := (true, "58f5565933dda5987d5cff133a34cdea08a5fbe41f62dbcc229d4af6a89346f7"), looks := true }, kinds := [], alts := [], laidByText := true, laidKinds := [.handle], laidTests := true, laidLooks := .later }
def FnExactLaneWordsUptoCardSaid : Prop := Claim7.holds Tryz.pinned (.plain (OpenSpec.upto fnExactLaneWordsSpec)) fnExactLaneWordsUptoCard
end Rows
end Go.Proofs.YtmboobbfoffafaaGreatDoor
