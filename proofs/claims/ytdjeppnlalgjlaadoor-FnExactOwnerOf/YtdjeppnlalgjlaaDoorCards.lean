/-
  DERIVED. GIVEN WITH THE SEED: THE CARDS: each row of YtdjeppnlalgjlaaDoorRows.lean that lists a variable, with what it lists TIED to the program's text (the seventh form; the later family's looks); each row that meets fmt, with fmt's text TOLD by the authors' own Lean function (tested against real Go, not proved from fmt's source: count such statements apart). THE CARD IS WHAT COUNTS. Prove the row's statement (the work); the ties are given (YtdjeppnlalgjlaaDoorTie.lean); close each card by the builder's one call (the guide's Derived/Test/ToyasCard.lean, 'card_holds'). Laid BY PROGRAM, IN A SANDBOX (cutbox-door.mjs). By AI agents, Wed Nov 11 2026. No macro, syntax, notation, axiom, sorry.
-/
import Derived.Test.YtdjeppnlalgjlaaDoorRows
import GoSem.ClaimSeven
namespace Go.Proofs.YtdjeppnlalgjlaaDoor
namespace Rows

/-- THE TIED CARD OF 'laws.FnExactPolicyFault'. -/
def fnExactPolicyFaultCard : Claim7 := { stood := { row := fnExactPolicyFaultRow, standIns := [], harness := (true, "92ae6801b416c78845ac8b6cc606b4b9b95230ed22a35031d78c1f2f181f238a"), looks := true }, kinds := [], alts := [], laidByText := true, laidKinds := [.handle], laidTests := true, laidLooks := .later }
def FnExactPolicyFaultCardSaid : Prop := Claim7.holds Tryd.pinned (.plain (OpenSpec.ofChange fnExactPolicyFaultSpec)) fnExactPolicyFaultCard

/-- THE TIED CARD OF 'laws.FnExactOwnerOf'. -/
def fnExactOwnerOfCard : Claim7 := { stood := { row := fnExactOwnerOfRow, standIns := [], harness := (true, "92ae6801b416c78845ac8b6cc606b4b9b95230ed22a35031d78c1f2f181f238a"), looks := true }, kinds := [], alts := [], laidByText := true, laidKinds := [.handle], laidTests := true, laidLooks := .later }
def FnExactOwnerOfCardSaid : Prop := Claim7.holds Tryd.pinned (.plain (OpenSpec.ofChange fnExactOwnerOfSpec)) fnExactOwnerOfCard

/-- THE TIED CARD OF 'laws.FnExactFramesOf'. -/
def fnExactFramesOfCard : Claim7 := { stood := { row := fnExactFramesOfRow, standIns := [], harness := (true, "92ae6801b416c78845ac8b6cc606b4b9b95230ed22a35031d78c1f2f181f238a"), looks := true }, kinds := [], alts := [], laidByText := true, laidKinds := [.handle], laidTests := true, laidLooks := .later }
def FnExactFramesOfCardSaid : Prop := Claim7.holds Tryd.pinned (.plain (OpenSpec.ofChange fnExactFramesOfSpec)) fnExactFramesOfCard

/-- THE TIED CARD OF 'laws.FnExactRoundOf'. -/
def fnExactRoundOfCard : Claim7 := { stood := { row := fnExactRoundOfRow, standIns := [], harness := (true, "92ae6801b416c78845ac8b6cc606b4b9b95230ed22a35031d78c1f2f181f238a"), looks := true }, kinds := [], alts := [], laidByText := true, laidKinds := [.handle], laidTests := true, laidLooks := .later }
def FnExactRoundOfCardSaid : Prop := Claim7.holds Tryd.pinned (.plain (OpenSpec.ofChange fnExactRoundOfSpec)) fnExactRoundOfCard

/-- THE SECOND FORM's CARD OF 'laws.FnExactPolicyFault'. -/
def fnExactPolicyFaultUptoCard : Claim7 := { stood := { row := fnExactPolicyFaultUptoRow, standIns := [], harness := (true, "92ae6801b416c78845ac8b6cc606b4b9b95230ed22a35031d78c1f2f181f238a"), looks := true }, kinds := [], alts := [], laidByText := true, laidKinds := [.handle], laidTests := true, laidLooks := .later }
def FnExactPolicyFaultUptoCardSaid : Prop := Claim7.holds Tryd.pinned (.plain (OpenSpec.upto fnExactPolicyFaultSpec)) fnExactPolicyFaultUptoCard

/-- THE SECOND FORM's CARD OF 'laws.FnExactOwnerOf'. -/
def fnExactOwnerOfUptoCard : Claim7 := { stood := { row := fnExactOwnerOfUptoRow, standIns := [], harness := (true, "92ae6801b416c78845ac8b6cc606b4b9b95230ed22a35031d78c1f2f181f238a"), looks := true }, kinds := [], alts := [], laidByText := true, laidKinds := [.handle], laidTests := true, laidLooks := .later }
def FnExactOwnerOfUptoCardSaid : Prop := Claim7.holds Tryd.pinned (.plain (OpenSpec.upto fnExactOwnerOfSpec)) fnExactOwnerOfUptoCard

/-- THE SECOND FORM's CARD OF 'laws.FnExactFramesOf'. -/
def fnExactFramesOfUptoCard : Claim7 := { stood := { row := fnExactFramesOfUptoRow, standIns := [], harness := (true, "92ae6801b416c78845ac8b6cc606b4b9b95230ed22a35031d78c1f2f181f238a"), looks := true }, kinds := [], alts := [], laidByText := true, laidKinds := [.handle], laidTests := true, laidLooks := .later }
def FnExactFramesOfUptoCardSaid : Prop := Claim7.holds Tryd.pinned (.plain (OpenSpec.upto fnExactFramesOfSpec)) fnExactFramesOfUptoCard

/-- THE SECOND FORM's CARD OF 'laws.FnExactRoundOf'. -/
def fnExactRoundOfUptoCard : Claim7 := { stood := { row := fnExactRoundOfUptoRow, standIns := [], harness := (true, "92ae6801b416c78845ac8b6cc606b4b9b95230ed22a35031d78c1f2f181f238a"), looks := true }, kinds := [], alts := [], laidByText := true, laidKinds := [.handle], laidTests := true, laidLooks := .later }
def FnExactRoundOfUptoCardSaid : Prop := Claim7.holds Tryd.pinned (.plain (OpenSpec.upto fnExactRoundOfSpec)) fnExactRoundOfUptoCard
end Rows
end Go.Proofs.YtdjeppnlalgjlaaDoor
