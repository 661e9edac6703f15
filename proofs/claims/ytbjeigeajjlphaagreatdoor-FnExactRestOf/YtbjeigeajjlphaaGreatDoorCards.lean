/-
  DERIVED. GIVEN WITH THE SEED: THE CARDS: each row of YtbjeigeajjlphaaGreatDoorRows.lean that lists a variable, with what it lists TIED to the program's text (the seventh form; the later family's looks); each row that meets fmt, with fmt's text TOLD by the authors' own Lean function (tested against real Go, not proved from fmt's source: count such statements apart). THE CARD IS WHAT COUNTS. Prove the row's statement (the work); the ties are given (YtbjeigeajjlphaaGreatDoorTie.lean); close each card by the builder's one call (the guide's Derived/Test/ToyasCard.lean, 'card_holds'). Laid BY PROGRAM, IN A SANDBOX (cutbox-door.mjs). By AI agents, Wed Nov 11 2026. No macro, syntax, notation, axiom, sorry.
-/
import Derived.Test.YtbjeigeajjlphaaGreatDoorRows
import GoSem.ClaimSeven
namespace Go.Proofs.YtbjeigeajjlphaaGreatDoor
namespace Rows

/-- THE TIED CARD OF 'laws.FnExactHostFault'. -/
def fnExactHostFaultCard : Claim7 := { stood := { row := fnExactHostFaultRow, standIns := [], harness := (true, "f907a46ee55928f88dd5904f82c3d68fd7646f3fbc94d638620b2e71c3348e89"), looks := true }, kinds := [], alts := [], laidByText := true, laidKinds := [.handle], laidTests := true, laidLooks := .later }
def FnExactHostFaultCardSaid : Prop := Claim7.holds Tryz.pinned (.plain (OpenSpec.ofChange fnExactHostFaultSpec)) fnExactHostFaultCard

/-- THE TIED CARD OF 'laws.FnExactRestOf'. -/
def fnExactRestOfCard : Claim7 := { stood := { row := fnExactRestOfRow, standIns := [], harness := (true, "f907a46ee55928f88dd5904f82c3d68fd7646f3fbc94d638620b2e71c3348e89"), looks := true }, kinds := [], alts := [], laidByText := true, laidKinds := [.handle], laidTests := true, laidLooks := .later }
def FnExactRestOfCardSaid : Prop := Claim7.holds Tryz.pinned (.plain (OpenSpec.ofChange fnExactRestOfSpec)) fnExactRestOfCard

/-- THE SECOND FORM's CARD OF 'laws.FnExactHostFault'. -/
def fnExactHostFaultUptoCard : Claim7 := { stood := { row := fnExactHostFaultUptoRow, standIns := [], harness := (true, "f907a46ee55928f88dd5904f82c3d68fd7646f3fbc94d638620b2e71c3348e89"), looks := true }, kinds := [], alts := [], laidByText := true, laidKinds := [.handle], laidTests := true, laidLooks := .later }
def FnExactHostFaultUptoCardSaid : Prop := Claim7.holds Tryz.pinned (.plain (OpenSpec.upto fnExactHostFaultSpec)) fnExactHostFaultUptoCard

/-- THE SECOND FORM's CARD OF 'laws.FnExactRestOf'. -/
def fnExactRestOfUptoCard : Claim7 := { stood := { row := fnExactRestOfUptoRow, standIns := [], harness := (true, "f907a46ee55928f88dd5904f82c3d68fd7646f3fbc94d638620b2e71c3348e89"), looks := true }, kinds := [], alts := [], laidByText := true, laidKinds := [.handle], laidTests := true, laidLooks := .later }
def FnExactRestOfUptoCardSaid : Prop := Claim7.holds Tryz.pinned (.plain (OpenSpec.upto fnExactRestOfSpec)) fnExactRestOfUptoCard
end Rows
end Go.Proofs.YtbjeigeajjlphaaGreatDoor
