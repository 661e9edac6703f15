/-
  DERIVED. GIVEN WITH THE SEED: THE CARDS: each row of YteaccakodaidpaaDoorRows.lean that lists a variable, with what it lists TIED to the program's text (the seventh form; the later family's looks); each row that meets fmt, with fmt's text TOLD by the authors' own Lean function (tested against real Go, not proved from fmt's source: count such statements apart). THE CARD IS WHAT COUNTS. Prove the row's statement (the work); the ties are given (YteaccakodaidpaaDoorTie.lean); close each card by the builder's one call (the guide's Derived/Test/ToyasCard.lean, 'card_holds'). Laid BY PROGRAM, IN A SANDBOX (cutbox-door.mjs). By AI agents, Wed Nov 11 2026. No macro, syntax, notation, axiom, sorry.
-/
import Derived.Test.YteaccakodaidpaaDoorRows
import GoSem.ClaimSeven
namespace Go.Proofs.YteaccakodaidpaaDoor
namespace Rows

/-- THE TIED CARD OF 'laws.FnTraps'. -/
def fnTrapsCard : Claim7 := { stood := { row := fnTrapsRow, standIns := [], harness := (true, "b17f01a0c2fc877bbdd3e9fb8ead1f32a57cb9c4f78c09913300865e1f6788c9"), looks := false }, kinds := [], alts := [], laidByText := true, laidKinds := [.data], laidTests := true, laidLooks := .later }
def FnTrapsCardSaid : Prop := Claim7.holds Tryd.pinned (.plain (OpenSpec.ofChange fnTrapsSpec)) fnTrapsCard

/-- THE TIED CARD OF 'laws.FnExactOutText'. -/
def fnExactOutTextCard : Claim7 := { stood := { row := fnExactOutTextRow, standIns := [], harness := (true, "b17f01a0c2fc877bbdd3e9fb8ead1f32a57cb9c4f78c09913300865e1f6788c9"), looks := false }, kinds := [], alts := [], laidByText := true, laidKinds := [.data, .data, .data], laidTests := true, laidLooks := .later }
def FnExactOutTextCardSaid : Prop := Claim7.holds Tryd.pinned (.plain (OpenSpec.ofChange fnExactOutTextSpec)) fnExactOutTextCard

/-- THE SECOND FORM's CARD OF 'laws.FnTraps'. -/
def fnTrapsUptoCard : Claim7 := { stood := { row := fnTrapsUptoRow, standIns := [], harness := (true, "b17f01a0c2fc877bbdd3e9fb8ead1f32a57cb9c4f78c09913300865e1f6788c9"), looks := false }, kinds := [], alts := [], laidByText := true, laidKinds := [.data], laidTests := true, laidLooks := .later }
def FnTrapsUptoCardSaid : Prop := Claim7.holds Tryd.pinned (.plain (OpenSpec.upto fnTrapsSpec)) fnTrapsUptoCard

/-- THE SECOND FORM's CARD OF 'laws.FnExactOutText'. -/
def fnExactOutTextUptoCard : Claim7 := { stood := { row := fnExactOutTextUptoRow, standIns := [], harness := (true, "b17f01a0c2fc877bbdd3e9fb8ead1f32a57cb9c4f78c09913300865e1f6788c9"), looks := false }, kinds := [], alts := [], laidByText := true, laidKinds := [.data, .data, .data], laidTests := true, laidLooks := .later }
def FnExactOutTextUptoCardSaid : Prop := Claim7.holds Tryd.pinned (.plain (OpenSpec.upto fnExactOutTextSpec)) fnExactOutTextUptoCard
end Rows
end Go.Proofs.YteaccakodaidpaaDoor
