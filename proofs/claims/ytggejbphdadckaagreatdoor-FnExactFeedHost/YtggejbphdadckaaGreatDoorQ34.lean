/- Texts of this seat, joined. -/
import Derived.Deep.RegionHeld3
import Derived.Deep.WholeRow
import Derived.Deep.Cut
import Derived.Deep.CutRange
import Derived.Test.YtggejbphdadckaaGreatDoorQ03
import Derived.Test.YtggejbphdadckaaGreatDoorQ11
import Derived.Test.YtggejbphdadckaaGreatDoorQ30
namespace Go.Proofs.YtggejbphdadckaaGreatDoor
open Go.RowKit
set_option linter.unusedVariables false

theorem Pags.store {w : World} {base g n cap : Nat} {zs : List Int} (h : Pags w base (.slice (some ⟨g, 0, none⟩) n cap) n zs) (j : Nat) (x : Int) :
    Pags (w.setCell ⟨g, j, none⟩ (.int .i64 x)) base (.slice (some ⟨g, 0, none⟩) n cap) n (zs.set j x) := by
  have h1 := (World.ownsRow.stored h j (.int .i64 x)).1
  unfold Pags
  rw [List.map_set]
  exact h1
theorem Pags.free {w : World} {base g n cap : Nat} {zs : List Int} (h : Pags w base (.slice (some ⟨g, 0, none⟩) n cap) n zs) (i : Nat) : w.frozen? ⟨g, i, none⟩ = false := World.ownsRow.frozenAt h i
end Go.Proofs.YtggejbphdadckaaGreatDoor
namespace Go.Proofs.YtggejbphdadckaaGreatDoor
open Go.RowKit
set_option linter.unusedVariables false

/-- What the answer's region reads, and that the answer has its place. -/
def Sg (w : World) (s t j : Nat) (L : Int) (c3 n3 : Nat) (x : Addr) (g : Int) : Prop :=
  w.cell? ⟨t, 0, none⟩ = some (.int .i64 (j : Int)) ∧ w.cell? ⟨t, 1, none⟩ = some (.int .i64 L) ∧ w.cell? ⟨s, 3, none⟩ = some (.slice (some x) n3 c3) ∧ w.cell? (x.add (j * 2)) = some (.int .i64 g) ∧ w.there (s + 1) 0 4
theorem Sg.put {w : World} {s t j : Nat} {L : Int} {c3 n3 : Nat} {x : Addr} {g : Int} (h : Sg w s t j L c3 n3 x g) (vs : List Value) (hn : t ≠ s + 1 ∧ (x.add (j * 2)).block ≠ s + 1) : Sg (w.setCells (s + 1) 0 vs) s t j L c3 n3 x g :=
  ⟨(World.cell?_setCells_out _ _ _ _ _ fun e => absurd e hn.1).trans h.1, (World.cell?_setCells_out _ _ _ _ _ fun e => absurd e hn.1).trans h.2.1, (World.cell?_setCells_out _ _ _ _ _ fun e => absurd e (show s ≠ s + 1 by omega)).trans h.2.2.1, (World.cell?_setCells_out _ _ _ _ _ fun e => absurd e hn.2).trans h.2.2.2.1, World.there_setCells h.2.2.2.2 _ _ _⟩

end Go.Proofs.YtggejbphdadckaaGreatDoor
