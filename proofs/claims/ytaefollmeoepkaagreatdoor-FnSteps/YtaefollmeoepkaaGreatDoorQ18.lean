/- Texts of this seat, joined. -/
import Derived.Test.YtaefollmeoepkaaGreatDoorQ17
namespace Go.Proofs.YtaefollmeoepkaaGreatDoor
set_option maxRecDepth 20000
set_option maxHeartbeats 16000000
open Go.RowKit
set_option linter.unusedVariables false
variable {w : World} {base g p cap : Nat} {zs : List Int}
theorem Pags.store (h : Pags w base (.slice (some ⟨g, 0, none⟩) p cap) p zs) (j : Nat) (x : Int) :
  Pags (w.setCell ⟨g, j, none⟩ (.int .i64 x)) base (.slice (some ⟨g, 0, none⟩) p cap) p (zs.set j x) := by
 obtain ⟨h1, h2⟩ := World.ownsRow.stored h j (.int .i64 x)
 unfold Pags
 rw [List.map_set]
 exact h1
theorem Pags.free (h : Pags w base (.slice (some ⟨g, 0, none⟩) p cap) p zs) (j : Nat) : w.frozen? ⟨g, j, none⟩ = false := World.ownsRow.frozenAt h j
theorem Pags.lt (h : Pags w base (.slice (some ⟨g, 0, none⟩) p cap) p zs) : base ≤ g ∧ g < w.heap.size := World.ownsRow.lt h g rfl
end Go.Proofs.YtaefollmeoepkaaGreatDoor
