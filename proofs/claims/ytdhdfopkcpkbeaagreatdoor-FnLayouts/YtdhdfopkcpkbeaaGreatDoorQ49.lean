/- Texts of this seat, joined. -/
import Derived.Deep.RegionHeld3
import Derived.Test.YtdhdfopkcpkbeaaGreatDoorQ22
import Derived.Test.YtdhdfopkcpkbeaaGreatDoorQ48
namespace Go.Proofs.YtdhdfopkcpkbeaaGreatDoor
open Go.RowKit
set_option linter.unusedVariables false

theorem fourR {v : World} {q : Nat} {t : TypeId} {z0 z1 z2 z3 : Value} (h : Bk v q #[z0, z1, z2, z3] t) (u0 u1 u2 u3 : Value) :
    Bk ((((v.setCell ⟨q, 0, none⟩ u0).setCell ⟨q, 1, none⟩ u1).setCell ⟨q, 2, none⟩ u2).setCell ⟨q, 3, none⟩ u3) q #[u0, u1, u2, u3] t := by
  have h0 : Bk (v.setCell ⟨q, 0, none⟩ u0) q #[u0, z1, z2, z3] t := h.set 0 u0
  have h1 : Bk ((v.setCell ⟨q, 0, none⟩ u0).setCell ⟨q, 1, none⟩ u1) q #[u0, u1, z2, z3] t := h0.set 1 u1
  have h2 : Bk (((v.setCell ⟨q, 0, none⟩ u0).setCell ⟨q, 1, none⟩ u1).setCell ⟨q, 2, none⟩ u2) q #[u0, u1, u2, z3] t := h1.set 2 u2
  exact h2.set 3 u3
end Go.Proofs.YtdhdfopkcpkbeaaGreatDoor
