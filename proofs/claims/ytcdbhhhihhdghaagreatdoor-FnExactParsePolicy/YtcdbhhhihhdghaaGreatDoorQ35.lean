/- Texts of this seat, joined. -/
import Derived.Test.YtcdbhhhihhdghaaGreatDoorQ34
namespace Go.Proofs.YtcdbhhhihhdghaaGreatDoor
open Go.RowKit
set_option linter.unusedVariables false

theorem Msm.d {w : World} {g j : Nat} {S : Hsx} (h : Msm w g j S) : (0 < S.r.2 → 0 < S.c.2 → S.r.1 ≠ S.c.1) ∧ (0 < S.r.2 → 0 < S.i.2 → S.r.1 ≠ S.i.1) ∧ (0 < S.r.2 → 0 < S.o.2 → S.r.1 ≠ S.o.1) ∧ (0 < S.c.2 → 0 < S.i.2 → S.c.1 ≠ S.i.1) ∧ (0 < S.c.2 → 0 < S.o.2 → S.c.1 ≠ S.o.1) ∧ (0 < S.i.2 → 0 < S.o.2 → S.i.1 ≠ S.o.1) := by
  have := h.apart
  simp only [Hsx.all, List.pairwise_cons, List.mem_cons, List.not_mem_nil, or_false, forall_eq_or_imp, forall_eq] at this
  obtain ⟨⟨a1, a2, a3⟩, ⟨a4, a5⟩, a6, _⟩ := this
  exact ⟨a1, a2, a3, a4, a5, a6⟩

end Go.Proofs.YtcdbhhhihhdghaaGreatDoor
