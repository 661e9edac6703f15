/- Texts of this seat, joined. -/
import Derived.Test.YtpjaiebdpgggkaaGreatDoorQ14
namespace Go.Proofs.YtpjaiebdpgggkaaGreatDoor
open Go.RowKit
set_option linter.unusedVariables false

/-- The worlds behind W in which block q alone may have turned; its nine cells are there. -/
def Sj (W : World) (q : Nat) (w' : World) : Prop := Mq (fun k => k = q) W w' ∧ w'.there q 0 9
theorem Sj.step {W w w' : World} {q : Nat} (h : Sj W q w) (hq : q < W.heap.size) (b : Below w.heap.size w w') : Sj W q w' :=
  ⟨h.1.trans (Mq.of (below_grown b none) fun k e => by cases e), there_below h.2 (Nat.lt_of_lt_of_le hq h.1.size) b⟩
theorem Sj.put {W w : World} {q : Nat} (h : Sj W q w) (j : Nat) (u : Value) : Sj W q (w.setCell ⟨q, j, none⟩ u) := ⟨h.1.set _ _ rfl, World.there_setCells h.2 q j [u]⟩
theorem Sj.at {W w : World} {q : Nat} (h : Sj W q w) (j : Nat) (hj : j < 9) : (∃ v, w.cell? ⟨q, j, none⟩ = some v) ∧ w.frozen? ⟨q, j, none⟩ = false := by
  obtain ⟨h1, h2⟩ := h.2 j hj
  rw [Nat.zero_add] at h1 h2
  exact ⟨Option.isSome_iff_exists.1 h1, h2⟩

theorem Sj.set {W w : World} {q : Nat} (h : Sj W q w) (vs : List Value) : Sj W q (w.setCells q 0 vs) := ⟨h.1.trans (mq_cells q vs w 0), World.there_setCells h.2 _ _ _⟩

end Go.Proofs.YtpjaiebdpgggkaaGreatDoor
