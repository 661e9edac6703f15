/- Texts of this seat, joined. -/
import Derived.Test.YtaefollmeoepkaaGreatDoorQ13
namespace Go.Proofs.YtaefollmeoepkaaGreatDoor
open Go.RowKit
set_option linter.unusedVariables false
def Vc (w : World) (m : Nat) (cs : Array Value) : Prop := ∃ (C : Array Value) (t : TypeId), Vb w m C t ∧ ∀ (j : Nat) (x : Value), cs[j]? = some x → C[j]? = some x
theorem Vc.cell {w : World} {m : Nat} {cs : Array Value} (h : Vc w m cs) (j : Nat) {x : Value} (hx : cs[j]? = some x) : w.cell? ⟨m, j, none⟩ = some x := by
  obtain ⟨C, t, hv, hc⟩ := h
  exact hv.cell j (hc j x hx)
theorem Vc.keep {w w' : World} {m : Nat} {cs : Array Value} (h : Vc w m cs) (b : Below w.heap.size w w') : Vc w' m cs := by
  obtain ⟨C, t, hv, hc⟩ := h
  exact ⟨C, t, hv.keep b, hc⟩
theorem Vc.lt {w : World} {m : Nat} {cs : Array Value} (h : Vc w m cs) : m < w.heap.size := by
  obtain ⟨C, t, hv, hc⟩ := h
  exact hv.lt
theorem Vc.mq {S : Nat → Prop} {w w' : World} {m : Nat} {cs : Array Value} (h : Vc w m cs) (q : Mq S w w') (hn : ¬ S m) : Vc w' m cs := by
  obtain ⟨C, t, hv, hc⟩ := h
  exact ⟨C, t, q.vb hv hn, hc⟩
def Vd (w : World) (m d : Nat) (cs : Array Value) : Prop := ∃ (C : Array Value) (t : TypeId), Vb w m C t ∧ ∀ (j : Nat) (x : Value), cs[j]? = some x → C[d + j]? = some x
theorem Vd.cell {w : World} {m d : Nat} {cs : Array Value} (h : Vd w m d cs) (j : Nat) {x : Value} (hx : cs[j]? = some x) : w.cell? ⟨m, d + j, none⟩ = some x := by
  obtain ⟨C, t, hv, hc⟩ := h
  exact hv.cell (d + j) (hc j x hx)
theorem Vd.keep {w w' : World} {m d : Nat} {cs : Array Value} (h : Vd w m d cs) (b : Below w.heap.size w w') : Vd w' m d cs := by
  obtain ⟨C, t, hv, hc⟩ := h
  exact ⟨C, t, hv.keep b, hc⟩
theorem Vd.lt {w : World} {m d : Nat} {cs : Array Value} (h : Vd w m d cs) : m < w.heap.size := by
  obtain ⟨C, t, hv, hc⟩ := h
  exact hv.lt
theorem Vd.mq {S : Nat → Prop} {w w' : World} {m d : Nat} {cs : Array Value} (h : Vd w m d cs) (q : Mq S w w') (hn : ¬ S m) : Vd w' m d cs := by
  obtain ⟨C, t, hv, hc⟩ := h
  exact ⟨C, t, q.vb hv hn, hc⟩
def Sj (W : World) (q : Nat) (w' : World) : Prop := Mq (fun k => k = q) W w' ∧ w'.there q 0 9
theorem Sj.step {W w w' : World} {q : Nat} (h : Sj W q w) (hq : q < W.heap.size) (b : Below w.heap.size w w') : Sj W q w' :=
  ⟨h.1.trans (Mq.of (below_grown b none) fun k e => by cases e), there_below h.2 (Nat.lt_of_lt_of_le hq h.1.size) b⟩
theorem Sj.put {W w : World} {q : Nat} (h : Sj W q w) (j : Nat) (u : Value) : Sj W q (w.setCell ⟨q, j, none⟩ u) := ⟨h.1.set _ _ rfl, World.there_setCells h.2 q j [u]⟩
theorem Sj.at {W w : World} {q : Nat} (h : Sj W q w) (j : Nat) (hj : j < 9) : (∃ v, w.cell? ⟨q, j, none⟩ = some v) ∧ w.frozen? ⟨q, j, none⟩ = false := by
  obtain ⟨h1, h2⟩ := h.2 j hj
  rw [Nat.zero_add] at h1 h2
  exact ⟨Option.isSome_iff_exists.1 h1, h2⟩
theorem Sj.set {W w : World} {q : Nat} (h : Sj W q w) (vs : List Value) : Sj W q (w.setCells q 0 vs) := ⟨h.1.trans (mq_cells q vs w 0), World.there_setCells h.2 _ _ _⟩
end Go.Proofs.YtaefollmeoepkaaGreatDoor
