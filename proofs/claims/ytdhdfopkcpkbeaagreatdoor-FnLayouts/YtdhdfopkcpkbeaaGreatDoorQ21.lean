/- Texts of this seat, joined. -/
import Derived.Test.YtdhdfopkcpkbeaaGreatDoorQ19
namespace Go.Proofs.YtdhdfopkcpkbeaaGreatDoor
open Go.RowKit
set_option linter.unusedVariables false

/-- A policy that came in. -/
structure Pin (w : World) (a0 : Option Addr) (n0 c0 : Nat) (a1 : Option Addr) (n1 c1 : Nat) (a2 : Option Addr) (n2 c2 : Nat) (a3 : Option Addr) (n3 c3 : Nat) (P : Plc) : Prop where
  own : IsSS w a0 n0 c0 P.own
  lanes : IsLanes w a1 n1 c1 P.lanes
  bells : IsPairs w a2 n2 c2 P.bells
  plan : IsPairs w a3 n3 c3 P.plan
theorem Pin.stay {w w' : World} {a0 a1 a2 a3 : Option Addr} {n0 c0 n1 c1 n2 c2 n3 c3 : Nat} {P : Plc} (h : Pin w a0 n0 c0 a1 n1 c1 a2 n2 c2 a3 n3 c3 P) (b : Below w.heap.size w w') : Pin w' a0 n0 c0 a1 n1 c1 a2 n2 c2 a3 n3 c3 P :=
  ⟨h.own.stay b, h.lanes.stay b, h.bells.stay b, h.plan.stay b⟩
/-- A policy that was made. -/
structure Mde (w : World) (base g0 g1 g2 g3 n0 n1 n2 n3 : Nat) (P : Plc) : Prop where
  own : SSo w base g0 n0 P.own
  lanes : Ls 83 w base (.slice (some ⟨g1, 0, none⟩) n1 n1) P.lanes
  bells : Prs 85 w base (.slice (some ⟨g2, 0, none⟩) n2 n2) P.bells
  plan : Prs 87 w base (.slice (some ⟨g3, 0, none⟩) n3 n3) P.plan
theorem Mde.keep {w w' : World} {base g0 g1 g2 g3 n0 n1 n2 n3 : Nat} {P : Plc} (h : Mde w base g0 g1 g2 g3 n0 n1 n2 n3 P) (b : Below w.heap.size w w') : Mde w' base g0 g1 g2 g3 n0 n1 n2 n3 P :=
  ⟨h.own.keep b, h.lanes.keep b, h.bells.keep b, h.plan.keep b⟩
theorem Mde.pl {w : World} {base g0 g1 g2 g3 n0 n1 n2 n3 : Nat} {P : Plc} (h : Mde w base g0 g1 g2 g3 n0 n1 n2 n3 P) : Pl w (some ⟨g0, 0, none⟩) n0 n0 (some ⟨g1, 0, none⟩) n1 n1 (some ⟨g2, 0, none⟩) n2 n2 (some ⟨g3, 0, none⟩) n3 n3 P :=
  ⟨h.own.read, h.lanes.read, h.bells.read, h.plan.read⟩
theorem SSo.mono {w : World} {base base' g n : Nat} {oss : List (List Int)} (h : SSo w base g n oss) (hb : base' ≤ base) : SSo w base' g n oss :=
  ⟨h.len, h.small, Nat.le_trans hb h.low, fun i hi => by
    obtain ⟨x, l, c, k1, k2⟩ := h.row i hi
    exact ⟨x, l, c, k1, k2.mono hb⟩⟩
theorem Ls.mono {e : TypeId} {w : World} {base base' : Nat} {v : Value} {rs : List Ln} (h : Ls e w base v rs) (hb : base' ≤ base) : Ls e w base' v rs := by
  obtain ⟨h1, h2 | ⟨g, cap, cur, hv, hg, hr⟩⟩ := h
  · exact ⟨h1, .inl h2⟩
  · exact ⟨h1, .inr ⟨g, cap, cur, hv, Nat.le_trans hb hg, hr⟩⟩
/-- From one world to another: blocks from base on stay. -/
structure Hi (base : Nat) (w w' : World) : Prop where
  size : w.heap.size ≤ w'.heap.size
  block : ∀ k, base ≤ k → k < w.heap.size → w'.heap[k]? = w.heap[k]?
theorem Hi.refl (base : Nat) (w : World) : Hi base w w := ⟨Nat.le_refl _, fun _ _ _ => rfl⟩
theorem Hi.trans {base : Nat} {a b c : World} (h : Hi base a b) (k : Hi base b c) : Hi base a c :=
  ⟨Nat.le_trans h.size k.size, fun i hb hi => (k.block i hb (Nat.lt_of_lt_of_le hi h.size)).trans (h.block i hb hi)⟩
theorem Hi.of {base : Nat} {w w' : World} (h : Below w.heap.size w w') : Hi base w w' := ⟨h.size, fun k _ hk => h.block k hk⟩
theorem Hi.set {base : Nat} (w : World) (p : Addr) (u : Value) (h : p.block < base) : Hi base w (w.setCell p u) :=
  ⟨(grown_set w p u).size, fun k hb hk => (grown_set w p u).block k hk (fun e => by cases e; omega)⟩
theorem cell_hi {base : Nat} {w w' : World} (H : Hi base w w') {p : Addr} {v : Value} (hp : base ≤ p.block) (h : w.cell? p = some v) : w'.cell? p = some v := by
  have hb := block_of_cell h
  unfold World.cell? at *
  rw [H.block _ hp hb]
  exact h
theorem row_hi {base e sz n : Nat} {v : Value} {w w' : World} {xs : List Value} (h : w.ownsRow base e sz v n xs) (H : Hi base w w') : w'.ownsRow base e sz v n xs := by
  obtain ⟨h1, h2 | ⟨g, cap, cur, hv, hg, hr, rest⟩⟩ := h
  · exact ⟨h1, .inl h2⟩
  · refine ⟨h1, .inr ⟨g, cap, cur, hv, hg, ?_, rest⟩⟩
    rw [H.block g hg ((Array.getElem?_eq_some_iff.1 hr).1)]
    exact hr
theorem SSo.hi {w w' : World} {base g n : Nat} {oss : List (List Int)} (h : SSo w base g n oss) (H : Hi base w w') : SSo w' base g n oss :=
  ⟨h.len, h.small, h.low, fun i hi => by
    obtain ⟨x, l, c, k1, k2⟩ := h.row i hi
    exact ⟨x, l, c, cell_hi H h.low k1, row_hi k2 H⟩⟩

theorem fz_new (w : World) (cs : Array Value) (t : TypeId) (i : Nat) : (w.alloc (.cells cs t)).frozen? ⟨w.heap.size, i, none⟩ = false := by simp
/-- What toPolicy has under way: the policy that came in (A), the answer's place, and what is made so far (x). -/
structure Stt (v : World) (s : Nat) (A x : Nat → Value) : Prop where
  A : ∀ i, i < 4 → v.cell? ⟨s, i, none⟩ = some (A i)
  O : ∀ i, i < 4 → v.cell? ⟨s + 1 + 1, i, none⟩ = some (x i) ∧ v.frozen? ⟨s + 1 + 1, i, none⟩ = false
  R : ∀ i, i < 4 → v.cell? ⟨s + 1, i, none⟩ = some (.slice none 0 0) ∧ v.frozen? ⟨s + 1, i, none⟩ = false
  lt : s + 1 + 1 < v.heap.size
theorem Stt.keep {v v' : World} {s : Nat} {A x : Nat → Value} (h : Stt v s A x) (b : Below v.heap.size v v') : Stt v' s A x :=
  ⟨fun i hi => cell_keep b (h.A i hi),
   fun i hi => ⟨cell_keep b (h.O i hi).1, by rw [b.frozen (p := ⟨s + 1 + 1, i, none⟩) h.lt]; exact (h.O i hi).2⟩,
   fun i hi => ⟨cell_keep b (h.R i hi).1, by rw [b.frozen (p := ⟨s + 1, i, none⟩) (by have := h.lt; show s + 1 < _; omega)]; exact (h.R i hi).2⟩,
   Nat.lt_of_lt_of_le h.lt b.size⟩
theorem Stt.put {v : World} {s : Nat} {A x : Nat → Value} (h : Stt v s A x) (j : Nat) (hj : j < 4) (u : Value) : Stt (v.setCell ⟨s + 1 + 1, j, none⟩ u) s A (fun i => if i = j then u else x i) := by
  refine ⟨fun i hi => ?_, fun i hi => ⟨?_, by rw [World.frozen?_setCell]; exact (h.O i hi).2⟩, fun i hi => ⟨?_, by rw [World.frozen?_setCell]; exact (h.R i hi).2⟩, Nat.lt_of_lt_of_le h.lt (grown_set v _ u).size⟩
  · rw [World.cell?_setCell_other _ _ _ _ (by intro e; have := congrArg Addr.block e; simp at this; omega)]
    exact h.A i hi
  · by_cases e : i = j
    · subst e
      rw [if_pos rfl]
      exact World.cell?_setCell_same _ _ _ (h.O i hi).1
    · rw [if_neg e, World.cell?_setCell_other _ _ _ _ (by intro h; cases h; exact e rfl)]
      exact (h.O i hi).1
  · rw [World.cell?_setCell_other _ _ _ _ (by intro e; have := congrArg Addr.block e; simp at this)]
    exact (h.R i hi).1
theorem row_up {base base' e sz n : Nat} {v : Value} {w : World} {xs : List Value} (h : w.ownsRow base e sz v n xs) (hb : base' ≤ base) : w.ownsRow base' e sz v n xs := by
  obtain ⟨h1, h2 | ⟨g, cap, cur, hv, hg, hr⟩⟩ := h
  · exact ⟨h1, .inl h2⟩
  · exact ⟨h1, .inr ⟨g, cap, cur, hv, Nat.le_trans hb hg, hr⟩⟩

end Go.Proofs.YtdhdfopkcpkbeaaGreatDoor
