/- Texts of this seat, joined. -/
import Derived.Test.YtdmlejfopmimfaaGreatDoorQ21
import Derived.Test.YtdmlejfopmimfaaGreatDoorQ34
import Derived.Test.YtdmlejfopmimfaaGreatDoorQ35
namespace Go.Proofs.YtdmlejfopmimfaaGreatDoor
open Go.RowKit
set_option linter.unusedVariables false

theorem Li.top {w : World} {b0 hi : Nat} {v : Value} {ls : List (List Wb)} (h : Li w b0 hi v ls) : Li w b0 w.heap.size v ls := by
  obtain ⟨vs, h1, h2, h3⟩ := h
  exact ⟨vs, h1, h2, fun j hj => ⟨(h3 j hj).1, fun g hg => ((h3 j hj).1.lt g hg).2⟩⟩
theorem Li.own {w : World} {b0 hi : Nat} {v : Value} {ls : List (List Wb)} (h : Li w b0 hi v ls) : ∀ k, v.ownBlock = some k → b0 ≤ k ∧ k < w.heap.size := by
  obtain ⟨vs, h1, h2, h3⟩ := h
  exact World.ownsRow.lt h1
theorem Li.gr {w w' : World} {b0 hi mb : Nat} {v : Value} {ls : List (List Wb)} {row : Option Nat} (h : Li w b0 hi v ls) (hg : w.grownBy w' row) (hr : ∀ k, row = some k → k < b0 ∨ mb ≤ k) (hh : hi ≤ mb) (ho : ∀ k, v.ownBlock = some k → k < mb) : Li w' b0 hi v ls := by
  have hw := h.own
  obtain ⟨vs, h1, h2, h3⟩ := h
  refine ⟨vs, h1.kept hg ?_, h2, fun j hj => ⟨(h3 j hj).1.kept hg ?_, (h3 j hj).2⟩⟩
  · cases e : v.ownBlock with
    | none => exact .inl rfl
    | some g =>
      refine .inr fun e2 => ?_
      have := hw g e
      have := ho g e
      rcases hr g e2.symm with h | h <;> omega
  · cases e : (vs.getD j undef).ownBlock with
    | none => exact .inl rfl
    | some g =>
      refine .inr fun e2 => ?_
      have := ((h3 j hj).1.lt g e).1
      have := (h3 j hj).2 g e
      rcases hr g e2.symm with h | h <;> omega
theorem Li.at {w : World} {b0 hi : Nat} {v : Value} {ls : List (List Wb)} (h : Li w b0 hi v ls) (j : Nat) (hj : j < ls.length) : ∃ g cap a n c, v = .slice (some ⟨g, 0, none⟩) ls.length cap ∧ w.cell? ⟨g, j, none⟩ = some (.slice a n c) ∧ Os w b0 (.slice a n c) (ls.getD j []) := by
  obtain ⟨vs, h1, h2, h3⟩ := h
  have hc := fun (g cap : Nat) (hv : v = .slice (some ⟨g, 0, none⟩) ls.length cap) => World.ownsRow.cellAt (show w.ownsRow b0 59 1 (.slice (some ⟨g, 0, none⟩) ls.length cap) ls.length vs by rw [← hv]; exact h1) j (by omega)
  obtain ⟨a, c, he, _⟩ := (h3 j hj).1.shape
  obtain ⟨q1, ⟨rfl, h4⟩ | ⟨g, cap, cur, rfl, hg, hr, h5, h6, h7⟩⟩ := h1
  · have : ls.length = 0 := h4
    omega
  · refine ⟨g, cap, a, (ls.getD j []).length, c, rfl, ?_, ?_⟩
    · rw [hc g cap rfl, ← he]
      simp [List.getD, List.getElem?_eq_getElem (show j < vs.length by omega)]
    · rw [← he]
      exact (h3 j hj).1
theorem three3 {w : World} {s : Nat} {a b c : Value} {t : TypeId} (h : Vq w s #[a, b, c] t) (x y z : Value) : Vq (((w.setCell ⟨s, 0, none⟩ x).setCell ⟨s, 1, none⟩ y).setCell ⟨s, 2, none⟩ z) s #[x, y, z] t :=
  heap_setCell_same _ s 2 _ _ _ (heap_setCell_same _ s 1 _ _ _ (heap_setCell_same _ s 0 _ _ _ h))
theorem below3 {B s : Nat} {u w : World} (h : Below B u w) (hs : B ≤ s) (x y z : Value) : Below B u (((w.setCell ⟨s, 0, none⟩ x).setCell ⟨s, 1, none⟩ y).setCell ⟨s, 2, none⟩ z) := ((h.setCell hs _).setCell hs _).setCell hs _
/-- What the program's loop keeps: its answer's place, the lines, the labels, the map. -/
structure Rd (w wr : World) (b0 mb : Nat) (lv v : Value) (acc am : List Lbl) (W : List (List Wb)) : Prop where
  r : Vq wr w.heap.size #[lv, v, .map (some mb)] 56
  li : Li wr b0 mb lv W
  l : Lb wr (mb + 1) v acc
  m : Sm wr mb am.length am
  b : Below w.heap.size w wr
  gg : w.heap.size < b0
  lo : b0 ≤ mb
  up : ∀ k, lv.ownBlock = some k → k < mb
theorem Rd.keep {w wr w' : World} {b0 mb : Nat} {lv v : Value} {acc am : List Lbl} {W : List (List Wb)} (h : Rd w wr b0 mb lv v acc am W) (b : Below wr.heap.size wr w') : Rd w w' b0 mb lv v acc am W :=
  ⟨h.r.keep b, h.li.keep b, h.l.keep b, h.m.keep b, on h.b b, h.gg, h.lo, h.up⟩
theorem Rd.stored {w wr w' : World} {b0 mb : Nat} {lv v : Value} {acc am am' : List Lbl} {W : List (List Wb)} (h : Rd w wr b0 mb lv v acc am W) (hG : wr.grownBy w' (some mb)) (hS : Sm w' mb am'.length am') : Rd w w' b0 mb lv v acc am' W := by
  refine ⟨h.r.gr hG (fun e => by cases e; have := h.gg; have := h.lo; omega), h.li.gr hG (fun k e => by cases e; exact .inr (Nat.le_refl _)) (Nat.le_refl _) h.up, ?_, hS, ?_, h.gg, h.lo, h.up⟩
  · refine World.ownsRow.kept h.l hG ?_
    cases e : v.ownBlock with
    | none => exact .inl rfl
    | some g =>
      refine .inr fun e2 => ?_
      cases e2
      have := (h.l.lt mb e).1
      omega
  · exact h.b.grown hG h.b.size (fun k e => by cases e; have := h.gg; have := h.lo; omega)
theorem Rd.pushed {w wr w' : World} {b0 mb : Nat} {lv v v' : Value} {acc acc' am : List Lbl} {W : List (List Wb)} (h : Rd w wr b0 mb lv v acc am W) (hG : wr.grownBy w' v.ownBlock) (hP : Lb w' (mb + 1) v' acc') : Rd w (w'.setCell ⟨w.heap.size, 1, none⟩ v') b0 mb lv v' acc' am W := by
  have hv : ∀ k, v.ownBlock = some k → mb + 1 ≤ k := fun k e => (h.l.lt k e).1
  have hne : ∀ k, k ≤ mb → some k ≠ v.ownBlock := fun k hk e => by have := hv k e.symm; omega
  have hr : Vq w' w.heap.size _ _ := h.r.gr hG (hne _ (by have := h.gg; have := h.lo; omega))
  refine ⟨?_, ?_, ?_, ?_, ?_, h.gg, h.lo, h.up⟩
  · exact heap_setCell_same w' w.heap.size 1 _ _ v' hr
  · refine Li.gr (Li.gr h.li hG (fun k e => .inr (by have := hv k e; omega)) (Nat.le_refl _) h.up) (grown_setL w' ⟨w.heap.size, 1, none⟩ v') (fun k e => by cases e; exact .inl h.gg) (Nat.le_refl _) h.up
  · exact hP.put _ _ (fun e => by have h9 : mb + 1 ≤ w.heap.size := (hP.lt _ e).1; have := h.gg; have := h.lo; omega)
  · exact (h.m.kept hG (hne _ (Nat.le_refl _))).put (by have := h.gg; have := h.lo; show mb ≠ w.heap.size; omega) _
  · exact (h.b.grown hG h.b.size (fun k e => by have := hv k e; have := h.gg; have := h.lo; omega)).setCell (Nat.le_refl _) _
end Go.Proofs.YtdmlejfopmimfaaGreatDoor
