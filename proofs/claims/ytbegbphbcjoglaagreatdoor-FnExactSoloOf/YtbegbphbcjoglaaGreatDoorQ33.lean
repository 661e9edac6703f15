/- Texts of this seat, joined. -/
import Derived.Deep.RegionHeld3
import Derived.Test.YtbegbphbcjoglaaGreatDoorQ04
import Derived.Test.YtbegbphbcjoglaaGreatDoorQ06
import Derived.Test.YtbegbphbcjoglaaGreatDoorQ07
import Derived.Test.YtbegbphbcjoglaaGreatDoorQ12
import Derived.Test.YtbegbphbcjoglaaGreatDoorQ18
import Derived.Test.YtbegbphbcjoglaaGreatDoorQ22
import Derived.Test.YtbegbphbcjoglaaGreatDoorQ27
import Derived.Test.YtbegbphbcjoglaaGreatDoorQ29
namespace Go.Proofs.YtbegbphbcjoglaaGreatDoor
open Go.RowKit
set_option linter.unusedVariables false

/-- The worlds behind W in which block q alone may have turned; its 11 cells are there. -/
def Sl (W : World) (q : Nat) (w' : World) : Prop := Mq (fun k => k = q) W w' ∧ w'.there q 0 11
theorem Sl.step {W w w' : World} {q : Nat} (h : Sl W q w) (hq : q < W.heap.size) (b : Below w.heap.size w w') : Sl W q w' :=
  ⟨h.1.trans (Mq.of (below_grown b none) fun k e => by cases e), there_below h.2 (Nat.lt_of_lt_of_le hq h.1.size) b⟩
theorem Sl.set {W w : World} {q : Nat} (h : Sl W q w) (vs : List Value) : Sl W q (w.setCells q 0 vs) := ⟨h.1.trans (mq_cells q vs w 0), World.there_setCells h.2 _ _ _⟩
theorem Sl.grow {W w w' : World} {q : Nat} {row : Option Nat} (h : Sl W q w) (hq : q < W.heap.size) (g : w.grownBy w' row) (hr : ∀ k, row = some k → W.heap.size ≤ k ∧ k < w.heap.size) : Sl W q w' := by
  refine ⟨⟨?_, ?_, ?_, Nat.le_trans h.1.size g.size, fun k hk hn => ?_⟩, fun j hj => ?_⟩
  · exact g.os.trans h.1.os
  · exact g.tape.trans h.1.tape
  · exact g.output.trans h.1.output
  · rw [g.block k (Nat.lt_of_lt_of_le hk h.1.size) (fun e => by have := (hr k e.symm).1; omega)]
    exact h.1.block k hk hn
  · obtain ⟨h1, h2⟩ := h.2 j hj
    have hl : q < w.heap.size := Nat.lt_of_lt_of_le hq h.1.size
    have hne : some q ≠ row := fun e => by have := (hr q e.symm).1; omega
    refine ⟨?_, ?_⟩
    · rw [show w'.cell? ⟨q, 0 + j, none⟩ = w.cell? ⟨q, 0 + j, none⟩ from by unfold World.cell?; rw [show w'.heap[(⟨q, 0 + j, none⟩ : Addr).block]? = w.heap[(⟨q, 0 + j, none⟩ : Addr).block]? from g.block q hl hne]]
      exact h1
    · rw [show w'.frozen? ⟨q, 0 + j, none⟩ = w.frozen? ⟨q, 0 + j, none⟩ from World.frozen?_of_block (w := w) (g.block q hl hne)]
      exact h2
end Go.Proofs.YtbegbphbcjoglaaGreatDoor
namespace Go.Proofs.YtbegbphbcjoglaaGreatDoor
open Go.RowKit
set_option linter.unusedVariables false

theorem sm_voidF (w : World) (base : Nat) : Sm w base (.slice none 0 0) (.slice none 0 0) (.slice none 0 0) (.slice none 0 0) (.slice none 0 0) (.slice none 0 0) voidH [] [] :=
  ⟨⟨Nums.nil _ _, Nums.nil _ _, Nums.nil _ _, Nums.nil _ _⟩, ⟨.inl rfl, .inl rfl, .inl rfl, .inl rfl, .inl rfl, .inl rfl⟩, Prs.nil _ _ _, Nums.nil _ _, .inl rfl, .inl rfl, .inl rfl, .inl rfl⟩
theorem twelveF {v : World} {q : Nat} {t : TypeId} {z0 z1 z2 z3 z4 z5 z6 z7 z8 z9 z10 z11 : Value} (h : Vb v q #[z0, z1, z2, z3, z4, z5, z6, z7, z8, z9, z10, z11] t) (u0 u1 u2 u3 u4 u5 u6 u7 u8 u9 u10 u11 : Value) :
    Vb ((((((((((((v.setCell ⟨q, 0, none⟩ u0).setCell ⟨q, 1, none⟩ u1).setCell ⟨q, 2, none⟩ u2).setCell ⟨q, 3, none⟩ u3).setCell ⟨q, 4, none⟩ u4).setCell ⟨q, 5, none⟩ u5).setCell ⟨q, 6, none⟩ u6).setCell ⟨q, 7, none⟩ u7).setCell ⟨q, 8, none⟩ u8).setCell ⟨q, 9, none⟩ u9).setCell ⟨q, 10, none⟩ u10).setCell ⟨q, 11, none⟩ u11) q #[u0, u1, u2, u3, u4, u5, u6, u7, u8, u9, u10, u11] t ∧ Mq (fun k => k = q) v ((((((((((((v.setCell ⟨q, 0, none⟩ u0).setCell ⟨q, 1, none⟩ u1).setCell ⟨q, 2, none⟩ u2).setCell ⟨q, 3, none⟩ u3).setCell ⟨q, 4, none⟩ u4).setCell ⟨q, 5, none⟩ u5).setCell ⟨q, 6, none⟩ u6).setCell ⟨q, 7, none⟩ u7).setCell ⟨q, 8, none⟩ u8).setCell ⟨q, 9, none⟩ u9).setCell ⟨q, 10, none⟩ u10).setCell ⟨q, 11, none⟩ u11) := by
  have h0 : Vb (v.setCell ⟨q, 0, none⟩ u0) q #[u0, z1, z2, z3, z4, z5, z6, z7, z8, z9, z10, z11] t := h.set 0 u0
  have h1 : Vb ((v.setCell ⟨q, 0, none⟩ u0).setCell ⟨q, 1, none⟩ u1) q #[u0, u1, z2, z3, z4, z5, z6, z7, z8, z9, z10, z11] t := h0.set 1 u1
  have h2 : Vb (((v.setCell ⟨q, 0, none⟩ u0).setCell ⟨q, 1, none⟩ u1).setCell ⟨q, 2, none⟩ u2) q #[u0, u1, u2, z3, z4, z5, z6, z7, z8, z9, z10, z11] t := h1.set 2 u2
  have h3 : Vb ((((v.setCell ⟨q, 0, none⟩ u0).setCell ⟨q, 1, none⟩ u1).setCell ⟨q, 2, none⟩ u2).setCell ⟨q, 3, none⟩ u3) q #[u0, u1, u2, u3, z4, z5, z6, z7, z8, z9, z10, z11] t := h2.set 3 u3
  have h4 : Vb (((((v.setCell ⟨q, 0, none⟩ u0).setCell ⟨q, 1, none⟩ u1).setCell ⟨q, 2, none⟩ u2).setCell ⟨q, 3, none⟩ u3).setCell ⟨q, 4, none⟩ u4) q #[u0, u1, u2, u3, u4, z5, z6, z7, z8, z9, z10, z11] t := h3.set 4 u4
  have h5 : Vb ((((((v.setCell ⟨q, 0, none⟩ u0).setCell ⟨q, 1, none⟩ u1).setCell ⟨q, 2, none⟩ u2).setCell ⟨q, 3, none⟩ u3).setCell ⟨q, 4, none⟩ u4).setCell ⟨q, 5, none⟩ u5) q #[u0, u1, u2, u3, u4, u5, z6, z7, z8, z9, z10, z11] t := h4.set 5 u5
  have h6 : Vb (((((((v.setCell ⟨q, 0, none⟩ u0).setCell ⟨q, 1, none⟩ u1).setCell ⟨q, 2, none⟩ u2).setCell ⟨q, 3, none⟩ u3).setCell ⟨q, 4, none⟩ u4).setCell ⟨q, 5, none⟩ u5).setCell ⟨q, 6, none⟩ u6) q #[u0, u1, u2, u3, u4, u5, u6, z7, z8, z9, z10, z11] t := h5.set 6 u6
  have h7 : Vb ((((((((v.setCell ⟨q, 0, none⟩ u0).setCell ⟨q, 1, none⟩ u1).setCell ⟨q, 2, none⟩ u2).setCell ⟨q, 3, none⟩ u3).setCell ⟨q, 4, none⟩ u4).setCell ⟨q, 5, none⟩ u5).setCell ⟨q, 6, none⟩ u6).setCell ⟨q, 7, none⟩ u7) q #[u0, u1, u2, u3, u4, u5, u6, u7, z8, z9, z10, z11] t := h6.set 7 u7
  have h8 : Vb (((((((((v.setCell ⟨q, 0, none⟩ u0).setCell ⟨q, 1, none⟩ u1).setCell ⟨q, 2, none⟩ u2).setCell ⟨q, 3, none⟩ u3).setCell ⟨q, 4, none⟩ u4).setCell ⟨q, 5, none⟩ u5).setCell ⟨q, 6, none⟩ u6).setCell ⟨q, 7, none⟩ u7).setCell ⟨q, 8, none⟩ u8) q #[u0, u1, u2, u3, u4, u5, u6, u7, u8, z9, z10, z11] t := h7.set 8 u8
  have h9 : Vb ((((((((((v.setCell ⟨q, 0, none⟩ u0).setCell ⟨q, 1, none⟩ u1).setCell ⟨q, 2, none⟩ u2).setCell ⟨q, 3, none⟩ u3).setCell ⟨q, 4, none⟩ u4).setCell ⟨q, 5, none⟩ u5).setCell ⟨q, 6, none⟩ u6).setCell ⟨q, 7, none⟩ u7).setCell ⟨q, 8, none⟩ u8).setCell ⟨q, 9, none⟩ u9) q #[u0, u1, u2, u3, u4, u5, u6, u7, u8, u9, z10, z11] t := h8.set 9 u9
  have h10 : Vb (((((((((((v.setCell ⟨q, 0, none⟩ u0).setCell ⟨q, 1, none⟩ u1).setCell ⟨q, 2, none⟩ u2).setCell ⟨q, 3, none⟩ u3).setCell ⟨q, 4, none⟩ u4).setCell ⟨q, 5, none⟩ u5).setCell ⟨q, 6, none⟩ u6).setCell ⟨q, 7, none⟩ u7).setCell ⟨q, 8, none⟩ u8).setCell ⟨q, 9, none⟩ u9).setCell ⟨q, 10, none⟩ u10) q #[u0, u1, u2, u3, u4, u5, u6, u7, u8, u9, u10, z11] t := h9.set 10 u10
  have h11 : Vb ((((((((((((v.setCell ⟨q, 0, none⟩ u0).setCell ⟨q, 1, none⟩ u1).setCell ⟨q, 2, none⟩ u2).setCell ⟨q, 3, none⟩ u3).setCell ⟨q, 4, none⟩ u4).setCell ⟨q, 5, none⟩ u5).setCell ⟨q, 6, none⟩ u6).setCell ⟨q, 7, none⟩ u7).setCell ⟨q, 8, none⟩ u8).setCell ⟨q, 9, none⟩ u9).setCell ⟨q, 10, none⟩ u10).setCell ⟨q, 11, none⟩ u11) q #[u0, u1, u2, u3, u4, u5, u6, u7, u8, u9, u10, u11] t := h10.set 11 u11
  exact ⟨h11, (((((((((((((Mq.refl (fun k => k = q) v).set ⟨q, 0, none⟩ u0 rfl).set ⟨q, 1, none⟩ u1 rfl).set ⟨q, 2, none⟩ u2 rfl).set ⟨q, 3, none⟩ u3 rfl).set ⟨q, 4, none⟩ u4 rfl).set ⟨q, 5, none⟩ u5 rfl).set ⟨q, 6, none⟩ u6 rfl).set ⟨q, 7, none⟩ u7 rfl).set ⟨q, 8, none⟩ u8 rfl).set ⟨q, 9, none⟩ u9 rfl).set ⟨q, 10, none⟩ u10 rfl).set ⟨q, 11, none⟩ u11 rfl)⟩
end Go.Proofs.YtbegbphbcjoglaaGreatDoor
