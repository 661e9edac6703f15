/- Texts of this seat, joined. -/
import Derived.Test.YtkfcofjmjbkekaaGreatDoorQ31
import Derived.Test.YtkfcofjmjbkekaaGreatDoorQ36
namespace Go.Proofs.YtkfcofjmjbkekaaGreatDoor
open Go.RowKit
set_option linter.unusedVariables false

structure V4 where
  r : Value
  c : Value
  i : Value
  o : Value
def V4.l (q : V4) : List Value := [q.r, q.c, q.i, q.o]
/-- What a list's block holds: the type of its cells. -/
def tyOf (w : World) (g : Nat) : Option TypeId := match w.heap[g]? with | some (.cells _ t _) => some t | _ => none
def blk (v : Value) : Nat := match v.ownBlock with | some k => k | none => 0
def vln : Value → Nat
  | .slice _ n _ => n
  | _ => 0
/-- A list that is not empty: where it lies. -/
structure Bk4 (w : World) (base : Nat) (t : TypeId) (v : Value) : Prop where
  own : v.ownBlock = some (blk v)
  ty : tyOf w (blk v) = some t
  lo : base ≤ blk v
  hi : blk v < w.heap.size
theorem row_bk {w : World} {base sz n : Nat} {e : TypeId} {v : Value} {xs : List Value} (h : w.ownsRow base e sz v n xs) (h0 : 0 < n) : Bk4 w base e v ∧ ∃ cap, v = .slice (some ⟨blk v, 0, none⟩) n cap := by
  obtain ⟨_, ⟨_, h2⟩ | ⟨g, cap, cur, rfl, hg, hr, _⟩⟩ := h
  · omega
  · exact ⟨⟨rfl, by show (match w.heap[g]? with | some (.cells _ t _) => some t | _ => none) = _; rw [hr], hg, (Array.getElem?_eq_some_iff.1 hr).1⟩, cap, rfl⟩
theorem Nums.vln {w : World} {base : Nat} {v : Value} {zs : List Int} (h : Nums w base v zs) : vln v = zs.length := by
  obtain ⟨a, cap, rfl, _⟩ := h.shape; rfl
theorem Nums.bk {w : World} {base : Nat} {v : Value} {zs : List Int} (h : Nums w base v zs) (h0 : 0 < Go.Proofs.YtkfcofjmjbkekaaGreatDoor.vln v) : Bk4 w base 2 v := (row_bk h (by rw [← h.vln]; exact h0)).1
theorem row_keepX {w w' : World} {base sz n : Nat} {e : TypeId} {v : Value} {xs : List Value} (h : w.ownsRow base e sz v n xs) (b : Below w.heap.size w w') : w'.ownsRow base e sz v n xs := by
  refine World.ownsRow.kept h (below_grown b none) ?_
  cases v.ownBlock <;> simp
theorem row_hoX {e sz n base : Nat} {v : Value} {w w' : World} {xs : List Value} (h : w.ownsRow base e sz v n xs) (H : Ho base w w') : w'.ownsRow base e sz v n xs := by
  obtain ⟨h1, h2 | ⟨g, cap, cur, hv, hg, hr, rest⟩⟩ := h
  · exact ⟨h1, .inl h2⟩
  · refine ⟨h1, .inr ⟨g, cap, cur, hv, hg, ?_, rest⟩⟩
    rw [H.block g hg (Array.getElem?_eq_some_iff.1 hr).1]
    exact hr
theorem row_monoX {e sz n base base' : Nat} {v : Value} {w : World} {xs : List Value} (h : w.ownsRow base e sz v n xs) (hb : base' ≤ base) : w.ownsRow base' e sz v n xs := by
  obtain ⟨h1, h2 | ⟨g, cap, cur, hv, hg, hr⟩⟩ := h
  · exact ⟨h1, .inl h2⟩
  · exact ⟨h1, .inr ⟨g, cap, cur, hv, Nat.le_trans hb hg, hr⟩⟩
end Go.Proofs.YtkfcofjmjbkekaaGreatDoor
