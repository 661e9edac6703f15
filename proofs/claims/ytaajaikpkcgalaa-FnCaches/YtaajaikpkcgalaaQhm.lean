/- Slices of hits and answers that hold them: marked, held and compared. -/
import Derived.Test.YtaajaikpkcgalaaQhp
import Derived.Test.YtaajaikpkcgalaaMemr
import Derived.Test.YtaajaikpkcgalaaPgm
namespace Go.Proofs.Ytaajaikpkcgalaa
open Go.RowKit
set_option linter.unusedVariables false

/-- The hits that marking leaves: k .. k + 3; k + 4 .. k + 7; and so on. -/
def qmark (k : Int) : Qd := ⟨k, k + 1, k + 2, k + 3⟩
def qmarks (k : Int) (n : Nat) : List Qd := (List.range n).map fun (i : Nat) => qmark (k + (4 * i : Nat))
theorem qmarks_length (k : Int) (n : Nat) : (qmarks k n).length = n := by simp [qmarks]
theorem qmarks_getD (k : Int) (n i : Nat) (h : i < n) : (qmarks k n).getD i qz = qmark (k + (4 * i : Nat)) := by
  simp [qmarks, List.getD, h]
theorem qmarks_set (k : Int) (rs : List Qd) (j : Nat) (h : j < rs.length) : (qmarks k j ++ rs.drop j).set j (qmark (k + (4 * j : Nat))) = qmarks k (j + 1) ++ rs.drop (j + 1) := by
  rw [List.drop_eq_getElem_cons h, List.set_append_right _ _ (by simp [qmarks]), qmarks_length, Nat.sub_self, List.set_cons_zero]
  simp [qmarks, List.range_succ]

theorem Qs.kept {e : TypeId} {w w' : World} {base : Nat} {v : Value} {rs : List Qd} {row : Option Nat} (h : Qs e w base v rs) (hg : w.grownBy w' row) (hne : v.ownBlock = none ∨ v.ownBlock ≠ row) : Qs e w' base v rs := World.ownsRow.kept h hg hne
theorem Qs.put {e : TypeId} {w : World} {base : Nat} {v : Value} {rs : List Qd} (h : Qs e w base v rs) (p : Addr) (u : Value) (hne : v.ownBlock ≠ some p.block) : Qs e (w.setCell p u) base v rs := h.kept (grown_set w p u) (.inr hne)
theorem Qs.mono {e : TypeId} {w : World} {base base' : Nat} {v : Value} {rs : List Qd} (h : Qs e w base v rs) (hb : base' ≤ base) : Qs e w base' v rs := by
  obtain ⟨h1, h2 | ⟨g, cap, cur, hv, hg, hr⟩⟩ := h
  · exact ⟨h1, .inl h2⟩
  · exact ⟨h1, .inr ⟨g, cap, cur, hv, Nat.le_trans hb hg, hr⟩⟩
theorem qbelow_of_grown {e : TypeId} {a w w' : World} {v : Value} {base : Nat} {rs : List Qd} (h : Below a.heap.size a w) (g : w.grownBy w' v.ownBlock) (n : Qs e w base v rs) (hb : a.heap.size ≤ base) : Below a.heap.size a w' :=
  h.grown g h.size (fun k hk => Nat.le_trans hb (n.lt k hk).1)
theorem qown_ne {e e' : TypeId} {w w' : World} {base base' : Nat} {v u : Value} {zs ys : List Qd} (h : Qs e w base v zs) (k : Qs e' w' base' u ys) (hb : w.heap.size ≤ base') : v.ownBlock = none ∨ v.ownBlock ≠ u.ownBlock := by
  cases e : v.ownBlock with
  | none => exact .inl rfl
  | some x =>
    refine .inr fun e2 => ?_
    have h1 := (h.lt x e).2
    have h2 := (k.lt x e2.symm).1
    omega
theorem qown_not {e : TypeId} {w : World} {base : Nat} {v : Value} {zs : List Qd} (h : Qs e w base v zs) (x : Nat) (hx : x < base ∨ w.heap.size ≤ x) : some x ≠ v.ownBlock := by
  intro e
  have := h.lt x e.symm
  omega

end Go.Proofs.Ytaajaikpkcgalaa
