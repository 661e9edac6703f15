/- Texts of this seat, joined. -/
import Derived.Laws.AppendOwnNone
import Derived.Deep.Cut
import Derived.Laws.AppendOwn
import Derived.Lib.BufferMore
import Derived.Test.YtbegbphbcjoglaaGreatDoorQ06
import Derived.Test.YtbegbphbcjoglaaGreatDoorQ21
namespace Go.Proofs.YtbegbphbcjoglaaGreatDoor
open Go.RowKit
set_option linter.unusedVariables false

/-- What l8Copy has under way: the machine's variable (A), and the answer's place. -/
structure Cy (w v : World) (s : Nat) (A : Array Value) : Prop where
  A : Vb v s A 31
  R : Vb v (s + 1) #[.slice none 0 0, .int .i64 0, .slice none 0 0, .bool false, .bool false, .bool false, .int .i64 0, .slice none 0 0, .slice none 0 0] 31
  b : Below w.heap.size w v
  s : w.heap.size = s
theorem Cy.keep {w v v' : World} {s : Nat} {A : Array Value} (h : Cy w v s A) (b : Below v.heap.size v v') : Cy w v' s A := ⟨h.A.keep b, h.R.keep b, on h.b b, h.s⟩
theorem Cy.put {w v : World} {s : Nat} {A : Array Value} (h : Cy w v s A) (j : Nat) (u : Value) : Cy w (v.setCell ⟨s, j, none⟩ u) s (A.setIfInBounds j u) :=
  ⟨h.A.set j u, h.R.put _ _ (by show s + 1 ≠ s; omega), h.b.setCell (by have := h.s; show w.heap.size ≤ s; omega) _, h.s⟩

end Go.Proofs.YtbegbphbcjoglaaGreatDoor
namespace Go.Proofs.YtbegbphbcjoglaaGreatDoor
open Go.RowKit
set_option linter.unusedVariables false

/-- append of pages to a slice of pages of the call's own. -/
theorem wp_appp {ops : Array Oper} {rest : List Oper} {o : Oper} {act : Act} {Q : Exit → Act → World → Prop} (w : World) (hgd : o.guard = none) (s x : Operand)
    (ho : o.op = .call { callee := .builtin .append, args := #[s, x], argTypes := #[32, 32] }) (base : Nat) (v : Value) (zs : List (Int × Int)) (hs : act.eval s = v) (hN : Prs 80 w base v zs)
    (g m c b : Nat) (ys : List (Int × Int)) (hx : act.eval x = .slice (some ⟨g, 0, none⟩) m c) (hR : Prs 80 w b (.slice (some ⟨g, 0, none⟩) m c) ys) (hm : m = ys.length)
    (hlen : zs.length + m ≤ 1000000000) (hbase : base ≤ w.heap.size)
    (h : ∀ v' w', Prs 80 w' base v' (zs ++ ys) → w.grownBy w' v.ownBlock → wpList Tryz.prog ops Q rest (act.put o.dst v') w') : wpList Tryz.prog ops Q (o :: rest) act w := by
  obtain ⟨i, hi, hz0, hz1, hz2⟩ := info_parts info_page
  refine wpList_append_own w hgd s x 32 ho base 80 i _ 2 16 Tryz.underlying32 hi hz0 hz1 hz2 rfl (by decide) v zs.length _ hs hN ⟨g, 0, none⟩ m c (flat ys) hx (by rw [flat_length, hm]) ?_ (flat_one ys) (by unfold maxLen; omega) (by omega) hbase ?_
  · intro j u hj
    have hjl : j < m * 2 := by have := (List.getElem?_eq_some_iff.1 hj).1; rw [flat_length] at this; omega
    subst hm
    rw [show (⟨g, 0, none⟩ : Addr).add j = ⟨g, j, none⟩ by rw [Addr.add_lit]; simp, World.ownsRow.cellAt hR j (by omega)]
    exact hj
  · intro v' w' hown hgrow _
    refine h v' w' ?_ hgrow
    unfold Prs
    rw [List.length_append, flat_append, ← hm]
    exact hown
end Go.Proofs.YtbegbphbcjoglaaGreatDoor
