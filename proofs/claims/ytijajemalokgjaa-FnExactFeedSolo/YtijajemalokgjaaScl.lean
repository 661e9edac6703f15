/- A copy of a list of pages. -/
import Derived.Test.YtijajemalokgjaaPgp
import Derived.Test.YtijajemalokgjaaPgm
import Derived.Test.YtijajemalokgjaaHma
import Derived.Laws.AppendOwn
import Derived.Laws.AppendOwnNone
import Derived.Lib.BufferMore
namespace Go.Proofs.Ytijajemalokgjaa
open Go.RowKit
set_option linter.unusedVariables false

/-- append of pages to a slice of pages of the call's own. -/
theorem wp_appp {ops : Array Oper} {rest : List Oper} {o : Oper} {act : Act} {Q : Exit → Act → World → Prop} (w : World) (hgd : o.guard = none) (s x : Operand)
    (ho : o.op = .call { callee := .builtin .append, args := #[s, x], argTypes := #[33, 33] }) (base : Nat) (v : Value) (zs : List (Int × Int)) (hs : act.eval s = v) (hN : Prs 74 w base v zs)
    (g m c b : Nat) (ys : List (Int × Int)) (hx : act.eval x = .slice (some ⟨g, 0, none⟩) m c) (hR : Prs 74 w b (.slice (some ⟨g, 0, none⟩) m c) ys) (hm : m = ys.length)
    (hlen : zs.length + m ≤ 1000000000) (hbase : base ≤ w.heap.size)
    (h : ∀ v' w', Prs 74 w' base v' (zs ++ ys) → w.grownBy w' v.ownBlock → wpList Try.prog ops Q rest (act.put o.dst v') w') : wpList Try.prog ops Q (o :: rest) act w := by
  obtain ⟨i, hi, hz0, hz1, hz2⟩ := info_parts info_page
  refine wpList_append_own w hgd s x 33 ho base 74 i _ 2 16 Try.underlying33 hi hz0 hz1 hz2 rfl (by decide) v zs.length _ hs hN ⟨g, 0, none⟩ m c (flat ys) hx (by rw [flat_length, hm]) ?_ (flat_one ys) (by unfold maxLen; omega) (by omega) hbase ?_
  · intro j u hj
    have hjl : j < m * 2 := by have := (List.getElem?_eq_some_iff.1 hj).1; rw [flat_length] at this; omega
    subst hm
    rw [show (⟨g, 0, none⟩ : Addr).add j = ⟨g, j, none⟩ by rw [Addr.add_lit]; simp, World.ownsRow.cellAt hR j (by omega)]
    exact hj
  · intro v' w' hown hgrow _
    refine h v' w' ?_ hgrow
    unfold Prs
    rw [List.length_append, flat_append, ← hm]
    exact hown
theorem prs_none (w : World) (base : Nat) (hb : base ≤ w.heap.size) : Prs 74 (w.alloc (.cells #[] 74)) base (.slice (some ⟨w.heap.size, 0, none⟩) 0 0) [] :=
  World.ownsRow_lit w #[] 0 hb (by decide) rfl
end Go.Proofs.Ytijajemalokgjaa
