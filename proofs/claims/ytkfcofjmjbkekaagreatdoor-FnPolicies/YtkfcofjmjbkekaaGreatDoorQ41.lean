/- Texts of this seat, joined. -/
import Derived.Laws.AppendOwn
import Derived.Laws.AppendOwnNone
import Derived.Lib.BufferMore
import Derived.Test.YtkfcofjmjbkekaaGreatDoorQ11
import Derived.Test.YtkfcofjmjbkekaaGreatDoorQ26
import Derived.Test.YtkfcofjmjbkekaaGreatDoorQ31
import Derived.Test.YtkfcofjmjbkekaaGreatDoorQ39
namespace Go.Proofs.YtkfcofjmjbkekaaGreatDoor
open Go.RowKit
set_option linter.unusedVariables false

/-- A policy of the call's own. -/
structure Wp (w : World) (base : Nat) (v0 v1 v2 v3 : Value) (P : Plc) (xs : List Value) : Prop where
  own : w.ownsRow base 53 1 v0 xs.length xs
  xl : xs.length = P.own.length
  rows : ∀ (i : Nat) (x : Value), xs[i]? = some x → Nums w base x (P.own.getD i [])
  apart : xs.Pairwise Apt
  lanes : Ls 58 w base v1 P.lanes
  bells : Prs 60 w base v2 P.bells
  plan : Prs 62 w base v3 P.plan
theorem Wp.keep {w w' : World} {base : Nat} {v0 v1 v2 v3 : Value} {P : Plc} {xs : List Value} (h : Wp w base v0 v1 v2 v3 P xs) (b : Below w.heap.size w w') : Wp w' base v0 v1 v2 v3 P xs :=
  ⟨row_keepX h.own b, h.xl, fun i x e => (h.rows i x e).keep b, h.apart, h.lanes.keep b, h.bells.keep b, h.plan.keep b⟩
theorem Wp.ho {w w' : World} {base : Nat} {v0 v1 v2 v3 : Value} {P : Plc} {xs : List Value} (h : Wp w base v0 v1 v2 v3 P xs) (b : Ho base w w') : Wp w' base v0 v1 v2 v3 P xs :=
  ⟨row_hoX h.own b, h.xl, fun i x e => (h.rows i x e).ho b, h.apart, row_hoX h.lanes b, row_hoX h.bells b, row_hoX h.plan b⟩
theorem Wp.mono {w : World} {base base' : Nat} {v0 v1 v2 v3 : Value} {P : Plc} {xs : List Value} (h : Wp w base v0 v1 v2 v3 P xs) (hb : base' ≤ base) : Wp w base' v0 v1 v2 v3 P xs :=
  ⟨row_monoX h.own hb, h.xl, fun i x e => (h.rows i x e).mono hb, h.apart, row_monoX h.lanes hb, row_monoX h.bells hb, row_monoX h.plan hb⟩
theorem row_typesX {w : World} {base base' e e' sz sz' n m : Nat} {v u : Value} {xs ys : List Value} (h : w.ownsRow base e sz v n xs) (k : w.ownsRow base' e' sz' u m ys) (hne : e ≠ e') : v.ownBlock = none ∨ v.ownBlock ≠ u.ownBlock := by
  obtain ⟨h1, ⟨rfl, h3⟩ | ⟨g, cap, cur, rfl, hg, hr, rest⟩⟩ := h
  · exact .inl rfl
  · obtain ⟨k1, ⟨rfl, k3⟩ | ⟨g', cap', cur', rfl, kg, kr, rest'⟩⟩ := k
    · exact .inr (by intro e; cases e)
    · refine .inr fun e => ?_
      have e : g = g' := by simpa [Value.ownBlock] using e
      subst e
      rw [hr] at kr
      cases kr
      exact hne rfl
/-- append of a slice to slices of the call's own. -/
theorem wp_rowsX {ops : Array Oper} {rest : List Oper} {o : Oper} {act : Act} {Q : Exit → Act → World → Prop} (w : World) (hgd : o.guard = none) (s x : Operand)
    (ho : o.op = .call { callee := .builtin .append, args := #[s, x], argTypes := #[25, 25] }) (base : Nat) (v : Value) (xs : List Value) (hs : act.eval s = v) (hN : w.ownsRow base 53 1 v xs.length xs)
    (g : Nat) (u : Value) (hx : act.eval x = .slice (some ⟨g, 0, none⟩) 1 1) (hc : w.cell? ⟨g, 0, none⟩ = some u) (h1 : u.oneCell' = true) (hlen : xs.length ≤ 100000000) (hbase : base ≤ w.heap.size)
    (h : ∀ v' w', w'.ownsRow base 53 1 v' (xs ++ [u]).length (xs ++ [u]) → w.grownBy w' v.ownBlock → wpList Tryz.prog ops Q rest (act.put o.dst v') w') : wpList Tryz.prog ops Q (o :: rest) act w := by
  obtain ⟨i, hi, hz0, hz1, hz2⟩ := info_parts info_sl
  refine wpList_append_own w hgd s x 25 ho base 53 i _ 1 24 Tryz.underlying25 hi hz0 hz1 hz2 rfl (by decide) v xs.length _ hs hN ⟨g, 0, none⟩ 1 1 [u] hx rfl ?_ (by intro u' hu; rw [List.mem_singleton] at hu; subst hu; exact h1) (by unfold maxLen; omega) (by omega) hbase ?_
  · intro j u' hj
    rw [Addr.add_lit, Nat.zero_add]
    match j, hj with
    | 0, hj => rw [hc]; exact hj
    | j + 1, hj => simp at hj
  · intro v' w' hown hgrow _
    refine h v' w' ?_ hgrow
    rw [List.length_append]
    exact hown
end Go.Proofs.YtkfcofjmjbkekaaGreatDoor
