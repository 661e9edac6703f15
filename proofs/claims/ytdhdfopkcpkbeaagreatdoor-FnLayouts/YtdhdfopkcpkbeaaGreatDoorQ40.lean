/- Texts of this seat, joined. -/
import Derived.Test.YtdhdfopkcpkbeaaGreatDoorQ22
import Derived.Test.YtdhdfopkcpkbeaaGreatDoorQ39
namespace Go.Proofs.YtdhdfopkcpkbeaaGreatDoor
open Go.RowKit
set_option linter.unusedVariables false

theorem own_types {w : World} {base base' e e' sz sz' n m : Nat} {v u : Value} {xs ys : List Value} (h : w.ownsRow base e sz v n xs) (k : w.ownsRow base' e' sz' u m ys) (hne : e ≠ e') : v.ownBlock = none ∨ v.ownBlock ≠ u.ownBlock := by
  obtain ⟨h1, ⟨rfl, h3⟩ | ⟨g, cap, cur, rfl, hg, hr, rest⟩⟩ := h
  · exact .inl rfl
  · obtain ⟨k1, ⟨rfl, k3⟩ | ⟨g', cap', cur', rfl, kg, kr, rest'⟩⟩ := k
    · exact .inr (fun e => by cases e)
    · refine .inr fun e => ?_
      cases e
      rw [hr] at kr
      cases kr
      exact hne rfl

/-- A slice of slices of pages, each with 8 pages, made one behind the other. -/
structure Sp (w : World) (base : Nat) (v : Value) (n : Nat) (B C : Nat → Nat) (L : Nat → List (Int × Int)) : Prop where
  row : w.ownsRow base 47 1 v n ((List.range n).map fun i => Value.slice (some ⟨B i, 0, none⟩) 8 (C i))
  inn : ∀ i, i < n → Prs 96 w base (.slice (some ⟨B i, 0, none⟩) 8 (C i)) (L i)
  inc : ∀ i j, i < j → j < n → B i < B j
theorem Sp.nil (w : World) (base : Nat) (B C : Nat → Nat) (L : Nat → List (Int × Int)) : Sp w base (.slice none 0 0) 0 B C L :=
  ⟨World.ownsRow_nil w base _ _, fun i hi => absurd hi (Nat.not_lt_zero _), fun i j _ hj => absurd hj (Nat.not_lt_zero _)⟩
theorem Sp.keep {w w' : World} {base n : Nat} {v : Value} {B C : Nat → Nat} {L : Nat → List (Int × Int)} (h : Sp w base v n B C L) (b : Below w.heap.size w w') : Sp w' base v n B C L :=
  ⟨World.ownsRow.kept h.row (below_grown b none) (by cases v.ownBlock <;> simp), fun i hi => (h.inn i hi).keep b, h.inc⟩
theorem Sp.lt {w : World} {base n : Nat} {v : Value} {B C : Nat → Nat} {L : Nat → List (Int × Int)} (h : Sp w base v n B C L) : ∀ k, v.ownBlock = some k → base ≤ k ∧ k < w.heap.size := World.ownsRow.lt h.row
theorem Sp.blt {w : World} {base n : Nat} {v : Value} {B C : Nat → Nat} {L : Nat → List (Int × Int)} (h : Sp w base v n B C L) (i : Nat) (hi : i < n) : base ≤ B i ∧ B i < w.heap.size := (h.inn i hi).lt (B i) rfl
theorem Sp.mono {w : World} {base base' n : Nat} {v : Value} {B C : Nat → Nat} {L : Nat → List (Int × Int)} (h : Sp w base v n B C L) (hb : base' ≤ base) : Sp w base' v n B C L :=
  ⟨row_up h.row hb, fun i hi => (h.inn i hi).mono hb, h.inc⟩
theorem Sp.shape {w : World} {base n : Nat} {v : Value} {B C : Nat → Nat} {L : Nat → List (Int × Int)} (h : Sp w base v n B C L) : ∃ a cap, v = .slice a n cap ∧ n ≤ cap ∧ cap ≤ maxLen ∧ (0 < n → ∃ g, a = some ⟨g, 0, none⟩) := by
  have h' := h.row
  obtain ⟨h1, ⟨rfl, h3⟩ | ⟨g, cap, cur, rfl, _, _, h4, h5, _⟩⟩ := h'
  · exact ⟨none, 0, by rw [h3], by omega, by unfold maxLen; omega, fun hz => by omega⟩
  · exact ⟨_, _, rfl, h4, h5, fun _ => ⟨g, rfl⟩⟩
theorem Sp.cell {w : World} {base g n cap : Nat} {B C : Nat → Nat} {L : Nat → List (Int × Int)} (h : Sp w base (.slice (some ⟨g, 0, none⟩) n cap) n B C L) (i : Nat) (hi : i < n) : w.cell? ⟨g, i, none⟩ = some (.slice (some ⟨B i, 0, none⟩) 8 (C i)) := by
  rw [World.ownsRow.cellAt h.row i (by omega), List.getElem?_map, List.getElem?_range hi]
  rfl
theorem Sp.len8 {w : World} {base n : Nat} {v : Value} {B C : Nat → Nat} {L : Nat → List (Int × Int)} (h : Sp w base v n B C L) (i : Nat) (hi : i < n) : (L i).length = 8 := by
  obtain ⟨a, cap, hv, _⟩ := (h.inn i hi).shape
  have := congrArg (fun v => match v with | Value.slice _ n _ => n | _ => 0) hv
  simpa using this.symm
theorem Sp.put {w : World} {base n : Nat} {v : Value} {B C : Nat → Nat} {L : Nat → List (Int × Int)} (h : Sp w base v n B C L) (p : Addr) (u : Value) (hp : p.block < base) : Sp (w.setCell p u) base v n B C L :=
  ⟨World.ownsRow.kept h.row (grown_set w p u) (.inr fun e => by have := (h.lt _ e).1; omega), fun i hi => (h.inn i hi).put p u (fun e => by have := ((h.inn i hi).lt _ e).1; omega), h.inc⟩
def ext (n b : Nat) (B : Nat → Nat) : Nat → Nat := fun i => if i = n then b else B i
theorem range_ext (n b c : Nat) (B C : Nat → Nat) : (List.range (n + 1)).map (fun i => Value.slice (some ⟨ext n b B i, 0, none⟩) 8 (ext n c C i)) = (List.range n).map (fun i => Value.slice (some ⟨B i, 0, none⟩) 8 (C i)) ++ [.slice (some ⟨b, 0, none⟩) 8 c] := by
  rw [List.range_succ, List.map_append]
  congr 1
  · apply List.map_congr_left
    intro i hi
    have := List.mem_range.1 hi
    unfold ext
    rw [if_neg (by omega), if_neg (by omega)]
  · simp [ext]
/-- One list more. -/
theorem Sp.push {w w' : World} {base n b c : Nat} {v v' : Value} {B C : Nat → Nat} {L : Nat → List (Int × Int)} (h : Sp w base v n B C L) (hb : Prs 96 w base (.slice (some ⟨b, 0, none⟩) 8 c) (L n)) (hl : ∀ i, i < n → B i < b)
    (hr : w'.ownsRow base 47 1 v' (n + 1) ((List.range n).map (fun i => Value.slice (some ⟨B i, 0, none⟩) 8 (C i)) ++ [.slice (some ⟨b, 0, none⟩) 8 c])) (hg : w.grownBy w' v.ownBlock) : Sp w' base v' (n + 1) (ext n b B) (ext n c C) L := by
  have hk : ∀ {u : Value} {rs : List (Int × Int)}, Prs 96 w base u rs → Prs 96 w' base u rs := fun hu => hu.kept hg (own_types hu h.row (by decide))
  refine ⟨by rw [range_ext]; exact hr, fun i hi => ?_, fun i j hij hj => ?_⟩
  · unfold ext
    by_cases e : i = n
    · subst e
      rw [if_pos rfl, if_pos rfl]
      exact hk hb
    · rw [if_neg e, if_neg e]
      exact hk (h.inn i (by omega))
  · unfold ext
    rw [if_neg (by omega)]
    by_cases e : j = n
    · rw [if_pos e]
      exact hl i (by omega)
    · rw [if_neg e]
      exact h.inc i j hij (by omega)

theorem info_pgs : (Tryz.prog.info? 47).map (fun i => (i.zero, i.size, i.bytes)) = some (some (.slice none 0 0), 1, 24) := by kernel_rfl
/-- append of one list of pages. -/
theorem wp_slp {ops : Array Oper} {rest : List Oper} {o : Oper} {act : Act} {Q : Exit → Act → World → Prop} (w : World) (hgd : o.guard = none) (s x : Operand)
    (ho : o.op = .call { callee := .builtin .append, args := #[s, x], argTypes := #[36, 36] }) (base : Nat) (v : Value) (n : Nat) (B C : Nat → Nat) (L : Nat → List (Int × Int)) (hs : act.eval s = v) (hN : Sp w base v n B C L)
    (g b c : Nat) (hx : act.eval x = .slice (some ⟨g, 0, none⟩) 1 1) (hc : w.cell? ⟨g, 0, none⟩ = some (.slice (some ⟨b, 0, none⟩) 8 c)) (hb : Prs 96 w base (.slice (some ⟨b, 0, none⟩) 8 c) (L n)) (hl : ∀ i, i < n → B i < b)
    (hlen : n ≤ 1000) (hbase : base ≤ w.heap.size)
    (h : ∀ v' w', Sp w' base v' (n + 1) (ext n b B) (ext n c C) L → w.grownBy w' v.ownBlock → wpList Tryz.prog ops Q rest (act.put o.dst v') w') : wpList Tryz.prog ops Q (o :: rest) act w := by
  obtain ⟨i, hi, hz0, hz1, hz2⟩ := info_parts info_pgs
  refine wpList_append_own w hgd s x 36 ho base 47 i _ 1 24 Tryz.underlying36 hi hz0 hz1 hz2 rfl (by decide) v n _ hs hN.row ⟨g, 0, none⟩ 1 1 [.slice (some ⟨b, 0, none⟩) 8 c] hx rfl ?_ (by intro u hu; rw [List.mem_singleton] at hu; subst hu; rfl) (by unfold maxLen; omega) (by omega) hbase ?_
  · intro j u hj
    rw [Addr.add_lit, Nat.zero_add]
    match j, hj with
    | 0, hj => rw [hc]; exact hj
    | j + 1, hj => simp at hj
  · intro v' w' hown hgrow _
    exact h v' w' (hN.push hb hl hown hgrow) hgrow
end Go.Proofs.YtdhdfopkcpkbeaaGreatDoor
