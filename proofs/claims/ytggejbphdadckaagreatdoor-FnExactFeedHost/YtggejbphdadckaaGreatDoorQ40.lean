/- Texts of this seat, joined. -/
import Derived.Laws.AppendOwn
import Derived.Laws.AppendOwnNone
import Derived.Lib.BufferMore
import Derived.Test.YtggejbphdadckaaGreatDoorQ15
import Derived.Test.YtggejbphdadckaaGreatDoorQ39
namespace Go.Proofs.YtggejbphdadckaaGreatDoor
open Go.RowKit
set_option linter.unusedVariables false
theorem P2_src {w : World} {x : Addr} {rs : List (Int × Int)} (h : ∀ i, i < rs.length → w.cell? (x.add (i * 2)) = some (.int .i64 (rs.getD i (0, 0)).1) ∧ w.cell? (x.add (i * 2 + 1)) = some (.int .i64 (rs.getD i (0, 0)).2)) : ∀ j u, (flat rs)[j]? = some u → w.cell? (x.add j) = some u := fun j u hj => by
  have hl : j < rs.length * 2 := by have := (List.getElem?_eq_some_iff.1 hj).1; rwa [flat_length] at this
  obtain ⟨i, hi⟩ : ∃ i, j = i * 2 ∨ j = i * 2 + 1 := ⟨j / 2, by omega⟩
  have g := flat_get rs i (by omega)
  have c := h i (by omega)
  rcases hi with rfl | rfl
  · rw [g.1] at hj; cases hj; exact c.1
  · rw [g.2] at hj; cases hj; exact c.2
theorem B_src {w : World} {x : Addr} {rs : List (Int × Int)} (h : ∀ i, i < rs.length → w.cell? (x.add (i * 2)) = some (.int .i64 (rs.getD i (0, 0)).1) ∧ w.cell? (x.add (i * 2 + 1)) = some (.int .i64 (rs.getD i (0, 0)).2)) : ∀ j u, (flat rs)[j]? = some u → w.cell? (x.add j) = some u := P2_src h
theorem S_src {w : World} {x : Addr} {rs : List (Int × Int)} (h : ∀ i, i < rs.length → w.cell? (x.add (i * 2)) = some (.int .i64 (rs.getD i (0, 0)).1) ∧ w.cell? (x.add (i * 2 + 1)) = some (.int .i64 (rs.getD i (0, 0)).2)) : ∀ j u, (flat rs)[j]? = some u → w.cell? (x.add j) = some u := P2_src h
theorem L_src {w : World} {x : Addr} {rs : List Ln} (h : ∀ i, i < rs.length → w.cell? (x.add (i * 5)) = some (.int .i64 (rs.getD i lz).fr) ∧ w.cell? (x.add (i * 5 + 1)) = some (.int .i64 (rs.getD i lz).dst) ∧
    w.cell? (x.add (i * 5 + 2)) = some (.int .i64 (rs.getD i lz).pg) ∧ w.cell? (x.add (i * 5 + 3)) = some (.int .i64 (rs.getD i lz).af) ∧ w.cell? (x.add (i * 5 + 4)) = some (.int .i64 (rs.getD i lz).tt)) : ∀ j u, (flat5 rs)[j]? = some u → w.cell? (x.add j) = some u := fun j u hj => by
  have hl : j < rs.length * 5 := by have := (List.getElem?_eq_some_iff.1 hj).1; rwa [flat5_length] at this
  obtain ⟨i, hi⟩ : ∃ i, j = i * 5 ∨ j = i * 5 + 1 ∨ j = i * 5 + 2 ∨ j = i * 5 + 3 ∨ j = i * 5 + 4 := ⟨j / 5, by omega⟩
  have g := flat5_get rs i (by omega)
  have c := h i (by omega)
  rcases hi with rfl | rfl | rfl | rfl | rfl
  · rw [g.1] at hj; cases hj; exact c.1
  · rw [g.2.1] at hj; cases hj; exact c.2.1
  · rw [g.2.2.1] at hj; cases hj; exact c.2.2.1
  · rw [g.2.2.2.1] at hj; cases hj; exact c.2.2.2.1
  · rw [g.2.2.2.2] at hj; cases hj; exact c.2.2.2.2
theorem wp_appB {ops : Array Oper} {rest : List Oper} {o : Oper} {act : Act} {Q : Exit → Act → World → Prop} (w : World) (hgd : o.guard = none) (s x : Operand)
    (ho : o.op = .call { callee := .builtin .append, args := #[s, x], argTypes := #[34, 34] }) (base g : Nat) (hs : act.eval s = .slice (some ⟨g, 0, none⟩) 0 0) (hN : Prs 129 w base (.slice (some ⟨g, 0, none⟩) 0 0) [])
    (p : Addr) (m c : Nat) (ys : List (Int × Int)) (hx : act.eval x = .slice (some p) m c) (hR : ∀ j u, (flat ys)[j]? = some u → w.cell? (p.add j) = some u) (hm : ys.length = m)
    (hlen : m ≤ 100000000) (hbase : base ≤ w.heap.size)
    (h : ∀ v' w', Prs 129 w' base v' ys → w.grownBy w' (some g) → wpList Tryz.prog ops Q rest (act.put o.dst v') w') : wpList Tryz.prog ops Q (o :: rest) act w := by
  obtain ⟨i, hi, hz0, hz1, hz2⟩ := info_parts info_bell
  refine wpList_append_own w hgd s x 34 ho base 129 i _ 2 16 Tryz.underlying34 hi hz0 hz1 hz2 rfl (by decide) _ 0 _ hs hN p m c (flat ys) hx (by rw [flat_length, hm]) hR (flat_one ys) (by unfold maxLen; omega) (by omega) hbase ?_
  intro v' w' hown hgrow _
  refine h v' w' ?_ hgrow
  unfold Prs
  rw [hm]
  simpa [flat] using hown
theorem noneB (w : World) (base : Nat) (hb : base ≤ w.heap.size) : Prs 129 (w.alloc (.cells #[] 129)) base (.slice (some ⟨w.heap.size, 0, none⟩) 0 0) [] :=
  World.ownsRow_lit w #[] 0 hb (by decide) rfl
set_option maxRecDepth 20000 in
set_option maxHeartbeats 8000000 in
theorem i_cloneB (a : Option Addr) (n cap : Nat) (zs : List (Int × Int)) (w : World) (h : IsPairs w a n cap zs) (hn : n ≤ 100000000) :
    Calls Tryz.prog 132 #[.slice a n cap] w fun e w' => ∃ u, e = .returned u ∧ Prs 129 w' w.heap.size u zs ∧ Below w.heap.size w w' := by
  rcases h with ⟨rfl, rfl, rfl, rfl⟩ | ⟨x, rfl, h1, h2, h3, h4⟩
  · have hnil : ∀ W, (binOp .eql 34 (.slice none 0 0) (.slice none 0 0)).run Tryz.prog W = .ok (.bool true) W := fun W => Lib.run_eql_slice_nil_nil W _ _ Tryz.underlying34
    go_enter Tryz.func132, Tryz.ntmps132
    go_wp2_with fail
    go_ret
    exact ⟨_, rfl, World.ownsRow_nil _ _ _ _, Below.refl _ _⟩
  have HR : Hid (∀ j u, (flat zs)[j]? = some u → w.cell? (x.add j) = some u) := B_src (by rw [h3]; exact h4)
  have HL : Hid (zs.length = n ∧ n ≤ 100000000) := ⟨h3, hn⟩
  clear hn h1 h2 h3 h4
  have hnil : ∀ W, (binOp .eql 34 (.slice (some x) n cap) (.slice none 0 0)).run Tryz.prog W = .ok (.bool false) W := fun W => Lib.run_eql_slice_some_nil W _ _ _ Tryz.underlying34
  go_enter Tryz.func132, Tryz.ntmps132
  go_wp2_with (at_builtin; refine wp_appB _ rfl _ _ rfl w.heap.size _ rfl (noneB _ _ (Nat.le_refl _)) x n cap zs rfl (fun j u hj => cell_keep (al (Below.refl _ _) _) (HR.out j u hj)) HL.out.1 HL.out.2 (by simp) ?_; intro v' w' hN' hG')
  have B : Below w.heap.size w w' := (al (Below.refl _ _) _ : Below w.heap.size w (w.alloc (.cells #[] 129))).grown hG' (by simp) (fun k e => by simp at e; omega)
  go_wp2_with fail
  go_ret
  exact ⟨_, rfl, hN', B⟩
theorem wp_appS {ops : Array Oper} {rest : List Oper} {o : Oper} {act : Act} {Q : Exit → Act → World → Prop} (w : World) (hgd : o.guard = none) (s x : Operand)
    (ho : o.op = .call { callee := .builtin .append, args := #[s, x], argTypes := #[35, 35] }) (base g : Nat) (hs : act.eval s = .slice (some ⟨g, 0, none⟩) 0 0) (hN : Prs 123 w base (.slice (some ⟨g, 0, none⟩) 0 0) [])
    (p : Addr) (m c : Nat) (ys : List (Int × Int)) (hx : act.eval x = .slice (some p) m c) (hR : ∀ j u, (flat ys)[j]? = some u → w.cell? (p.add j) = some u) (hm : ys.length = m)
    (hlen : m ≤ 100000000) (hbase : base ≤ w.heap.size)
    (h : ∀ v' w', Prs 123 w' base v' ys → w.grownBy w' (some g) → wpList Tryz.prog ops Q rest (act.put o.dst v') w') : wpList Tryz.prog ops Q (o :: rest) act w := by
  obtain ⟨i, hi, hz0, hz1, hz2⟩ := info_parts info_slot
  refine wpList_append_own w hgd s x 35 ho base 123 i _ 2 16 Tryz.underlying35 hi hz0 hz1 hz2 rfl (by decide) _ 0 _ hs hN p m c (flat ys) hx (by rw [flat_length, hm]) hR (flat_one ys) (by unfold maxLen; omega) (by omega) hbase ?_
  intro v' w' hown hgrow _
  refine h v' w' ?_ hgrow
  unfold Prs
  rw [hm]
  simpa [flat] using hown
theorem noneS (w : World) (base : Nat) (hb : base ≤ w.heap.size) : Prs 123 (w.alloc (.cells #[] 123)) base (.slice (some ⟨w.heap.size, 0, none⟩) 0 0) [] :=
  World.ownsRow_lit w #[] 0 hb (by decide) rfl
set_option maxRecDepth 20000 in
set_option maxHeartbeats 8000000 in
theorem i_cloneS (a : Option Addr) (n cap : Nat) (zs : List (Int × Int)) (w : World) (h : IsPairs w a n cap zs) (hn : n ≤ 100000000) :
    Calls Tryz.prog 133 #[.slice a n cap] w fun e w' => ∃ u, e = .returned u ∧ Prs 123 w' w.heap.size u zs ∧ Below w.heap.size w w' := by
  rcases h with ⟨rfl, rfl, rfl, rfl⟩ | ⟨x, rfl, h1, h2, h3, h4⟩
  · have hnil : ∀ W, (binOp .eql 35 (.slice none 0 0) (.slice none 0 0)).run Tryz.prog W = .ok (.bool true) W := fun W => Lib.run_eql_slice_nil_nil W _ _ Tryz.underlying35
    go_enter Tryz.func133, Tryz.ntmps133
    go_wp2_with fail
    go_ret
    exact ⟨_, rfl, World.ownsRow_nil _ _ _ _, Below.refl _ _⟩
  have HR : Hid (∀ j u, (flat zs)[j]? = some u → w.cell? (x.add j) = some u) := S_src (by rw [h3]; exact h4)
  have HL : Hid (zs.length = n ∧ n ≤ 100000000) := ⟨h3, hn⟩
  clear hn h1 h2 h3 h4
  have hnil : ∀ W, (binOp .eql 35 (.slice (some x) n cap) (.slice none 0 0)).run Tryz.prog W = .ok (.bool false) W := fun W => Lib.run_eql_slice_some_nil W _ _ _ Tryz.underlying35
  go_enter Tryz.func133, Tryz.ntmps133
  go_wp2_with (at_builtin; refine wp_appS _ rfl _ _ rfl w.heap.size _ rfl (noneS _ _ (Nat.le_refl _)) x n cap zs rfl (fun j u hj => cell_keep (al (Below.refl _ _) _) (HR.out j u hj)) HL.out.1 HL.out.2 (by simp) ?_; intro v' w' hN' hG')
  have B : Below w.heap.size w w' := (al (Below.refl _ _) _ : Below w.heap.size w (w.alloc (.cells #[] 123))).grown hG' (by simp) (fun k e => by simp at e; omega)
  go_wp2_with fail
  go_ret
  exact ⟨_, rfl, hN', B⟩
theorem wp_appL {ops : Array Oper} {rest : List Oper} {o : Oper} {act : Act} {Q : Exit → Act → World → Prop} (w : World) (hgd : o.guard = none) (s x : Operand)
    (ho : o.op = .call { callee := .builtin .append, args := #[s, x], argTypes := #[33, 33] }) (base g : Nat) (hs : act.eval s = .slice (some ⟨g, 0, none⟩) 0 0) (hN : Ls 125 w base (.slice (some ⟨g, 0, none⟩) 0 0) [])
    (p : Addr) (m c : Nat) (ys : List Ln) (hx : act.eval x = .slice (some p) m c) (hR : ∀ j u, (flat5 ys)[j]? = some u → w.cell? (p.add j) = some u) (hm : ys.length = m)
    (hlen : m ≤ 100000000) (hbase : base ≤ w.heap.size)
    (h : ∀ v' w', Ls 125 w' base v' ys → w.grownBy w' (some g) → wpList Tryz.prog ops Q rest (act.put o.dst v') w') : wpList Tryz.prog ops Q (o :: rest) act w := by
  obtain ⟨i, hi, hz0, hz1, hz2⟩ := info_parts info_lane
  refine wpList_append_own w hgd s x 33 ho base 125 i _ 5 40 Tryz.underlying33 hi hz0 hz1 hz2 rfl (by decide) _ 0 _ hs hN p m c (flat5 ys) hx (by rw [flat5_length, hm]) hR (flat5_one ys) (by unfold maxLen; omega) (by omega) hbase ?_
  intro v' w' hown hgrow _
  refine h v' w' ?_ hgrow
  unfold Ls
  rw [hm]
  simpa [flat5] using hown
theorem noneL (w : World) (base : Nat) (hb : base ≤ w.heap.size) : Ls 125 (w.alloc (.cells #[] 125)) base (.slice (some ⟨w.heap.size, 0, none⟩) 0 0) [] :=
  World.ownsRow_lit w #[] 0 hb (by decide) rfl
set_option maxRecDepth 20000 in
set_option maxHeartbeats 8000000 in
theorem i_cloneL (a : Option Addr) (n cap : Nat) (zs : List Ln) (w : World) (h : IsLanes w a n cap zs) (hn : n ≤ 100000000) :
    Calls Tryz.prog 131 #[.slice a n cap] w fun e w' => ∃ u, e = .returned u ∧ Ls 125 w' w.heap.size u zs ∧ Below w.heap.size w w' := by
  rcases h with ⟨rfl, rfl, rfl, rfl⟩ | ⟨x, rfl, h1, h2, h3, h4⟩
  · have hnil : ∀ W, (binOp .eql 33 (.slice none 0 0) (.slice none 0 0)).run Tryz.prog W = .ok (.bool true) W := fun W => Lib.run_eql_slice_nil_nil W _ _ Tryz.underlying33
    go_enter Tryz.func131, Tryz.ntmps131
    go_wp2_with fail
    go_ret
    exact ⟨_, rfl, World.ownsRow_nil _ _ _ _, Below.refl _ _⟩
  have HR : Hid (∀ j u, (flat5 zs)[j]? = some u → w.cell? (x.add j) = some u) := L_src (by rw [h3]; exact h4)
  have HL : Hid (zs.length = n ∧ n ≤ 100000000) := ⟨h3, hn⟩
  clear hn h1 h2 h3 h4
  have hnil : ∀ W, (binOp .eql 33 (.slice (some x) n cap) (.slice none 0 0)).run Tryz.prog W = .ok (.bool false) W := fun W => Lib.run_eql_slice_some_nil W _ _ _ Tryz.underlying33
  go_enter Tryz.func131, Tryz.ntmps131
  go_wp2_with (at_builtin; refine wp_appL _ rfl _ _ rfl w.heap.size _ rfl (noneL _ _ (Nat.le_refl _)) x n cap zs rfl (fun j u hj => cell_keep (al (Below.refl _ _) _) (HR.out j u hj)) HL.out.1 HL.out.2 (by simp) ?_; intro v' w' hN' hG')
  have B : Below w.heap.size w w' := (al (Below.refl _ _) _ : Below w.heap.size w (w.alloc (.cells #[] 125))).grown hG' (by simp) (fun k e => by simp at e; omega)
  go_wp2_with fail
  go_ret
  exact ⟨_, rfl, hN', B⟩
theorem info_hartX : (Tryz.prog.info? 60).map (fun i => (i.zero, i.size, i.bytes)) = some (some (.agg #[.slice none 0 0, .int .i64 0, .slice none 0 0, .bool false, .bool false, .bool false, .int .i64 0, .slice none 0 0, .slice none 0 0]), 9, 120) := by kernel_rfl
structure Wp (w : World) (base : Nat) (v0 v1 v2 v3 : Value) (P : Plc) (xs : List Value) : Prop where
  own : w.ownsRow base 28 1 v0 xs.length xs
  xl : xs.length = P.own.length
  rows : ∀ (i : Nat) (x : Value), xs[i]? = some x → Nums w base x (P.own.getD i [])
  apart : xs.Pairwise Apt
  lanes : Ls 125 w base v1 P.lanes
  bells : Prs 129 w base v2 P.bells
  plan : Prs 123 w base v3 P.plan
theorem Wp.keep {w w' : World} {base : Nat} {v0 v1 v2 v3 : Value} {P : Plc} {xs : List Value} (h : Wp w base v0 v1 v2 v3 P xs) (b : Below w.heap.size w w') : Wp w' base v0 v1 v2 v3 P xs :=
  ⟨row_keepX h.own b, h.xl, fun i x e => (h.rows i x e).keep b, h.apart, h.lanes.keep b, h.bells.keep b, h.plan.keep b⟩
theorem Wp.ho {w w' : World} {base : Nat} {v0 v1 v2 v3 : Value} {P : Plc} {xs : List Value} (h : Wp w base v0 v1 v2 v3 P xs) (b : Ho base w w') : Wp w' base v0 v1 v2 v3 P xs :=
  ⟨row_hoX h.own b, h.xl, fun i x e => (h.rows i x e).ho b, h.apart, row_hoX h.lanes b, row_hoX h.bells b, row_hoX h.plan b⟩
theorem Wp.mono {w : World} {base base' : Nat} {v0 v1 v2 v3 : Value} {P : Plc} {xs : List Value} (h : Wp w base v0 v1 v2 v3 P xs) (hb : base' ≤ base) : Wp w base' v0 v1 v2 v3 P xs :=
  ⟨row_monoX h.own hb, h.xl, fun i x e => (h.rows i x e).mono hb, h.apart, row_monoX h.lanes hb, row_monoX h.bells hb, row_monoX h.plan hb⟩
def WpE (w : World) (base : Nat) (v0 v1 v2 v3 : Value) (P : Plc) : Prop := ∃ xs, Wp w base v0 v1 v2 v3 P xs
theorem row_typesX {w : World} {base base' e e' sz sz' n m : Nat} {v u : Value} {xs ys : List Value} (h : w.ownsRow base e sz v n xs) (k : w.ownsRow base' e' sz' u m ys) (hne : e ≠ e') : v.ownBlock = none ∨ v.ownBlock ≠ u.ownBlock := by
  obtain ⟨h1, ⟨rfl, h3⟩ | ⟨g, cap, cur, rfl, hg, hr, rest⟩⟩ := h
  · exact .inl rfl
  · obtain ⟨k1, ⟨rfl, k3⟩ | ⟨g', cap', cur', rfl, kg, kr, rest'⟩⟩ := k
    · exact .inr (by intro e; cases e)
    · refine .inr fun e => ?_
      have e : g = g' := by simpa [Value.ownBlock] using e
      subst e
      rw [hr] at kr
      cases kr
      exact hne rfl
theorem wp_rowsX {ops : Array Oper} {rest : List Oper} {o : Oper} {act : Act} {Q : Exit → Act → World → Prop} (w : World) (hgd : o.guard = none) (s x : Operand)
    (ho : o.op = .call { callee := .builtin .append, args := #[s, x], argTypes := #[22, 22] }) (base : Nat) (v : Value) (xs : List Value) (hs : act.eval s = v) (hN : w.ownsRow base 28 1 v xs.length xs)
    (g : Nat) (u : Value) (hx : act.eval x = .slice (some ⟨g, 0, none⟩) 1 1) (hc : w.cell? ⟨g, 0, none⟩ = some u) (h1 : u.oneCell' = true) (hlen : xs.length ≤ 100000000) (hbase : base ≤ w.heap.size)
    (h : ∀ v' w', w'.ownsRow base 28 1 v' (xs ++ [u]).length (xs ++ [u]) → w.grownBy w' v.ownBlock → wpList Tryz.prog ops Q rest (act.put o.dst v') w') : wpList Tryz.prog ops Q (o :: rest) act w := by
  obtain ⟨i, hi, hz0, hz1, hz2⟩ := info_parts info_sl
  refine wpList_append_own w hgd s x 22 ho base 28 i _ 1 24 Tryz.underlying22 hi hz0 hz1 hz2 rfl (by decide) v xs.length _ hs hN ⟨g, 0, none⟩ 1 1 [u] hx rfl ?_ (by intro u' hu; rw [List.mem_singleton] at hu; subst hu; exact h1) (by unfold maxLen; omega) (by omega) hbase ?_
  · intro j u' hj
    rw [Addr.add_lit, Nat.zero_add]
    match j, hj with
    | 0, hj => rw [hc]; exact hj
    | j + 1, hj => simp at hj
  · intro v' w' hown hgrow _
    refine h v' w' ?_ hgrow
    rw [List.length_append]
    exact hown
theorem wp_hartsX {ops : Array Oper} {rest : List Oper} {o : Oper} {act : Act} {Q : Exit → Act → World → Prop} (w : World) (hgd : o.guard = none) (s x : Operand)
    (ho : o.op = .call { callee := .builtin .append, args := #[s, x], argTypes := #[38, 38] }) (base : Nat) (v : Value) (qs : List (V4 × Ht)) (hs : act.eval s = v) (hN : w.ownsRow base 60 9 v qs.length (flat9 qs))
    (g : Nat) (q : V4) (H : Ht) (hx : act.eval x = .slice (some ⟨g, 0, none⟩) 1 1) (hc : w.rangeAt g 0 (cel9 q H)) (h1 : ∀ u ∈ q.l, u.oneCell' = true) (hlen : qs.length ≤ 100000000) (hbase : base ≤ w.heap.size)
    (h : ∀ v' w', w'.ownsRow base 60 9 v' (qs ++ [(q, H)]).length (flat9 (qs ++ [(q, H)])) → w.grownBy w' v.ownBlock → wpList Tryz.prog ops Q rest (act.put o.dst v') w') : wpList Tryz.prog ops Q (o :: rest) act w := by
  obtain ⟨i, hi, hz0, hz1, hz2⟩ := info_parts info_hartX
  refine wpList_append_own w hgd s x 38 ho base 60 i _ 9 120 Tryz.underlying38 hi hz0 hz1 hz2 rfl (by decide) v qs.length _ hs hN ⟨g, 0, none⟩ 1 1 (cel9 q H) hx rfl ?_ (fun u hu => flat9_one [(q, H)] (fun q' hq' => by rw [List.mem_singleton] at hq'; subst hq'; exact h1) u (by rw [flat9, flat9, List.append_nil]; exact hu)) (by unfold maxLen; omega) (by omega) hbase ?_
  · intro j u' hj
    rw [Addr.add_lit, Nat.zero_add]
    have := hc j u' hj
    rwa [Nat.zero_add] at this
  · intro v' w' hown hgrow _
    refine h v' w' ?_ hgrow
    rw [List.length_append, flat9_app]
    rw [show flat9 [(q, H)] = cel9 q H by rw [flat9, flat9, List.append_nil]]
    exact hown
end Go.Proofs.YtggejbphdadckaaGreatDoor
