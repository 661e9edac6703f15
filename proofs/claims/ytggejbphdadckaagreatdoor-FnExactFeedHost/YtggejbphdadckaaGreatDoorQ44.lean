/- Texts of this seat, joined. -/
import Derived.Laws.OwnMore
import Derived.Deep.RegionWith
import Derived.Deep.RegionHeld3
import Derived.Deep.Cut
import Derived.Deep.CutRange
import Derived.Test.YtggejbphdadckaaGreatDoorQ34
import Derived.Test.YtggejbphdadckaaGreatDoorQ41
namespace Go.Proofs.YtggejbphdadckaaGreatDoor
open Go.RowKit
set_option linter.unusedVariables false
theorem wpAnyH_name {P : Program} {md : Region.Mode} {ops : Array Oper} {Q : Exit → Act → World → Prop} {S : World → Prop} {n : Nat} {L : Array Bool} {a : Act} {w : World} (h : ∀ G : Nat → Array Bool → Act → World → Prop, Hid (G = wpAnyH P md ops Q S) → G n L a w) : wpAnyH P md ops Q S n L a w := h _ rfl
structure Ky (E : Option TypeId) (u u' : World) : Prop where
  row : ∀ {base sz n : Nat} {e : TypeId} {v : Value} {xs : List Value}, u.ownsRow base e sz v n xs → some e ≠ E → u'.ownsRow base e sz v n xs
  vb : ∀ {q : Nat} {cs : Array Value} {t : TypeId}, Vb u q cs t → some t ≠ E → Vb u' q cs t
theorem ky_below {u u' : World} (b : Below u.heap.size u u') : Ky none u u' := ⟨fun h _ => row_keepX h b, fun h _ => h.keep b⟩
theorem ky_grown {u u' : World} {base g n cap sz : Nat} {e : TypeId} {xs : List Value} (h : u.ownsRow base e sz (.slice (some ⟨g, 0, none⟩) n cap) n xs) (hG : u.grownBy u' (some g)) : Ky (some e) u u' := by
  refine ⟨fun k hne => World.ownsRow.kept k hG (row_typesX k h fun e => hne (by rw [e])), fun {q cs t} k hne => k.gr hG fun e => ?_⟩
  have e : q = g := by simpa using e
  subst e
  obtain ⟨_, ⟨e, _⟩ | ⟨g', cap', cur, e, _, hr, _⟩⟩ := h
  · cases e
  · have e : q = g' := by simp at e; exact e.1
    subst e
    unfold Vb at k
    rw [k] at hr
    cases hr
    exact hne rfl
def SvO (w : World) (base : Nat) (v : Value) (oss : List (List Int)) : Prop := ∃ xs : List Value, xs.length = oss.length ∧ w.ownsRow base 28 1 v xs.length xs ∧ ∀ (i : Nat) (x : Value), xs[i]? = some x → Nums w base x (oss.getD i [])
theorem SvO.sv {w : World} {base : Nat} {v : Value} {oss : List (List Int)} (h : SvO w base v oss) : Svr w v oss := by
  obtain ⟨xs, h1, h2, h3⟩ := h; exact row_sv h2 h1 h3
theorem SvO.keep {w w' : World} {base : Nat} {v : Value} {oss : List (List Int)} (h : SvO w base v oss) (b : Below w.heap.size w w') : SvO w' base v oss := by
  obtain ⟨xs, h1, h2, h3⟩ := h; exact ⟨xs, h1, row_keepX h2 b, fun i x e => (h3 i x e).keep b⟩
theorem SvO.ky {E : TypeId} {w w' : World} {base : Nat} {v : Value} {oss : List (List Int)} (h : SvO w base v oss) (k : Ky (some E) w w') (h1 : E ≠ 28) (h2 : E ≠ 2) : SvO w' base v oss := by
  obtain ⟨xs, k1, k2, k3⟩ := h
  exact ⟨xs, k1, k.row k2 (fun e => h1 (by injection e with e; exact e.symm)), fun i x e => k.row (k3 i x e) (fun e => h2 (by injection e with e; exact e.symm))⟩
theorem SvO.mono {w : World} {base base' : Nat} {v : Value} {oss : List (List Int)} (h : SvO w base v oss) (hb : base' ≤ base) : SvO w base' v oss := by
  obtain ⟨xs, h1, h2, h3⟩ := h; exact ⟨xs, h1, row_monoX h2 hb, fun i x e => (h3 i x e).mono hb⟩
structure WqE (w : World) (base : Nat) (v0 v1 v2 v3 : Value) (P : Plc) : Prop where
  own : SvO w base v0 P.own
  lanes : Ls 125 w base v1 P.lanes
  bells : Prs 129 w base v2 P.bells
  plan : Prs 123 w base v3 P.plan
theorem WqE.ky {E : TypeId} {w w' : World} {base : Nat} {v0 v1 v2 v3 : Value} {P : Plc} (h : WqE w base v0 v1 v2 v3 P) (k : Ky (some E) w w') (h1 : E ≠ 28) (h2 : E ≠ 2) (h3 : E ≠ 125) (h4 : E ≠ 129) (h5 : E ≠ 123) : WqE w' base v0 v1 v2 v3 P :=
  ⟨h.own.ky k h1 h2, k.row h.lanes (fun e => h3 (by injection e with e; exact e.symm)), k.row h.bells (fun e => h4 (by injection e with e; exact e.symm)), k.row h.plan (fun e => h5 (by injection e with e; exact e.symm))⟩
theorem wq_shapes {w : World} {base : Nat} {v0 v1 v2 v3 : Value} {P : Plc} (h : WqE w base v0 v1 v2 v3 P) : ∃ b0 b1 b2 b3 d0 d1 d2 d3, v0 = .slice b0 P.own.length d0 ∧ v1 = .slice b1 P.lanes.length d1 ∧ v2 = .slice b2 P.bells.length d2 ∧ v3 = .slice b3 P.plan.length d3 := by
  obtain ⟨xs, hl, ho, _⟩ := h.own
  obtain ⟨b0, d0, e0⟩ := row_shape ho
  obtain ⟨b1, d1, e1⟩ := row_shape h.lanes
  obtain ⟨b2, d2, e2⟩ := row_shape h.bells
  obtain ⟨b3, d3, e3⟩ := row_shape h.plan
  rw [hl] at e0
  exact ⟨b0, b1, b2, b3, d0, d1, d2, d3, e0, e1, e2, e3⟩
theorem WqE.keep {w w' : World} {base : Nat} {v0 v1 v2 v3 : Value} {P : Plc} (h : WqE w base v0 v1 v2 v3 P) (b : Below w.heap.size w w') : WqE w' base v0 v1 v2 v3 P := ⟨h.own.keep b, h.lanes.keep b, h.bells.keep b, h.plan.keep b⟩
theorem row_mqX {S : Nat → Prop} {w w' : World} {base sz n : Nat} {e : TypeId} {v : Value} {xs : List Value} (h : w.ownsRow base e sz v n xs) (m : Mq S w w') (hn : ∀ k, v.ownBlock = some k → ¬ S k) : w'.ownsRow base e sz v n xs := by
  obtain ⟨h1, h2 | ⟨g, cap, cur, hv, hg, hr, rest⟩⟩ := h
  · exact ⟨h1, .inl h2⟩
  · refine ⟨h1, .inr ⟨g, cap, cur, hv, hg, ?_, rest⟩⟩
    rw [m.block g (Array.getElem?_eq_some_iff.1 hr).1 (hn g (by subst hv; rfl))]
    exact hr
theorem row_ne_vb {w : World} {base sz n q : Nat} {e t : TypeId} {v : Value} {xs : List Value} {cs : Array Value} (h : w.ownsRow base e sz v n xs) (k : Vb w q cs t) (hne : e ≠ t) (hq : v.ownBlock = some q) : False := by
  obtain ⟨_, ⟨rfl, _⟩ | ⟨g, cap, cur, rfl, _, hr, _⟩⟩ := h
  · cases hq
  · have e : g = q := by simpa [Value.ownBlock] using hq
    subst e
    unfold Vb at k
    rw [k] at hr
    cases hr
    exact hne rfl
theorem ky_row {u u' : World} {base sz n : Nat} {e : TypeId} {v : Value} {xs : List Value} (h : u.ownsRow base e sz v n xs) (hG : u.grownBy u' v.ownBlock) : Ky (some e) u u' := by
  obtain ⟨h1, ⟨rfl, h3⟩ | ⟨g, cap, cur, rfl, hg, hr, rest⟩⟩ := h
  · refine ⟨fun {base sz n e v xs} k _ => World.ownsRow.kept k hG ?_, fun k _ => k.gr hG (by intro e; cases e)⟩
    show v.ownBlock = none ∨ v.ownBlock ≠ none
    cases v.ownBlock with
    | none => exact .inl rfl
    | some x => exact .inr (by simp)
  · exact ky_grown ⟨h1, .inr ⟨g, cap, cur, rfl, hg, hr, rest⟩⟩ hG
theorem ky_set {q : Nat} {cs : Array Value} {t : TypeId} {u u' : World} (h : Vb u q cs t) (m : Mq (fun k => k = q) u u') : Ky (some t) u u' :=
  ⟨fun k hne => row_mqX k m fun b e f => by subst f; exact row_ne_vb k h (fun e => hne (by rw [e])) e, fun {q' cs' t'} k hne => m.vb k fun e => by
    subst e
    unfold Vb at h k
    rw [h] at k
    cases k
    exact hne rfl⟩
theorem mq_belowX {S : Nat → Prop} {w w' : World} (b : Below w.heap.size w w') : Mq S w w' := ⟨b.os, b.tape, b.output, b.size, fun k hk _ => b.block k hk⟩
theorem mq_cellX {S : Nat → Prop} {u u' : World} {ad : Addr} {v : Value} (m : Mq S u u') (h : u.cell? ad = some v) (hn : ¬ S ad.block) : u'.cell? ad = some v := by
  have hl : ad.block < u.heap.size := block_of_cell h
  have e := m.block ad.block hl hn
  unfold World.cell? at h ⊢
  rw [e]
  exact h
theorem fourY {v : World} {q : Nat} {t : TypeId} {z0 z1 z2 z3 : Value} (h : Vb v q #[z0, z1, z2, z3] t) (u0 u1 u2 u3 : Value) :
    Vb ((((v.setCell ⟨q, 0, none⟩ u0).setCell ⟨q, 1, none⟩ u1).setCell ⟨q, 2, none⟩ u2).setCell ⟨q, 3, none⟩ u3) q #[u0, u1, u2, u3] t ∧ Mq (fun k => k = q) v ((((v.setCell ⟨q, 0, none⟩ u0).setCell ⟨q, 1, none⟩ u1).setCell ⟨q, 2, none⟩ u2).setCell ⟨q, 3, none⟩ u3) := by
  have h0 : Vb (v.setCell ⟨q, 0, none⟩ u0) q #[u0, z1, z2, z3] t := h.set 0 u0
  have h1 : Vb ((v.setCell ⟨q, 0, none⟩ u0).setCell ⟨q, 1, none⟩ u1) q #[u0, u1, z2, z3] t := h0.set 1 u1
  have h2 : Vb (((v.setCell ⟨q, 0, none⟩ u0).setCell ⟨q, 1, none⟩ u1).setCell ⟨q, 2, none⟩ u2) q #[u0, u1, u2, z3] t := h1.set 2 u2
  exact ⟨h2.set 3 u3, ((((Mq.refl (fun k => k = q) v).set ⟨q, 0, none⟩ u0 rfl).set ⟨q, 1, none⟩ u1 rfl).set ⟨q, 2, none⟩ u2 rfl).set ⟨q, 3, none⟩ u3 rfl⟩
theorem fourX {v : World} {q : Nat} {t : TypeId} {z0 z1 z2 z3 : Value} (h : Vb v q #[z0, z1, z2, z3] t) (u0 u1 u2 u3 : Value) :
    Vb (v.setCells q 0 #[u0, u1, u2, u3].toList) q #[u0, u1, u2, u3] t ∧ Mq (fun k => k = q) v (v.setCells q 0 #[u0, u1, u2, u3].toList) := fourY h u0 u1 u2 u3
theorem step_appN {ops : Array Oper} {o : Oper} {act : Act} {w : World} {K : Act → World → Prop} {Q : Exit → Act → World → Prop} {F : Prop} (hgd : o.guard = none) (s x : Operand)
    (ho : o.op = .call { callee := .builtin .append, args := #[s, x], argTypes := #[28, 28] }) (base g : Nat) (hs : act.eval s = .slice (some ⟨g, 0, none⟩) 0 0) (hN : Nums w base (.slice (some ⟨g, 0, none⟩) 0 0) [])
    (ao : Option Addr) (m c : Nat) (ys : List Int) (hx : act.eval x = .slice ao m c) (hR : Rn w ao m c ys) (hlen : m ≤ 100000000) (hbase : base ≤ w.heap.size)
    (h : ∀ la lk w', Nums w' base (.slice la m lk) ys → w.grownBy w' (some g) → K (act.put o.dst (.slice la m lk)) w') :
    if Region.wanted o (yielded ops act.tmps) = true then Oper.wp Tryz.prog o act w K Q else F := by
  have hw : Region.wanted o (yielded ops act.tmps) = true := by simp [Region.wanted, hgd]
  rw [if_pos hw]
  obtain ⟨i, hi, hz0, hz1, hz2⟩ := info_parts info_i64
  rcases hR with ⟨rfl, rfl, rfl, rfl⟩ | ⟨ad, rfl, h1, h2, h3, h4⟩
  · have hrun := run_append_owned_none (P := Tryz.prog) (w := w) base 28 o.type 2 i 1 Tryz.underlying28 hi _ 0 _ hN
    unfold Oper.wp
    simp [execOp, ho, resolve, invoke, builtin, hs, hx, hrun, Result.andThen]
    exact h _ _ w hN (World.grownBy.refl _ _)
  · obtain ⟨v', w', hr, h5, h6, _⟩ := run_append_own (P := Tryz.prog) w base 28 o.type 2 i _ 1 8 Tryz.underlying28 hi hz0 hz1 hz2 rfl (by decide) _ 0 _ hN ad m c (ys.map (Value.int .i64)) (by simpa using h3) (by
      intro j u hj
      have hjl : j < ys.length := by have := (List.getElem?_eq_some_iff.1 hj).1; simpa using this
      rw [List.getElem?_map, List.getElem?_eq_getElem hjl] at hj
      have := h4 j (by omega)
      rw [List.getD, List.getElem?_eq_getElem hjl] at this
      rw [this]
      exact hj) (by
      intro u hu
      obtain ⟨z, _, rfl⟩ := List.mem_map.1 hu
      rfl) (by unfold maxLen; omega) (by omega) hbase
    unfold Oper.wp execOp
    simp only [ho, resolve, invoke, builtin, Sem.run_bind, Sem.run_pure, Result.andThen_ok, List.map_toArray, List.map_cons, List.map_nil, hs, hx, hr]
    have h7 : Nums w' base v' ys := by
      unfold Nums
      rw [h3]
      simpa using h5
    obtain ⟨la, lk, e⟩ := row_shape h7
    rw [h3] at e
    subst e
    exact h la lk w' h7 h6
theorem step_rowsX {ops : Array Oper} {o : Oper} {act : Act} {w : World} {K : Act → World → Prop} {Q : Exit → Act → World → Prop} {F : Prop} (hgd : o.guard = none) (s x : Operand)
    (ho : o.op = .call { callee := .builtin .append, args := #[s, x], argTypes := #[22, 22] }) (base : Nat) (v : Value) (xs : List Value) (hs : act.eval s = v) (hN : w.ownsRow base 28 1 v xs.length xs)
    (g : Nat) (u : Value) (hx : act.eval x = .slice (some ⟨g, 0, none⟩) 1 1) (hc : w.cell? ⟨g, 0, none⟩ = some u) (h1 : u.oneCell' = true) (m : Nat) (hxm : xs.length = m) (hlen : m ≤ 100000000) (hbase : base ≤ w.heap.size)
    (h : ∀ wa wc w', w'.ownsRow base 28 1 (.slice wa (m + 1) wc) (xs ++ [u]).length (xs ++ [u]) → w.grownBy w' v.ownBlock → K (act.put o.dst (.slice wa (m + 1) wc)) w') :
    if Region.wanted o (yielded ops act.tmps) = true then Oper.wp Tryz.prog o act w K Q else F := by
  have hw : Region.wanted o (yielded ops act.tmps) = true := by simp [Region.wanted, hgd]
  rw [if_pos hw]
  obtain ⟨i, hi, hz0, hz1, hz2⟩ := info_parts info_sl
  obtain ⟨v', w', hr, h5, h6, _⟩ := run_append_own (P := Tryz.prog) w base 22 o.type 28 i _ 1 24 Tryz.underlying22 hi hz0 hz1 hz2 rfl (by decide) _ xs.length _ hN ⟨g, 0, none⟩ 1 1 [u] rfl (by
    intro j u' hj
    rw [Addr.add_lit, Nat.zero_add]
    match j, hj with
    | 0, hj => rw [hc]; exact hj
    | j + 1, hj => simp at hj) (by intro u' hu; rw [List.mem_singleton] at hu; subst hu; exact h1) (by unfold maxLen; omega) (by omega) hbase
  unfold Oper.wp execOp
  simp only [ho, resolve, invoke, builtin, Sem.run_bind, Sem.run_pure, Result.andThen_ok, List.map_toArray, List.map_cons, List.map_nil, hs, hx, hr]
  have h7 : w'.ownsRow base 28 1 v' (xs ++ [u]).length (xs ++ [u]) := by rw [List.length_append]; exact h5
  obtain ⟨wa, wc, e⟩ := row_shape h7
  rw [List.length_append, hxm] at e
  subst e
  exact h wa wc w' h7 h6
theorem step_apL {ops : Array Oper} {o : Oper} {act : Act} {w : World} {K : Act → World → Prop} {Q : Exit → Act → World → Prop} {F : Prop} (hgd : o.guard = none) (s x : Operand)
    (ho : o.op = .call { callee := .builtin .append, args := #[s, x], argTypes := #[33, 33] }) (base g : Nat) (hs : act.eval s = .slice (some ⟨g, 0, none⟩) 0 0) (hN : Ls 125 w base (.slice (some ⟨g, 0, none⟩) 0 0) [])
    (ao : Option Addr) (m c : Nat) (ys : List Ln) (hx : act.eval x = .slice ao m c) (hR : IsLanes w ao m c ys) (hlen : m ≤ 100000000) (hbase : base ≤ w.heap.size)
    (h : ∀ la lk w', Ls 125 w' base (.slice la m lk) ys → w.grownBy w' (some g) → K (act.put o.dst (.slice la m lk)) w') :
    if Region.wanted o (yielded ops act.tmps) = true then Oper.wp Tryz.prog o act w K Q else F := by
  have hw : Region.wanted o (yielded ops act.tmps) = true := by simp [Region.wanted, hgd]
  rw [if_pos hw]
  obtain ⟨i, hi, hz0, hz1, hz2⟩ := info_parts info_lane
  rcases hR with ⟨rfl, rfl, rfl, rfl⟩ | ⟨ad, rfl, h1, h2, h3, h4⟩
  · have hrun := run_append_owned_none (P := Tryz.prog) (w := w) base 33 o.type 125 i 5 Tryz.underlying33 hi _ 0 _ hN
    unfold Oper.wp
    simp [execOp, ho, resolve, invoke, builtin, hs, hx, hrun, Result.andThen]
    exact h _ _ w hN (World.grownBy.refl _ _)
  · obtain ⟨v', w', hr, h5, h6, _⟩ := run_append_own (P := Tryz.prog) w base 33 o.type 125 i _ 5 40 Tryz.underlying33 hi hz0 hz1 hz2 rfl (by decide) _ 0 _ hN ad m c (flat5 ys) (by rw [flat5_length, h3]) (L_src (by rw [h3]; exact h4)) (flat5_one ys) (by unfold maxLen; omega) (by omega) hbase
    unfold Oper.wp execOp
    simp only [ho, resolve, invoke, builtin, Sem.run_bind, Sem.run_pure, Result.andThen_ok, List.map_toArray, List.map_cons, List.map_nil, hs, hx, hr]
    have h7 : Ls 125 w' base v' ys := by
      unfold Ls
      rw [h3]
      simpa [flat5] using h5
    obtain ⟨la, lk, e⟩ := row_shape h7
    rw [h3] at e
    subst e
    exact h la lk w' h7 h6
theorem step_apB {ops : Array Oper} {o : Oper} {act : Act} {w : World} {K : Act → World → Prop} {Q : Exit → Act → World → Prop} {F : Prop} (hgd : o.guard = none) (s x : Operand)
    (ho : o.op = .call { callee := .builtin .append, args := #[s, x], argTypes := #[34, 34] }) (base g : Nat) (hs : act.eval s = .slice (some ⟨g, 0, none⟩) 0 0) (hN : Prs 129 w base (.slice (some ⟨g, 0, none⟩) 0 0) [])
    (ao : Option Addr) (m c : Nat) (ys : List (Int × Int)) (hx : act.eval x = .slice ao m c) (hR : IsPairs w ao m c ys) (hlen : m ≤ 100000000) (hbase : base ≤ w.heap.size)
    (h : ∀ la lk w', Prs 129 w' base (.slice la m lk) ys → w.grownBy w' (some g) → K (act.put o.dst (.slice la m lk)) w') :
    if Region.wanted o (yielded ops act.tmps) = true then Oper.wp Tryz.prog o act w K Q else F := by
  have hw : Region.wanted o (yielded ops act.tmps) = true := by simp [Region.wanted, hgd]
  rw [if_pos hw]
  obtain ⟨i, hi, hz0, hz1, hz2⟩ := info_parts info_bell
  rcases hR with ⟨rfl, rfl, rfl, rfl⟩ | ⟨ad, rfl, h1, h2, h3, h4⟩
  · have hrun := run_append_owned_none (P := Tryz.prog) (w := w) base 34 o.type 129 i 2 Tryz.underlying34 hi _ 0 _ hN
    unfold Oper.wp
    simp [execOp, ho, resolve, invoke, builtin, hs, hx, hrun, Result.andThen]
    exact h _ _ w hN (World.grownBy.refl _ _)
  · obtain ⟨v', w', hr, h5, h6, _⟩ := run_append_own (P := Tryz.prog) w base 34 o.type 129 i _ 2 16 Tryz.underlying34 hi hz0 hz1 hz2 rfl (by decide) _ 0 _ hN ad m c (flat ys) (by rw [flat_length, h3]) (B_src (by rw [h3]; exact h4)) (flat_one ys) (by unfold maxLen; omega) (by omega) hbase
    unfold Oper.wp execOp
    simp only [ho, resolve, invoke, builtin, Sem.run_bind, Sem.run_pure, Result.andThen_ok, List.map_toArray, List.map_cons, List.map_nil, hs, hx, hr]
    have h7 : Prs 129 w' base v' ys := by
      unfold Prs
      rw [h3]
      simpa [flat] using h5
    obtain ⟨la, lk, e⟩ := row_shape h7
    rw [h3] at e
    subst e
    exact h la lk w' h7 h6
theorem step_apS {ops : Array Oper} {o : Oper} {act : Act} {w : World} {K : Act → World → Prop} {Q : Exit → Act → World → Prop} {F : Prop} (hgd : o.guard = none) (s x : Operand)
    (ho : o.op = .call { callee := .builtin .append, args := #[s, x], argTypes := #[35, 35] }) (base g : Nat) (hs : act.eval s = .slice (some ⟨g, 0, none⟩) 0 0) (hN : Prs 123 w base (.slice (some ⟨g, 0, none⟩) 0 0) [])
    (ao : Option Addr) (m c : Nat) (ys : List (Int × Int)) (hx : act.eval x = .slice ao m c) (hR : IsPairs w ao m c ys) (hlen : m ≤ 100000000) (hbase : base ≤ w.heap.size)
    (h : ∀ la lk w', Prs 123 w' base (.slice la m lk) ys → w.grownBy w' (some g) → K (act.put o.dst (.slice la m lk)) w') :
    if Region.wanted o (yielded ops act.tmps) = true then Oper.wp Tryz.prog o act w K Q else F := by
  have hw : Region.wanted o (yielded ops act.tmps) = true := by simp [Region.wanted, hgd]
  rw [if_pos hw]
  obtain ⟨i, hi, hz0, hz1, hz2⟩ := info_parts info_slot
  rcases hR with ⟨rfl, rfl, rfl, rfl⟩ | ⟨ad, rfl, h1, h2, h3, h4⟩
  · have hrun := run_append_owned_none (P := Tryz.prog) (w := w) base 35 o.type 123 i 2 Tryz.underlying35 hi _ 0 _ hN
    unfold Oper.wp
    simp [execOp, ho, resolve, invoke, builtin, hs, hx, hrun, Result.andThen]
    exact h _ _ w hN (World.grownBy.refl _ _)
  · obtain ⟨v', w', hr, h5, h6, _⟩ := run_append_own (P := Tryz.prog) w base 35 o.type 123 i _ 2 16 Tryz.underlying35 hi hz0 hz1 hz2 rfl (by decide) _ 0 _ hN ad m c (flat ys) (by rw [flat_length, h3]) (S_src (by rw [h3]; exact h4)) (flat_one ys) (by unfold maxLen; omega) (by omega) hbase
    unfold Oper.wp execOp
    simp only [ho, resolve, invoke, builtin, Sem.run_bind, Sem.run_pure, Result.andThen_ok, List.map_toArray, List.map_cons, List.map_nil, hs, hx, hr]
    have h7 : Prs 123 w' base v' ys := by
      unfold Prs
      rw [h3]
      simpa [flat] using h5
    obtain ⟨la, lk, e⟩ := row_shape h7
    rw [h3] at e
    subst e
    exact h la lk w' h7 h6
set_option maxRecDepth 20000 in
set_option maxHeartbeats 8000000 in
theorem s_policy12 (a0 a1 a2 a3 : Option Addr) (n0 c0 n1 c1 n2 c2 n3 c3 : Nat) (P : Plc) (w : World) (h : Pl w a0 n0 c0 a1 n1 c1 a2 n2 c2 a3 n3 c3 P) (sm : Small n0 n1 n2 n3 P) :
    Calls Tryz.prog 46 #[.agg #[.slice a0 n0 c0, .slice a1 n1 c1, .slice a2 n2 c2, .slice a3 n3 c3]] w fun e w' => ∃ v0 v1 v2 v3, e = .returned (.agg #[v0, v1, v2, v3]) ∧ WqE w' w.heap.size v0 v1 v2 v3 P ∧ Below w.heap.size w w' := by
  generalize hW : (w.alloc (.cells #[.slice a0 n0 c0, .slice a1 n1 c1, .slice a2 n2 c2, .slice a3 n3 c3] 37)).alloc (.cells #[.slice none 0 0, .slice none 0 0, .slice none 0 0, .slice none 0 0] 37) = W
  have B0 : Hid (Below w.heap.size w W) := by show Below _ _ _; rw [← hW]; exact al (al (Below.refl _ _) _) _
  obtain ⟨s, hS⟩ : ∃ s, w.heap.size = s := ⟨_, rfl⟩
  have HSs : Hid (w.heap.size = s) := hS
  have z1 : s + 1 = (w.alloc (.cells #[.slice a0 n0 c0, .slice a1 n1 c1, .slice a2 n2 c2, .slice a3 n3 c3] 37)).heap.size := by rw [← hS]; simp
  have Q : Hid (Vb W s #[.slice a0 n0 c0, .slice a1 n1 c1, .slice a2 n2 c2, .slice a3 n3 c3] 37) := by show Vb _ _ _ _; rw [← hW, ← hS]; exact (Vb.new _ _ _).push _
  have R : Hid (Vb W (s + 1) #[.slice none 0 0, .slice none 0 0, .slice none 0 0, .slice none 0 0] 37) := by show Vb _ _ _ _; rw [← hW, z1]; exact Vb.new _ _ _
  have ZW : Hid (s + 2 = W.heap.size) := by show _ = _; rw [← hW, ← hS]; simp
  clear z1
  have D : Hid (Pl W a0 n0 c0 a1 n1 c1 a2 n2 c2 a3 n3 c3 P) := h.stay B0.out
  have SMP : Hid (Small n0 n1 n2 n3 P) := sm
  have HN0 : Hid (n0 = P.own.length) := h.own.len
  have n0I : (n0 : Int) ≤ 1048576 := by have := sm.own; omega
  clear h sm
  have S0 : Hid (Below W.heap.size W W.drew) := (Below.refl _ _).drew
  go_enter Tryz.func46, Tryz.ntmps46
  go_upto_region 1 with fail
  clear hW hS
  refine wp_region_held (S := fun w' => Below W.heap.size W w') (by kernel_rfl) ?_
  change wpAnyH _ _ _ _ _ _ _ _ (World.drew _)
  generalize W.drew = u0 at *
  refine wpTk (i := 1) (v := (.pointer (some ⟨s, 1, none⟩))) rfl (Or.inl ⟨by rfl, fun w' hs => by go_simp⟩) S0.out ?_
  change wpAnyH _ _ _ _ _ _ _ (Act.put _ (some 6) _) _
  simp only [Act.put, zT, zZ, zS]
  refine wpTk (i := 2) (v := (.slice a1 n1 c1)) rfl (Or.inl ⟨by rfl, fun w' hs => by have y := (Q.out.keep hs).cell 1 rfl; go_simp⟩) S0.out ?_
  change wpAnyH _ _ _ _ _ _ _ (Act.put _ (some 7) _) _
  simp only [Act.put, zT, zZ, zS]
  refine wpTk (i := 5) (v := (.pointer (some ⟨s, 2, none⟩))) rfl (Or.inl ⟨by rfl, fun w' hs => by go_simp⟩) S0.out ?_
  change wpAnyH _ _ _ _ _ _ _ (Act.put _ (some 10) _) _
  simp only [Act.put, zT, zZ, zS]
  refine wpTk (i := 6) (v := (.slice a2 n2 c2)) rfl (Or.inl ⟨by rfl, fun w' hs => by have y := (Q.out.keep hs).cell 2 rfl; go_simp⟩) S0.out ?_
  change wpAnyH _ _ _ _ _ _ _ (Act.put _ (some 11) _) _
  simp only [Act.put, zT, zZ, zS]
  refine wpTk (i := 9) (v := (.pointer (some ⟨s, 3, none⟩))) rfl (Or.inl ⟨by rfl, fun w' hs => by go_simp⟩) S0.out ?_
  change wpAnyH _ _ _ _ _ _ _ (Act.put _ (some 14) _) _
  simp only [Act.put, zT, zZ, zS]
  refine wpTk (i := 10) (v := (.slice a3 n3 c3)) rfl (Or.inl ⟨by rfl, fun w' hs => by have y := (Q.out.keep hs).cell 3 rfl; go_simp⟩) S0.out ?_
  change wpAnyH _ _ _ _ _ _ _ (Act.put _ (some 15) _) _
  simp only [Act.put, zT, zZ, zS]
  refine wpAnyH_name (fun G HG => ?_)
  have st22211 : ∀ (u : World) (gL : Nat) (lL : Option Addr) (kL : Nat) (gB : Nat) (lB : Option Addr) (kB : Nat) (gS : Nat) (lS : Option Addr) (kS : Nat) (q : Nat), (Below W.heap.size W u) → (Ls 125 u W.heap.size (.slice lL n1 kL) P.lanes) → (Prs 129 u W.heap.size (.slice lB n2 kB) P.bells) → (Prs 123 u W.heap.size (.slice lS n3 kS) P.plan) → (Vb u q #[.slice none 0 0, .slice none 0 0, .slice none 0 0, .slice none 0 0] 37 ∧ W.heap.size ≤ q) → G 1 #[true, true, true, true, true, true, true, true, true, true, true, true, true, true, false] { tmps := #[.agg #[.slice a0 n0 c0, .slice a1 n1 c1, .slice a2 n2 c2, .slice a3 n3 c3], .pointer (some ⟨s, 0, none⟩), .pointer (some ⟨s + 1, 0, none⟩), .pointer (some ⟨q, 0, none⟩), undef, .slice (some ⟨gL, 0, none⟩) 0 0, .pointer (some ⟨s, 1, none⟩), .slice a1 n1 c1, .slice lL n1 kL, .slice (some ⟨gB, 0, none⟩) 0 0, .pointer (some ⟨s, 2, none⟩), .slice a2 n2 c2, .slice lB n2 kB, .slice (some ⟨gS, 0, none⟩) 0 0, .pointer (some ⟨s, 3, none⟩), .slice a3 n3 c3, .slice lS n3 kS, .agg #[.slice none 0 0, .slice lL n1 kL, .slice lB n2 kB, .slice lS n3 kS], undef, undef, undef, undef, undef, undef, undef, undef, undef, undef, undef, undef, undef, undef, undef, undef, undef, undef, undef, undef], defers := [] } u := by
    intro u gL lL kL gB lB kB gS lS kS q hSU hFL hFB hFS hFA
    have SU : Hid (Below W.heap.size W u) := hSU
    have FL : Hid (Ls 125 u W.heap.size (.slice lL n1 kL) P.lanes) := hFL
    have FB : Hid (Prs 129 u W.heap.size (.slice lB n2 kB) P.bells) := hFB
    have FS : Hid (Prs 123 u W.heap.size (.slice lS n3 kS) P.plan) := hFS
    have FA : Hid (Vb u q #[.slice none 0 0, .slice none 0 0, .slice none 0 0, .slice none 0 0] 37 ∧ W.heap.size ≤ q) := hFA
    clear hSU hFL hFB hFS hFA
    rw [HG.out]
    refine zR 14 rfl fun K hK => ?_
    rw [if_pos (by rfl)]
    refine wp_store_mid 37 (.tmp 3) (.tmp 17) rfl q 0 #[.slice none 0 0, .slice lL n1 kL, .slice lB n2 kB, .slice lS n3 kS] rfl rfl (FA.out.1.there 4 (by decide)) (by kernel_rfl) (by simp [Value.oneCell']) ?_
    change K (Act.put _ none undef) _
    simp only [Act.put]
    have NR : Hid (Vb (u.setCells q 0 #[.slice none 0 0, .slice lL n1 kL, .slice lB n2 kB, .slice lS n3 kS].toList) q #[.slice none 0 0, .slice lL n1 kL, .slice lB n2 kB, .slice lS n3 kS] 37 ∧ Mq (fun k => k = q) u (u.setCells q 0 #[.slice none 0 0, .slice lL n1 kL, .slice lB n2 kB, .slice lS n3 kS].toList)) := fourX FA.out.1 _ _ _ _
    have NE : ∀ (v : Value) (base sz n : Nat) (e : TypeId) (xs : List Value), u.ownsRow base e sz v n xs → e ≠ 37 → (u.setCells q 0 #[.slice none 0 0, .slice lL n1 kL, .slice lB n2 kB, .slice lS n3 kS].toList).ownsRow base e sz v n xs := fun v base sz n e xs hr hne => row_mqX hr NR.out.2 fun k ek f => by subst f; exact row_ne_vb hr FA.out.1 hne ek
    have NL : Hid (Ls 125 (u.setCells q 0 #[.slice none 0 0, .slice lL n1 kL, .slice lB n2 kB, .slice lS n3 kS].toList) W.heap.size (.slice lL n1 kL) P.lanes) := NE _ _ _ _ _ _ FL.out (by decide)
    have NB : Hid (Prs 129 (u.setCells q 0 #[.slice none 0 0, .slice lL n1 kL, .slice lB n2 kB, .slice lS n3 kS].toList) W.heap.size (.slice lB n2 kB) P.bells) := NE _ _ _ _ _ _ FB.out (by decide)
    have NS : Hid (Prs 123 (u.setCells q 0 #[.slice none 0 0, .slice lL n1 kL, .slice lB n2 kB, .slice lS n3 kS].toList) W.heap.size (.slice lS n3 kS) P.plan) := NE _ _ _ _ _ _ FS.out (by decide)
    have NU : Hid (Below W.heap.size W (u.setCells q 0 #[.slice none 0 0, .slice lL n1 kL, .slice lB n2 kB, .slice lS n3 kS].toList)) := Mq.under SU.out NR.out.2 fun k e => by have := FA.out.2; omega
    generalize u.setCells q 0 #[.slice none 0 0, .slice lL n1 kL, .slice lB n2 kB, .slice lS n3 kS].toList = V at *
    clear NE
    refine hK.out _ _ NU.out (fun _ => ?_)
    clear hK K FL FB FS SU
    refine wpAnyH_done (by kernel_rfl) ?_ _
    have QB : Hid (W.heap.size ≤ q ∧ q < V.heap.size) := ⟨FA.out.2, NR.out.1.lt⟩
    clear FA
    go_wp2_with fail
    go_loopw [4] (fun c wr => ∃ (j : Nat) (v : Value) (xs : List Value), j ≤ n0 ∧ c = .int .i64 (j : Int) ∧ xs.length = j ∧ Vb wr q #[v, .slice lL n1 kL, .slice lB n2 kB, .slice lS n3 kS] 37 ∧ wr.ownsRow V.heap.size 28 1 v xs.length xs ∧ (∀ (i : Nat) (x : Value), xs[i]? = some x → Nums wr V.heap.size x (P.own.getD i [])) ∧ Ls 125 wr W.heap.size (.slice lL n1 kL) P.lanes ∧ Prs 129 wr W.heap.size (.slice lB n2 kB) P.bells ∧ Prs 123 wr W.heap.size (.slice lS n3 kS) P.plan ∧ Below W.heap.size W wr ∧ V.heap.size ≤ wr.heap.size) (fun c _ => n0 - (intOf c).toNat)
    case atStart => exact ⟨0, .slice none 0 0, [], Nat.zero_le _, rfl, rfl, NR.out.1, World.ownsRow_nil _ _ _ _, fun i x e => by simp at e, NL.out, NB.out, NS.out, NU.out, Nat.le_refl _⟩
    case round =>
      obtain ⟨j, v, xs, hj, rfl, hx, hV, hO, hR, hL, hBl, hSl, hB, hZ⟩ := hrel
      obtain ⟨va, vc, hv⟩ := row_shape hO
      rw [hx] at hv
      subst hv
      have HV : Hid (Vb wr q #[.slice va j vc, .slice lL n1 kL, .slice lB n2 kB, .slice lS n3 kS] 37) := hV
      have HO : Hid (wr.ownsRow V.heap.size 28 1 (.slice va j vc) xs.length xs) := hO
      have HR : Hid ((∀ (i : Nat) (x : Value), xs[i]? = some x → Nums wr V.heap.size x (P.own.getD i [])) ∧ xs.length = j) := ⟨hR, hx⟩
      have HL3 : Hid (Ls 125 wr W.heap.size (.slice lL n1 kL) P.lanes ∧ Prs 129 wr W.heap.size (.slice lB n2 kB) P.bells ∧ Prs 123 wr W.heap.size (.slice lS n3 kS) P.plan) := ⟨hL, hBl, hSl⟩
      have HB : Hid (Below W.heap.size W wr ∧ V.heap.size ≤ wr.heap.size) := ⟨hB, hZ⟩
      clear hV hO hR hL hBl hSl hx
      have w0 := (Q.out.keep hB).cell 0 rfl
      by_cases hlt : j < n0
      · have hI : (j : Int) < (n0 : Int) := by omega
        have HLT : Hid (j < n0) := hlt
        obtain ⟨x, rb, rl, rc, e0, k1, k2⟩ := (D.out.own.stay hB).at j hlt
        subst e0
        have KR : Hid (Rn wr rb rl rc (P.own.getD j [])) := k2
        have KL : Hid (rl ≤ 1048576) := by show _ ≤ _; rw [k2.len]; exact SMP.out.each j hlt
        have KX : Hid (wr.cell? (x.add j) = some (.slice rb rl rc) ∧ (x.add j).block < W.heap.size) := ⟨k1, by
          obtain ⟨x', _, _, _, e, k3, _⟩ := D.out.own.at j hlt
          cases e
          exact block_of_cell k3⟩
        clear hlt hB hj k1 k2
        have SD : Hid (Mq (fun k => V.heap.size ≤ k ∨ k = q) wr wr.drew) := ⟨rfl, rfl, rfl, Nat.le_refl _, fun _ _ _ => rfl⟩
        have QL : Hid (∀ w', Mq (fun k => V.heap.size ≤ k ∨ k = q) wr w' → w'.cell? ⟨s, 0, none⟩ = some (.slice (some x) n0 c0) ∧ w'.cell? (x.add j) = some (.slice rb rl rc)) := fun w' hs => ⟨((hs.vb (Q.out.keep HB.out.1) (by have := QB.out; have := ZW.out; omega)).cell 0 rfl), mq_cellX hs KX.out.1 (by have := KX.out.2; have := QB.out; omega)⟩
        go_wp2_with fail
        refine wp_region_held (S := fun w' => Mq (fun k => V.heap.size ≤ k ∨ k = q) wr w') (by kernel_rfl) ?_
        change wpAnyH _ _ _ _ _ _ _ _ (World.drew _)
        have SB : Hid (Below wr.heap.size wr wr.drew) := (Below.refl _ _).drew
        generalize wr.drew = v0 at *
        refine wpTk (i := 0) (v := (.pointer (some ⟨q, 0, none⟩))) rfl (Or.inl ⟨by rfl, fun w' hs => by go_simp⟩) SD.out ?_
        change wpAnyH _ _ _ _ _ _ _ (Act.put _ (some 25) _) _
        simp only [Act.put, zT, zZ, zS]
        refine wpTk (i := 3) (v := (.pointer (some ⟨s, 0, none⟩))) rfl (Or.inl ⟨by rfl, fun w' hs => by go_simp⟩) SD.out ?_
        change wpAnyH _ _ _ _ _ _ _ (Act.put _ (some 28) _) _
        simp only [Act.put, zT, zZ, zS]
        refine wpTk (i := 4) (v := (.slice (some x) n0 c0)) rfl (Or.inl ⟨by rfl, fun w' hs => by have y := (QL.out w' hs).1; go_simp⟩) SD.out ?_
        change wpAnyH _ _ _ _ _ _ _ (Act.put _ (some 29) _) _
        simp only [Act.put, zT, zZ, zS]
        refine wpTk (i := 5) (v := (.int .i64 (j : Int))) rfl (Or.inl ⟨by rfl, fun w' hs => by go_simp⟩) SD.out ?_
        change wpAnyH _ _ _ _ _ _ _ (Act.put _ (some 30) _) _
        simp only [Act.put, zT, zZ, zS]
        refine wpTk (i := 6) (v := (.pointer (some (x.add j)))) rfl (Or.inl ⟨by rfl, fun w' hs => by have y := (QL.out w' hs).2; go_simp⟩) SD.out ?_
        change wpAnyH _ _ _ _ _ _ _ (Act.put _ (some 31) _) _
        simp only [Act.put, zT, zZ, zS]
        refine wpTk (i := 7) (v := (.slice rb rl rc)) rfl (Or.inl ⟨by rfl, fun w' hs => by have y := (QL.out w' hs).2; go_simp⟩) SD.out ?_
        change wpAnyH _ _ _ _ _ _ _ (Act.put _ (some 32) _) _
        simp only [Act.put, zT, zZ, zS]
        have BU : Hid (Below wr.heap.size wr v0) := SB.out
        have MU : Hid (Mq (fun k => V.heap.size ≤ k ∨ k = q) wr v0) := SD.out
        refine wpAnyH_ready (rs := [1, 2]) (by kernel_rfl) (by simp) ?_
        refine AllReadyH.cons rfl (fun K hK => ?_) (AllReadyH.cons rfl (fun K hK => ?_) AllReadyH.nil)
        · skip
          rw [if_pos (by rfl)]
          have y := (HV.out.keep BU.out).cell 0 rfl
          go_simp
          clear y
          refine hK.out _ _ MU.out (fun _ => ?_)
          clear hK K
          refine zR 2 rfl fun K hK => ?_
          rw [if_pos (by rfl)]
          go_simp
          have bq : Below v0.heap.size v0 (v0.alloc (.cells #[] 2)) := al (Below.refl _ _) _
          have E0 : Hid (Nums (v0.alloc (.cells #[] 2)) v0.heap.size (.slice (some ⟨v0.heap.size, 0, none⟩) 0 0) []) := World.ownsRow_lit v0 #[] 0 (Nat.le_refl _) (by decide) rfl
          replace BU : Hid (Below wr.heap.size wr (v0.alloc (.cells #[] 2))) := on BU.out bq
          obtain ⟨ge, hge⟩ : ∃ g, v0.heap.size = g := ⟨_, rfl⟩
          have GE : Hid (wr.heap.size ≤ ge) := by show _ ≤ _; rw [← hge]; exact MU.out.size
          rw [hge] at E0 ⊢
          generalize v0.alloc (.cells #[] 2) = u1 at *
          clear bq hge
          replace MU : Hid (Mq (fun k => V.heap.size ≤ k ∨ k = q) wr u1) := mq_belowX BU.out
          refine hK.out _ _ MU.out (fun _ => ?_)
          clear hK K
          refine zR 8 rfl fun K hK => ?_
          refine step_appN rfl (.tmp 27) (.tmp 32) rfl ge ge rfl E0.out rb rl rc (P.own.getD j []) rfl (KR.out.stay BU.out) (by have := KL.out; omega) (by have := (E0.out.lt ge rfl).2; omega) ?_
          intro la lk u2 hN2 hG2
          change K (Act.put _ (some 33) _) _
          simp only [Act.put, zT, zZ, zS]
          replace BU : Hid (Below wr.heap.size wr u2) := BU.out.grown hG2 BU.out.size (fun k e => by have e : ge = k := (by simpa using e); have := GE.out; omega)
          have N2 : Hid (Nums u2 ge (.slice la rl lk) (P.own.getD j [])) := hN2
          replace MU : Hid (Mq (fun k => V.heap.size ≤ k ∨ k = q) wr u2) := mq_belowX BU.out
          clear hN2 hG2 E0
          refine hK.out _ _ MU.out (fun _ => ?_)
          clear hK K
          refine zR 9 rfl fun K hK => ?_
          rw [if_pos (by rfl)]
          go_simp
          have bq : Below u2.heap.size u2 (u2.alloc (.cells #[.slice la rl lk] 28)) := al (Below.refl _ _) _
          have C3 : Hid ((u2.alloc (.cells #[.slice la rl lk] 28)).cell? ⟨u2.heap.size, 0, none⟩ = some (.slice la rl lk)) := cell_new rfl
          replace BU : Hid (Below wr.heap.size wr (u2.alloc (.cells #[.slice la rl lk] 28))) := on BU.out bq
          have N3 : Hid (Nums (u2.alloc (.cells #[.slice la rl lk] 28)) ge (.slice la rl lk) (P.own.getD j [])) := N2.out.keep bq
          obtain ⟨gf, hgf⟩ : ∃ g, u2.heap.size = g := ⟨_, rfl⟩
          rw [hgf] at C3 ⊢
          generalize u2.alloc (.cells #[.slice la rl lk] 28) = u3 at *
          clear bq hgf N2
          replace MU : Hid (Mq (fun k => V.heap.size ≤ k ∨ k = q) wr u3) := mq_belowX BU.out
          refine hK.out _ _ MU.out (fun _ => ?_)
          clear hK K
          refine zR 10 rfl fun K hK => ?_
          refine step_rowsX rfl (.tmp 26) (.tmp 34) rfl V.heap.size (.slice va j vc) xs rfl (row_keepX HO.out BU.out) gf (.slice la rl lk) rfl C3.out rfl j HR.out.2 (by have := HLT.out; have := SMP.out.own; omega) (Nat.le_trans HB.out.2 BU.out.size) ?_
          intro wa wc u4 hO4 hG4
          change K (Act.put _ (some 35) _) _
          simp only [Act.put, zT, zZ, zS]
          have KY : Ky (some 28) u3 u4 := ky_row (row_keepX HO.out BU.out) hG4
          have M4 : Hid (Mq (fun k => V.heap.size ≤ k ∨ k = q) wr u4) := (mq_belowX BU.out).trans (Mq.of hG4 fun k e => .inl (World.ownsRow.lt HO.out k e.symm).1)
          have O4 : Hid (u4.ownsRow V.heap.size 28 1 (.slice wa (j + 1) wc) (xs ++ [Value.slice la rl lk]).length (xs ++ [Value.slice la rl lk])) := hO4
          have V4' : Hid (Vb u4 q #[.slice va j vc, .slice lL n1 kL, .slice lB n2 kB, .slice lS n3 kS] 37) := KY.vb (HV.out.keep BU.out) (by decide)
          have R4 : Hid (∀ (i : Nat) (x : Value), (xs ++ [Value.slice la rl lk])[i]? = some x → Nums u4 V.heap.size x (P.own.getD i [])) := fun i x e => by
            by_cases hi : i < xs.length
            · rw [List.getElem?_append_left hi] at e
              exact KY.row ((HR.out.1 i x e).keep BU.out) (by decide)
            · rw [List.getElem?_append_right (by omega)] at e
              have hi0 : i - xs.length = 0 := by
                rcases Nat.eq_zero_or_pos (i - xs.length) with h0 | h0
                · exact h0
                · rw [List.getElem?_eq_none (by simp; omega)] at e; cases e
              rw [hi0] at e
              cases e
              have hij : i = j := by have := HR.out.2; omega
              subst hij
              exact KY.row (N3.out.mono (Nat.le_trans HB.out.2 GE.out)) (by decide)
          have L4 : Hid (Ls 125 u4 W.heap.size (.slice lL n1 kL) P.lanes ∧ Prs 129 u4 W.heap.size (.slice lB n2 kB) P.bells ∧ Prs 123 u4 W.heap.size (.slice lS n3 kS) P.plan) := ⟨KY.row (row_keepX HL3.out.1 BU.out) (by decide), KY.row (row_keepX HL3.out.2.1 BU.out) (by decide), KY.row (row_keepX HL3.out.2.2 BU.out) (by decide)⟩
          have XL : Hid ((xs ++ [Value.slice la rl lk]).length = j + 1) := by show _ = _; rw [List.length_append, HR.out.2]; rfl
          clear hO4 hG4 KY
          refine hK.out _ _ M4.out (fun _ => ?_)
          clear hK K
          refine wpTk (i := 11) (v := (.pointer (some ⟨q, 0, none⟩))) rfl (Or.inl ⟨by rfl, fun w' hs => by go_simp⟩) M4.out ?_
          change wpAnyH _ _ _ _ _ _ _ (Act.put _ (some 36) _) _
          simp only [Act.put, zT, zZ, zS]
          refine zR 12 rfl fun K hK => ?_
          rw [if_pos (by rfl)]
          have y0 := V4'.out.cell 0 rfl
          have f0 := V4'.out.free 0
          have lt := V4'.out.lt
          go_simp
          clear y0 f0 lt
          have V5 : Hid (Vb (u4.setCell ⟨q, 0, none⟩ (.slice wa (j + 1) wc)) q #[.slice wa (j + 1) wc, .slice lL n1 kL, .slice lB n2 kB, .slice lS n3 kS] 37) := V4'.out.set 0 _
          have M5 : Hid (Mq (fun k => k = q) u4 (u4.setCell ⟨q, 0, none⟩ (.slice wa (j + 1) wc))) := (Mq.refl _ _).set _ _ rfl
          have NE : ∀ (v : Value) (base sz n : Nat) (e : TypeId) (xs : List Value), u4.ownsRow base e sz v n xs → e ≠ 37 → (u4.setCell ⟨q, 0, none⟩ (.slice wa (j + 1) wc)).ownsRow base e sz v n xs := fun v base sz n e xs hr hne => row_mqX hr M5.out fun k ek f => by subst f; exact row_ne_vb hr V4'.out hne ek
          have O5 := NE _ _ _ _ _ _ O4.out (by decide)
          have R5 : Hid (∀ (i : Nat) (x : Value), (xs ++ [Value.slice la rl lk])[i]? = some x → Nums (u4.setCell ⟨q, 0, none⟩ (.slice wa (j + 1) wc)) V.heap.size x (P.own.getD i [])) := fun i x e => NE _ _ _ _ _ _ (R4.out i x e) (by decide)
          have L5 : Hid (Ls 125 (u4.setCell ⟨q, 0, none⟩ (.slice wa (j + 1) wc)) W.heap.size (.slice lL n1 kL) P.lanes ∧ Prs 129 (u4.setCell ⟨q, 0, none⟩ (.slice wa (j + 1) wc)) W.heap.size (.slice lB n2 kB) P.bells ∧ Prs 123 (u4.setCell ⟨q, 0, none⟩ (.slice wa (j + 1) wc)) W.heap.size (.slice lS n3 kS) P.plan) := ⟨NE _ _ _ _ _ _ L4.out.1 (by decide), NE _ _ _ _ _ _ L4.out.2.1 (by decide), NE _ _ _ _ _ _ L4.out.2.2 (by decide)⟩
          have M6 : Hid (Mq (fun k => V.heap.size ≤ k ∨ k = q) wr (u4.setCell ⟨q, 0, none⟩ (.slice wa (j + 1) wc))) := M4.out.set _ _ (.inr rfl)
          generalize u4.setCell ⟨q, 0, none⟩ (.slice wa (j + 1) wc) = u5 at *
          have O5' : Hid _ := O5
          clear NE O5
          refine hK.out _ _ M6.out (fun _ => ?_)
          clear hK K
          refine wpAnyH_done (by kernel_rfl) ?_ _
          have B5 : Hid (Below W.heap.size W u5) := Mq.under HB.out.1 M6.out fun k e => by have := QB.out; omega
          have Z5 : Hid (V.heap.size ≤ u5.heap.size) := Nat.le_trans HB.out.2 M6.out.size
          clear w0
          go_wp2_with fail
          go_roundw
          case rel => exact ⟨j + 1, _, _, by have := HLT.out; omega, by go_num, XL.out, V5.out, O5'.out, R5.out, L5.out.1, L5.out.2.1, L5.out.2.2, B5.out, Z5.out⟩
          case measure => have := HLT.out; simp [intOf]; omega
        · skip
          rw [if_pos (by rfl)]
          go_simp
          have bq : Below v0.heap.size v0 (v0.alloc (.cells #[] 2)) := al (Below.refl _ _) _
          have E0 : Hid (Nums (v0.alloc (.cells #[] 2)) v0.heap.size (.slice (some ⟨v0.heap.size, 0, none⟩) 0 0) []) := World.ownsRow_lit v0 #[] 0 (Nat.le_refl _) (by decide) rfl
          replace BU : Hid (Below wr.heap.size wr (v0.alloc (.cells #[] 2))) := on BU.out bq
          obtain ⟨ge, hge⟩ : ∃ g, v0.heap.size = g := ⟨_, rfl⟩
          have GE : Hid (wr.heap.size ≤ ge) := by show _ ≤ _; rw [← hge]; exact MU.out.size
          rw [hge] at E0 ⊢
          generalize v0.alloc (.cells #[] 2) = u1 at *
          clear bq hge
          replace MU : Hid (Mq (fun k => V.heap.size ≤ k ∨ k = q) wr u1) := mq_belowX BU.out
          refine hK.out _ _ MU.out (fun _ => ?_)
          clear hK K
          refine wpAnyH_ready (rs := [1, 8]) (by kernel_rfl) (by simp) ?_
          refine AllReadyH.cons rfl (fun K hK => ?_) (AllReadyH.cons rfl (fun K hK => ?_) AllReadyH.nil)
          · skip
            rw [if_pos (by rfl)]
            have y := (HV.out.keep BU.out).cell 0 rfl
            go_simp
            clear y
            refine hK.out _ _ MU.out (fun _ => ?_)
            clear hK K
            refine zR 8 rfl fun K hK => ?_
            refine step_appN rfl (.tmp 27) (.tmp 32) rfl ge ge rfl E0.out rb rl rc (P.own.getD j []) rfl (KR.out.stay BU.out) (by have := KL.out; omega) (by have := (E0.out.lt ge rfl).2; omega) ?_
            intro la lk u2 hN2 hG2
            change K (Act.put _ (some 33) _) _
            simp only [Act.put, zT, zZ, zS]
            replace BU : Hid (Below wr.heap.size wr u2) := BU.out.grown hG2 BU.out.size (fun k e => by have e : ge = k := (by simpa using e); have := GE.out; omega)
            have N2 : Hid (Nums u2 ge (.slice la rl lk) (P.own.getD j [])) := hN2
            replace MU : Hid (Mq (fun k => V.heap.size ≤ k ∨ k = q) wr u2) := mq_belowX BU.out
            clear hN2 hG2 E0
            refine hK.out _ _ MU.out (fun _ => ?_)
            clear hK K
            refine zR 9 rfl fun K hK => ?_
            rw [if_pos (by rfl)]
            go_simp
            have bq : Below u2.heap.size u2 (u2.alloc (.cells #[.slice la rl lk] 28)) := al (Below.refl _ _) _
            have C3 : Hid ((u2.alloc (.cells #[.slice la rl lk] 28)).cell? ⟨u2.heap.size, 0, none⟩ = some (.slice la rl lk)) := cell_new rfl
            replace BU : Hid (Below wr.heap.size wr (u2.alloc (.cells #[.slice la rl lk] 28))) := on BU.out bq
            have N3 : Hid (Nums (u2.alloc (.cells #[.slice la rl lk] 28)) ge (.slice la rl lk) (P.own.getD j [])) := N2.out.keep bq
            obtain ⟨gf, hgf⟩ : ∃ g, u2.heap.size = g := ⟨_, rfl⟩
            rw [hgf] at C3 ⊢
            generalize u2.alloc (.cells #[.slice la rl lk] 28) = u3 at *
            clear bq hgf N2
            replace MU : Hid (Mq (fun k => V.heap.size ≤ k ∨ k = q) wr u3) := mq_belowX BU.out
            refine hK.out _ _ MU.out (fun _ => ?_)
            clear hK K
            refine zR 10 rfl fun K hK => ?_
            refine step_rowsX rfl (.tmp 26) (.tmp 34) rfl V.heap.size (.slice va j vc) xs rfl (row_keepX HO.out BU.out) gf (.slice la rl lk) rfl C3.out rfl j HR.out.2 (by have := HLT.out; have := SMP.out.own; omega) (Nat.le_trans HB.out.2 BU.out.size) ?_
            intro wa wc u4 hO4 hG4
            change K (Act.put _ (some 35) _) _
            simp only [Act.put, zT, zZ, zS]
            have KY : Ky (some 28) u3 u4 := ky_row (row_keepX HO.out BU.out) hG4
            have M4 : Hid (Mq (fun k => V.heap.size ≤ k ∨ k = q) wr u4) := (mq_belowX BU.out).trans (Mq.of hG4 fun k e => .inl (World.ownsRow.lt HO.out k e.symm).1)
            have O4 : Hid (u4.ownsRow V.heap.size 28 1 (.slice wa (j + 1) wc) (xs ++ [Value.slice la rl lk]).length (xs ++ [Value.slice la rl lk])) := hO4
            have V4' : Hid (Vb u4 q #[.slice va j vc, .slice lL n1 kL, .slice lB n2 kB, .slice lS n3 kS] 37) := KY.vb (HV.out.keep BU.out) (by decide)
            have R4 : Hid (∀ (i : Nat) (x : Value), (xs ++ [Value.slice la rl lk])[i]? = some x → Nums u4 V.heap.size x (P.own.getD i [])) := fun i x e => by
              by_cases hi : i < xs.length
              · rw [List.getElem?_append_left hi] at e
                exact KY.row ((HR.out.1 i x e).keep BU.out) (by decide)
              · rw [List.getElem?_append_right (by omega)] at e
                have hi0 : i - xs.length = 0 := by
                  rcases Nat.eq_zero_or_pos (i - xs.length) with h0 | h0
                  · exact h0
                  · rw [List.getElem?_eq_none (by simp; omega)] at e; cases e
                rw [hi0] at e
                cases e
                have hij : i = j := by have := HR.out.2; omega
                subst hij
                exact KY.row (N3.out.mono (Nat.le_trans HB.out.2 GE.out)) (by decide)
            have L4 : Hid (Ls 125 u4 W.heap.size (.slice lL n1 kL) P.lanes ∧ Prs 129 u4 W.heap.size (.slice lB n2 kB) P.bells ∧ Prs 123 u4 W.heap.size (.slice lS n3 kS) P.plan) := ⟨KY.row (row_keepX HL3.out.1 BU.out) (by decide), KY.row (row_keepX HL3.out.2.1 BU.out) (by decide), KY.row (row_keepX HL3.out.2.2 BU.out) (by decide)⟩
            have XL : Hid ((xs ++ [Value.slice la rl lk]).length = j + 1) := by show _ = _; rw [List.length_append, HR.out.2]; rfl
            clear hO4 hG4 KY
            refine hK.out _ _ M4.out (fun _ => ?_)
            clear hK K
            refine wpTk (i := 11) (v := (.pointer (some ⟨q, 0, none⟩))) rfl (Or.inl ⟨by rfl, fun w' hs => by go_simp⟩) M4.out ?_
            change wpAnyH _ _ _ _ _ _ _ (Act.put _ (some 36) _) _
            simp only [Act.put, zT, zZ, zS]
            refine zR 12 rfl fun K hK => ?_
            rw [if_pos (by rfl)]
            have y0 := V4'.out.cell 0 rfl
            have f0 := V4'.out.free 0
            have lt := V4'.out.lt
            go_simp
            clear y0 f0 lt
            have V5 : Hid (Vb (u4.setCell ⟨q, 0, none⟩ (.slice wa (j + 1) wc)) q #[.slice wa (j + 1) wc, .slice lL n1 kL, .slice lB n2 kB, .slice lS n3 kS] 37) := V4'.out.set 0 _
            have M5 : Hid (Mq (fun k => k = q) u4 (u4.setCell ⟨q, 0, none⟩ (.slice wa (j + 1) wc))) := (Mq.refl _ _).set _ _ rfl
            have NE : ∀ (v : Value) (base sz n : Nat) (e : TypeId) (xs : List Value), u4.ownsRow base e sz v n xs → e ≠ 37 → (u4.setCell ⟨q, 0, none⟩ (.slice wa (j + 1) wc)).ownsRow base e sz v n xs := fun v base sz n e xs hr hne => row_mqX hr M5.out fun k ek f => by subst f; exact row_ne_vb hr V4'.out hne ek
            have O5 := NE _ _ _ _ _ _ O4.out (by decide)
            have R5 : Hid (∀ (i : Nat) (x : Value), (xs ++ [Value.slice la rl lk])[i]? = some x → Nums (u4.setCell ⟨q, 0, none⟩ (.slice wa (j + 1) wc)) V.heap.size x (P.own.getD i [])) := fun i x e => NE _ _ _ _ _ _ (R4.out i x e) (by decide)
            have L5 : Hid (Ls 125 (u4.setCell ⟨q, 0, none⟩ (.slice wa (j + 1) wc)) W.heap.size (.slice lL n1 kL) P.lanes ∧ Prs 129 (u4.setCell ⟨q, 0, none⟩ (.slice wa (j + 1) wc)) W.heap.size (.slice lB n2 kB) P.bells ∧ Prs 123 (u4.setCell ⟨q, 0, none⟩ (.slice wa (j + 1) wc)) W.heap.size (.slice lS n3 kS) P.plan) := ⟨NE _ _ _ _ _ _ L4.out.1 (by decide), NE _ _ _ _ _ _ L4.out.2.1 (by decide), NE _ _ _ _ _ _ L4.out.2.2 (by decide)⟩
            have M6 : Hid (Mq (fun k => V.heap.size ≤ k ∨ k = q) wr (u4.setCell ⟨q, 0, none⟩ (.slice wa (j + 1) wc))) := M4.out.set _ _ (.inr rfl)
            generalize u4.setCell ⟨q, 0, none⟩ (.slice wa (j + 1) wc) = u5 at *
            have O5' : Hid _ := O5
            clear NE O5
            refine hK.out _ _ M6.out (fun _ => ?_)
            clear hK K
            refine wpAnyH_done (by kernel_rfl) ?_ _
            have B5 : Hid (Below W.heap.size W u5) := Mq.under HB.out.1 M6.out fun k e => by have := QB.out; omega
            have Z5 : Hid (V.heap.size ≤ u5.heap.size) := Nat.le_trans HB.out.2 M6.out.size
            clear w0
            go_wp2_with fail
            go_roundw
            case rel => exact ⟨j + 1, _, _, by have := HLT.out; omega, by go_num, XL.out, V5.out, O5'.out, R5.out, L5.out.1, L5.out.2.1, L5.out.2.2, B5.out, Z5.out⟩
            case measure => have := HLT.out; simp [intOf]; omega
          · skip
            refine step_appN rfl (.tmp 27) (.tmp 32) rfl ge ge rfl E0.out rb rl rc (P.own.getD j []) rfl (KR.out.stay BU.out) (by have := KL.out; omega) (by have := (E0.out.lt ge rfl).2; omega) ?_
            intro la lk u2 hN2 hG2
            change K (Act.put _ (some 33) _) _
            simp only [Act.put, zT, zZ, zS]
            replace BU : Hid (Below wr.heap.size wr u2) := BU.out.grown hG2 BU.out.size (fun k e => by have e : ge = k := (by simpa using e); have := GE.out; omega)
            have N2 : Hid (Nums u2 ge (.slice la rl lk) (P.own.getD j [])) := hN2
            replace MU : Hid (Mq (fun k => V.heap.size ≤ k ∨ k = q) wr u2) := mq_belowX BU.out
            clear hN2 hG2 E0
            refine hK.out _ _ MU.out (fun _ => ?_)
            clear hK K
            refine wpAnyH_ready (rs := [1, 9]) (by kernel_rfl) (by simp) ?_
            refine AllReadyH.cons rfl (fun K hK => ?_) (AllReadyH.cons rfl (fun K hK => ?_) AllReadyH.nil)
            · skip
              rw [if_pos (by rfl)]
              have y := (HV.out.keep BU.out).cell 0 rfl
              go_simp
              clear y
              refine hK.out _ _ MU.out (fun _ => ?_)
              clear hK K
              refine zR 9 rfl fun K hK => ?_
              rw [if_pos (by rfl)]
              go_simp
              have bq : Below u2.heap.size u2 (u2.alloc (.cells #[.slice la rl lk] 28)) := al (Below.refl _ _) _
              have C3 : Hid ((u2.alloc (.cells #[.slice la rl lk] 28)).cell? ⟨u2.heap.size, 0, none⟩ = some (.slice la rl lk)) := cell_new rfl
              replace BU : Hid (Below wr.heap.size wr (u2.alloc (.cells #[.slice la rl lk] 28))) := on BU.out bq
              have N3 : Hid (Nums (u2.alloc (.cells #[.slice la rl lk] 28)) ge (.slice la rl lk) (P.own.getD j [])) := N2.out.keep bq
              obtain ⟨gf, hgf⟩ : ∃ g, u2.heap.size = g := ⟨_, rfl⟩
              rw [hgf] at C3 ⊢
              generalize u2.alloc (.cells #[.slice la rl lk] 28) = u3 at *
              clear bq hgf N2
              replace MU : Hid (Mq (fun k => V.heap.size ≤ k ∨ k = q) wr u3) := mq_belowX BU.out
              refine hK.out _ _ MU.out (fun _ => ?_)
              clear hK K
              refine zR 10 rfl fun K hK => ?_
              refine step_rowsX rfl (.tmp 26) (.tmp 34) rfl V.heap.size (.slice va j vc) xs rfl (row_keepX HO.out BU.out) gf (.slice la rl lk) rfl C3.out rfl j HR.out.2 (by have := HLT.out; have := SMP.out.own; omega) (Nat.le_trans HB.out.2 BU.out.size) ?_
              intro wa wc u4 hO4 hG4
              change K (Act.put _ (some 35) _) _
              simp only [Act.put, zT, zZ, zS]
              have KY : Ky (some 28) u3 u4 := ky_row (row_keepX HO.out BU.out) hG4
              have M4 : Hid (Mq (fun k => V.heap.size ≤ k ∨ k = q) wr u4) := (mq_belowX BU.out).trans (Mq.of hG4 fun k e => .inl (World.ownsRow.lt HO.out k e.symm).1)
              have O4 : Hid (u4.ownsRow V.heap.size 28 1 (.slice wa (j + 1) wc) (xs ++ [Value.slice la rl lk]).length (xs ++ [Value.slice la rl lk])) := hO4
              have V4' : Hid (Vb u4 q #[.slice va j vc, .slice lL n1 kL, .slice lB n2 kB, .slice lS n3 kS] 37) := KY.vb (HV.out.keep BU.out) (by decide)
              have R4 : Hid (∀ (i : Nat) (x : Value), (xs ++ [Value.slice la rl lk])[i]? = some x → Nums u4 V.heap.size x (P.own.getD i [])) := fun i x e => by
                by_cases hi : i < xs.length
                · rw [List.getElem?_append_left hi] at e
                  exact KY.row ((HR.out.1 i x e).keep BU.out) (by decide)
                · rw [List.getElem?_append_right (by omega)] at e
                  have hi0 : i - xs.length = 0 := by
                    rcases Nat.eq_zero_or_pos (i - xs.length) with h0 | h0
                    · exact h0
                    · rw [List.getElem?_eq_none (by simp; omega)] at e; cases e
                  rw [hi0] at e
                  cases e
                  have hij : i = j := by have := HR.out.2; omega
                  subst hij
                  exact KY.row (N3.out.mono (Nat.le_trans HB.out.2 GE.out)) (by decide)
              have L4 : Hid (Ls 125 u4 W.heap.size (.slice lL n1 kL) P.lanes ∧ Prs 129 u4 W.heap.size (.slice lB n2 kB) P.bells ∧ Prs 123 u4 W.heap.size (.slice lS n3 kS) P.plan) := ⟨KY.row (row_keepX HL3.out.1 BU.out) (by decide), KY.row (row_keepX HL3.out.2.1 BU.out) (by decide), KY.row (row_keepX HL3.out.2.2 BU.out) (by decide)⟩
              have XL : Hid ((xs ++ [Value.slice la rl lk]).length = j + 1) := by show _ = _; rw [List.length_append, HR.out.2]; rfl
              clear hO4 hG4 KY
              refine hK.out _ _ M4.out (fun _ => ?_)
              clear hK K
              refine wpTk (i := 11) (v := (.pointer (some ⟨q, 0, none⟩))) rfl (Or.inl ⟨by rfl, fun w' hs => by go_simp⟩) M4.out ?_
              change wpAnyH _ _ _ _ _ _ _ (Act.put _ (some 36) _) _
              simp only [Act.put, zT, zZ, zS]
              refine zR 12 rfl fun K hK => ?_
              rw [if_pos (by rfl)]
              have y0 := V4'.out.cell 0 rfl
              have f0 := V4'.out.free 0
              have lt := V4'.out.lt
              go_simp
              clear y0 f0 lt
              have V5 : Hid (Vb (u4.setCell ⟨q, 0, none⟩ (.slice wa (j + 1) wc)) q #[.slice wa (j + 1) wc, .slice lL n1 kL, .slice lB n2 kB, .slice lS n3 kS] 37) := V4'.out.set 0 _
              have M5 : Hid (Mq (fun k => k = q) u4 (u4.setCell ⟨q, 0, none⟩ (.slice wa (j + 1) wc))) := (Mq.refl _ _).set _ _ rfl
              have NE : ∀ (v : Value) (base sz n : Nat) (e : TypeId) (xs : List Value), u4.ownsRow base e sz v n xs → e ≠ 37 → (u4.setCell ⟨q, 0, none⟩ (.slice wa (j + 1) wc)).ownsRow base e sz v n xs := fun v base sz n e xs hr hne => row_mqX hr M5.out fun k ek f => by subst f; exact row_ne_vb hr V4'.out hne ek
              have O5 := NE _ _ _ _ _ _ O4.out (by decide)
              have R5 : Hid (∀ (i : Nat) (x : Value), (xs ++ [Value.slice la rl lk])[i]? = some x → Nums (u4.setCell ⟨q, 0, none⟩ (.slice wa (j + 1) wc)) V.heap.size x (P.own.getD i [])) := fun i x e => NE _ _ _ _ _ _ (R4.out i x e) (by decide)
              have L5 : Hid (Ls 125 (u4.setCell ⟨q, 0, none⟩ (.slice wa (j + 1) wc)) W.heap.size (.slice lL n1 kL) P.lanes ∧ Prs 129 (u4.setCell ⟨q, 0, none⟩ (.slice wa (j + 1) wc)) W.heap.size (.slice lB n2 kB) P.bells ∧ Prs 123 (u4.setCell ⟨q, 0, none⟩ (.slice wa (j + 1) wc)) W.heap.size (.slice lS n3 kS) P.plan) := ⟨NE _ _ _ _ _ _ L4.out.1 (by decide), NE _ _ _ _ _ _ L4.out.2.1 (by decide), NE _ _ _ _ _ _ L4.out.2.2 (by decide)⟩
              have M6 : Hid (Mq (fun k => V.heap.size ≤ k ∨ k = q) wr (u4.setCell ⟨q, 0, none⟩ (.slice wa (j + 1) wc))) := M4.out.set _ _ (.inr rfl)
              generalize u4.setCell ⟨q, 0, none⟩ (.slice wa (j + 1) wc) = u5 at *
              have O5' : Hid _ := O5
              clear NE O5
              refine hK.out _ _ M6.out (fun _ => ?_)
              clear hK K
              refine wpAnyH_done (by kernel_rfl) ?_ _
              have B5 : Hid (Below W.heap.size W u5) := Mq.under HB.out.1 M6.out fun k e => by have := QB.out; omega
              have Z5 : Hid (V.heap.size ≤ u5.heap.size) := Nat.le_trans HB.out.2 M6.out.size
              clear w0
              go_wp2_with fail
              go_roundw
              case rel => exact ⟨j + 1, _, _, by have := HLT.out; omega, by go_num, XL.out, V5.out, O5'.out, R5.out, L5.out.1, L5.out.2.1, L5.out.2.2, B5.out, Z5.out⟩
              case measure => have := HLT.out; simp [intOf]; omega
            · skip
              rw [if_pos (by rfl)]
              go_simp
              have bq : Below u2.heap.size u2 (u2.alloc (.cells #[.slice la rl lk] 28)) := al (Below.refl _ _) _
              have C3 : Hid ((u2.alloc (.cells #[.slice la rl lk] 28)).cell? ⟨u2.heap.size, 0, none⟩ = some (.slice la rl lk)) := cell_new rfl
              replace BU : Hid (Below wr.heap.size wr (u2.alloc (.cells #[.slice la rl lk] 28))) := on BU.out bq
              have N3 : Hid (Nums (u2.alloc (.cells #[.slice la rl lk] 28)) ge (.slice la rl lk) (P.own.getD j [])) := N2.out.keep bq
              obtain ⟨gf, hgf⟩ : ∃ g, u2.heap.size = g := ⟨_, rfl⟩
              rw [hgf] at C3 ⊢
              generalize u2.alloc (.cells #[.slice la rl lk] 28) = u3 at *
              clear bq hgf N2
              replace MU : Hid (Mq (fun k => V.heap.size ≤ k ∨ k = q) wr u3) := mq_belowX BU.out
              refine hK.out _ _ MU.out (fun _ => ?_)
              clear hK K
              refine zR 1 rfl fun K hK => ?_
              rw [if_pos (by rfl)]
              have y := (HV.out.keep BU.out).cell 0 rfl
              go_simp
              clear y
              refine hK.out _ _ MU.out (fun _ => ?_)
              clear hK K
              refine zR 10 rfl fun K hK => ?_
              refine step_rowsX rfl (.tmp 26) (.tmp 34) rfl V.heap.size (.slice va j vc) xs rfl (row_keepX HO.out BU.out) gf (.slice la rl lk) rfl C3.out rfl j HR.out.2 (by have := HLT.out; have := SMP.out.own; omega) (Nat.le_trans HB.out.2 BU.out.size) ?_
              intro wa wc u4 hO4 hG4
              change K (Act.put _ (some 35) _) _
              simp only [Act.put, zT, zZ, zS]
              have KY : Ky (some 28) u3 u4 := ky_row (row_keepX HO.out BU.out) hG4
              have M4 : Hid (Mq (fun k => V.heap.size ≤ k ∨ k = q) wr u4) := (mq_belowX BU.out).trans (Mq.of hG4 fun k e => .inl (World.ownsRow.lt HO.out k e.symm).1)
              have O4 : Hid (u4.ownsRow V.heap.size 28 1 (.slice wa (j + 1) wc) (xs ++ [Value.slice la rl lk]).length (xs ++ [Value.slice la rl lk])) := hO4
              have V4' : Hid (Vb u4 q #[.slice va j vc, .slice lL n1 kL, .slice lB n2 kB, .slice lS n3 kS] 37) := KY.vb (HV.out.keep BU.out) (by decide)
              have R4 : Hid (∀ (i : Nat) (x : Value), (xs ++ [Value.slice la rl lk])[i]? = some x → Nums u4 V.heap.size x (P.own.getD i [])) := fun i x e => by
                by_cases hi : i < xs.length
                · rw [List.getElem?_append_left hi] at e
                  exact KY.row ((HR.out.1 i x e).keep BU.out) (by decide)
                · rw [List.getElem?_append_right (by omega)] at e
                  have hi0 : i - xs.length = 0 := by
                    rcases Nat.eq_zero_or_pos (i - xs.length) with h0 | h0
                    · exact h0
                    · rw [List.getElem?_eq_none (by simp; omega)] at e; cases e
                  rw [hi0] at e
                  cases e
                  have hij : i = j := by have := HR.out.2; omega
                  subst hij
                  exact KY.row (N3.out.mono (Nat.le_trans HB.out.2 GE.out)) (by decide)
              have L4 : Hid (Ls 125 u4 W.heap.size (.slice lL n1 kL) P.lanes ∧ Prs 129 u4 W.heap.size (.slice lB n2 kB) P.bells ∧ Prs 123 u4 W.heap.size (.slice lS n3 kS) P.plan) := ⟨KY.row (row_keepX HL3.out.1 BU.out) (by decide), KY.row (row_keepX HL3.out.2.1 BU.out) (by decide), KY.row (row_keepX HL3.out.2.2 BU.out) (by decide)⟩
              have XL : Hid ((xs ++ [Value.slice la rl lk]).length = j + 1) := by show _ = _; rw [List.length_append, HR.out.2]; rfl
              clear hO4 hG4 KY
              refine hK.out _ _ M4.out (fun _ => ?_)
              clear hK K
              refine wpTk (i := 11) (v := (.pointer (some ⟨q, 0, none⟩))) rfl (Or.inl ⟨by rfl, fun w' hs => by go_simp⟩) M4.out ?_
              change wpAnyH _ _ _ _ _ _ _ (Act.put _ (some 36) _) _
              simp only [Act.put, zT, zZ, zS]
              refine zR 12 rfl fun K hK => ?_
              rw [if_pos (by rfl)]
              have y0 := V4'.out.cell 0 rfl
              have f0 := V4'.out.free 0
              have lt := V4'.out.lt
              go_simp
              clear y0 f0 lt
              have V5 : Hid (Vb (u4.setCell ⟨q, 0, none⟩ (.slice wa (j + 1) wc)) q #[.slice wa (j + 1) wc, .slice lL n1 kL, .slice lB n2 kB, .slice lS n3 kS] 37) := V4'.out.set 0 _
              have M5 : Hid (Mq (fun k => k = q) u4 (u4.setCell ⟨q, 0, none⟩ (.slice wa (j + 1) wc))) := (Mq.refl _ _).set _ _ rfl
              have NE : ∀ (v : Value) (base sz n : Nat) (e : TypeId) (xs : List Value), u4.ownsRow base e sz v n xs → e ≠ 37 → (u4.setCell ⟨q, 0, none⟩ (.slice wa (j + 1) wc)).ownsRow base e sz v n xs := fun v base sz n e xs hr hne => row_mqX hr M5.out fun k ek f => by subst f; exact row_ne_vb hr V4'.out hne ek
              have O5 := NE _ _ _ _ _ _ O4.out (by decide)
              have R5 : Hid (∀ (i : Nat) (x : Value), (xs ++ [Value.slice la rl lk])[i]? = some x → Nums (u4.setCell ⟨q, 0, none⟩ (.slice wa (j + 1) wc)) V.heap.size x (P.own.getD i [])) := fun i x e => NE _ _ _ _ _ _ (R4.out i x e) (by decide)
              have L5 : Hid (Ls 125 (u4.setCell ⟨q, 0, none⟩ (.slice wa (j + 1) wc)) W.heap.size (.slice lL n1 kL) P.lanes ∧ Prs 129 (u4.setCell ⟨q, 0, none⟩ (.slice wa (j + 1) wc)) W.heap.size (.slice lB n2 kB) P.bells ∧ Prs 123 (u4.setCell ⟨q, 0, none⟩ (.slice wa (j + 1) wc)) W.heap.size (.slice lS n3 kS) P.plan) := ⟨NE _ _ _ _ _ _ L4.out.1 (by decide), NE _ _ _ _ _ _ L4.out.2.1 (by decide), NE _ _ _ _ _ _ L4.out.2.2 (by decide)⟩
              have M6 : Hid (Mq (fun k => V.heap.size ≤ k ∨ k = q) wr (u4.setCell ⟨q, 0, none⟩ (.slice wa (j + 1) wc))) := M4.out.set _ _ (.inr rfl)
              generalize u4.setCell ⟨q, 0, none⟩ (.slice wa (j + 1) wc) = u5 at *
              have O5' : Hid _ := O5
              clear NE O5
              refine hK.out _ _ M6.out (fun _ => ?_)
              clear hK K
              refine wpAnyH_done (by kernel_rfl) ?_ _
              have B5 : Hid (Below W.heap.size W u5) := Mq.under HB.out.1 M6.out fun k e => by have := QB.out; omega
              have Z5 : Hid (V.heap.size ≤ u5.heap.size) := Nat.le_trans HB.out.2 M6.out.size
              clear w0
              go_wp2_with fail
              go_roundw
              case rel => exact ⟨j + 1, _, _, by have := HLT.out; omega, by go_num, XL.out, V5.out, O5'.out, R5.out, L5.out.1, L5.out.2.1, L5.out.2.2, B5.out, Z5.out⟩
              case measure => have := HLT.out; simp [intOf]; omega
      · have hJ : ¬ (j : Int) < (n0 : Int) := by omega
        have JN : Hid (j = n0) := by show _ = _; omega
        have y0 := HV.out.cell 0 rfl
        have y1 := HV.out.cell 1 rfl
        have y2 := HV.out.cell 2 rfl
        have y3 := HV.out.cell 3 rfl
        have R9 : Hid (Vb wr (s + 1) #[.slice none 0 0, .slice none 0 0, .slice none 0 0, .slice none 0 0] 37) := R.out.keep HB.out.1
        have p0 := R9.out.cell 0 rfl
        have p1 := R9.out.cell 1 rfl
        have p2 := R9.out.cell 2 rfl
        have p3 := R9.out.cell 3 rfl
        have f0 := R9.out.free 0
        have f1 := R9.out.free 1
        have f2 := R9.out.free 2
        have f3 := R9.out.free 3
        have lt := R9.out.lt
        clear hlt hB hj
        go_wp2_with fail
        clear y0 y1 y2 y3 p0 p1 p2 p3 f0 f1 f2 f3 lt w0
        have NN : Hid (_ ∧ _) := fourY R9.out (.slice va j vc) (.slice lL n1 kL) (.slice lB n2 kB) (.slice lS n3 kS)
        have O9 : Hid (Ho (s + 2) wr ((((wr.setCell ⟨s + 1, 0, none⟩ (.slice va j vc)).setCell ⟨s + 1, 1, none⟩ (.slice lL n1 kL)).setCell ⟨s + 1, 2, none⟩ (.slice lB n2 kB)).setCell ⟨s + 1, 3, none⟩ (.slice lS n3 kS))) := NN.out.2.ho fun k e => by omega
        generalize ((((wr.setCell ⟨s + 1, 0, none⟩ (.slice va j vc)).setCell ⟨s + 1, 1, none⟩ (.slice lL n1 kL)).setCell ⟨s + 1, 2, none⟩ (.slice lB n2 kB)).setCell ⟨s + 1, 3, none⟩ (.slice lS n3 kS)) = W9 at *
        have x0 := NN.out.1.cell 0 rfl
        have x1 := NN.out.1.cell 1 rfl
        have x2 := NN.out.1.cell 2 rfl
        have x3 := NN.out.1.cell 3 rfl
        have z2 := ZW.out
        have QB' := QB.out
        have F : Hid (WqE W9 w.heap.size (.slice va j vc) (.slice lL n1 kL) (.slice lB n2 kB) (.slice lS n3 kS) P) := by
          have z4 := HSs.out
          have hvs : s + 2 ≤ V.heap.size := by omega
          refine ⟨⟨xs, by rw [HR.out.2, JN.out]; exact HN0.out, row_monoX (row_hoX (row_monoX HO.out hvs) O9.out) (by omega), fun i x e => (((HR.out.1 i x e).mono hvs).ho O9.out).mono (by omega)⟩, row_monoX (row_hoX (row_monoX HL3.out.1 (by omega)) O9.out) (by omega), row_monoX (row_hoX (row_monoX HL3.out.2.1 (by omega)) O9.out) (by omega), row_monoX (row_hoX (row_monoX HL3.out.2.2 (by omega)) O9.out) (by omega)⟩
        exact bodyPost_ret (v := .agg #[.slice va j vc, .slice lL n1 kL, .slice lB n2 kB, .slice lS n3 kS]) (by simp [results, Tryz.results46, go_sem, x0, x1, x2, x3]) rfl ⟨_, _, _, _, rfl, F.out, Mq.under (on B0.out HB.out.1) NN.out.2 fun k e => by have := HSs.out; omega⟩
  have st22201 : ∀ (u : World) (gL : Nat) (lL : Option Addr) (kL : Nat) (gB : Nat) (lB : Option Addr) (kB : Nat) (gS : Nat) (lS : Option Addr) (kS : Nat), (Below W.heap.size W u) → (Ls 125 u W.heap.size (.slice lL n1 kL) P.lanes) → (Prs 129 u W.heap.size (.slice lB n2 kB) P.bells) → (Prs 123 u W.heap.size (.slice lS n3 kS) P.plan) → G 2 #[true, true, true, true, true, true, true, true, true, true, true, true, true, false, false] { tmps := #[.agg #[.slice a0 n0 c0, .slice a1 n1 c1, .slice a2 n2 c2, .slice a3 n3 c3], .pointer (some ⟨s, 0, none⟩), .pointer (some ⟨s + 1, 0, none⟩), undef, undef, .slice (some ⟨gL, 0, none⟩) 0 0, .pointer (some ⟨s, 1, none⟩), .slice a1 n1 c1, .slice lL n1 kL, .slice (some ⟨gB, 0, none⟩) 0 0, .pointer (some ⟨s, 2, none⟩), .slice a2 n2 c2, .slice lB n2 kB, .slice (some ⟨gS, 0, none⟩) 0 0, .pointer (some ⟨s, 3, none⟩), .slice a3 n3 c3, .slice lS n3 kS, .agg #[.slice none 0 0, .slice lL n1 kL, .slice lB n2 kB, .slice lS n3 kS], undef, undef, undef, undef, undef, undef, undef, undef, undef, undef, undef, undef, undef, undef, undef, undef, undef, undef, undef, undef], defers := [] } u := by
    intro u gL lL kL gB lB kB gS lS kS hSU hFL hFB hFS
    have SU : Hid (Below W.heap.size W u) := hSU
    have FL : Hid (Ls 125 u W.heap.size (.slice lL n1 kL) P.lanes) := hFL
    have FB : Hid (Prs 129 u W.heap.size (.slice lB n2 kB) P.bells) := hFB
    have FS : Hid (Prs 123 u W.heap.size (.slice lS n3 kS) P.plan) := hFS
    clear hSU hFL hFB hFS
    rw [HG.out]
    refine zR 13 rfl fun K hK => ?_
    rw [if_pos (by rfl)]
    go_simp
    have KY : Ky none u (u.alloc (.cells #[.slice none 0 0, .slice none 0 0, .slice none 0 0, .slice none 0 0] 37)) := ky_below (al (Below.refl _ _) _)
    have NA : Hid (Vb (u.alloc (.cells #[.slice none 0 0, .slice none 0 0, .slice none 0 0, .slice none 0 0] 37)) u.heap.size #[.slice none 0 0, .slice none 0 0, .slice none 0 0, .slice none 0 0] 37 ∧ W.heap.size ≤ u.heap.size) := ⟨Vb.new _ _ _, SU.out.size⟩
    have NU : Hid (Below W.heap.size W (u.alloc (.cells #[.slice none 0 0, .slice none 0 0, .slice none 0 0, .slice none 0 0] 37))) := al SU.out _
    refine hK.out _ _ NU.out (fun _ => ?_)
    clear hK K
    have NX := st22211 (u.alloc (.cells #[.slice none 0 0, .slice none 0 0, .slice none 0 0, .slice none 0 0] 37)) gL lL kL gB lB kB gS lS kS u.heap.size NU.out (KY.row FL.out (by decide)) (KY.row FB.out (by decide)) (KY.row FS.out (by decide)) NA.out
    rw [HG.out] at NX
    exact NX
  have st22210 : ∀ (u : World) (gL : Nat) (lL : Option Addr) (kL : Nat) (gB : Nat) (lB : Option Addr) (kB : Nat) (gS : Nat) (lS : Option Addr) (kS : Nat) (q : Nat), (Below W.heap.size W u) → (Ls 125 u W.heap.size (.slice lL n1 kL) P.lanes) → (Prs 129 u W.heap.size (.slice lB n2 kB) P.bells) → (Prs 123 u W.heap.size (.slice lS n3 kS) P.plan) → (Vb u q #[.slice none 0 0, .slice none 0 0, .slice none 0 0, .slice none 0 0] 37 ∧ W.heap.size ≤ q) → G 2 #[true, true, true, true, true, true, true, true, true, true, true, true, false, true, false] { tmps := #[.agg #[.slice a0 n0 c0, .slice a1 n1 c1, .slice a2 n2 c2, .slice a3 n3 c3], .pointer (some ⟨s, 0, none⟩), .pointer (some ⟨s + 1, 0, none⟩), .pointer (some ⟨q, 0, none⟩), undef, .slice (some ⟨gL, 0, none⟩) 0 0, .pointer (some ⟨s, 1, none⟩), .slice a1 n1 c1, .slice lL n1 kL, .slice (some ⟨gB, 0, none⟩) 0 0, .pointer (some ⟨s, 2, none⟩), .slice a2 n2 c2, .slice lB n2 kB, .slice (some ⟨gS, 0, none⟩) 0 0, .pointer (some ⟨s, 3, none⟩), .slice a3 n3 c3, .slice lS n3 kS, undef, undef, undef, undef, undef, undef, undef, undef, undef, undef, undef, undef, undef, undef, undef, undef, undef, undef, undef, undef, undef], defers := [] } u := by
    intro u gL lL kL gB lB kB gS lS kS q hSU hFL hFB hFS hFA
    have SU : Hid (Below W.heap.size W u) := hSU
    have FL : Hid (Ls 125 u W.heap.size (.slice lL n1 kL) P.lanes) := hFL
    have FB : Hid (Prs 129 u W.heap.size (.slice lB n2 kB) P.bells) := hFB
    have FS : Hid (Prs 123 u W.heap.size (.slice lS n3 kS) P.plan) := hFS
    have FA : Hid (Vb u q #[.slice none 0 0, .slice none 0 0, .slice none 0 0, .slice none 0 0] 37 ∧ W.heap.size ≤ q) := hFA
    clear hSU hFL hFB hFS hFA
    rw [HG.out]
    refine wpTk (i := 12) (v := (.agg #[.slice none 0 0, .slice lL n1 kL, .slice lB n2 kB, .slice lS n3 kS])) rfl (Or.inl ⟨by rfl, fun w' hs => by go_simp⟩) SU.out ?_
    change wpAnyH _ _ _ _ _ _ _ (Act.put _ (some 17) _) _
    simp only [Act.put, zT, zZ, zS]
    have NX := st22211 u gL lL kL gB lB kB gS lS kS q SU.out FL.out FB.out FS.out FA.out
    rw [HG.out] at NX
    exact NX
  have st22110 : ∀ (u : World) (gL : Nat) (lL : Option Addr) (kL : Nat) (gB : Nat) (lB : Option Addr) (kB : Nat) (gS : Nat) (q : Nat), (Below W.heap.size W u) → (Ls 125 u W.heap.size (.slice lL n1 kL) P.lanes) → (Prs 129 u W.heap.size (.slice lB n2 kB) P.bells) → (Prs 123 u W.heap.size (.slice (some ⟨gS, 0, none⟩) 0 0) []) → (Vb u q #[.slice none 0 0, .slice none 0 0, .slice none 0 0, .slice none 0 0] 37 ∧ W.heap.size ≤ q) → G 3 #[true, true, true, true, true, true, true, true, true, true, true, false, false, true, false] { tmps := #[.agg #[.slice a0 n0 c0, .slice a1 n1 c1, .slice a2 n2 c2, .slice a3 n3 c3], .pointer (some ⟨s, 0, none⟩), .pointer (some ⟨s + 1, 0, none⟩), .pointer (some ⟨q, 0, none⟩), undef, .slice (some ⟨gL, 0, none⟩) 0 0, .pointer (some ⟨s, 1, none⟩), .slice a1 n1 c1, .slice lL n1 kL, .slice (some ⟨gB, 0, none⟩) 0 0, .pointer (some ⟨s, 2, none⟩), .slice a2 n2 c2, .slice lB n2 kB, .slice (some ⟨gS, 0, none⟩) 0 0, .pointer (some ⟨s, 3, none⟩), .slice a3 n3 c3, undef, undef, undef, undef, undef, undef, undef, undef, undef, undef, undef, undef, undef, undef, undef, undef, undef, undef, undef, undef, undef, undef], defers := [] } u := by
    intro u gL lL kL gB lB kB gS q hSU hFL hFB hFS hFA
    have SU : Hid (Below W.heap.size W u) := hSU
    have FL : Hid (Ls 125 u W.heap.size (.slice lL n1 kL) P.lanes) := hFL
    have FB : Hid (Prs 129 u W.heap.size (.slice lB n2 kB) P.bells) := hFB
    have FS : Hid (Prs 123 u W.heap.size (.slice (some ⟨gS, 0, none⟩) 0 0) []) := hFS
    have FA : Hid (Vb u q #[.slice none 0 0, .slice none 0 0, .slice none 0 0, .slice none 0 0] 37 ∧ W.heap.size ≤ q) := hFA
    clear hSU hFL hFB hFS hFA
    rw [HG.out]
    refine zR 11 rfl fun K hK => ?_
    refine step_apS rfl (.tmp 13) (.tmp 15) rfl W.heap.size gS rfl FS.out a3 n3 c3 P.plan rfl (D.out.plan.stay SU.out) (by have := SMP.out.plan; omega) SU.out.size ?_
    intro lS kS u' hP hG'
    have KY : Ky (some 123) u u' := ky_grown FS.out hG'
    have NS : Hid (Prs 123 u' W.heap.size (.slice lS n3 kS) P.plan) := hP
    change K (Act.put _ (some 16) _) _
    simp only [Act.put, zT, zZ, zS]
    have NU : Hid (Below W.heap.size W u') := SU.out.grown hG' SU.out.size (fun k e => by have e : gS = k := (by simpa using e); have := (World.ownsRow.lt FS.out gS rfl).1; omega)
    refine hK.out _ _ NU.out (fun _ => ?_)
    clear hK K
    have NX := st22210 u' gL lL kL gB lB kB gS lS kS q NU.out (KY.row FL.out (by decide)) (KY.row FB.out (by decide)) NS.out ⟨KY.vb FA.out.1 (by decide), FA.out.2⟩
    rw [HG.out] at NX
    exact NX
  have st22200 : ∀ (u : World) (gL : Nat) (lL : Option Addr) (kL : Nat) (gB : Nat) (lB : Option Addr) (kB : Nat) (gS : Nat) (lS : Option Addr) (kS : Nat), (Below W.heap.size W u) → (Ls 125 u W.heap.size (.slice lL n1 kL) P.lanes) → (Prs 129 u W.heap.size (.slice lB n2 kB) P.bells) → (Prs 123 u W.heap.size (.slice lS n3 kS) P.plan) → G 3 #[true, true, true, true, true, true, true, true, true, true, true, true, false, false, false] { tmps := #[.agg #[.slice a0 n0 c0, .slice a1 n1 c1, .slice a2 n2 c2, .slice a3 n3 c3], .pointer (some ⟨s, 0, none⟩), .pointer (some ⟨s + 1, 0, none⟩), undef, undef, .slice (some ⟨gL, 0, none⟩) 0 0, .pointer (some ⟨s, 1, none⟩), .slice a1 n1 c1, .slice lL n1 kL, .slice (some ⟨gB, 0, none⟩) 0 0, .pointer (some ⟨s, 2, none⟩), .slice a2 n2 c2, .slice lB n2 kB, .slice (some ⟨gS, 0, none⟩) 0 0, .pointer (some ⟨s, 3, none⟩), .slice a3 n3 c3, .slice lS n3 kS, undef, undef, undef, undef, undef, undef, undef, undef, undef, undef, undef, undef, undef, undef, undef, undef, undef, undef, undef, undef, undef], defers := [] } u := by
    intro u gL lL kL gB lB kB gS lS kS hSU hFL hFB hFS
    have SU : Hid (Below W.heap.size W u) := hSU
    have FL : Hid (Ls 125 u W.heap.size (.slice lL n1 kL) P.lanes) := hFL
    have FB : Hid (Prs 129 u W.heap.size (.slice lB n2 kB) P.bells) := hFB
    have FS : Hid (Prs 123 u W.heap.size (.slice lS n3 kS) P.plan) := hFS
    clear hSU hFL hFB hFS
    rw [HG.out]
    refine wpTk (i := 12) (v := (.agg #[.slice none 0 0, .slice lL n1 kL, .slice lB n2 kB, .slice lS n3 kS])) rfl (Or.inl ⟨by rfl, fun w' hs => by go_simp⟩) SU.out ?_
    change wpAnyH _ _ _ _ _ _ _ (Act.put _ (some 17) _) _
    simp only [Act.put, zT, zZ, zS]
    have NX := st22201 u gL lL kL gB lB kB gS lS kS SU.out FL.out FB.out FS.out
    rw [HG.out] at NX
    exact NX
  have st21110 : ∀ (u : World) (gL : Nat) (lL : Option Addr) (kL : Nat) (gB : Nat) (gS : Nat) (q : Nat), (Below W.heap.size W u) → (Ls 125 u W.heap.size (.slice lL n1 kL) P.lanes) → (Prs 129 u W.heap.size (.slice (some ⟨gB, 0, none⟩) 0 0) []) → (Prs 123 u W.heap.size (.slice (some ⟨gS, 0, none⟩) 0 0) []) → (Vb u q #[.slice none 0 0, .slice none 0 0, .slice none 0 0, .slice none 0 0] 37 ∧ W.heap.size ≤ q) → G 4 #[true, true, true, true, true, true, true, false, true, true, true, false, false, true, false] { tmps := #[.agg #[.slice a0 n0 c0, .slice a1 n1 c1, .slice a2 n2 c2, .slice a3 n3 c3], .pointer (some ⟨s, 0, none⟩), .pointer (some ⟨s + 1, 0, none⟩), .pointer (some ⟨q, 0, none⟩), undef, .slice (some ⟨gL, 0, none⟩) 0 0, .pointer (some ⟨s, 1, none⟩), .slice a1 n1 c1, .slice lL n1 kL, .slice (some ⟨gB, 0, none⟩) 0 0, .pointer (some ⟨s, 2, none⟩), .slice a2 n2 c2, undef, .slice (some ⟨gS, 0, none⟩) 0 0, .pointer (some ⟨s, 3, none⟩), .slice a3 n3 c3, undef, undef, undef, undef, undef, undef, undef, undef, undef, undef, undef, undef, undef, undef, undef, undef, undef, undef, undef, undef, undef, undef], defers := [] } u := by
    intro u gL lL kL gB gS q hSU hFL hFB hFS hFA
    have SU : Hid (Below W.heap.size W u) := hSU
    have FL : Hid (Ls 125 u W.heap.size (.slice lL n1 kL) P.lanes) := hFL
    have FB : Hid (Prs 129 u W.heap.size (.slice (some ⟨gB, 0, none⟩) 0 0) []) := hFB
    have FS : Hid (Prs 123 u W.heap.size (.slice (some ⟨gS, 0, none⟩) 0 0) []) := hFS
    have FA : Hid (Vb u q #[.slice none 0 0, .slice none 0 0, .slice none 0 0, .slice none 0 0] 37 ∧ W.heap.size ≤ q) := hFA
    clear hSU hFL hFB hFS hFA
    rw [HG.out]
    refine zR 7 rfl fun K hK => ?_
    refine step_apB rfl (.tmp 9) (.tmp 11) rfl W.heap.size gB rfl FB.out a2 n2 c2 P.bells rfl (D.out.bells.stay SU.out) (by have := SMP.out.bells; omega) SU.out.size ?_
    intro lB kB u' hP hG'
    have KY : Ky (some 129) u u' := ky_grown FB.out hG'
    have NB : Hid (Prs 129 u' W.heap.size (.slice lB n2 kB) P.bells) := hP
    change K (Act.put _ (some 12) _) _
    simp only [Act.put, zT, zZ, zS]
    have NU : Hid (Below W.heap.size W u') := SU.out.grown hG' SU.out.size (fun k e => by have e : gB = k := (by simpa using e); have := (World.ownsRow.lt FB.out gB rfl).1; omega)
    refine hK.out _ _ NU.out (fun _ => ?_)
    clear hK K
    have NX := st22110 u' gL lL kL gB lB kB gS q NU.out (KY.row FL.out (by decide)) NB.out (KY.row FS.out (by decide)) ⟨KY.vb FA.out.1 (by decide), FA.out.2⟩
    rw [HG.out] at NX
    exact NX
  have st22010 : ∀ (u : World) (gL : Nat) (lL : Option Addr) (kL : Nat) (gB : Nat) (lB : Option Addr) (kB : Nat) (q : Nat), (Below W.heap.size W u) → (Ls 125 u W.heap.size (.slice lL n1 kL) P.lanes) → (Prs 129 u W.heap.size (.slice lB n2 kB) P.bells) → (Vb u q #[.slice none 0 0, .slice none 0 0, .slice none 0 0, .slice none 0 0] 37 ∧ W.heap.size ≤ q) → G 4 #[true, true, true, true, true, true, true, true, false, true, true, false, false, true, false] { tmps := #[.agg #[.slice a0 n0 c0, .slice a1 n1 c1, .slice a2 n2 c2, .slice a3 n3 c3], .pointer (some ⟨s, 0, none⟩), .pointer (some ⟨s + 1, 0, none⟩), .pointer (some ⟨q, 0, none⟩), undef, .slice (some ⟨gL, 0, none⟩) 0 0, .pointer (some ⟨s, 1, none⟩), .slice a1 n1 c1, .slice lL n1 kL, .slice (some ⟨gB, 0, none⟩) 0 0, .pointer (some ⟨s, 2, none⟩), .slice a2 n2 c2, .slice lB n2 kB, undef, .pointer (some ⟨s, 3, none⟩), .slice a3 n3 c3, undef, undef, undef, undef, undef, undef, undef, undef, undef, undef, undef, undef, undef, undef, undef, undef, undef, undef, undef, undef, undef, undef], defers := [] } u := by
    intro u gL lL kL gB lB kB q hSU hFL hFB hFA
    have SU : Hid (Below W.heap.size W u) := hSU
    have FL : Hid (Ls 125 u W.heap.size (.slice lL n1 kL) P.lanes) := hFL
    have FB : Hid (Prs 129 u W.heap.size (.slice lB n2 kB) P.bells) := hFB
    have FA : Hid (Vb u q #[.slice none 0 0, .slice none 0 0, .slice none 0 0, .slice none 0 0] 37 ∧ W.heap.size ≤ q) := hFA
    clear hSU hFL hFB hFA
    rw [HG.out]
    refine zR 8 rfl fun K hK => ?_
    rw [if_pos (by rfl)]
    go_simp
    have KY : Ky none u (u.alloc (.cells #[] 123)) := ky_below (al (Below.refl _ _) _)
    have NS : Hid (Prs 123 (u.alloc (.cells #[] 123)) W.heap.size (.slice (some ⟨u.heap.size, 0, none⟩) 0 0) []) := World.ownsRow_lit u #[] 0 SU.out.size (by decide) rfl
    have NU : Hid (Below W.heap.size W (u.alloc (.cells #[] 123))) := al SU.out _
    refine hK.out _ _ NU.out (fun _ => ?_)
    clear hK K
    have NX := st22110 (u.alloc (.cells #[] 123)) gL lL kL gB lB kB u.heap.size q NU.out (KY.row FL.out (by decide)) (KY.row FB.out (by decide)) NS.out ⟨KY.vb FA.out.1 (by decide), FA.out.2⟩
    rw [HG.out] at NX
    exact NX
  have st22100 : ∀ (u : World) (gL : Nat) (lL : Option Addr) (kL : Nat) (gB : Nat) (lB : Option Addr) (kB : Nat) (gS : Nat), (Below W.heap.size W u) → (Ls 125 u W.heap.size (.slice lL n1 kL) P.lanes) → (Prs 129 u W.heap.size (.slice lB n2 kB) P.bells) → (Prs 123 u W.heap.size (.slice (some ⟨gS, 0, none⟩) 0 0) []) → G 4 #[true, true, true, true, true, true, true, true, true, true, true, false, false, false, false] { tmps := #[.agg #[.slice a0 n0 c0, .slice a1 n1 c1, .slice a2 n2 c2, .slice a3 n3 c3], .pointer (some ⟨s, 0, none⟩), .pointer (some ⟨s + 1, 0, none⟩), undef, undef, .slice (some ⟨gL, 0, none⟩) 0 0, .pointer (some ⟨s, 1, none⟩), .slice a1 n1 c1, .slice lL n1 kL, .slice (some ⟨gB, 0, none⟩) 0 0, .pointer (some ⟨s, 2, none⟩), .slice a2 n2 c2, .slice lB n2 kB, .slice (some ⟨gS, 0, none⟩) 0 0, .pointer (some ⟨s, 3, none⟩), .slice a3 n3 c3, undef, undef, undef, undef, undef, undef, undef, undef, undef, undef, undef, undef, undef, undef, undef, undef, undef, undef, undef, undef, undef, undef], defers := [] } u := by
    intro u gL lL kL gB lB kB gS hSU hFL hFB hFS
    have SU : Hid (Below W.heap.size W u) := hSU
    have FL : Hid (Ls 125 u W.heap.size (.slice lL n1 kL) P.lanes) := hFL
    have FB : Hid (Prs 129 u W.heap.size (.slice lB n2 kB) P.bells) := hFB
    have FS : Hid (Prs 123 u W.heap.size (.slice (some ⟨gS, 0, none⟩) 0 0) []) := hFS
    clear hSU hFL hFB hFS
    rw [HG.out]
    refine wpAnyH_ready (rs := [11, 13]) (by kernel_rfl) (by simp) ?_
    refine AllReadyH.cons rfl (fun K hK => ?_) (AllReadyH.cons rfl (fun K hK => ?_) AllReadyH.nil)
    · skip
      refine step_apS rfl (.tmp 13) (.tmp 15) rfl W.heap.size gS rfl FS.out a3 n3 c3 P.plan rfl (D.out.plan.stay SU.out) (by have := SMP.out.plan; omega) SU.out.size ?_
      intro lS kS u' hP hG'
      have KY : Ky (some 123) u u' := ky_grown FS.out hG'
      have NS : Hid (Prs 123 u' W.heap.size (.slice lS n3 kS) P.plan) := hP
      change K (Act.put _ (some 16) _) _
      simp only [Act.put, zT, zZ, zS]
      have NU : Hid (Below W.heap.size W u') := SU.out.grown hG' SU.out.size (fun k e => by have e : gS = k := (by simpa using e); have := (World.ownsRow.lt FS.out gS rfl).1; omega)
      refine hK.out _ _ NU.out (fun _ => ?_)
      clear hK K
      have NX := st22200 u' gL lL kL gB lB kB gS lS kS NU.out (KY.row FL.out (by decide)) (KY.row FB.out (by decide)) NS.out
      rw [HG.out] at NX
      exact NX
    · skip
      rw [if_pos (by rfl)]
      go_simp
      have KY : Ky none u (u.alloc (.cells #[.slice none 0 0, .slice none 0 0, .slice none 0 0, .slice none 0 0] 37)) := ky_below (al (Below.refl _ _) _)
      have NA : Hid (Vb (u.alloc (.cells #[.slice none 0 0, .slice none 0 0, .slice none 0 0, .slice none 0 0] 37)) u.heap.size #[.slice none 0 0, .slice none 0 0, .slice none 0 0, .slice none 0 0] 37 ∧ W.heap.size ≤ u.heap.size) := ⟨Vb.new _ _ _, SU.out.size⟩
      have NU : Hid (Below W.heap.size W (u.alloc (.cells #[.slice none 0 0, .slice none 0 0, .slice none 0 0, .slice none 0 0] 37))) := al SU.out _
      refine hK.out _ _ NU.out (fun _ => ?_)
      clear hK K
      have NX := st22110 (u.alloc (.cells #[.slice none 0 0, .slice none 0 0, .slice none 0 0, .slice none 0 0] 37)) gL lL kL gB lB kB gS u.heap.size NU.out (KY.row FL.out (by decide)) (KY.row FB.out (by decide)) (KY.row FS.out (by decide)) NA.out
      rw [HG.out] at NX
      exact NX
  have st11110 : ∀ (u : World) (gL : Nat) (gB : Nat) (gS : Nat) (q : Nat), (Below W.heap.size W u) → (Ls 125 u W.heap.size (.slice (some ⟨gL, 0, none⟩) 0 0) []) → (Prs 129 u W.heap.size (.slice (some ⟨gB, 0, none⟩) 0 0) []) → (Prs 123 u W.heap.size (.slice (some ⟨gS, 0, none⟩) 0 0) []) → (Vb u q #[.slice none 0 0, .slice none 0 0, .slice none 0 0, .slice none 0 0] 37 ∧ W.heap.size ≤ q) → G 5 #[true, true, true, false, true, true, true, false, true, true, true, false, false, true, false] { tmps := #[.agg #[.slice a0 n0 c0, .slice a1 n1 c1, .slice a2 n2 c2, .slice a3 n3 c3], .pointer (some ⟨s, 0, none⟩), .pointer (some ⟨s + 1, 0, none⟩), .pointer (some ⟨q, 0, none⟩), undef, .slice (some ⟨gL, 0, none⟩) 0 0, .pointer (some ⟨s, 1, none⟩), .slice a1 n1 c1, undef, .slice (some ⟨gB, 0, none⟩) 0 0, .pointer (some ⟨s, 2, none⟩), .slice a2 n2 c2, undef, .slice (some ⟨gS, 0, none⟩) 0 0, .pointer (some ⟨s, 3, none⟩), .slice a3 n3 c3, undef, undef, undef, undef, undef, undef, undef, undef, undef, undef, undef, undef, undef, undef, undef, undef, undef, undef, undef, undef, undef, undef], defers := [] } u := by
    intro u gL gB gS q hSU hFL hFB hFS hFA
    have SU : Hid (Below W.heap.size W u) := hSU
    have FL : Hid (Ls 125 u W.heap.size (.slice (some ⟨gL, 0, none⟩) 0 0) []) := hFL
    have FB : Hid (Prs 129 u W.heap.size (.slice (some ⟨gB, 0, none⟩) 0 0) []) := hFB
    have FS : Hid (Prs 123 u W.heap.size (.slice (some ⟨gS, 0, none⟩) 0 0) []) := hFS
    have FA : Hid (Vb u q #[.slice none 0 0, .slice none 0 0, .slice none 0 0, .slice none 0 0] 37 ∧ W.heap.size ≤ q) := hFA
    clear hSU hFL hFB hFS hFA
    rw [HG.out]
    refine zR 3 rfl fun K hK => ?_
    refine step_apL rfl (.tmp 5) (.tmp 7) rfl W.heap.size gL rfl FL.out a1 n1 c1 P.lanes rfl (D.out.lanes.stay SU.out) (by have := SMP.out.lanes; omega) SU.out.size ?_
    intro lL kL u' hP hG'
    have KY : Ky (some 125) u u' := ky_grown FL.out hG'
    have NL : Hid (Ls 125 u' W.heap.size (.slice lL n1 kL) P.lanes) := hP
    change K (Act.put _ (some 8) _) _
    simp only [Act.put, zT, zZ, zS]
    have NU : Hid (Below W.heap.size W u') := SU.out.grown hG' SU.out.size (fun k e => by have e : gL = k := (by simpa using e); have := (World.ownsRow.lt FL.out gL rfl).1; omega)
    refine hK.out _ _ NU.out (fun _ => ?_)
    clear hK K
    have NX := st21110 u' gL lL kL gB gS q NU.out NL.out (KY.row FB.out (by decide)) (KY.row FS.out (by decide)) ⟨KY.vb FA.out.1 (by decide), FA.out.2⟩
    rw [HG.out] at NX
    exact NX
  have st20110 : ∀ (u : World) (gL : Nat) (lL : Option Addr) (kL : Nat) (gS : Nat) (q : Nat), (Below W.heap.size W u) → (Ls 125 u W.heap.size (.slice lL n1 kL) P.lanes) → (Prs 123 u W.heap.size (.slice (some ⟨gS, 0, none⟩) 0 0) []) → (Vb u q #[.slice none 0 0, .slice none 0 0, .slice none 0 0, .slice none 0 0] 37 ∧ W.heap.size ≤ q) → G 5 #[true, true, true, true, false, true, true, false, true, true, true, false, false, true, false] { tmps := #[.agg #[.slice a0 n0 c0, .slice a1 n1 c1, .slice a2 n2 c2, .slice a3 n3 c3], .pointer (some ⟨s, 0, none⟩), .pointer (some ⟨s + 1, 0, none⟩), .pointer (some ⟨q, 0, none⟩), undef, .slice (some ⟨gL, 0, none⟩) 0 0, .pointer (some ⟨s, 1, none⟩), .slice a1 n1 c1, .slice lL n1 kL, undef, .pointer (some ⟨s, 2, none⟩), .slice a2 n2 c2, undef, .slice (some ⟨gS, 0, none⟩) 0 0, .pointer (some ⟨s, 3, none⟩), .slice a3 n3 c3, undef, undef, undef, undef, undef, undef, undef, undef, undef, undef, undef, undef, undef, undef, undef, undef, undef, undef, undef, undef, undef, undef], defers := [] } u := by
    intro u gL lL kL gS q hSU hFL hFS hFA
    have SU : Hid (Below W.heap.size W u) := hSU
    have FL : Hid (Ls 125 u W.heap.size (.slice lL n1 kL) P.lanes) := hFL
    have FS : Hid (Prs 123 u W.heap.size (.slice (some ⟨gS, 0, none⟩) 0 0) []) := hFS
    have FA : Hid (Vb u q #[.slice none 0 0, .slice none 0 0, .slice none 0 0, .slice none 0 0] 37 ∧ W.heap.size ≤ q) := hFA
    clear hSU hFL hFS hFA
    rw [HG.out]
    refine zR 4 rfl fun K hK => ?_
    rw [if_pos (by rfl)]
    go_simp
    have KY : Ky none u (u.alloc (.cells #[] 129)) := ky_below (al (Below.refl _ _) _)
    have NB : Hid (Prs 129 (u.alloc (.cells #[] 129)) W.heap.size (.slice (some ⟨u.heap.size, 0, none⟩) 0 0) []) := World.ownsRow_lit u #[] 0 SU.out.size (by decide) rfl
    have NU : Hid (Below W.heap.size W (u.alloc (.cells #[] 129))) := al SU.out _
    refine hK.out _ _ NU.out (fun _ => ?_)
    clear hK K
    have NX := st21110 (u.alloc (.cells #[] 129)) gL lL kL u.heap.size gS q NU.out (KY.row FL.out (by decide)) NB.out (KY.row FS.out (by decide)) ⟨KY.vb FA.out.1 (by decide), FA.out.2⟩
    rw [HG.out] at NX
    exact NX
  have st21010 : ∀ (u : World) (gL : Nat) (lL : Option Addr) (kL : Nat) (gB : Nat) (q : Nat), (Below W.heap.size W u) → (Ls 125 u W.heap.size (.slice lL n1 kL) P.lanes) → (Prs 129 u W.heap.size (.slice (some ⟨gB, 0, none⟩) 0 0) []) → (Vb u q #[.slice none 0 0, .slice none 0 0, .slice none 0 0, .slice none 0 0] 37 ∧ W.heap.size ≤ q) → G 5 #[true, true, true, true, true, true, true, false, false, true, true, false, false, true, false] { tmps := #[.agg #[.slice a0 n0 c0, .slice a1 n1 c1, .slice a2 n2 c2, .slice a3 n3 c3], .pointer (some ⟨s, 0, none⟩), .pointer (some ⟨s + 1, 0, none⟩), .pointer (some ⟨q, 0, none⟩), undef, .slice (some ⟨gL, 0, none⟩) 0 0, .pointer (some ⟨s, 1, none⟩), .slice a1 n1 c1, .slice lL n1 kL, .slice (some ⟨gB, 0, none⟩) 0 0, .pointer (some ⟨s, 2, none⟩), .slice a2 n2 c2, undef, undef, .pointer (some ⟨s, 3, none⟩), .slice a3 n3 c3, undef, undef, undef, undef, undef, undef, undef, undef, undef, undef, undef, undef, undef, undef, undef, undef, undef, undef, undef, undef, undef, undef], defers := [] } u := by
    intro u gL lL kL gB q hSU hFL hFB hFA
    have SU : Hid (Below W.heap.size W u) := hSU
    have FL : Hid (Ls 125 u W.heap.size (.slice lL n1 kL) P.lanes) := hFL
    have FB : Hid (Prs 129 u W.heap.size (.slice (some ⟨gB, 0, none⟩) 0 0) []) := hFB
    have FA : Hid (Vb u q #[.slice none 0 0, .slice none 0 0, .slice none 0 0, .slice none 0 0] 37 ∧ W.heap.size ≤ q) := hFA
    clear hSU hFL hFB hFA
    rw [HG.out]
    refine wpAnyH_ready (rs := [7, 8]) (by kernel_rfl) (by simp) ?_
    refine AllReadyH.cons rfl (fun K hK => ?_) (AllReadyH.cons rfl (fun K hK => ?_) AllReadyH.nil)
    · skip
      refine step_apB rfl (.tmp 9) (.tmp 11) rfl W.heap.size gB rfl FB.out a2 n2 c2 P.bells rfl (D.out.bells.stay SU.out) (by have := SMP.out.bells; omega) SU.out.size ?_
      intro lB kB u' hP hG'
      have KY : Ky (some 129) u u' := ky_grown FB.out hG'
      have NB : Hid (Prs 129 u' W.heap.size (.slice lB n2 kB) P.bells) := hP
      change K (Act.put _ (some 12) _) _
      simp only [Act.put, zT, zZ, zS]
      have NU : Hid (Below W.heap.size W u') := SU.out.grown hG' SU.out.size (fun k e => by have e : gB = k := (by simpa using e); have := (World.ownsRow.lt FB.out gB rfl).1; omega)
      refine hK.out _ _ NU.out (fun _ => ?_)
      clear hK K
      have NX := st22010 u' gL lL kL gB lB kB q NU.out (KY.row FL.out (by decide)) NB.out ⟨KY.vb FA.out.1 (by decide), FA.out.2⟩
      rw [HG.out] at NX
      exact NX
    · skip
      rw [if_pos (by rfl)]
      go_simp
      have KY : Ky none u (u.alloc (.cells #[] 123)) := ky_below (al (Below.refl _ _) _)
      have NS : Hid (Prs 123 (u.alloc (.cells #[] 123)) W.heap.size (.slice (some ⟨u.heap.size, 0, none⟩) 0 0) []) := World.ownsRow_lit u #[] 0 SU.out.size (by decide) rfl
      have NU : Hid (Below W.heap.size W (u.alloc (.cells #[] 123))) := al SU.out _
      refine hK.out _ _ NU.out (fun _ => ?_)
      clear hK K
      have NX := st21110 (u.alloc (.cells #[] 123)) gL lL kL gB u.heap.size q NU.out (KY.row FL.out (by decide)) (KY.row FB.out (by decide)) NS.out ⟨KY.vb FA.out.1 (by decide), FA.out.2⟩
      rw [HG.out] at NX
      exact NX
  have st21100 : ∀ (u : World) (gL : Nat) (lL : Option Addr) (kL : Nat) (gB : Nat) (gS : Nat), (Below W.heap.size W u) → (Ls 125 u W.heap.size (.slice lL n1 kL) P.lanes) → (Prs 129 u W.heap.size (.slice (some ⟨gB, 0, none⟩) 0 0) []) → (Prs 123 u W.heap.size (.slice (some ⟨gS, 0, none⟩) 0 0) []) → G 5 #[true, true, true, true, true, true, true, false, true, true, true, false, false, false, false] { tmps := #[.agg #[.slice a0 n0 c0, .slice a1 n1 c1, .slice a2 n2 c2, .slice a3 n3 c3], .pointer (some ⟨s, 0, none⟩), .pointer (some ⟨s + 1, 0, none⟩), undef, undef, .slice (some ⟨gL, 0, none⟩) 0 0, .pointer (some ⟨s, 1, none⟩), .slice a1 n1 c1, .slice lL n1 kL, .slice (some ⟨gB, 0, none⟩) 0 0, .pointer (some ⟨s, 2, none⟩), .slice a2 n2 c2, undef, .slice (some ⟨gS, 0, none⟩) 0 0, .pointer (some ⟨s, 3, none⟩), .slice a3 n3 c3, undef, undef, undef, undef, undef, undef, undef, undef, undef, undef, undef, undef, undef, undef, undef, undef, undef, undef, undef, undef, undef, undef], defers := [] } u := by
    intro u gL lL kL gB gS hSU hFL hFB hFS
    have SU : Hid (Below W.heap.size W u) := hSU
    have FL : Hid (Ls 125 u W.heap.size (.slice lL n1 kL) P.lanes) := hFL
    have FB : Hid (Prs 129 u W.heap.size (.slice (some ⟨gB, 0, none⟩) 0 0) []) := hFB
    have FS : Hid (Prs 123 u W.heap.size (.slice (some ⟨gS, 0, none⟩) 0 0) []) := hFS
    clear hSU hFL hFB hFS
    rw [HG.out]
    refine wpAnyH_ready (rs := [7, 13]) (by kernel_rfl) (by simp) ?_
    refine AllReadyH.cons rfl (fun K hK => ?_) (AllReadyH.cons rfl (fun K hK => ?_) AllReadyH.nil)
    · skip
      refine step_apB rfl (.tmp 9) (.tmp 11) rfl W.heap.size gB rfl FB.out a2 n2 c2 P.bells rfl (D.out.bells.stay SU.out) (by have := SMP.out.bells; omega) SU.out.size ?_
      intro lB kB u' hP hG'
      have KY : Ky (some 129) u u' := ky_grown FB.out hG'
      have NB : Hid (Prs 129 u' W.heap.size (.slice lB n2 kB) P.bells) := hP
      change K (Act.put _ (some 12) _) _
      simp only [Act.put, zT, zZ, zS]
      have NU : Hid (Below W.heap.size W u') := SU.out.grown hG' SU.out.size (fun k e => by have e : gB = k := (by simpa using e); have := (World.ownsRow.lt FB.out gB rfl).1; omega)
      refine hK.out _ _ NU.out (fun _ => ?_)
      clear hK K
      have NX := st22100 u' gL lL kL gB lB kB gS NU.out (KY.row FL.out (by decide)) NB.out (KY.row FS.out (by decide))
      rw [HG.out] at NX
      exact NX
    · skip
      rw [if_pos (by rfl)]
      go_simp
      have KY : Ky none u (u.alloc (.cells #[.slice none 0 0, .slice none 0 0, .slice none 0 0, .slice none 0 0] 37)) := ky_below (al (Below.refl _ _) _)
      have NA : Hid (Vb (u.alloc (.cells #[.slice none 0 0, .slice none 0 0, .slice none 0 0, .slice none 0 0] 37)) u.heap.size #[.slice none 0 0, .slice none 0 0, .slice none 0 0, .slice none 0 0] 37 ∧ W.heap.size ≤ u.heap.size) := ⟨Vb.new _ _ _, SU.out.size⟩
      have NU : Hid (Below W.heap.size W (u.alloc (.cells #[.slice none 0 0, .slice none 0 0, .slice none 0 0, .slice none 0 0] 37))) := al SU.out _
      refine hK.out _ _ NU.out (fun _ => ?_)
      clear hK K
      have NX := st21110 (u.alloc (.cells #[.slice none 0 0, .slice none 0 0, .slice none 0 0, .slice none 0 0] 37)) gL lL kL gB gS u.heap.size NU.out (KY.row FL.out (by decide)) (KY.row FB.out (by decide)) (KY.row FS.out (by decide)) NA.out
      rw [HG.out] at NX
      exact NX
  have st22000 : ∀ (u : World) (gL : Nat) (lL : Option Addr) (kL : Nat) (gB : Nat) (lB : Option Addr) (kB : Nat), (Below W.heap.size W u) → (Ls 125 u W.heap.size (.slice lL n1 kL) P.lanes) → (Prs 129 u W.heap.size (.slice lB n2 kB) P.bells) → G 5 #[true, true, true, true, true, true, true, true, false, true, true, false, false, false, false] { tmps := #[.agg #[.slice a0 n0 c0, .slice a1 n1 c1, .slice a2 n2 c2, .slice a3 n3 c3], .pointer (some ⟨s, 0, none⟩), .pointer (some ⟨s + 1, 0, none⟩), undef, undef, .slice (some ⟨gL, 0, none⟩) 0 0, .pointer (some ⟨s, 1, none⟩), .slice a1 n1 c1, .slice lL n1 kL, .slice (some ⟨gB, 0, none⟩) 0 0, .pointer (some ⟨s, 2, none⟩), .slice a2 n2 c2, .slice lB n2 kB, undef, .pointer (some ⟨s, 3, none⟩), .slice a3 n3 c3, undef, undef, undef, undef, undef, undef, undef, undef, undef, undef, undef, undef, undef, undef, undef, undef, undef, undef, undef, undef, undef, undef], defers := [] } u := by
    intro u gL lL kL gB lB kB hSU hFL hFB
    have SU : Hid (Below W.heap.size W u) := hSU
    have FL : Hid (Ls 125 u W.heap.size (.slice lL n1 kL) P.lanes) := hFL
    have FB : Hid (Prs 129 u W.heap.size (.slice lB n2 kB) P.bells) := hFB
    clear hSU hFL hFB
    rw [HG.out]
    refine wpAnyH_ready (rs := [8, 13]) (by kernel_rfl) (by simp) ?_
    refine AllReadyH.cons rfl (fun K hK => ?_) (AllReadyH.cons rfl (fun K hK => ?_) AllReadyH.nil)
    · skip
      rw [if_pos (by rfl)]
      go_simp
      have KY : Ky none u (u.alloc (.cells #[] 123)) := ky_below (al (Below.refl _ _) _)
      have NS : Hid (Prs 123 (u.alloc (.cells #[] 123)) W.heap.size (.slice (some ⟨u.heap.size, 0, none⟩) 0 0) []) := World.ownsRow_lit u #[] 0 SU.out.size (by decide) rfl
      have NU : Hid (Below W.heap.size W (u.alloc (.cells #[] 123))) := al SU.out _
      refine hK.out _ _ NU.out (fun _ => ?_)
      clear hK K
      have NX := st22100 (u.alloc (.cells #[] 123)) gL lL kL gB lB kB u.heap.size NU.out (KY.row FL.out (by decide)) (KY.row FB.out (by decide)) NS.out
      rw [HG.out] at NX
      exact NX
    · skip
      rw [if_pos (by rfl)]
      go_simp
      have KY : Ky none u (u.alloc (.cells #[.slice none 0 0, .slice none 0 0, .slice none 0 0, .slice none 0 0] 37)) := ky_below (al (Below.refl _ _) _)
      have NA : Hid (Vb (u.alloc (.cells #[.slice none 0 0, .slice none 0 0, .slice none 0 0, .slice none 0 0] 37)) u.heap.size #[.slice none 0 0, .slice none 0 0, .slice none 0 0, .slice none 0 0] 37 ∧ W.heap.size ≤ u.heap.size) := ⟨Vb.new _ _ _, SU.out.size⟩
      have NU : Hid (Below W.heap.size W (u.alloc (.cells #[.slice none 0 0, .slice none 0 0, .slice none 0 0, .slice none 0 0] 37))) := al SU.out _
      refine hK.out _ _ NU.out (fun _ => ?_)
      clear hK K
      have NX := st22010 (u.alloc (.cells #[.slice none 0 0, .slice none 0 0, .slice none 0 0, .slice none 0 0] 37)) gL lL kL gB lB kB u.heap.size NU.out (KY.row FL.out (by decide)) (KY.row FB.out (by decide)) NA.out
      rw [HG.out] at NX
      exact NX
  have st01110 : ∀ (u : World) (gB : Nat) (gS : Nat) (q : Nat), (Below W.heap.size W u) → (Prs 129 u W.heap.size (.slice (some ⟨gB, 0, none⟩) 0 0) []) → (Prs 123 u W.heap.size (.slice (some ⟨gS, 0, none⟩) 0 0) []) → (Vb u q #[.slice none 0 0, .slice none 0 0, .slice none 0 0, .slice none 0 0] 37 ∧ W.heap.size ≤ q) → G 6 #[false, true, true, false, true, true, true, false, true, true, true, false, false, true, false] { tmps := #[.agg #[.slice a0 n0 c0, .slice a1 n1 c1, .slice a2 n2 c2, .slice a3 n3 c3], .pointer (some ⟨s, 0, none⟩), .pointer (some ⟨s + 1, 0, none⟩), .pointer (some ⟨q, 0, none⟩), undef, undef, .pointer (some ⟨s, 1, none⟩), .slice a1 n1 c1, undef, .slice (some ⟨gB, 0, none⟩) 0 0, .pointer (some ⟨s, 2, none⟩), .slice a2 n2 c2, undef, .slice (some ⟨gS, 0, none⟩) 0 0, .pointer (some ⟨s, 3, none⟩), .slice a3 n3 c3, undef, undef, undef, undef, undef, undef, undef, undef, undef, undef, undef, undef, undef, undef, undef, undef, undef, undef, undef, undef, undef, undef], defers := [] } u := by
    intro u gB gS q hSU hFB hFS hFA
    have SU : Hid (Below W.heap.size W u) := hSU
    have FB : Hid (Prs 129 u W.heap.size (.slice (some ⟨gB, 0, none⟩) 0 0) []) := hFB
    have FS : Hid (Prs 123 u W.heap.size (.slice (some ⟨gS, 0, none⟩) 0 0) []) := hFS
    have FA : Hid (Vb u q #[.slice none 0 0, .slice none 0 0, .slice none 0 0, .slice none 0 0] 37 ∧ W.heap.size ≤ q) := hFA
    clear hSU hFB hFS hFA
    rw [HG.out]
    refine zR 0 rfl fun K hK => ?_
    rw [if_pos (by rfl)]
    go_simp
    have KY : Ky none u (u.alloc (.cells #[] 125)) := ky_below (al (Below.refl _ _) _)
    have NL : Hid (Ls 125 (u.alloc (.cells #[] 125)) W.heap.size (.slice (some ⟨u.heap.size, 0, none⟩) 0 0) []) := World.ownsRow_lit u #[] 0 SU.out.size (by decide) rfl
    have NU : Hid (Below W.heap.size W (u.alloc (.cells #[] 125))) := al SU.out _
    refine hK.out _ _ NU.out (fun _ => ?_)
    clear hK K
    have NX := st11110 (u.alloc (.cells #[] 125)) u.heap.size gB gS q NU.out NL.out (KY.row FB.out (by decide)) (KY.row FS.out (by decide)) ⟨KY.vb FA.out.1 (by decide), FA.out.2⟩
    rw [HG.out] at NX
    exact NX
  have st10110 : ∀ (u : World) (gL : Nat) (gS : Nat) (q : Nat), (Below W.heap.size W u) → (Ls 125 u W.heap.size (.slice (some ⟨gL, 0, none⟩) 0 0) []) → (Prs 123 u W.heap.size (.slice (some ⟨gS, 0, none⟩) 0 0) []) → (Vb u q #[.slice none 0 0, .slice none 0 0, .slice none 0 0, .slice none 0 0] 37 ∧ W.heap.size ≤ q) → G 6 #[true, true, true, false, false, true, true, false, true, true, true, false, false, true, false] { tmps := #[.agg #[.slice a0 n0 c0, .slice a1 n1 c1, .slice a2 n2 c2, .slice a3 n3 c3], .pointer (some ⟨s, 0, none⟩), .pointer (some ⟨s + 1, 0, none⟩), .pointer (some ⟨q, 0, none⟩), undef, .slice (some ⟨gL, 0, none⟩) 0 0, .pointer (some ⟨s, 1, none⟩), .slice a1 n1 c1, undef, undef, .pointer (some ⟨s, 2, none⟩), .slice a2 n2 c2, undef, .slice (some ⟨gS, 0, none⟩) 0 0, .pointer (some ⟨s, 3, none⟩), .slice a3 n3 c3, undef, undef, undef, undef, undef, undef, undef, undef, undef, undef, undef, undef, undef, undef, undef, undef, undef, undef, undef, undef, undef, undef], defers := [] } u := by
    intro u gL gS q hSU hFL hFS hFA
    have SU : Hid (Below W.heap.size W u) := hSU
    have FL : Hid (Ls 125 u W.heap.size (.slice (some ⟨gL, 0, none⟩) 0 0) []) := hFL
    have FS : Hid (Prs 123 u W.heap.size (.slice (some ⟨gS, 0, none⟩) 0 0) []) := hFS
    have FA : Hid (Vb u q #[.slice none 0 0, .slice none 0 0, .slice none 0 0, .slice none 0 0] 37 ∧ W.heap.size ≤ q) := hFA
    clear hSU hFL hFS hFA
    rw [HG.out]
    refine wpAnyH_ready (rs := [3, 4]) (by kernel_rfl) (by simp) ?_
    refine AllReadyH.cons rfl (fun K hK => ?_) (AllReadyH.cons rfl (fun K hK => ?_) AllReadyH.nil)
    · skip
      refine step_apL rfl (.tmp 5) (.tmp 7) rfl W.heap.size gL rfl FL.out a1 n1 c1 P.lanes rfl (D.out.lanes.stay SU.out) (by have := SMP.out.lanes; omega) SU.out.size ?_
      intro lL kL u' hP hG'
      have KY : Ky (some 125) u u' := ky_grown FL.out hG'
      have NL : Hid (Ls 125 u' W.heap.size (.slice lL n1 kL) P.lanes) := hP
      change K (Act.put _ (some 8) _) _
      simp only [Act.put, zT, zZ, zS]
      have NU : Hid (Below W.heap.size W u') := SU.out.grown hG' SU.out.size (fun k e => by have e : gL = k := (by simpa using e); have := (World.ownsRow.lt FL.out gL rfl).1; omega)
      refine hK.out _ _ NU.out (fun _ => ?_)
      clear hK K
      have NX := st20110 u' gL lL kL gS q NU.out NL.out (KY.row FS.out (by decide)) ⟨KY.vb FA.out.1 (by decide), FA.out.2⟩
      rw [HG.out] at NX
      exact NX
    · skip
      rw [if_pos (by rfl)]
      go_simp
      have KY : Ky none u (u.alloc (.cells #[] 129)) := ky_below (al (Below.refl _ _) _)
      have NB : Hid (Prs 129 (u.alloc (.cells #[] 129)) W.heap.size (.slice (some ⟨u.heap.size, 0, none⟩) 0 0) []) := World.ownsRow_lit u #[] 0 SU.out.size (by decide) rfl
      have NU : Hid (Below W.heap.size W (u.alloc (.cells #[] 129))) := al SU.out _
      refine hK.out _ _ NU.out (fun _ => ?_)
      clear hK K
      have NX := st11110 (u.alloc (.cells #[] 129)) gL u.heap.size gS q NU.out (KY.row FL.out (by decide)) NB.out (KY.row FS.out (by decide)) ⟨KY.vb FA.out.1 (by decide), FA.out.2⟩
      rw [HG.out] at NX
      exact NX
  have st11010 : ∀ (u : World) (gL : Nat) (gB : Nat) (q : Nat), (Below W.heap.size W u) → (Ls 125 u W.heap.size (.slice (some ⟨gL, 0, none⟩) 0 0) []) → (Prs 129 u W.heap.size (.slice (some ⟨gB, 0, none⟩) 0 0) []) → (Vb u q #[.slice none 0 0, .slice none 0 0, .slice none 0 0, .slice none 0 0] 37 ∧ W.heap.size ≤ q) → G 6 #[true, true, true, false, true, true, true, false, false, true, true, false, false, true, false] { tmps := #[.agg #[.slice a0 n0 c0, .slice a1 n1 c1, .slice a2 n2 c2, .slice a3 n3 c3], .pointer (some ⟨s, 0, none⟩), .pointer (some ⟨s + 1, 0, none⟩), .pointer (some ⟨q, 0, none⟩), undef, .slice (some ⟨gL, 0, none⟩) 0 0, .pointer (some ⟨s, 1, none⟩), .slice a1 n1 c1, undef, .slice (some ⟨gB, 0, none⟩) 0 0, .pointer (some ⟨s, 2, none⟩), .slice a2 n2 c2, undef, undef, .pointer (some ⟨s, 3, none⟩), .slice a3 n3 c3, undef, undef, undef, undef, undef, undef, undef, undef, undef, undef, undef, undef, undef, undef, undef, undef, undef, undef, undef, undef, undef, undef], defers := [] } u := by
    intro u gL gB q hSU hFL hFB hFA
    have SU : Hid (Below W.heap.size W u) := hSU
    have FL : Hid (Ls 125 u W.heap.size (.slice (some ⟨gL, 0, none⟩) 0 0) []) := hFL
    have FB : Hid (Prs 129 u W.heap.size (.slice (some ⟨gB, 0, none⟩) 0 0) []) := hFB
    have FA : Hid (Vb u q #[.slice none 0 0, .slice none 0 0, .slice none 0 0, .slice none 0 0] 37 ∧ W.heap.size ≤ q) := hFA
    clear hSU hFL hFB hFA
    rw [HG.out]
    refine wpAnyH_ready (rs := [3, 8]) (by kernel_rfl) (by simp) ?_
    refine AllReadyH.cons rfl (fun K hK => ?_) (AllReadyH.cons rfl (fun K hK => ?_) AllReadyH.nil)
    · skip
      refine step_apL rfl (.tmp 5) (.tmp 7) rfl W.heap.size gL rfl FL.out a1 n1 c1 P.lanes rfl (D.out.lanes.stay SU.out) (by have := SMP.out.lanes; omega) SU.out.size ?_
      intro lL kL u' hP hG'
      have KY : Ky (some 125) u u' := ky_grown FL.out hG'
      have NL : Hid (Ls 125 u' W.heap.size (.slice lL n1 kL) P.lanes) := hP
      change K (Act.put _ (some 8) _) _
      simp only [Act.put, zT, zZ, zS]
      have NU : Hid (Below W.heap.size W u') := SU.out.grown hG' SU.out.size (fun k e => by have e : gL = k := (by simpa using e); have := (World.ownsRow.lt FL.out gL rfl).1; omega)
      refine hK.out _ _ NU.out (fun _ => ?_)
      clear hK K
      have NX := st21010 u' gL lL kL gB q NU.out NL.out (KY.row FB.out (by decide)) ⟨KY.vb FA.out.1 (by decide), FA.out.2⟩
      rw [HG.out] at NX
      exact NX
    · skip
      rw [if_pos (by rfl)]
      go_simp
      have KY : Ky none u (u.alloc (.cells #[] 123)) := ky_below (al (Below.refl _ _) _)
      have NS : Hid (Prs 123 (u.alloc (.cells #[] 123)) W.heap.size (.slice (some ⟨u.heap.size, 0, none⟩) 0 0) []) := World.ownsRow_lit u #[] 0 SU.out.size (by decide) rfl
      have NU : Hid (Below W.heap.size W (u.alloc (.cells #[] 123))) := al SU.out _
      refine hK.out _ _ NU.out (fun _ => ?_)
      clear hK K
      have NX := st11110 (u.alloc (.cells #[] 123)) gL gB u.heap.size q NU.out (KY.row FL.out (by decide)) (KY.row FB.out (by decide)) NS.out ⟨KY.vb FA.out.1 (by decide), FA.out.2⟩
      rw [HG.out] at NX
      exact NX
  have st11100 : ∀ (u : World) (gL : Nat) (gB : Nat) (gS : Nat), (Below W.heap.size W u) → (Ls 125 u W.heap.size (.slice (some ⟨gL, 0, none⟩) 0 0) []) → (Prs 129 u W.heap.size (.slice (some ⟨gB, 0, none⟩) 0 0) []) → (Prs 123 u W.heap.size (.slice (some ⟨gS, 0, none⟩) 0 0) []) → G 6 #[true, true, true, false, true, true, true, false, true, true, true, false, false, false, false] { tmps := #[.agg #[.slice a0 n0 c0, .slice a1 n1 c1, .slice a2 n2 c2, .slice a3 n3 c3], .pointer (some ⟨s, 0, none⟩), .pointer (some ⟨s + 1, 0, none⟩), undef, undef, .slice (some ⟨gL, 0, none⟩) 0 0, .pointer (some ⟨s, 1, none⟩), .slice a1 n1 c1, undef, .slice (some ⟨gB, 0, none⟩) 0 0, .pointer (some ⟨s, 2, none⟩), .slice a2 n2 c2, undef, .slice (some ⟨gS, 0, none⟩) 0 0, .pointer (some ⟨s, 3, none⟩), .slice a3 n3 c3, undef, undef, undef, undef, undef, undef, undef, undef, undef, undef, undef, undef, undef, undef, undef, undef, undef, undef, undef, undef, undef, undef], defers := [] } u := by
    intro u gL gB gS hSU hFL hFB hFS
    have SU : Hid (Below W.heap.size W u) := hSU
    have FL : Hid (Ls 125 u W.heap.size (.slice (some ⟨gL, 0, none⟩) 0 0) []) := hFL
    have FB : Hid (Prs 129 u W.heap.size (.slice (some ⟨gB, 0, none⟩) 0 0) []) := hFB
    have FS : Hid (Prs 123 u W.heap.size (.slice (some ⟨gS, 0, none⟩) 0 0) []) := hFS
    clear hSU hFL hFB hFS
    rw [HG.out]
    refine wpAnyH_ready (rs := [3, 13]) (by kernel_rfl) (by simp) ?_
    refine AllReadyH.cons rfl (fun K hK => ?_) (AllReadyH.cons rfl (fun K hK => ?_) AllReadyH.nil)
    · skip
      refine step_apL rfl (.tmp 5) (.tmp 7) rfl W.heap.size gL rfl FL.out a1 n1 c1 P.lanes rfl (D.out.lanes.stay SU.out) (by have := SMP.out.lanes; omega) SU.out.size ?_
      intro lL kL u' hP hG'
      have KY : Ky (some 125) u u' := ky_grown FL.out hG'
      have NL : Hid (Ls 125 u' W.heap.size (.slice lL n1 kL) P.lanes) := hP
      change K (Act.put _ (some 8) _) _
      simp only [Act.put, zT, zZ, zS]
      have NU : Hid (Below W.heap.size W u') := SU.out.grown hG' SU.out.size (fun k e => by have e : gL = k := (by simpa using e); have := (World.ownsRow.lt FL.out gL rfl).1; omega)
      refine hK.out _ _ NU.out (fun _ => ?_)
      clear hK K
      have NX := st21100 u' gL lL kL gB gS NU.out NL.out (KY.row FB.out (by decide)) (KY.row FS.out (by decide))
      rw [HG.out] at NX
      exact NX
    · skip
      rw [if_pos (by rfl)]
      go_simp
      have KY : Ky none u (u.alloc (.cells #[.slice none 0 0, .slice none 0 0, .slice none 0 0, .slice none 0 0] 37)) := ky_below (al (Below.refl _ _) _)
      have NA : Hid (Vb (u.alloc (.cells #[.slice none 0 0, .slice none 0 0, .slice none 0 0, .slice none 0 0] 37)) u.heap.size #[.slice none 0 0, .slice none 0 0, .slice none 0 0, .slice none 0 0] 37 ∧ W.heap.size ≤ u.heap.size) := ⟨Vb.new _ _ _, SU.out.size⟩
      have NU : Hid (Below W.heap.size W (u.alloc (.cells #[.slice none 0 0, .slice none 0 0, .slice none 0 0, .slice none 0 0] 37))) := al SU.out _
      refine hK.out _ _ NU.out (fun _ => ?_)
      clear hK K
      have NX := st11110 (u.alloc (.cells #[.slice none 0 0, .slice none 0 0, .slice none 0 0, .slice none 0 0] 37)) gL gB gS u.heap.size NU.out (KY.row FL.out (by decide)) (KY.row FB.out (by decide)) (KY.row FS.out (by decide)) NA.out
      rw [HG.out] at NX
      exact NX
  have st20010 : ∀ (u : World) (gL : Nat) (lL : Option Addr) (kL : Nat) (q : Nat), (Below W.heap.size W u) → (Ls 125 u W.heap.size (.slice lL n1 kL) P.lanes) → (Vb u q #[.slice none 0 0, .slice none 0 0, .slice none 0 0, .slice none 0 0] 37 ∧ W.heap.size ≤ q) → G 6 #[true, true, true, true, false, true, true, false, false, true, true, false, false, true, false] { tmps := #[.agg #[.slice a0 n0 c0, .slice a1 n1 c1, .slice a2 n2 c2, .slice a3 n3 c3], .pointer (some ⟨s, 0, none⟩), .pointer (some ⟨s + 1, 0, none⟩), .pointer (some ⟨q, 0, none⟩), undef, .slice (some ⟨gL, 0, none⟩) 0 0, .pointer (some ⟨s, 1, none⟩), .slice a1 n1 c1, .slice lL n1 kL, undef, .pointer (some ⟨s, 2, none⟩), .slice a2 n2 c2, undef, undef, .pointer (some ⟨s, 3, none⟩), .slice a3 n3 c3, undef, undef, undef, undef, undef, undef, undef, undef, undef, undef, undef, undef, undef, undef, undef, undef, undef, undef, undef, undef, undef, undef], defers := [] } u := by
    intro u gL lL kL q hSU hFL hFA
    have SU : Hid (Below W.heap.size W u) := hSU
    have FL : Hid (Ls 125 u W.heap.size (.slice lL n1 kL) P.lanes) := hFL
    have FA : Hid (Vb u q #[.slice none 0 0, .slice none 0 0, .slice none 0 0, .slice none 0 0] 37 ∧ W.heap.size ≤ q) := hFA
    clear hSU hFL hFA
    rw [HG.out]
    refine wpAnyH_ready (rs := [4, 8]) (by kernel_rfl) (by simp) ?_
    refine AllReadyH.cons rfl (fun K hK => ?_) (AllReadyH.cons rfl (fun K hK => ?_) AllReadyH.nil)
    · skip
      rw [if_pos (by rfl)]
      go_simp
      have KY : Ky none u (u.alloc (.cells #[] 129)) := ky_below (al (Below.refl _ _) _)
      have NB : Hid (Prs 129 (u.alloc (.cells #[] 129)) W.heap.size (.slice (some ⟨u.heap.size, 0, none⟩) 0 0) []) := World.ownsRow_lit u #[] 0 SU.out.size (by decide) rfl
      have NU : Hid (Below W.heap.size W (u.alloc (.cells #[] 129))) := al SU.out _
      refine hK.out _ _ NU.out (fun _ => ?_)
      clear hK K
      have NX := st21010 (u.alloc (.cells #[] 129)) gL lL kL u.heap.size q NU.out (KY.row FL.out (by decide)) NB.out ⟨KY.vb FA.out.1 (by decide), FA.out.2⟩
      rw [HG.out] at NX
      exact NX
    · skip
      rw [if_pos (by rfl)]
      go_simp
      have KY : Ky none u (u.alloc (.cells #[] 123)) := ky_below (al (Below.refl _ _) _)
      have NS : Hid (Prs 123 (u.alloc (.cells #[] 123)) W.heap.size (.slice (some ⟨u.heap.size, 0, none⟩) 0 0) []) := World.ownsRow_lit u #[] 0 SU.out.size (by decide) rfl
      have NU : Hid (Below W.heap.size W (u.alloc (.cells #[] 123))) := al SU.out _
      refine hK.out _ _ NU.out (fun _ => ?_)
      clear hK K
      have NX := st20110 (u.alloc (.cells #[] 123)) gL lL kL u.heap.size q NU.out (KY.row FL.out (by decide)) NS.out ⟨KY.vb FA.out.1 (by decide), FA.out.2⟩
      rw [HG.out] at NX
      exact NX
  have st20100 : ∀ (u : World) (gL : Nat) (lL : Option Addr) (kL : Nat) (gS : Nat), (Below W.heap.size W u) → (Ls 125 u W.heap.size (.slice lL n1 kL) P.lanes) → (Prs 123 u W.heap.size (.slice (some ⟨gS, 0, none⟩) 0 0) []) → G 6 #[true, true, true, true, false, true, true, false, true, true, true, false, false, false, false] { tmps := #[.agg #[.slice a0 n0 c0, .slice a1 n1 c1, .slice a2 n2 c2, .slice a3 n3 c3], .pointer (some ⟨s, 0, none⟩), .pointer (some ⟨s + 1, 0, none⟩), undef, undef, .slice (some ⟨gL, 0, none⟩) 0 0, .pointer (some ⟨s, 1, none⟩), .slice a1 n1 c1, .slice lL n1 kL, undef, .pointer (some ⟨s, 2, none⟩), .slice a2 n2 c2, undef, .slice (some ⟨gS, 0, none⟩) 0 0, .pointer (some ⟨s, 3, none⟩), .slice a3 n3 c3, undef, undef, undef, undef, undef, undef, undef, undef, undef, undef, undef, undef, undef, undef, undef, undef, undef, undef, undef, undef, undef, undef], defers := [] } u := by
    intro u gL lL kL gS hSU hFL hFS
    have SU : Hid (Below W.heap.size W u) := hSU
    have FL : Hid (Ls 125 u W.heap.size (.slice lL n1 kL) P.lanes) := hFL
    have FS : Hid (Prs 123 u W.heap.size (.slice (some ⟨gS, 0, none⟩) 0 0) []) := hFS
    clear hSU hFL hFS
    rw [HG.out]
    refine wpAnyH_ready (rs := [4, 13]) (by kernel_rfl) (by simp) ?_
    refine AllReadyH.cons rfl (fun K hK => ?_) (AllReadyH.cons rfl (fun K hK => ?_) AllReadyH.nil)
    · skip
      rw [if_pos (by rfl)]
      go_simp
      have KY : Ky none u (u.alloc (.cells #[] 129)) := ky_below (al (Below.refl _ _) _)
      have NB : Hid (Prs 129 (u.alloc (.cells #[] 129)) W.heap.size (.slice (some ⟨u.heap.size, 0, none⟩) 0 0) []) := World.ownsRow_lit u #[] 0 SU.out.size (by decide) rfl
      have NU : Hid (Below W.heap.size W (u.alloc (.cells #[] 129))) := al SU.out _
      refine hK.out _ _ NU.out (fun _ => ?_)
      clear hK K
      have NX := st21100 (u.alloc (.cells #[] 129)) gL lL kL u.heap.size gS NU.out (KY.row FL.out (by decide)) NB.out (KY.row FS.out (by decide))
      rw [HG.out] at NX
      exact NX
    · skip
      rw [if_pos (by rfl)]
      go_simp
      have KY : Ky none u (u.alloc (.cells #[.slice none 0 0, .slice none 0 0, .slice none 0 0, .slice none 0 0] 37)) := ky_below (al (Below.refl _ _) _)
      have NA : Hid (Vb (u.alloc (.cells #[.slice none 0 0, .slice none 0 0, .slice none 0 0, .slice none 0 0] 37)) u.heap.size #[.slice none 0 0, .slice none 0 0, .slice none 0 0, .slice none 0 0] 37 ∧ W.heap.size ≤ u.heap.size) := ⟨Vb.new _ _ _, SU.out.size⟩
      have NU : Hid (Below W.heap.size W (u.alloc (.cells #[.slice none 0 0, .slice none 0 0, .slice none 0 0, .slice none 0 0] 37))) := al SU.out _
      refine hK.out _ _ NU.out (fun _ => ?_)
      clear hK K
      have NX := st20110 (u.alloc (.cells #[.slice none 0 0, .slice none 0 0, .slice none 0 0, .slice none 0 0] 37)) gL lL kL gS u.heap.size NU.out (KY.row FL.out (by decide)) (KY.row FS.out (by decide)) NA.out
      rw [HG.out] at NX
      exact NX
  have st21000 : ∀ (u : World) (gL : Nat) (lL : Option Addr) (kL : Nat) (gB : Nat), (Below W.heap.size W u) → (Ls 125 u W.heap.size (.slice lL n1 kL) P.lanes) → (Prs 129 u W.heap.size (.slice (some ⟨gB, 0, none⟩) 0 0) []) → G 6 #[true, true, true, true, true, true, true, false, false, true, true, false, false, false, false] { tmps := #[.agg #[.slice a0 n0 c0, .slice a1 n1 c1, .slice a2 n2 c2, .slice a3 n3 c3], .pointer (some ⟨s, 0, none⟩), .pointer (some ⟨s + 1, 0, none⟩), undef, undef, .slice (some ⟨gL, 0, none⟩) 0 0, .pointer (some ⟨s, 1, none⟩), .slice a1 n1 c1, .slice lL n1 kL, .slice (some ⟨gB, 0, none⟩) 0 0, .pointer (some ⟨s, 2, none⟩), .slice a2 n2 c2, undef, undef, .pointer (some ⟨s, 3, none⟩), .slice a3 n3 c3, undef, undef, undef, undef, undef, undef, undef, undef, undef, undef, undef, undef, undef, undef, undef, undef, undef, undef, undef, undef, undef, undef], defers := [] } u := by
    intro u gL lL kL gB hSU hFL hFB
    have SU : Hid (Below W.heap.size W u) := hSU
    have FL : Hid (Ls 125 u W.heap.size (.slice lL n1 kL) P.lanes) := hFL
    have FB : Hid (Prs 129 u W.heap.size (.slice (some ⟨gB, 0, none⟩) 0 0) []) := hFB
    clear hSU hFL hFB
    rw [HG.out]
    refine wpAnyH_ready (rs := [7, 8, 13]) (by kernel_rfl) (by simp) ?_
    refine AllReadyH.cons rfl (fun K hK => ?_) (AllReadyH.cons rfl (fun K hK => ?_) (AllReadyH.cons rfl (fun K hK => ?_) AllReadyH.nil))
    · skip
      refine step_apB rfl (.tmp 9) (.tmp 11) rfl W.heap.size gB rfl FB.out a2 n2 c2 P.bells rfl (D.out.bells.stay SU.out) (by have := SMP.out.bells; omega) SU.out.size ?_
      intro lB kB u' hP hG'
      have KY : Ky (some 129) u u' := ky_grown FB.out hG'
      have NB : Hid (Prs 129 u' W.heap.size (.slice lB n2 kB) P.bells) := hP
      change K (Act.put _ (some 12) _) _
      simp only [Act.put, zT, zZ, zS]
      have NU : Hid (Below W.heap.size W u') := SU.out.grown hG' SU.out.size (fun k e => by have e : gB = k := (by simpa using e); have := (World.ownsRow.lt FB.out gB rfl).1; omega)
      refine hK.out _ _ NU.out (fun _ => ?_)
      clear hK K
      have NX := st22000 u' gL lL kL gB lB kB NU.out (KY.row FL.out (by decide)) NB.out
      rw [HG.out] at NX
      exact NX
    · skip
      rw [if_pos (by rfl)]
      go_simp
      have KY : Ky none u (u.alloc (.cells #[] 123)) := ky_below (al (Below.refl _ _) _)
      have NS : Hid (Prs 123 (u.alloc (.cells #[] 123)) W.heap.size (.slice (some ⟨u.heap.size, 0, none⟩) 0 0) []) := World.ownsRow_lit u #[] 0 SU.out.size (by decide) rfl
      have NU : Hid (Below W.heap.size W (u.alloc (.cells #[] 123))) := al SU.out _
      refine hK.out _ _ NU.out (fun _ => ?_)
      clear hK K
      have NX := st21100 (u.alloc (.cells #[] 123)) gL lL kL gB u.heap.size NU.out (KY.row FL.out (by decide)) (KY.row FB.out (by decide)) NS.out
      rw [HG.out] at NX
      exact NX
    · skip
      rw [if_pos (by rfl)]
      go_simp
      have KY : Ky none u (u.alloc (.cells #[.slice none 0 0, .slice none 0 0, .slice none 0 0, .slice none 0 0] 37)) := ky_below (al (Below.refl _ _) _)
      have NA : Hid (Vb (u.alloc (.cells #[.slice none 0 0, .slice none 0 0, .slice none 0 0, .slice none 0 0] 37)) u.heap.size #[.slice none 0 0, .slice none 0 0, .slice none 0 0, .slice none 0 0] 37 ∧ W.heap.size ≤ u.heap.size) := ⟨Vb.new _ _ _, SU.out.size⟩
      have NU : Hid (Below W.heap.size W (u.alloc (.cells #[.slice none 0 0, .slice none 0 0, .slice none 0 0, .slice none 0 0] 37))) := al SU.out _
      refine hK.out _ _ NU.out (fun _ => ?_)
      clear hK K
      have NX := st21010 (u.alloc (.cells #[.slice none 0 0, .slice none 0 0, .slice none 0 0, .slice none 0 0] 37)) gL lL kL gB u.heap.size NU.out (KY.row FL.out (by decide)) (KY.row FB.out (by decide)) NA.out
      rw [HG.out] at NX
      exact NX
  have st00110 : ∀ (u : World) (gS : Nat) (q : Nat), (Below W.heap.size W u) → (Prs 123 u W.heap.size (.slice (some ⟨gS, 0, none⟩) 0 0) []) → (Vb u q #[.slice none 0 0, .slice none 0 0, .slice none 0 0, .slice none 0 0] 37 ∧ W.heap.size ≤ q) → G 7 #[false, true, true, false, false, true, true, false, true, true, true, false, false, true, false] { tmps := #[.agg #[.slice a0 n0 c0, .slice a1 n1 c1, .slice a2 n2 c2, .slice a3 n3 c3], .pointer (some ⟨s, 0, none⟩), .pointer (some ⟨s + 1, 0, none⟩), .pointer (some ⟨q, 0, none⟩), undef, undef, .pointer (some ⟨s, 1, none⟩), .slice a1 n1 c1, undef, undef, .pointer (some ⟨s, 2, none⟩), .slice a2 n2 c2, undef, .slice (some ⟨gS, 0, none⟩) 0 0, .pointer (some ⟨s, 3, none⟩), .slice a3 n3 c3, undef, undef, undef, undef, undef, undef, undef, undef, undef, undef, undef, undef, undef, undef, undef, undef, undef, undef, undef, undef, undef, undef], defers := [] } u := by
    intro u gS q hSU hFS hFA
    have SU : Hid (Below W.heap.size W u) := hSU
    have FS : Hid (Prs 123 u W.heap.size (.slice (some ⟨gS, 0, none⟩) 0 0) []) := hFS
    have FA : Hid (Vb u q #[.slice none 0 0, .slice none 0 0, .slice none 0 0, .slice none 0 0] 37 ∧ W.heap.size ≤ q) := hFA
    clear hSU hFS hFA
    rw [HG.out]
    refine wpAnyH_ready (rs := [0, 4]) (by kernel_rfl) (by simp) ?_
    refine AllReadyH.cons rfl (fun K hK => ?_) (AllReadyH.cons rfl (fun K hK => ?_) AllReadyH.nil)
    · skip
      rw [if_pos (by rfl)]
      go_simp
      have KY : Ky none u (u.alloc (.cells #[] 125)) := ky_below (al (Below.refl _ _) _)
      have NL : Hid (Ls 125 (u.alloc (.cells #[] 125)) W.heap.size (.slice (some ⟨u.heap.size, 0, none⟩) 0 0) []) := World.ownsRow_lit u #[] 0 SU.out.size (by decide) rfl
      have NU : Hid (Below W.heap.size W (u.alloc (.cells #[] 125))) := al SU.out _
      refine hK.out _ _ NU.out (fun _ => ?_)
      clear hK K
      have NX := st10110 (u.alloc (.cells #[] 125)) u.heap.size gS q NU.out NL.out (KY.row FS.out (by decide)) ⟨KY.vb FA.out.1 (by decide), FA.out.2⟩
      rw [HG.out] at NX
      exact NX
    · skip
      rw [if_pos (by rfl)]
      go_simp
      have KY : Ky none u (u.alloc (.cells #[] 129)) := ky_below (al (Below.refl _ _) _)
      have NB : Hid (Prs 129 (u.alloc (.cells #[] 129)) W.heap.size (.slice (some ⟨u.heap.size, 0, none⟩) 0 0) []) := World.ownsRow_lit u #[] 0 SU.out.size (by decide) rfl
      have NU : Hid (Below W.heap.size W (u.alloc (.cells #[] 129))) := al SU.out _
      refine hK.out _ _ NU.out (fun _ => ?_)
      clear hK K
      have NX := st01110 (u.alloc (.cells #[] 129)) u.heap.size gS q NU.out NB.out (KY.row FS.out (by decide)) ⟨KY.vb FA.out.1 (by decide), FA.out.2⟩
      rw [HG.out] at NX
      exact NX
  have st01010 : ∀ (u : World) (gB : Nat) (q : Nat), (Below W.heap.size W u) → (Prs 129 u W.heap.size (.slice (some ⟨gB, 0, none⟩) 0 0) []) → (Vb u q #[.slice none 0 0, .slice none 0 0, .slice none 0 0, .slice none 0 0] 37 ∧ W.heap.size ≤ q) → G 7 #[false, true, true, false, true, true, true, false, false, true, true, false, false, true, false] { tmps := #[.agg #[.slice a0 n0 c0, .slice a1 n1 c1, .slice a2 n2 c2, .slice a3 n3 c3], .pointer (some ⟨s, 0, none⟩), .pointer (some ⟨s + 1, 0, none⟩), .pointer (some ⟨q, 0, none⟩), undef, undef, .pointer (some ⟨s, 1, none⟩), .slice a1 n1 c1, undef, .slice (some ⟨gB, 0, none⟩) 0 0, .pointer (some ⟨s, 2, none⟩), .slice a2 n2 c2, undef, undef, .pointer (some ⟨s, 3, none⟩), .slice a3 n3 c3, undef, undef, undef, undef, undef, undef, undef, undef, undef, undef, undef, undef, undef, undef, undef, undef, undef, undef, undef, undef, undef, undef], defers := [] } u := by
    intro u gB q hSU hFB hFA
    have SU : Hid (Below W.heap.size W u) := hSU
    have FB : Hid (Prs 129 u W.heap.size (.slice (some ⟨gB, 0, none⟩) 0 0) []) := hFB
    have FA : Hid (Vb u q #[.slice none 0 0, .slice none 0 0, .slice none 0 0, .slice none 0 0] 37 ∧ W.heap.size ≤ q) := hFA
    clear hSU hFB hFA
    rw [HG.out]
    refine wpAnyH_ready (rs := [0, 8]) (by kernel_rfl) (by simp) ?_
    refine AllReadyH.cons rfl (fun K hK => ?_) (AllReadyH.cons rfl (fun K hK => ?_) AllReadyH.nil)
    · skip
      rw [if_pos (by rfl)]
      go_simp
      have KY : Ky none u (u.alloc (.cells #[] 125)) := ky_below (al (Below.refl _ _) _)
      have NL : Hid (Ls 125 (u.alloc (.cells #[] 125)) W.heap.size (.slice (some ⟨u.heap.size, 0, none⟩) 0 0) []) := World.ownsRow_lit u #[] 0 SU.out.size (by decide) rfl
      have NU : Hid (Below W.heap.size W (u.alloc (.cells #[] 125))) := al SU.out _
      refine hK.out _ _ NU.out (fun _ => ?_)
      clear hK K
      have NX := st11010 (u.alloc (.cells #[] 125)) u.heap.size gB q NU.out NL.out (KY.row FB.out (by decide)) ⟨KY.vb FA.out.1 (by decide), FA.out.2⟩
      rw [HG.out] at NX
      exact NX
    · skip
      rw [if_pos (by rfl)]
      go_simp
      have KY : Ky none u (u.alloc (.cells #[] 123)) := ky_below (al (Below.refl _ _) _)
      have NS : Hid (Prs 123 (u.alloc (.cells #[] 123)) W.heap.size (.slice (some ⟨u.heap.size, 0, none⟩) 0 0) []) := World.ownsRow_lit u #[] 0 SU.out.size (by decide) rfl
      have NU : Hid (Below W.heap.size W (u.alloc (.cells #[] 123))) := al SU.out _
      refine hK.out _ _ NU.out (fun _ => ?_)
      clear hK K
      have NX := st01110 (u.alloc (.cells #[] 123)) gB u.heap.size q NU.out (KY.row FB.out (by decide)) NS.out ⟨KY.vb FA.out.1 (by decide), FA.out.2⟩
      rw [HG.out] at NX
      exact NX
  have st01100 : ∀ (u : World) (gB : Nat) (gS : Nat), (Below W.heap.size W u) → (Prs 129 u W.heap.size (.slice (some ⟨gB, 0, none⟩) 0 0) []) → (Prs 123 u W.heap.size (.slice (some ⟨gS, 0, none⟩) 0 0) []) → G 7 #[false, true, true, false, true, true, true, false, true, true, true, false, false, false, false] { tmps := #[.agg #[.slice a0 n0 c0, .slice a1 n1 c1, .slice a2 n2 c2, .slice a3 n3 c3], .pointer (some ⟨s, 0, none⟩), .pointer (some ⟨s + 1, 0, none⟩), undef, undef, undef, .pointer (some ⟨s, 1, none⟩), .slice a1 n1 c1, undef, .slice (some ⟨gB, 0, none⟩) 0 0, .pointer (some ⟨s, 2, none⟩), .slice a2 n2 c2, undef, .slice (some ⟨gS, 0, none⟩) 0 0, .pointer (some ⟨s, 3, none⟩), .slice a3 n3 c3, undef, undef, undef, undef, undef, undef, undef, undef, undef, undef, undef, undef, undef, undef, undef, undef, undef, undef, undef, undef, undef, undef], defers := [] } u := by
    intro u gB gS hSU hFB hFS
    have SU : Hid (Below W.heap.size W u) := hSU
    have FB : Hid (Prs 129 u W.heap.size (.slice (some ⟨gB, 0, none⟩) 0 0) []) := hFB
    have FS : Hid (Prs 123 u W.heap.size (.slice (some ⟨gS, 0, none⟩) 0 0) []) := hFS
    clear hSU hFB hFS
    rw [HG.out]
    refine wpAnyH_ready (rs := [0, 13]) (by kernel_rfl) (by simp) ?_
    refine AllReadyH.cons rfl (fun K hK => ?_) (AllReadyH.cons rfl (fun K hK => ?_) AllReadyH.nil)
    · skip
      rw [if_pos (by rfl)]
      go_simp
      have KY : Ky none u (u.alloc (.cells #[] 125)) := ky_below (al (Below.refl _ _) _)
      have NL : Hid (Ls 125 (u.alloc (.cells #[] 125)) W.heap.size (.slice (some ⟨u.heap.size, 0, none⟩) 0 0) []) := World.ownsRow_lit u #[] 0 SU.out.size (by decide) rfl
      have NU : Hid (Below W.heap.size W (u.alloc (.cells #[] 125))) := al SU.out _
      refine hK.out _ _ NU.out (fun _ => ?_)
      clear hK K
      have NX := st11100 (u.alloc (.cells #[] 125)) u.heap.size gB gS NU.out NL.out (KY.row FB.out (by decide)) (KY.row FS.out (by decide))
      rw [HG.out] at NX
      exact NX
    · skip
      rw [if_pos (by rfl)]
      go_simp
      have KY : Ky none u (u.alloc (.cells #[.slice none 0 0, .slice none 0 0, .slice none 0 0, .slice none 0 0] 37)) := ky_below (al (Below.refl _ _) _)
      have NA : Hid (Vb (u.alloc (.cells #[.slice none 0 0, .slice none 0 0, .slice none 0 0, .slice none 0 0] 37)) u.heap.size #[.slice none 0 0, .slice none 0 0, .slice none 0 0, .slice none 0 0] 37 ∧ W.heap.size ≤ u.heap.size) := ⟨Vb.new _ _ _, SU.out.size⟩
      have NU : Hid (Below W.heap.size W (u.alloc (.cells #[.slice none 0 0, .slice none 0 0, .slice none 0 0, .slice none 0 0] 37))) := al SU.out _
      refine hK.out _ _ NU.out (fun _ => ?_)
      clear hK K
      have NX := st01110 (u.alloc (.cells #[.slice none 0 0, .slice none 0 0, .slice none 0 0, .slice none 0 0] 37)) gB gS u.heap.size NU.out (KY.row FB.out (by decide)) (KY.row FS.out (by decide)) NA.out
      rw [HG.out] at NX
      exact NX
  have st10010 : ∀ (u : World) (gL : Nat) (q : Nat), (Below W.heap.size W u) → (Ls 125 u W.heap.size (.slice (some ⟨gL, 0, none⟩) 0 0) []) → (Vb u q #[.slice none 0 0, .slice none 0 0, .slice none 0 0, .slice none 0 0] 37 ∧ W.heap.size ≤ q) → G 7 #[true, true, true, false, false, true, true, false, false, true, true, false, false, true, false] { tmps := #[.agg #[.slice a0 n0 c0, .slice a1 n1 c1, .slice a2 n2 c2, .slice a3 n3 c3], .pointer (some ⟨s, 0, none⟩), .pointer (some ⟨s + 1, 0, none⟩), .pointer (some ⟨q, 0, none⟩), undef, .slice (some ⟨gL, 0, none⟩) 0 0, .pointer (some ⟨s, 1, none⟩), .slice a1 n1 c1, undef, undef, .pointer (some ⟨s, 2, none⟩), .slice a2 n2 c2, undef, undef, .pointer (some ⟨s, 3, none⟩), .slice a3 n3 c3, undef, undef, undef, undef, undef, undef, undef, undef, undef, undef, undef, undef, undef, undef, undef, undef, undef, undef, undef, undef, undef, undef], defers := [] } u := by
    intro u gL q hSU hFL hFA
    have SU : Hid (Below W.heap.size W u) := hSU
    have FL : Hid (Ls 125 u W.heap.size (.slice (some ⟨gL, 0, none⟩) 0 0) []) := hFL
    have FA : Hid (Vb u q #[.slice none 0 0, .slice none 0 0, .slice none 0 0, .slice none 0 0] 37 ∧ W.heap.size ≤ q) := hFA
    clear hSU hFL hFA
    rw [HG.out]
    refine wpAnyH_ready (rs := [3, 4, 8]) (by kernel_rfl) (by simp) ?_
    refine AllReadyH.cons rfl (fun K hK => ?_) (AllReadyH.cons rfl (fun K hK => ?_) (AllReadyH.cons rfl (fun K hK => ?_) AllReadyH.nil))
    · skip
      refine step_apL rfl (.tmp 5) (.tmp 7) rfl W.heap.size gL rfl FL.out a1 n1 c1 P.lanes rfl (D.out.lanes.stay SU.out) (by have := SMP.out.lanes; omega) SU.out.size ?_
      intro lL kL u' hP hG'
      have KY : Ky (some 125) u u' := ky_grown FL.out hG'
      have NL : Hid (Ls 125 u' W.heap.size (.slice lL n1 kL) P.lanes) := hP
      change K (Act.put _ (some 8) _) _
      simp only [Act.put, zT, zZ, zS]
      have NU : Hid (Below W.heap.size W u') := SU.out.grown hG' SU.out.size (fun k e => by have e : gL = k := (by simpa using e); have := (World.ownsRow.lt FL.out gL rfl).1; omega)
      refine hK.out _ _ NU.out (fun _ => ?_)
      clear hK K
      have NX := st20010 u' gL lL kL q NU.out NL.out ⟨KY.vb FA.out.1 (by decide), FA.out.2⟩
      rw [HG.out] at NX
      exact NX
    · skip
      rw [if_pos (by rfl)]
      go_simp
      have KY : Ky none u (u.alloc (.cells #[] 129)) := ky_below (al (Below.refl _ _) _)
      have NB : Hid (Prs 129 (u.alloc (.cells #[] 129)) W.heap.size (.slice (some ⟨u.heap.size, 0, none⟩) 0 0) []) := World.ownsRow_lit u #[] 0 SU.out.size (by decide) rfl
      have NU : Hid (Below W.heap.size W (u.alloc (.cells #[] 129))) := al SU.out _
      refine hK.out _ _ NU.out (fun _ => ?_)
      clear hK K
      have NX := st11010 (u.alloc (.cells #[] 129)) gL u.heap.size q NU.out (KY.row FL.out (by decide)) NB.out ⟨KY.vb FA.out.1 (by decide), FA.out.2⟩
      rw [HG.out] at NX
      exact NX
    · skip
      rw [if_pos (by rfl)]
      go_simp
      have KY : Ky none u (u.alloc (.cells #[] 123)) := ky_below (al (Below.refl _ _) _)
      have NS : Hid (Prs 123 (u.alloc (.cells #[] 123)) W.heap.size (.slice (some ⟨u.heap.size, 0, none⟩) 0 0) []) := World.ownsRow_lit u #[] 0 SU.out.size (by decide) rfl
      have NU : Hid (Below W.heap.size W (u.alloc (.cells #[] 123))) := al SU.out _
      refine hK.out _ _ NU.out (fun _ => ?_)
      clear hK K
      have NX := st10110 (u.alloc (.cells #[] 123)) gL u.heap.size q NU.out (KY.row FL.out (by decide)) NS.out ⟨KY.vb FA.out.1 (by decide), FA.out.2⟩
      rw [HG.out] at NX
      exact NX
  have st10100 : ∀ (u : World) (gL : Nat) (gS : Nat), (Below W.heap.size W u) → (Ls 125 u W.heap.size (.slice (some ⟨gL, 0, none⟩) 0 0) []) → (Prs 123 u W.heap.size (.slice (some ⟨gS, 0, none⟩) 0 0) []) → G 7 #[true, true, true, false, false, true, true, false, true, true, true, false, false, false, false] { tmps := #[.agg #[.slice a0 n0 c0, .slice a1 n1 c1, .slice a2 n2 c2, .slice a3 n3 c3], .pointer (some ⟨s, 0, none⟩), .pointer (some ⟨s + 1, 0, none⟩), undef, undef, .slice (some ⟨gL, 0, none⟩) 0 0, .pointer (some ⟨s, 1, none⟩), .slice a1 n1 c1, undef, undef, .pointer (some ⟨s, 2, none⟩), .slice a2 n2 c2, undef, .slice (some ⟨gS, 0, none⟩) 0 0, .pointer (some ⟨s, 3, none⟩), .slice a3 n3 c3, undef, undef, undef, undef, undef, undef, undef, undef, undef, undef, undef, undef, undef, undef, undef, undef, undef, undef, undef, undef, undef, undef], defers := [] } u := by
    intro u gL gS hSU hFL hFS
    have SU : Hid (Below W.heap.size W u) := hSU
    have FL : Hid (Ls 125 u W.heap.size (.slice (some ⟨gL, 0, none⟩) 0 0) []) := hFL
    have FS : Hid (Prs 123 u W.heap.size (.slice (some ⟨gS, 0, none⟩) 0 0) []) := hFS
    clear hSU hFL hFS
    rw [HG.out]
    refine wpAnyH_ready (rs := [3, 4, 13]) (by kernel_rfl) (by simp) ?_
    refine AllReadyH.cons rfl (fun K hK => ?_) (AllReadyH.cons rfl (fun K hK => ?_) (AllReadyH.cons rfl (fun K hK => ?_) AllReadyH.nil))
    · skip
      refine step_apL rfl (.tmp 5) (.tmp 7) rfl W.heap.size gL rfl FL.out a1 n1 c1 P.lanes rfl (D.out.lanes.stay SU.out) (by have := SMP.out.lanes; omega) SU.out.size ?_
      intro lL kL u' hP hG'
      have KY : Ky (some 125) u u' := ky_grown FL.out hG'
      have NL : Hid (Ls 125 u' W.heap.size (.slice lL n1 kL) P.lanes) := hP
      change K (Act.put _ (some 8) _) _
      simp only [Act.put, zT, zZ, zS]
      have NU : Hid (Below W.heap.size W u') := SU.out.grown hG' SU.out.size (fun k e => by have e : gL = k := (by simpa using e); have := (World.ownsRow.lt FL.out gL rfl).1; omega)
      refine hK.out _ _ NU.out (fun _ => ?_)
      clear hK K
      have NX := st20100 u' gL lL kL gS NU.out NL.out (KY.row FS.out (by decide))
      rw [HG.out] at NX
      exact NX
    · skip
      rw [if_pos (by rfl)]
      go_simp
      have KY : Ky none u (u.alloc (.cells #[] 129)) := ky_below (al (Below.refl _ _) _)
      have NB : Hid (Prs 129 (u.alloc (.cells #[] 129)) W.heap.size (.slice (some ⟨u.heap.size, 0, none⟩) 0 0) []) := World.ownsRow_lit u #[] 0 SU.out.size (by decide) rfl
      have NU : Hid (Below W.heap.size W (u.alloc (.cells #[] 129))) := al SU.out _
      refine hK.out _ _ NU.out (fun _ => ?_)
      clear hK K
      have NX := st11100 (u.alloc (.cells #[] 129)) gL u.heap.size gS NU.out (KY.row FL.out (by decide)) NB.out (KY.row FS.out (by decide))
      rw [HG.out] at NX
      exact NX
    · skip
      rw [if_pos (by rfl)]
      go_simp
      have KY : Ky none u (u.alloc (.cells #[.slice none 0 0, .slice none 0 0, .slice none 0 0, .slice none 0 0] 37)) := ky_below (al (Below.refl _ _) _)
      have NA : Hid (Vb (u.alloc (.cells #[.slice none 0 0, .slice none 0 0, .slice none 0 0, .slice none 0 0] 37)) u.heap.size #[.slice none 0 0, .slice none 0 0, .slice none 0 0, .slice none 0 0] 37 ∧ W.heap.size ≤ u.heap.size) := ⟨Vb.new _ _ _, SU.out.size⟩
      have NU : Hid (Below W.heap.size W (u.alloc (.cells #[.slice none 0 0, .slice none 0 0, .slice none 0 0, .slice none 0 0] 37))) := al SU.out _
      refine hK.out _ _ NU.out (fun _ => ?_)
      clear hK K
      have NX := st10110 (u.alloc (.cells #[.slice none 0 0, .slice none 0 0, .slice none 0 0, .slice none 0 0] 37)) gL gS u.heap.size NU.out (KY.row FL.out (by decide)) (KY.row FS.out (by decide)) NA.out
      rw [HG.out] at NX
      exact NX
  have st11000 : ∀ (u : World) (gL : Nat) (gB : Nat), (Below W.heap.size W u) → (Ls 125 u W.heap.size (.slice (some ⟨gL, 0, none⟩) 0 0) []) → (Prs 129 u W.heap.size (.slice (some ⟨gB, 0, none⟩) 0 0) []) → G 7 #[true, true, true, false, true, true, true, false, false, true, true, false, false, false, false] { tmps := #[.agg #[.slice a0 n0 c0, .slice a1 n1 c1, .slice a2 n2 c2, .slice a3 n3 c3], .pointer (some ⟨s, 0, none⟩), .pointer (some ⟨s + 1, 0, none⟩), undef, undef, .slice (some ⟨gL, 0, none⟩) 0 0, .pointer (some ⟨s, 1, none⟩), .slice a1 n1 c1, undef, .slice (some ⟨gB, 0, none⟩) 0 0, .pointer (some ⟨s, 2, none⟩), .slice a2 n2 c2, undef, undef, .pointer (some ⟨s, 3, none⟩), .slice a3 n3 c3, undef, undef, undef, undef, undef, undef, undef, undef, undef, undef, undef, undef, undef, undef, undef, undef, undef, undef, undef, undef, undef, undef], defers := [] } u := by
    intro u gL gB hSU hFL hFB
    have SU : Hid (Below W.heap.size W u) := hSU
    have FL : Hid (Ls 125 u W.heap.size (.slice (some ⟨gL, 0, none⟩) 0 0) []) := hFL
    have FB : Hid (Prs 129 u W.heap.size (.slice (some ⟨gB, 0, none⟩) 0 0) []) := hFB
    clear hSU hFL hFB
    rw [HG.out]
    refine wpAnyH_ready (rs := [3, 8, 13]) (by kernel_rfl) (by simp) ?_
    refine AllReadyH.cons rfl (fun K hK => ?_) (AllReadyH.cons rfl (fun K hK => ?_) (AllReadyH.cons rfl (fun K hK => ?_) AllReadyH.nil))
    · skip
      refine step_apL rfl (.tmp 5) (.tmp 7) rfl W.heap.size gL rfl FL.out a1 n1 c1 P.lanes rfl (D.out.lanes.stay SU.out) (by have := SMP.out.lanes; omega) SU.out.size ?_
      intro lL kL u' hP hG'
      have KY : Ky (some 125) u u' := ky_grown FL.out hG'
      have NL : Hid (Ls 125 u' W.heap.size (.slice lL n1 kL) P.lanes) := hP
      change K (Act.put _ (some 8) _) _
      simp only [Act.put, zT, zZ, zS]
      have NU : Hid (Below W.heap.size W u') := SU.out.grown hG' SU.out.size (fun k e => by have e : gL = k := (by simpa using e); have := (World.ownsRow.lt FL.out gL rfl).1; omega)
      refine hK.out _ _ NU.out (fun _ => ?_)
      clear hK K
      have NX := st21000 u' gL lL kL gB NU.out NL.out (KY.row FB.out (by decide))
      rw [HG.out] at NX
      exact NX
    · skip
      rw [if_pos (by rfl)]
      go_simp
      have KY : Ky none u (u.alloc (.cells #[] 123)) := ky_below (al (Below.refl _ _) _)
      have NS : Hid (Prs 123 (u.alloc (.cells #[] 123)) W.heap.size (.slice (some ⟨u.heap.size, 0, none⟩) 0 0) []) := World.ownsRow_lit u #[] 0 SU.out.size (by decide) rfl
      have NU : Hid (Below W.heap.size W (u.alloc (.cells #[] 123))) := al SU.out _
      refine hK.out _ _ NU.out (fun _ => ?_)
      clear hK K
      have NX := st11100 (u.alloc (.cells #[] 123)) gL gB u.heap.size NU.out (KY.row FL.out (by decide)) (KY.row FB.out (by decide)) NS.out
      rw [HG.out] at NX
      exact NX
    · skip
      rw [if_pos (by rfl)]
      go_simp
      have KY : Ky none u (u.alloc (.cells #[.slice none 0 0, .slice none 0 0, .slice none 0 0, .slice none 0 0] 37)) := ky_below (al (Below.refl _ _) _)
      have NA : Hid (Vb (u.alloc (.cells #[.slice none 0 0, .slice none 0 0, .slice none 0 0, .slice none 0 0] 37)) u.heap.size #[.slice none 0 0, .slice none 0 0, .slice none 0 0, .slice none 0 0] 37 ∧ W.heap.size ≤ u.heap.size) := ⟨Vb.new _ _ _, SU.out.size⟩
      have NU : Hid (Below W.heap.size W (u.alloc (.cells #[.slice none 0 0, .slice none 0 0, .slice none 0 0, .slice none 0 0] 37))) := al SU.out _
      refine hK.out _ _ NU.out (fun _ => ?_)
      clear hK K
      have NX := st11010 (u.alloc (.cells #[.slice none 0 0, .slice none 0 0, .slice none 0 0, .slice none 0 0] 37)) gL gB u.heap.size NU.out (KY.row FL.out (by decide)) (KY.row FB.out (by decide)) NA.out
      rw [HG.out] at NX
      exact NX
  have st20000 : ∀ (u : World) (gL : Nat) (lL : Option Addr) (kL : Nat), (Below W.heap.size W u) → (Ls 125 u W.heap.size (.slice lL n1 kL) P.lanes) → G 7 #[true, true, true, true, false, true, true, false, false, true, true, false, false, false, false] { tmps := #[.agg #[.slice a0 n0 c0, .slice a1 n1 c1, .slice a2 n2 c2, .slice a3 n3 c3], .pointer (some ⟨s, 0, none⟩), .pointer (some ⟨s + 1, 0, none⟩), undef, undef, .slice (some ⟨gL, 0, none⟩) 0 0, .pointer (some ⟨s, 1, none⟩), .slice a1 n1 c1, .slice lL n1 kL, undef, .pointer (some ⟨s, 2, none⟩), .slice a2 n2 c2, undef, undef, .pointer (some ⟨s, 3, none⟩), .slice a3 n3 c3, undef, undef, undef, undef, undef, undef, undef, undef, undef, undef, undef, undef, undef, undef, undef, undef, undef, undef, undef, undef, undef, undef], defers := [] } u := by
    intro u gL lL kL hSU hFL
    have SU : Hid (Below W.heap.size W u) := hSU
    have FL : Hid (Ls 125 u W.heap.size (.slice lL n1 kL) P.lanes) := hFL
    clear hSU hFL
    rw [HG.out]
    refine wpAnyH_ready (rs := [4, 8, 13]) (by kernel_rfl) (by simp) ?_
    refine AllReadyH.cons rfl (fun K hK => ?_) (AllReadyH.cons rfl (fun K hK => ?_) (AllReadyH.cons rfl (fun K hK => ?_) AllReadyH.nil))
    · skip
      rw [if_pos (by rfl)]
      go_simp
      have KY : Ky none u (u.alloc (.cells #[] 129)) := ky_below (al (Below.refl _ _) _)
      have NB : Hid (Prs 129 (u.alloc (.cells #[] 129)) W.heap.size (.slice (some ⟨u.heap.size, 0, none⟩) 0 0) []) := World.ownsRow_lit u #[] 0 SU.out.size (by decide) rfl
      have NU : Hid (Below W.heap.size W (u.alloc (.cells #[] 129))) := al SU.out _
      refine hK.out _ _ NU.out (fun _ => ?_)
      clear hK K
      have NX := st21000 (u.alloc (.cells #[] 129)) gL lL kL u.heap.size NU.out (KY.row FL.out (by decide)) NB.out
      rw [HG.out] at NX
      exact NX
    · skip
      rw [if_pos (by rfl)]
      go_simp
      have KY : Ky none u (u.alloc (.cells #[] 123)) := ky_below (al (Below.refl _ _) _)
      have NS : Hid (Prs 123 (u.alloc (.cells #[] 123)) W.heap.size (.slice (some ⟨u.heap.size, 0, none⟩) 0 0) []) := World.ownsRow_lit u #[] 0 SU.out.size (by decide) rfl
      have NU : Hid (Below W.heap.size W (u.alloc (.cells #[] 123))) := al SU.out _
      refine hK.out _ _ NU.out (fun _ => ?_)
      clear hK K
      have NX := st20100 (u.alloc (.cells #[] 123)) gL lL kL u.heap.size NU.out (KY.row FL.out (by decide)) NS.out
      rw [HG.out] at NX
      exact NX
    · skip
      rw [if_pos (by rfl)]
      go_simp
      have KY : Ky none u (u.alloc (.cells #[.slice none 0 0, .slice none 0 0, .slice none 0 0, .slice none 0 0] 37)) := ky_below (al (Below.refl _ _) _)
      have NA : Hid (Vb (u.alloc (.cells #[.slice none 0 0, .slice none 0 0, .slice none 0 0, .slice none 0 0] 37)) u.heap.size #[.slice none 0 0, .slice none 0 0, .slice none 0 0, .slice none 0 0] 37 ∧ W.heap.size ≤ u.heap.size) := ⟨Vb.new _ _ _, SU.out.size⟩
      have NU : Hid (Below W.heap.size W (u.alloc (.cells #[.slice none 0 0, .slice none 0 0, .slice none 0 0, .slice none 0 0] 37))) := al SU.out _
      refine hK.out _ _ NU.out (fun _ => ?_)
      clear hK K
      have NX := st20010 (u.alloc (.cells #[.slice none 0 0, .slice none 0 0, .slice none 0 0, .slice none 0 0] 37)) gL lL kL u.heap.size NU.out (KY.row FL.out (by decide)) NA.out
      rw [HG.out] at NX
      exact NX
  have st00010 : ∀ (u : World) (q : Nat), (Below W.heap.size W u) → (Vb u q #[.slice none 0 0, .slice none 0 0, .slice none 0 0, .slice none 0 0] 37 ∧ W.heap.size ≤ q) → G 8 #[false, true, true, false, false, true, true, false, false, true, true, false, false, true, false] { tmps := #[.agg #[.slice a0 n0 c0, .slice a1 n1 c1, .slice a2 n2 c2, .slice a3 n3 c3], .pointer (some ⟨s, 0, none⟩), .pointer (some ⟨s + 1, 0, none⟩), .pointer (some ⟨q, 0, none⟩), undef, undef, .pointer (some ⟨s, 1, none⟩), .slice a1 n1 c1, undef, undef, .pointer (some ⟨s, 2, none⟩), .slice a2 n2 c2, undef, undef, .pointer (some ⟨s, 3, none⟩), .slice a3 n3 c3, undef, undef, undef, undef, undef, undef, undef, undef, undef, undef, undef, undef, undef, undef, undef, undef, undef, undef, undef, undef, undef, undef], defers := [] } u := by
    intro u q hSU hFA
    have SU : Hid (Below W.heap.size W u) := hSU
    have FA : Hid (Vb u q #[.slice none 0 0, .slice none 0 0, .slice none 0 0, .slice none 0 0] 37 ∧ W.heap.size ≤ q) := hFA
    clear hSU hFA
    rw [HG.out]
    refine wpAnyH_ready (rs := [0, 4, 8]) (by kernel_rfl) (by simp) ?_
    refine AllReadyH.cons rfl (fun K hK => ?_) (AllReadyH.cons rfl (fun K hK => ?_) (AllReadyH.cons rfl (fun K hK => ?_) AllReadyH.nil))
    · skip
      rw [if_pos (by rfl)]
      go_simp
      have KY : Ky none u (u.alloc (.cells #[] 125)) := ky_below (al (Below.refl _ _) _)
      have NL : Hid (Ls 125 (u.alloc (.cells #[] 125)) W.heap.size (.slice (some ⟨u.heap.size, 0, none⟩) 0 0) []) := World.ownsRow_lit u #[] 0 SU.out.size (by decide) rfl
      have NU : Hid (Below W.heap.size W (u.alloc (.cells #[] 125))) := al SU.out _
      refine hK.out _ _ NU.out (fun _ => ?_)
      clear hK K
      have NX := st10010 (u.alloc (.cells #[] 125)) u.heap.size q NU.out NL.out ⟨KY.vb FA.out.1 (by decide), FA.out.2⟩
      rw [HG.out] at NX
      exact NX
    · skip
      rw [if_pos (by rfl)]
      go_simp
      have KY : Ky none u (u.alloc (.cells #[] 129)) := ky_below (al (Below.refl _ _) _)
      have NB : Hid (Prs 129 (u.alloc (.cells #[] 129)) W.heap.size (.slice (some ⟨u.heap.size, 0, none⟩) 0 0) []) := World.ownsRow_lit u #[] 0 SU.out.size (by decide) rfl
      have NU : Hid (Below W.heap.size W (u.alloc (.cells #[] 129))) := al SU.out _
      refine hK.out _ _ NU.out (fun _ => ?_)
      clear hK K
      have NX := st01010 (u.alloc (.cells #[] 129)) u.heap.size q NU.out NB.out ⟨KY.vb FA.out.1 (by decide), FA.out.2⟩
      rw [HG.out] at NX
      exact NX
    · skip
      rw [if_pos (by rfl)]
      go_simp
      have KY : Ky none u (u.alloc (.cells #[] 123)) := ky_below (al (Below.refl _ _) _)
      have NS : Hid (Prs 123 (u.alloc (.cells #[] 123)) W.heap.size (.slice (some ⟨u.heap.size, 0, none⟩) 0 0) []) := World.ownsRow_lit u #[] 0 SU.out.size (by decide) rfl
      have NU : Hid (Below W.heap.size W (u.alloc (.cells #[] 123))) := al SU.out _
      refine hK.out _ _ NU.out (fun _ => ?_)
      clear hK K
      have NX := st00110 (u.alloc (.cells #[] 123)) u.heap.size q NU.out NS.out ⟨KY.vb FA.out.1 (by decide), FA.out.2⟩
      rw [HG.out] at NX
      exact NX
  have st00100 : ∀ (u : World) (gS : Nat), (Below W.heap.size W u) → (Prs 123 u W.heap.size (.slice (some ⟨gS, 0, none⟩) 0 0) []) → G 8 #[false, true, true, false, false, true, true, false, true, true, true, false, false, false, false] { tmps := #[.agg #[.slice a0 n0 c0, .slice a1 n1 c1, .slice a2 n2 c2, .slice a3 n3 c3], .pointer (some ⟨s, 0, none⟩), .pointer (some ⟨s + 1, 0, none⟩), undef, undef, undef, .pointer (some ⟨s, 1, none⟩), .slice a1 n1 c1, undef, undef, .pointer (some ⟨s, 2, none⟩), .slice a2 n2 c2, undef, .slice (some ⟨gS, 0, none⟩) 0 0, .pointer (some ⟨s, 3, none⟩), .slice a3 n3 c3, undef, undef, undef, undef, undef, undef, undef, undef, undef, undef, undef, undef, undef, undef, undef, undef, undef, undef, undef, undef, undef, undef], defers := [] } u := by
    intro u gS hSU hFS
    have SU : Hid (Below W.heap.size W u) := hSU
    have FS : Hid (Prs 123 u W.heap.size (.slice (some ⟨gS, 0, none⟩) 0 0) []) := hFS
    clear hSU hFS
    rw [HG.out]
    refine wpAnyH_ready (rs := [0, 4, 13]) (by kernel_rfl) (by simp) ?_
    refine AllReadyH.cons rfl (fun K hK => ?_) (AllReadyH.cons rfl (fun K hK => ?_) (AllReadyH.cons rfl (fun K hK => ?_) AllReadyH.nil))
    · skip
      rw [if_pos (by rfl)]
      go_simp
      have KY : Ky none u (u.alloc (.cells #[] 125)) := ky_below (al (Below.refl _ _) _)
      have NL : Hid (Ls 125 (u.alloc (.cells #[] 125)) W.heap.size (.slice (some ⟨u.heap.size, 0, none⟩) 0 0) []) := World.ownsRow_lit u #[] 0 SU.out.size (by decide) rfl
      have NU : Hid (Below W.heap.size W (u.alloc (.cells #[] 125))) := al SU.out _
      refine hK.out _ _ NU.out (fun _ => ?_)
      clear hK K
      have NX := st10100 (u.alloc (.cells #[] 125)) u.heap.size gS NU.out NL.out (KY.row FS.out (by decide))
      rw [HG.out] at NX
      exact NX
    · skip
      rw [if_pos (by rfl)]
      go_simp
      have KY : Ky none u (u.alloc (.cells #[] 129)) := ky_below (al (Below.refl _ _) _)
      have NB : Hid (Prs 129 (u.alloc (.cells #[] 129)) W.heap.size (.slice (some ⟨u.heap.size, 0, none⟩) 0 0) []) := World.ownsRow_lit u #[] 0 SU.out.size (by decide) rfl
      have NU : Hid (Below W.heap.size W (u.alloc (.cells #[] 129))) := al SU.out _
      refine hK.out _ _ NU.out (fun _ => ?_)
      clear hK K
      have NX := st01100 (u.alloc (.cells #[] 129)) u.heap.size gS NU.out NB.out (KY.row FS.out (by decide))
      rw [HG.out] at NX
      exact NX
    · skip
      rw [if_pos (by rfl)]
      go_simp
      have KY : Ky none u (u.alloc (.cells #[.slice none 0 0, .slice none 0 0, .slice none 0 0, .slice none 0 0] 37)) := ky_below (al (Below.refl _ _) _)
      have NA : Hid (Vb (u.alloc (.cells #[.slice none 0 0, .slice none 0 0, .slice none 0 0, .slice none 0 0] 37)) u.heap.size #[.slice none 0 0, .slice none 0 0, .slice none 0 0, .slice none 0 0] 37 ∧ W.heap.size ≤ u.heap.size) := ⟨Vb.new _ _ _, SU.out.size⟩
      have NU : Hid (Below W.heap.size W (u.alloc (.cells #[.slice none 0 0, .slice none 0 0, .slice none 0 0, .slice none 0 0] 37))) := al SU.out _
      refine hK.out _ _ NU.out (fun _ => ?_)
      clear hK K
      have NX := st00110 (u.alloc (.cells #[.slice none 0 0, .slice none 0 0, .slice none 0 0, .slice none 0 0] 37)) gS u.heap.size NU.out (KY.row FS.out (by decide)) NA.out
      rw [HG.out] at NX
      exact NX
  have st01000 : ∀ (u : World) (gB : Nat), (Below W.heap.size W u) → (Prs 129 u W.heap.size (.slice (some ⟨gB, 0, none⟩) 0 0) []) → G 8 #[false, true, true, false, true, true, true, false, false, true, true, false, false, false, false] { tmps := #[.agg #[.slice a0 n0 c0, .slice a1 n1 c1, .slice a2 n2 c2, .slice a3 n3 c3], .pointer (some ⟨s, 0, none⟩), .pointer (some ⟨s + 1, 0, none⟩), undef, undef, undef, .pointer (some ⟨s, 1, none⟩), .slice a1 n1 c1, undef, .slice (some ⟨gB, 0, none⟩) 0 0, .pointer (some ⟨s, 2, none⟩), .slice a2 n2 c2, undef, undef, .pointer (some ⟨s, 3, none⟩), .slice a3 n3 c3, undef, undef, undef, undef, undef, undef, undef, undef, undef, undef, undef, undef, undef, undef, undef, undef, undef, undef, undef, undef, undef, undef], defers := [] } u := by
    intro u gB hSU hFB
    have SU : Hid (Below W.heap.size W u) := hSU
    have FB : Hid (Prs 129 u W.heap.size (.slice (some ⟨gB, 0, none⟩) 0 0) []) := hFB
    clear hSU hFB
    rw [HG.out]
    refine wpAnyH_ready (rs := [0, 8, 13]) (by kernel_rfl) (by simp) ?_
    refine AllReadyH.cons rfl (fun K hK => ?_) (AllReadyH.cons rfl (fun K hK => ?_) (AllReadyH.cons rfl (fun K hK => ?_) AllReadyH.nil))
    · skip
      rw [if_pos (by rfl)]
      go_simp
      have KY : Ky none u (u.alloc (.cells #[] 125)) := ky_below (al (Below.refl _ _) _)
      have NL : Hid (Ls 125 (u.alloc (.cells #[] 125)) W.heap.size (.slice (some ⟨u.heap.size, 0, none⟩) 0 0) []) := World.ownsRow_lit u #[] 0 SU.out.size (by decide) rfl
      have NU : Hid (Below W.heap.size W (u.alloc (.cells #[] 125))) := al SU.out _
      refine hK.out _ _ NU.out (fun _ => ?_)
      clear hK K
      have NX := st11000 (u.alloc (.cells #[] 125)) u.heap.size gB NU.out NL.out (KY.row FB.out (by decide))
      rw [HG.out] at NX
      exact NX
    · skip
      rw [if_pos (by rfl)]
      go_simp
      have KY : Ky none u (u.alloc (.cells #[] 123)) := ky_below (al (Below.refl _ _) _)
      have NS : Hid (Prs 123 (u.alloc (.cells #[] 123)) W.heap.size (.slice (some ⟨u.heap.size, 0, none⟩) 0 0) []) := World.ownsRow_lit u #[] 0 SU.out.size (by decide) rfl
      have NU : Hid (Below W.heap.size W (u.alloc (.cells #[] 123))) := al SU.out _
      refine hK.out _ _ NU.out (fun _ => ?_)
      clear hK K
      have NX := st01100 (u.alloc (.cells #[] 123)) gB u.heap.size NU.out (KY.row FB.out (by decide)) NS.out
      rw [HG.out] at NX
      exact NX
    · skip
      rw [if_pos (by rfl)]
      go_simp
      have KY : Ky none u (u.alloc (.cells #[.slice none 0 0, .slice none 0 0, .slice none 0 0, .slice none 0 0] 37)) := ky_below (al (Below.refl _ _) _)
      have NA : Hid (Vb (u.alloc (.cells #[.slice none 0 0, .slice none 0 0, .slice none 0 0, .slice none 0 0] 37)) u.heap.size #[.slice none 0 0, .slice none 0 0, .slice none 0 0, .slice none 0 0] 37 ∧ W.heap.size ≤ u.heap.size) := ⟨Vb.new _ _ _, SU.out.size⟩
      have NU : Hid (Below W.heap.size W (u.alloc (.cells #[.slice none 0 0, .slice none 0 0, .slice none 0 0, .slice none 0 0] 37))) := al SU.out _
      refine hK.out _ _ NU.out (fun _ => ?_)
      clear hK K
      have NX := st01010 (u.alloc (.cells #[.slice none 0 0, .slice none 0 0, .slice none 0 0, .slice none 0 0] 37)) gB u.heap.size NU.out (KY.row FB.out (by decide)) NA.out
      rw [HG.out] at NX
      exact NX
  have st10000 : ∀ (u : World) (gL : Nat), (Below W.heap.size W u) → (Ls 125 u W.heap.size (.slice (some ⟨gL, 0, none⟩) 0 0) []) → G 8 #[true, true, true, false, false, true, true, false, false, true, true, false, false, false, false] { tmps := #[.agg #[.slice a0 n0 c0, .slice a1 n1 c1, .slice a2 n2 c2, .slice a3 n3 c3], .pointer (some ⟨s, 0, none⟩), .pointer (some ⟨s + 1, 0, none⟩), undef, undef, .slice (some ⟨gL, 0, none⟩) 0 0, .pointer (some ⟨s, 1, none⟩), .slice a1 n1 c1, undef, undef, .pointer (some ⟨s, 2, none⟩), .slice a2 n2 c2, undef, undef, .pointer (some ⟨s, 3, none⟩), .slice a3 n3 c3, undef, undef, undef, undef, undef, undef, undef, undef, undef, undef, undef, undef, undef, undef, undef, undef, undef, undef, undef, undef, undef, undef], defers := [] } u := by
    intro u gL hSU hFL
    have SU : Hid (Below W.heap.size W u) := hSU
    have FL : Hid (Ls 125 u W.heap.size (.slice (some ⟨gL, 0, none⟩) 0 0) []) := hFL
    clear hSU hFL
    rw [HG.out]
    refine wpAnyH_ready (rs := [3, 4, 8, 13]) (by kernel_rfl) (by simp) ?_
    refine AllReadyH.cons rfl (fun K hK => ?_) (AllReadyH.cons rfl (fun K hK => ?_) (AllReadyH.cons rfl (fun K hK => ?_) (AllReadyH.cons rfl (fun K hK => ?_) AllReadyH.nil)))
    · skip
      refine step_apL rfl (.tmp 5) (.tmp 7) rfl W.heap.size gL rfl FL.out a1 n1 c1 P.lanes rfl (D.out.lanes.stay SU.out) (by have := SMP.out.lanes; omega) SU.out.size ?_
      intro lL kL u' hP hG'
      have KY : Ky (some 125) u u' := ky_grown FL.out hG'
      have NL : Hid (Ls 125 u' W.heap.size (.slice lL n1 kL) P.lanes) := hP
      change K (Act.put _ (some 8) _) _
      simp only [Act.put, zT, zZ, zS]
      have NU : Hid (Below W.heap.size W u') := SU.out.grown hG' SU.out.size (fun k e => by have e : gL = k := (by simpa using e); have := (World.ownsRow.lt FL.out gL rfl).1; omega)
      refine hK.out _ _ NU.out (fun _ => ?_)
      clear hK K
      have NX := st20000 u' gL lL kL NU.out NL.out
      rw [HG.out] at NX
      exact NX
    · skip
      rw [if_pos (by rfl)]
      go_simp
      have KY : Ky none u (u.alloc (.cells #[] 129)) := ky_below (al (Below.refl _ _) _)
      have NB : Hid (Prs 129 (u.alloc (.cells #[] 129)) W.heap.size (.slice (some ⟨u.heap.size, 0, none⟩) 0 0) []) := World.ownsRow_lit u #[] 0 SU.out.size (by decide) rfl
      have NU : Hid (Below W.heap.size W (u.alloc (.cells #[] 129))) := al SU.out _
      refine hK.out _ _ NU.out (fun _ => ?_)
      clear hK K
      have NX := st11000 (u.alloc (.cells #[] 129)) gL u.heap.size NU.out (KY.row FL.out (by decide)) NB.out
      rw [HG.out] at NX
      exact NX
    · skip
      rw [if_pos (by rfl)]
      go_simp
      have KY : Ky none u (u.alloc (.cells #[] 123)) := ky_below (al (Below.refl _ _) _)
      have NS : Hid (Prs 123 (u.alloc (.cells #[] 123)) W.heap.size (.slice (some ⟨u.heap.size, 0, none⟩) 0 0) []) := World.ownsRow_lit u #[] 0 SU.out.size (by decide) rfl
      have NU : Hid (Below W.heap.size W (u.alloc (.cells #[] 123))) := al SU.out _
      refine hK.out _ _ NU.out (fun _ => ?_)
      clear hK K
      have NX := st10100 (u.alloc (.cells #[] 123)) gL u.heap.size NU.out (KY.row FL.out (by decide)) NS.out
      rw [HG.out] at NX
      exact NX
    · skip
      rw [if_pos (by rfl)]
      go_simp
      have KY : Ky none u (u.alloc (.cells #[.slice none 0 0, .slice none 0 0, .slice none 0 0, .slice none 0 0] 37)) := ky_below (al (Below.refl _ _) _)
      have NA : Hid (Vb (u.alloc (.cells #[.slice none 0 0, .slice none 0 0, .slice none 0 0, .slice none 0 0] 37)) u.heap.size #[.slice none 0 0, .slice none 0 0, .slice none 0 0, .slice none 0 0] 37 ∧ W.heap.size ≤ u.heap.size) := ⟨Vb.new _ _ _, SU.out.size⟩
      have NU : Hid (Below W.heap.size W (u.alloc (.cells #[.slice none 0 0, .slice none 0 0, .slice none 0 0, .slice none 0 0] 37))) := al SU.out _
      refine hK.out _ _ NU.out (fun _ => ?_)
      clear hK K
      have NX := st10010 (u.alloc (.cells #[.slice none 0 0, .slice none 0 0, .slice none 0 0, .slice none 0 0] 37)) gL u.heap.size NU.out (KY.row FL.out (by decide)) NA.out
      rw [HG.out] at NX
      exact NX
  have st00000 : ∀ (u : World), (Below W.heap.size W u) → G 9 #[false, true, true, false, false, true, true, false, false, true, true, false, false, false, false] { tmps := #[.agg #[.slice a0 n0 c0, .slice a1 n1 c1, .slice a2 n2 c2, .slice a3 n3 c3], .pointer (some ⟨s, 0, none⟩), .pointer (some ⟨s + 1, 0, none⟩), undef, undef, undef, .pointer (some ⟨s, 1, none⟩), .slice a1 n1 c1, undef, undef, .pointer (some ⟨s, 2, none⟩), .slice a2 n2 c2, undef, undef, .pointer (some ⟨s, 3, none⟩), .slice a3 n3 c3, undef, undef, undef, undef, undef, undef, undef, undef, undef, undef, undef, undef, undef, undef, undef, undef, undef, undef, undef, undef, undef, undef], defers := [] } u := by
    intro u  hSU
    have SU : Hid (Below W.heap.size W u) := hSU
    clear hSU
    rw [HG.out]
    refine wpAnyH_ready (rs := [0, 4, 8, 13]) (by kernel_rfl) (by simp) ?_
    refine AllReadyH.cons rfl (fun K hK => ?_) (AllReadyH.cons rfl (fun K hK => ?_) (AllReadyH.cons rfl (fun K hK => ?_) (AllReadyH.cons rfl (fun K hK => ?_) AllReadyH.nil)))
    · skip
      rw [if_pos (by rfl)]
      go_simp
      have KY : Ky none u (u.alloc (.cells #[] 125)) := ky_below (al (Below.refl _ _) _)
      have NL : Hid (Ls 125 (u.alloc (.cells #[] 125)) W.heap.size (.slice (some ⟨u.heap.size, 0, none⟩) 0 0) []) := World.ownsRow_lit u #[] 0 SU.out.size (by decide) rfl
      have NU : Hid (Below W.heap.size W (u.alloc (.cells #[] 125))) := al SU.out _
      refine hK.out _ _ NU.out (fun _ => ?_)
      clear hK K
      have NX := st10000 (u.alloc (.cells #[] 125)) u.heap.size NU.out NL.out
      rw [HG.out] at NX
      exact NX
    · skip
      rw [if_pos (by rfl)]
      go_simp
      have KY : Ky none u (u.alloc (.cells #[] 129)) := ky_below (al (Below.refl _ _) _)
      have NB : Hid (Prs 129 (u.alloc (.cells #[] 129)) W.heap.size (.slice (some ⟨u.heap.size, 0, none⟩) 0 0) []) := World.ownsRow_lit u #[] 0 SU.out.size (by decide) rfl
      have NU : Hid (Below W.heap.size W (u.alloc (.cells #[] 129))) := al SU.out _
      refine hK.out _ _ NU.out (fun _ => ?_)
      clear hK K
      have NX := st01000 (u.alloc (.cells #[] 129)) u.heap.size NU.out NB.out
      rw [HG.out] at NX
      exact NX
    · skip
      rw [if_pos (by rfl)]
      go_simp
      have KY : Ky none u (u.alloc (.cells #[] 123)) := ky_below (al (Below.refl _ _) _)
      have NS : Hid (Prs 123 (u.alloc (.cells #[] 123)) W.heap.size (.slice (some ⟨u.heap.size, 0, none⟩) 0 0) []) := World.ownsRow_lit u #[] 0 SU.out.size (by decide) rfl
      have NU : Hid (Below W.heap.size W (u.alloc (.cells #[] 123))) := al SU.out _
      refine hK.out _ _ NU.out (fun _ => ?_)
      clear hK K
      have NX := st00100 (u.alloc (.cells #[] 123)) u.heap.size NU.out NS.out
      rw [HG.out] at NX
      exact NX
    · skip
      rw [if_pos (by rfl)]
      go_simp
      have KY : Ky none u (u.alloc (.cells #[.slice none 0 0, .slice none 0 0, .slice none 0 0, .slice none 0 0] 37)) := ky_below (al (Below.refl _ _) _)
      have NA : Hid (Vb (u.alloc (.cells #[.slice none 0 0, .slice none 0 0, .slice none 0 0, .slice none 0 0] 37)) u.heap.size #[.slice none 0 0, .slice none 0 0, .slice none 0 0, .slice none 0 0] 37 ∧ W.heap.size ≤ u.heap.size) := ⟨Vb.new _ _ _, SU.out.size⟩
      have NU : Hid (Below W.heap.size W (u.alloc (.cells #[.slice none 0 0, .slice none 0 0, .slice none 0 0, .slice none 0 0] 37))) := al SU.out _
      refine hK.out _ _ NU.out (fun _ => ?_)
      clear hK K
      have NX := st00010 (u.alloc (.cells #[.slice none 0 0, .slice none 0 0, .slice none 0 0, .slice none 0 0] 37)) u.heap.size NU.out NA.out
      rw [HG.out] at NX
      exact NX
  exact st00000 u0 S0.out
end Go.Proofs.YtggejbphdadckaaGreatDoor
