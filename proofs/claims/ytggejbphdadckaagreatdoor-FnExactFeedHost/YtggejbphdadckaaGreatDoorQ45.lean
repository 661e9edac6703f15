/- Texts of this seat, joined. -/
import Derived.Deep.RegionWith
import Derived.Deep.RegionHeld3
import Derived.Deep.Cut
import Derived.Deep.CutRange
import Derived.Test.YtggejbphdadckaaGreatDoorQ29
import Derived.Test.YtggejbphdadckaaGreatDoorQ34
import Derived.Test.YtggejbphdadckaaGreatDoorQ42
import Derived.Test.YtggejbphdadckaaGreatDoorQ44
namespace Go.Proofs.YtggejbphdadckaaGreatDoor
open Go.RowKit
set_option linter.unusedVariables false
theorem nineX {v : World} {q : Nat} {t : TypeId} {z0 z1 z2 z3 z4 z5 z6 z7 z8 : Value} (h : Vb v q #[z0, z1, z2, z3, z4, z5, z6, z7, z8] t) (u0 u1 u2 u3 u4 u5 u6 u7 u8 : Value) :
    Vb (v.setCells q 0 #[u0, u1, u2, u3, u4, u5, u6, u7, u8].toList) q #[u0, u1, u2, u3, u4, u5, u6, u7, u8] t ∧ Mq (fun k => k = q) v (v.setCells q 0 #[u0, u1, u2, u3, u4, u5, u6, u7, u8].toList) := by
  have h0 : Vb (v.setCell ⟨q, 0, none⟩ u0) q #[u0, z1, z2, z3, z4, z5, z6, z7, z8] t := h.set 0 u0
  have h1 : Vb ((v.setCell ⟨q, 0, none⟩ u0).setCell ⟨q, 1, none⟩ u1) q #[u0, u1, z2, z3, z4, z5, z6, z7, z8] t := h0.set 1 u1
  have h2 : Vb (((v.setCell ⟨q, 0, none⟩ u0).setCell ⟨q, 1, none⟩ u1).setCell ⟨q, 2, none⟩ u2) q #[u0, u1, u2, z3, z4, z5, z6, z7, z8] t := h1.set 2 u2
  have h3 : Vb ((((v.setCell ⟨q, 0, none⟩ u0).setCell ⟨q, 1, none⟩ u1).setCell ⟨q, 2, none⟩ u2).setCell ⟨q, 3, none⟩ u3) q #[u0, u1, u2, u3, z4, z5, z6, z7, z8] t := h2.set 3 u3
  have h4 : Vb (((((v.setCell ⟨q, 0, none⟩ u0).setCell ⟨q, 1, none⟩ u1).setCell ⟨q, 2, none⟩ u2).setCell ⟨q, 3, none⟩ u3).setCell ⟨q, 4, none⟩ u4) q #[u0, u1, u2, u3, u4, z5, z6, z7, z8] t := h3.set 4 u4
  have h5 : Vb ((((((v.setCell ⟨q, 0, none⟩ u0).setCell ⟨q, 1, none⟩ u1).setCell ⟨q, 2, none⟩ u2).setCell ⟨q, 3, none⟩ u3).setCell ⟨q, 4, none⟩ u4).setCell ⟨q, 5, none⟩ u5) q #[u0, u1, u2, u3, u4, u5, z6, z7, z8] t := h4.set 5 u5
  have h6 : Vb (((((((v.setCell ⟨q, 0, none⟩ u0).setCell ⟨q, 1, none⟩ u1).setCell ⟨q, 2, none⟩ u2).setCell ⟨q, 3, none⟩ u3).setCell ⟨q, 4, none⟩ u4).setCell ⟨q, 5, none⟩ u5).setCell ⟨q, 6, none⟩ u6) q #[u0, u1, u2, u3, u4, u5, u6, z7, z8] t := h5.set 6 u6
  have h7 : Vb ((((((((v.setCell ⟨q, 0, none⟩ u0).setCell ⟨q, 1, none⟩ u1).setCell ⟨q, 2, none⟩ u2).setCell ⟨q, 3, none⟩ u3).setCell ⟨q, 4, none⟩ u4).setCell ⟨q, 5, none⟩ u5).setCell ⟨q, 6, none⟩ u6).setCell ⟨q, 7, none⟩ u7) q #[u0, u1, u2, u3, u4, u5, u6, u7, z8] t := h6.set 7 u7
  have h8 : Vb (((((((((v.setCell ⟨q, 0, none⟩ u0).setCell ⟨q, 1, none⟩ u1).setCell ⟨q, 2, none⟩ u2).setCell ⟨q, 3, none⟩ u3).setCell ⟨q, 4, none⟩ u4).setCell ⟨q, 5, none⟩ u5).setCell ⟨q, 6, none⟩ u6).setCell ⟨q, 7, none⟩ u7).setCell ⟨q, 8, none⟩ u8) q #[u0, u1, u2, u3, u4, u5, u6, u7, u8] t := h7.set 8 u8
  exact ⟨h8, mq_cells q _ v 0⟩
structure Oq (w : World) (base : Nat) (v0 v1 v2 v3 v4 v5 : Value) (X : Hst) : Prop where
  own : SvO w base v0 X.pol.own
  lanes : Ls 125 w base v1 X.pol.lanes
  bells : Prs 129 w base v2 X.pol.bells
  plan : Prs 123 w base v3 X.pol.plan
  mem : Nums w base v4 X.mem
  harts : ∃ qs : List (V4 × Ht), w.ownsRow base 60 9 v5 qs.length (flat9 qs) ∧ qs.map Prod.snd = X.harts ∧ ∀ q ∈ qs, Hm w base q.1.r q.1.c q.1.i q.1.o q.2
theorem Oq.hq {w : World} {base : Nat} {v0 v1 v2 v3 v4 v5 : Value} {X : Hst} (h : Oq w base v0 v1 v2 v3 v4 v5 X) : Hq w base v0 v1 v2 v3 v4 v5 X := by
  obtain ⟨qs, h1, h2, h3⟩ := h.harts
  exact ⟨h.own.sv, h.lanes, h.bells, h.plan, h.mem.rv, row_hv h1 h2 h3⟩
theorem Oq.keep {w w' : World} {base : Nat} {v0 v1 v2 v3 v4 v5 : Value} {X : Hst} (h : Oq w base v0 v1 v2 v3 v4 v5 X) (b : Below w.heap.size w w') : Oq w' base v0 v1 v2 v3 v4 v5 X := by
  obtain ⟨qs, h1, h2, h3⟩ := h.harts
  exact ⟨h.own.keep b, h.lanes.keep b, h.bells.keep b, h.plan.keep b, h.mem.keep b, qs, row_keepX h1 b, h2, fun q hq => (h3 q hq).keep b⟩
theorem Oq.ho {w w' : World} {base : Nat} {v0 v1 v2 v3 v4 v5 : Value} {X : Hst} (h : Oq w base v0 v1 v2 v3 v4 v5 X) (k : Ho base w w') : Oq w' base v0 v1 v2 v3 v4 v5 X := by
  obtain ⟨qs, h1, h2, h3⟩ := h.harts
  obtain ⟨xs, k1, k2, k3⟩ := h.own
  exact ⟨⟨xs, k1, row_hoX k2 k, fun i x e => (k3 i x e).ho k⟩, row_hoX h.lanes k, row_hoX h.bells k, row_hoX h.plan k, h.mem.ho k, qs, row_hoX h1 k, h2, fun q hq => (h3 q hq).ho k⟩
theorem Oq.mono {w : World} {base base' : Nat} {v0 v1 v2 v3 v4 v5 : Value} {X : Hst} (h : Oq w base v0 v1 v2 v3 v4 v5 X) (hb : base' ≤ base) : Oq w base' v0 v1 v2 v3 v4 v5 X := by
  obtain ⟨qs, h1, h2, h3⟩ := h.harts
  exact ⟨h.own.mono hb, row_monoX h.lanes hb, row_monoX h.bells hb, row_monoX h.plan hb, h.mem.mono hb, qs, row_monoX h1 hb, h2, fun q hq => (h3 q hq).mono hb⟩
theorem Ow.oq {w : World} {base : Nat} {v0 v1 v2 v3 v4 v5 : Value} {X : Hst} {xs : List Value} {qs : List (V4 × Ht)} (h : Ow w base v0 v1 v2 v3 v4 v5 X xs qs) : Oq w base v0 v1 v2 v3 v4 v5 X :=
  ⟨⟨xs, h.xl, h.own, h.rows⟩, h.lanes, h.bells, h.plan, h.mem, qs, h.harts, h.qh, h.lists⟩
theorem oq_shapes {w : World} {base : Nat} {v0 v1 v2 v3 v4 v5 : Value} {X : Hst} (h : Oq w base v0 v1 v2 v3 v4 v5 X) : ∃ a0 a1 a2 a3 a4 a5 c0 c1 c2 c3 c4 c5 n0 n1 n2 n3 n4 n5, v0 = .slice a0 n0 c0 ∧ v1 = .slice a1 n1 c1 ∧ v2 = .slice a2 n2 c2 ∧ v3 = .slice a3 n3 c3 ∧ v4 = .slice a4 n4 c4 ∧ v5 = .slice a5 n5 c5 := by
  obtain ⟨qs, h1, _, _⟩ := h.harts
  obtain ⟨xs, _, k2, _⟩ := h.own
  obtain ⟨a0, c0, e0⟩ := row_shape k2
  obtain ⟨a1, c1, e1⟩ := row_shape h.lanes
  obtain ⟨a2, c2, e2⟩ := row_shape h.bells
  obtain ⟨a3, c3, e3⟩ := row_shape h.plan
  obtain ⟨a4, c4, e4, _⟩ := h.mem.shape
  obtain ⟨a5, c5, e5⟩ := row_shape h1
  exact ⟨a0, a1, a2, a3, a4, a5, c0, c1, c2, c3, c4, c5, _, _, _, _, _, _, e0, e1, e2, e3, e4, e5⟩
theorem ho_lessX {b b' : Nat} {w w' : World} (h : Ho b w w') (hb : b ≤ b') : Ho b' w w' := ⟨h.size, fun k hk => h.block k (by omega)⟩
theorem Mw.ky {E : TypeId} {w w' : World} {base j : Nat} {v : Value} {jss : List (List Int)} {qs : List (V4 × Ht)} (h : Mw w base v jss j qs) (k : Ky (some E) w w') (h1 : E ≠ 60) (h2 : E ≠ 2) : Mw w' base v jss j qs :=
  ⟨h.len, k.row h.row (fun e => h1 (by injection e with e; exact e.symm)), fun i q e => ⟨(h.one i q e).1, have m := (h.one i q e).2; have ne : some 2 ≠ some E := fun e => h2 (by injection e with e; exact e.symm); ⟨k.row m.r ne, k.row m.c ne, k.row m.i ne, k.row m.o ne⟩⟩, h.apart⟩
theorem Mw.hoX {w w' : World} {base j : Nat} {v : Value} {jss : List (List Int)} {qs : List (V4 × Ht)} (h : Mw w base v jss j qs) (k : Ho base w w') : Mw w' base v jss j qs :=
  ⟨h.len, row_hoX h.row k, fun i q e => ⟨(h.one i q e).1, (h.one i q e).2.ho k⟩, h.apart⟩
structure Mc (w : World) (base : Nat) (v : Value) (hs : List Ht) (j : Nat) (qs : List (V4 × Ht)) : Prop where
  len : qs.length = j
  row : w.ownsRow base 60 9 v qs.length (flat9 qs)
  one : ∀ (i : Nat) (q : V4 × Ht), qs[i]? = some q → q.2 = hs.getD i voidH ∧ Hm w base q.1.r q.1.c q.1.i q.1.o q.2
  apart : (qs.flatMap fun q => q.1.l).Pairwise Apt
theorem Mc.keep {w w' : World} {base j : Nat} {v : Value} {hs : List Ht} {qs : List (V4 × Ht)} (h : Mc w base v hs j qs) (b : Below w.heap.size w w') : Mc w' base v hs j qs :=
  ⟨h.len, row_keepX h.row b, fun i q e => ⟨(h.one i q e).1, (h.one i q e).2.keep b⟩, h.apart⟩
theorem Mc.lists {w : World} {base j : Nat} {v : Value} {hs : List Ht} {qs : List (V4 × Ht)} (h : Mc w base v hs j qs) : ∀ u ∈ (qs.flatMap fun q => q.1.l), ∃ zs, Nums w base u zs := fun u hu => by
  obtain ⟨q, hq, hv⟩ := List.mem_flatMap.1 hu
  obtain ⟨i, hi, e⟩ := List.mem_iff_getElem.1 hq
  have m := (h.one i q (by rw [List.getElem?_eq_getElem hi, e])).2
  simp only [V4.l, List.mem_cons, List.not_mem_nil, or_false] at hv
  rcases hv with rfl | rfl | rfl | rfl
  · exact ⟨_, m.r⟩
  · exact ⟨_, m.c⟩
  · exact ⟨_, m.i⟩
  · exact ⟨_, m.o⟩
theorem Mc.step {wr w w' : World} {base j : Nat} {v v' r c i o : Value} {hs : List Ht} {qs : List (V4 × Ht)} {H : Ht} (h : Mc wr base v hs j qs) (b : Below wr.heap.size wr w) (hm : Hm w wr.heap.size r c i o H) (ha : Ha r c i o) (hb : base ≤ wr.heap.size) (hH : H = hs.getD j voidH) (hO : w'.ownsRow base 60 9 v' (qs ++ [((⟨r, c, i, o⟩ : V4), H)]).length (flat9 (qs ++ [((⟨r, c, i, o⟩ : V4), H)]))) (hG : w.grownBy w' v.ownBlock) : Mc w' base v' hs (j + 1) (qs ++ [((⟨r, c, i, o⟩ : V4), H)]) := by
  have hne : ∀ (bs : Nat) (u : Value) (zs : List Int), Nums w bs u zs → u.ownBlock = none ∨ u.ownBlock ≠ v.ownBlock := fun bs u zs hu => row_typesX hu (row_keepX h.row b) (by decide)
  refine ⟨by rw [List.length_append, h.len]; rfl, hO, fun k q e => ?_, ?_⟩
  · by_cases hk : k < qs.length
    · rw [List.getElem?_append_left hk] at e
      exact ⟨(h.one k q e).1, hm_keptX ((h.one k q e).2.keep b) hG (hne base)⟩
    · rw [List.getElem?_append_right (by omega)] at e
      have hk0 : k - qs.length = 0 := by
        rcases Nat.eq_zero_or_pos (k - qs.length) with h0 | h0
        · exact h0
        · rw [List.getElem?_eq_none (by simp; omega)] at e; cases e
      rw [hk0] at e
      cases e
      have : k = j := by have := h.len; omega
      subst this
      exact ⟨hH, (hm_keptX hm hG (hne _)).mono hb⟩
  · rw [List.flatMap_append, List.pairwise_append]
    refine ⟨h.apart, by simpa using ha_pw ha, fun a ha' b' hb' => ?_⟩
    obtain ⟨_, na⟩ := h.lists a ha'
    have hb2 : b' ∈ V4.l ⟨r, c, i, o⟩ := by simpa using hb'
    have nb : ∃ zs, Nums w wr.heap.size b' zs := by
      simp only [V4.l, List.mem_cons, List.not_mem_nil, or_false] at hb2
      rcases hb2 with rfl | rfl | rfl | rfl
      · exact ⟨_, hm.r⟩
      · exact ⟨_, hm.c⟩
      · exact ⟨_, hm.i⟩
      · exact ⟨_, hm.o⟩
    obtain ⟨_, nb⟩ := nb
    exact apt_sep (m := wr.heap.size) (fun k e => (na.lt k e).2) (fun k e => (nb.lt k e).1)
theorem Mc.ky {E : TypeId} {w w' : World} {base j : Nat} {v : Value} {hs : List Ht} {qs : List (V4 × Ht)} (h : Mc w base v hs j qs) (k : Ky (some E) w w') (h1 : E ≠ 60) (h2 : E ≠ 2) : Mc w' base v hs j qs :=
  ⟨h.len, k.row h.row (fun e => h1 (by injection e with e; exact e.symm)), fun i q e => ⟨(h.one i q e).1, have m := (h.one i q e).2; have ne : some 2 ≠ some E := fun e => h2 (by injection e with e; exact e.symm); ⟨k.row m.r ne, k.row m.c ne, k.row m.i ne, k.row m.o ne⟩⟩, h.apart⟩
theorem Mc.hoX {w w' : World} {base j : Nat} {v : Value} {hs : List Ht} {qs : List (V4 × Ht)} (h : Mc w base v hs j qs) (k : Ho base w w') : Mc w' base v hs j qs :=
  ⟨h.len, row_hoX h.row k, fun i q e => ⟨(h.one i q e).1, (h.one i q e).2.ho k⟩, h.apart⟩
theorem step_hartsX {ops : Array Oper} {o : Oper} {act : Act} {w : World} {K : Act → World → Prop} {Q : Exit → Act → World → Prop} {F : Prop} (hgd : o.guard = none) (s x : Operand)
    (ho : o.op = .call { callee := .builtin .append, args := #[s, x], argTypes := #[38, 38] }) (base : Nat) (v : Value) (qs : List (V4 × Ht)) (hs : act.eval s = v) (hN : w.ownsRow base 60 9 v qs.length (flat9 qs))
    (g : Nat) (q : V4) (H : Ht) (hx : act.eval x = .slice (some ⟨g, 0, none⟩) 1 1) (hc : w.rangeAt g 0 (cel9 q H)) (h1 : ∀ u ∈ q.l, u.oneCell' = true) (m : Nat) (hxm : qs.length = m) (hlen : m ≤ 100000000) (hbase : base ≤ w.heap.size)
    (h : ∀ wa wc w', w'.ownsRow base 60 9 (.slice wa (m + 1) wc) (qs ++ [(q, H)]).length (flat9 (qs ++ [(q, H)])) → w.grownBy w' v.ownBlock → K (act.put o.dst (.slice wa (m + 1) wc)) w') :
    if Region.wanted o (yielded ops act.tmps) = true then Oper.wp Tryz.prog o act w K Q else F := by
  have hw : Region.wanted o (yielded ops act.tmps) = true := by simp [Region.wanted, hgd]
  rw [if_pos hw]
  obtain ⟨i, hi, hz0, hz1, hz2⟩ := info_parts info_hartX
  obtain ⟨v', w', hr, h5, h6, _⟩ := run_append_own (P := Tryz.prog) w base 38 o.type 60 i _ 9 120 Tryz.underlying38 hi hz0 hz1 hz2 rfl (by decide) _ qs.length _ hN ⟨g, 0, none⟩ 1 1 (cel9 q H) rfl (by
    intro j u' hj
    rw [Addr.add_lit, Nat.zero_add]
    have := hc j u' hj
    rwa [Nat.zero_add] at this) (fun u hu => flat9_one [(q, H)] (fun q' hq' => by rw [List.mem_singleton] at hq'; subst hq'; exact h1) u (by rw [flat9, flat9, List.append_nil]; exact hu)) (by unfold maxLen; omega) (by omega) hbase
  unfold Oper.wp execOp
  simp only [ho, resolve, invoke, builtin, Sem.run_bind, Sem.run_pure, Result.andThen_ok, List.map_toArray, List.map_cons, List.map_nil, hs, hx, hr]
  have h7 : w'.ownsRow base 60 9 v' (qs ++ [(q, H)]).length (flat9 (qs ++ [(q, H)])) := by
    rw [List.length_append, flat9_app, show flat9 [(q, H)] = cel9 q H by rw [flat9, flat9, List.append_nil]]
    exact h5
  obtain ⟨wa, wc, e⟩ := row_shape h7
  rw [List.length_append, hxm] at e
  subst e
  exact h wa wc w' h7 h6
set_option maxRecDepth 20000 in
set_option maxHeartbeats 8000000 in
theorem s_copyM (x : Addr) (n cap : Nat) (zs : List Int) (w : World) (h : Rn w (some x) n cap zs) (hn : n ≤ 1000000) :
    Calls Tryz.prog 47 #[.slice (some x) n cap] w fun e w' => ∃ v, e = .returned v ∧ Nums w' w.heap.size v zs ∧ Below w.heap.size w w' := by
  have HZ : Hid (Rn w (some x) n cap zs) := h
  have HL : Hid (n ≤ 1000000) := hn
  clear h hn
  go_enter Tryz.func47, Tryz.ntmps47
  go_wp2_with (at_builtin; refine wp_appx _ rfl _ _ rfl w.heap.size _ [] rfl (nums_none w w.heap.size (Nat.le_refl _)) x n cap zs rfl (HZ.out.stay (al (Below.refl _ _) _)) (by have := HL.out; simp; omega) (by simp) ?_; intro v' w' hN' hG')
  have N' : Hid (Nums w' w.heap.size v' zs) := by rw [List.nil_append] at hN'; exact hN'
  have B' : Hid (Below w.heap.size w w') := below_of_grown (al (Below.refl _ _) _) hG' (nums_none _ _ (Nat.le_refl _)) (Nat.le_refl _)
  clear hN' hG'
  go_wp2_with fail
  go_ret
  exact ⟨_, rfl, N'.out, B'.out⟩
set_option maxRecDepth 20000 in
set_option maxHeartbeats 8000000 in
theorem s_copy12 (a0 a1 a2 a3 : Option Addr) (n0 c0 n1 c1 n2 c2 n3 c3 gm lm cm : Nat) (ah : Option Addr) (lh ch : Nat) (X : Hst) (b : Nat) (w : World) (d : Oj w b a0 n0 c0 a1 n1 c1 a2 n2 c2 a3 n3 c3 (.slice (some ⟨gm, 0, none⟩) lm cm) (.slice ah lh ch) X) (sm : Small n0 n1 n2 n3 X.pol) (hl : lm ≤ 1000000) (hs : ∀ k, k < X.harts.length → Hok (X.harts.getD k voidH)) (hh : lh ≤ 1048576) :
    Calls Tryz.prog 22 #[.agg #[.slice a0 n0 c0, .slice a1 n1 c1, .slice a2 n2 c2, .slice a3 n3 c3, .slice (some ⟨gm, 0, none⟩) lm cm, .slice ah lh ch, .int .i64 X.slot, .int .i64 X.left, .int .i64 X.clock]] w fun e w' => ∃ v0 v1 v2 v3 v4 v5, e = .returned (.agg #[v0, v1, v2, v3, v4, v5, .int .i64 X.slot, .int .i64 X.left, .int .i64 X.clock]) ∧ Oq w' w.heap.size v0 v1 v2 v3 v4 v5 X ∧ Below w.heap.size w w' := by
  generalize hW : (w.alloc (.cells #[.slice a0 n0 c0, .slice a1 n1 c1, .slice a2 n2 c2, .slice a3 n3 c3, .slice (some ⟨gm, 0, none⟩) lm cm, .slice ah lh ch, .int .i64 X.slot, .int .i64 X.left, .int .i64 X.clock] 40)).alloc (.cells #[.slice none 0 0, .slice none 0 0, .slice none 0 0, .slice none 0 0, .slice none 0 0, .slice none 0 0, .int .i64 0, .int .i64 0, .int .i64 0] 40) = W
  have B0 : Hid (Below w.heap.size w W) := by show Below _ _ _; rw [← hW]; exact al (al (Below.refl _ _) _) _
  obtain ⟨s, hS⟩ : ∃ s, w.heap.size = s := ⟨_, rfl⟩
  have HSs : Hid (w.heap.size = s) := hS
  have z1 : s + 1 = (w.alloc (.cells #[.slice a0 n0 c0, .slice a1 n1 c1, .slice a2 n2 c2, .slice a3 n3 c3, .slice (some ⟨gm, 0, none⟩) lm cm, .slice ah lh ch, .int .i64 X.slot, .int .i64 X.left, .int .i64 X.clock] 40)).heap.size := by rw [← hS]; simp
  have Q : Hid (Vb W s #[.slice a0 n0 c0, .slice a1 n1 c1, .slice a2 n2 c2, .slice a3 n3 c3, .slice (some ⟨gm, 0, none⟩) lm cm, .slice ah lh ch, .int .i64 X.slot, .int .i64 X.left, .int .i64 X.clock] 40) := by show Vb _ _ _ _; rw [← hW, ← hS]; exact (Vb.new _ _ _).push _
  have R : Hid (Vb W (s + 1) #[.slice none 0 0, .slice none 0 0, .slice none 0 0, .slice none 0 0, .slice none 0 0, .slice none 0 0, .int .i64 0, .int .i64 0, .int .i64 0] 40) := by show Vb _ _ _ _; rw [← hW, z1]; exact Vb.new _ _ _
  have ZW : Hid (s + 2 = W.heap.size) := by show _ = _; rw [← hW, ← hS]; simp
  clear z1
  have D : Hid (Oj W b a0 n0 c0 a1 n1 c1 a2 n2 c2 a3 n3 c3 (.slice (some ⟨gm, 0, none⟩) lm cm) (.slice ah lh ch) X) := d.keep B0.out
  have SMP : Hid (Small n0 n1 n2 n3 X.pol ∧ lm ≤ 1000000 ∧ lh ≤ 1048576) := ⟨sm, hl, hh⟩
  have HOK : Hid (∀ k, k < X.harts.length → Hok (X.harts.getD k voidH)) := hs
  have LH : Hid (lh = X.harts.length) := by obtain ⟨_, _, e, _⟩ := d.harts.shape; simp at e; exact e.2.1
  have lhI : (lh : Int) ≤ 1048576 := by omega
  clear d sm hl hs hh
  go_enter Tryz.func22, Tryz.ntmps22
  go_upto_region 1 with fail
  clear hW hS
  go_cut [3] from 5 to 17 (fun c wx => ∃ (q : Nat) (b0 b1a b2a b3 ya : Option Addr) (m0 g0 m1 g1 m2 g2 m3 g3 yn yk : Nat), c = .pointer (some ⟨q, 0, none⟩) ∧ Vb wx q #[.slice b0 m0 g0, .slice b1a m1 g1, .slice b2a m2 g2, .slice b3 m3 g3, .slice ya yn yk, .slice none 0 0, .int .i64 X.slot, .int .i64 X.left, .int .i64 X.clock] 40 ∧ WqE wx W.heap.size (.slice b0 m0 g0) (.slice b1a m1 g1) (.slice b2a m2 g2) (.slice b3 m3 g3) X.pol ∧ Nums wx W.heap.size (.slice ya yn yk) X.mem ∧ W.heap.size ≤ q ∧ Below W.heap.size W wx)
  case first =>
    have SU : Hid (Below W.heap.size W W.drew) := (Below.refl _ _).drew
    refine wp_region_held (S := fun w' => Below W.heap.size W w') (by kernel_rfl) ?_
    change wpAnyH _ _ _ _ _ _ _ _ (World.drew _)
    generalize W.drew = u0 at *
    refine wpTk (i := 0) (v := (.pointer (some ⟨s, 0, none⟩))) rfl (Or.inl ⟨by rfl, fun w' hs => by go_simp⟩) SU.out ?_
    change wpAnyH _ _ _ _ _ _ _ (Act.put _ (some 5) _) _
    simp only [Act.put, zT, zZ, zS]
    refine wpTk (i := 1) (v := (.agg #[.slice a0 n0 c0, .slice a1 n1 c1, .slice a2 n2 c2, .slice a3 n3 c3])) rfl (Or.inl ⟨by rfl, fun w' hs => by have qv := Q.out.keep hs; have y0 := qv.cell 0 rfl; have y1 := qv.cell 1 rfl; have y2 := qv.cell 2 rfl; have y3 := qv.cell 3 rfl; go_simp⟩) SU.out ?_
    change wpAnyH _ _ _ _ _ _ _ (Act.put _ (some 6) _) _
    simp only [Act.put, zT, zZ, zS]
    refine wpTk (i := 3) (v := (.pointer (some ⟨s, 4, none⟩))) rfl (Or.inl ⟨by rfl, fun w' hs => by go_simp⟩) SU.out ?_
    change wpAnyH _ _ _ _ _ _ _ (Act.put _ (some 8) _) _
    simp only [Act.put, zT, zZ, zS]
    refine wpTk (i := 4) (v := (.slice (some ⟨gm, 0, none⟩) lm cm)) rfl (Or.inl ⟨by rfl, fun w' hs => by have y := (Q.out.keep hs).cell 4 rfl; go_simp⟩) SU.out ?_
    change wpAnyH _ _ _ _ _ _ _ (Act.put _ (some 9) _) _
    simp only [Act.put, zT, zZ, zS]
    refine wpTk (i := 6) (v := (.pointer (some ⟨s, 6, none⟩))) rfl (Or.inl ⟨by rfl, fun w' hs => by go_simp⟩) SU.out ?_
    change wpAnyH _ _ _ _ _ _ _ (Act.put _ (some 11) _) _
    simp only [Act.put, zT, zZ, zS]
    refine wpTk (i := 7) (v := (.int .i64 X.slot)) rfl (Or.inl ⟨by rfl, fun w' hs => by have y := (Q.out.keep hs).cell 6 rfl; go_simp⟩) SU.out ?_
    change wpAnyH _ _ _ _ _ _ _ (Act.put _ (some 12) _) _
    simp only [Act.put, zT, zZ, zS]
    refine wpTk (i := 8) (v := (.pointer (some ⟨s, 7, none⟩))) rfl (Or.inl ⟨by rfl, fun w' hs => by go_simp⟩) SU.out ?_
    change wpAnyH _ _ _ _ _ _ _ (Act.put _ (some 13) _) _
    simp only [Act.put, zT, zZ, zS]
    refine wpTk (i := 9) (v := (.int .i64 X.left)) rfl (Or.inl ⟨by rfl, fun w' hs => by have y := (Q.out.keep hs).cell 7 rfl; go_simp⟩) SU.out ?_
    change wpAnyH _ _ _ _ _ _ _ (Act.put _ (some 14) _) _
    simp only [Act.put, zT, zZ, zS]
    refine wpTk (i := 10) (v := (.pointer (some ⟨s, 8, none⟩))) rfl (Or.inl ⟨by rfl, fun w' hs => by go_simp⟩) SU.out ?_
    change wpAnyH _ _ _ _ _ _ _ (Act.put _ (some 15) _) _
    simp only [Act.put, zT, zZ, zS]
    refine wpTk (i := 11) (v := (.int .i64 X.clock)) rfl (Or.inl ⟨by rfl, fun w' hs => by have y := (Q.out.keep hs).cell 8 rfl; go_simp⟩) SU.out ?_
    change wpAnyH _ _ _ _ _ _ _ (Act.put _ (some 16) _) _
    simp only [Act.put, zT, zZ, zS]
    refine wpAnyH_ready (rs := [2, 13]) (by kernel_rfl) (by simp) ?_
    refine AllReadyH.cons rfl (fun K hK => ?_) (AllReadyH.cons rfl (fun K hK => ?_) AllReadyH.nil)
    · skip
      rw [if_pos (by rfl)]
      go_simp
      refine (s_policy12 _ _ _ _ _ _ _ _ _ _ _ _ X.pol _ (D.out.pol.stay SU.out) SMP.out.1).mono ?_
      rintro e u1 ⟨_, _, _, _, rfl, wq, bq⟩
      obtain ⟨b0, b1a, b2a, b3, g0, g1, g2, g3, e0, e1, e2, e3⟩ := wq_shapes wq
      subst e0 e1 e2 e3
      obtain ⟨m0, hm0⟩ : ∃ n, X.pol.own.length = n := ⟨_, rfl⟩
      obtain ⟨m1, hm1⟩ : ∃ n, X.pol.lanes.length = n := ⟨_, rfl⟩
      obtain ⟨m2, hm2⟩ : ∃ n, X.pol.bells.length = n := ⟨_, rfl⟩
      obtain ⟨m3, hm3⟩ : ∃ n, X.pol.plan.length = n := ⟨_, rfl⟩
      rw [hm0, hm1, hm2, hm3] at wq ⊢
      have WQ : Hid (WqE u1 W.heap.size (.slice b0 m0 g0) (.slice b1a m1 g1) (.slice b2a m2 g2) (.slice b3 m3 g3) X.pol) := ⟨wq.own.mono SU.out.size, row_monoX wq.lanes SU.out.size, row_monoX wq.bells SU.out.size, row_monoX wq.plan SU.out.size⟩
      replace SU : Hid (Below W.heap.size W u1) := on SU.out bq
      clear wq bq hm0 hm1 hm2 hm3
      refine hK.out _ _ SU.out (fun _ => ?_)
      clear hK K
      refine wpAnyH_ready (rs := [5, 13]) (by kernel_rfl) (by simp) ?_
      refine AllReadyH.cons rfl (fun K hK => ?_) (AllReadyH.cons rfl (fun K hK => ?_) AllReadyH.nil)
      · skip
        rw [if_pos (by rfl)]
        go_simp
        have RN : Rn u1 (some ⟨gm, 0, none⟩) lm cm X.mem := (by have := (D.out.mem.keep SU.out).rv; obtain ⟨a', c', e, r⟩ := this; cases e; exact r)
        refine (s_copyM _ _ _ X.mem _ RN SMP.out.2.1).mono ?_
        rintro e u2 ⟨yv, rfl, ny, bq⟩
        obtain ⟨ya, yk, ey, _⟩ := ny.shape
        subst ey
        obtain ⟨yn, hyn⟩ : ∃ n, X.mem.length = n := ⟨_, rfl⟩
        rw [hyn] at ny ⊢
        have MY : Hid (Nums u2 W.heap.size (.slice ya yn yk) X.mem) := ny.mono SU.out.size
        replace WQ : Hid (WqE u2 W.heap.size (.slice b0 m0 g0) (.slice b1a m1 g1) (.slice b2a m2 g2) (.slice b3 m3 g3) X.pol) := WQ.out.keep bq
        replace SU : Hid (Below W.heap.size W u2) := on SU.out bq
        clear ny bq hyn RN
        refine hK.out _ _ SU.out (fun _ => ?_)
        clear hK K
        refine wpTk (i := 12) (v := (.agg #[.slice b0 m0 g0, .slice b1a m1 g1, .slice b2a m2 g2, .slice b3 m3 g3, .slice ya yn yk, .slice none 0 0, .int .i64 X.slot, .int .i64 X.left, .int .i64 X.clock])) rfl (Or.inl ⟨by rfl, fun w' hs => by go_simp⟩) SU.out ?_
        change wpAnyH _ _ _ _ _ _ _ (Act.put _ (some 17) _) _
        simp only [Act.put, zT, zZ, zS]
        refine zR 13 rfl fun K hK => ?_
        rw [if_pos (by rfl)]
        go_simp
        have bq : Below u2.heap.size u2 (u2.alloc (.cells #[.slice none 0 0, .slice none 0 0, .slice none 0 0, .slice none 0 0, .slice none 0 0, .slice none 0 0, .int .i64 0, .int .i64 0, .int .i64 0] 40)) := al (Below.refl _ _) _
        have TQ : Hid (Vb (u2.alloc (.cells #[.slice none 0 0, .slice none 0 0, .slice none 0 0, .slice none 0 0, .slice none 0 0, .slice none 0 0, .int .i64 0, .int .i64 0, .int .i64 0] 40)) u2.heap.size #[.slice none 0 0, .slice none 0 0, .slice none 0 0, .slice none 0 0, .slice none 0 0, .slice none 0 0, .int .i64 0, .int .i64 0, .int .i64 0] 40) := Vb.new _ _ _
        obtain ⟨q, hq⟩ : ∃ q, u2.heap.size = q := ⟨_, rfl⟩
        have QB : Hid (W.heap.size ≤ q) := by show _ ≤ _; rw [← hq]; exact SU.out.size
        rw [hq] at TQ ⊢
        generalize u2.alloc (.cells #[.slice none 0 0, .slice none 0 0, .slice none 0 0, .slice none 0 0, .slice none 0 0, .slice none 0 0, .int .i64 0, .int .i64 0, .int .i64 0] 40) = u3 at *
        replace WQ : Hid (WqE u3 W.heap.size (.slice b0 m0 g0) (.slice b1a m1 g1) (.slice b2a m2 g2) (.slice b3 m3 g3) X.pol) := WQ.out.keep bq
        replace MY : Hid (Nums u3 W.heap.size (.slice ya yn yk) X.mem) := MY.out.keep bq
        replace SU : Hid (Below W.heap.size W u3) := on SU.out bq
        clear bq hq
        refine hK.out _ _ SU.out (fun _ => ?_)
        clear hK K
        refine zR 14 rfl fun K hK => ?_
        rw [if_pos (by rfl)]
        refine wp_store_mid 40 (.tmp 3) (.tmp 17) rfl q 0 #[.slice b0 m0 g0, .slice b1a m1 g1, .slice b2a m2 g2, .slice b3 m3 g3, .slice ya yn yk, .slice none 0 0, .int .i64 X.slot, .int .i64 X.left, .int .i64 X.clock] rfl rfl (TQ.out.there 9 (by decide)) (by kernel_rfl) (by simp [Value.oneCell']) ?_
        change K (Act.put _ none undef) _
        simp only [Act.put]
        have NR : Hid (Vb (u3.setCells q 0 #[.slice b0 m0 g0, .slice b1a m1 g1, .slice b2a m2 g2, .slice b3 m3 g3, .slice ya yn yk, .slice none 0 0, .int .i64 X.slot, .int .i64 X.left, .int .i64 X.clock].toList) q #[.slice b0 m0 g0, .slice b1a m1 g1, .slice b2a m2 g2, .slice b3 m3 g3, .slice ya yn yk, .slice none 0 0, .int .i64 X.slot, .int .i64 X.left, .int .i64 X.clock] 40 ∧ Mq (fun k => k = q) u3 (u3.setCells q 0 #[.slice b0 m0 g0, .slice b1a m1 g1, .slice b2a m2 g2, .slice b3 m3 g3, .slice ya yn yk, .slice none 0 0, .int .i64 X.slot, .int .i64 X.left, .int .i64 X.clock].toList)) := nineX TQ.out _ _ _ _ _ _ _ _ _
        have KY : Ky (some 40) u3 (u3.setCells q 0 #[.slice b0 m0 g0, .slice b1a m1 g1, .slice b2a m2 g2, .slice b3 m3 g3, .slice ya yn yk, .slice none 0 0, .int .i64 X.slot, .int .i64 X.left, .int .i64 X.clock].toList) := ky_set TQ.out NR.out.2
        have W9 : Hid (WqE (u3.setCells q 0 #[.slice b0 m0 g0, .slice b1a m1 g1, .slice b2a m2 g2, .slice b3 m3 g3, .slice ya yn yk, .slice none 0 0, .int .i64 X.slot, .int .i64 X.left, .int .i64 X.clock].toList) W.heap.size (.slice b0 m0 g0) (.slice b1a m1 g1) (.slice b2a m2 g2) (.slice b3 m3 g3) X.pol) := WQ.out.ky KY (by decide) (by decide) (by decide) (by decide) (by decide)
        have Y9 : Hid (Nums (u3.setCells q 0 #[.slice b0 m0 g0, .slice b1a m1 g1, .slice b2a m2 g2, .slice b3 m3 g3, .slice ya yn yk, .slice none 0 0, .int .i64 X.slot, .int .i64 X.left, .int .i64 X.clock].toList) W.heap.size (.slice ya yn yk) X.mem) := KY.row MY.out (by decide)
        have B9 : Hid (Below W.heap.size W (u3.setCells q 0 #[.slice b0 m0 g0, .slice b1a m1 g1, .slice b2a m2 g2, .slice b3 m3 g3, .slice ya yn yk, .slice none 0 0, .int .i64 X.slot, .int .i64 X.left, .int .i64 X.clock].toList)) := Mq.under SU.out NR.out.2 fun k e => by have := QB.out; omega
        clear KY
        generalize (u3.setCells q 0 #[.slice b0 m0 g0, .slice b1a m1 g1, .slice b2a m2 g2, .slice b3 m3 g3, .slice ya yn yk, .slice none 0 0, .int .i64 X.slot, .int .i64 X.left, .int .i64 X.clock].toList) = V9 at *
        refine hK.out _ _ B9.out (fun _ => ?_)
        clear hK K
        refine wpAnyH_done (by kernel_rfl) ?_ _
        go_wp2_with fail
        go_meet
        exact ⟨q, _, _, _, _, _, _, _, _, _, _, _, _, _, _, _, rfl, NR.out.1, W9.out, Y9.out, QB.out, B9.out⟩
      · skip
        rw [if_pos (by rfl)]
        go_simp
        have bq : Below u1.heap.size u1 (u1.alloc (.cells #[.slice none 0 0, .slice none 0 0, .slice none 0 0, .slice none 0 0, .slice none 0 0, .slice none 0 0, .int .i64 0, .int .i64 0, .int .i64 0] 40)) := al (Below.refl _ _) _
        have TQ : Hid (Vb (u1.alloc (.cells #[.slice none 0 0, .slice none 0 0, .slice none 0 0, .slice none 0 0, .slice none 0 0, .slice none 0 0, .int .i64 0, .int .i64 0, .int .i64 0] 40)) u1.heap.size #[.slice none 0 0, .slice none 0 0, .slice none 0 0, .slice none 0 0, .slice none 0 0, .slice none 0 0, .int .i64 0, .int .i64 0, .int .i64 0] 40) := Vb.new _ _ _
        obtain ⟨q, hq⟩ : ∃ q, u1.heap.size = q := ⟨_, rfl⟩
        have QB : Hid (W.heap.size ≤ q) := by show _ ≤ _; rw [← hq]; exact SU.out.size
        rw [hq] at TQ ⊢
        generalize u1.alloc (.cells #[.slice none 0 0, .slice none 0 0, .slice none 0 0, .slice none 0 0, .slice none 0 0, .slice none 0 0, .int .i64 0, .int .i64 0, .int .i64 0] 40) = u2 at *
        replace WQ : Hid (WqE u2 W.heap.size (.slice b0 m0 g0) (.slice b1a m1 g1) (.slice b2a m2 g2) (.slice b3 m3 g3) X.pol) := WQ.out.keep bq
        replace SU : Hid (Below W.heap.size W u2) := on SU.out bq
        clear bq hq
        refine hK.out _ _ SU.out (fun _ => ?_)
        clear hK K
        refine zR 5 rfl fun K hK => ?_
        rw [if_pos (by rfl)]
        go_simp
        have RN : Rn u2 (some ⟨gm, 0, none⟩) lm cm X.mem := (by have := (D.out.mem.keep SU.out).rv; obtain ⟨a', c', e, r⟩ := this; cases e; exact r)
        refine (s_copyM _ _ _ X.mem _ RN SMP.out.2.1).mono ?_
        rintro e u3 ⟨yv, rfl, ny, bq⟩
        obtain ⟨ya, yk, ey, _⟩ := ny.shape
        subst ey
        obtain ⟨yn, hyn⟩ : ∃ n, X.mem.length = n := ⟨_, rfl⟩
        rw [hyn] at ny ⊢
        have MY : Hid (Nums u3 W.heap.size (.slice ya yn yk) X.mem) := ny.mono SU.out.size
        replace TQ : Hid (Vb u3 q #[.slice none 0 0, .slice none 0 0, .slice none 0 0, .slice none 0 0, .slice none 0 0, .slice none 0 0, .int .i64 0, .int .i64 0, .int .i64 0] 40) := TQ.out.keep bq
        replace WQ : Hid (WqE u3 W.heap.size (.slice b0 m0 g0) (.slice b1a m1 g1) (.slice b2a m2 g2) (.slice b3 m3 g3) X.pol) := WQ.out.keep bq
        replace SU : Hid (Below W.heap.size W u3) := on SU.out bq
        clear ny bq hyn RN
        refine hK.out _ _ SU.out (fun _ => ?_)
        clear hK K
        refine wpTk (i := 12) (v := (.agg #[.slice b0 m0 g0, .slice b1a m1 g1, .slice b2a m2 g2, .slice b3 m3 g3, .slice ya yn yk, .slice none 0 0, .int .i64 X.slot, .int .i64 X.left, .int .i64 X.clock])) rfl (Or.inl ⟨by rfl, fun w' hs => by go_simp⟩) SU.out ?_
        change wpAnyH _ _ _ _ _ _ _ (Act.put _ (some 17) _) _
        simp only [Act.put, zT, zZ, zS]
        refine zR 14 rfl fun K hK => ?_
        rw [if_pos (by rfl)]
        refine wp_store_mid 40 (.tmp 3) (.tmp 17) rfl q 0 #[.slice b0 m0 g0, .slice b1a m1 g1, .slice b2a m2 g2, .slice b3 m3 g3, .slice ya yn yk, .slice none 0 0, .int .i64 X.slot, .int .i64 X.left, .int .i64 X.clock] rfl rfl (TQ.out.there 9 (by decide)) (by kernel_rfl) (by simp [Value.oneCell']) ?_
        change K (Act.put _ none undef) _
        simp only [Act.put]
        have NR : Hid (Vb (u3.setCells q 0 #[.slice b0 m0 g0, .slice b1a m1 g1, .slice b2a m2 g2, .slice b3 m3 g3, .slice ya yn yk, .slice none 0 0, .int .i64 X.slot, .int .i64 X.left, .int .i64 X.clock].toList) q #[.slice b0 m0 g0, .slice b1a m1 g1, .slice b2a m2 g2, .slice b3 m3 g3, .slice ya yn yk, .slice none 0 0, .int .i64 X.slot, .int .i64 X.left, .int .i64 X.clock] 40 ∧ Mq (fun k => k = q) u3 (u3.setCells q 0 #[.slice b0 m0 g0, .slice b1a m1 g1, .slice b2a m2 g2, .slice b3 m3 g3, .slice ya yn yk, .slice none 0 0, .int .i64 X.slot, .int .i64 X.left, .int .i64 X.clock].toList)) := nineX TQ.out _ _ _ _ _ _ _ _ _
        have KY : Ky (some 40) u3 (u3.setCells q 0 #[.slice b0 m0 g0, .slice b1a m1 g1, .slice b2a m2 g2, .slice b3 m3 g3, .slice ya yn yk, .slice none 0 0, .int .i64 X.slot, .int .i64 X.left, .int .i64 X.clock].toList) := ky_set TQ.out NR.out.2
        have W9 : Hid (WqE (u3.setCells q 0 #[.slice b0 m0 g0, .slice b1a m1 g1, .slice b2a m2 g2, .slice b3 m3 g3, .slice ya yn yk, .slice none 0 0, .int .i64 X.slot, .int .i64 X.left, .int .i64 X.clock].toList) W.heap.size (.slice b0 m0 g0) (.slice b1a m1 g1) (.slice b2a m2 g2) (.slice b3 m3 g3) X.pol) := WQ.out.ky KY (by decide) (by decide) (by decide) (by decide) (by decide)
        have Y9 : Hid (Nums (u3.setCells q 0 #[.slice b0 m0 g0, .slice b1a m1 g1, .slice b2a m2 g2, .slice b3 m3 g3, .slice ya yn yk, .slice none 0 0, .int .i64 X.slot, .int .i64 X.left, .int .i64 X.clock].toList) W.heap.size (.slice ya yn yk) X.mem) := KY.row MY.out (by decide)
        have B9 : Hid (Below W.heap.size W (u3.setCells q 0 #[.slice b0 m0 g0, .slice b1a m1 g1, .slice b2a m2 g2, .slice b3 m3 g3, .slice ya yn yk, .slice none 0 0, .int .i64 X.slot, .int .i64 X.left, .int .i64 X.clock].toList)) := Mq.under SU.out NR.out.2 fun k e => by have := QB.out; omega
        clear KY
        generalize (u3.setCells q 0 #[.slice b0 m0 g0, .slice b1a m1 g1, .slice b2a m2 g2, .slice b3 m3 g3, .slice ya yn yk, .slice none 0 0, .int .i64 X.slot, .int .i64 X.left, .int .i64 X.clock].toList) = V9 at *
        refine hK.out _ _ B9.out (fun _ => ?_)
        clear hK K
        refine wpAnyH_done (by kernel_rfl) ?_ _
        go_wp2_with fail
        go_meet
        exact ⟨q, _, _, _, _, _, _, _, _, _, _, _, _, _, _, _, rfl, NR.out.1, W9.out, Y9.out, QB.out, B9.out⟩
    · skip
      rw [if_pos (by rfl)]
      go_simp
      have bq : Below u0.heap.size u0 (u0.alloc (.cells #[.slice none 0 0, .slice none 0 0, .slice none 0 0, .slice none 0 0, .slice none 0 0, .slice none 0 0, .int .i64 0, .int .i64 0, .int .i64 0] 40)) := al (Below.refl _ _) _
      have TQ : Hid (Vb (u0.alloc (.cells #[.slice none 0 0, .slice none 0 0, .slice none 0 0, .slice none 0 0, .slice none 0 0, .slice none 0 0, .int .i64 0, .int .i64 0, .int .i64 0] 40)) u0.heap.size #[.slice none 0 0, .slice none 0 0, .slice none 0 0, .slice none 0 0, .slice none 0 0, .slice none 0 0, .int .i64 0, .int .i64 0, .int .i64 0] 40) := Vb.new _ _ _
      obtain ⟨q, hq⟩ : ∃ q, u0.heap.size = q := ⟨_, rfl⟩
      have QB : Hid (W.heap.size ≤ q) := by show _ ≤ _; rw [← hq]; exact SU.out.size
      rw [hq] at TQ ⊢
      generalize u0.alloc (.cells #[.slice none 0 0, .slice none 0 0, .slice none 0 0, .slice none 0 0, .slice none 0 0, .slice none 0 0, .int .i64 0, .int .i64 0, .int .i64 0] 40) = u1 at *
      replace SU : Hid (Below W.heap.size W u1) := on SU.out bq
      clear bq hq
      refine hK.out _ _ SU.out (fun _ => ?_)
      clear hK K
      refine zR 2 rfl fun K hK => ?_
      rw [if_pos (by rfl)]
      go_simp
      refine (s_policy12 _ _ _ _ _ _ _ _ _ _ _ _ X.pol _ (D.out.pol.stay SU.out) SMP.out.1).mono ?_
      rintro e u2 ⟨_, _, _, _, rfl, wq, bq⟩
      obtain ⟨b0, b1a, b2a, b3, g0, g1, g2, g3, e0, e1, e2, e3⟩ := wq_shapes wq
      subst e0 e1 e2 e3
      obtain ⟨m0, hm0⟩ : ∃ n, X.pol.own.length = n := ⟨_, rfl⟩
      obtain ⟨m1, hm1⟩ : ∃ n, X.pol.lanes.length = n := ⟨_, rfl⟩
      obtain ⟨m2, hm2⟩ : ∃ n, X.pol.bells.length = n := ⟨_, rfl⟩
      obtain ⟨m3, hm3⟩ : ∃ n, X.pol.plan.length = n := ⟨_, rfl⟩
      rw [hm0, hm1, hm2, hm3] at wq ⊢
      have WQ : Hid (WqE u2 W.heap.size (.slice b0 m0 g0) (.slice b1a m1 g1) (.slice b2a m2 g2) (.slice b3 m3 g3) X.pol) := ⟨wq.own.mono SU.out.size, row_monoX wq.lanes SU.out.size, row_monoX wq.bells SU.out.size, row_monoX wq.plan SU.out.size⟩
      replace TQ : Hid (Vb u2 q #[.slice none 0 0, .slice none 0 0, .slice none 0 0, .slice none 0 0, .slice none 0 0, .slice none 0 0, .int .i64 0, .int .i64 0, .int .i64 0] 40) := TQ.out.keep bq
      replace SU : Hid (Below W.heap.size W u2) := on SU.out bq
      clear wq bq hm0 hm1 hm2 hm3
      refine hK.out _ _ SU.out (fun _ => ?_)
      clear hK K
      refine zR 5 rfl fun K hK => ?_
      rw [if_pos (by rfl)]
      go_simp
      have RN : Rn u2 (some ⟨gm, 0, none⟩) lm cm X.mem := (by have := (D.out.mem.keep SU.out).rv; obtain ⟨a', c', e, r⟩ := this; cases e; exact r)
      refine (s_copyM _ _ _ X.mem _ RN SMP.out.2.1).mono ?_
      rintro e u3 ⟨yv, rfl, ny, bq⟩
      obtain ⟨ya, yk, ey, _⟩ := ny.shape
      subst ey
      obtain ⟨yn, hyn⟩ : ∃ n, X.mem.length = n := ⟨_, rfl⟩
      rw [hyn] at ny ⊢
      have MY : Hid (Nums u3 W.heap.size (.slice ya yn yk) X.mem) := ny.mono SU.out.size
      replace TQ : Hid (Vb u3 q #[.slice none 0 0, .slice none 0 0, .slice none 0 0, .slice none 0 0, .slice none 0 0, .slice none 0 0, .int .i64 0, .int .i64 0, .int .i64 0] 40) := TQ.out.keep bq
      replace WQ : Hid (WqE u3 W.heap.size (.slice b0 m0 g0) (.slice b1a m1 g1) (.slice b2a m2 g2) (.slice b3 m3 g3) X.pol) := WQ.out.keep bq
      replace SU : Hid (Below W.heap.size W u3) := on SU.out bq
      clear ny bq hyn RN
      refine hK.out _ _ SU.out (fun _ => ?_)
      clear hK K
      refine wpTk (i := 12) (v := (.agg #[.slice b0 m0 g0, .slice b1a m1 g1, .slice b2a m2 g2, .slice b3 m3 g3, .slice ya yn yk, .slice none 0 0, .int .i64 X.slot, .int .i64 X.left, .int .i64 X.clock])) rfl (Or.inl ⟨by rfl, fun w' hs => by go_simp⟩) SU.out ?_
      change wpAnyH _ _ _ _ _ _ _ (Act.put _ (some 17) _) _
      simp only [Act.put, zT, zZ, zS]
      refine zR 14 rfl fun K hK => ?_
      rw [if_pos (by rfl)]
      refine wp_store_mid 40 (.tmp 3) (.tmp 17) rfl q 0 #[.slice b0 m0 g0, .slice b1a m1 g1, .slice b2a m2 g2, .slice b3 m3 g3, .slice ya yn yk, .slice none 0 0, .int .i64 X.slot, .int .i64 X.left, .int .i64 X.clock] rfl rfl (TQ.out.there 9 (by decide)) (by kernel_rfl) (by simp [Value.oneCell']) ?_
      change K (Act.put _ none undef) _
      simp only [Act.put]
      have NR : Hid (Vb (u3.setCells q 0 #[.slice b0 m0 g0, .slice b1a m1 g1, .slice b2a m2 g2, .slice b3 m3 g3, .slice ya yn yk, .slice none 0 0, .int .i64 X.slot, .int .i64 X.left, .int .i64 X.clock].toList) q #[.slice b0 m0 g0, .slice b1a m1 g1, .slice b2a m2 g2, .slice b3 m3 g3, .slice ya yn yk, .slice none 0 0, .int .i64 X.slot, .int .i64 X.left, .int .i64 X.clock] 40 ∧ Mq (fun k => k = q) u3 (u3.setCells q 0 #[.slice b0 m0 g0, .slice b1a m1 g1, .slice b2a m2 g2, .slice b3 m3 g3, .slice ya yn yk, .slice none 0 0, .int .i64 X.slot, .int .i64 X.left, .int .i64 X.clock].toList)) := nineX TQ.out _ _ _ _ _ _ _ _ _
      have KY : Ky (some 40) u3 (u3.setCells q 0 #[.slice b0 m0 g0, .slice b1a m1 g1, .slice b2a m2 g2, .slice b3 m3 g3, .slice ya yn yk, .slice none 0 0, .int .i64 X.slot, .int .i64 X.left, .int .i64 X.clock].toList) := ky_set TQ.out NR.out.2
      have W9 : Hid (WqE (u3.setCells q 0 #[.slice b0 m0 g0, .slice b1a m1 g1, .slice b2a m2 g2, .slice b3 m3 g3, .slice ya yn yk, .slice none 0 0, .int .i64 X.slot, .int .i64 X.left, .int .i64 X.clock].toList) W.heap.size (.slice b0 m0 g0) (.slice b1a m1 g1) (.slice b2a m2 g2) (.slice b3 m3 g3) X.pol) := WQ.out.ky KY (by decide) (by decide) (by decide) (by decide) (by decide)
      have Y9 : Hid (Nums (u3.setCells q 0 #[.slice b0 m0 g0, .slice b1a m1 g1, .slice b2a m2 g2, .slice b3 m3 g3, .slice ya yn yk, .slice none 0 0, .int .i64 X.slot, .int .i64 X.left, .int .i64 X.clock].toList) W.heap.size (.slice ya yn yk) X.mem) := KY.row MY.out (by decide)
      have B9 : Hid (Below W.heap.size W (u3.setCells q 0 #[.slice b0 m0 g0, .slice b1a m1 g1, .slice b2a m2 g2, .slice b3 m3 g3, .slice ya yn yk, .slice none 0 0, .int .i64 X.slot, .int .i64 X.left, .int .i64 X.clock].toList)) := Mq.under SU.out NR.out.2 fun k e => by have := QB.out; omega
      clear KY
      generalize (u3.setCells q 0 #[.slice b0 m0 g0, .slice b1a m1 g1, .slice b2a m2 g2, .slice b3 m3 g3, .slice ya yn yk, .slice none 0 0, .int .i64 X.slot, .int .i64 X.left, .int .i64 X.clock].toList) = V9 at *
      refine hK.out _ _ B9.out (fun _ => ?_)
      clear hK K
      refine wpAnyH_done (by kernel_rfl) ?_ _
      go_wp2_with fail
      go_meet
      exact ⟨q, _, _, _, _, _, _, _, _, _, _, _, _, _, _, _, rfl, NR.out.1, W9.out, Y9.out, QB.out, B9.out⟩
  case rest =>
  obtain ⟨q, b0, b1a, b2a, b3, ya, m0, g0, m1, g1, m2, g2, m3, g3, yn, yk, rfl, hV, hQ, hY, hq, hB⟩ := hcut
  obtain ⟨V, hVw⟩ : ∃ V, V = wc := ⟨_, rfl⟩
  subst hVw
  have VV : Hid (Vb V q #[.slice b0 m0 g0, .slice b1a m1 g1, .slice b2a m2 g2, .slice b3 m3 g3, .slice ya yn yk, .slice none 0 0, .int .i64 X.slot, .int .i64 X.left, .int .i64 X.clock] 40) := hV
  have WQ : Hid (WqE V W.heap.size (.slice b0 m0 g0) (.slice b1a m1 g1) (.slice b2a m2 g2) (.slice b3 m3 g3) X.pol ∧ Nums V W.heap.size (.slice ya yn yk) X.mem) := ⟨hQ, hY⟩
  have QB : Hid (W.heap.size ≤ q ∧ q < V.heap.size) := ⟨hq, hV.lt⟩
  have BV : Hid (Below W.heap.size W V) := hB
  clear hV hQ hY hq hB
  go_wp2_with fail
  go_loopw [4] (fun c wr => ∃ (j : Nat) (v : Value) (qs : List (V4 × Ht)), j ≤ lh ∧ c = .int .i64 (j : Int) ∧ Vb wr q #[.slice b0 m0 g0, .slice b1a m1 g1, .slice b2a m2 g2, .slice b3 m3 g3, .slice ya yn yk, v, .int .i64 X.slot, .int .i64 X.left, .int .i64 X.clock] 40 ∧ WqE wr W.heap.size (.slice b0 m0 g0) (.slice b1a m1 g1) (.slice b2a m2 g2) (.slice b3 m3 g3) X.pol ∧ Nums wr W.heap.size (.slice ya yn yk) X.mem ∧ Mc wr V.heap.size v X.harts j qs ∧ Below W.heap.size W wr ∧ V.heap.size ≤ wr.heap.size) (fun c _ => lh - (intOf c).toNat)
  case atStart => exact ⟨0, .slice none 0 0, [], Nat.zero_le _, rfl, VV.out, WQ.out.1, WQ.out.2, ⟨rfl, World.ownsRow_nil _ _ _ _, fun i q e => by simp at e, by simp⟩, BV.out, Nat.le_refl _⟩
  case round =>
    obtain ⟨j, v, qs, hj, rfl, hX, hWq, hY, hM, hB, hZ⟩ := hrel
    obtain ⟨va, vc, hv⟩ := row_shape hM.row
    rw [hM.len] at hv
    subst hv
    have HX : Hid (Vb wr q #[.slice b0 m0 g0, .slice b1a m1 g1, .slice b2a m2 g2, .slice b3 m3 g3, .slice ya yn yk, .slice va j vc, .int .i64 X.slot, .int .i64 X.left, .int .i64 X.clock] 40) := hX
    have HW : Hid (WqE wr W.heap.size (.slice b0 m0 g0) (.slice b1a m1 g1) (.slice b2a m2 g2) (.slice b3 m3 g3) X.pol ∧ Nums wr W.heap.size (.slice ya yn yk) X.mem) := ⟨hWq, hY⟩
    have HM : Hid (Mc wr V.heap.size (.slice va j vc) X.harts j qs) := hM
    have HB : Hid (Below W.heap.size W wr ∧ V.heap.size ≤ wr.heap.size) := ⟨hB, hZ⟩
    clear hX hWq hY hM hZ
    have w5 := (Q.out.keep hB).cell 5 rfl
    by_cases hlt : j < lh
    · have hI : (j : Int) < (lh : Int) := by omega
      have HLT : Hid (j < lh) := hlt
      obtain ⟨gh, hgh⟩ : ∃ g, ah = some ⟨g, 0, none⟩ := by
        obtain ⟨_, _, e, _, _, hg⟩ := D.out.harts.shape
        simp at e
        obtain ⟨e1, e2, _⟩ := e
        obtain ⟨g, eg⟩ := hg (by omega)
        exact ⟨g, by rw [e1, eg]⟩
      subst hgh
      obtain ⟨r, c, i, o, y1, y2, _⟩ := ((D.out.harts.keep hB).at j (by have := LH.out; omega))
      have HOJ : Hid (Hok (X.harts.getD j voidH)) := HOK.out j (by have := LH.out; omega)
      obtain ⟨H, hH⟩ : ∃ H, X.harts.getD j voidH = H := ⟨_, rfl⟩
      have HHE : Hid (X.harts.getD j voidH = H) := hH
      rw [hH] at y1 y2 HOJ
      obtain ⟨xr, kr, e0, _⟩ := y2.r.shape
      obtain ⟨xc, kc, e1, _⟩ := y2.c.shape
      obtain ⟨xi, ki, e2, _⟩ := y2.i.shape
      obtain ⟨xo, ko, e3, _⟩ := y2.o.shape
      subst e0 e1 e2 e3
      obtain ⟨lr, hlr⟩ : ∃ n, H.regs.length = n := ⟨_, rfl⟩
      obtain ⟨lc, hlc⟩ : ∃ n, H.csr.length = n := ⟨_, rfl⟩
      obtain ⟨li, hli⟩ : ∃ n, H.inn.length = n := ⟨_, rfl⟩
      obtain ⟨lo, hlo⟩ : ∃ n, H.out.length = n := ⟨_, rfl⟩
      rw [hlr, hlc, hli, hlo] at y1 y2
      have Y1 : Hid (Hc wr ⟨gh, j * 9, none⟩ (.slice xr lr kr) (.slice xc lc kc) (.slice xi li ki) (.slice xo lo ko) H ∧ gh < W.heap.size) := ⟨y1, by
        obtain ⟨_, _, _, _, z1, _⟩ := D.out.harts.at j (by have := LH.out; omega)
        exact block_of_cell z1.c0⟩
      have Y2 : Hid (Hm wr b (.slice xr lr kr) (.slice xc lc kc) (.slice xi li ki) (.slice xo lo ko) H) := y2
      clear hlt hB hj y1 y2 hH hlr hlc hli hlo
      have SD : Hid (Mq (fun k => V.heap.size ≤ k ∨ k = q) wr wr.drew) := ⟨rfl, rfl, rfl, Nat.le_refl _, fun _ _ _ => rfl⟩
      have QL : Hid (∀ w', Mq (fun k => V.heap.size ≤ k ∨ k = q) wr w' → w'.cell? ⟨s, 5, none⟩ = some (.slice (some ⟨gh, 0, none⟩) lh ch) ∧ Hc w' ⟨gh, j * 9, none⟩ (.slice xr lr kr) (.slice xc lc kc) (.slice xi li ki) (.slice xo lo ko) H) := fun w' hs => ⟨((hs.vb (Q.out.keep HB.out.1) (by have := QB.out; have := ZW.out; omega)).cell 5 rfl), by
        have hn : ¬ (V.heap.size ≤ gh ∨ gh = q) := by have := Y1.out.2; have := QB.out; omega
        have k := Y1.out.1
        exact ⟨mq_cellX hs k.c0 hn, mq_cellX hs k.c1 hn, mq_cellX hs k.c2 hn, mq_cellX hs k.c3 hn, mq_cellX hs k.c4 hn, mq_cellX hs k.c5 hn, mq_cellX hs k.c6 hn, mq_cellX hs k.c7 hn, mq_cellX hs k.c8 hn⟩⟩
      go_wp2_with fail
      refine wp_region_held (S := fun w' => Mq (fun k => V.heap.size ≤ k ∨ k = q) wr w') (by kernel_rfl) ?_
      change wpAnyH _ _ _ _ _ _ _ _ (World.drew _)
      have BU : Hid (Below wr.heap.size wr wr.drew) := (Below.refl _ _).drew
      generalize wr.drew = v0 at *
      have MU : Hid (Mq (fun k => V.heap.size ≤ k ∨ k = q) wr v0) := SD.out
      refine wpTk (i := 0) (v := (.pointer (some ⟨q, 5, none⟩))) rfl (Or.inl ⟨by rfl, fun w' hs => by go_simp⟩) SD.out ?_
      change wpAnyH _ _ _ _ _ _ _ (Act.put _ (some 25) _) _
      simp only [Act.put, zT, zZ, zS]
      refine wpTk (i := 2) (v := (.pointer (some ⟨s, 5, none⟩))) rfl (Or.inl ⟨by rfl, fun w' hs => by go_simp⟩) SD.out ?_
      change wpAnyH _ _ _ _ _ _ _ (Act.put _ (some 27) _) _
      simp only [Act.put, zT, zZ, zS]
      refine wpTk (i := 3) (v := (.slice (some ⟨gh, 0, none⟩) lh ch)) rfl (Or.inl ⟨by rfl, fun w' hs => by have y := (QL.out w' hs).1; go_simp⟩) SD.out ?_
      change wpAnyH _ _ _ _ _ _ _ (Act.put _ (some 28) _) _
      simp only [Act.put, zT, zZ, zS]
      refine wpTk (i := 4) (v := (.int .i64 (j : Int))) rfl (Or.inl ⟨by rfl, fun w' hs => by go_simp⟩) SD.out ?_
      change wpAnyH _ _ _ _ _ _ _ (Act.put _ (some 29) _) _
      simp only [Act.put, zT, zZ, zS]
      refine wpTk (i := 5) (v := (.pointer (some ⟨gh, j * 9, none⟩))) rfl (Or.inl ⟨by rfl, fun w' hs => by have y0 := (QL.out w' hs).2.c0; go_simp⟩) SD.out ?_
      change wpAnyH _ _ _ _ _ _ _ (Act.put _ (some 30) _) _
      simp only [Act.put, zT, zZ, zS]
      refine wpTk (i := 6) (v := (.agg #[.slice xr lr kr, .int .i64 H.pc, .slice xc lc kc, .bool H.halted, .bool H.waiting, .bool H.rung, .int .i64 H.done, .slice xi li ki, .slice xo lo ko])) rfl (Or.inl ⟨by rfl, fun w' hs => by have k := (QL.out w' hs).2; have y0 := k.c0; have y1 := k.c1; have y2 := k.c2; have y3 := k.c3; have y4 := k.c4; have y5 := k.c5; have y6 := k.c6; have y7 := k.c7; have y8 := k.c8; go_simp⟩) SD.out ?_
      change wpAnyH _ _ _ _ _ _ _ (Act.put _ (some 31) _) _
      simp only [Act.put, zT, zZ, zS]
      refine wpAnyH_ready (rs := [1, 7]) (by kernel_rfl) (by simp) ?_
      refine AllReadyH.cons rfl (fun K hK => ?_) (AllReadyH.cons rfl (fun K hK => ?_) AllReadyH.nil)
      · skip
        rw [if_pos (by rfl)]
        have y := (HX.out.keep BU.out).cell 5 rfl
        go_simp
        clear y
        refine hK.out _ _ MU.out (fun _ => ?_)
        clear hK K
        refine zR 7 rfl fun K hK => ?_
        rw [if_pos (by rfl)]
        go_simp
        refine (s_copy _ _ _ _ H b _ (Y2.out.keep BU.out) (by have := HOJ.out.r16; omega) (by have := HOJ.out.c11; omega) (by have := HOJ.out.i40; omega) (by have := HOJ.out.o40; omega)).mono ?_
        rintro e u1 ⟨_, _, _, _, rfl, hm, ha, bq⟩
        obtain ⟨da, dk, e0, _⟩ := hm.r.shape
        obtain ⟨db, dl, e1, _⟩ := hm.c.shape
        obtain ⟨dc, dm, e2, _⟩ := hm.i.shape
        obtain ⟨dd, dn, e3, _⟩ := hm.o.shape
        subst e0 e1 e2 e3
        obtain ⟨d0, hd0⟩ : ∃ n, H.regs.length = n := ⟨_, rfl⟩
        obtain ⟨d1, hd1⟩ : ∃ n, H.csr.length = n := ⟨_, rfl⟩
        obtain ⟨d2, hd2⟩ : ∃ n, H.inn.length = n := ⟨_, rfl⟩
        obtain ⟨d3, hd3⟩ : ∃ n, H.out.length = n := ⟨_, rfl⟩
        rw [hd0, hd1, hd2, hd3] at hm ha ⊢
        have HM1 : Hid (Hm u1 wr.heap.size (.slice da d0 dk) (.slice db d1 dl) (.slice dc d2 dm) (.slice dd d3 dn) H ∧ Ha (.slice da d0 dk) (.slice db d1 dl) (.slice dc d2 dm) (.slice dd d3 dn)) := ⟨hm.mono BU.out.size, ha⟩
        replace BU : Hid (Below wr.heap.size wr u1) := on BU.out bq
        replace MU : Hid (Mq (fun k => V.heap.size ≤ k ∨ k = q) wr u1) := mq_belowX BU.out
        clear hm ha bq hd0 hd1 hd2 hd3
        refine hK.out _ _ MU.out (fun _ => ?_)
        clear hK K
        refine zR 8 rfl fun K hK => ?_
        rw [if_pos (by rfl)]
        go_simp
        have bq : Below u1.heap.size u1 (u1.alloc (.cells #[.slice da d0 dk, .int .i64 H.pc, .slice db d1 dl, .bool H.halted, .bool H.waiting, .bool H.rung, .int .i64 H.done, .slice dc d2 dm, .slice dd d3 dn] 60)) := al (Below.refl _ _) _
        have C3 : Hid ((u1.alloc (.cells #[.slice da d0 dk, .int .i64 H.pc, .slice db d1 dl, .bool H.halted, .bool H.waiting, .bool H.rung, .int .i64 H.done, .slice dc d2 dm, .slice dd d3 dn] 60)).rangeAt u1.heap.size 0 (cel9 (⟨.slice da d0 dk, .slice db d1 dl, .slice dc d2 dm, .slice dd d3 dn⟩ : V4) H)) := range_new _ _ _
        replace HM1 : Hid (Hm (u1.alloc (.cells #[.slice da d0 dk, .int .i64 H.pc, .slice db d1 dl, .bool H.halted, .bool H.waiting, .bool H.rung, .int .i64 H.done, .slice dc d2 dm, .slice dd d3 dn] 60)) wr.heap.size (.slice da d0 dk) (.slice db d1 dl) (.slice dc d2 dm) (.slice dd d3 dn) H ∧ Ha (.slice da d0 dk) (.slice db d1 dl) (.slice dc d2 dm) (.slice dd d3 dn)) := ⟨HM1.out.1.keep bq, HM1.out.2⟩
        replace BU : Hid (Below wr.heap.size wr (u1.alloc (.cells #[.slice da d0 dk, .int .i64 H.pc, .slice db d1 dl, .bool H.halted, .bool H.waiting, .bool H.rung, .int .i64 H.done, .slice dc d2 dm, .slice dd d3 dn] 60))) := on BU.out bq
        obtain ⟨gf, hgf⟩ : ∃ g, u1.heap.size = g := ⟨_, rfl⟩
        rw [hgf] at C3 ⊢
        generalize u1.alloc (.cells #[.slice da d0 dk, .int .i64 H.pc, .slice db d1 dl, .bool H.halted, .bool H.waiting, .bool H.rung, .int .i64 H.done, .slice dc d2 dm, .slice dd d3 dn] 60) = u3 at *
        clear bq hgf
        replace MU : Hid (Mq (fun k => V.heap.size ≤ k ∨ k = q) wr u3) := mq_belowX BU.out
        refine hK.out _ _ MU.out (fun _ => ?_)
        clear hK K
        refine zR 9 rfl fun K hK => ?_
        refine step_hartsX rfl (.tmp 26) (.tmp 33) rfl V.heap.size (.slice va j vc) qs rfl (row_keepX HM.out.row BU.out) gf (⟨.slice da d0 dk, .slice db d1 dl, .slice dc d2 dm, .slice dd d3 dn⟩ : V4) H rfl C3.out (by intro u hu; simp only [V4.l, List.mem_cons, List.not_mem_nil, or_false] at hu; rcases hu with rfl | rfl | rfl | rfl <;> rfl) j HM.out.len (by have := HLT.out; have := SMP.out.2.2; omega) (Nat.le_trans HB.out.2 BU.out.size) ?_
        intro wa wc u4 hO4 hG4
        change K (Act.put _ (some 34) _) _
        simp only [Act.put, zT, zZ, zS]
        have KY : Ky (some 60) u3 u4 := ky_row (row_keepX HM.out.row BU.out) hG4
        have M4 : Hid (Mq (fun k => V.heap.size ≤ k ∨ k = q) wr u4) := (mq_belowX BU.out).trans (Mq.of hG4 fun k e => .inl (World.ownsRow.lt HM.out.row k e.symm).1)
        have MN : Hid (Mc u4 V.heap.size (.slice wa (j + 1) wc) X.harts (j + 1) (qs ++ [((⟨.slice da d0 dk, .slice db d1 dl, .slice dc d2 dm, .slice dd d3 dn⟩ : V4), H)])) := HM.out.step BU.out HM1.out.1 HM1.out.2 HB.out.2 HHE.out.symm hO4 hG4
        have V4' : Hid (Vb u4 q #[.slice b0 m0 g0, .slice b1a m1 g1, .slice b2a m2 g2, .slice b3 m3 g3, .slice ya yn yk, .slice va j vc, .int .i64 X.slot, .int .i64 X.left, .int .i64 X.clock] 40) := KY.vb (HX.out.keep BU.out) (by decide)
        have W4 : Hid (WqE u4 W.heap.size (.slice b0 m0 g0) (.slice b1a m1 g1) (.slice b2a m2 g2) (.slice b3 m3 g3) X.pol ∧ Nums u4 W.heap.size (.slice ya yn yk) X.mem) := ⟨(HW.out.1.keep BU.out).ky KY (by decide) (by decide) (by decide) (by decide) (by decide), KY.row (HW.out.2.keep BU.out) (by decide)⟩
        clear hO4 hG4 KY
        refine hK.out _ _ M4.out (fun _ => ?_)
        clear hK K
        refine wpTk (i := 10) (v := (.pointer (some ⟨q, 5, none⟩))) rfl (Or.inl ⟨by rfl, fun w' hs => by go_simp⟩) M4.out ?_
        change wpAnyH _ _ _ _ _ _ _ (Act.put _ (some 35) _) _
        simp only [Act.put, zT, zZ, zS]
        refine zR 11 rfl fun K hK => ?_
        rw [if_pos (by rfl)]
        have y0 := V4'.out.cell 5 rfl
        have f0 := V4'.out.free 5
        have lt := V4'.out.lt
        go_simp
        clear y0 f0 lt
        have V5 : Hid (Vb (u4.setCell ⟨q, 5, none⟩ (.slice wa (j + 1) wc)) q #[.slice b0 m0 g0, .slice b1a m1 g1, .slice b2a m2 g2, .slice b3 m3 g3, .slice ya yn yk, .slice wa (j + 1) wc, .int .i64 X.slot, .int .i64 X.left, .int .i64 X.clock] 40) := V4'.out.set 5 _
        have M5 : Hid (Mq (fun k => k = q) u4 (u4.setCell ⟨q, 5, none⟩ (.slice wa (j + 1) wc))) := (Mq.refl _ _).set _ _ rfl
        have K5 : Hid (Ky (some 40) u4 (u4.setCell ⟨q, 5, none⟩ (.slice wa (j + 1) wc))) := ky_set V4'.out M5.out
        have M6 : Hid (Mq (fun k => V.heap.size ≤ k ∨ k = q) wr (u4.setCell ⟨q, 5, none⟩ (.slice wa (j + 1) wc))) := M4.out.set _ _ (.inr rfl)
        generalize u4.setCell ⟨q, 5, none⟩ (.slice wa (j + 1) wc) = u5 at *
        refine hK.out _ _ M6.out (fun _ => ?_)
        clear hK K
        refine wpAnyH_done (by kernel_rfl) ?_ _
        have B5 : Hid (Below W.heap.size W u5) := Mq.under HB.out.1 M6.out fun k e => by have := QB.out; omega
        have Z5 : Hid (V.heap.size ≤ u5.heap.size) := Nat.le_trans HB.out.2 M6.out.size
        clear w5
        go_wp2_with fail
        go_roundw
        case rel => exact ⟨j + 1, _, _, by have := HLT.out; omega, by go_num, V5.out, W4.out.1.ky K5.out (by decide) (by decide) (by decide) (by decide) (by decide), K5.out.row W4.out.2 (by decide), MN.out.ky K5.out (by decide) (by decide), B5.out, Z5.out⟩
        case measure => have := HLT.out; simp [intOf]; omega
      · skip
        rw [if_pos (by rfl)]
        go_simp
        refine (s_copy _ _ _ _ H b _ (Y2.out.keep BU.out) (by have := HOJ.out.r16; omega) (by have := HOJ.out.c11; omega) (by have := HOJ.out.i40; omega) (by have := HOJ.out.o40; omega)).mono ?_
        rintro e u1 ⟨_, _, _, _, rfl, hm, ha, bq⟩
        obtain ⟨da, dk, e0, _⟩ := hm.r.shape
        obtain ⟨db, dl, e1, _⟩ := hm.c.shape
        obtain ⟨dc, dm, e2, _⟩ := hm.i.shape
        obtain ⟨dd, dn, e3, _⟩ := hm.o.shape
        subst e0 e1 e2 e3
        obtain ⟨d0, hd0⟩ : ∃ n, H.regs.length = n := ⟨_, rfl⟩
        obtain ⟨d1, hd1⟩ : ∃ n, H.csr.length = n := ⟨_, rfl⟩
        obtain ⟨d2, hd2⟩ : ∃ n, H.inn.length = n := ⟨_, rfl⟩
        obtain ⟨d3, hd3⟩ : ∃ n, H.out.length = n := ⟨_, rfl⟩
        rw [hd0, hd1, hd2, hd3] at hm ha ⊢
        have HM1 : Hid (Hm u1 wr.heap.size (.slice da d0 dk) (.slice db d1 dl) (.slice dc d2 dm) (.slice dd d3 dn) H ∧ Ha (.slice da d0 dk) (.slice db d1 dl) (.slice dc d2 dm) (.slice dd d3 dn)) := ⟨hm.mono BU.out.size, ha⟩
        replace BU : Hid (Below wr.heap.size wr u1) := on BU.out bq
        replace MU : Hid (Mq (fun k => V.heap.size ≤ k ∨ k = q) wr u1) := mq_belowX BU.out
        clear hm ha bq hd0 hd1 hd2 hd3
        refine hK.out _ _ MU.out (fun _ => ?_)
        clear hK K
        refine wpAnyH_ready (rs := [1, 8]) (by kernel_rfl) (by simp) ?_
        refine AllReadyH.cons rfl (fun K hK => ?_) (AllReadyH.cons rfl (fun K hK => ?_) AllReadyH.nil)
        · skip
          rw [if_pos (by rfl)]
          have y := (HX.out.keep BU.out).cell 5 rfl
          go_simp
          clear y
          refine hK.out _ _ MU.out (fun _ => ?_)
          clear hK K
          refine zR 8 rfl fun K hK => ?_
          rw [if_pos (by rfl)]
          go_simp
          have bq : Below u1.heap.size u1 (u1.alloc (.cells #[.slice da d0 dk, .int .i64 H.pc, .slice db d1 dl, .bool H.halted, .bool H.waiting, .bool H.rung, .int .i64 H.done, .slice dc d2 dm, .slice dd d3 dn] 60)) := al (Below.refl _ _) _
          have C3 : Hid ((u1.alloc (.cells #[.slice da d0 dk, .int .i64 H.pc, .slice db d1 dl, .bool H.halted, .bool H.waiting, .bool H.rung, .int .i64 H.done, .slice dc d2 dm, .slice dd d3 dn] 60)).rangeAt u1.heap.size 0 (cel9 (⟨.slice da d0 dk, .slice db d1 dl, .slice dc d2 dm, .slice dd d3 dn⟩ : V4) H)) := range_new _ _ _
          replace HM1 : Hid (Hm (u1.alloc (.cells #[.slice da d0 dk, .int .i64 H.pc, .slice db d1 dl, .bool H.halted, .bool H.waiting, .bool H.rung, .int .i64 H.done, .slice dc d2 dm, .slice dd d3 dn] 60)) wr.heap.size (.slice da d0 dk) (.slice db d1 dl) (.slice dc d2 dm) (.slice dd d3 dn) H ∧ Ha (.slice da d0 dk) (.slice db d1 dl) (.slice dc d2 dm) (.slice dd d3 dn)) := ⟨HM1.out.1.keep bq, HM1.out.2⟩
          replace BU : Hid (Below wr.heap.size wr (u1.alloc (.cells #[.slice da d0 dk, .int .i64 H.pc, .slice db d1 dl, .bool H.halted, .bool H.waiting, .bool H.rung, .int .i64 H.done, .slice dc d2 dm, .slice dd d3 dn] 60))) := on BU.out bq
          obtain ⟨gf, hgf⟩ : ∃ g, u1.heap.size = g := ⟨_, rfl⟩
          rw [hgf] at C3 ⊢
          generalize u1.alloc (.cells #[.slice da d0 dk, .int .i64 H.pc, .slice db d1 dl, .bool H.halted, .bool H.waiting, .bool H.rung, .int .i64 H.done, .slice dc d2 dm, .slice dd d3 dn] 60) = u3 at *
          clear bq hgf
          replace MU : Hid (Mq (fun k => V.heap.size ≤ k ∨ k = q) wr u3) := mq_belowX BU.out
          refine hK.out _ _ MU.out (fun _ => ?_)
          clear hK K
          refine zR 9 rfl fun K hK => ?_
          refine step_hartsX rfl (.tmp 26) (.tmp 33) rfl V.heap.size (.slice va j vc) qs rfl (row_keepX HM.out.row BU.out) gf (⟨.slice da d0 dk, .slice db d1 dl, .slice dc d2 dm, .slice dd d3 dn⟩ : V4) H rfl C3.out (by intro u hu; simp only [V4.l, List.mem_cons, List.not_mem_nil, or_false] at hu; rcases hu with rfl | rfl | rfl | rfl <;> rfl) j HM.out.len (by have := HLT.out; have := SMP.out.2.2; omega) (Nat.le_trans HB.out.2 BU.out.size) ?_
          intro wa wc u4 hO4 hG4
          change K (Act.put _ (some 34) _) _
          simp only [Act.put, zT, zZ, zS]
          have KY : Ky (some 60) u3 u4 := ky_row (row_keepX HM.out.row BU.out) hG4
          have M4 : Hid (Mq (fun k => V.heap.size ≤ k ∨ k = q) wr u4) := (mq_belowX BU.out).trans (Mq.of hG4 fun k e => .inl (World.ownsRow.lt HM.out.row k e.symm).1)
          have MN : Hid (Mc u4 V.heap.size (.slice wa (j + 1) wc) X.harts (j + 1) (qs ++ [((⟨.slice da d0 dk, .slice db d1 dl, .slice dc d2 dm, .slice dd d3 dn⟩ : V4), H)])) := HM.out.step BU.out HM1.out.1 HM1.out.2 HB.out.2 HHE.out.symm hO4 hG4
          have V4' : Hid (Vb u4 q #[.slice b0 m0 g0, .slice b1a m1 g1, .slice b2a m2 g2, .slice b3 m3 g3, .slice ya yn yk, .slice va j vc, .int .i64 X.slot, .int .i64 X.left, .int .i64 X.clock] 40) := KY.vb (HX.out.keep BU.out) (by decide)
          have W4 : Hid (WqE u4 W.heap.size (.slice b0 m0 g0) (.slice b1a m1 g1) (.slice b2a m2 g2) (.slice b3 m3 g3) X.pol ∧ Nums u4 W.heap.size (.slice ya yn yk) X.mem) := ⟨(HW.out.1.keep BU.out).ky KY (by decide) (by decide) (by decide) (by decide) (by decide), KY.row (HW.out.2.keep BU.out) (by decide)⟩
          clear hO4 hG4 KY
          refine hK.out _ _ M4.out (fun _ => ?_)
          clear hK K
          refine wpTk (i := 10) (v := (.pointer (some ⟨q, 5, none⟩))) rfl (Or.inl ⟨by rfl, fun w' hs => by go_simp⟩) M4.out ?_
          change wpAnyH _ _ _ _ _ _ _ (Act.put _ (some 35) _) _
          simp only [Act.put, zT, zZ, zS]
          refine zR 11 rfl fun K hK => ?_
          rw [if_pos (by rfl)]
          have y0 := V4'.out.cell 5 rfl
          have f0 := V4'.out.free 5
          have lt := V4'.out.lt
          go_simp
          clear y0 f0 lt
          have V5 : Hid (Vb (u4.setCell ⟨q, 5, none⟩ (.slice wa (j + 1) wc)) q #[.slice b0 m0 g0, .slice b1a m1 g1, .slice b2a m2 g2, .slice b3 m3 g3, .slice ya yn yk, .slice wa (j + 1) wc, .int .i64 X.slot, .int .i64 X.left, .int .i64 X.clock] 40) := V4'.out.set 5 _
          have M5 : Hid (Mq (fun k => k = q) u4 (u4.setCell ⟨q, 5, none⟩ (.slice wa (j + 1) wc))) := (Mq.refl _ _).set _ _ rfl
          have K5 : Hid (Ky (some 40) u4 (u4.setCell ⟨q, 5, none⟩ (.slice wa (j + 1) wc))) := ky_set V4'.out M5.out
          have M6 : Hid (Mq (fun k => V.heap.size ≤ k ∨ k = q) wr (u4.setCell ⟨q, 5, none⟩ (.slice wa (j + 1) wc))) := M4.out.set _ _ (.inr rfl)
          generalize u4.setCell ⟨q, 5, none⟩ (.slice wa (j + 1) wc) = u5 at *
          refine hK.out _ _ M6.out (fun _ => ?_)
          clear hK K
          refine wpAnyH_done (by kernel_rfl) ?_ _
          have B5 : Hid (Below W.heap.size W u5) := Mq.under HB.out.1 M6.out fun k e => by have := QB.out; omega
          have Z5 : Hid (V.heap.size ≤ u5.heap.size) := Nat.le_trans HB.out.2 M6.out.size
          clear w5
          go_wp2_with fail
          go_roundw
          case rel => exact ⟨j + 1, _, _, by have := HLT.out; omega, by go_num, V5.out, W4.out.1.ky K5.out (by decide) (by decide) (by decide) (by decide) (by decide), K5.out.row W4.out.2 (by decide), MN.out.ky K5.out (by decide) (by decide), B5.out, Z5.out⟩
          case measure => have := HLT.out; simp [intOf]; omega
        · skip
          rw [if_pos (by rfl)]
          go_simp
          have bq : Below u1.heap.size u1 (u1.alloc (.cells #[.slice da d0 dk, .int .i64 H.pc, .slice db d1 dl, .bool H.halted, .bool H.waiting, .bool H.rung, .int .i64 H.done, .slice dc d2 dm, .slice dd d3 dn] 60)) := al (Below.refl _ _) _
          have C3 : Hid ((u1.alloc (.cells #[.slice da d0 dk, .int .i64 H.pc, .slice db d1 dl, .bool H.halted, .bool H.waiting, .bool H.rung, .int .i64 H.done, .slice dc d2 dm, .slice dd d3 dn] 60)).rangeAt u1.heap.size 0 (cel9 (⟨.slice da d0 dk, .slice db d1 dl, .slice dc d2 dm, .slice dd d3 dn⟩ : V4) H)) := range_new _ _ _
          replace HM1 : Hid (Hm (u1.alloc (.cells #[.slice da d0 dk, .int .i64 H.pc, .slice db d1 dl, .bool H.halted, .bool H.waiting, .bool H.rung, .int .i64 H.done, .slice dc d2 dm, .slice dd d3 dn] 60)) wr.heap.size (.slice da d0 dk) (.slice db d1 dl) (.slice dc d2 dm) (.slice dd d3 dn) H ∧ Ha (.slice da d0 dk) (.slice db d1 dl) (.slice dc d2 dm) (.slice dd d3 dn)) := ⟨HM1.out.1.keep bq, HM1.out.2⟩
          replace BU : Hid (Below wr.heap.size wr (u1.alloc (.cells #[.slice da d0 dk, .int .i64 H.pc, .slice db d1 dl, .bool H.halted, .bool H.waiting, .bool H.rung, .int .i64 H.done, .slice dc d2 dm, .slice dd d3 dn] 60))) := on BU.out bq
          obtain ⟨gf, hgf⟩ : ∃ g, u1.heap.size = g := ⟨_, rfl⟩
          rw [hgf] at C3 ⊢
          generalize u1.alloc (.cells #[.slice da d0 dk, .int .i64 H.pc, .slice db d1 dl, .bool H.halted, .bool H.waiting, .bool H.rung, .int .i64 H.done, .slice dc d2 dm, .slice dd d3 dn] 60) = u3 at *
          clear bq hgf
          replace MU : Hid (Mq (fun k => V.heap.size ≤ k ∨ k = q) wr u3) := mq_belowX BU.out
          refine hK.out _ _ MU.out (fun _ => ?_)
          clear hK K
          refine zR 1 rfl fun K hK => ?_
          rw [if_pos (by rfl)]
          have y := (HX.out.keep BU.out).cell 5 rfl
          go_simp
          clear y
          refine hK.out _ _ MU.out (fun _ => ?_)
          clear hK K
          refine zR 9 rfl fun K hK => ?_
          refine step_hartsX rfl (.tmp 26) (.tmp 33) rfl V.heap.size (.slice va j vc) qs rfl (row_keepX HM.out.row BU.out) gf (⟨.slice da d0 dk, .slice db d1 dl, .slice dc d2 dm, .slice dd d3 dn⟩ : V4) H rfl C3.out (by intro u hu; simp only [V4.l, List.mem_cons, List.not_mem_nil, or_false] at hu; rcases hu with rfl | rfl | rfl | rfl <;> rfl) j HM.out.len (by have := HLT.out; have := SMP.out.2.2; omega) (Nat.le_trans HB.out.2 BU.out.size) ?_
          intro wa wc u4 hO4 hG4
          change K (Act.put _ (some 34) _) _
          simp only [Act.put, zT, zZ, zS]
          have KY : Ky (some 60) u3 u4 := ky_row (row_keepX HM.out.row BU.out) hG4
          have M4 : Hid (Mq (fun k => V.heap.size ≤ k ∨ k = q) wr u4) := (mq_belowX BU.out).trans (Mq.of hG4 fun k e => .inl (World.ownsRow.lt HM.out.row k e.symm).1)
          have MN : Hid (Mc u4 V.heap.size (.slice wa (j + 1) wc) X.harts (j + 1) (qs ++ [((⟨.slice da d0 dk, .slice db d1 dl, .slice dc d2 dm, .slice dd d3 dn⟩ : V4), H)])) := HM.out.step BU.out HM1.out.1 HM1.out.2 HB.out.2 HHE.out.symm hO4 hG4
          have V4' : Hid (Vb u4 q #[.slice b0 m0 g0, .slice b1a m1 g1, .slice b2a m2 g2, .slice b3 m3 g3, .slice ya yn yk, .slice va j vc, .int .i64 X.slot, .int .i64 X.left, .int .i64 X.clock] 40) := KY.vb (HX.out.keep BU.out) (by decide)
          have W4 : Hid (WqE u4 W.heap.size (.slice b0 m0 g0) (.slice b1a m1 g1) (.slice b2a m2 g2) (.slice b3 m3 g3) X.pol ∧ Nums u4 W.heap.size (.slice ya yn yk) X.mem) := ⟨(HW.out.1.keep BU.out).ky KY (by decide) (by decide) (by decide) (by decide) (by decide), KY.row (HW.out.2.keep BU.out) (by decide)⟩
          clear hO4 hG4 KY
          refine hK.out _ _ M4.out (fun _ => ?_)
          clear hK K
          refine wpTk (i := 10) (v := (.pointer (some ⟨q, 5, none⟩))) rfl (Or.inl ⟨by rfl, fun w' hs => by go_simp⟩) M4.out ?_
          change wpAnyH _ _ _ _ _ _ _ (Act.put _ (some 35) _) _
          simp only [Act.put, zT, zZ, zS]
          refine zR 11 rfl fun K hK => ?_
          rw [if_pos (by rfl)]
          have y0 := V4'.out.cell 5 rfl
          have f0 := V4'.out.free 5
          have lt := V4'.out.lt
          go_simp
          clear y0 f0 lt
          have V5 : Hid (Vb (u4.setCell ⟨q, 5, none⟩ (.slice wa (j + 1) wc)) q #[.slice b0 m0 g0, .slice b1a m1 g1, .slice b2a m2 g2, .slice b3 m3 g3, .slice ya yn yk, .slice wa (j + 1) wc, .int .i64 X.slot, .int .i64 X.left, .int .i64 X.clock] 40) := V4'.out.set 5 _
          have M5 : Hid (Mq (fun k => k = q) u4 (u4.setCell ⟨q, 5, none⟩ (.slice wa (j + 1) wc))) := (Mq.refl _ _).set _ _ rfl
          have K5 : Hid (Ky (some 40) u4 (u4.setCell ⟨q, 5, none⟩ (.slice wa (j + 1) wc))) := ky_set V4'.out M5.out
          have M6 : Hid (Mq (fun k => V.heap.size ≤ k ∨ k = q) wr (u4.setCell ⟨q, 5, none⟩ (.slice wa (j + 1) wc))) := M4.out.set _ _ (.inr rfl)
          generalize u4.setCell ⟨q, 5, none⟩ (.slice wa (j + 1) wc) = u5 at *
          refine hK.out _ _ M6.out (fun _ => ?_)
          clear hK K
          refine wpAnyH_done (by kernel_rfl) ?_ _
          have B5 : Hid (Below W.heap.size W u5) := Mq.under HB.out.1 M6.out fun k e => by have := QB.out; omega
          have Z5 : Hid (V.heap.size ≤ u5.heap.size) := Nat.le_trans HB.out.2 M6.out.size
          clear w5
          go_wp2_with fail
          go_roundw
          case rel => exact ⟨j + 1, _, _, by have := HLT.out; omega, by go_num, V5.out, W4.out.1.ky K5.out (by decide) (by decide) (by decide) (by decide) (by decide), K5.out.row W4.out.2 (by decide), MN.out.ky K5.out (by decide) (by decide), B5.out, Z5.out⟩
          case measure => have := HLT.out; simp [intOf]; omega
    · have hJ : ¬ (j : Int) < (lh : Int) := by omega
      have JN : Hid (j = lh) := by show _ = _; omega
      clear hlt hB hj
      have R3 : Hid (Vb wr (s + 1) #[.slice none 0 0, .slice none 0 0, .slice none 0 0, .slice none 0 0, .slice none 0 0, .slice none 0 0, .int .i64 0, .int .i64 0, .int .i64 0] 40) := R.out.keep HB.out.1
      have y0 := HX.out.cell 0 rfl
      have y1 := HX.out.cell 1 rfl
      have y2 := HX.out.cell 2 rfl
      have y3 := HX.out.cell 3 rfl
      have y4 := HX.out.cell 4 rfl
      have y5 := HX.out.cell 5 rfl
      have y6 := HX.out.cell 6 rfl
      have y7 := HX.out.cell 7 rfl
      have y8 := HX.out.cell 8 rfl
      have p0 := R3.out.cell 0 rfl
      have f0 := R3.out.free 0
      have p1 := R3.out.cell 1 rfl
      have f1 := R3.out.free 1
      have p2 := R3.out.cell 2 rfl
      have f2 := R3.out.free 2
      have p3 := R3.out.cell 3 rfl
      have f3 := R3.out.free 3
      have p4 := R3.out.cell 4 rfl
      have f4 := R3.out.free 4
      have p5 := R3.out.cell 5 rfl
      have f5 := R3.out.free 5
      have p6 := R3.out.cell 6 rfl
      have f6 := R3.out.free 6
      have p7 := R3.out.cell 7 rfl
      have f7 := R3.out.free 7
      have p8 := R3.out.cell 8 rfl
      have f8 := R3.out.free 8
      have lt := R3.out.lt
      go_wp2_with fail
      clear lt w5 y0 y1 y2 y3 y4 y5 y6 y7 y8 p0 f0 p1 f1 p2 f2 p3 f3 p4 f4 p5 f5 p6 f6 p7 f7 p8 f8
      have NN : Hid (Vb (((((((((wr.setCell ⟨s + 1, 0, none⟩ (.slice b0 m0 g0)).setCell ⟨s + 1, 1, none⟩ (.slice b1a m1 g1)).setCell ⟨s + 1, 2, none⟩ (.slice b2a m2 g2)).setCell ⟨s + 1, 3, none⟩ (.slice b3 m3 g3)).setCell ⟨s + 1, 4, none⟩ (.slice ya yn yk)).setCell ⟨s + 1, 5, none⟩ (.slice va j vc)).setCell ⟨s + 1, 6, none⟩ (.int .i64 X.slot)).setCell ⟨s + 1, 7, none⟩ (.int .i64 X.left)).setCell ⟨s + 1, 8, none⟩ (.int .i64 X.clock)) (s + 1) #[.slice b0 m0 g0, .slice b1a m1 g1, .slice b2a m2 g2, .slice b3 m3 g3, .slice ya yn yk, .slice va j vc, .int .i64 X.slot, .int .i64 X.left, .int .i64 X.clock] 40 ∧ Mq (fun k => k = s + 1) wr (((((((((wr.setCell ⟨s + 1, 0, none⟩ (.slice b0 m0 g0)).setCell ⟨s + 1, 1, none⟩ (.slice b1a m1 g1)).setCell ⟨s + 1, 2, none⟩ (.slice b2a m2 g2)).setCell ⟨s + 1, 3, none⟩ (.slice b3 m3 g3)).setCell ⟨s + 1, 4, none⟩ (.slice ya yn yk)).setCell ⟨s + 1, 5, none⟩ (.slice va j vc)).setCell ⟨s + 1, 6, none⟩ (.int .i64 X.slot)).setCell ⟨s + 1, 7, none⟩ (.int .i64 X.left)).setCell ⟨s + 1, 8, none⟩ (.int .i64 X.clock))) := nineX R3.out (.slice b0 m0 g0) (.slice b1a m1 g1) (.slice b2a m2 g2) (.slice b3 m3 g3) (.slice ya yn yk) (.slice va j vc) (.int .i64 X.slot) (.int .i64 X.left) (.int .i64 X.clock)
      have O9 : Hid (Ho (s + 2) wr (((((((((wr.setCell ⟨s + 1, 0, none⟩ (.slice b0 m0 g0)).setCell ⟨s + 1, 1, none⟩ (.slice b1a m1 g1)).setCell ⟨s + 1, 2, none⟩ (.slice b2a m2 g2)).setCell ⟨s + 1, 3, none⟩ (.slice b3 m3 g3)).setCell ⟨s + 1, 4, none⟩ (.slice ya yn yk)).setCell ⟨s + 1, 5, none⟩ (.slice va j vc)).setCell ⟨s + 1, 6, none⟩ (.int .i64 X.slot)).setCell ⟨s + 1, 7, none⟩ (.int .i64 X.left)).setCell ⟨s + 1, 8, none⟩ (.int .i64 X.clock))) := NN.out.2.ho fun k e => by omega
      generalize (((((((((wr.setCell ⟨s + 1, 0, none⟩ (.slice b0 m0 g0)).setCell ⟨s + 1, 1, none⟩ (.slice b1a m1 g1)).setCell ⟨s + 1, 2, none⟩ (.slice b2a m2 g2)).setCell ⟨s + 1, 3, none⟩ (.slice b3 m3 g3)).setCell ⟨s + 1, 4, none⟩ (.slice ya yn yk)).setCell ⟨s + 1, 5, none⟩ (.slice va j vc)).setCell ⟨s + 1, 6, none⟩ (.int .i64 X.slot)).setCell ⟨s + 1, 7, none⟩ (.int .i64 X.left)).setCell ⟨s + 1, 8, none⟩ (.int .i64 X.clock)) = W9 at *
      have x0 := NN.out.1.cell 0 rfl
      have x1 := NN.out.1.cell 1 rfl
      have x2 := NN.out.1.cell 2 rfl
      have x3 := NN.out.1.cell 3 rfl
      have x4 := NN.out.1.cell 4 rfl
      have x5 := NN.out.1.cell 5 rfl
      have x6 := NN.out.1.cell 6 rfl
      have x7 := NN.out.1.cell 7 rfl
      have x8 := NN.out.1.cell 8 rfl
      have z2 := ZW.out
      have z4 := BV.out.size
      have z5 := HSs.out
      have F : Hid (Oq W9 w.heap.size (.slice b0 m0 g0) (.slice b1a m1 g1) (.slice b2a m2 g2) (.slice b3 m3 g3) (.slice ya yn yk) (.slice va j vc) X) := by
        have hs2 : s + 2 ≤ W.heap.size := by omega
        obtain ⟨xs, k1, k2, k3⟩ := HW.out.1.own
        have own9 : SvO W9 (s + 2) (.slice b0 m0 g0) X.pol.own := ⟨xs, k1, row_hoX (row_monoX k2 hs2) O9.out, fun i x e => ((k3 i x e).mono hs2).ho O9.out⟩
        have mem9 : Nums W9 (s + 2) (.slice ya yn yk) X.mem := (HW.out.2.mono hs2).ho O9.out
        have mw9 : Mc W9 V.heap.size (.slice va j vc) X.harts j qs := HM.out.hoX (ho_lessX O9.out (by omega))
        refine ⟨own9.mono (by omega), row_monoX (row_hoX (row_monoX HW.out.1.lanes hs2) O9.out) (by omega), row_monoX (row_hoX (row_monoX HW.out.1.bells hs2) O9.out) (by omega), row_monoX (row_hoX (row_monoX HW.out.1.plan hs2) O9.out) (by omega), mem9.mono (by omega), qs, row_monoX mw9.row (by omega), ?_, fun q hq => ?_⟩
        · apply List.ext_getElem (by rw [List.length_map, mw9.len, JN.out]; exact LH.out)
          intro i h1 h2
          rw [List.length_map] at h1
          have e := (mw9.one i qs[i] (List.getElem?_eq_getElem h1)).1
          rw [List.getElem_map, e, List.getD, List.getElem?_eq_getElem h2]
          rfl
        · obtain ⟨i, hi, e⟩ := List.mem_iff_getElem.1 hq
          exact (mw9.one i q (by rw [List.getElem?_eq_getElem hi, e])).2.mono (by omega)
      exact bodyPost_ret (v := .agg #[.slice b0 m0 g0, .slice b1a m1 g1, .slice b2a m2 g2, .slice b3 m3 g3, .slice ya yn yk, .slice va j vc, .int .i64 X.slot, .int .i64 X.left, .int .i64 X.clock]) (by simp [results, Tryz.results22, go_sem, x0, x1, x2, x3, x4, x5, x6, x7, x8]) rfl ⟨_, _, _, _, _, _, rfl, F.out, Mq.under (on B0.out HB.out.1) NN.out.2 fun k e => by have := HSs.out; omega⟩
end Go.Proofs.YtggejbphdadckaaGreatDoor
