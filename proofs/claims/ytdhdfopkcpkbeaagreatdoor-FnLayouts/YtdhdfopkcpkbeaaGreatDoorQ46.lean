/- Texts of this seat, joined. -/
import Derived.Deep.RegionHeld3
import Derived.Test.YtdhdfopkcpkbeaaGreatDoorQ01
import Derived.Test.YtdhdfopkcpkbeaaGreatDoorQ44
import Derived.Test.YtdhdfopkcpkbeaaGreatDoorQ45
namespace Go.Proofs.YtdhdfopkcpkbeaaGreatDoor
open Go.RowKit
set_option linter.unusedVariables false

theorem Dv.mono {w : World} {base base' : Nat} {v0 v1 v2 v3 : Value} {P : Plc} (h : Dv w base v0 v1 v2 v3 P) (hb : base' ≤ base) : Dv w base' v0 v1 v2 v3 P := by
  obtain ⟨xs, h0, h1, h2⟩ := h.own
  exact ⟨⟨xs, h0, row_up h1 hb, fun i hi => row_up (h2 i hi) hb⟩, row_up h.lanes hb, row_up h.bells hb, row_up h.plan hb⟩
/-- The turned policy under way: the result's place at w's end, the variable's at q. -/
structure Pq (w wr : World) (b kk q : Nat) (a : Option Addr) (len cap : Nat) (zs : List Int) (v0 v1 v2 v3 : Value) (P : Plc) : Prop where
  src : Src wr b kk a len cap zs
  turn : Turn b w wr
  res : Bk wr w.heap.size #[.slice none 0 0, .slice none 0 0, .slice none 0 0, .slice none 0 0] 29
  hq : w.heap.size < q
  var : Bk wr q #[v0, v1, v2, v3] 29
  dv : Dv wr w.heap.size v0 v1 v2 v3 P
theorem Pq.next {w wr w' : World} {b kk k2 q : Nat} {a : Option Addr} {len cap : Nat} {zs : List Int} {v0 v1 v2 v3 : Value} {P : Plc} (h : Pq w wr b kk q a len cap zs v0 v1 v2 v3 P) (hb : b < w.heap.size) (t : Turn b wr w') (s : Src w' b k2 a len cap zs) : Pq w w' b k2 q a len cap zs v0 v1 v2 v3 P :=
  ⟨s, h.turn.trans t, h.res.turn t (by omega), h.hq, h.var.turn t (by have := h.hq; omega), h.dv.turn t hb⟩
theorem Pq.below {w wr w' : World} {b kk q : Nat} {a : Option Addr} {len cap : Nat} {zs : List Int} {v0 v1 v2 v3 : Value} {P : Plc} (h : Pq w wr b kk q a len cap zs v0 v1 v2 v3 P) (hb : b < w.heap.size) (t : Below wr.heap.size wr w') : Pq w w' b kk q a len cap zs v0 v1 v2 v3 P :=
  h.next hb (Turn.of_below t) (h.src.turn (Turn.of_below (b := wr.heap.size) t) (Nat.le_refl _))
theorem Pq.alloc {w wr : World} {b kk q : Nat} {a : Option Addr} {len cap : Nat} {zs : List Int} {v0 v1 v2 v3 : Value} {P : Plc} (h : Pq w wr b kk q a len cap zs v0 v1 v2 v3 P) (hb : b < w.heap.size) (o : Obj) : Pq w (wr.alloc o) b kk q a len cap zs v0 v1 v2 v3 P :=
  h.below hb (al (Below.refl _ _) _)
/-- A field set to a slice that lies there already. -/
theorem Pq.set {w wr : World} {b kk q i : Nat} {a : Option Addr} {len cap : Nat} {zs : List Int} {v0 v1 v2 v3 u0 u1 u2 u3 u : Value} {P P' : Plc} (h : Pq w wr b kk q a len cap zs v0 v1 v2 v3 P) (hb : b < w.heap.size) (hd : Dv wr w.heap.size u0 u1 u2 u3 P') (hu : #[v0, v1, v2, v3].setIfInBounds i u = #[u0, u1, u2, u3]) : Pq w (wr.setCell ⟨q, i, none⟩ u) b kk q a len cap zs u0 u1 u2 u3 P' :=
  ⟨h.src.put _ _ (by show b < q; have := h.hq; omega), h.turn.put _ _ (by show w.heap.size ≤ q; have := h.hq; omega), h.res.put _ _ (by show w.heap.size ≠ q; have := h.hq; omega), h.hq, hu ▸ h.var.set i u, hd.put h.var u⟩
/-- A row grown, and the policy told anew. -/
theorem Pq.grown {w wr w' : World} {b kk q e sz n : Nat} {a : Option Addr} {len cap : Nat} {zs : List Int} {v0 v1 v2 v3 u0 u1 u2 u3 u : Value} {P P' : Plc} {xs : List Value} (h : Pq w wr b kk q a len cap zs v0 v1 v2 v3 P) (hb : b < w.heap.size) (k : wr.ownsRow w.heap.size e sz u n xs) (he : e ≠ 29) (g : wr.grownBy w' u.ownBlock) :
    Src w' b kk a len cap zs ∧ Turn b w w' ∧ Bk w' w.heap.size #[.slice none 0 0, .slice none 0 0, .slice none 0 0, .slice none 0 0] 29 ∧ Bk w' q #[v0, v1, v2, v3] 29 :=
  ⟨h.src.rowed k hb g, h.turn.rowed k (Nat.le_refl _) g, h.res.gr g (Ne.symm (h.res.row k he)), h.var.gr g (Ne.symm (h.var.row k he))⟩
theorem Pq.mk' {w w' : World} {b kk q i : Nat} {a : Option Addr} {len cap : Nat} {zs : List Int} {v0 v1 v2 v3 u0 u1 u2 u3 u : Value} {P : Plc} (hb : b < w.heap.size) (hq : w.heap.size < q) (h : Src w' b kk a len cap zs ∧ Turn b w w' ∧ Bk w' w.heap.size #[.slice none 0 0, .slice none 0 0, .slice none 0 0, .slice none 0 0] 29 ∧ Bk w' q #[v0, v1, v2, v3] 29)
    (hd : Dv w' w.heap.size u0 u1 u2 u3 P) (hu : #[v0, v1, v2, v3].setIfInBounds i u = #[u0, u1, u2, u3]) : Pq w (w'.setCell ⟨q, i, none⟩ u) b kk q a len cap zs u0 u1 u2 u3 P :=
  ⟨h.1.put _ _ (by show b < q; omega), h.2.1.put _ _ (by show w.heap.size ≤ q; omega), h.2.2.1.put _ _ (by show w.heap.size ≠ q; omega), hq, hu ▸ h.2.2.2.set i u, hd.put h.2.2.2 u⟩
theorem Pq.done {w wr : World} {b kk q : Nat} {a : Option Addr} {len cap : Nat} {zs : List Int} {v0 v1 v2 v3 : Value} {P : Plc} (h : Pq w wr b kk q a len cap zs v0 v1 v2 v3 P) (hb : b < w.heap.size) :
    let W := (((wr.setCell ⟨w.heap.size, 0, none⟩ v0).setCell ⟨w.heap.size, 1, none⟩ v1).setCell ⟨w.heap.size, 2, none⟩ v2).setCell ⟨w.heap.size, 3, none⟩ v3
    Dv W w.heap.size v0 v1 v2 v3 P ∧ Turn b w W ∧ Src W b kk a len cap zs ∧ Bk W w.heap.size #[v0, v1, v2, v3] 29 := by
  have b1 := h.res.set 0 v0
  have b2 := b1.set 1 v1
  have b3 := b2.set 2 v2
  have b4 := b3.set 3 v3
  have le := Nat.le_refl w.heap.size
  exact ⟨(((h.dv.put h.res v0).put b1 v1).put b2 v2).put b3 v3, (((h.turn.put _ _ le).put _ _ le).put _ _ le).put _ _ le, (((h.src.put _ _ hb).put _ _ hb).put _ _ hb).put _ _ hb, b4⟩
theorem Pq.nil0 {w wr : World} {b kk q g n c : Nat} {a : Option Addr} {len cap : Nat} {zs : List Int} {v1 v2 v3 : Value} {P : Plc} (h : Pq w wr b kk q a len cap zs (.slice (some ⟨g, 0, none⟩) n c) v1 v2 v3 P) (hb : b < w.heap.size) :
    ∃ oss, Pq w (wr.setCell ⟨g, 0, none⟩ (.slice none 0 0)) b kk q a len cap zs (.slice (some ⟨g, 0, none⟩) n c) v1 v2 v3 ⟨oss, P.lanes, P.bells, P.plan⟩ ∧ oss.length = P.own.length ∧ ∀ i, (oss.getD i []).length ≤ (P.own.getD i []).length := by
  obtain ⟨oss, ho, hol⟩ := h.dv.own.nil0
  obtain ⟨xs, h0, h1, h2⟩ := h.dv.own
  obtain ⟨r1, r2, r3, r4⟩ := Pq.grown (P' := P) (u0 := v1) (u1 := v1) (u2 := v1) (u3 := v1) h hb h1 (by decide) (grown_set wr ⟨g, 0, none⟩ (.slice none 0 0))
  exact ⟨oss, ⟨r1, r2, r3, h.hq, r4, ho, World.ownsRow.kept h.dv.lanes (grown_set wr ⟨g, 0, none⟩ _) (own_types h.dv.lanes h1 (by decide)), World.ownsRow.kept h.dv.bells (grown_set wr ⟨g, 0, none⟩ _) (own_types h.dv.bells h1 (by decide)), World.ownsRow.kept h.dv.plan (grown_set wr ⟨g, 0, none⟩ _) (own_types h.dv.plan h1 (by decide))⟩, hol⟩
theorem Pq.hit {w wr : World} {b kk q g n c : Nat} {a : Option Addr} {len cap : Nat} {zs : List Int} {v0 v1 v2 v3 : Value} {ys : List Int} {P : Plc} (h : Pq w wr b kk q a len cap zs v0 v1 v2 v3 P) (hb : b < w.heap.size) (hx : Nums wr w.heap.size (.slice (some ⟨g, 0, none⟩) n c) ys) (u : Int) :
    ∃ oss, Pq w (wr.setCell ⟨g, 0, none⟩ (.int .i64 u)) b kk q a len cap zs v0 v1 v2 v3 ⟨oss, P.lanes, P.bells, P.plan⟩ ∧ oss.length = P.own.length ∧ ∀ i, (oss.getD i []).length ≤ (P.own.getD i []).length := by
  obtain ⟨oss, ho, hol⟩ := h.dv.own.hit ⟨_, _, _, hx, rfl⟩ u
  obtain ⟨r1, r2, r3, r4⟩ := Pq.grown (P' := P) (u0 := v1) (u1 := v1) (u2 := v1) (u3 := v1) h hb hx (by decide) (grown_set wr ⟨g, 0, none⟩ (.int .i64 u))
  exact ⟨oss, ⟨r1, r2, r3, h.hq, r4, ho, World.ownsRow.kept h.dv.lanes (grown_set wr ⟨g, 0, none⟩ _) (own_types h.dv.lanes hx (by decide)), World.ownsRow.kept h.dv.bells (grown_set wr ⟨g, 0, none⟩ _) (own_types h.dv.bells hx (by decide)), World.ownsRow.kept h.dv.plan (grown_set wr ⟨g, 0, none⟩ _) (own_types h.dv.plan hx (by decide))⟩, hol⟩
/-- A choice out of a list that was laid right ahead of the call. -/
theorem pickl {w : World} {b k : Nat} {a : Option Addr} {len cap : Nat} {zs : List Int} (s : Src w b k a len cap zs) (hk : k ≤ 100000) (cs : List Int) (m : Nat) (hm : cs.length = m) (h0 : 0 < m) (h1 : m ≤ 100) :
    Calls Tryz.prog 40 #[.pointer (some ⟨b, 0, none⟩), .slice (some ⟨w.heap.size, 0, none⟩) m m] (w.alloc (.cells (cs.map (Value.int .i64)).toArray 2)) fun e w' => ∃ v : Int, e = .returned (.int .i64 v) ∧ Turn b w w' ∧ Src w' b (k + 1) a len cap zs := by
  have hh := s.here
  refine (pick_any (s.alloc _) hk (fun _ => True) w.heap.size m h0 (by omega) (by simp) (by omega) ?_).mono ?_
  · intro i hi
    refine ⟨cs.getD i 0, cell_new ?_, trivial⟩
    rw [List.getElem?_toArray, List.getElem?_map, List.getD, List.getElem?_eq_getElem (by omega)]
    rfl
  · rintro e w' ⟨v, rfl, -, t, s'⟩
    exact ⟨v, rfl, (Turn.alloc _ _ _).trans t, s'⟩
/-- append of one slice of numbers, in a region that draws. -/
theorem step_slo {ops : Array Oper} {o : Oper} {act : Act} {w : World} {K : Act → World → Prop} {Q : Exit → Act → World → Prop} {E : Prop} (hgd : o.guard = none) (s x : Operand)
    (ho : o.op = .call { callee := .builtin .append, args := #[s, x], argTypes := #[24, 24] }) (base : Nat) (v : Value) (oss : List (List Int)) (hs : act.eval s = v) (hN : So w base v oss)
    (g : Nat) (a1 : Option Addr) (n1 c1 : Nat) (zs : List Int) (hx : act.eval x = .slice (some ⟨g, 0, none⟩) 1 1) (hc : w.cell? ⟨g, 0, none⟩ = some (.slice a1 n1 c1)) (hb : Nums w base (.slice a1 n1 c1) zs)
    (hlen : oss.length ≤ 1000) (hbase : base ≤ w.heap.size)
    (h : ∀ v' w', Hid (So w' base v' (oss ++ [zs])) → w.grownBy w' v.ownBlock → K (act.put o.dst v') w') :
    if Region.wanted o (yielded ops act.tmps) = true then Oper.wp Tryz.prog o act w K Q else E := by
  have hw : Region.wanted o (yielded ops act.tmps) = true := by simp [Region.wanted, hgd]
  rw [if_pos hw]
  obtain ⟨i, hi, hz0, hz1, hz2⟩ := info_parts info_sl
  have hN' := hN
  obtain ⟨xs, h0, h1, h2⟩ := hN
  refine wp_append_own w s x 24 ho base 32 i _ 1 24 Tryz.underlying24 hi hz0 hz1 hz2 rfl (by decide) v oss.length _ hs h1 ⟨g, 0, none⟩ 1 1 [.slice a1 n1 c1] hx rfl ?_ (by intro u hu; rw [List.mem_singleton] at hu; subst hu; rfl) (by unfold maxLen; omega) (by omega) hbase ?_
  · intro j u hj
    rw [Addr.add_lit, Nat.zero_add]
    match j, hj with
    | 0, hj => rw [hc]; exact hj
    | j + 1, hj => simp at hj
  · intro v' w' hown hgrow _
    refine h v' w' ?_ hgrow
    have hk : ∀ {u : Value} {rs : List Int}, Nums w base u rs → Nums w' base u rs := fun hu => hu.kept hgrow (own_types hu h1 (by decide))
    refine ⟨xs ++ [.slice a1 n1 c1], by simp [h0], by rw [List.length_append]; exact hown, fun i hi => ?_⟩
    rw [List.length_append, List.length_singleton] at hi
    by_cases e : i < oss.length
    · have e1 : (xs ++ [Value.slice a1 n1 c1]).getD i (.slice none 0 0) = xs.getD i (.slice none 0 0) := by
        rw [List.getD, List.getD, List.getElem?_append_left (by omega)]
      have e2 : (oss ++ [zs]).getD i [] = oss.getD i [] := by rw [List.getD, List.getD, List.getElem?_append_left e]
      rw [e1, e2]
      exact hk (h2 i e)
    · obtain rfl : i = oss.length := by omega
      have e1 : (xs ++ [Value.slice a1 n1 c1]).getD oss.length (.slice none 0 0) = .slice a1 n1 c1 := by
        rw [List.getD, List.getElem?_append_right (by omega), h0]; simp
      have e2 : (oss ++ [zs]).getD oss.length [] = zs := by rw [List.getD, List.getElem?_append_right (Nat.le_refl _)]; simp
      rw [e1, e2]
      exact hk hb
/-- append of two pairs, in a region that draws. -/
theorem step_two {ops : Array Oper} {o : Oper} {act : Act} {w : World} {K : Act → World → Prop} {Q : Exit → Act → World → Prop} {E : Prop} (t e : TypeId) (he : Tryz.prog.underlying t = some (.slice e)) (hinfo : (Tryz.prog.info? e).map (fun i => (i.zero, i.size, i.bytes)) = some (some (.agg #[.int .i64 0, .int .i64 0]), 2, 16))
    (hgd : o.guard = none) (s x : Operand)
    (ho : o.op = .call { callee := .builtin .append, args := #[s, x], argTypes := #[t, t] }) (base : Nat) (v : Value) (rs : List (Int × Int)) (hs : act.eval s = v) (hN : Prs e w base v rs)
    (B : Nat) (a b c d : Int) (hx : act.eval x = .slice (some ⟨B, 0, none⟩) 2 2) (h0 : w.cell? ⟨B, 0, none⟩ = some (.int .i64 a)) (h1 : w.cell? ⟨B, 1, none⟩ = some (.int .i64 b)) (h2 : w.cell? ⟨B, 2, none⟩ = some (.int .i64 c)) (h3 : w.cell? ⟨B, 3, none⟩ = some (.int .i64 d))
    (hlen : rs.length ≤ 1000000000) (hbase : base ≤ w.heap.size)
    (h : ∀ v' w', Hid (Prs e w' base v' (rs ++ [(a, b), (c, d)])) → w.grownBy w' v.ownBlock → K (act.put o.dst v') w') :
    if Region.wanted o (yielded ops act.tmps) = true then Oper.wp Tryz.prog o act w K Q else E := by
  have hw : Region.wanted o (yielded ops act.tmps) = true := by simp [Region.wanted, hgd]
  rw [if_pos hw]
  obtain ⟨i, hi, hz0, hz1, hz2⟩ := info_parts hinfo
  refine wp_append_own w s x t ho base e i _ 2 16 he hi hz0 hz1 hz2 rfl (by decide) v rs.length _ hs hN ⟨B, 0, none⟩ 2 2 (flat [(a, b), (c, d)]) hx rfl ?_ (flat_one _) (by unfold maxLen; omega) (by omega) hbase ?_
  · intro j u hj
    rw [Addr.add_lit, Nat.zero_add]
    match j, hj with
    | 0, hj => rw [h0]; exact hj
    | 1, hj => rw [h1]; exact hj
    | 2, hj => rw [h2]; exact hj
    | 3, hj => rw [h3]; exact hj
    | j + 4, hj => simp [flat] at hj
  · intro v' w' hown hgrow _
    refine h v' w' ?_ hgrow
    show Prs e w' base v' (rs ++ [(a, b), (c, d)])
    unfold Prs
    rw [List.length_append, flat_append]
    exact hown
theorem Pq.belled {w wr w' : World} {b kk q : Nat} {a : Option Addr} {len cap : Nat} {zs : List Int} {v0 v1 v2 v3 v' : Value} {P : Plc} {rs : List (Int × Int)} (h : Pq w wr b kk q a len cap zs v0 v1 v2 v3 P) (hb : b < w.heap.size) (k : Prs 85 w' w.heap.size v' rs) (g : wr.grownBy w' v2.ownBlock) :
    Bk w' q #[v0, v1, v2, v3] 29 ∧ Pq w (w'.setCell ⟨q, 2, none⟩ v') b kk q a len cap zs v0 v1 v' v3 ⟨P.own, P.lanes, rs, P.plan⟩ := by
  have r := Pq.grown (P' := P) (u0 := v1) (u1 := v1) (u2 := v1) (u3 := v1) h hb h.dv.bells (by decide) g
  exact ⟨r.2.2.2, Pq.mk' hb h.hq r (h.dv.setBells k g) rfl⟩
theorem Pq.owned {w wr w' : World} {b kk q : Nat} {a : Option Addr} {len cap : Nat} {zs : List Int} {v0 v1 v2 v3 v' : Value} {P : Plc} {oss : List (List Int)} (h : Pq w wr b kk q a len cap zs v0 v1 v2 v3 P) (hb : b < w.heap.size) (k : So w' w.heap.size v' oss) (g : wr.grownBy w' v0.ownBlock) :
    Bk w' q #[v0, v1, v2, v3] 29 ∧ Pq w (w'.setCell ⟨q, 0, none⟩ v') b kk q a len cap zs v' v1 v2 v3 ⟨oss, P.lanes, P.bells, P.plan⟩ := by
  obtain ⟨xs, _, hr, _⟩ := h.dv.own
  have r := Pq.grown (P' := P) (u0 := v1) (u1 := v1) (u2 := v1) (u3 := v1) h hb hr (by decide) g
  exact ⟨r.2.2.2, Pq.mk' hb h.hq r (h.dv.setOwn k g) rfl⟩
theorem Pq.slot0 {w wr : World} {b kk q g n c : Nat} {a : Option Addr} {len cap : Nat} {zs : List Int} {v0 v1 v2 : Value} {P : Plc} (h : Pq w wr b kk q a len cap zs v0 v1 v2 (.slice (some ⟨g, 0, none⟩) n c) P) (hb : b < w.heap.size) (hn : n = P.plan.length) (h0 : 0 < n) (x y : Int) :
    Pq w ((wr.setCell ⟨g, 0, none⟩ (.int .i64 x)).setCell ⟨g, 1, none⟩ (.int .i64 y)) b kk q a len cap zs v0 v1 v2 (.slice (some ⟨g, 0, none⟩) n c) ⟨P.own, P.lanes, P.bells, P.plan.set 0 (x, y)⟩ := by
  have gg : wr.grownBy ((wr.setCell ⟨g, 0, none⟩ (.int .i64 x)).setCell ⟨g, 1, none⟩ (.int .i64 y)) (Value.slice (some ⟨g, 0, none⟩) n c).ownBlock := grown_trans (grown_set wr ⟨g, 0, none⟩ _) (grown_set _ ⟨g, 1, none⟩ _)
  obtain ⟨r1, r2, r3, r4⟩ := Pq.grown (P' := P) (u0 := v1) (u1 := v1) (u2 := v1) (u3 := v1) h hb h.dv.plan (by decide) gg
  exact ⟨r1, r2, r3, h.hq, r4, h.dv.setPlan (h.dv.plan.store hn 0 x y h0) gg⟩
theorem Src.drewed {w : World} {b k : Nat} {a : Option Addr} {len cap : Nat} {zs : List Int} (s : Src w b k a len cap zs) : Src w.drew b k a len cap zs := s.turn (Turn.of_below (b := w.heap.size) (Below.refl _ _).drew) (Nat.le_refl _)
/-- Numbers laid as cells. -/
theorem laid_at (w : World) (cs : List Int) : ∀ i, i < cs.length → ∃ v : Int, (w.alloc (.cells (cs.map (Value.int .i64)).toArray 2)).cell? ⟨w.heap.size, i, none⟩ = some (.int .i64 v) ∧ True := by
  intro i hi
  refine ⟨cs.getD i 0, cell_new ?_, trivial⟩
  rw [List.getElem?_toArray, List.getElem?_map, List.getD, List.getElem?_eq_getElem hi]
  rfl
theorem laid_under (w : World) (cs : List Int) (o : Obj) : ∀ i, i < cs.length → ∃ v : Int, ((w.alloc (.cells (cs.map (Value.int .i64)).toArray 2)).alloc o).cell? ⟨w.heap.size, i, none⟩ = some (.int .i64 v) ∧ True := fun i hi => by
  obtain ⟨v, h, _⟩ := laid_at w cs i hi
  exact ⟨v, cell_keep (al (Below.refl _ _) o) h, trivial⟩
theorem laid_over (w : World) (cs : List Int) (o : Obj) : ∀ i, i < cs.length → ∃ v : Int, ((w.alloc o).alloc (.cells (cs.map (Value.int .i64)).toArray 2)).cell? ⟨w.heap.size + 1, i, none⟩ = some (.int .i64 v) ∧ True := fun i hi => by
  obtain ⟨v, h, _⟩ := laid_at (w.alloc o) cs i hi
  rw [World.size_alloc] at h
  exact ⟨v, h, trivial⟩
/-- What was laid stays over a draw. -/
theorem laid_turn {w w' : World} {b g m : Nat} (h : ∀ i, i < m → ∃ v : Int, w.cell? ⟨g, i, none⟩ = some (.int .i64 v) ∧ True) (t : Turn b w w') (hb : g ≠ b) : ∀ i, i < m → ∃ v : Int, w'.cell? ⟨g, i, none⟩ = some (.int .i64 v) ∧ True := fun i hi => by
  obtain ⟨v, h, _⟩ := h i hi
  exact ⟨v, by rw [t.cell (p := ⟨g, i, none⟩) (block_of_cell h) hb]; exact h, trivial⟩
end Go.Proofs.YtdhdfopkcpkbeaaGreatDoor
