/- A lonely machine copied by the model. -/
import Derived.Test.YtijajemalokgjaaScl
import Derived.Test.YtijajemalokgjaaZcy
import Derived.Test.YtijajemalokgjaaSla
import Derived.Test.YtijajemalokgjaaHmo
import Derived.Deep.RegionHeld3
namespace Go.Proofs.Ytijajemalokgjaa
open Go.RowKit
set_option linter.unusedVariables false

/-- append of pages to a slice of pages of the call's own, as a step of a region. -/
theorem step_appp {ops : Array Oper} {o : Oper} {act : Act} {w : World} {K : Act → World → Prop} {Q : Exit → Act → World → Prop} {E : Prop} (hgd : o.guard = none) (s x : Operand)
    (ho : o.op = .call { callee := .builtin .append, args := #[s, x], argTypes := #[33, 33] }) (base : Nat) (v : Value) (zs : List (Int × Int)) (hs : act.eval s = v) (hN : Prs 74 w base v zs)
    (g m c b : Nat) (ys : List (Int × Int)) (hx : act.eval x = .slice (some ⟨g, 0, none⟩) m c) (hR : Prs 74 w b (.slice (some ⟨g, 0, none⟩) m c) ys) (hm : m = ys.length)
    (hlen : zs.length + m ≤ 1000000000) (hbase : base ≤ w.heap.size)
    (h : ∀ v' w', Hid (Prs 74 w' base v' (zs ++ ys)) → w.grownBy w' v.ownBlock → K (act.put o.dst v') w') :
    if Region.wanted o (yielded ops act.tmps) = true then Oper.wp Try.prog o act w K Q else E := by
  have hw : Region.wanted o (yielded ops act.tmps) = true := by simp [Region.wanted, hgd]
  rw [if_pos hw]
  obtain ⟨i, hi, hz0, hz1, hz2⟩ := info_parts info_page
  refine wp_append_own w s x 33 ho base 74 i _ 2 16 Try.underlying33 hi hz0 hz1 hz2 rfl (by decide) v zs.length _ hs hN ⟨g, 0, none⟩ m c (flat ys) hx (by rw [flat_length, hm]) ?_ (flat_one ys) (by unfold maxLen; omega) (by omega) hbase ?_
  · intro j u hj
    have hjl : j < m * 2 := by have := (List.getElem?_eq_some_iff.1 hj).1; rw [flat_length] at this; omega
    subst hm
    rw [show (⟨g, 0, none⟩ : Addr).add j = ⟨g, j, none⟩ by rw [Addr.add_lit]; simp, World.ownsRow.cellAt hR j (by omega)]
    exact hj
  · intro v' w' hown hgrow _
    refine h v' w' ?_ hgrow
    show Prs _ _ _ _ _
    unfold Prs
    rw [List.length_append, flat_append, ← hm]
    exact hown
/-- The worlds behind W in which block q alone may have turned; its 11 cells are there. -/
def Sl (W : World) (q : Nat) (w' : World) : Prop := Mq (fun k => k = q) W w' ∧ w'.there q 0 11
theorem Sl.step {W w w' : World} {q : Nat} (h : Sl W q w) (hq : q < W.heap.size) (b : Below w.heap.size w w') : Sl W q w' :=
  ⟨h.1.trans (Mq.of (below_grown b none) fun k e => by cases e), there_below h.2 (Nat.lt_of_lt_of_le hq h.1.size) b⟩
theorem Sl.set {W w : World} {q : Nat} (h : Sl W q w) (vs : List Value) : Sl W q (w.setCells q 0 vs) := ⟨h.1.trans (mq_cells q vs w 0), World.there_setCells h.2 _ _ _⟩
theorem row_hoS {e : TypeId} {w w' : World} {base : Nat} {v : Value} {rs : List (Int × Int)} (h : Prs e w base v rs) (H : Ho base w w') : Prs e w' base v rs := by
  obtain ⟨h1, h2 | ⟨g, cap, cur, hv, hg, hr, rest⟩⟩ := h
  · exact ⟨h1, .inl h2⟩
  · refine ⟨h1, .inr ⟨g, cap, cur, hv, hg, ?_, rest⟩⟩
    rw [H.block g hg ((Array.getElem?_eq_some_iff.1 hr).1)]
    exact hr
theorem Sl.grow {W w w' : World} {q : Nat} {row : Option Nat} (h : Sl W q w) (hq : q < W.heap.size) (g : w.grownBy w' row) (hr : ∀ k, row = some k → W.heap.size ≤ k ∧ k < w.heap.size) : Sl W q w' := by
  refine ⟨⟨?_, ?_, ?_, Nat.le_trans h.1.size g.size, fun k hk hn => ?_⟩, fun j hj => ?_⟩
  · exact g.os.trans h.1.os
  · exact g.tape.trans h.1.tape
  · exact g.output.trans h.1.output
  · rw [g.block k (Nat.lt_of_lt_of_le hk h.1.size) (fun e => by have := (hr k e.symm).1; omega)]
    exact h.1.block k hk hn
  · obtain ⟨h1, h2⟩ := h.2 j hj
    have hl : q < w.heap.size := Nat.lt_of_lt_of_le hq h.1.size
    have hne : some q ≠ row := fun e => by have := (hr q e.symm).1; omega
    refine ⟨?_, ?_⟩
    · rw [show w'.cell? ⟨q, 0 + j, none⟩ = w.cell? ⟨q, 0 + j, none⟩ from by unfold World.cell?; rw [show w'.heap[(⟨q, 0 + j, none⟩ : Addr).block]? = w.heap[(⟨q, 0 + j, none⟩ : Addr).block]? from g.block q hl hne]]
      exact h1
    · rw [show w'.frozen? ⟨q, 0 + j, none⟩ = w.frozen? ⟨q, 0 + j, none⟩ from World.frozen?_of_block (w := w) (g.block q hl hne)]
      exact h2
theorem own_someS {g n c : Nat} {k : Nat} (e : some k = (Value.slice (some ⟨g, 0, none⟩) n c).ownBlock) : k = g := by have : k = g := (by simpa [Value.ownBlock] using e); omega
theorem hm_grown {w w' : World} {base : Nat} {r c i o : Value} {H : Ht} {row : Option Nat} (h : Hm w base r c i o H) (g : w.grownBy w' row) (hn : ∀ k, Own4 r c i o k → some k ≠ row) : Hm w' base r c i o H := by
  have one : ∀ {v : Value} {zs : List Int}, Nums w base v zs → (∀ k, v.ownBlock = some k → some k ≠ row) → Nums w' base v zs := fun {v zs} k hk => by
    refine World.ownsRow.kept k g ?_
    cases hv : v.ownBlock with
    | none => exact .inl rfl
    | some b => exact .inr (hk b hv)
  exact ⟨one h.r fun k e => hn k (.inl e), one h.c fun k e => hn k (.inr (.inl e)), one h.i fun k e => hn k (.inr (.inr (.inl e))), one h.o fun k e => hn k (.inr (.inr (.inr e)))⟩
set_option maxRecDepth 20000 in
set_option maxHeartbeats 8000000 in
theorem s_copy11 (a0 a1 a2 a3 : Option Addr) (n0 k0 n1 k1 n2 k2 n3 k3 : Nat) (H : Ht) (pg pc : Nat) (ps : List (Int × Int)) (gm mc : Nat) (zs : List Int) (b : Nat) (w : World) (h : Sm w b (.slice a0 n0 k0) (.slice a1 n1 k1) (.slice a2 n2 k2) (.slice a3 n3 k3) (.slice (some ⟨pg, 0, none⟩) 8 pc) (.slice (some ⟨gm, 0, none⟩) 64 mc) H ps zs) (hk : Hok H) (h8 : ps.length = 8) (h64 : zs.length = 64) :
    Calls Try.prog 38 #[.agg #[.slice a0 n0 k0, .int .i64 H.pc, .slice a1 n1 k1, .bool H.halted, .bool H.waiting, .bool H.rung, .int .i64 H.done, .slice a2 n2 k2, .slice a3 n3 k3, .slice (some ⟨pg, 0, none⟩) 8 pc, .slice (some ⟨gm, 0, none⟩) 64 mc]] w fun e w' => ∃ x0 x1 x2 x3 q0 q1 q2 q3 lp lq mp mq, e = .returned (.agg #[.slice x0 n0 q0, .int .i64 H.pc, .slice x1 n1 q1, .bool H.halted, .bool H.waiting, .bool H.rung, .int .i64 H.done, .slice x2 n2 q2, .slice x3 n3 q3, .slice lp 8 lq, .slice mp 64 mq]) ∧ Sm w' w.heap.size (.slice x0 n0 q0) (.slice x1 n1 q1) (.slice x2 n2 q2) (.slice x3 n3 q3) (.slice lp 8 lq) (.slice mp 64 mq) H ps zs ∧ Below w.heap.size w w' := by
  have HS : Hid (Sm w b (.slice a0 n0 k0) (.slice a1 n1 k1) (.slice a2 n2 k2) (.slice a3 n3 k3) (.slice (some ⟨pg, 0, none⟩) 8 pc) (.slice (some ⟨gm, 0, none⟩) 64 mc) H ps zs) := h
  have HK : Hid (Hok H) := hk
  have HLL : Hid (ps.length = 8 ∧ zs.length = 64) := ⟨h8, h64⟩
  have HN : Hid (H.regs.length = n0 ∧ H.csr.length = n1 ∧ H.inn.length = n2 ∧ H.out.length = n3) := by
    obtain ⟨_, _, e0, _⟩ := h.h.r.shape
    obtain ⟨_, _, e1, _⟩ := h.h.c.shape
    obtain ⟨_, _, e2, _⟩ := h.h.i.shape
    obtain ⟨_, _, e3, _⟩ := h.h.o.shape
    simp at e0 e1 e2 e3
    exact ⟨e0.2.1.symm, e1.2.1.symm, e2.2.1.symm, e3.2.1.symm⟩
  clear h hk h8 h64
  generalize hW : (w.alloc (.cells #[.slice a0 n0 k0, .int .i64 H.pc, .slice a1 n1 k1, .bool H.halted, .bool H.waiting, .bool H.rung, .int .i64 H.done, .slice a2 n2 k2, .slice a3 n3 k3, .slice (some ⟨pg, 0, none⟩) 8 pc, .slice (some ⟨gm, 0, none⟩) 64 mc] 35)).alloc (.cells #[.slice none 0 0, .int .i64 0, .slice none 0 0, .bool false, .bool false, .bool false, .int .i64 0, .slice none 0 0, .slice none 0 0, .slice none 0 0, .slice none 0 0] 35) = W
  have B0 : Hid (Below w.heap.size w W) := by show Below _ _ _; rw [← hW]; exact al (al (Below.refl _ _) _) _
  obtain ⟨s, hS⟩ : ∃ s, w.heap.size = s := ⟨_, rfl⟩
  have HSs : Hid (w.heap.size = s) := hS
  have Q : Hid (Vb W s #[.slice a0 n0 k0, .int .i64 H.pc, .slice a1 n1 k1, .bool H.halted, .bool H.waiting, .bool H.rung, .int .i64 H.done, .slice a2 n2 k2, .slice a3 n3 k3, .slice (some ⟨pg, 0, none⟩) 8 pc, .slice (some ⟨gm, 0, none⟩) 64 mc] 35) := by show Vb _ _ _ _; rw [← hW, ← hS]; exact (Vb.new _ _ _).push _
  have R : Hid (Vb W (s + 1) #[.slice none 0 0, .int .i64 0, .slice none 0 0, .bool false, .bool false, .bool false, .int .i64 0, .slice none 0 0, .slice none 0 0, .slice none 0 0, .slice none 0 0] 35) := by
    have z1 : s + 1 = (w.alloc (.cells #[.slice a0 n0 k0, .int .i64 H.pc, .slice a1 n1 k1, .bool H.halted, .bool H.waiting, .bool H.rung, .int .i64 H.done, .slice a2 n2 k2, .slice a3 n3 k3, .slice (some ⟨pg, 0, none⟩) 8 pc, .slice (some ⟨gm, 0, none⟩) 64 mc] 35)).heap.size := by rw [← hS]; simp
    show Vb _ _ _ _; rw [← hW, z1]; exact Vb.new _ _ _
  have LT : Hid (s + 1 < W.heap.size) := R.out.lt
  have QS : Hid (∀ w', Sl W (s + 1) w' → Vb w' s #[.slice a0 n0 k0, .int .i64 H.pc, .slice a1 n1 k1, .bool H.halted, .bool H.waiting, .bool H.rung, .int .i64 H.done, .slice a2 n2 k2, .slice a3 n3 k3, .slice (some ⟨pg, 0, none⟩) 8 pc, .slice (some ⟨gm, 0, none⟩) 64 mc] 35) := fun w' hs => hs.1.vb Q.out (by omega)
  have S0 : Hid (Sl W (s + 1) W) := ⟨Mq.refl _ _, R.out.there 11 (by decide)⟩
  go_enter Try.func38, Try.ntmps38
  go_upto_region 1 with fail
  clear hW hS
  have Sv0 : Hid (Sl W (s + 1) W.drew) := S0.out.step LT.out (Below.refl _ _).drew
  have Bv0 : Hid (Below w.heap.size w W.drew) := B0.out.drew
  refine wp_region_held (S := fun w' => Sl W (s + 1) w') (by kernel_rfl) ?_
  change wpAnyH _ _ _ _ _ _ _ _ (World.drew _)
  generalize W.drew = v0 at *
  refine wpAnyH_take (i := 0) (v := .pointer (some ⟨s, 0, none⟩)) rfl (by kernel_rfl) (by kernel_rfl) (by kernel_rfl) (fun _ _ _ h => h) (Or.inl ⟨by rfl, fun w' hs => by go_simp⟩) Sv0.out ?_
  change wpAnyH _ _ _ _ _ _ _ (Act.put _ (some 3) _) _
  simp only [Act.put, List.setIfInBounds_toArray, List.set_cons_zero, List.set_cons_succ]
  refine wpAnyH_take (i := 1) (v := .agg #[.slice a0 n0 k0, .int .i64 H.pc, .slice a1 n1 k1, .bool H.halted, .bool H.waiting, .bool H.rung, .int .i64 H.done, .slice a2 n2 k2, .slice a3 n3 k3]) rfl (by kernel_rfl) (by kernel_rfl) (by kernel_rfl) (fun _ _ _ h => h) (Or.inl ⟨by rfl, fun w' hs => by have hq := QS.out w' hs; have y0 := hq.cell 0 rfl; have y1 := hq.cell 1 rfl; have y2 := hq.cell 2 rfl; have y3 := hq.cell 3 rfl; have y4 := hq.cell 4 rfl; have y5 := hq.cell 5 rfl; have y6 := hq.cell 6 rfl; have y7 := hq.cell 7 rfl; have y8 := hq.cell 8 rfl; go_simp⟩) Sv0.out ?_
  change wpAnyH _ _ _ _ _ _ _ (Act.put _ (some 4) _) _
  simp only [Act.put, List.setIfInBounds_toArray, List.set_cons_zero, List.set_cons_succ]
  refine wpAnyH_take (i := 4) (v := .pointer (some ⟨s, 9, none⟩)) rfl (by kernel_rfl) (by kernel_rfl) (by kernel_rfl) (fun _ _ _ h => h) (Or.inl ⟨by rfl, fun w' hs => by go_simp⟩) Sv0.out ?_
  change wpAnyH _ _ _ _ _ _ _ (Act.put _ (some 7) _) _
  simp only [Act.put, List.setIfInBounds_toArray, List.set_cons_zero, List.set_cons_succ]
  refine wpAnyH_take (i := 5) (v := .slice (some ⟨pg, 0, none⟩) 8 pc) rfl (by kernel_rfl) (by kernel_rfl) (by kernel_rfl) (fun _ _ _ h => h) (Or.inl ⟨by rfl, fun w' hs => by have hq := QS.out w' hs; have y9 := hq.cell 9 rfl; go_simp⟩) Sv0.out ?_
  change wpAnyH _ _ _ _ _ _ _ (Act.put _ (some 8) _) _
  simp only [Act.put, List.setIfInBounds_toArray, List.set_cons_zero, List.set_cons_succ]
  refine wpAnyH_take (i := 7) (v := .pointer (some ⟨s, 10, none⟩)) rfl (by kernel_rfl) (by kernel_rfl) (by kernel_rfl) (fun _ _ _ h => h) (Or.inl ⟨by rfl, fun w' hs => by go_simp⟩) Sv0.out ?_
  change wpAnyH _ _ _ _ _ _ _ (Act.put _ (some 10) _) _
  simp only [Act.put, List.setIfInBounds_toArray, List.set_cons_zero, List.set_cons_succ]
  refine wpAnyH_take (i := 8) (v := .slice (some ⟨gm, 0, none⟩) 64 mc) rfl (by kernel_rfl) (by kernel_rfl) (by kernel_rfl) (fun _ _ _ h => h) (Or.inl ⟨by rfl, fun w' hs => by have hq := QS.out w' hs; have y10 := hq.cell 10 rfl; go_simp⟩) Sv0.out ?_
  change wpAnyH _ _ _ _ _ _ _ (Act.put _ (some 11) _) _
  simp only [Act.put, List.setIfInBounds_toArray, List.set_cons_zero, List.set_cons_succ]
  refine wpAnyH_ready (rs := [2, 3]) (by kernel_rfl) (by simp) ?_
  refine AllReadyH.cons rfl (fun K hK => ?_) (AllReadyH.cons rfl (fun K hK => ?_) AllReadyH.nil)
  · skip
    rw [if_pos (by rfl)]
    go_simp
    refine (s_copyX _ _ _ _ H b _ (HS.out.h.keep Bv0.out) (by have := HK.out.r16; omega) (by have := HK.out.c11; omega) (by have := HK.out.i40; omega) (by have := HK.out.o40; omega)).mono ?_
    rintro e v1 ⟨r2, c2, i2, o2, rfl, m2, A2, b2, -⟩
    obtain ⟨x0, q0, e0, _⟩ := m2.r.shape
    obtain ⟨x1, q1, e1, _⟩ := m2.c.shape
    obtain ⟨x2, q2, e2, _⟩ := m2.i.shape
    obtain ⟨x3, q3, e3, _⟩ := m2.o.shape
    rw [HN.out.1] at e0
    rw [HN.out.2.1] at e1
    rw [HN.out.2.2.1] at e2
    rw [HN.out.2.2.2] at e3
    subst e0 e1 e2 e3
    have Mv1 : Hid (Hm v1 v0.heap.size (.slice x0 n0 q0) (.slice x1 n1 q1) (.slice x2 n2 q2) (.slice x3 n3 q3) H) := m2
    have HA2 : Hid (Ha (.slice x0 n0 q0) (.slice x1 n1 q1) (.slice x2 n2 q2) (.slice x3 n3 q3)) := A2
    have Sv1 : Hid (Sl W (s + 1) v1) := Sv0.out.step LT.out b2
    have Bv1 : Hid (Below w.heap.size w v1) := on Bv0.out b2
    have MM : Hid (Hm v1 W.heap.size (.slice x0 n0 q0) (.slice x1 n1 q1) (.slice x2 n2 q2) (.slice x3 n3 q3) H) := Mv1.out.mono Sv0.out.1.size
    clear m2 A2 b2 Mv1
    refine hK.out _ _ Sv1.out (fun _ => ?_)
    clear hK K
    refine wpAnyH_ready (rs := [3]) (by kernel_rfl) (by simp) ?_
    refine AllReadyH.cons rfl (fun K hK => ?_) AllReadyH.nil
    rw [if_pos (by rfl)]
    go_simp
    have be : Below v1.heap.size v1 (v1.alloc (.cells #[] 74)) := al (Below.refl _ _) _
    have E1 : Hid (Prs 74 (v1.alloc (.cells #[] 74)) W.heap.size (.slice (some ⟨v1.heap.size, 0, none⟩) 0 0) []) := prs_none v1 W.heap.size Sv1.out.1.size
    have Sv2 : Hid (Sl W (s + 1) (v1.alloc (.cells #[] 74))) := Sv1.out.step LT.out be
    have Bv2 : Hid (Below w.heap.size w (v1.alloc (.cells #[] 74))) := on Bv1.out be
    have ME : Hid (Hm (v1.alloc (.cells #[] 74)) W.heap.size (.slice x0 n0 q0) (.slice x1 n1 q1) (.slice x2 n2 q2) (.slice x3 n3 q3) H) := MM.out.keep be
    have NE : Hid (∀ k, Own4 (.slice x0 n0 q0) (.slice x1 n1 q1) (.slice x2 n2 q2) (.slice x3 n3 q3) k → k ≠ v1.heap.size) := fun k e => by have := (MM.out.own k e).2; omega
    clear be MM
    generalize v1.alloc (.cells #[] 74) = v2 at *
    generalize v1.heap.size = ge at *
    refine hK.out _ _ Sv2.out (fun _ => ?_)
    clear hK K
    refine wpAnyH_ready (rs := [6]) (by kernel_rfl) (by simp) ?_
    refine AllReadyH.cons rfl (fun K hK => ?_) AllReadyH.nil
    refine step_appp rfl (.tmp 6) (.tmp 8) rfl W.heap.size _ [] rfl E1.out pg 8 pc b ps rfl (HS.out.pl.keep Bv2.out) HLL.out.1.symm (by simp) (by have := Sv2.out.1.size; exact this) ?_
    intro v' v4 n4 g4
    have N4 : Hid (Prs 74 v4 W.heap.size v' ps) := by have t := n4.out; rwa [List.nil_append] at t
    have S4 : Hid (Sl W (s + 1) v4) := Sv2.out.grow LT.out g4 (fun k e => E1.out.lt k e)
    have B4 : Hid (Below w.heap.size w v4) := Mq.under B0.out S4.out.1 (fun k e => by have := HSs.out; omega)
    have M4 : Hid (Hm v4 W.heap.size (.slice x0 n0 q0) (.slice x1 n1 q1) (.slice x2 n2 q2) (.slice x3 n3 q3) H) := hm_grown ME.out g4 (fun k e f => NE.out k e (own_someS f))
    obtain ⟨lp, lq, e5, _⟩ := N4.out.shape
    rw [HLL.out.1] at e5
    subst e5
    have LV : Hid (v4.heap.size ≤ v4.heap.size) := Nat.le_refl _
    clear n4 g4
    refine hK.out _ _ S4.out (fun _ => ?_)
    clear hK K
    refine wpAnyH_ready (rs := [9]) (by kernel_rfl) (by simp) ?_
    refine AllReadyH.cons rfl (fun K hK => ?_) AllReadyH.nil
    rw [if_pos (by rfl)]
    go_simp
    have CP := spec_copyZ gm mc zs b v4 (by rw [HLL.out.2]; exact HS.out.mm.keep B4.out) (by have := HLL.out.2; omega)
    rw [HLL.out.2] at CP
    refine CP.mono ?_
    clear CP
    rintro e v5 ⟨u5, rfl, m5, b5⟩
    obtain ⟨mp, mq, e6, _⟩ := m5.shape
    rw [HLL.out.2] at e6
    subst e6
    have S5 : Hid (Sl W (s + 1) v5) := S4.out.step LT.out b5
    have M5 : Hid (Hm v5 W.heap.size (.slice x0 n0 q0) (.slice x1 n1 q1) (.slice x2 n2 q2) (.slice x3 n3 q3) H) := M4.out.keep b5
    have N5 : Hid (Prs 74 v5 W.heap.size (.slice lp 8 lq) ps) := N4.out.keep b5
    have Z5 : Hid (Nums v5 v4.heap.size (.slice mp 64 mq) zs) := m5
    have ML : Hid (∀ k, Own4 (.slice x0 n0 q0) (.slice x1 n1 q1) (.slice x2 n2 q2) (.slice x3 n3 q3) k → k < v4.heap.size) := fun k e => (M4.out.own k e).2
    clear m5 b5
    refine hK.out _ _ S5.out (fun _ => ?_)
    clear hK K
    refine wpAnyH_take (i := 10) (v := .agg #[.slice x0 n0 q0, .int .i64 H.pc, .slice x1 n1 q1, .bool H.halted, .bool H.waiting, .bool H.rung, .int .i64 H.done, .slice x2 n2 q2, .slice x3 n3 q3, .slice lp 8 lq, .slice mp 64 mq]) rfl (by kernel_rfl) (by kernel_rfl) (by kernel_rfl) (fun _ _ _ h => h) (Or.inl ⟨by rfl, fun w' hs => by go_simp⟩) S5.out ?_
    change wpAnyH _ _ _ _ _ _ _ (Act.put _ (some 13) _) _
    simp only [Act.put, List.setIfInBounds_toArray, List.set_cons_zero, List.set_cons_succ]
    refine wpAnyH_ready (rs := [11]) (by kernel_rfl) (by simp) ?_
    refine AllReadyH.cons rfl (fun K hK => ?_) AllReadyH.nil
    rw [if_pos (by rfl)]
    refine wp_store_mid 35 (.tmp 2) (.tmp 13) rfl (s + 1) 0 #[.slice x0 n0 q0, .int .i64 H.pc, .slice x1 n1 q1, .bool H.halted, .bool H.waiting, .bool H.rung, .int .i64 H.done, .slice x2 n2 q2, .slice x3 n3 q3, .slice lp 8 lq, .slice mp 64 mq] rfl rfl S5.out.2 (by kernel_rfl) (by simp [Value.oneCell']) ?_
    change K (Act.put _ none undef) _
    simp only [Act.put]
    have S6 : Hid (Sl W (s + 1) (v5.setCells (s + 1) 0 #[.slice x0 n0 q0, .int .i64 H.pc, .slice x1 n1 q1, .bool H.halted, .bool H.waiting, .bool H.rung, .int .i64 H.done, .slice x2 n2 q2, .slice x3 n3 q3, .slice lp 8 lq, .slice mp 64 mq].toList)) := S5.out.set _
    have R6 : Hid ((v5.setCells (s + 1) 0 #[.slice x0 n0 q0, .int .i64 H.pc, .slice x1 n1 q1, .bool H.halted, .bool H.waiting, .bool H.rung, .int .i64 H.done, .slice x2 n2 q2, .slice x3 n3 q3, .slice lp 8 lq, .slice mp 64 mq].toList).rangeAt (s + 1) 0 #[.slice x0 n0 q0, .int .i64 H.pc, .slice x1 n1 q1, .bool H.halted, .bool H.waiting, .bool H.rung, .int .i64 H.done, .slice x2 n2 q2, .slice x3 n3 q3, .slice lp 8 lq, .slice mp 64 mq].toList) := World.rangeAt_setCells_same _ _ _ _ S5.out.2
    have Q6 : Hid (Mq (fun k => k = s + 1) v5 (v5.setCells (s + 1) 0 #[.slice x0 n0 q0, .int .i64 H.pc, .slice x1 n1 q1, .bool H.halted, .bool H.waiting, .bool H.rung, .int .i64 H.done, .slice x2 n2 q2, .slice x3 n3 q3, .slice lp 8 lq, .slice mp 64 mq].toList)) := mq_cells (s + 1) _ v5 0
    generalize v5.setCells (s + 1) 0 #[.slice x0 n0 q0, .int .i64 H.pc, .slice x1 n1 q1, .bool H.halted, .bool H.waiting, .bool H.rung, .int .i64 H.done, .slice x2 n2 q2, .slice x3 n3 q3, .slice lp 8 lq, .slice mp 64 mq].toList = v6 at *
    refine hK.out _ _ S6.out (fun _ => ?_)
    clear hK K
    refine wpAnyH_done (by kernel_rfl) ?_ _
    have z1 : w.heap.size ≤ W.heap.size := B0.out.size
    have z2 : W.heap.size ≤ v4.heap.size := S4.out.1.size
    have o6 : Ho W.heap.size v5 v6 := Q6.out.ho fun k e => by have := LT.out; omega
    have F : Sm v6 w.heap.size (.slice x0 n0 q0) (.slice x1 n1 q1) (.slice x2 n2 q2) (.slice x3 n3 q3) (.slice lp 8 lq) (.slice mp 64 mq) H ps zs := by
      have ap : ∀ u, (∀ k, u.ownBlock = some k → k < v4.heap.size) → Apt u (.slice mp 64 mq) := fun u hu => by
        cases e : u.ownBlock with
        | none => exact .inl e
        | some k =>
          refine .inr fun f => ?_
          have h1 := hu k e
          have h2 := (Z5.out.lt k (by rw [← f, e])).1
          omega
      exact ⟨(M5.out.ho o6).mono z1, HA2.out, (row_hoS N5.out o6).mono z1, ((Z5.out.mono z2).ho o6).mono z1, ap _ (fun k e => ML.out k (.inl e)), ap _ (fun k e => ML.out k (.inr (.inl e))), ap _ (fun k e => ML.out k (.inr (.inr (.inl e)))), ap _ (fun k e => ML.out k (.inr (.inr (.inr e))))⟩
    have B6 : Below w.heap.size w v6 := Mq.under B0.out S6.out.1 fun k e => by have := HSs.out; omega
    have LD := run_loadVar_mid (P := Try.prog) v6 (s + 1) 0 35 #[.slice x0 n0 q0, .int .i64 H.pc, .slice x1 n1 q1, .bool H.halted, .bool H.waiting, .bool H.rung, .int .i64 H.done, .slice x2 n2 q2, .slice x3 n3 q3, .slice lp 8 lq, .slice mp 64 mq].toList _ R6.out Try.underlying35 rfl (by kernel_rfl)
    go_wp2_with fail
    exact bodyPost_ret (v := .agg #[.slice x0 n0 q0, .int .i64 H.pc, .slice x1 n1 q1, .bool H.halted, .bool H.waiting, .bool H.rung, .int .i64 H.done, .slice x2 n2 q2, .slice x3 n3 q3, .slice lp 8 lq, .slice mp 64 mq]) (by simp [results, Try.results38, asAddr]; rw [LD]) rfl ⟨_, _, _, _, _, _, _, _, _, _, _, _, rfl, F, B6⟩
  · skip
    rw [if_pos (by rfl)]
    go_simp
    have be : Below v0.heap.size v0 (v0.alloc (.cells #[] 74)) := al (Below.refl _ _) _
    have E1 : Hid (Prs 74 (v0.alloc (.cells #[] 74)) W.heap.size (.slice (some ⟨v0.heap.size, 0, none⟩) 0 0) []) := prs_none v0 W.heap.size Sv0.out.1.size
    have Sv1 : Hid (Sl W (s + 1) (v0.alloc (.cells #[] 74))) := Sv0.out.step LT.out be
    have Bv1 : Hid (Below w.heap.size w (v0.alloc (.cells #[] 74))) := on Bv0.out be
    clear be
    have L1 : Hid (v0.heap.size < (v0.alloc (.cells #[] 74)).heap.size) := by show _ < _; simp
    generalize v0.alloc (.cells #[] 74) = v1 at *
    generalize v0.heap.size = ge at *
    refine hK.out _ _ Sv1.out (fun _ => ?_)
    clear hK K
    refine wpAnyH_ready (rs := [2]) (by kernel_rfl) (by simp) ?_
    refine AllReadyH.cons rfl (fun K hK => ?_) AllReadyH.nil
    rw [if_pos (by rfl)]
    go_simp
    refine (s_copyX _ _ _ _ H b _ (HS.out.h.keep Bv1.out) (by have := HK.out.r16; omega) (by have := HK.out.c11; omega) (by have := HK.out.i40; omega) (by have := HK.out.o40; omega)).mono ?_
    rintro e v2 ⟨r2, c2, i2, o2, rfl, m2, A2, b2, -⟩
    obtain ⟨x0, q0, e0, _⟩ := m2.r.shape
    obtain ⟨x1, q1, e1, _⟩ := m2.c.shape
    obtain ⟨x2, q2, e2, _⟩ := m2.i.shape
    obtain ⟨x3, q3, e3, _⟩ := m2.o.shape
    rw [HN.out.1] at e0
    rw [HN.out.2.1] at e1
    rw [HN.out.2.2.1] at e2
    rw [HN.out.2.2.2] at e3
    subst e0 e1 e2 e3
    have Mv2 : Hid (Hm v2 v1.heap.size (.slice x0 n0 q0) (.slice x1 n1 q1) (.slice x2 n2 q2) (.slice x3 n3 q3) H) := m2
    have HA2 : Hid (Ha (.slice x0 n0 q0) (.slice x1 n1 q1) (.slice x2 n2 q2) (.slice x3 n3 q3)) := A2
    have Sv2 : Hid (Sl W (s + 1) v2) := Sv1.out.step LT.out b2
    have Bv2 : Hid (Below w.heap.size w v2) := on Bv1.out b2
    have ME : Hid (Hm v2 W.heap.size (.slice x0 n0 q0) (.slice x1 n1 q1) (.slice x2 n2 q2) (.slice x3 n3 q3) H) := Mv2.out.mono Sv1.out.1.size
    have NE : Hid (∀ k, Own4 (.slice x0 n0 q0) (.slice x1 n1 q1) (.slice x2 n2 q2) (.slice x3 n3 q3) k → k ≠ ge) := fun k e => by have := (Mv2.out.own k e).1; have := L1.out; omega
    have E2 : Hid (Prs 74 v2 W.heap.size (.slice (some ⟨ge, 0, none⟩) 0 0) []) := E1.out.keep b2
    clear m2 A2 b2 Mv2 E1
    refine hK.out _ _ Sv2.out (fun _ => ?_)
    clear hK K
    refine wpAnyH_ready (rs := [6]) (by kernel_rfl) (by simp) ?_
    refine AllReadyH.cons rfl (fun K hK => ?_) AllReadyH.nil
    refine step_appp rfl (.tmp 6) (.tmp 8) rfl W.heap.size _ [] rfl E2.out pg 8 pc b ps rfl (HS.out.pl.keep Bv2.out) HLL.out.1.symm (by simp) (by have := Sv2.out.1.size; exact this) ?_
    intro v' v4 n4 g4
    have N4 : Hid (Prs 74 v4 W.heap.size v' ps) := by have t := n4.out; rwa [List.nil_append] at t
    have S4 : Hid (Sl W (s + 1) v4) := Sv2.out.grow LT.out g4 (fun k e => E2.out.lt k e)
    have B4 : Hid (Below w.heap.size w v4) := Mq.under B0.out S4.out.1 (fun k e => by have := HSs.out; omega)
    have M4 : Hid (Hm v4 W.heap.size (.slice x0 n0 q0) (.slice x1 n1 q1) (.slice x2 n2 q2) (.slice x3 n3 q3) H) := hm_grown ME.out g4 (fun k e f => NE.out k e (own_someS f))
    obtain ⟨lp, lq, e5, _⟩ := N4.out.shape
    rw [HLL.out.1] at e5
    subst e5
    have LV : Hid (v4.heap.size ≤ v4.heap.size) := Nat.le_refl _
    clear n4 g4
    refine hK.out _ _ S4.out (fun _ => ?_)
    clear hK K
    refine wpAnyH_ready (rs := [9]) (by kernel_rfl) (by simp) ?_
    refine AllReadyH.cons rfl (fun K hK => ?_) AllReadyH.nil
    rw [if_pos (by rfl)]
    go_simp
    have CP := spec_copyZ gm mc zs b v4 (by rw [HLL.out.2]; exact HS.out.mm.keep B4.out) (by have := HLL.out.2; omega)
    rw [HLL.out.2] at CP
    refine CP.mono ?_
    clear CP
    rintro e v5 ⟨u5, rfl, m5, b5⟩
    obtain ⟨mp, mq, e6, _⟩ := m5.shape
    rw [HLL.out.2] at e6
    subst e6
    have S5 : Hid (Sl W (s + 1) v5) := S4.out.step LT.out b5
    have M5 : Hid (Hm v5 W.heap.size (.slice x0 n0 q0) (.slice x1 n1 q1) (.slice x2 n2 q2) (.slice x3 n3 q3) H) := M4.out.keep b5
    have N5 : Hid (Prs 74 v5 W.heap.size (.slice lp 8 lq) ps) := N4.out.keep b5
    have Z5 : Hid (Nums v5 v4.heap.size (.slice mp 64 mq) zs) := m5
    have ML : Hid (∀ k, Own4 (.slice x0 n0 q0) (.slice x1 n1 q1) (.slice x2 n2 q2) (.slice x3 n3 q3) k → k < v4.heap.size) := fun k e => (M4.out.own k e).2
    clear m5 b5
    refine hK.out _ _ S5.out (fun _ => ?_)
    clear hK K
    refine wpAnyH_take (i := 10) (v := .agg #[.slice x0 n0 q0, .int .i64 H.pc, .slice x1 n1 q1, .bool H.halted, .bool H.waiting, .bool H.rung, .int .i64 H.done, .slice x2 n2 q2, .slice x3 n3 q3, .slice lp 8 lq, .slice mp 64 mq]) rfl (by kernel_rfl) (by kernel_rfl) (by kernel_rfl) (fun _ _ _ h => h) (Or.inl ⟨by rfl, fun w' hs => by go_simp⟩) S5.out ?_
    change wpAnyH _ _ _ _ _ _ _ (Act.put _ (some 13) _) _
    simp only [Act.put, List.setIfInBounds_toArray, List.set_cons_zero, List.set_cons_succ]
    refine wpAnyH_ready (rs := [11]) (by kernel_rfl) (by simp) ?_
    refine AllReadyH.cons rfl (fun K hK => ?_) AllReadyH.nil
    rw [if_pos (by rfl)]
    refine wp_store_mid 35 (.tmp 2) (.tmp 13) rfl (s + 1) 0 #[.slice x0 n0 q0, .int .i64 H.pc, .slice x1 n1 q1, .bool H.halted, .bool H.waiting, .bool H.rung, .int .i64 H.done, .slice x2 n2 q2, .slice x3 n3 q3, .slice lp 8 lq, .slice mp 64 mq] rfl rfl S5.out.2 (by kernel_rfl) (by simp [Value.oneCell']) ?_
    change K (Act.put _ none undef) _
    simp only [Act.put]
    have S6 : Hid (Sl W (s + 1) (v5.setCells (s + 1) 0 #[.slice x0 n0 q0, .int .i64 H.pc, .slice x1 n1 q1, .bool H.halted, .bool H.waiting, .bool H.rung, .int .i64 H.done, .slice x2 n2 q2, .slice x3 n3 q3, .slice lp 8 lq, .slice mp 64 mq].toList)) := S5.out.set _
    have R6 : Hid ((v5.setCells (s + 1) 0 #[.slice x0 n0 q0, .int .i64 H.pc, .slice x1 n1 q1, .bool H.halted, .bool H.waiting, .bool H.rung, .int .i64 H.done, .slice x2 n2 q2, .slice x3 n3 q3, .slice lp 8 lq, .slice mp 64 mq].toList).rangeAt (s + 1) 0 #[.slice x0 n0 q0, .int .i64 H.pc, .slice x1 n1 q1, .bool H.halted, .bool H.waiting, .bool H.rung, .int .i64 H.done, .slice x2 n2 q2, .slice x3 n3 q3, .slice lp 8 lq, .slice mp 64 mq].toList) := World.rangeAt_setCells_same _ _ _ _ S5.out.2
    have Q6 : Hid (Mq (fun k => k = s + 1) v5 (v5.setCells (s + 1) 0 #[.slice x0 n0 q0, .int .i64 H.pc, .slice x1 n1 q1, .bool H.halted, .bool H.waiting, .bool H.rung, .int .i64 H.done, .slice x2 n2 q2, .slice x3 n3 q3, .slice lp 8 lq, .slice mp 64 mq].toList)) := mq_cells (s + 1) _ v5 0
    generalize v5.setCells (s + 1) 0 #[.slice x0 n0 q0, .int .i64 H.pc, .slice x1 n1 q1, .bool H.halted, .bool H.waiting, .bool H.rung, .int .i64 H.done, .slice x2 n2 q2, .slice x3 n3 q3, .slice lp 8 lq, .slice mp 64 mq].toList = v6 at *
    refine hK.out _ _ S6.out (fun _ => ?_)
    clear hK K
    refine wpAnyH_done (by kernel_rfl) ?_ _
    have z1 : w.heap.size ≤ W.heap.size := B0.out.size
    have z2 : W.heap.size ≤ v4.heap.size := S4.out.1.size
    have o6 : Ho W.heap.size v5 v6 := Q6.out.ho fun k e => by have := LT.out; omega
    have F : Sm v6 w.heap.size (.slice x0 n0 q0) (.slice x1 n1 q1) (.slice x2 n2 q2) (.slice x3 n3 q3) (.slice lp 8 lq) (.slice mp 64 mq) H ps zs := by
      have ap : ∀ u, (∀ k, u.ownBlock = some k → k < v4.heap.size) → Apt u (.slice mp 64 mq) := fun u hu => by
        cases e : u.ownBlock with
        | none => exact .inl e
        | some k =>
          refine .inr fun f => ?_
          have h1 := hu k e
          have h2 := (Z5.out.lt k (by rw [← f, e])).1
          omega
      exact ⟨(M5.out.ho o6).mono z1, HA2.out, (row_hoS N5.out o6).mono z1, ((Z5.out.mono z2).ho o6).mono z1, ap _ (fun k e => ML.out k (.inl e)), ap _ (fun k e => ML.out k (.inr (.inl e))), ap _ (fun k e => ML.out k (.inr (.inr (.inl e)))), ap _ (fun k e => ML.out k (.inr (.inr (.inr e))))⟩
    have B6 : Below w.heap.size w v6 := Mq.under B0.out S6.out.1 fun k e => by have := HSs.out; omega
    have LD := run_loadVar_mid (P := Try.prog) v6 (s + 1) 0 35 #[.slice x0 n0 q0, .int .i64 H.pc, .slice x1 n1 q1, .bool H.halted, .bool H.waiting, .bool H.rung, .int .i64 H.done, .slice x2 n2 q2, .slice x3 n3 q3, .slice lp 8 lq, .slice mp 64 mq].toList _ R6.out Try.underlying35 rfl (by kernel_rfl)
    go_wp2_with fail
    exact bodyPost_ret (v := .agg #[.slice x0 n0 q0, .int .i64 H.pc, .slice x1 n1 q1, .bool H.halted, .bool H.waiting, .bool H.rung, .int .i64 H.done, .slice x2 n2 q2, .slice x3 n3 q3, .slice lp 8 lq, .slice mp 64 mq]) (by simp [results, Try.results38, asAddr]; rw [LD]) rfl ⟨_, _, _, _, _, _, _, _, _, _, _, _, rfl, F, B6⟩
end Go.Proofs.Ytijajemalokgjaa
