/- A new machine: the model's. -/
import Derived.Test.YtaajaikpkcgalaaDoorHnw
import Derived.Test.YtaajaikpkcgalaaDoorRise
import Derived.Deep.RegionHeld3
namespace Go.Proofs.YtaajaikpkcgalaaDoor
open Go.RowKit
set_option linter.unusedVariables false

theorem step_make {ops : Array Oper} {o : Oper} {act : Act} {w : World} {K : Act → World → Prop} {Q : Exit → Act → World → Prop} {E : Prop} (hgd : o.guard = none) (l c : Operand)
    (ho : o.op = Op.makeSlice 24 l c) (n : Nat) (hl : act.eval l = .int .i64 n) (hc : act.eval c = .int .i64 n) (hn : n ≤ 1000)
    (h : ∀ v w', Nums w' w.heap.size v (List.replicate n 0) → Below w.heap.size w w' → K (act.put o.dst v) w') :
    if Region.wanted o (yielded ops act.tmps) = true then Oper.wp Tryd.prog o act w K Q else E := by
  have hw : Region.wanted o (yielded ops act.tmps) = true := by simp [Region.wanted, hgd]
  rw [if_pos hw]
  obtain ⟨i, hi, hz0, hz1, hz2⟩ := info_parts info_i64
  obtain ⟨w', hrun, r1, r2⟩ := run_make_full (P := Tryd.prog) w w.heap.size 24 2 i _ 1 Tryd.underlying24 hi hz0 hz1 .i64 .i64 n (by rw [hz2]; omega) (by unfold maxLen; omega) (Nat.le_refl _)
  unfold Oper.wp
  simp [execOp, ho, hl, hc, hrun, Result.andThen]
  refine h _ w' (Nums.made r1 (by rw [Nat.mul_one, show (Value.int .i64 0).cells = #[.int .i64 0] from rfl, toList_madeCells_one]; simp)) ((Below.refl _ _).grown r2 (Nat.le_refl _) (by simp))
/-- The region of a new machine under way: what is made (A, B, C) and appended (D). -/
structure Nq (W w : World) (s : Nat) (zs : List Int) (A B C D : Option Value) : Prop where
  mq : Mq (fun k => k = s) W w
  th : w.there s 0 10
  a : ∀ v, A = some v → Nums w W.heap.size v (List.replicate 16 0)
  b : ∀ v, B = some v → Nums w W.heap.size v (List.replicate 11 0)
  c : D = none → ∀ v, C = some v → Nums w W.heap.size v []
  d : ∀ v, D = some v → Nums w W.heap.size v zs
  ac : D = none → ∀ v u, A = some v → C = some u → Apt v u
  bc : D = none → ∀ v u, B = some v → C = some u → Apt v u
theorem Nq.grow {W w w' : World} {s : Nat} {zs : List Int} {A B C D : Option Value} (h : Nq W w s zs A B C D) (hs : s < W.heap.size) (b : Below w.heap.size w w') : Nq W w' s zs A B C D :=
  ⟨h.mq.trans (Mq.of (below_grown b none) fun k e => by cases e), there_below h.th (Nat.lt_of_lt_of_le hs h.mq.size) b, fun v e => (h.a v e).keep b, fun v e => (h.b v e).keep b, fun e v f => (h.c e v f).keep b, fun v e => (h.d v e).keep b, h.ac, h.bc⟩
theorem Nq.mkA {W w w' : World} {s : Nat} {zs : List Int} {B C D : Option Value} {v : Value} (h : Nq W w s zs none B C D) (hs : s < W.heap.size) (n : Nums w' w.heap.size v (List.replicate 16 0)) (b : Below w.heap.size w w') : Nq W w' s zs (some v) B C D :=
  let g := h.grow hs b
  ⟨g.mq, g.th, fun u e => by cases e; exact n.mono h.mq.size, g.b, g.c, g.d, fun e u x f k => by cases f; exact ((h.c e x k).apt n (Nat.le_refl _)).swap, g.bc⟩
theorem Nq.mkB {W w w' : World} {s : Nat} {zs : List Int} {A C D : Option Value} {v : Value} (h : Nq W w s zs A none C D) (hs : s < W.heap.size) (n : Nums w' w.heap.size v (List.replicate 11 0)) (b : Below w.heap.size w w') : Nq W w' s zs A (some v) C D :=
  let g := h.grow hs b
  ⟨g.mq, g.th, g.a, fun u e => by cases e; exact n.mono h.mq.size, g.c, g.d, g.ac, fun e u x f k => by cases f; exact ((h.c e x k).apt n (Nat.le_refl _)).swap⟩
theorem Nq.mkC {W w w' : World} {s : Nat} {zs : List Int} {A B : Option Value} {v : Value} (h : Nq W w s zs A B none none) (hs : s < W.heap.size) (n : Nums w' w.heap.size v []) (b : Below w.heap.size w w') : Nq W w' s zs A B (some v) none :=
  let g := h.grow hs b
  ⟨g.mq, g.th, g.a, g.b, fun _ u e => by cases e; exact n.mono h.mq.size, g.d, fun e u x f k => by cases k; exact (h.a u f).apt n (Nat.le_refl _), fun e u x f k => by cases k; exact (h.b u f).apt n (Nat.le_refl _)⟩
theorem Nq.app {W w w' : World} {s : Nat} {zs : List Int} {A B : Option Value} {v v' : Value} (h : Nq W w s zs A B (some v) none) (hs : s < W.heap.size) (n : Nums w' W.heap.size v' zs) (g : w.grownBy w' v.ownBlock) : Nq W w' s zs A B (some v) (some v') := by
  have hl : ∀ k, v.ownBlock = some k → W.heap.size ≤ k ∧ k < w.heap.size := (h.c rfl v rfl).lt
  refine ⟨⟨g.os.trans h.mq.os, g.tape.trans h.mq.tape, g.output.trans h.mq.output, Nat.le_trans h.mq.size g.size, fun k hk hn => (g.block k (Nat.lt_of_lt_of_le hk h.mq.size) (fun e => by have := (hl k e.symm).1; omega)).trans (h.mq.block k hk hn)⟩, ?_, fun u e => (h.a u e).kept g (h.ac rfl u v e rfl), fun u e => (h.b u e).kept g (h.bc rfl u v e rfl), (by intro e; cases e), fun u e => by cases e; exact n, (by intro e; cases e), (by intro e; cases e)⟩
  intro j hj
  obtain ⟨h1, h2⟩ := h.th j hj
  have hb : w'.heap[s]? = w.heap[s]? := g.block s (Nat.lt_of_lt_of_le hs h.mq.size) (fun e => by have := (hl s e.symm).1; omega)
  have e1 : w'.cell? ⟨s, 0 + j, none⟩ = w.cell? ⟨s, 0 + j, none⟩ := by simp only [World.cell?, hb]
  have e2 : w'.frozen? ⟨s, 0 + j, none⟩ = w.frozen? ⟨s, 0 + j, none⟩ := World.frozen?_of_block (w := w) hb
  exact ⟨by rw [e1]; exact h1, by rw [e2]; exact h2⟩

set_option maxRecDepth 20000 in
set_option maxHeartbeats 16000000 in
theorem s_newHart (v : Value) (zs : List Int) (b : Nat) (w : World) (h : Nums w b v zs) :
    Calls Tryd.prog 52 #[v] w fun e w' => ∃ r' c' i' o', e = .returned (.agg #[.int .i64 (newR zs).1, r', .int .i64 (newR zs).2.pc, c', .bool (newR zs).2.halted, .bool (newR zs).2.waiting, .bool (newR zs).2.rung, .int .i64 (newR zs).2.done, i', o']) ∧ Hm w' w.heap.size r' c' i' o' (newR zs).2 ∧ Below w.heap.size w w' := by
  have HN : Hid (Nums w b v zs) := h
  obtain ⟨a, k, rfl, _⟩ := h.shape
  obtain ⟨n, hn⟩ : ∃ n, zs.length = n := ⟨_, rfl⟩
  have hl : (n : Int) ≤ 9223372036854775807 := by have := h.lens; unfold maxLen at this; omega
  rw [hn] at HN ⊢
  have HL : Hid (zs.length = n) := hn
  clear h hn
  generalize hW : w.alloc (.cells #[.int .i64 0, .slice none 0 0, .int .i64 0, .slice none 0 0, .bool false, .bool false, .bool false, .int .i64 0, .slice none 0 0, .slice none 0 0] 30) = W
  have B0 : Hid (Below w.heap.size w W) := by show Below _ _ _; rw [← hW]; exact al (Below.refl _ _) _
  obtain ⟨s, hS⟩ : ∃ s, w.heap.size = s := ⟨_, rfl⟩
  have HS : Hid (w.heap.size = s) := hS
  have VR : Hid (Vb W s #[.int .i64 0, .slice none 0 0, .int .i64 0, .slice none 0 0, .bool false, .bool false, .bool false, .int .i64 0, .slice none 0 0, .slice none 0 0] 30) := by
    show Vb _ _ _ _; rw [← hW, ← hS]; exact Vb.new _ _ _
  by_cases h40 : 40 < n
  · have hI : (40 : Int) < (n : Int) := by omega
    have HE1 : Hid ((newR zs).1 = 2) := by show _ = _; unfold newR; rw [HL.out, if_pos h40]
    have HE2 : Hid ((newR zs).2 = voidH) := by show _ = _; unfold newR; rw [HL.out, if_pos h40]
    have p0 := VR.out.cell 0 rfl
    have f0 := VR.out.free 0
    have p1 := VR.out.cell 1 rfl
    have f1 := VR.out.free 1
    have p2 := VR.out.cell 2 rfl
    have f2 := VR.out.free 2
    have p3 := VR.out.cell 3 rfl
    have f3 := VR.out.free 3
    have p4 := VR.out.cell 4 rfl
    have f4 := VR.out.free 4
    have p5 := VR.out.cell 5 rfl
    have f5 := VR.out.free 5
    have p6 := VR.out.cell 6 rfl
    have f6 := VR.out.free 6
    have p7 := VR.out.cell 7 rfl
    have f7 := VR.out.free 7
    have p8 := VR.out.cell 8 rfl
    have f8 := VR.out.free 8
    have p9 := VR.out.cell 9 rfl
    have f9 := VR.out.free 9
    go_enter Tryd.func52, Tryd.ntmps52
    go_wp2_with fail
    clear hW hS
    have NN : Hid (_ ∧ _) := ten VR.out (.int .i64 2) (.slice none 0 0) (.int .i64 0) (.slice none 0 0) (.bool false) (.bool false) (.bool false) (.int .i64 0) (.slice none 0 0) (.slice none 0 0)
    clear p0 f0 p1 f1 p2 f2 p3 f3 p4 f4 p5 f5 p6 f6 p7 f7 p8 f8 p9 f9
    generalize ((((((((((W.setCell ⟨s, 0, none⟩ (.int .i64 2)).setCell ⟨s, 1, none⟩ (.slice none 0 0)).setCell ⟨s, 2, none⟩ (.int .i64 0)).setCell ⟨s, 3, none⟩ (.slice none 0 0)).setCell ⟨s, 4, none⟩ (.bool false)).setCell ⟨s, 5, none⟩ (.bool false)).setCell ⟨s, 6, none⟩ (.bool false)).setCell ⟨s, 7, none⟩ (.int .i64 0)).setCell ⟨s, 8, none⟩ (.slice none 0 0)).setCell ⟨s, 9, none⟩ (.slice none 0 0)) = V at *
    have x0 := NN.out.1.cell 0 rfl
    have x1 := NN.out.1.cell 1 rfl
    have x2 := NN.out.1.cell 2 rfl
    have x3 := NN.out.1.cell 3 rfl
    have x4 := NN.out.1.cell 4 rfl
    have x5 := NN.out.1.cell 5 rfl
    have x6 := NN.out.1.cell 6 rfl
    have x7 := NN.out.1.cell 7 rfl
    have x8 := NN.out.1.cell 8 rfl
    have x9 := NN.out.1.cell 9 rfl
    have BV : Below w.heap.size w V := Mq.under B0.out NN.out.2 fun k e => by have := HS.out; omega
    have MV := NN.out.2
    refine bodyPost_ret (v := .agg #[.int .i64 2, .slice none 0 0, .int .i64 0, .slice none 0 0, .bool false, .bool false, .bool false, .int .i64 0, .slice none 0 0, .slice none 0 0]) (by simp [results, Tryd.results52, go_sem, x0, x1, x2, x3, x4, x5, x6, x7, x8, x9]) rfl ?_
    rw [HE1.out, HE2.out]
    exact ⟨_, _, _, _, rfl, void_hm _ _, BV⟩
  have hI : ¬ (40 : Int) < (n : Int) := by omega
  cases hw : zs.all isW
  · have HW : Hid (zs.all isW = false) := hw
    have HE1 : Hid ((newR zs).1 = 3) := by show _ = _; unfold newR; rw [HL.out, if_neg h40, hw]; rfl
    have HE2 : Hid ((newR zs).2 = voidH) := by show _ = _; unfold newR; rw [HL.out, if_neg h40, hw]; rfl
    have p0 := VR.out.cell 0 rfl
    have f0 := VR.out.free 0
    have p1 := VR.out.cell 1 rfl
    have f1 := VR.out.free 1
    have p2 := VR.out.cell 2 rfl
    have f2 := VR.out.free 2
    have p3 := VR.out.cell 3 rfl
    have f3 := VR.out.free 3
    have p4 := VR.out.cell 4 rfl
    have f4 := VR.out.free 4
    have p5 := VR.out.cell 5 rfl
    have f5 := VR.out.free 5
    have p6 := VR.out.cell 6 rfl
    have f6 := VR.out.free 6
    have p7 := VR.out.cell 7 rfl
    have f7 := VR.out.free 7
    have p8 := VR.out.cell 8 rfl
    have f8 := VR.out.free 8
    have p9 := VR.out.cell 9 rfl
    have f9 := VR.out.free 9
    go_enter Tryd.func52, Tryd.ntmps52
    go_wp2_with (go_at_call 46; refine (s_words a n k zs _ (HN.out.rn.stay B0.out)).mono ?_; rintro e y ⟨rfl, hy⟩; rw [hy]; clear hy y; rw [hw])
    clear hW hS
    have NN : Hid (_ ∧ _) := ten VR.out (.int .i64 3) (.slice none 0 0) (.int .i64 0) (.slice none 0 0) (.bool false) (.bool false) (.bool false) (.int .i64 0) (.slice none 0 0) (.slice none 0 0)
    clear p0 f0 p1 f1 p2 f2 p3 f3 p4 f4 p5 f5 p6 f6 p7 f7 p8 f8 p9 f9
    generalize ((((((((((W.setCell ⟨s, 0, none⟩ (.int .i64 3)).setCell ⟨s, 1, none⟩ (.slice none 0 0)).setCell ⟨s, 2, none⟩ (.int .i64 0)).setCell ⟨s, 3, none⟩ (.slice none 0 0)).setCell ⟨s, 4, none⟩ (.bool false)).setCell ⟨s, 5, none⟩ (.bool false)).setCell ⟨s, 6, none⟩ (.bool false)).setCell ⟨s, 7, none⟩ (.int .i64 0)).setCell ⟨s, 8, none⟩ (.slice none 0 0)).setCell ⟨s, 9, none⟩ (.slice none 0 0)) = V at *
    have x0 := NN.out.1.cell 0 rfl
    have x1 := NN.out.1.cell 1 rfl
    have x2 := NN.out.1.cell 2 rfl
    have x3 := NN.out.1.cell 3 rfl
    have x4 := NN.out.1.cell 4 rfl
    have x5 := NN.out.1.cell 5 rfl
    have x6 := NN.out.1.cell 6 rfl
    have x7 := NN.out.1.cell 7 rfl
    have x8 := NN.out.1.cell 8 rfl
    have x9 := NN.out.1.cell 9 rfl
    have BV : Below w.heap.size w V := Mq.under B0.out NN.out.2 fun k e => by have := HS.out; omega
    have MV := NN.out.2
    refine bodyPost_ret (v := .agg #[.int .i64 3, .slice none 0 0, .int .i64 0, .slice none 0 0, .bool false, .bool false, .bool false, .int .i64 0, .slice none 0 0, .slice none 0 0]) (by simp [results, Tryd.results52, go_sem, x0, x1, x2, x3, x4, x5, x6, x7, x8, x9]) rfl ?_
    rw [HE1.out, HE2.out]
    exact ⟨_, _, _, _, rfl, void_hm _ _, BV⟩
  have HE1 : Hid ((newR zs).1 = 0) := by show _ = _; unfold newR; rw [HL.out, if_neg h40, hw]; rfl
  have HE2 : Hid ((newR zs).2 = newV zs) := by show _ = _; unfold newR; rw [HL.out, if_neg h40, hw]; rfl
  have H40 : Hid (n ≤ 40) := by show _ ≤ _; omega
  have LT : Hid (s < W.heap.size) := VR.out.lt
  have HX : Hid (∀ w', Mq (fun k => k = s) W w' → (a = none → n = 0 ∧ k = 0) ∧ ∀ ad, a = some ad → ∀ i, i < n → w'.cell? (ad.add i) = some (.int .i64 (zs.getD i 0))) := by
    intro w' m
    have nn : Nums w' b (.slice a n k) zs := m.nums (HN.out.keep B0.out) fun x e f => by have := (HN.out.lt x e).2; have := HS.out; omega
    have rr := nn.rn
    refine ⟨fun e => ?_, fun ad e i hi => ?_⟩
    · subst e
      rcases rr with ⟨_, h1, h2, _⟩ | ⟨x, e, _⟩
      · exact ⟨h1, h2⟩
      · cases e
    · obtain ⟨x, e2, h⟩ := rr.at i hi
      subst e
      cases e2
      exact h
  go_enter Tryd.func52, Tryd.ntmps52
  go_wp2_with (go_at_call 46; refine (s_words a n k zs _ (HN.out.rn.stay B0.out)).mono ?_; rintro e y ⟨rfl, hy⟩; rw [hy]; clear hy y; rw [hw])
  clear hW hS
  have Q0 : Hid (Nq W W.drew s zs none none none none) := ⟨⟨rfl, rfl, rfl, Nat.le_refl _, fun _ _ _ => rfl⟩, VR.out.there 10 (by decide), (by intro v e; cases e), (by intro v e; cases e), (by intro _ v e; cases e), (by intro v e; cases e), (by intro _ v u e; cases e), (by intro _ v u e; cases e)⟩
  refine wp_region_held (S := fun _ => True) (by kernel_rfl) ?_
  change wpAnyH _ _ _ _ _ _ _ _ (World.drew _)
  refine wpAnyH_take (i := 3) (v := .slice a n k) rfl (by kernel_rfl) (by kernel_rfl) (by kernel_rfl) (fun _ _ _ h => h) (Or.inl ⟨by rfl, fun w' _ => by go_simp⟩) trivial ?_
  change wpAnyH _ _ _ _ _ _ _ (Act.put _ (some 14) _) _
  simp only [Act.put, List.setIfInBounds_toArray, List.set_cons_zero, List.set_cons_succ]
  refine wpAnyH_ready (rs := [0, 1, 2]) (by kernel_rfl) (by simp) ?_
  refine AllReadyH.cons rfl (fun K hK => ?_) ?_
  · refine step_make rfl (.const (.int .i64 16)) (.const (.int .i64 16)) rfl 16 rfl rfl (by decide) ?_
    intro vA wA n1 b1
    have QA : Hid (Nq W wA s zs (some vA) none none none) := Q0.out.mkA LT.out n1 b1
    clear n1 b1
    refine hK.out _ _ trivial (fun _ => ?_)
    clear hK K
    change wpAnyH _ _ _ _ _ _ _ (Act.put _ (some 11) _) _
    simp only [Act.put, List.setIfInBounds_toArray, List.set_cons_zero, List.set_cons_succ]
    refine wpAnyH_ready (rs := [1, 2]) (by kernel_rfl) (by simp) ?_
    refine AllReadyH.cons rfl (fun K hK => ?_) ?_
    · refine step_make rfl (.const (.int .i64 11)) (.const (.int .i64 11)) rfl 11 rfl rfl (by decide) ?_
      intro vB wAB n1 b1
      have QAB : Hid (Nq W wAB s zs (some vA) (some vB) none none) := QA.out.mkB LT.out n1 b1
      clear n1 b1
      refine hK.out _ _ trivial (fun _ => ?_)
      clear hK K
      change wpAnyH _ _ _ _ _ _ _ (Act.put _ (some 12) _) _
      simp only [Act.put, List.setIfInBounds_toArray, List.set_cons_zero, List.set_cons_succ]
      refine wpAnyH_ready (rs := [2]) (by kernel_rfl) (by simp) ?_
      refine AllReadyH.cons rfl (fun K hK => ?_) ?_
      · rw [if_pos (by rfl)]
        go_simp
        have QABC : Hid (Nq W (wAB.alloc (.cells #[] 2)) s zs (some vA) (some vB) (some (.slice (some ⟨wAB.heap.size, 0, none⟩) 0 0)) none) := QAB.out.mkC LT.out (nums_none _ _ (Nat.le_refl _)) (al (Below.refl _ _) _)
        obtain ⟨vC, hvC⟩ : ∃ v, Value.slice (some ⟨wAB.heap.size, 0, none⟩) 0 0 = v := ⟨_, rfl⟩
        obtain ⟨wABC, hwABC⟩ : ∃ w', wAB.alloc (.cells #[] 2) = w' := ⟨_, rfl⟩
        rw [hvC, hwABC] at QABC
        rw [hvC, hwABC]
        clear hvC hwABC
        refine hK.out _ _ trivial (fun _ => ?_)
        clear hK K
        refine wpAnyH_ready (rs := [4]) (by kernel_rfl) (by simp) ?_
        refine AllReadyH.cons rfl (fun K hK => ?_) ?_
        · refine step_append rfl (.tmp 13) (.tmp 14) rfl W.heap.size vC [] rfl (QABC.out.c rfl vC rfl) a n k zs rfl HL.out (HX.out _ QABC.out.mq).1 (HX.out _ QABC.out.mq).2 (by have := H40.out; simp; omega) W.heap.size wABC (Below.refl _ _) (Nat.le_refl _) QABC.out.mq.size ?_
          intro vD wABCD n1 g1 _
          have QABCD : Hid (Nq W wABCD s zs (some vA) (some vB) (some vC) (some vD)) := QABC.out.app LT.out (by have := n1.out; rwa [List.nil_append] at this) g1
          clear n1 g1
          refine hK.out _ _ trivial (fun _ => ?_)
          clear hK K
          change wpAnyH _ _ _ _ _ _ _ (Act.put _ (some 15) _) _
          simp only [Act.put, List.setIfInBounds_toArray, List.set_cons_zero, List.set_cons_succ]
          obtain ⟨ga, gk, hga, _⟩ := (QABCD.out.a _ rfl).shape
          obtain ⟨ha, hk', hha, _⟩ := (QABCD.out.b _ rfl).shape
          obtain ⟨ia, ik, hia, _⟩ := (QABCD.out.d _ rfl).shape
          rw [List.length_replicate] at hga hha
          rw [HL.out] at hia
          subst hga hha hia
          refine wpAnyH_take (i := 5) (v := .agg #[.slice ga 16 gk, .int .i64 0, .slice ha 11 hk', .bool false, .bool false, .bool false, .int .i64 0, .slice ia n ik, .slice none 0 0]) rfl (by kernel_rfl) (by kernel_rfl) (by kernel_rfl) (fun _ _ _ h => h) (Or.inl ⟨by rfl, fun w' _ => by go_simp⟩) trivial ?_
          change wpAnyH _ _ _ _ _ _ _ (Act.put _ (some 16) _) _
          simp only [Act.put, List.setIfInBounds_toArray, List.set_cons_zero, List.set_cons_succ]
          refine wpAnyH_take (i := 6) (v := .agg #[.int .i64 0, .slice ga 16 gk, .int .i64 0, .slice ha 11 hk', .bool false, .bool false, .bool false, .int .i64 0, .slice ia n ik, .slice none 0 0]) rfl (by kernel_rfl) (by kernel_rfl) (by kernel_rfl) (fun _ _ _ h => h) (Or.inl ⟨by rfl, fun w' _ => by go_simp⟩) trivial ?_
          change wpAnyH _ _ _ _ _ _ _ (Act.put _ (some 17) _) _
          simp only [Act.put, List.setIfInBounds_toArray, List.set_cons_zero, List.set_cons_succ]
          refine wpAnyH_ready (rs := [7]) (by kernel_rfl) (by simp) ?_
          refine AllReadyH.cons rfl (fun K hK => ?_) AllReadyH.nil
          rw [if_pos (by rfl)]
          refine wp_store_mid 30 (.tmp 2) (.tmp 17) rfl s 0 #[.int .i64 0, .slice ga 16 gk, .int .i64 0, .slice ha 11 hk', .bool false, .bool false, .bool false, .int .i64 0, .slice ia n ik, .slice none 0 0] rfl rfl QABCD.out.th (by kernel_rfl) (by simp [Value.oneCell']) ?_
          change K (Act.put _ none undef) (World.setCells wABCD s 0 [.int .i64 0, .slice ga 16 gk, .int .i64 0, .slice ha 11 hk', .bool false, .bool false, .bool false, .int .i64 0, .slice ia n ik, .slice none 0 0])
          simp only [Act.put]
          have R5 : Hid ((wABCD.setCells s 0 [.int .i64 0, .slice ga 16 gk, .int .i64 0, .slice ha 11 hk', .bool false, .bool false, .bool false, .int .i64 0, .slice ia n ik, .slice none 0 0]).rangeAt s 0 [.int .i64 0, .slice ga 16 gk, .int .i64 0, .slice ha 11 hk', .bool false, .bool false, .bool false, .int .i64 0, .slice ia n ik, .slice none 0 0]) := World.rangeAt_setCells_same _ _ _ _ QABCD.out.th
          have M5 : Hid (Mq (fun k => k = s) wABCD (wABCD.setCells s 0 [.int .i64 0, .slice ga 16 gk, .int .i64 0, .slice ha 11 hk', .bool false, .bool false, .bool false, .int .i64 0, .slice ia n ik, .slice none 0 0])) := mq_cells s _ wABCD 0
          generalize wABCD.setCells s 0 [.int .i64 0, .slice ga 16 gk, .int .i64 0, .slice ha 11 hk', .bool false, .bool false, .bool false, .int .i64 0, .slice ia n ik, .slice none 0 0] = w5 at *
          refine hK.out _ _ trivial (fun _ => ?_)
          clear hK K
          refine wpAnyH_done (by kernel_rfl) ?_ _
          have no : ∀ (v : Value) (ys : List Int), Nums wABCD W.heap.size v ys → Nums w5 W.heap.size v ys := fun v ys h => M5.out.nums h fun k e f => by have := (h.lt k e).1; have := LT.out; omega
          have Q1 := no _ _ (QABCD.out.a _ rfl)
          have Q2 := no _ _ (QABCD.out.b _ rfl)
          have Q3 := no _ _ (QABCD.out.d _ rfl)
          have B5 : Below w.heap.size w w5 := Mq.under B0.out (QABCD.out.mq.trans M5.out) fun k e => by have := HS.out; omega
          have LD := run_loadVar_mid (P := Tryd.prog) w5 s 0 30 [.int .i64 0, .slice ga 16 gk, .int .i64 0, .slice ha 11 hk', .bool false, .bool false, .bool false, .int .i64 0, .slice ia n ik, .slice none 0 0] _ R5.out Tryd.underlying30 rfl (by kernel_rfl)
          go_wp2_with fail
          refine bodyPost_ret (v := .agg #[.int .i64 0, .slice ga 16 gk, .int .i64 0, .slice ha 11 hk', .bool false, .bool false, .bool false, .int .i64 0, .slice ia n ik, .slice none 0 0]) (by simp [results, Tryd.results52, asAddr]; rw [LD]) rfl ?_
          rw [HE1.out, HE2.out]
          exact ⟨_, _, _, _, rfl, ⟨Q1.mono B0.out.size, Q2.mono B0.out.size, Q3.mono B0.out.size, Nums.nil _ _⟩, B5⟩
        exact AllReadyH.nil
      exact AllReadyH.nil
    refine AllReadyH.cons rfl (fun K hK => ?_) ?_
    · rw [if_pos (by rfl)]
      go_simp
      have QAC : Hid (Nq W (wA.alloc (.cells #[] 2)) s zs (some vA) none (some (.slice (some ⟨wA.heap.size, 0, none⟩) 0 0)) none) := QA.out.mkC LT.out (nums_none _ _ (Nat.le_refl _)) (al (Below.refl _ _) _)
      obtain ⟨vC, hvC⟩ : ∃ v, Value.slice (some ⟨wA.heap.size, 0, none⟩) 0 0 = v := ⟨_, rfl⟩
      obtain ⟨wAC, hwAC⟩ : ∃ w', wA.alloc (.cells #[] 2) = w' := ⟨_, rfl⟩
      rw [hvC, hwAC] at QAC
      rw [hvC, hwAC]
      clear hvC hwAC
      refine hK.out _ _ trivial (fun _ => ?_)
      clear hK K
      refine wpAnyH_ready (rs := [1, 4]) (by kernel_rfl) (by simp) ?_
      refine AllReadyH.cons rfl (fun K hK => ?_) ?_
      · refine step_make rfl (.const (.int .i64 11)) (.const (.int .i64 11)) rfl 11 rfl rfl (by decide) ?_
        intro vB wACB n1 b1
        have QACB : Hid (Nq W wACB s zs (some vA) (some vB) (some vC) none) := QAC.out.mkB LT.out n1 b1
        clear n1 b1
        refine hK.out _ _ trivial (fun _ => ?_)
        clear hK K
        change wpAnyH _ _ _ _ _ _ _ (Act.put _ (some 12) _) _
        simp only [Act.put, List.setIfInBounds_toArray, List.set_cons_zero, List.set_cons_succ]
        refine wpAnyH_ready (rs := [4]) (by kernel_rfl) (by simp) ?_
        refine AllReadyH.cons rfl (fun K hK => ?_) ?_
        · refine step_append rfl (.tmp 13) (.tmp 14) rfl W.heap.size vC [] rfl (QACB.out.c rfl vC rfl) a n k zs rfl HL.out (HX.out _ QACB.out.mq).1 (HX.out _ QACB.out.mq).2 (by have := H40.out; simp; omega) W.heap.size wACB (Below.refl _ _) (Nat.le_refl _) QACB.out.mq.size ?_
          intro vD wACBD n1 g1 _
          have QACBD : Hid (Nq W wACBD s zs (some vA) (some vB) (some vC) (some vD)) := QACB.out.app LT.out (by have := n1.out; rwa [List.nil_append] at this) g1
          clear n1 g1
          refine hK.out _ _ trivial (fun _ => ?_)
          clear hK K
          change wpAnyH _ _ _ _ _ _ _ (Act.put _ (some 15) _) _
          simp only [Act.put, List.setIfInBounds_toArray, List.set_cons_zero, List.set_cons_succ]
          obtain ⟨ga, gk, hga, _⟩ := (QACBD.out.a _ rfl).shape
          obtain ⟨ha, hk', hha, _⟩ := (QACBD.out.b _ rfl).shape
          obtain ⟨ia, ik, hia, _⟩ := (QACBD.out.d _ rfl).shape
          rw [List.length_replicate] at hga hha
          rw [HL.out] at hia
          subst hga hha hia
          refine wpAnyH_take (i := 5) (v := .agg #[.slice ga 16 gk, .int .i64 0, .slice ha 11 hk', .bool false, .bool false, .bool false, .int .i64 0, .slice ia n ik, .slice none 0 0]) rfl (by kernel_rfl) (by kernel_rfl) (by kernel_rfl) (fun _ _ _ h => h) (Or.inl ⟨by rfl, fun w' _ => by go_simp⟩) trivial ?_
          change wpAnyH _ _ _ _ _ _ _ (Act.put _ (some 16) _) _
          simp only [Act.put, List.setIfInBounds_toArray, List.set_cons_zero, List.set_cons_succ]
          refine wpAnyH_take (i := 6) (v := .agg #[.int .i64 0, .slice ga 16 gk, .int .i64 0, .slice ha 11 hk', .bool false, .bool false, .bool false, .int .i64 0, .slice ia n ik, .slice none 0 0]) rfl (by kernel_rfl) (by kernel_rfl) (by kernel_rfl) (fun _ _ _ h => h) (Or.inl ⟨by rfl, fun w' _ => by go_simp⟩) trivial ?_
          change wpAnyH _ _ _ _ _ _ _ (Act.put _ (some 17) _) _
          simp only [Act.put, List.setIfInBounds_toArray, List.set_cons_zero, List.set_cons_succ]
          refine wpAnyH_ready (rs := [7]) (by kernel_rfl) (by simp) ?_
          refine AllReadyH.cons rfl (fun K hK => ?_) AllReadyH.nil
          rw [if_pos (by rfl)]
          refine wp_store_mid 30 (.tmp 2) (.tmp 17) rfl s 0 #[.int .i64 0, .slice ga 16 gk, .int .i64 0, .slice ha 11 hk', .bool false, .bool false, .bool false, .int .i64 0, .slice ia n ik, .slice none 0 0] rfl rfl QACBD.out.th (by kernel_rfl) (by simp [Value.oneCell']) ?_
          change K (Act.put _ none undef) (World.setCells wACBD s 0 [.int .i64 0, .slice ga 16 gk, .int .i64 0, .slice ha 11 hk', .bool false, .bool false, .bool false, .int .i64 0, .slice ia n ik, .slice none 0 0])
          simp only [Act.put]
          have R5 : Hid ((wACBD.setCells s 0 [.int .i64 0, .slice ga 16 gk, .int .i64 0, .slice ha 11 hk', .bool false, .bool false, .bool false, .int .i64 0, .slice ia n ik, .slice none 0 0]).rangeAt s 0 [.int .i64 0, .slice ga 16 gk, .int .i64 0, .slice ha 11 hk', .bool false, .bool false, .bool false, .int .i64 0, .slice ia n ik, .slice none 0 0]) := World.rangeAt_setCells_same _ _ _ _ QACBD.out.th
          have M5 : Hid (Mq (fun k => k = s) wACBD (wACBD.setCells s 0 [.int .i64 0, .slice ga 16 gk, .int .i64 0, .slice ha 11 hk', .bool false, .bool false, .bool false, .int .i64 0, .slice ia n ik, .slice none 0 0])) := mq_cells s _ wACBD 0
          generalize wACBD.setCells s 0 [.int .i64 0, .slice ga 16 gk, .int .i64 0, .slice ha 11 hk', .bool false, .bool false, .bool false, .int .i64 0, .slice ia n ik, .slice none 0 0] = w5 at *
          refine hK.out _ _ trivial (fun _ => ?_)
          clear hK K
          refine wpAnyH_done (by kernel_rfl) ?_ _
          have no : ∀ (v : Value) (ys : List Int), Nums wACBD W.heap.size v ys → Nums w5 W.heap.size v ys := fun v ys h => M5.out.nums h fun k e f => by have := (h.lt k e).1; have := LT.out; omega
          have Q1 := no _ _ (QACBD.out.a _ rfl)
          have Q2 := no _ _ (QACBD.out.b _ rfl)
          have Q3 := no _ _ (QACBD.out.d _ rfl)
          have B5 : Below w.heap.size w w5 := Mq.under B0.out (QACBD.out.mq.trans M5.out) fun k e => by have := HS.out; omega
          have LD := run_loadVar_mid (P := Tryd.prog) w5 s 0 30 [.int .i64 0, .slice ga 16 gk, .int .i64 0, .slice ha 11 hk', .bool false, .bool false, .bool false, .int .i64 0, .slice ia n ik, .slice none 0 0] _ R5.out Tryd.underlying30 rfl (by kernel_rfl)
          go_wp2_with fail
          refine bodyPost_ret (v := .agg #[.int .i64 0, .slice ga 16 gk, .int .i64 0, .slice ha 11 hk', .bool false, .bool false, .bool false, .int .i64 0, .slice ia n ik, .slice none 0 0]) (by simp [results, Tryd.results52, asAddr]; rw [LD]) rfl ?_
          rw [HE1.out, HE2.out]
          exact ⟨_, _, _, _, rfl, ⟨Q1.mono B0.out.size, Q2.mono B0.out.size, Q3.mono B0.out.size, Nums.nil _ _⟩, B5⟩
        exact AllReadyH.nil
      refine AllReadyH.cons rfl (fun K hK => ?_) ?_
      · refine step_append rfl (.tmp 13) (.tmp 14) rfl W.heap.size vC [] rfl (QAC.out.c rfl vC rfl) a n k zs rfl HL.out (HX.out _ QAC.out.mq).1 (HX.out _ QAC.out.mq).2 (by have := H40.out; simp; omega) W.heap.size wAC (Below.refl _ _) (Nat.le_refl _) QAC.out.mq.size ?_
        intro vD wACD n1 g1 _
        have QACD : Hid (Nq W wACD s zs (some vA) none (some vC) (some vD)) := QAC.out.app LT.out (by have := n1.out; rwa [List.nil_append] at this) g1
        clear n1 g1
        refine hK.out _ _ trivial (fun _ => ?_)
        clear hK K
        change wpAnyH _ _ _ _ _ _ _ (Act.put _ (some 15) _) _
        simp only [Act.put, List.setIfInBounds_toArray, List.set_cons_zero, List.set_cons_succ]
        refine wpAnyH_ready (rs := [1]) (by kernel_rfl) (by simp) ?_
        refine AllReadyH.cons rfl (fun K hK => ?_) ?_
        · refine step_make rfl (.const (.int .i64 11)) (.const (.int .i64 11)) rfl 11 rfl rfl (by decide) ?_
          intro vB wACDB n1 b1
          have QACDB : Hid (Nq W wACDB s zs (some vA) (some vB) (some vC) (some vD)) := QACD.out.mkB LT.out n1 b1
          clear n1 b1
          refine hK.out _ _ trivial (fun _ => ?_)
          clear hK K
          change wpAnyH _ _ _ _ _ _ _ (Act.put _ (some 12) _) _
          simp only [Act.put, List.setIfInBounds_toArray, List.set_cons_zero, List.set_cons_succ]
          obtain ⟨ga, gk, hga, _⟩ := (QACDB.out.a _ rfl).shape
          obtain ⟨ha, hk', hha, _⟩ := (QACDB.out.b _ rfl).shape
          obtain ⟨ia, ik, hia, _⟩ := (QACDB.out.d _ rfl).shape
          rw [List.length_replicate] at hga hha
          rw [HL.out] at hia
          subst hga hha hia
          refine wpAnyH_take (i := 5) (v := .agg #[.slice ga 16 gk, .int .i64 0, .slice ha 11 hk', .bool false, .bool false, .bool false, .int .i64 0, .slice ia n ik, .slice none 0 0]) rfl (by kernel_rfl) (by kernel_rfl) (by kernel_rfl) (fun _ _ _ h => h) (Or.inl ⟨by rfl, fun w' _ => by go_simp⟩) trivial ?_
          change wpAnyH _ _ _ _ _ _ _ (Act.put _ (some 16) _) _
          simp only [Act.put, List.setIfInBounds_toArray, List.set_cons_zero, List.set_cons_succ]
          refine wpAnyH_take (i := 6) (v := .agg #[.int .i64 0, .slice ga 16 gk, .int .i64 0, .slice ha 11 hk', .bool false, .bool false, .bool false, .int .i64 0, .slice ia n ik, .slice none 0 0]) rfl (by kernel_rfl) (by kernel_rfl) (by kernel_rfl) (fun _ _ _ h => h) (Or.inl ⟨by rfl, fun w' _ => by go_simp⟩) trivial ?_
          change wpAnyH _ _ _ _ _ _ _ (Act.put _ (some 17) _) _
          simp only [Act.put, List.setIfInBounds_toArray, List.set_cons_zero, List.set_cons_succ]
          refine wpAnyH_ready (rs := [7]) (by kernel_rfl) (by simp) ?_
          refine AllReadyH.cons rfl (fun K hK => ?_) AllReadyH.nil
          rw [if_pos (by rfl)]
          refine wp_store_mid 30 (.tmp 2) (.tmp 17) rfl s 0 #[.int .i64 0, .slice ga 16 gk, .int .i64 0, .slice ha 11 hk', .bool false, .bool false, .bool false, .int .i64 0, .slice ia n ik, .slice none 0 0] rfl rfl QACDB.out.th (by kernel_rfl) (by simp [Value.oneCell']) ?_
          change K (Act.put _ none undef) (World.setCells wACDB s 0 [.int .i64 0, .slice ga 16 gk, .int .i64 0, .slice ha 11 hk', .bool false, .bool false, .bool false, .int .i64 0, .slice ia n ik, .slice none 0 0])
          simp only [Act.put]
          have R5 : Hid ((wACDB.setCells s 0 [.int .i64 0, .slice ga 16 gk, .int .i64 0, .slice ha 11 hk', .bool false, .bool false, .bool false, .int .i64 0, .slice ia n ik, .slice none 0 0]).rangeAt s 0 [.int .i64 0, .slice ga 16 gk, .int .i64 0, .slice ha 11 hk', .bool false, .bool false, .bool false, .int .i64 0, .slice ia n ik, .slice none 0 0]) := World.rangeAt_setCells_same _ _ _ _ QACDB.out.th
          have M5 : Hid (Mq (fun k => k = s) wACDB (wACDB.setCells s 0 [.int .i64 0, .slice ga 16 gk, .int .i64 0, .slice ha 11 hk', .bool false, .bool false, .bool false, .int .i64 0, .slice ia n ik, .slice none 0 0])) := mq_cells s _ wACDB 0
          generalize wACDB.setCells s 0 [.int .i64 0, .slice ga 16 gk, .int .i64 0, .slice ha 11 hk', .bool false, .bool false, .bool false, .int .i64 0, .slice ia n ik, .slice none 0 0] = w5 at *
          refine hK.out _ _ trivial (fun _ => ?_)
          clear hK K
          refine wpAnyH_done (by kernel_rfl) ?_ _
          have no : ∀ (v : Value) (ys : List Int), Nums wACDB W.heap.size v ys → Nums w5 W.heap.size v ys := fun v ys h => M5.out.nums h fun k e f => by have := (h.lt k e).1; have := LT.out; omega
          have Q1 := no _ _ (QACDB.out.a _ rfl)
          have Q2 := no _ _ (QACDB.out.b _ rfl)
          have Q3 := no _ _ (QACDB.out.d _ rfl)
          have B5 : Below w.heap.size w w5 := Mq.under B0.out (QACDB.out.mq.trans M5.out) fun k e => by have := HS.out; omega
          have LD := run_loadVar_mid (P := Tryd.prog) w5 s 0 30 [.int .i64 0, .slice ga 16 gk, .int .i64 0, .slice ha 11 hk', .bool false, .bool false, .bool false, .int .i64 0, .slice ia n ik, .slice none 0 0] _ R5.out Tryd.underlying30 rfl (by kernel_rfl)
          go_wp2_with fail
          refine bodyPost_ret (v := .agg #[.int .i64 0, .slice ga 16 gk, .int .i64 0, .slice ha 11 hk', .bool false, .bool false, .bool false, .int .i64 0, .slice ia n ik, .slice none 0 0]) (by simp [results, Tryd.results52, asAddr]; rw [LD]) rfl ?_
          rw [HE1.out, HE2.out]
          exact ⟨_, _, _, _, rfl, ⟨Q1.mono B0.out.size, Q2.mono B0.out.size, Q3.mono B0.out.size, Nums.nil _ _⟩, B5⟩
        exact AllReadyH.nil
      exact AllReadyH.nil
    exact AllReadyH.nil
  refine AllReadyH.cons rfl (fun K hK => ?_) ?_
  · refine step_make rfl (.const (.int .i64 11)) (.const (.int .i64 11)) rfl 11 rfl rfl (by decide) ?_
    intro vB wB n1 b1
    have QB : Hid (Nq W wB s zs none (some vB) none none) := Q0.out.mkB LT.out n1 b1
    clear n1 b1
    refine hK.out _ _ trivial (fun _ => ?_)
    clear hK K
    change wpAnyH _ _ _ _ _ _ _ (Act.put _ (some 12) _) _
    simp only [Act.put, List.setIfInBounds_toArray, List.set_cons_zero, List.set_cons_succ]
    refine wpAnyH_ready (rs := [0, 2]) (by kernel_rfl) (by simp) ?_
    refine AllReadyH.cons rfl (fun K hK => ?_) ?_
    · refine step_make rfl (.const (.int .i64 16)) (.const (.int .i64 16)) rfl 16 rfl rfl (by decide) ?_
      intro vA wBA n1 b1
      have QBA : Hid (Nq W wBA s zs (some vA) (some vB) none none) := QB.out.mkA LT.out n1 b1
      clear n1 b1
      refine hK.out _ _ trivial (fun _ => ?_)
      clear hK K
      change wpAnyH _ _ _ _ _ _ _ (Act.put _ (some 11) _) _
      simp only [Act.put, List.setIfInBounds_toArray, List.set_cons_zero, List.set_cons_succ]
      refine wpAnyH_ready (rs := [2]) (by kernel_rfl) (by simp) ?_
      refine AllReadyH.cons rfl (fun K hK => ?_) ?_
      · rw [if_pos (by rfl)]
        go_simp
        have QBAC : Hid (Nq W (wBA.alloc (.cells #[] 2)) s zs (some vA) (some vB) (some (.slice (some ⟨wBA.heap.size, 0, none⟩) 0 0)) none) := QBA.out.mkC LT.out (nums_none _ _ (Nat.le_refl _)) (al (Below.refl _ _) _)
        obtain ⟨vC, hvC⟩ : ∃ v, Value.slice (some ⟨wBA.heap.size, 0, none⟩) 0 0 = v := ⟨_, rfl⟩
        obtain ⟨wBAC, hwBAC⟩ : ∃ w', wBA.alloc (.cells #[] 2) = w' := ⟨_, rfl⟩
        rw [hvC, hwBAC] at QBAC
        rw [hvC, hwBAC]
        clear hvC hwBAC
        refine hK.out _ _ trivial (fun _ => ?_)
        clear hK K
        refine wpAnyH_ready (rs := [4]) (by kernel_rfl) (by simp) ?_
        refine AllReadyH.cons rfl (fun K hK => ?_) ?_
        · refine step_append rfl (.tmp 13) (.tmp 14) rfl W.heap.size vC [] rfl (QBAC.out.c rfl vC rfl) a n k zs rfl HL.out (HX.out _ QBAC.out.mq).1 (HX.out _ QBAC.out.mq).2 (by have := H40.out; simp; omega) W.heap.size wBAC (Below.refl _ _) (Nat.le_refl _) QBAC.out.mq.size ?_
          intro vD wBACD n1 g1 _
          have QBACD : Hid (Nq W wBACD s zs (some vA) (some vB) (some vC) (some vD)) := QBAC.out.app LT.out (by have := n1.out; rwa [List.nil_append] at this) g1
          clear n1 g1
          refine hK.out _ _ trivial (fun _ => ?_)
          clear hK K
          change wpAnyH _ _ _ _ _ _ _ (Act.put _ (some 15) _) _
          simp only [Act.put, List.setIfInBounds_toArray, List.set_cons_zero, List.set_cons_succ]
          obtain ⟨ga, gk, hga, _⟩ := (QBACD.out.a _ rfl).shape
          obtain ⟨ha, hk', hha, _⟩ := (QBACD.out.b _ rfl).shape
          obtain ⟨ia, ik, hia, _⟩ := (QBACD.out.d _ rfl).shape
          rw [List.length_replicate] at hga hha
          rw [HL.out] at hia
          subst hga hha hia
          refine wpAnyH_take (i := 5) (v := .agg #[.slice ga 16 gk, .int .i64 0, .slice ha 11 hk', .bool false, .bool false, .bool false, .int .i64 0, .slice ia n ik, .slice none 0 0]) rfl (by kernel_rfl) (by kernel_rfl) (by kernel_rfl) (fun _ _ _ h => h) (Or.inl ⟨by rfl, fun w' _ => by go_simp⟩) trivial ?_
          change wpAnyH _ _ _ _ _ _ _ (Act.put _ (some 16) _) _
          simp only [Act.put, List.setIfInBounds_toArray, List.set_cons_zero, List.set_cons_succ]
          refine wpAnyH_take (i := 6) (v := .agg #[.int .i64 0, .slice ga 16 gk, .int .i64 0, .slice ha 11 hk', .bool false, .bool false, .bool false, .int .i64 0, .slice ia n ik, .slice none 0 0]) rfl (by kernel_rfl) (by kernel_rfl) (by kernel_rfl) (fun _ _ _ h => h) (Or.inl ⟨by rfl, fun w' _ => by go_simp⟩) trivial ?_
          change wpAnyH _ _ _ _ _ _ _ (Act.put _ (some 17) _) _
          simp only [Act.put, List.setIfInBounds_toArray, List.set_cons_zero, List.set_cons_succ]
          refine wpAnyH_ready (rs := [7]) (by kernel_rfl) (by simp) ?_
          refine AllReadyH.cons rfl (fun K hK => ?_) AllReadyH.nil
          rw [if_pos (by rfl)]
          refine wp_store_mid 30 (.tmp 2) (.tmp 17) rfl s 0 #[.int .i64 0, .slice ga 16 gk, .int .i64 0, .slice ha 11 hk', .bool false, .bool false, .bool false, .int .i64 0, .slice ia n ik, .slice none 0 0] rfl rfl QBACD.out.th (by kernel_rfl) (by simp [Value.oneCell']) ?_
          change K (Act.put _ none undef) (World.setCells wBACD s 0 [.int .i64 0, .slice ga 16 gk, .int .i64 0, .slice ha 11 hk', .bool false, .bool false, .bool false, .int .i64 0, .slice ia n ik, .slice none 0 0])
          simp only [Act.put]
          have R5 : Hid ((wBACD.setCells s 0 [.int .i64 0, .slice ga 16 gk, .int .i64 0, .slice ha 11 hk', .bool false, .bool false, .bool false, .int .i64 0, .slice ia n ik, .slice none 0 0]).rangeAt s 0 [.int .i64 0, .slice ga 16 gk, .int .i64 0, .slice ha 11 hk', .bool false, .bool false, .bool false, .int .i64 0, .slice ia n ik, .slice none 0 0]) := World.rangeAt_setCells_same _ _ _ _ QBACD.out.th
          have M5 : Hid (Mq (fun k => k = s) wBACD (wBACD.setCells s 0 [.int .i64 0, .slice ga 16 gk, .int .i64 0, .slice ha 11 hk', .bool false, .bool false, .bool false, .int .i64 0, .slice ia n ik, .slice none 0 0])) := mq_cells s _ wBACD 0
          generalize wBACD.setCells s 0 [.int .i64 0, .slice ga 16 gk, .int .i64 0, .slice ha 11 hk', .bool false, .bool false, .bool false, .int .i64 0, .slice ia n ik, .slice none 0 0] = w5 at *
          refine hK.out _ _ trivial (fun _ => ?_)
          clear hK K
          refine wpAnyH_done (by kernel_rfl) ?_ _
          have no : ∀ (v : Value) (ys : List Int), Nums wBACD W.heap.size v ys → Nums w5 W.heap.size v ys := fun v ys h => M5.out.nums h fun k e f => by have := (h.lt k e).1; have := LT.out; omega
          have Q1 := no _ _ (QBACD.out.a _ rfl)
          have Q2 := no _ _ (QBACD.out.b _ rfl)
          have Q3 := no _ _ (QBACD.out.d _ rfl)
          have B5 : Below w.heap.size w w5 := Mq.under B0.out (QBACD.out.mq.trans M5.out) fun k e => by have := HS.out; omega
          have LD := run_loadVar_mid (P := Tryd.prog) w5 s 0 30 [.int .i64 0, .slice ga 16 gk, .int .i64 0, .slice ha 11 hk', .bool false, .bool false, .bool false, .int .i64 0, .slice ia n ik, .slice none 0 0] _ R5.out Tryd.underlying30 rfl (by kernel_rfl)
          go_wp2_with fail
          refine bodyPost_ret (v := .agg #[.int .i64 0, .slice ga 16 gk, .int .i64 0, .slice ha 11 hk', .bool false, .bool false, .bool false, .int .i64 0, .slice ia n ik, .slice none 0 0]) (by simp [results, Tryd.results52, asAddr]; rw [LD]) rfl ?_
          rw [HE1.out, HE2.out]
          exact ⟨_, _, _, _, rfl, ⟨Q1.mono B0.out.size, Q2.mono B0.out.size, Q3.mono B0.out.size, Nums.nil _ _⟩, B5⟩
        exact AllReadyH.nil
      exact AllReadyH.nil
    refine AllReadyH.cons rfl (fun K hK => ?_) ?_
    · rw [if_pos (by rfl)]
      go_simp
      have QBC : Hid (Nq W (wB.alloc (.cells #[] 2)) s zs none (some vB) (some (.slice (some ⟨wB.heap.size, 0, none⟩) 0 0)) none) := QB.out.mkC LT.out (nums_none _ _ (Nat.le_refl _)) (al (Below.refl _ _) _)
      obtain ⟨vC, hvC⟩ : ∃ v, Value.slice (some ⟨wB.heap.size, 0, none⟩) 0 0 = v := ⟨_, rfl⟩
      obtain ⟨wBC, hwBC⟩ : ∃ w', wB.alloc (.cells #[] 2) = w' := ⟨_, rfl⟩
      rw [hvC, hwBC] at QBC
      rw [hvC, hwBC]
      clear hvC hwBC
      refine hK.out _ _ trivial (fun _ => ?_)
      clear hK K
      refine wpAnyH_ready (rs := [0, 4]) (by kernel_rfl) (by simp) ?_
      refine AllReadyH.cons rfl (fun K hK => ?_) ?_
      · refine step_make rfl (.const (.int .i64 16)) (.const (.int .i64 16)) rfl 16 rfl rfl (by decide) ?_
        intro vA wBCA n1 b1
        have QBCA : Hid (Nq W wBCA s zs (some vA) (some vB) (some vC) none) := QBC.out.mkA LT.out n1 b1
        clear n1 b1
        refine hK.out _ _ trivial (fun _ => ?_)
        clear hK K
        change wpAnyH _ _ _ _ _ _ _ (Act.put _ (some 11) _) _
        simp only [Act.put, List.setIfInBounds_toArray, List.set_cons_zero, List.set_cons_succ]
        refine wpAnyH_ready (rs := [4]) (by kernel_rfl) (by simp) ?_
        refine AllReadyH.cons rfl (fun K hK => ?_) ?_
        · refine step_append rfl (.tmp 13) (.tmp 14) rfl W.heap.size vC [] rfl (QBCA.out.c rfl vC rfl) a n k zs rfl HL.out (HX.out _ QBCA.out.mq).1 (HX.out _ QBCA.out.mq).2 (by have := H40.out; simp; omega) W.heap.size wBCA (Below.refl _ _) (Nat.le_refl _) QBCA.out.mq.size ?_
          intro vD wBCAD n1 g1 _
          have QBCAD : Hid (Nq W wBCAD s zs (some vA) (some vB) (some vC) (some vD)) := QBCA.out.app LT.out (by have := n1.out; rwa [List.nil_append] at this) g1
          clear n1 g1
          refine hK.out _ _ trivial (fun _ => ?_)
          clear hK K
          change wpAnyH _ _ _ _ _ _ _ (Act.put _ (some 15) _) _
          simp only [Act.put, List.setIfInBounds_toArray, List.set_cons_zero, List.set_cons_succ]
          obtain ⟨ga, gk, hga, _⟩ := (QBCAD.out.a _ rfl).shape
          obtain ⟨ha, hk', hha, _⟩ := (QBCAD.out.b _ rfl).shape
          obtain ⟨ia, ik, hia, _⟩ := (QBCAD.out.d _ rfl).shape
          rw [List.length_replicate] at hga hha
          rw [HL.out] at hia
          subst hga hha hia
          refine wpAnyH_take (i := 5) (v := .agg #[.slice ga 16 gk, .int .i64 0, .slice ha 11 hk', .bool false, .bool false, .bool false, .int .i64 0, .slice ia n ik, .slice none 0 0]) rfl (by kernel_rfl) (by kernel_rfl) (by kernel_rfl) (fun _ _ _ h => h) (Or.inl ⟨by rfl, fun w' _ => by go_simp⟩) trivial ?_
          change wpAnyH _ _ _ _ _ _ _ (Act.put _ (some 16) _) _
          simp only [Act.put, List.setIfInBounds_toArray, List.set_cons_zero, List.set_cons_succ]
          refine wpAnyH_take (i := 6) (v := .agg #[.int .i64 0, .slice ga 16 gk, .int .i64 0, .slice ha 11 hk', .bool false, .bool false, .bool false, .int .i64 0, .slice ia n ik, .slice none 0 0]) rfl (by kernel_rfl) (by kernel_rfl) (by kernel_rfl) (fun _ _ _ h => h) (Or.inl ⟨by rfl, fun w' _ => by go_simp⟩) trivial ?_
          change wpAnyH _ _ _ _ _ _ _ (Act.put _ (some 17) _) _
          simp only [Act.put, List.setIfInBounds_toArray, List.set_cons_zero, List.set_cons_succ]
          refine wpAnyH_ready (rs := [7]) (by kernel_rfl) (by simp) ?_
          refine AllReadyH.cons rfl (fun K hK => ?_) AllReadyH.nil
          rw [if_pos (by rfl)]
          refine wp_store_mid 30 (.tmp 2) (.tmp 17) rfl s 0 #[.int .i64 0, .slice ga 16 gk, .int .i64 0, .slice ha 11 hk', .bool false, .bool false, .bool false, .int .i64 0, .slice ia n ik, .slice none 0 0] rfl rfl QBCAD.out.th (by kernel_rfl) (by simp [Value.oneCell']) ?_
          change K (Act.put _ none undef) (World.setCells wBCAD s 0 [.int .i64 0, .slice ga 16 gk, .int .i64 0, .slice ha 11 hk', .bool false, .bool false, .bool false, .int .i64 0, .slice ia n ik, .slice none 0 0])
          simp only [Act.put]
          have R5 : Hid ((wBCAD.setCells s 0 [.int .i64 0, .slice ga 16 gk, .int .i64 0, .slice ha 11 hk', .bool false, .bool false, .bool false, .int .i64 0, .slice ia n ik, .slice none 0 0]).rangeAt s 0 [.int .i64 0, .slice ga 16 gk, .int .i64 0, .slice ha 11 hk', .bool false, .bool false, .bool false, .int .i64 0, .slice ia n ik, .slice none 0 0]) := World.rangeAt_setCells_same _ _ _ _ QBCAD.out.th
          have M5 : Hid (Mq (fun k => k = s) wBCAD (wBCAD.setCells s 0 [.int .i64 0, .slice ga 16 gk, .int .i64 0, .slice ha 11 hk', .bool false, .bool false, .bool false, .int .i64 0, .slice ia n ik, .slice none 0 0])) := mq_cells s _ wBCAD 0
          generalize wBCAD.setCells s 0 [.int .i64 0, .slice ga 16 gk, .int .i64 0, .slice ha 11 hk', .bool false, .bool false, .bool false, .int .i64 0, .slice ia n ik, .slice none 0 0] = w5 at *
          refine hK.out _ _ trivial (fun _ => ?_)
          clear hK K
          refine wpAnyH_done (by kernel_rfl) ?_ _
          have no : ∀ (v : Value) (ys : List Int), Nums wBCAD W.heap.size v ys → Nums w5 W.heap.size v ys := fun v ys h => M5.out.nums h fun k e f => by have := (h.lt k e).1; have := LT.out; omega
          have Q1 := no _ _ (QBCAD.out.a _ rfl)
          have Q2 := no _ _ (QBCAD.out.b _ rfl)
          have Q3 := no _ _ (QBCAD.out.d _ rfl)
          have B5 : Below w.heap.size w w5 := Mq.under B0.out (QBCAD.out.mq.trans M5.out) fun k e => by have := HS.out; omega
          have LD := run_loadVar_mid (P := Tryd.prog) w5 s 0 30 [.int .i64 0, .slice ga 16 gk, .int .i64 0, .slice ha 11 hk', .bool false, .bool false, .bool false, .int .i64 0, .slice ia n ik, .slice none 0 0] _ R5.out Tryd.underlying30 rfl (by kernel_rfl)
          go_wp2_with fail
          refine bodyPost_ret (v := .agg #[.int .i64 0, .slice ga 16 gk, .int .i64 0, .slice ha 11 hk', .bool false, .bool false, .bool false, .int .i64 0, .slice ia n ik, .slice none 0 0]) (by simp [results, Tryd.results52, asAddr]; rw [LD]) rfl ?_
          rw [HE1.out, HE2.out]
          exact ⟨_, _, _, _, rfl, ⟨Q1.mono B0.out.size, Q2.mono B0.out.size, Q3.mono B0.out.size, Nums.nil _ _⟩, B5⟩
        exact AllReadyH.nil
      refine AllReadyH.cons rfl (fun K hK => ?_) ?_
      · refine step_append rfl (.tmp 13) (.tmp 14) rfl W.heap.size vC [] rfl (QBC.out.c rfl vC rfl) a n k zs rfl HL.out (HX.out _ QBC.out.mq).1 (HX.out _ QBC.out.mq).2 (by have := H40.out; simp; omega) W.heap.size wBC (Below.refl _ _) (Nat.le_refl _) QBC.out.mq.size ?_
        intro vD wBCD n1 g1 _
        have QBCD : Hid (Nq W wBCD s zs none (some vB) (some vC) (some vD)) := QBC.out.app LT.out (by have := n1.out; rwa [List.nil_append] at this) g1
        clear n1 g1
        refine hK.out _ _ trivial (fun _ => ?_)
        clear hK K
        change wpAnyH _ _ _ _ _ _ _ (Act.put _ (some 15) _) _
        simp only [Act.put, List.setIfInBounds_toArray, List.set_cons_zero, List.set_cons_succ]
        refine wpAnyH_ready (rs := [0]) (by kernel_rfl) (by simp) ?_
        refine AllReadyH.cons rfl (fun K hK => ?_) ?_
        · refine step_make rfl (.const (.int .i64 16)) (.const (.int .i64 16)) rfl 16 rfl rfl (by decide) ?_
          intro vA wBCDA n1 b1
          have QBCDA : Hid (Nq W wBCDA s zs (some vA) (some vB) (some vC) (some vD)) := QBCD.out.mkA LT.out n1 b1
          clear n1 b1
          refine hK.out _ _ trivial (fun _ => ?_)
          clear hK K
          change wpAnyH _ _ _ _ _ _ _ (Act.put _ (some 11) _) _
          simp only [Act.put, List.setIfInBounds_toArray, List.set_cons_zero, List.set_cons_succ]
          obtain ⟨ga, gk, hga, _⟩ := (QBCDA.out.a _ rfl).shape
          obtain ⟨ha, hk', hha, _⟩ := (QBCDA.out.b _ rfl).shape
          obtain ⟨ia, ik, hia, _⟩ := (QBCDA.out.d _ rfl).shape
          rw [List.length_replicate] at hga hha
          rw [HL.out] at hia
          subst hga hha hia
          refine wpAnyH_take (i := 5) (v := .agg #[.slice ga 16 gk, .int .i64 0, .slice ha 11 hk', .bool false, .bool false, .bool false, .int .i64 0, .slice ia n ik, .slice none 0 0]) rfl (by kernel_rfl) (by kernel_rfl) (by kernel_rfl) (fun _ _ _ h => h) (Or.inl ⟨by rfl, fun w' _ => by go_simp⟩) trivial ?_
          change wpAnyH _ _ _ _ _ _ _ (Act.put _ (some 16) _) _
          simp only [Act.put, List.setIfInBounds_toArray, List.set_cons_zero, List.set_cons_succ]
          refine wpAnyH_take (i := 6) (v := .agg #[.int .i64 0, .slice ga 16 gk, .int .i64 0, .slice ha 11 hk', .bool false, .bool false, .bool false, .int .i64 0, .slice ia n ik, .slice none 0 0]) rfl (by kernel_rfl) (by kernel_rfl) (by kernel_rfl) (fun _ _ _ h => h) (Or.inl ⟨by rfl, fun w' _ => by go_simp⟩) trivial ?_
          change wpAnyH _ _ _ _ _ _ _ (Act.put _ (some 17) _) _
          simp only [Act.put, List.setIfInBounds_toArray, List.set_cons_zero, List.set_cons_succ]
          refine wpAnyH_ready (rs := [7]) (by kernel_rfl) (by simp) ?_
          refine AllReadyH.cons rfl (fun K hK => ?_) AllReadyH.nil
          rw [if_pos (by rfl)]
          refine wp_store_mid 30 (.tmp 2) (.tmp 17) rfl s 0 #[.int .i64 0, .slice ga 16 gk, .int .i64 0, .slice ha 11 hk', .bool false, .bool false, .bool false, .int .i64 0, .slice ia n ik, .slice none 0 0] rfl rfl QBCDA.out.th (by kernel_rfl) (by simp [Value.oneCell']) ?_
          change K (Act.put _ none undef) (World.setCells wBCDA s 0 [.int .i64 0, .slice ga 16 gk, .int .i64 0, .slice ha 11 hk', .bool false, .bool false, .bool false, .int .i64 0, .slice ia n ik, .slice none 0 0])
          simp only [Act.put]
          have R5 : Hid ((wBCDA.setCells s 0 [.int .i64 0, .slice ga 16 gk, .int .i64 0, .slice ha 11 hk', .bool false, .bool false, .bool false, .int .i64 0, .slice ia n ik, .slice none 0 0]).rangeAt s 0 [.int .i64 0, .slice ga 16 gk, .int .i64 0, .slice ha 11 hk', .bool false, .bool false, .bool false, .int .i64 0, .slice ia n ik, .slice none 0 0]) := World.rangeAt_setCells_same _ _ _ _ QBCDA.out.th
          have M5 : Hid (Mq (fun k => k = s) wBCDA (wBCDA.setCells s 0 [.int .i64 0, .slice ga 16 gk, .int .i64 0, .slice ha 11 hk', .bool false, .bool false, .bool false, .int .i64 0, .slice ia n ik, .slice none 0 0])) := mq_cells s _ wBCDA 0
          generalize wBCDA.setCells s 0 [.int .i64 0, .slice ga 16 gk, .int .i64 0, .slice ha 11 hk', .bool false, .bool false, .bool false, .int .i64 0, .slice ia n ik, .slice none 0 0] = w5 at *
          refine hK.out _ _ trivial (fun _ => ?_)
          clear hK K
          refine wpAnyH_done (by kernel_rfl) ?_ _
          have no : ∀ (v : Value) (ys : List Int), Nums wBCDA W.heap.size v ys → Nums w5 W.heap.size v ys := fun v ys h => M5.out.nums h fun k e f => by have := (h.lt k e).1; have := LT.out; omega
          have Q1 := no _ _ (QBCDA.out.a _ rfl)
          have Q2 := no _ _ (QBCDA.out.b _ rfl)
          have Q3 := no _ _ (QBCDA.out.d _ rfl)
          have B5 : Below w.heap.size w w5 := Mq.under B0.out (QBCDA.out.mq.trans M5.out) fun k e => by have := HS.out; omega
          have LD := run_loadVar_mid (P := Tryd.prog) w5 s 0 30 [.int .i64 0, .slice ga 16 gk, .int .i64 0, .slice ha 11 hk', .bool false, .bool false, .bool false, .int .i64 0, .slice ia n ik, .slice none 0 0] _ R5.out Tryd.underlying30 rfl (by kernel_rfl)
          go_wp2_with fail
          refine bodyPost_ret (v := .agg #[.int .i64 0, .slice ga 16 gk, .int .i64 0, .slice ha 11 hk', .bool false, .bool false, .bool false, .int .i64 0, .slice ia n ik, .slice none 0 0]) (by simp [results, Tryd.results52, asAddr]; rw [LD]) rfl ?_
          rw [HE1.out, HE2.out]
          exact ⟨_, _, _, _, rfl, ⟨Q1.mono B0.out.size, Q2.mono B0.out.size, Q3.mono B0.out.size, Nums.nil _ _⟩, B5⟩
        exact AllReadyH.nil
      exact AllReadyH.nil
    exact AllReadyH.nil
  refine AllReadyH.cons rfl (fun K hK => ?_) ?_
  · rw [if_pos (by rfl)]
    go_simp
    have QC : Hid (Nq W (W.drew.alloc (.cells #[] 2)) s zs none none (some (.slice (some ⟨W.drew.heap.size, 0, none⟩) 0 0)) none) := Q0.out.mkC LT.out (nums_none _ _ (Nat.le_refl _)) (al (Below.refl _ _) _)
    have QC : Hid (Nq W ((W.alloc (.cells #[] 2)).drew) s zs none none (some (Value.slice (some ⟨W.heap.size, 0, none⟩) 0 0)) none) := QC.out
    obtain ⟨vC, hvC⟩ : ∃ v, Value.slice (some ⟨W.heap.size, 0, none⟩) 0 0 = v := ⟨_, rfl⟩
    obtain ⟨wC, hwC⟩ : ∃ w', (W.alloc (.cells #[] 2)).drew = w' := ⟨_, rfl⟩
    rw [hvC, hwC] at QC
    rw [hvC, hwC]
    clear hvC hwC
    refine hK.out _ _ trivial (fun _ => ?_)
    clear hK K
    refine wpAnyH_ready (rs := [0, 1, 4]) (by kernel_rfl) (by simp) ?_
    refine AllReadyH.cons rfl (fun K hK => ?_) ?_
    · refine step_make rfl (.const (.int .i64 16)) (.const (.int .i64 16)) rfl 16 rfl rfl (by decide) ?_
      intro vA wCA n1 b1
      have QCA : Hid (Nq W wCA s zs (some vA) none (some vC) none) := QC.out.mkA LT.out n1 b1
      clear n1 b1
      refine hK.out _ _ trivial (fun _ => ?_)
      clear hK K
      change wpAnyH _ _ _ _ _ _ _ (Act.put _ (some 11) _) _
      simp only [Act.put, List.setIfInBounds_toArray, List.set_cons_zero, List.set_cons_succ]
      refine wpAnyH_ready (rs := [1, 4]) (by kernel_rfl) (by simp) ?_
      refine AllReadyH.cons rfl (fun K hK => ?_) ?_
      · refine step_make rfl (.const (.int .i64 11)) (.const (.int .i64 11)) rfl 11 rfl rfl (by decide) ?_
        intro vB wCAB n1 b1
        have QCAB : Hid (Nq W wCAB s zs (some vA) (some vB) (some vC) none) := QCA.out.mkB LT.out n1 b1
        clear n1 b1
        refine hK.out _ _ trivial (fun _ => ?_)
        clear hK K
        change wpAnyH _ _ _ _ _ _ _ (Act.put _ (some 12) _) _
        simp only [Act.put, List.setIfInBounds_toArray, List.set_cons_zero, List.set_cons_succ]
        refine wpAnyH_ready (rs := [4]) (by kernel_rfl) (by simp) ?_
        refine AllReadyH.cons rfl (fun K hK => ?_) ?_
        · refine step_append rfl (.tmp 13) (.tmp 14) rfl W.heap.size vC [] rfl (QCAB.out.c rfl vC rfl) a n k zs rfl HL.out (HX.out _ QCAB.out.mq).1 (HX.out _ QCAB.out.mq).2 (by have := H40.out; simp; omega) W.heap.size wCAB (Below.refl _ _) (Nat.le_refl _) QCAB.out.mq.size ?_
          intro vD wCABD n1 g1 _
          have QCABD : Hid (Nq W wCABD s zs (some vA) (some vB) (some vC) (some vD)) := QCAB.out.app LT.out (by have := n1.out; rwa [List.nil_append] at this) g1
          clear n1 g1
          refine hK.out _ _ trivial (fun _ => ?_)
          clear hK K
          change wpAnyH _ _ _ _ _ _ _ (Act.put _ (some 15) _) _
          simp only [Act.put, List.setIfInBounds_toArray, List.set_cons_zero, List.set_cons_succ]
          obtain ⟨ga, gk, hga, _⟩ := (QCABD.out.a _ rfl).shape
          obtain ⟨ha, hk', hha, _⟩ := (QCABD.out.b _ rfl).shape
          obtain ⟨ia, ik, hia, _⟩ := (QCABD.out.d _ rfl).shape
          rw [List.length_replicate] at hga hha
          rw [HL.out] at hia
          subst hga hha hia
          refine wpAnyH_take (i := 5) (v := .agg #[.slice ga 16 gk, .int .i64 0, .slice ha 11 hk', .bool false, .bool false, .bool false, .int .i64 0, .slice ia n ik, .slice none 0 0]) rfl (by kernel_rfl) (by kernel_rfl) (by kernel_rfl) (fun _ _ _ h => h) (Or.inl ⟨by rfl, fun w' _ => by go_simp⟩) trivial ?_
          change wpAnyH _ _ _ _ _ _ _ (Act.put _ (some 16) _) _
          simp only [Act.put, List.setIfInBounds_toArray, List.set_cons_zero, List.set_cons_succ]
          refine wpAnyH_take (i := 6) (v := .agg #[.int .i64 0, .slice ga 16 gk, .int .i64 0, .slice ha 11 hk', .bool false, .bool false, .bool false, .int .i64 0, .slice ia n ik, .slice none 0 0]) rfl (by kernel_rfl) (by kernel_rfl) (by kernel_rfl) (fun _ _ _ h => h) (Or.inl ⟨by rfl, fun w' _ => by go_simp⟩) trivial ?_
          change wpAnyH _ _ _ _ _ _ _ (Act.put _ (some 17) _) _
          simp only [Act.put, List.setIfInBounds_toArray, List.set_cons_zero, List.set_cons_succ]
          refine wpAnyH_ready (rs := [7]) (by kernel_rfl) (by simp) ?_
          refine AllReadyH.cons rfl (fun K hK => ?_) AllReadyH.nil
          rw [if_pos (by rfl)]
          refine wp_store_mid 30 (.tmp 2) (.tmp 17) rfl s 0 #[.int .i64 0, .slice ga 16 gk, .int .i64 0, .slice ha 11 hk', .bool false, .bool false, .bool false, .int .i64 0, .slice ia n ik, .slice none 0 0] rfl rfl QCABD.out.th (by kernel_rfl) (by simp [Value.oneCell']) ?_
          change K (Act.put _ none undef) (World.setCells wCABD s 0 [.int .i64 0, .slice ga 16 gk, .int .i64 0, .slice ha 11 hk', .bool false, .bool false, .bool false, .int .i64 0, .slice ia n ik, .slice none 0 0])
          simp only [Act.put]
          have R5 : Hid ((wCABD.setCells s 0 [.int .i64 0, .slice ga 16 gk, .int .i64 0, .slice ha 11 hk', .bool false, .bool false, .bool false, .int .i64 0, .slice ia n ik, .slice none 0 0]).rangeAt s 0 [.int .i64 0, .slice ga 16 gk, .int .i64 0, .slice ha 11 hk', .bool false, .bool false, .bool false, .int .i64 0, .slice ia n ik, .slice none 0 0]) := World.rangeAt_setCells_same _ _ _ _ QCABD.out.th
          have M5 : Hid (Mq (fun k => k = s) wCABD (wCABD.setCells s 0 [.int .i64 0, .slice ga 16 gk, .int .i64 0, .slice ha 11 hk', .bool false, .bool false, .bool false, .int .i64 0, .slice ia n ik, .slice none 0 0])) := mq_cells s _ wCABD 0
          generalize wCABD.setCells s 0 [.int .i64 0, .slice ga 16 gk, .int .i64 0, .slice ha 11 hk', .bool false, .bool false, .bool false, .int .i64 0, .slice ia n ik, .slice none 0 0] = w5 at *
          refine hK.out _ _ trivial (fun _ => ?_)
          clear hK K
          refine wpAnyH_done (by kernel_rfl) ?_ _
          have no : ∀ (v : Value) (ys : List Int), Nums wCABD W.heap.size v ys → Nums w5 W.heap.size v ys := fun v ys h => M5.out.nums h fun k e f => by have := (h.lt k e).1; have := LT.out; omega
          have Q1 := no _ _ (QCABD.out.a _ rfl)
          have Q2 := no _ _ (QCABD.out.b _ rfl)
          have Q3 := no _ _ (QCABD.out.d _ rfl)
          have B5 : Below w.heap.size w w5 := Mq.under B0.out (QCABD.out.mq.trans M5.out) fun k e => by have := HS.out; omega
          have LD := run_loadVar_mid (P := Tryd.prog) w5 s 0 30 [.int .i64 0, .slice ga 16 gk, .int .i64 0, .slice ha 11 hk', .bool false, .bool false, .bool false, .int .i64 0, .slice ia n ik, .slice none 0 0] _ R5.out Tryd.underlying30 rfl (by kernel_rfl)
          go_wp2_with fail
          refine bodyPost_ret (v := .agg #[.int .i64 0, .slice ga 16 gk, .int .i64 0, .slice ha 11 hk', .bool false, .bool false, .bool false, .int .i64 0, .slice ia n ik, .slice none 0 0]) (by simp [results, Tryd.results52, asAddr]; rw [LD]) rfl ?_
          rw [HE1.out, HE2.out]
          exact ⟨_, _, _, _, rfl, ⟨Q1.mono B0.out.size, Q2.mono B0.out.size, Q3.mono B0.out.size, Nums.nil _ _⟩, B5⟩
        exact AllReadyH.nil
      refine AllReadyH.cons rfl (fun K hK => ?_) ?_
      · refine step_append rfl (.tmp 13) (.tmp 14) rfl W.heap.size vC [] rfl (QCA.out.c rfl vC rfl) a n k zs rfl HL.out (HX.out _ QCA.out.mq).1 (HX.out _ QCA.out.mq).2 (by have := H40.out; simp; omega) W.heap.size wCA (Below.refl _ _) (Nat.le_refl _) QCA.out.mq.size ?_
        intro vD wCAD n1 g1 _
        have QCAD : Hid (Nq W wCAD s zs (some vA) none (some vC) (some vD)) := QCA.out.app LT.out (by have := n1.out; rwa [List.nil_append] at this) g1
        clear n1 g1
        refine hK.out _ _ trivial (fun _ => ?_)
        clear hK K
        change wpAnyH _ _ _ _ _ _ _ (Act.put _ (some 15) _) _
        simp only [Act.put, List.setIfInBounds_toArray, List.set_cons_zero, List.set_cons_succ]
        refine wpAnyH_ready (rs := [1]) (by kernel_rfl) (by simp) ?_
        refine AllReadyH.cons rfl (fun K hK => ?_) ?_
        · refine step_make rfl (.const (.int .i64 11)) (.const (.int .i64 11)) rfl 11 rfl rfl (by decide) ?_
          intro vB wCADB n1 b1
          have QCADB : Hid (Nq W wCADB s zs (some vA) (some vB) (some vC) (some vD)) := QCAD.out.mkB LT.out n1 b1
          clear n1 b1
          refine hK.out _ _ trivial (fun _ => ?_)
          clear hK K
          change wpAnyH _ _ _ _ _ _ _ (Act.put _ (some 12) _) _
          simp only [Act.put, List.setIfInBounds_toArray, List.set_cons_zero, List.set_cons_succ]
          obtain ⟨ga, gk, hga, _⟩ := (QCADB.out.a _ rfl).shape
          obtain ⟨ha, hk', hha, _⟩ := (QCADB.out.b _ rfl).shape
          obtain ⟨ia, ik, hia, _⟩ := (QCADB.out.d _ rfl).shape
          rw [List.length_replicate] at hga hha
          rw [HL.out] at hia
          subst hga hha hia
          refine wpAnyH_take (i := 5) (v := .agg #[.slice ga 16 gk, .int .i64 0, .slice ha 11 hk', .bool false, .bool false, .bool false, .int .i64 0, .slice ia n ik, .slice none 0 0]) rfl (by kernel_rfl) (by kernel_rfl) (by kernel_rfl) (fun _ _ _ h => h) (Or.inl ⟨by rfl, fun w' _ => by go_simp⟩) trivial ?_
          change wpAnyH _ _ _ _ _ _ _ (Act.put _ (some 16) _) _
          simp only [Act.put, List.setIfInBounds_toArray, List.set_cons_zero, List.set_cons_succ]
          refine wpAnyH_take (i := 6) (v := .agg #[.int .i64 0, .slice ga 16 gk, .int .i64 0, .slice ha 11 hk', .bool false, .bool false, .bool false, .int .i64 0, .slice ia n ik, .slice none 0 0]) rfl (by kernel_rfl) (by kernel_rfl) (by kernel_rfl) (fun _ _ _ h => h) (Or.inl ⟨by rfl, fun w' _ => by go_simp⟩) trivial ?_
          change wpAnyH _ _ _ _ _ _ _ (Act.put _ (some 17) _) _
          simp only [Act.put, List.setIfInBounds_toArray, List.set_cons_zero, List.set_cons_succ]
          refine wpAnyH_ready (rs := [7]) (by kernel_rfl) (by simp) ?_
          refine AllReadyH.cons rfl (fun K hK => ?_) AllReadyH.nil
          rw [if_pos (by rfl)]
          refine wp_store_mid 30 (.tmp 2) (.tmp 17) rfl s 0 #[.int .i64 0, .slice ga 16 gk, .int .i64 0, .slice ha 11 hk', .bool false, .bool false, .bool false, .int .i64 0, .slice ia n ik, .slice none 0 0] rfl rfl QCADB.out.th (by kernel_rfl) (by simp [Value.oneCell']) ?_
          change K (Act.put _ none undef) (World.setCells wCADB s 0 [.int .i64 0, .slice ga 16 gk, .int .i64 0, .slice ha 11 hk', .bool false, .bool false, .bool false, .int .i64 0, .slice ia n ik, .slice none 0 0])
          simp only [Act.put]
          have R5 : Hid ((wCADB.setCells s 0 [.int .i64 0, .slice ga 16 gk, .int .i64 0, .slice ha 11 hk', .bool false, .bool false, .bool false, .int .i64 0, .slice ia n ik, .slice none 0 0]).rangeAt s 0 [.int .i64 0, .slice ga 16 gk, .int .i64 0, .slice ha 11 hk', .bool false, .bool false, .bool false, .int .i64 0, .slice ia n ik, .slice none 0 0]) := World.rangeAt_setCells_same _ _ _ _ QCADB.out.th
          have M5 : Hid (Mq (fun k => k = s) wCADB (wCADB.setCells s 0 [.int .i64 0, .slice ga 16 gk, .int .i64 0, .slice ha 11 hk', .bool false, .bool false, .bool false, .int .i64 0, .slice ia n ik, .slice none 0 0])) := mq_cells s _ wCADB 0
          generalize wCADB.setCells s 0 [.int .i64 0, .slice ga 16 gk, .int .i64 0, .slice ha 11 hk', .bool false, .bool false, .bool false, .int .i64 0, .slice ia n ik, .slice none 0 0] = w5 at *
          refine hK.out _ _ trivial (fun _ => ?_)
          clear hK K
          refine wpAnyH_done (by kernel_rfl) ?_ _
          have no : ∀ (v : Value) (ys : List Int), Nums wCADB W.heap.size v ys → Nums w5 W.heap.size v ys := fun v ys h => M5.out.nums h fun k e f => by have := (h.lt k e).1; have := LT.out; omega
          have Q1 := no _ _ (QCADB.out.a _ rfl)
          have Q2 := no _ _ (QCADB.out.b _ rfl)
          have Q3 := no _ _ (QCADB.out.d _ rfl)
          have B5 : Below w.heap.size w w5 := Mq.under B0.out (QCADB.out.mq.trans M5.out) fun k e => by have := HS.out; omega
          have LD := run_loadVar_mid (P := Tryd.prog) w5 s 0 30 [.int .i64 0, .slice ga 16 gk, .int .i64 0, .slice ha 11 hk', .bool false, .bool false, .bool false, .int .i64 0, .slice ia n ik, .slice none 0 0] _ R5.out Tryd.underlying30 rfl (by kernel_rfl)
          go_wp2_with fail
          refine bodyPost_ret (v := .agg #[.int .i64 0, .slice ga 16 gk, .int .i64 0, .slice ha 11 hk', .bool false, .bool false, .bool false, .int .i64 0, .slice ia n ik, .slice none 0 0]) (by simp [results, Tryd.results52, asAddr]; rw [LD]) rfl ?_
          rw [HE1.out, HE2.out]
          exact ⟨_, _, _, _, rfl, ⟨Q1.mono B0.out.size, Q2.mono B0.out.size, Q3.mono B0.out.size, Nums.nil _ _⟩, B5⟩
        exact AllReadyH.nil
      exact AllReadyH.nil
    refine AllReadyH.cons rfl (fun K hK => ?_) ?_
    · refine step_make rfl (.const (.int .i64 11)) (.const (.int .i64 11)) rfl 11 rfl rfl (by decide) ?_
      intro vB wCB n1 b1
      have QCB : Hid (Nq W wCB s zs none (some vB) (some vC) none) := QC.out.mkB LT.out n1 b1
      clear n1 b1
      refine hK.out _ _ trivial (fun _ => ?_)
      clear hK K
      change wpAnyH _ _ _ _ _ _ _ (Act.put _ (some 12) _) _
      simp only [Act.put, List.setIfInBounds_toArray, List.set_cons_zero, List.set_cons_succ]
      refine wpAnyH_ready (rs := [0, 4]) (by kernel_rfl) (by simp) ?_
      refine AllReadyH.cons rfl (fun K hK => ?_) ?_
      · refine step_make rfl (.const (.int .i64 16)) (.const (.int .i64 16)) rfl 16 rfl rfl (by decide) ?_
        intro vA wCBA n1 b1
        have QCBA : Hid (Nq W wCBA s zs (some vA) (some vB) (some vC) none) := QCB.out.mkA LT.out n1 b1
        clear n1 b1
        refine hK.out _ _ trivial (fun _ => ?_)
        clear hK K
        change wpAnyH _ _ _ _ _ _ _ (Act.put _ (some 11) _) _
        simp only [Act.put, List.setIfInBounds_toArray, List.set_cons_zero, List.set_cons_succ]
        refine wpAnyH_ready (rs := [4]) (by kernel_rfl) (by simp) ?_
        refine AllReadyH.cons rfl (fun K hK => ?_) ?_
        · refine step_append rfl (.tmp 13) (.tmp 14) rfl W.heap.size vC [] rfl (QCBA.out.c rfl vC rfl) a n k zs rfl HL.out (HX.out _ QCBA.out.mq).1 (HX.out _ QCBA.out.mq).2 (by have := H40.out; simp; omega) W.heap.size wCBA (Below.refl _ _) (Nat.le_refl _) QCBA.out.mq.size ?_
          intro vD wCBAD n1 g1 _
          have QCBAD : Hid (Nq W wCBAD s zs (some vA) (some vB) (some vC) (some vD)) := QCBA.out.app LT.out (by have := n1.out; rwa [List.nil_append] at this) g1
          clear n1 g1
          refine hK.out _ _ trivial (fun _ => ?_)
          clear hK K
          change wpAnyH _ _ _ _ _ _ _ (Act.put _ (some 15) _) _
          simp only [Act.put, List.setIfInBounds_toArray, List.set_cons_zero, List.set_cons_succ]
          obtain ⟨ga, gk, hga, _⟩ := (QCBAD.out.a _ rfl).shape
          obtain ⟨ha, hk', hha, _⟩ := (QCBAD.out.b _ rfl).shape
          obtain ⟨ia, ik, hia, _⟩ := (QCBAD.out.d _ rfl).shape
          rw [List.length_replicate] at hga hha
          rw [HL.out] at hia
          subst hga hha hia
          refine wpAnyH_take (i := 5) (v := .agg #[.slice ga 16 gk, .int .i64 0, .slice ha 11 hk', .bool false, .bool false, .bool false, .int .i64 0, .slice ia n ik, .slice none 0 0]) rfl (by kernel_rfl) (by kernel_rfl) (by kernel_rfl) (fun _ _ _ h => h) (Or.inl ⟨by rfl, fun w' _ => by go_simp⟩) trivial ?_
          change wpAnyH _ _ _ _ _ _ _ (Act.put _ (some 16) _) _
          simp only [Act.put, List.setIfInBounds_toArray, List.set_cons_zero, List.set_cons_succ]
          refine wpAnyH_take (i := 6) (v := .agg #[.int .i64 0, .slice ga 16 gk, .int .i64 0, .slice ha 11 hk', .bool false, .bool false, .bool false, .int .i64 0, .slice ia n ik, .slice none 0 0]) rfl (by kernel_rfl) (by kernel_rfl) (by kernel_rfl) (fun _ _ _ h => h) (Or.inl ⟨by rfl, fun w' _ => by go_simp⟩) trivial ?_
          change wpAnyH _ _ _ _ _ _ _ (Act.put _ (some 17) _) _
          simp only [Act.put, List.setIfInBounds_toArray, List.set_cons_zero, List.set_cons_succ]
          refine wpAnyH_ready (rs := [7]) (by kernel_rfl) (by simp) ?_
          refine AllReadyH.cons rfl (fun K hK => ?_) AllReadyH.nil
          rw [if_pos (by rfl)]
          refine wp_store_mid 30 (.tmp 2) (.tmp 17) rfl s 0 #[.int .i64 0, .slice ga 16 gk, .int .i64 0, .slice ha 11 hk', .bool false, .bool false, .bool false, .int .i64 0, .slice ia n ik, .slice none 0 0] rfl rfl QCBAD.out.th (by kernel_rfl) (by simp [Value.oneCell']) ?_
          change K (Act.put _ none undef) (World.setCells wCBAD s 0 [.int .i64 0, .slice ga 16 gk, .int .i64 0, .slice ha 11 hk', .bool false, .bool false, .bool false, .int .i64 0, .slice ia n ik, .slice none 0 0])
          simp only [Act.put]
          have R5 : Hid ((wCBAD.setCells s 0 [.int .i64 0, .slice ga 16 gk, .int .i64 0, .slice ha 11 hk', .bool false, .bool false, .bool false, .int .i64 0, .slice ia n ik, .slice none 0 0]).rangeAt s 0 [.int .i64 0, .slice ga 16 gk, .int .i64 0, .slice ha 11 hk', .bool false, .bool false, .bool false, .int .i64 0, .slice ia n ik, .slice none 0 0]) := World.rangeAt_setCells_same _ _ _ _ QCBAD.out.th
          have M5 : Hid (Mq (fun k => k = s) wCBAD (wCBAD.setCells s 0 [.int .i64 0, .slice ga 16 gk, .int .i64 0, .slice ha 11 hk', .bool false, .bool false, .bool false, .int .i64 0, .slice ia n ik, .slice none 0 0])) := mq_cells s _ wCBAD 0
          generalize wCBAD.setCells s 0 [.int .i64 0, .slice ga 16 gk, .int .i64 0, .slice ha 11 hk', .bool false, .bool false, .bool false, .int .i64 0, .slice ia n ik, .slice none 0 0] = w5 at *
          refine hK.out _ _ trivial (fun _ => ?_)
          clear hK K
          refine wpAnyH_done (by kernel_rfl) ?_ _
          have no : ∀ (v : Value) (ys : List Int), Nums wCBAD W.heap.size v ys → Nums w5 W.heap.size v ys := fun v ys h => M5.out.nums h fun k e f => by have := (h.lt k e).1; have := LT.out; omega
          have Q1 := no _ _ (QCBAD.out.a _ rfl)
          have Q2 := no _ _ (QCBAD.out.b _ rfl)
          have Q3 := no _ _ (QCBAD.out.d _ rfl)
          have B5 : Below w.heap.size w w5 := Mq.under B0.out (QCBAD.out.mq.trans M5.out) fun k e => by have := HS.out; omega
          have LD := run_loadVar_mid (P := Tryd.prog) w5 s 0 30 [.int .i64 0, .slice ga 16 gk, .int .i64 0, .slice ha 11 hk', .bool false, .bool false, .bool false, .int .i64 0, .slice ia n ik, .slice none 0 0] _ R5.out Tryd.underlying30 rfl (by kernel_rfl)
          go_wp2_with fail
          refine bodyPost_ret (v := .agg #[.int .i64 0, .slice ga 16 gk, .int .i64 0, .slice ha 11 hk', .bool false, .bool false, .bool false, .int .i64 0, .slice ia n ik, .slice none 0 0]) (by simp [results, Tryd.results52, asAddr]; rw [LD]) rfl ?_
          rw [HE1.out, HE2.out]
          exact ⟨_, _, _, _, rfl, ⟨Q1.mono B0.out.size, Q2.mono B0.out.size, Q3.mono B0.out.size, Nums.nil _ _⟩, B5⟩
        exact AllReadyH.nil
      refine AllReadyH.cons rfl (fun K hK => ?_) ?_
      · refine step_append rfl (.tmp 13) (.tmp 14) rfl W.heap.size vC [] rfl (QCB.out.c rfl vC rfl) a n k zs rfl HL.out (HX.out _ QCB.out.mq).1 (HX.out _ QCB.out.mq).2 (by have := H40.out; simp; omega) W.heap.size wCB (Below.refl _ _) (Nat.le_refl _) QCB.out.mq.size ?_
        intro vD wCBD n1 g1 _
        have QCBD : Hid (Nq W wCBD s zs none (some vB) (some vC) (some vD)) := QCB.out.app LT.out (by have := n1.out; rwa [List.nil_append] at this) g1
        clear n1 g1
        refine hK.out _ _ trivial (fun _ => ?_)
        clear hK K
        change wpAnyH _ _ _ _ _ _ _ (Act.put _ (some 15) _) _
        simp only [Act.put, List.setIfInBounds_toArray, List.set_cons_zero, List.set_cons_succ]
        refine wpAnyH_ready (rs := [0]) (by kernel_rfl) (by simp) ?_
        refine AllReadyH.cons rfl (fun K hK => ?_) ?_
        · refine step_make rfl (.const (.int .i64 16)) (.const (.int .i64 16)) rfl 16 rfl rfl (by decide) ?_
          intro vA wCBDA n1 b1
          have QCBDA : Hid (Nq W wCBDA s zs (some vA) (some vB) (some vC) (some vD)) := QCBD.out.mkA LT.out n1 b1
          clear n1 b1
          refine hK.out _ _ trivial (fun _ => ?_)
          clear hK K
          change wpAnyH _ _ _ _ _ _ _ (Act.put _ (some 11) _) _
          simp only [Act.put, List.setIfInBounds_toArray, List.set_cons_zero, List.set_cons_succ]
          obtain ⟨ga, gk, hga, _⟩ := (QCBDA.out.a _ rfl).shape
          obtain ⟨ha, hk', hha, _⟩ := (QCBDA.out.b _ rfl).shape
          obtain ⟨ia, ik, hia, _⟩ := (QCBDA.out.d _ rfl).shape
          rw [List.length_replicate] at hga hha
          rw [HL.out] at hia
          subst hga hha hia
          refine wpAnyH_take (i := 5) (v := .agg #[.slice ga 16 gk, .int .i64 0, .slice ha 11 hk', .bool false, .bool false, .bool false, .int .i64 0, .slice ia n ik, .slice none 0 0]) rfl (by kernel_rfl) (by kernel_rfl) (by kernel_rfl) (fun _ _ _ h => h) (Or.inl ⟨by rfl, fun w' _ => by go_simp⟩) trivial ?_
          change wpAnyH _ _ _ _ _ _ _ (Act.put _ (some 16) _) _
          simp only [Act.put, List.setIfInBounds_toArray, List.set_cons_zero, List.set_cons_succ]
          refine wpAnyH_take (i := 6) (v := .agg #[.int .i64 0, .slice ga 16 gk, .int .i64 0, .slice ha 11 hk', .bool false, .bool false, .bool false, .int .i64 0, .slice ia n ik, .slice none 0 0]) rfl (by kernel_rfl) (by kernel_rfl) (by kernel_rfl) (fun _ _ _ h => h) (Or.inl ⟨by rfl, fun w' _ => by go_simp⟩) trivial ?_
          change wpAnyH _ _ _ _ _ _ _ (Act.put _ (some 17) _) _
          simp only [Act.put, List.setIfInBounds_toArray, List.set_cons_zero, List.set_cons_succ]
          refine wpAnyH_ready (rs := [7]) (by kernel_rfl) (by simp) ?_
          refine AllReadyH.cons rfl (fun K hK => ?_) AllReadyH.nil
          rw [if_pos (by rfl)]
          refine wp_store_mid 30 (.tmp 2) (.tmp 17) rfl s 0 #[.int .i64 0, .slice ga 16 gk, .int .i64 0, .slice ha 11 hk', .bool false, .bool false, .bool false, .int .i64 0, .slice ia n ik, .slice none 0 0] rfl rfl QCBDA.out.th (by kernel_rfl) (by simp [Value.oneCell']) ?_
          change K (Act.put _ none undef) (World.setCells wCBDA s 0 [.int .i64 0, .slice ga 16 gk, .int .i64 0, .slice ha 11 hk', .bool false, .bool false, .bool false, .int .i64 0, .slice ia n ik, .slice none 0 0])
          simp only [Act.put]
          have R5 : Hid ((wCBDA.setCells s 0 [.int .i64 0, .slice ga 16 gk, .int .i64 0, .slice ha 11 hk', .bool false, .bool false, .bool false, .int .i64 0, .slice ia n ik, .slice none 0 0]).rangeAt s 0 [.int .i64 0, .slice ga 16 gk, .int .i64 0, .slice ha 11 hk', .bool false, .bool false, .bool false, .int .i64 0, .slice ia n ik, .slice none 0 0]) := World.rangeAt_setCells_same _ _ _ _ QCBDA.out.th
          have M5 : Hid (Mq (fun k => k = s) wCBDA (wCBDA.setCells s 0 [.int .i64 0, .slice ga 16 gk, .int .i64 0, .slice ha 11 hk', .bool false, .bool false, .bool false, .int .i64 0, .slice ia n ik, .slice none 0 0])) := mq_cells s _ wCBDA 0
          generalize wCBDA.setCells s 0 [.int .i64 0, .slice ga 16 gk, .int .i64 0, .slice ha 11 hk', .bool false, .bool false, .bool false, .int .i64 0, .slice ia n ik, .slice none 0 0] = w5 at *
          refine hK.out _ _ trivial (fun _ => ?_)
          clear hK K
          refine wpAnyH_done (by kernel_rfl) ?_ _
          have no : ∀ (v : Value) (ys : List Int), Nums wCBDA W.heap.size v ys → Nums w5 W.heap.size v ys := fun v ys h => M5.out.nums h fun k e f => by have := (h.lt k e).1; have := LT.out; omega
          have Q1 := no _ _ (QCBDA.out.a _ rfl)
          have Q2 := no _ _ (QCBDA.out.b _ rfl)
          have Q3 := no _ _ (QCBDA.out.d _ rfl)
          have B5 : Below w.heap.size w w5 := Mq.under B0.out (QCBDA.out.mq.trans M5.out) fun k e => by have := HS.out; omega
          have LD := run_loadVar_mid (P := Tryd.prog) w5 s 0 30 [.int .i64 0, .slice ga 16 gk, .int .i64 0, .slice ha 11 hk', .bool false, .bool false, .bool false, .int .i64 0, .slice ia n ik, .slice none 0 0] _ R5.out Tryd.underlying30 rfl (by kernel_rfl)
          go_wp2_with fail
          refine bodyPost_ret (v := .agg #[.int .i64 0, .slice ga 16 gk, .int .i64 0, .slice ha 11 hk', .bool false, .bool false, .bool false, .int .i64 0, .slice ia n ik, .slice none 0 0]) (by simp [results, Tryd.results52, asAddr]; rw [LD]) rfl ?_
          rw [HE1.out, HE2.out]
          exact ⟨_, _, _, _, rfl, ⟨Q1.mono B0.out.size, Q2.mono B0.out.size, Q3.mono B0.out.size, Nums.nil _ _⟩, B5⟩
        exact AllReadyH.nil
      exact AllReadyH.nil
    refine AllReadyH.cons rfl (fun K hK => ?_) ?_
    · refine step_append rfl (.tmp 13) (.tmp 14) rfl W.heap.size vC [] rfl (QC.out.c rfl vC rfl) a n k zs rfl HL.out (HX.out _ QC.out.mq).1 (HX.out _ QC.out.mq).2 (by have := H40.out; simp; omega) W.heap.size wC (Below.refl _ _) (Nat.le_refl _) QC.out.mq.size ?_
      intro vD wCD n1 g1 _
      have QCD : Hid (Nq W wCD s zs none none (some vC) (some vD)) := QC.out.app LT.out (by have := n1.out; rwa [List.nil_append] at this) g1
      clear n1 g1
      refine hK.out _ _ trivial (fun _ => ?_)
      clear hK K
      change wpAnyH _ _ _ _ _ _ _ (Act.put _ (some 15) _) _
      simp only [Act.put, List.setIfInBounds_toArray, List.set_cons_zero, List.set_cons_succ]
      refine wpAnyH_ready (rs := [0, 1]) (by kernel_rfl) (by simp) ?_
      refine AllReadyH.cons rfl (fun K hK => ?_) ?_
      · refine step_make rfl (.const (.int .i64 16)) (.const (.int .i64 16)) rfl 16 rfl rfl (by decide) ?_
        intro vA wCDA n1 b1
        have QCDA : Hid (Nq W wCDA s zs (some vA) none (some vC) (some vD)) := QCD.out.mkA LT.out n1 b1
        clear n1 b1
        refine hK.out _ _ trivial (fun _ => ?_)
        clear hK K
        change wpAnyH _ _ _ _ _ _ _ (Act.put _ (some 11) _) _
        simp only [Act.put, List.setIfInBounds_toArray, List.set_cons_zero, List.set_cons_succ]
        refine wpAnyH_ready (rs := [1]) (by kernel_rfl) (by simp) ?_
        refine AllReadyH.cons rfl (fun K hK => ?_) ?_
        · refine step_make rfl (.const (.int .i64 11)) (.const (.int .i64 11)) rfl 11 rfl rfl (by decide) ?_
          intro vB wCDAB n1 b1
          have QCDAB : Hid (Nq W wCDAB s zs (some vA) (some vB) (some vC) (some vD)) := QCDA.out.mkB LT.out n1 b1
          clear n1 b1
          refine hK.out _ _ trivial (fun _ => ?_)
          clear hK K
          change wpAnyH _ _ _ _ _ _ _ (Act.put _ (some 12) _) _
          simp only [Act.put, List.setIfInBounds_toArray, List.set_cons_zero, List.set_cons_succ]
          obtain ⟨ga, gk, hga, _⟩ := (QCDAB.out.a _ rfl).shape
          obtain ⟨ha, hk', hha, _⟩ := (QCDAB.out.b _ rfl).shape
          obtain ⟨ia, ik, hia, _⟩ := (QCDAB.out.d _ rfl).shape
          rw [List.length_replicate] at hga hha
          rw [HL.out] at hia
          subst hga hha hia
          refine wpAnyH_take (i := 5) (v := .agg #[.slice ga 16 gk, .int .i64 0, .slice ha 11 hk', .bool false, .bool false, .bool false, .int .i64 0, .slice ia n ik, .slice none 0 0]) rfl (by kernel_rfl) (by kernel_rfl) (by kernel_rfl) (fun _ _ _ h => h) (Or.inl ⟨by rfl, fun w' _ => by go_simp⟩) trivial ?_
          change wpAnyH _ _ _ _ _ _ _ (Act.put _ (some 16) _) _
          simp only [Act.put, List.setIfInBounds_toArray, List.set_cons_zero, List.set_cons_succ]
          refine wpAnyH_take (i := 6) (v := .agg #[.int .i64 0, .slice ga 16 gk, .int .i64 0, .slice ha 11 hk', .bool false, .bool false, .bool false, .int .i64 0, .slice ia n ik, .slice none 0 0]) rfl (by kernel_rfl) (by kernel_rfl) (by kernel_rfl) (fun _ _ _ h => h) (Or.inl ⟨by rfl, fun w' _ => by go_simp⟩) trivial ?_
          change wpAnyH _ _ _ _ _ _ _ (Act.put _ (some 17) _) _
          simp only [Act.put, List.setIfInBounds_toArray, List.set_cons_zero, List.set_cons_succ]
          refine wpAnyH_ready (rs := [7]) (by kernel_rfl) (by simp) ?_
          refine AllReadyH.cons rfl (fun K hK => ?_) AllReadyH.nil
          rw [if_pos (by rfl)]
          refine wp_store_mid 30 (.tmp 2) (.tmp 17) rfl s 0 #[.int .i64 0, .slice ga 16 gk, .int .i64 0, .slice ha 11 hk', .bool false, .bool false, .bool false, .int .i64 0, .slice ia n ik, .slice none 0 0] rfl rfl QCDAB.out.th (by kernel_rfl) (by simp [Value.oneCell']) ?_
          change K (Act.put _ none undef) (World.setCells wCDAB s 0 [.int .i64 0, .slice ga 16 gk, .int .i64 0, .slice ha 11 hk', .bool false, .bool false, .bool false, .int .i64 0, .slice ia n ik, .slice none 0 0])
          simp only [Act.put]
          have R5 : Hid ((wCDAB.setCells s 0 [.int .i64 0, .slice ga 16 gk, .int .i64 0, .slice ha 11 hk', .bool false, .bool false, .bool false, .int .i64 0, .slice ia n ik, .slice none 0 0]).rangeAt s 0 [.int .i64 0, .slice ga 16 gk, .int .i64 0, .slice ha 11 hk', .bool false, .bool false, .bool false, .int .i64 0, .slice ia n ik, .slice none 0 0]) := World.rangeAt_setCells_same _ _ _ _ QCDAB.out.th
          have M5 : Hid (Mq (fun k => k = s) wCDAB (wCDAB.setCells s 0 [.int .i64 0, .slice ga 16 gk, .int .i64 0, .slice ha 11 hk', .bool false, .bool false, .bool false, .int .i64 0, .slice ia n ik, .slice none 0 0])) := mq_cells s _ wCDAB 0
          generalize wCDAB.setCells s 0 [.int .i64 0, .slice ga 16 gk, .int .i64 0, .slice ha 11 hk', .bool false, .bool false, .bool false, .int .i64 0, .slice ia n ik, .slice none 0 0] = w5 at *
          refine hK.out _ _ trivial (fun _ => ?_)
          clear hK K
          refine wpAnyH_done (by kernel_rfl) ?_ _
          have no : ∀ (v : Value) (ys : List Int), Nums wCDAB W.heap.size v ys → Nums w5 W.heap.size v ys := fun v ys h => M5.out.nums h fun k e f => by have := (h.lt k e).1; have := LT.out; omega
          have Q1 := no _ _ (QCDAB.out.a _ rfl)
          have Q2 := no _ _ (QCDAB.out.b _ rfl)
          have Q3 := no _ _ (QCDAB.out.d _ rfl)
          have B5 : Below w.heap.size w w5 := Mq.under B0.out (QCDAB.out.mq.trans M5.out) fun k e => by have := HS.out; omega
          have LD := run_loadVar_mid (P := Tryd.prog) w5 s 0 30 [.int .i64 0, .slice ga 16 gk, .int .i64 0, .slice ha 11 hk', .bool false, .bool false, .bool false, .int .i64 0, .slice ia n ik, .slice none 0 0] _ R5.out Tryd.underlying30 rfl (by kernel_rfl)
          go_wp2_with fail
          refine bodyPost_ret (v := .agg #[.int .i64 0, .slice ga 16 gk, .int .i64 0, .slice ha 11 hk', .bool false, .bool false, .bool false, .int .i64 0, .slice ia n ik, .slice none 0 0]) (by simp [results, Tryd.results52, asAddr]; rw [LD]) rfl ?_
          rw [HE1.out, HE2.out]
          exact ⟨_, _, _, _, rfl, ⟨Q1.mono B0.out.size, Q2.mono B0.out.size, Q3.mono B0.out.size, Nums.nil _ _⟩, B5⟩
        exact AllReadyH.nil
      refine AllReadyH.cons rfl (fun K hK => ?_) ?_
      · refine step_make rfl (.const (.int .i64 11)) (.const (.int .i64 11)) rfl 11 rfl rfl (by decide) ?_
        intro vB wCDB n1 b1
        have QCDB : Hid (Nq W wCDB s zs none (some vB) (some vC) (some vD)) := QCD.out.mkB LT.out n1 b1
        clear n1 b1
        refine hK.out _ _ trivial (fun _ => ?_)
        clear hK K
        change wpAnyH _ _ _ _ _ _ _ (Act.put _ (some 12) _) _
        simp only [Act.put, List.setIfInBounds_toArray, List.set_cons_zero, List.set_cons_succ]
        refine wpAnyH_ready (rs := [0]) (by kernel_rfl) (by simp) ?_
        refine AllReadyH.cons rfl (fun K hK => ?_) ?_
        · refine step_make rfl (.const (.int .i64 16)) (.const (.int .i64 16)) rfl 16 rfl rfl (by decide) ?_
          intro vA wCDBA n1 b1
          have QCDBA : Hid (Nq W wCDBA s zs (some vA) (some vB) (some vC) (some vD)) := QCDB.out.mkA LT.out n1 b1
          clear n1 b1
          refine hK.out _ _ trivial (fun _ => ?_)
          clear hK K
          change wpAnyH _ _ _ _ _ _ _ (Act.put _ (some 11) _) _
          simp only [Act.put, List.setIfInBounds_toArray, List.set_cons_zero, List.set_cons_succ]
          obtain ⟨ga, gk, hga, _⟩ := (QCDBA.out.a _ rfl).shape
          obtain ⟨ha, hk', hha, _⟩ := (QCDBA.out.b _ rfl).shape
          obtain ⟨ia, ik, hia, _⟩ := (QCDBA.out.d _ rfl).shape
          rw [List.length_replicate] at hga hha
          rw [HL.out] at hia
          subst hga hha hia
          refine wpAnyH_take (i := 5) (v := .agg #[.slice ga 16 gk, .int .i64 0, .slice ha 11 hk', .bool false, .bool false, .bool false, .int .i64 0, .slice ia n ik, .slice none 0 0]) rfl (by kernel_rfl) (by kernel_rfl) (by kernel_rfl) (fun _ _ _ h => h) (Or.inl ⟨by rfl, fun w' _ => by go_simp⟩) trivial ?_
          change wpAnyH _ _ _ _ _ _ _ (Act.put _ (some 16) _) _
          simp only [Act.put, List.setIfInBounds_toArray, List.set_cons_zero, List.set_cons_succ]
          refine wpAnyH_take (i := 6) (v := .agg #[.int .i64 0, .slice ga 16 gk, .int .i64 0, .slice ha 11 hk', .bool false, .bool false, .bool false, .int .i64 0, .slice ia n ik, .slice none 0 0]) rfl (by kernel_rfl) (by kernel_rfl) (by kernel_rfl) (fun _ _ _ h => h) (Or.inl ⟨by rfl, fun w' _ => by go_simp⟩) trivial ?_
          change wpAnyH _ _ _ _ _ _ _ (Act.put _ (some 17) _) _
          simp only [Act.put, List.setIfInBounds_toArray, List.set_cons_zero, List.set_cons_succ]
          refine wpAnyH_ready (rs := [7]) (by kernel_rfl) (by simp) ?_
          refine AllReadyH.cons rfl (fun K hK => ?_) AllReadyH.nil
          rw [if_pos (by rfl)]
          refine wp_store_mid 30 (.tmp 2) (.tmp 17) rfl s 0 #[.int .i64 0, .slice ga 16 gk, .int .i64 0, .slice ha 11 hk', .bool false, .bool false, .bool false, .int .i64 0, .slice ia n ik, .slice none 0 0] rfl rfl QCDBA.out.th (by kernel_rfl) (by simp [Value.oneCell']) ?_
          change K (Act.put _ none undef) (World.setCells wCDBA s 0 [.int .i64 0, .slice ga 16 gk, .int .i64 0, .slice ha 11 hk', .bool false, .bool false, .bool false, .int .i64 0, .slice ia n ik, .slice none 0 0])
          simp only [Act.put]
          have R5 : Hid ((wCDBA.setCells s 0 [.int .i64 0, .slice ga 16 gk, .int .i64 0, .slice ha 11 hk', .bool false, .bool false, .bool false, .int .i64 0, .slice ia n ik, .slice none 0 0]).rangeAt s 0 [.int .i64 0, .slice ga 16 gk, .int .i64 0, .slice ha 11 hk', .bool false, .bool false, .bool false, .int .i64 0, .slice ia n ik, .slice none 0 0]) := World.rangeAt_setCells_same _ _ _ _ QCDBA.out.th
          have M5 : Hid (Mq (fun k => k = s) wCDBA (wCDBA.setCells s 0 [.int .i64 0, .slice ga 16 gk, .int .i64 0, .slice ha 11 hk', .bool false, .bool false, .bool false, .int .i64 0, .slice ia n ik, .slice none 0 0])) := mq_cells s _ wCDBA 0
          generalize wCDBA.setCells s 0 [.int .i64 0, .slice ga 16 gk, .int .i64 0, .slice ha 11 hk', .bool false, .bool false, .bool false, .int .i64 0, .slice ia n ik, .slice none 0 0] = w5 at *
          refine hK.out _ _ trivial (fun _ => ?_)
          clear hK K
          refine wpAnyH_done (by kernel_rfl) ?_ _
          have no : ∀ (v : Value) (ys : List Int), Nums wCDBA W.heap.size v ys → Nums w5 W.heap.size v ys := fun v ys h => M5.out.nums h fun k e f => by have := (h.lt k e).1; have := LT.out; omega
          have Q1 := no _ _ (QCDBA.out.a _ rfl)
          have Q2 := no _ _ (QCDBA.out.b _ rfl)
          have Q3 := no _ _ (QCDBA.out.d _ rfl)
          have B5 : Below w.heap.size w w5 := Mq.under B0.out (QCDBA.out.mq.trans M5.out) fun k e => by have := HS.out; omega
          have LD := run_loadVar_mid (P := Tryd.prog) w5 s 0 30 [.int .i64 0, .slice ga 16 gk, .int .i64 0, .slice ha 11 hk', .bool false, .bool false, .bool false, .int .i64 0, .slice ia n ik, .slice none 0 0] _ R5.out Tryd.underlying30 rfl (by kernel_rfl)
          go_wp2_with fail
          refine bodyPost_ret (v := .agg #[.int .i64 0, .slice ga 16 gk, .int .i64 0, .slice ha 11 hk', .bool false, .bool false, .bool false, .int .i64 0, .slice ia n ik, .slice none 0 0]) (by simp [results, Tryd.results52, asAddr]; rw [LD]) rfl ?_
          rw [HE1.out, HE2.out]
          exact ⟨_, _, _, _, rfl, ⟨Q1.mono B0.out.size, Q2.mono B0.out.size, Q3.mono B0.out.size, Nums.nil _ _⟩, B5⟩
        exact AllReadyH.nil
      exact AllReadyH.nil
    exact AllReadyH.nil
  exact AllReadyH.nil
end Go.Proofs.YtaajaikpkcgalaaDoor
