/- Two views compared, by the program: the whole. -/
import Derived.Test.YtldfcojmcdpdgaaVsa
import Derived.Test.YtldfcojmcdpdgaaQtk
import Derived.Laws.ByValue
namespace Go.Proofs.Ytldfcojmcdpdgaa
open Go.RowKit
set_option linter.unusedVariables false

set_option maxRecDepth 20000 in
set_option maxHeartbeats 8000000 in
theorem i_sameBy (r c i o l m r' c' i' o' l' m' : Value) (H K : Ht) (ps zs qs ys : List Int) (b b' : Nat) (w : World) (h : Vm w b r c i o l m H ps zs) (k : Vm w b' r' c' i' o' l' m' K qs ys) (lh : Lg H) (lk : Lg K) (lp : ps.length ≤ 1048576 ∧ zs.length ≤ 1048576 ∧ qs.length ≤ 1048576 ∧ ys.length ≤ 1048576) :
    Calls Try.prog 23 #[.agg #[r, .int .i64 H.pc, c, .bool H.halted, .bool H.waiting, .bool H.rung, .int .i64 H.done, i, o, l, m], .agg #[r', .int .i64 K.pc, c', .bool K.halted, .bool K.waiting, .bool K.rung, .int .i64 K.done, i', o', l', m'], .func (.func 24) #[] #[], .func (.func 25) #[] #[]] w fun e w' => e = .returned (.bool (samB H K ps qs zs ys)) ∧ Below w.heap.size w w' := by
  have HV0 : Hid (Vm w b r c i o l m H ps zs ∧ Vm w b' r' c' i' o' l' m' K qs ys) := ⟨h, k⟩
  have HL : Hid (Lg H ∧ Lg K) := ⟨lh, lk⟩
  have HP : Hid (ps.length ≤ 1048576 ∧ zs.length ≤ 1048576 ∧ qs.length ≤ 1048576 ∧ ys.length ≤ 1048576) := lp
  obtain ⟨ha0, hk0, he0, _⟩ := h.h.r.shape
  obtain ⟨ha1, hk1, he1, _⟩ := h.h.c.shape
  obtain ⟨ha2, hk2, he2, _⟩ := h.h.i.shape
  obtain ⟨ha3, hk3, he3, _⟩ := h.h.o.shape
  obtain ⟨ha4, hk4, he4, _⟩ := h.pl.shape
  obtain ⟨ha5, hk5, he5, _⟩ := h.mm.shape
  obtain ⟨ka0, kk0, ke0, _⟩ := k.h.r.shape
  obtain ⟨ka1, kk1, ke1, _⟩ := k.h.c.shape
  obtain ⟨ka2, kk2, ke2, _⟩ := k.h.i.shape
  obtain ⟨ka3, kk3, ke3, _⟩ := k.h.o.shape
  obtain ⟨ka4, kk4, ke4, _⟩ := k.pl.shape
  obtain ⟨ka5, kk5, ke5, _⟩ := k.mm.shape
  clear h k lh lk lp
  subst he0 he1 he2 he3 he4 he5 ke0 ke1 ke2 ke3 ke4 ke5
  generalize H.regs.length = n0 at HV0
  generalize H.csr.length = n1 at HV0
  generalize H.inn.length = n2 at HV0
  generalize H.out.length = n3 at HV0
  obtain ⟨n4, hn4⟩ : ∃ n, ps.length = n := ⟨_, rfl⟩
  rw [hn4] at HV0 ⊢
  clear hn4
  obtain ⟨n5, hn5⟩ : ∃ n, zs.length = n := ⟨_, rfl⟩
  rw [hn5] at HV0 ⊢
  clear hn5
  generalize K.regs.length = o0 at HV0
  generalize K.csr.length = o1 at HV0
  generalize K.inn.length = o2 at HV0
  generalize K.out.length = o3 at HV0
  obtain ⟨o4, ho4⟩ : ∃ n, qs.length = n := ⟨_, rfl⟩
  rw [ho4] at HV0 ⊢
  clear ho4
  obtain ⟨o5, ho5⟩ : ∃ n, ys.length = n := ⟨_, rfl⟩
  rw [ho5] at HV0 ⊢
  clear ho5
  obtain ⟨V, hV⟩ : ∃ V, samB H K ps qs zs ys = V := ⟨_, rfl⟩
  rw [hV]
  have HV : Hid (samB H K ps qs zs ys = V) := hV
  clear hV
  generalize hW : (w.alloc (.cells #[.slice ha0 n0 hk0, .int .i64 H.pc, .slice ha1 n1 hk1, .bool H.halted, .bool H.waiting, .bool H.rung, .int .i64 H.done, .slice ha2 n2 hk2, .slice ha3 n3 hk3, .slice ha4 n4 hk4, .slice ha5 n5 hk5] 31)).alloc (.cells #[.slice ka0 o0 kk0, .int .i64 K.pc, .slice ka1 o1 kk1, .bool K.halted, .bool K.waiting, .bool K.rung, .int .i64 K.done, .slice ka2 o2 kk2, .slice ka3 o3 kk3, .slice ka4 o4 kk4, .slice ka5 o5 kk5] 31) = W
  have B0 : Hid (Below w.heap.size w W) := by show Below _ _ _; rw [← hW]; exact al (al (Below.refl _ _) _) _
  obtain ⟨s, hS⟩ : ∃ s, w.heap.size = s := ⟨_, rfl⟩
  have z1 : s + 1 = (w.alloc (.cells #[.slice ha0 n0 hk0, .int .i64 H.pc, .slice ha1 n1 hk1, .bool H.halted, .bool H.waiting, .bool H.rung, .int .i64 H.done, .slice ha2 n2 hk2, .slice ha3 n3 hk3, .slice ha4 n4 hk4, .slice ha5 n5 hk5] 31)).heap.size := by rw [← hS]; simp
  have HX : Hid (Vx W s b (.slice ha0 n0 hk0) (.slice ha1 n1 hk1) (.slice ha2 n2 hk2) (.slice ha3 n3 hk3) (.slice ha4 n4 hk4) (.slice ha5 n5 hk5) H ps zs ∧ Vx W (s + 1) b' (.slice ka0 o0 kk0) (.slice ka1 o1 kk1) (.slice ka2 o2 kk2) (.slice ka3 o3 kk3) (.slice ka4 o4 kk4) (.slice ka5 o5 kk5) K qs ys) :=
    ⟨⟨by rw [← hW, ← hS]; exact (Vb.new _ _ _).push _, HV0.out.1.h.keep B0.out, HV0.out.1.pl.keep B0.out, HV0.out.1.mm.keep B0.out⟩, ⟨by rw [← hW, z1]; exact Vb.new _ _ _, HV0.out.2.h.keep B0.out, HV0.out.2.pl.keep B0.out, HV0.out.2.mm.keep B0.out⟩⟩
  clear z1
  have LS : Hid (samB H K ps qs zs ys = ((decide (H.pc = K.pc) && (H.halted == K.halted) && (H.waiting == K.waiting) && (H.rung == K.rung) && decide (H.done = K.done)) && (decide (H.regs = K.regs) && decide (H.csr = K.csr) && decide (H.inn = K.inn) && decide (H.out = K.out) && decide (ps = qs) && decide (zs = ys)))) := by
    show _ = _
    unfold samB hartB
    cases decide (H.regs = K.regs) <;> cases decide (H.pc = K.pc) <;> cases decide (H.csr = K.csr) <;> cases (H.halted == K.halted) <;> cases (H.waiting == K.waiting) <;> cases (H.rung == K.rung) <;> cases decide (H.done = K.done) <;> cases decide (H.inn = K.inn) <;> cases decide (H.out = K.out) <;> simp
  have CA : Hid (∀ p : World, Below W.heap.size W p → Calls Try.prog 24 #[.agg #[.slice ha0 n0 hk0, .int .i64 H.pc, .slice ha1 n1 hk1, .bool H.halted, .bool H.waiting, .bool H.rung, .int .i64 H.done, .slice ha2 n2 hk2, .slice ha3 n3 hk3, .slice ha4 n4 hk4, .slice ha5 n5 hk5]] p fun e w' => e = .returned (.agg #[.int .i64 H.pc, .bool H.halted, .bool H.waiting, .bool H.rung, .int .i64 H.done]) ∧ Below W.heap.size W w') := fun p hb => (i_plainOf _ _ _ _ _ _ _ _ _ _ _ _ _ _ _ _ _ _ H p).mono fun _ _ ⟨he, h2⟩ => ⟨he, on hb h2⟩
  have CB : Hid (∀ p : World, Below W.heap.size W p → Calls Try.prog 24 #[.agg #[.slice ka0 o0 kk0, .int .i64 K.pc, .slice ka1 o1 kk1, .bool K.halted, .bool K.waiting, .bool K.rung, .int .i64 K.done, .slice ka2 o2 kk2, .slice ka3 o3 kk3, .slice ka4 o4 kk4, .slice ka5 o5 kk5]] p fun e w' => e = .returned (.agg #[.int .i64 K.pc, .bool K.halted, .bool K.waiting, .bool K.rung, .int .i64 K.done]) ∧ Below W.heap.size W w') := fun p hb => (i_plainOf _ _ _ _ _ _ _ _ _ _ _ _ _ _ _ _ _ _ K p).mono fun _ _ ⟨he, h2⟩ => ⟨he, on hb h2⟩
  obtain ⟨P0, hP0⟩ : ∃ P0, (decide (H.pc = K.pc) && (H.halted == K.halted) && (H.waiting == K.waiting) && (H.rung == K.rung) && decide (H.done = K.done)) = P0 := ⟨_, rfl⟩
  have HP0 : Hid ((decide (H.pc = K.pc) && (H.halted == K.halted) && (H.waiting == K.waiting) && (H.rung == K.rung) && decide (H.done = K.done)) = P0) := hP0
  have NE : ∀ w', (binOp .neq 48 (.agg #[.int .i64 H.pc, .bool H.halted, .bool H.waiting, .bool H.rung, .int .i64 H.done]) (.agg #[.int .i64 K.pc, .bool K.halted, .bool K.waiting, .bool K.rung, .int .i64 K.done])).run Try.prog w' = .ok (.bool (!P0)) w' := fun w' => by rw [neq_plain, hP0]
  clear hP0
  go_enter Try.func23, Try.ntmps23
  go_upto_region 1 with fail
  clear hW hS
  refine region_cl (fun w' => Below W.heap.size W w') (by kernel_rfl) (Below.refl _ _).drew ?_
  refine qTake (.func (.func 24) #[] #[]) (by rfl) (fun w' hs => by go_simp) ?_
  change wpQuiet _ _ _ _ _ (Act.put _ (some 12) _)
  simp only [Act.put, List.setIfInBounds_toArray, List.set_cons_zero, List.set_cons_succ]
  refine qTake (.agg #[.slice ha0 n0 hk0, .int .i64 H.pc, .slice ha1 n1 hk1, .bool H.halted, .bool H.waiting, .bool H.rung, .int .i64 H.done, .slice ha2 n2 hk2, .slice ha3 n3 hk3, .slice ha4 n4 hk4, .slice ha5 n5 hk5]) (by rfl) (fun w' hs => by have y0 := (HX.out.1.keep hs).v.cell 0 rfl; have y1 := (HX.out.1.keep hs).v.cell 1 rfl; have y2 := (HX.out.1.keep hs).v.cell 2 rfl; have y3 := (HX.out.1.keep hs).v.cell 3 rfl; have y4 := (HX.out.1.keep hs).v.cell 4 rfl; have y5 := (HX.out.1.keep hs).v.cell 5 rfl; have y6 := (HX.out.1.keep hs).v.cell 6 rfl; have y7 := (HX.out.1.keep hs).v.cell 7 rfl; have y8 := (HX.out.1.keep hs).v.cell 8 rfl; have y9 := (HX.out.1.keep hs).v.cell 9 rfl; have y10 := (HX.out.1.keep hs).v.cell 10 rfl; go_simp) ?_
  change wpQuiet _ _ _ _ _ (Act.put _ (some 13) _)
  simp only [Act.put, List.setIfInBounds_toArray, List.set_cons_zero, List.set_cons_succ]
  refine qCall (.agg #[.int .i64 H.pc, .bool H.halted, .bool H.waiting, .bool H.rung, .int .i64 H.done]) 24 #[.agg #[.slice ha0 n0 hk0, .int .i64 H.pc, .slice ha1 n1 hk1, .bool H.halted, .bool H.waiting, .bool H.rung, .int .i64 H.done, .slice ha2 n2 hk2, .slice ha3 n3 hk3, .slice ha4 n4 hk4, .slice ha5 n5 hk5]] (by rfl) (fun w' hs => by go_simp) (fun w' hs => CA.out w' hs) ?_
  change wpQuiet _ _ _ _ _ (Act.put _ (some 14) _)
  simp only [Act.put, List.setIfInBounds_toArray, List.set_cons_zero, List.set_cons_succ]
  refine qTake (.func (.func 24) #[] #[]) (by rfl) (fun w' hs => by go_simp) ?_
  change wpQuiet _ _ _ _ _ (Act.put _ (some 15) _)
  simp only [Act.put, List.setIfInBounds_toArray, List.set_cons_zero, List.set_cons_succ]
  refine qTake (.agg #[.slice ka0 o0 kk0, .int .i64 K.pc, .slice ka1 o1 kk1, .bool K.halted, .bool K.waiting, .bool K.rung, .int .i64 K.done, .slice ka2 o2 kk2, .slice ka3 o3 kk3, .slice ka4 o4 kk4, .slice ka5 o5 kk5]) (by rfl) (fun w' hs => by have y0 := (HX.out.2.keep hs).v.cell 0 rfl; have y1 := (HX.out.2.keep hs).v.cell 1 rfl; have y2 := (HX.out.2.keep hs).v.cell 2 rfl; have y3 := (HX.out.2.keep hs).v.cell 3 rfl; have y4 := (HX.out.2.keep hs).v.cell 4 rfl; have y5 := (HX.out.2.keep hs).v.cell 5 rfl; have y6 := (HX.out.2.keep hs).v.cell 6 rfl; have y7 := (HX.out.2.keep hs).v.cell 7 rfl; have y8 := (HX.out.2.keep hs).v.cell 8 rfl; have y9 := (HX.out.2.keep hs).v.cell 9 rfl; have y10 := (HX.out.2.keep hs).v.cell 10 rfl; go_simp) ?_
  change wpQuiet _ _ _ _ _ (Act.put _ (some 16) _)
  simp only [Act.put, List.setIfInBounds_toArray, List.set_cons_zero, List.set_cons_succ]
  refine qCall (.agg #[.int .i64 K.pc, .bool K.halted, .bool K.waiting, .bool K.rung, .int .i64 K.done]) 24 #[.agg #[.slice ka0 o0 kk0, .int .i64 K.pc, .slice ka1 o1 kk1, .bool K.halted, .bool K.waiting, .bool K.rung, .int .i64 K.done, .slice ka2 o2 kk2, .slice ka3 o3 kk3, .slice ka4 o4 kk4, .slice ka5 o5 kk5]] (by rfl) (fun w' hs => by go_simp) (fun w' hs => CB.out w' hs) ?_
  change wpQuiet _ _ _ _ _ (Act.put _ (some 17) _)
  simp only [Act.put, List.setIfInBounds_toArray, List.set_cons_zero, List.set_cons_succ]
  refine qTake (.bool (!P0)) (by rfl) (fun w' hs => by simp [go_sem, NE]) ?_
  change wpQuiet _ _ _ _ _ (Act.put _ (some 18) _)
  simp only [Act.put, List.setIfInBounds_toArray, List.set_cons_zero, List.set_cons_succ]
  refine wpQuiet_nil ?_
  intro w1 h1
  have B1 : Hid (Below W.heap.size W w1) := h1
  clear h1 CA CB NE
  cases P0
  · have ev : false = V := by rw [← HV.out, LS.out, HP0.out]; rfl
    subst ev
    clear HV LS HP0
    go_wp2_with fail
    go_ret
    exact ⟨rfl, on B0.out B1.out⟩
  have LV : Hid ((decide (H.regs = K.regs) && decide (H.csr = K.csr) && decide (H.inn = K.inn) && decide (H.out = K.out) && decide (ps = qs) && decide (zs = ys)) = V) := by show _ = _; rw [← HV.out, LS.out, HP0.out]; rfl
  clear HV LS HP0
  have y0 := (HX.out.2.keep B1.out).v.cell 0 rfl
  have y1 := (HX.out.2.keep B1.out).v.cell 1 rfl
  have y2 := (HX.out.2.keep B1.out).v.cell 2 rfl
  have y3 := (HX.out.2.keep B1.out).v.cell 3 rfl
  have y4 := (HX.out.2.keep B1.out).v.cell 4 rfl
  have y5 := (HX.out.2.keep B1.out).v.cell 5 rfl
  have y6 := (HX.out.2.keep B1.out).v.cell 6 rfl
  have y7 := (HX.out.2.keep B1.out).v.cell 7 rfl
  have y8 := (HX.out.2.keep B1.out).v.cell 8 rfl
  have y9 := (HX.out.2.keep B1.out).v.cell 9 rfl
  have y10 := (HX.out.2.keep B1.out).v.cell 10 rfl
  go_wp2_with fail
  clear y0 y1 y2 y3 y4 y5 y6 y7 y8 y9 y10
  refine (i_listsIn _ _ _ _ _ _ _ _ _ _ _ _ _ _ _ _ _ _ K w1).mono ?_
  rintro e w2 ⟨g1, rfl, v1, b2⟩
  have V1 : Hid (Vb w2 g1 #[.slice ka0 o0 kk0, .slice ka1 o1 kk1, .slice ka2 o2 kk2, .slice ka3 o3 kk3, .slice ka4 o4 kk4, .slice ka5 o5 kk5] 22) := v1
  have B2 : Hid (Below W.heap.size W w2) := on B1.out b2
  clear v1 b2
  have y0 := (HX.out.1.keep B2.out).v.cell 0 rfl
  have y1 := (HX.out.1.keep B2.out).v.cell 1 rfl
  have y2 := (HX.out.1.keep B2.out).v.cell 2 rfl
  have y3 := (HX.out.1.keep B2.out).v.cell 3 rfl
  have y4 := (HX.out.1.keep B2.out).v.cell 4 rfl
  have y5 := (HX.out.1.keep B2.out).v.cell 5 rfl
  have y6 := (HX.out.1.keep B2.out).v.cell 6 rfl
  have y7 := (HX.out.1.keep B2.out).v.cell 7 rfl
  have y8 := (HX.out.1.keep B2.out).v.cell 8 rfl
  have y9 := (HX.out.1.keep B2.out).v.cell 9 rfl
  have y10 := (HX.out.1.keep B2.out).v.cell 10 rfl
  go_wp2_with fail
  clear y0 y1 y2 y3 y4 y5 y6 y7 y8 y9 y10
  refine (i_listsIn _ _ _ _ _ _ _ _ _ _ _ _ _ _ _ _ _ _ H w2).mono ?_
  rintro e w3 ⟨g2, rfl, v2, b3⟩
  have V2 : Hid (Vb w3 g2 #[.slice ha0 n0 hk0, .slice ha1 n1 hk1, .slice ha2 n2 hk2, .slice ha3 n3 hk3, .slice ha4 n4 hk4, .slice ha5 n5 hk5] 22 ∧ Vb w3 g1 #[.slice ka0 o0 kk0, .slice ka1 o1 kk1, .slice ka2 o2 kk2, .slice ka3 o3 kk3, .slice ka4 o4 kk4, .slice ka5 o5 kk5] 22) := ⟨v2, V1.out.keep b3⟩
  have B3 : Hid (Below W.heap.size W w3) := on B2.out b3
  clear v2 b3 V1 B2 B1
  go_wp2_with fail
  go_loopw [10, 11, 26] (fun _ _ c wr => ∃ j : Nat, j ≤ 6 ∧ c = .int .i64 j ∧ Hid ((0 < j → H.regs = K.regs) ∧ (1 < j → H.csr = K.csr) ∧ (2 < j → H.inn = K.inn) ∧ (3 < j → H.out = K.out) ∧ (4 < j → ps = qs) ∧ (5 < j → zs = ys)) ∧ Below w3.heap.size w3 wr) (fun _ _ c _ => 6 - (intOf c).toNat)
  case atStart => exact ⟨0, by omega, rfl, ⟨fun h => by omega, fun h => by omega, fun h => by omega, fun h => by omega, fun h => by omega, fun h => by omega⟩, Below.refl _ _⟩
  case round =>
    obtain ⟨j, hj, rfl, hE, hB⟩ := hrel
    have HB : Hid (Below w3.heap.size w3 wr) := hB
    have HBW : Hid (Below W.heap.size W wr) := on B3.out hB
    clear hB
    by_cases j0 : j = 0
    · subst j0
      have ca := (V2.out.1.keep HB.out).cell 0 rfl
      have cb := (V2.out.2.keep HB.out).cell 0 rfl
      have EQ := i_equal _ _ H.regs K.regs _ _ wr (HX.out.1.h.r.keep HBW.out) (HX.out.2.h.r.keep HBW.out) HL.out.1.1 HL.out.2.1
      by_cases he : H.regs = K.regs
      · rw [decide_eq_true he] at EQ
        have N2 : Hid ((0 < 0 + 1 → H.regs = K.regs) ∧ (1 < 0 + 1 → H.csr = K.csr) ∧ (2 < 0 + 1 → H.inn = K.inn) ∧ (3 < 0 + 1 → H.out = K.out) ∧ (4 < 0 + 1 → ps = qs) ∧ (5 < 0 + 1 → zs = ys)) := ⟨fun _ => he, fun h => by omega, fun h => by omega, fun h => by omega, fun h => by omega, fun h => by omega⟩
        clear he hE
        go_wp2_with fail
        refine EQ.mono ?_
        rintro e w4 ⟨rfl, b4⟩
        go_wp2_with fail
        go_roundw
        case rel => exact ⟨1, by omega, by go_num, N2, on HB.out b4⟩
        case measure => simp [intOf]
      · rw [decide_eq_false he] at EQ
        have ev : false = V := by rw [← LV.out, decide_eq_false he]; simp
        subst ev
        clear he hE LV
        go_wp2_with fail
        refine EQ.mono ?_
        rintro e w4 ⟨rfl, b4⟩
        go_wp2_with fail
        go_ret
        exact ⟨rfl, on B0.out (on HBW.out b4)⟩
    by_cases j1 : j = 1
    · subst j1
      have ca := (V2.out.1.keep HB.out).cell 1 rfl
      have cb := (V2.out.2.keep HB.out).cell 1 rfl
      have EQ := i_equal _ _ H.csr K.csr _ _ wr (HX.out.1.h.c.keep HBW.out) (HX.out.2.h.c.keep HBW.out) HL.out.1.2.1 HL.out.2.2.1
      by_cases he : H.csr = K.csr
      · rw [decide_eq_true he] at EQ
        have N2 : Hid ((0 < 1 + 1 → H.regs = K.regs) ∧ (1 < 1 + 1 → H.csr = K.csr) ∧ (2 < 1 + 1 → H.inn = K.inn) ∧ (3 < 1 + 1 → H.out = K.out) ∧ (4 < 1 + 1 → ps = qs) ∧ (5 < 1 + 1 → zs = ys)) := ⟨fun _ => hE.out.1 (by omega), fun _ => he, fun h => by omega, fun h => by omega, fun h => by omega, fun h => by omega⟩
        clear he hE
        go_wp2_with fail
        refine EQ.mono ?_
        rintro e w4 ⟨rfl, b4⟩
        go_wp2_with fail
        go_roundw
        case rel => exact ⟨2, by omega, by go_num, N2, on HB.out b4⟩
        case measure => simp [intOf]
      · rw [decide_eq_false he] at EQ
        have ev : false = V := by rw [← LV.out, decide_eq_false he]; simp
        subst ev
        clear he hE LV
        go_wp2_with fail
        refine EQ.mono ?_
        rintro e w4 ⟨rfl, b4⟩
        go_wp2_with fail
        go_ret
        exact ⟨rfl, on B0.out (on HBW.out b4)⟩
    by_cases j2 : j = 2
    · subst j2
      have ca := (V2.out.1.keep HB.out).cell 2 rfl
      have cb := (V2.out.2.keep HB.out).cell 2 rfl
      have EQ := i_equal _ _ H.inn K.inn _ _ wr (HX.out.1.h.i.keep HBW.out) (HX.out.2.h.i.keep HBW.out) HL.out.1.2.2.1 HL.out.2.2.2.1
      by_cases he : H.inn = K.inn
      · rw [decide_eq_true he] at EQ
        have N2 : Hid ((0 < 2 + 1 → H.regs = K.regs) ∧ (1 < 2 + 1 → H.csr = K.csr) ∧ (2 < 2 + 1 → H.inn = K.inn) ∧ (3 < 2 + 1 → H.out = K.out) ∧ (4 < 2 + 1 → ps = qs) ∧ (5 < 2 + 1 → zs = ys)) := ⟨fun _ => hE.out.1 (by omega), fun _ => hE.out.2.1 (by omega), fun _ => he, fun h => by omega, fun h => by omega, fun h => by omega⟩
        clear he hE
        go_wp2_with fail
        refine EQ.mono ?_
        rintro e w4 ⟨rfl, b4⟩
        go_wp2_with fail
        go_roundw
        case rel => exact ⟨3, by omega, by go_num, N2, on HB.out b4⟩
        case measure => simp [intOf]
      · rw [decide_eq_false he] at EQ
        have ev : false = V := by rw [← LV.out, decide_eq_false he]; simp
        subst ev
        clear he hE LV
        go_wp2_with fail
        refine EQ.mono ?_
        rintro e w4 ⟨rfl, b4⟩
        go_wp2_with fail
        go_ret
        exact ⟨rfl, on B0.out (on HBW.out b4)⟩
    by_cases j3 : j = 3
    · subst j3
      have ca := (V2.out.1.keep HB.out).cell 3 rfl
      have cb := (V2.out.2.keep HB.out).cell 3 rfl
      have EQ := i_equal _ _ H.out K.out _ _ wr (HX.out.1.h.o.keep HBW.out) (HX.out.2.h.o.keep HBW.out) HL.out.1.2.2.2 HL.out.2.2.2.2
      by_cases he : H.out = K.out
      · rw [decide_eq_true he] at EQ
        have N2 : Hid ((0 < 3 + 1 → H.regs = K.regs) ∧ (1 < 3 + 1 → H.csr = K.csr) ∧ (2 < 3 + 1 → H.inn = K.inn) ∧ (3 < 3 + 1 → H.out = K.out) ∧ (4 < 3 + 1 → ps = qs) ∧ (5 < 3 + 1 → zs = ys)) := ⟨fun _ => hE.out.1 (by omega), fun _ => hE.out.2.1 (by omega), fun _ => hE.out.2.2.1 (by omega), fun _ => he, fun h => by omega, fun h => by omega⟩
        clear he hE
        go_wp2_with fail
        refine EQ.mono ?_
        rintro e w4 ⟨rfl, b4⟩
        go_wp2_with fail
        go_roundw
        case rel => exact ⟨4, by omega, by go_num, N2, on HB.out b4⟩
        case measure => simp [intOf]
      · rw [decide_eq_false he] at EQ
        have ev : false = V := by rw [← LV.out, decide_eq_false he]; simp
        subst ev
        clear he hE LV
        go_wp2_with fail
        refine EQ.mono ?_
        rintro e w4 ⟨rfl, b4⟩
        go_wp2_with fail
        go_ret
        exact ⟨rfl, on B0.out (on HBW.out b4)⟩
    by_cases j4 : j = 4
    · subst j4
      have ca := (V2.out.1.keep HB.out).cell 4 rfl
      have cb := (V2.out.2.keep HB.out).cell 4 rfl
      have EQ := i_equal _ _ ps qs _ _ wr (HX.out.1.pl.keep HBW.out) (HX.out.2.pl.keep HBW.out) HP.out.1 HP.out.2.2.1
      by_cases he : ps = qs
      · rw [decide_eq_true he] at EQ
        have N2 : Hid ((0 < 4 + 1 → H.regs = K.regs) ∧ (1 < 4 + 1 → H.csr = K.csr) ∧ (2 < 4 + 1 → H.inn = K.inn) ∧ (3 < 4 + 1 → H.out = K.out) ∧ (4 < 4 + 1 → ps = qs) ∧ (5 < 4 + 1 → zs = ys)) := ⟨fun _ => hE.out.1 (by omega), fun _ => hE.out.2.1 (by omega), fun _ => hE.out.2.2.1 (by omega), fun _ => hE.out.2.2.2.1 (by omega), fun _ => he, fun h => by omega⟩
        clear he hE
        go_wp2_with fail
        refine EQ.mono ?_
        rintro e w4 ⟨rfl, b4⟩
        go_wp2_with fail
        go_roundw
        case rel => exact ⟨5, by omega, by go_num, N2, on HB.out b4⟩
        case measure => simp [intOf]
      · rw [decide_eq_false he] at EQ
        have ev : false = V := by rw [← LV.out, decide_eq_false he]; simp
        subst ev
        clear he hE LV
        go_wp2_with fail
        refine EQ.mono ?_
        rintro e w4 ⟨rfl, b4⟩
        go_wp2_with fail
        go_ret
        exact ⟨rfl, on B0.out (on HBW.out b4)⟩
    by_cases j5 : j = 5
    · subst j5
      have ca := (V2.out.1.keep HB.out).cell 5 rfl
      have cb := (V2.out.2.keep HB.out).cell 5 rfl
      have EQ := i_equal _ _ zs ys _ _ wr (HX.out.1.mm.keep HBW.out) (HX.out.2.mm.keep HBW.out) HP.out.2.1 HP.out.2.2.2
      by_cases he : zs = ys
      · rw [decide_eq_true he] at EQ
        have N2 : Hid ((0 < 5 + 1 → H.regs = K.regs) ∧ (1 < 5 + 1 → H.csr = K.csr) ∧ (2 < 5 + 1 → H.inn = K.inn) ∧ (3 < 5 + 1 → H.out = K.out) ∧ (4 < 5 + 1 → ps = qs) ∧ (5 < 5 + 1 → zs = ys)) := ⟨fun _ => hE.out.1 (by omega), fun _ => hE.out.2.1 (by omega), fun _ => hE.out.2.2.1 (by omega), fun _ => hE.out.2.2.2.1 (by omega), fun _ => hE.out.2.2.2.2.1 (by omega), fun _ => he⟩
        clear he hE
        go_wp2_with fail
        refine EQ.mono ?_
        rintro e w4 ⟨rfl, b4⟩
        go_wp2_with fail
        go_roundw
        case rel => exact ⟨6, by omega, by go_num, N2, on HB.out b4⟩
        case measure => simp [intOf]
      · rw [decide_eq_false he] at EQ
        have ev : false = V := by rw [← LV.out, decide_eq_false he]; simp
        subst ev
        clear he hE LV
        go_wp2_with fail
        refine EQ.mono ?_
        rintro e w4 ⟨rfl, b4⟩
        go_wp2_with fail
        go_ret
        exact ⟨rfl, on B0.out (on HBW.out b4)⟩
    obtain rfl : j = 6 := by omega
    have ev : true = V := by rw [← LV.out, decide_eq_true (hE.out.1 (by omega)), decide_eq_true (hE.out.2.1 (by omega)), decide_eq_true (hE.out.2.2.1 (by omega)), decide_eq_true (hE.out.2.2.2.1 (by omega)), decide_eq_true (hE.out.2.2.2.2.1 (by omega)), decide_eq_true (hE.out.2.2.2.2.2 (by omega))]; rfl
    subst ev
    clear LV hE j0 j1 j2 j3 j4 j5
    go_wp2_with fail
    go_ret
    exact ⟨rfl, on B0.out HBW.out⟩
set_option maxRecDepth 20000 in
set_option maxHeartbeats 8000000 in
theorem i_sameViews (r c i o l m r' c' i' o' l' m' : Value) (H K : Ht) (ps zs qs ys : List Int) (b b' : Nat) (w : World) (h : Vm w b r c i o l m H ps zs) (k : Vm w b' r' c' i' o' l' m' K qs ys) (lh : Lg H) (lk : Lg K) (lp : ps.length ≤ 1048576 ∧ zs.length ≤ 1048576 ∧ qs.length ≤ 1048576 ∧ ys.length ≤ 1048576) :
    Calls Try.prog 8 #[.agg #[r, .int .i64 H.pc, c, .bool H.halted, .bool H.waiting, .bool H.rung, .int .i64 H.done, i, o, l, m], .agg #[r', .int .i64 K.pc, c', .bool K.halted, .bool K.waiting, .bool K.rung, .int .i64 K.done, i', o', l', m']] w fun e w' => e = .returned (.bool (samB H K ps qs zs ys)) ∧ Below w.heap.size w w' := by
  have HV0 : Hid (Vm w b r c i o l m H ps zs ∧ Vm w b' r' c' i' o' l' m' K qs ys) := ⟨h, k⟩
  have HL : Hid (Lg H ∧ Lg K) := ⟨lh, lk⟩
  have HP : Hid (ps.length ≤ 1048576 ∧ zs.length ≤ 1048576 ∧ qs.length ≤ 1048576 ∧ ys.length ≤ 1048576) := lp
  obtain ⟨ha0, hk0, he0, _⟩ := h.h.r.shape
  obtain ⟨ha1, hk1, he1, _⟩ := h.h.c.shape
  obtain ⟨ha2, hk2, he2, _⟩ := h.h.i.shape
  obtain ⟨ha3, hk3, he3, _⟩ := h.h.o.shape
  obtain ⟨ha4, hk4, he4, _⟩ := h.pl.shape
  obtain ⟨ha5, hk5, he5, _⟩ := h.mm.shape
  obtain ⟨ka0, kk0, ke0, _⟩ := k.h.r.shape
  obtain ⟨ka1, kk1, ke1, _⟩ := k.h.c.shape
  obtain ⟨ka2, kk2, ke2, _⟩ := k.h.i.shape
  obtain ⟨ka3, kk3, ke3, _⟩ := k.h.o.shape
  obtain ⟨ka4, kk4, ke4, _⟩ := k.pl.shape
  obtain ⟨ka5, kk5, ke5, _⟩ := k.mm.shape
  clear h k lh lk lp
  subst he0 he1 he2 he3 he4 he5 ke0 ke1 ke2 ke3 ke4 ke5
  generalize H.regs.length = n0 at HV0
  generalize H.csr.length = n1 at HV0
  generalize H.inn.length = n2 at HV0
  generalize H.out.length = n3 at HV0
  obtain ⟨n4, hn4⟩ : ∃ n, ps.length = n := ⟨_, rfl⟩
  rw [hn4] at HV0 ⊢
  clear hn4
  obtain ⟨n5, hn5⟩ : ∃ n, zs.length = n := ⟨_, rfl⟩
  rw [hn5] at HV0 ⊢
  clear hn5
  generalize K.regs.length = o0 at HV0
  generalize K.csr.length = o1 at HV0
  generalize K.inn.length = o2 at HV0
  generalize K.out.length = o3 at HV0
  obtain ⟨o4, ho4⟩ : ∃ n, qs.length = n := ⟨_, rfl⟩
  rw [ho4] at HV0 ⊢
  clear ho4
  obtain ⟨o5, ho5⟩ : ∃ n, ys.length = n := ⟨_, rfl⟩
  rw [ho5] at HV0 ⊢
  clear ho5
  obtain ⟨V, hV⟩ : ∃ V, samB H K ps qs zs ys = V := ⟨_, rfl⟩
  rw [hV]
  have HV : Hid (samB H K ps qs zs ys = V) := hV
  clear hV
  generalize hW : (w.alloc (.cells #[.slice ha0 n0 hk0, .int .i64 H.pc, .slice ha1 n1 hk1, .bool H.halted, .bool H.waiting, .bool H.rung, .int .i64 H.done, .slice ha2 n2 hk2, .slice ha3 n3 hk3, .slice ha4 n4 hk4, .slice ha5 n5 hk5] 31)).alloc (.cells #[.slice ka0 o0 kk0, .int .i64 K.pc, .slice ka1 o1 kk1, .bool K.halted, .bool K.waiting, .bool K.rung, .int .i64 K.done, .slice ka2 o2 kk2, .slice ka3 o3 kk3, .slice ka4 o4 kk4, .slice ka5 o5 kk5] 31) = W
  have B0 : Hid (Below w.heap.size w W) := by show Below _ _ _; rw [← hW]; exact al (al (Below.refl _ _) _) _
  obtain ⟨s, hS⟩ : ∃ s, w.heap.size = s := ⟨_, rfl⟩
  have z1 : s + 1 = (w.alloc (.cells #[.slice ha0 n0 hk0, .int .i64 H.pc, .slice ha1 n1 hk1, .bool H.halted, .bool H.waiting, .bool H.rung, .int .i64 H.done, .slice ha2 n2 hk2, .slice ha3 n3 hk3, .slice ha4 n4 hk4, .slice ha5 n5 hk5] 31)).heap.size := by rw [← hS]; simp
  have HX : Hid (Vx W s b (.slice ha0 n0 hk0) (.slice ha1 n1 hk1) (.slice ha2 n2 hk2) (.slice ha3 n3 hk3) (.slice ha4 n4 hk4) (.slice ha5 n5 hk5) H ps zs ∧ Vx W (s + 1) b' (.slice ka0 o0 kk0) (.slice ka1 o1 kk1) (.slice ka2 o2 kk2) (.slice ka3 o3 kk3) (.slice ka4 o4 kk4) (.slice ka5 o5 kk5) K qs ys) :=
    ⟨⟨by rw [← hW, ← hS]; exact (Vb.new _ _ _).push _, HV0.out.1.h.keep B0.out, HV0.out.1.pl.keep B0.out, HV0.out.1.mm.keep B0.out⟩, ⟨by rw [← hW, z1]; exact Vb.new _ _ _, HV0.out.2.h.keep B0.out, HV0.out.2.pl.keep B0.out, HV0.out.2.mm.keep B0.out⟩⟩
  clear z1
  have SB := i_sameBy _ _ _ _ _ _ _ _ _ _ _ _ H K ps zs qs ys b b' W (h := HV0.out.1.keep B0.out) (k := HV0.out.2.keep B0.out) HL.out.1 HL.out.2 HP.out
  rw [HV.out] at SB
  have q0 := HX.out.1.v.cell 0 rfl
  have p0 := HX.out.2.v.cell 0 rfl
  have q1 := HX.out.1.v.cell 1 rfl
  have p1 := HX.out.2.v.cell 1 rfl
  have q2 := HX.out.1.v.cell 2 rfl
  have p2 := HX.out.2.v.cell 2 rfl
  have q3 := HX.out.1.v.cell 3 rfl
  have p3 := HX.out.2.v.cell 3 rfl
  have q4 := HX.out.1.v.cell 4 rfl
  have p4 := HX.out.2.v.cell 4 rfl
  have q5 := HX.out.1.v.cell 5 rfl
  have p5 := HX.out.2.v.cell 5 rfl
  have q6 := HX.out.1.v.cell 6 rfl
  have p6 := HX.out.2.v.cell 6 rfl
  have q7 := HX.out.1.v.cell 7 rfl
  have p7 := HX.out.2.v.cell 7 rfl
  have q8 := HX.out.1.v.cell 8 rfl
  have p8 := HX.out.2.v.cell 8 rfl
  have q9 := HX.out.1.v.cell 9 rfl
  have p9 := HX.out.2.v.cell 9 rfl
  have q10 := HX.out.1.v.cell 10 rfl
  have p10 := HX.out.2.v.cell 10 rfl
  go_enter Try.func8, Try.ntmps8
  go_wp2_with fail
  refine SB.mono ?_
  rintro e w2 ⟨rfl, b2⟩
  clear hW hS q0 p0 q1 p1 q2 p2 q3 p3 q4 p4 q5 p5 q6 p6 q7 p7 q8 p8 q9 p9 q10 p10
  have B2 : Hid (Below w.heap.size w w2) := on B0.out b2
  clear b2
  go_wp2_with fail
  go_ret
  exact ⟨rfl, B2.out⟩
end Go.Proofs.Ytldfcojmcdpdgaa
