/- Two views compared, by the model. -/
import Derived.Test.YtldfcojmcdpdgaaVsv
import Derived.Test.YtldfcojmcdpdgaaLxh
import Derived.Test.YtldfcojmcdpdgaaVs1
import Derived.Test.YtldfcojmcdpdgaaVs2
import Derived.Test.YtldfcojmcdpdgaaVs3
import Derived.Test.YtldfcojmcdpdgaaVs4
import Derived.Test.YtldfcojmcdpdgaaVs5
import Derived.Test.YtldfcojmcdpdgaaVs6
import Derived.Test.YtldfcojmcdpdgaaVs7
import Derived.Test.YtldfcojmcdpdgaaVs8
namespace Go.Proofs.Ytldfcojmcdpdgaa
open Go.RowKit
set_option linter.unusedVariables false

set_option maxRecDepth 20000 in
set_option maxHeartbeats 8000000 in
theorem s_harts (q q' b b' : Nat) (r c i o l m r' c' i' o' l' m' : Value) (H K : Ht) (ps zs qs ys : List Int) (w : World) (h : Vx w q b r c i o l m H ps zs) (k : Vx w q' b' r' c' i' o' l' m' K qs ys) (lh : Lg H) (lk : Lg K) :
    Calls Try.prog 20 #[.pointer (some ⟨q, 0, none⟩), .pointer (some ⟨q', 0, none⟩)] w fun e w' => e = .returned (.bool (hartB H K)) ∧ Below w.heap.size w w' := by
  have HX : Hid (Vx w q b r c i o l m H ps zs ∧ Vx w q' b' r' c' i' o' l' m' K qs ys) := ⟨h, k⟩
  have HL : Hid (Lg H ∧ Lg K) := ⟨lh, lk⟩
  obtain ⟨ha0, hk0, he0, _⟩ := h.h.r.shape
  obtain ⟨ha1, hk1, he1, _⟩ := h.h.c.shape
  obtain ⟨ha2, hk2, he2, _⟩ := h.h.i.shape
  obtain ⟨ha3, hk3, he3, _⟩ := h.h.o.shape
  obtain ⟨ha4, hk4, he4, _⟩ := h.pl.shape
  obtain ⟨ha5, hk5, he5, _⟩ := h.mm.shape
  obtain ⟨ka0, kk0, ke0, _⟩ := k.h.r.shape
  obtain ⟨ka1, kk1, ke1, _⟩ := k.h.c.shape
  obtain ⟨ka2, kk2, ke2, _⟩ := k.h.i.shape
  obtain ⟨ka3, kk3, ke3, _⟩ := k.h.o.shape
  obtain ⟨ka4, kk4, ke4, _⟩ := k.pl.shape
  obtain ⟨ka5, kk5, ke5, _⟩ := k.mm.shape
  clear h k lh lk
  subst he0 he1 he2 he3 he4 he5 ke0 ke1 ke2 ke3 ke4 ke5
  generalize H.regs.length = n0 at HX
  generalize H.csr.length = n1 at HX
  generalize H.inn.length = n2 at HX
  generalize H.out.length = n3 at HX
  generalize ps.length = n4 at HX
  generalize zs.length = n5 at HX
  generalize K.regs.length = o0 at HX
  generalize K.csr.length = o1 at HX
  generalize K.inn.length = o2 at HX
  generalize K.out.length = o3 at HX
  generalize qs.length = o4 at HX
  generalize ys.length = o5 at HX
  have C0 : Hid (∀ p : World, Below w.heap.size w p → Calls Try.prog 21 #[.slice ha0 n0 hk0, .slice ka0 o0 kk0] p fun e w' => e = .returned (.bool (decide (H.regs = K.regs))) ∧ Below p.heap.size p w') := fun p hb =>
    s_same13 _ _ _ _ _ _ p (HX.out.1.h.r.keep hb) (HX.out.2.h.r.keep hb) HL.out.1.1 HL.out.2.1
  obtain ⟨V, hV⟩ : ∃ V, hartB H K = V := ⟨_, rfl⟩
  rw [hV]
  have HV : Hid (hartB H K = V) := hV
  clear hV
  obtain ⟨c0, hc0⟩ : ∃ c0, decide (H.regs = K.regs) = c0 := ⟨_, rfl⟩
  rw [hc0] at C0
  have HC0 : Hid (decide (H.regs = K.regs) = c0) := hc0
  clear hc0
  go_enter Try.func20, Try.ntmps20
  go_upto_region 1 with fail
  refine region_cl (fun w' => Below w.heap.size w w') LxhLex (Below.refl _ _).drew ?_
  refine qTake (.pointer (some ⟨q, 0, none⟩)) (by rfl) (fun w' hs => by go_simp) ?_
  change wpQuiet _ _ _ _ _ (Act.put _ (some 5) _)
  simp only [Act.put, List.setIfInBounds_toArray, List.set_cons_zero, List.set_cons_succ]
  refine qTake (.pointer (some ⟨q, 0, none⟩)) (by rfl) (fun w' hs => by go_simp) ?_
  change wpQuiet _ _ _ _ _ (Act.put _ (some 6) _)
  simp only [Act.put, List.setIfInBounds_toArray, List.set_cons_zero, List.set_cons_succ]
  refine qTake (.pointer (some ⟨q, 0, none⟩)) (by rfl) (fun w' hs => by go_simp) ?_
  change wpQuiet _ _ _ _ _ (Act.put _ (some 7) _)
  simp only [Act.put, List.setIfInBounds_toArray, List.set_cons_zero, List.set_cons_succ]
  refine qTake (.slice ha0 n0 hk0) (by rfl) (fun w' hs => by have y := (HX.out.1.keep hs).v.cell 0 rfl; go_simp) ?_
  change wpQuiet _ _ _ _ _ (Act.put _ (some 8) _)
  simp only [Act.put, List.setIfInBounds_toArray, List.set_cons_zero, List.set_cons_succ]
  refine qTake (.pointer (some ⟨q', 0, none⟩)) (by rfl) (fun w' hs => by go_simp) ?_
  change wpQuiet _ _ _ _ _ (Act.put _ (some 9) _)
  simp only [Act.put, List.setIfInBounds_toArray, List.set_cons_zero, List.set_cons_succ]
  refine qTake (.pointer (some ⟨q', 0, none⟩)) (by rfl) (fun w' hs => by go_simp) ?_
  change wpQuiet _ _ _ _ _ (Act.put _ (some 10) _)
  simp only [Act.put, List.setIfInBounds_toArray, List.set_cons_zero, List.set_cons_succ]
  refine qTake (.pointer (some ⟨q', 0, none⟩)) (by rfl) (fun w' hs => by go_simp) ?_
  change wpQuiet _ _ _ _ _ (Act.put _ (some 11) _)
  simp only [Act.put, List.setIfInBounds_toArray, List.set_cons_zero, List.set_cons_succ]
  refine qTake (.slice ka0 o0 kk0) (by rfl) (fun w' hs => by have y := (HX.out.2.keep hs).v.cell 0 rfl; go_simp) ?_
  change wpQuiet _ _ _ _ _ (Act.put _ (some 12) _)
  simp only [Act.put, List.setIfInBounds_toArray, List.set_cons_zero, List.set_cons_succ]
  refine qCall (.bool c0) 21 #[.slice ha0 n0 hk0, .slice ka0 o0 kk0] (by rfl) (fun w' hs => by go_simp) (fun w' hs => (C0.out w' hs).mono fun _ _ ⟨he, hb⟩ => ⟨he, on hs hb⟩) ?_
  change wpQuiet _ _ _ _ _ (Act.put _ (some 13) _)
  simp only [Act.put, List.setIfInBounds_toArray, List.set_cons_zero, List.set_cons_succ]
  refine qTake (.bool c0) (by rfl) (fun w' hs => by go_simp) ?_
  change wpQuiet _ _ _ _ _ (Act.put _ (some 14) _)
  simp only [Act.put, List.setIfInBounds_toArray, List.set_cons_zero, List.set_cons_succ]
  refine stage1 _ _ ⟨rfl, rfl, rfl, rfl, rfl, rfl⟩ (HX.out.1.v.cell 1 rfl) (HX.out.2.v.cell 1 rfl) rfl (fun A1 a1 => ?_)
  refine stage2 _ _ _ _ _ _ _ _ _ _ a1 (HX.out.1.v.cell 2 rfl) (HX.out.2.v.cell 2 rfl) HX.out.1.h.c HX.out.2.h.c HL.out.1.2.1 HL.out.2.2.1 rfl (fun A2 a2 => ?_)
  refine stage3 _ _ a2 (HX.out.1.v.cell 3 rfl) (HX.out.2.v.cell 3 rfl) rfl (fun A3 a3 => ?_)
  refine stage4 _ _ a3 (HX.out.1.v.cell 4 rfl) (HX.out.2.v.cell 4 rfl) rfl (fun A4 a4 => ?_)
  refine stage5 _ _ a4 (HX.out.1.v.cell 5 rfl) (HX.out.2.v.cell 5 rfl) rfl (fun A5 a5 => ?_)
  refine stage6 _ _ a5 (HX.out.1.v.cell 6 rfl) (HX.out.2.v.cell 6 rfl) rfl (fun A6 a6 => ?_)
  refine stage7 _ _ _ _ _ _ _ _ _ _ a6 (HX.out.1.v.cell 7 rfl) (HX.out.2.v.cell 7 rfl) HX.out.1.h.i HX.out.2.h.i HL.out.1.2.2.1 HL.out.2.2.2.1 rfl (fun A7 a7 => ?_)
  refine stage8 _ _ _ _ _ _ _ _ _ _ a7 (HX.out.1.v.cell 8 rfl) (HX.out.2.v.cell 8 rfl) HX.out.1.h.o HX.out.2.h.o HL.out.1.2.2.2 HL.out.2.2.2.2 (fun A8 sz8 df8 ev8 => ?_)
  refine qTake (.bool V) (by simp [Region.wanted]) (fun w' hs => by
    have e := ev8
    rw [show (c0 && decide (H.pc = K.pc) && decide (H.csr = K.csr) && (H.halted == K.halted) && (H.waiting == K.waiting) && (H.rung == K.rung) && decide (H.done = K.done) && decide (H.inn = K.inn) && decide (H.out = K.out)) = V by rw [← HV.out, ← HC0.out]; rfl] at e
    generalize A8.eval = ρ at e ⊢
    go_simp) ?_
  refine wpQuiet_nil ?_
  intro w9 h9
  have B9 : Hid (Below w.heap.size w w9) := h9
  clear h9
  have e4 : (A8.put (some 4) (.bool V)).eval (.tmp 4) = .bool V := ev_same _ _ _ (by rw [sz8]; decide)
  have d4 : (A8.put (some 4) (.bool V)).defers = [] := df8
  change Exit.then _ _ _ (A8.put (some 4) (.bool V)) _
  generalize A8.put (some 4) (.bool V) = Z at *
  have e5 : Z.tmps[4]?.getD undef = .bool V := by simpa [Act.eval] using e4
  go_wp2_with fail
  exact bodyPost_ret (v := .bool V) (by simp [results, Try.results20, go_sem, e5]) d4 ⟨rfl, B9.out⟩
set_option maxRecDepth 20000 in
set_option maxHeartbeats 8000000 in
theorem s_sameViews (r c i o l m r' c' i' o' l' m' : Value) (H K : Ht) (ps zs qs ys : List Int) (b b' : Nat) (w : World) (h : Vm w b r c i o l m H ps zs) (k : Vm w b' r' c' i' o' l' m' K qs ys) (lh : Lg H) (lk : Lg K) (lp : ps.length ≤ 1048576 ∧ zs.length ≤ 1048576 ∧ qs.length ≤ 1048576 ∧ ys.length ≤ 1048576) :
    Calls Try.prog 6 #[.agg #[r, .int .i64 H.pc, c, .bool H.halted, .bool H.waiting, .bool H.rung, .int .i64 H.done, i, o, l, m], .agg #[r', .int .i64 K.pc, c', .bool K.halted, .bool K.waiting, .bool K.rung, .int .i64 K.done, i', o', l', m']] w fun e w' => e = .returned (.bool (samB H K ps qs zs ys)) ∧ Below w.heap.size w w' := by
  have HV0 : Hid (Vm w b r c i o l m H ps zs ∧ Vm w b' r' c' i' o' l' m' K qs ys) := ⟨h, k⟩
  have HL : Hid (Lg H ∧ Lg K) := ⟨lh, lk⟩
  have HP : Hid (ps.length ≤ 1048576 ∧ zs.length ≤ 1048576 ∧ qs.length ≤ 1048576 ∧ ys.length ≤ 1048576) := lp
  obtain ⟨ha0, hk0, he0, _⟩ := h.h.r.shape
  obtain ⟨ha1, hk1, he1, _⟩ := h.h.c.shape
  obtain ⟨ha2, hk2, he2, _⟩ := h.h.i.shape
  obtain ⟨ha3, hk3, he3, _⟩ := h.h.o.shape
  obtain ⟨ha4, hk4, he4, _⟩ := h.pl.shape
  obtain ⟨ha5, hk5, he5, _⟩ := h.mm.shape
  obtain ⟨ka0, kk0, ke0, _⟩ := k.h.r.shape
  obtain ⟨ka1, kk1, ke1, _⟩ := k.h.c.shape
  obtain ⟨ka2, kk2, ke2, _⟩ := k.h.i.shape
  obtain ⟨ka3, kk3, ke3, _⟩ := k.h.o.shape
  obtain ⟨ka4, kk4, ke4, _⟩ := k.pl.shape
  obtain ⟨ka5, kk5, ke5, _⟩ := k.mm.shape
  clear h k lh lk lp
  subst he0 he1 he2 he3 he4 he5 ke0 ke1 ke2 ke3 ke4 ke5
  generalize H.regs.length = n0 at HV0
  generalize H.csr.length = n1 at HV0
  generalize H.inn.length = n2 at HV0
  generalize H.out.length = n3 at HV0
  obtain ⟨n4, hn4⟩ : ∃ n, ps.length = n := ⟨_, rfl⟩
  rw [hn4] at HV0 ⊢
  clear hn4
  obtain ⟨n5, hn5⟩ : ∃ n, zs.length = n := ⟨_, rfl⟩
  rw [hn5] at HV0 ⊢
  clear hn5
  generalize K.regs.length = o0 at HV0
  generalize K.csr.length = o1 at HV0
  generalize K.inn.length = o2 at HV0
  generalize K.out.length = o3 at HV0
  obtain ⟨o4, ho4⟩ : ∃ n, qs.length = n := ⟨_, rfl⟩
  rw [ho4] at HV0 ⊢
  clear ho4
  obtain ⟨o5, ho5⟩ : ∃ n, ys.length = n := ⟨_, rfl⟩
  rw [ho5] at HV0 ⊢
  clear ho5
  obtain ⟨V, hV⟩ : ∃ V, samB H K ps qs zs ys = V := ⟨_, rfl⟩
  rw [hV]
  have HV : Hid (samB H K ps qs zs ys = V) := hV
  clear hV
  generalize hW : (w.alloc (.cells #[.slice ha0 n0 hk0, .int .i64 H.pc, .slice ha1 n1 hk1, .bool H.halted, .bool H.waiting, .bool H.rung, .int .i64 H.done, .slice ha2 n2 hk2, .slice ha3 n3 hk3, .slice ha4 n4 hk4, .slice ha5 n5 hk5] 31)).alloc (.cells #[.slice ka0 o0 kk0, .int .i64 K.pc, .slice ka1 o1 kk1, .bool K.halted, .bool K.waiting, .bool K.rung, .int .i64 K.done, .slice ka2 o2 kk2, .slice ka3 o3 kk3, .slice ka4 o4 kk4, .slice ka5 o5 kk5] 31) = W
  have B0 : Hid (Below w.heap.size w W) := by show Below _ _ _; rw [← hW]; exact al (al (Below.refl _ _) _) _
  obtain ⟨s, hS⟩ : ∃ s, w.heap.size = s := ⟨_, rfl⟩
  have z1 : s + 1 = (w.alloc (.cells #[.slice ha0 n0 hk0, .int .i64 H.pc, .slice ha1 n1 hk1, .bool H.halted, .bool H.waiting, .bool H.rung, .int .i64 H.done, .slice ha2 n2 hk2, .slice ha3 n3 hk3, .slice ha4 n4 hk4, .slice ha5 n5 hk5] 31)).heap.size := by rw [← hS]; simp
  have HX : Hid (Vx W s b (.slice ha0 n0 hk0) (.slice ha1 n1 hk1) (.slice ha2 n2 hk2) (.slice ha3 n3 hk3) (.slice ha4 n4 hk4) (.slice ha5 n5 hk5) H ps zs ∧ Vx W (s + 1) b' (.slice ka0 o0 kk0) (.slice ka1 o1 kk1) (.slice ka2 o2 kk2) (.slice ka3 o3 kk3) (.slice ka4 o4 kk4) (.slice ka5 o5 kk5) K qs ys) :=
    ⟨⟨by rw [← hW, ← hS]; exact (Vb.new _ _ _).push _, HV0.out.1.h.keep B0.out, HV0.out.1.pl.keep B0.out, HV0.out.1.mm.keep B0.out⟩, ⟨by rw [← hW, z1]; exact Vb.new _ _ _, HV0.out.2.h.keep B0.out, HV0.out.2.pl.keep B0.out, HV0.out.2.mm.keep B0.out⟩⟩
  clear z1
  cases h0 : hartB H K
  case false =>
    have ev : false = V := by rw [← HV.out, samB]; simp only [h0]; rfl
    subst ev
    clear HV
    have CH : Hid (∀ p : World, Below W.heap.size W p → Calls Try.prog 20 #[.pointer (some ⟨s, 0, none⟩), .pointer (some ⟨s + 1, 0, none⟩)] p fun e w' => e = .returned (.bool false) ∧ Below p.heap.size p w') := fun p hb => by
      have t := s_harts s (s + 1) b b' _ _ _ _ _ _ _ _ _ _ _ _ H K ps zs qs ys p (HX.out.1.keep hb) (HX.out.2.keep hb) HL.out.1 HL.out.2
      rw [h0] at t
      exact t
    go_enter Try.func6, Try.ntmps6
    go_wp2_with fail
    clear hW hS
    refine (CH.out W (Below.refl _ _)).mono ?_
    rintro e w1 ⟨rfl, b1⟩
    have B1 : Hid (Below W.heap.size W w1) := b1
    clear b1
    have q9 := (HX.out.1.keep B1.out).v.cell 9 rfl
    have p9 := (HX.out.2.keep B1.out).v.cell 9 rfl
    go_wp2_with fail
    go_ret
    exact ⟨rfl, on B0.out B1.out⟩
  cases h1 : decide (ps = qs)
  case false =>
    have ev : false = V := by rw [← HV.out, samB]; simp only [h0, h1]; rfl
    subst ev
    clear HV
    have CH : Hid (∀ p : World, Below W.heap.size W p → Calls Try.prog 20 #[.pointer (some ⟨s, 0, none⟩), .pointer (some ⟨s + 1, 0, none⟩)] p fun e w' => e = .returned (.bool true) ∧ Below p.heap.size p w') := fun p hb => by
      have t := s_harts s (s + 1) b b' _ _ _ _ _ _ _ _ _ _ _ _ H K ps zs qs ys p (HX.out.1.keep hb) (HX.out.2.keep hb) HL.out.1 HL.out.2
      rw [h0] at t
      exact t
    have CO : Hid (∀ p : World, Below W.heap.size W p → Calls Try.prog 21 #[.slice ha4 n4 hk4, .slice ka4 o4 kk4] p fun e w' => e = .returned (.bool false) ∧ Below p.heap.size p w') := fun p hb => by
      have t := s_same13 _ _ _ _ _ _ p (HX.out.1.pl.keep hb) (HX.out.2.pl.keep hb) HP.out.1 HP.out.2.2.1
      rw [h1] at t
      exact t
    go_enter Try.func6, Try.ntmps6
    go_wp2_with fail
    clear hW hS
    refine (CH.out W (Below.refl _ _)).mono ?_
    rintro e w1 ⟨rfl, b1⟩
    have B1 : Hid (Below W.heap.size W w1) := b1
    clear b1
    have q9 := (HX.out.1.keep B1.out).v.cell 9 rfl
    have p9 := (HX.out.2.keep B1.out).v.cell 9 rfl
    go_wp2_with fail
    clear q9 p9
    refine (CO.out w1 B1.out).mono ?_
    rintro e w2 ⟨rfl, b1⟩
    have B2 : Hid (Below W.heap.size W w2) := on B1.out b1
    clear b1
    have q10 := (HX.out.1.keep B2.out).v.cell 10 rfl
    have p10 := (HX.out.2.keep B2.out).v.cell 10 rfl
    go_wp2_with fail
    go_ret
    exact ⟨rfl, on B0.out B2.out⟩
  cases h2 : decide (zs = ys)
  case false =>
    have ev : false = V := by rw [← HV.out, samB]; simp only [h0, h1, h2]; rfl
    subst ev
    clear HV
    have CH : Hid (∀ p : World, Below W.heap.size W p → Calls Try.prog 20 #[.pointer (some ⟨s, 0, none⟩), .pointer (some ⟨s + 1, 0, none⟩)] p fun e w' => e = .returned (.bool true) ∧ Below p.heap.size p w') := fun p hb => by
      have t := s_harts s (s + 1) b b' _ _ _ _ _ _ _ _ _ _ _ _ H K ps zs qs ys p (HX.out.1.keep hb) (HX.out.2.keep hb) HL.out.1 HL.out.2
      rw [h0] at t
      exact t
    have CO : Hid (∀ p : World, Below W.heap.size W p → Calls Try.prog 21 #[.slice ha4 n4 hk4, .slice ka4 o4 kk4] p fun e w' => e = .returned (.bool true) ∧ Below p.heap.size p w') := fun p hb => by
      have t := s_same13 _ _ _ _ _ _ p (HX.out.1.pl.keep hb) (HX.out.2.pl.keep hb) HP.out.1 HP.out.2.2.1
      rw [h1] at t
      exact t
    have CG : Hid (∀ p : World, Below W.heap.size W p → Calls Try.prog 21 #[.slice ha5 n5 hk5, .slice ka5 o5 kk5] p fun e w' => e = .returned (.bool false) ∧ Below p.heap.size p w') := fun p hb => by
      have t := s_same13 _ _ _ _ _ _ p (HX.out.1.mm.keep hb) (HX.out.2.mm.keep hb) HP.out.2.1 HP.out.2.2.2
      rw [h2] at t
      exact t
    go_enter Try.func6, Try.ntmps6
    go_wp2_with fail
    clear hW hS
    refine (CH.out W (Below.refl _ _)).mono ?_
    rintro e w1 ⟨rfl, b1⟩
    have B1 : Hid (Below W.heap.size W w1) := b1
    clear b1
    have q9 := (HX.out.1.keep B1.out).v.cell 9 rfl
    have p9 := (HX.out.2.keep B1.out).v.cell 9 rfl
    go_wp2_with fail
    clear q9 p9
    refine (CO.out w1 B1.out).mono ?_
    rintro e w2 ⟨rfl, b1⟩
    have B2 : Hid (Below W.heap.size W w2) := on B1.out b1
    clear b1
    have q10 := (HX.out.1.keep B2.out).v.cell 10 rfl
    have p10 := (HX.out.2.keep B2.out).v.cell 10 rfl
    go_wp2_with fail
    clear q10 p10
    refine (CG.out w2 B2.out).mono ?_
    rintro e w3 ⟨rfl, b1⟩
    have B3 : Hid (Below W.heap.size W w3) := on B2.out b1
    clear b1
    go_wp2_with fail
    go_ret
    exact ⟨rfl, on B0.out B3.out⟩
  · have ev : true = V := by rw [← HV.out, samB]; simp only [h0, h1, h2]; rfl
    subst ev
    clear HV
    have CH : Hid (∀ p : World, Below W.heap.size W p → Calls Try.prog 20 #[.pointer (some ⟨s, 0, none⟩), .pointer (some ⟨s + 1, 0, none⟩)] p fun e w' => e = .returned (.bool true) ∧ Below p.heap.size p w') := fun p hb => by
      have t := s_harts s (s + 1) b b' _ _ _ _ _ _ _ _ _ _ _ _ H K ps zs qs ys p (HX.out.1.keep hb) (HX.out.2.keep hb) HL.out.1 HL.out.2
      rw [h0] at t
      exact t
    have CO : Hid (∀ p : World, Below W.heap.size W p → Calls Try.prog 21 #[.slice ha4 n4 hk4, .slice ka4 o4 kk4] p fun e w' => e = .returned (.bool true) ∧ Below p.heap.size p w') := fun p hb => by
      have t := s_same13 _ _ _ _ _ _ p (HX.out.1.pl.keep hb) (HX.out.2.pl.keep hb) HP.out.1 HP.out.2.2.1
      rw [h1] at t
      exact t
    have CG : Hid (∀ p : World, Below W.heap.size W p → Calls Try.prog 21 #[.slice ha5 n5 hk5, .slice ka5 o5 kk5] p fun e w' => e = .returned (.bool true) ∧ Below p.heap.size p w') := fun p hb => by
      have t := s_same13 _ _ _ _ _ _ p (HX.out.1.mm.keep hb) (HX.out.2.mm.keep hb) HP.out.2.1 HP.out.2.2.2
      rw [h2] at t
      exact t
    go_enter Try.func6, Try.ntmps6
    go_wp2_with fail
    clear hW hS
    refine (CH.out W (Below.refl _ _)).mono ?_
    rintro e w1 ⟨rfl, b1⟩
    have B1 : Hid (Below W.heap.size W w1) := b1
    clear b1
    have q9 := (HX.out.1.keep B1.out).v.cell 9 rfl
    have p9 := (HX.out.2.keep B1.out).v.cell 9 rfl
    go_wp2_with fail
    clear q9 p9
    refine (CO.out w1 B1.out).mono ?_
    rintro e w2 ⟨rfl, b1⟩
    have B2 : Hid (Below W.heap.size W w2) := on B1.out b1
    clear b1
    have q10 := (HX.out.1.keep B2.out).v.cell 10 rfl
    have p10 := (HX.out.2.keep B2.out).v.cell 10 rfl
    go_wp2_with fail
    clear q10 p10
    refine (CG.out w2 B2.out).mono ?_
    rintro e w3 ⟨rfl, b1⟩
    have B3 : Hid (Below W.heap.size W w3) := on B2.out b1
    clear b1
    go_wp2_with fail
    go_ret
    exact ⟨rfl, on B0.out B3.out⟩
end Go.Proofs.Ytldfcojmcdpdgaa
