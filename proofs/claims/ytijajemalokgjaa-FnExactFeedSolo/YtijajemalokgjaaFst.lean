/- FeedSolo, by the model: the words laid. -/
import Derived.Test.YtijajemalokgjaaFss
namespace Go.Proofs.Ytijajemalokgjaa
open Go.RowKit
set_option linter.unusedVariables false

theorem sm_store {w : World} {base : Nat} {r c i o l : Value} {g n k : Nat} {H : Ht} {ps : List (Int × Int)} {zs : List Int} (s : Sm w base r c i o l (.slice (some ⟨g, 0, none⟩) n k) H ps zs) (j : Nat) (x : Int) : Sm (w.setCell ⟨g, j, none⟩ (.int .i64 x)) base r c i o l (.slice (some ⟨g, 0, none⟩) n k) H ps (zs.set j x) := by
  have m : Mq (fun k => k = g) w (w.setCell ⟨g, j, none⟩ (.int .i64 x)) := (Mq.refl _ _).set _ _ rfl
  have hg : ∀ y, y = g → (Value.slice (some ⟨g, 0, none⟩) n k).ownBlock = some y := fun y e => by subst e; rfl
  refine ⟨m.hm s.h fun y e f => ?_, s.a, s.pl.low' m fun y e f => prs_ne_nums s.pl s.mm y e (hg y f), (s.mm.store j x).1, s.rm, s.cm, s.im, s.om⟩
  rcases e with e | e | e | e
  · exact apt_no s.rm e (hg y f)
  · exact apt_no s.cm e (hg y f)
  · exact apt_no s.im e (hg y f)
  · exact apt_no s.om e (hg y f)
set_option maxRecDepth 20000 in
set_option maxHeartbeats 8000000 in
theorem sfs_good (r c i o l m : Value) (H : Ht) (ps : List (Int × Int)) (zs : List Int) (p : Nat) (wa : Option Addr) (wn wc : Nat) (ws : List Int) (b : Nat) (w : World) (h : Sm w b r c i o l m H ps zs) (hl : ps.length ≤ 1048576) (hw : Rn w wa wn wc ws) (hx : sfV H ps zs = 0) (hp : p ≤ 7) (h8 : ws.length = 8) (ha : ws.all isW = true) :
    Calls Try.prog 14 #[.agg #[r, .int .i64 H.pc, c, .bool H.halted, .bool H.waiting, .bool H.rung, .int .i64 H.done, i, o, l, m], .int .i64 (p : Int), .slice wa wn wc] w fun e w' => ∃ r' c' i' o' l' m', e = .returned (.agg #[.int .i64 (fsC H ps zs (p : Int) ws), r', .int .i64 (fsH H ps zs (p : Int) ws).pc, c', .bool (fsH H ps zs (p : Int) ws).halted, .bool (fsH H ps zs (p : Int) ws).waiting, .bool (fsH H ps zs (p : Int) ws).rung, .int .i64 (fsH H ps zs (p : Int) ws).done, i', o', l', m']) ∧ Sm w' w.heap.size r' c' i' o' l' m' (fsH H ps zs (p : Int) ws) (fsP H ps zs (p : Int) ws) (fsZ H ps zs (p : Int) ws) ∧ Below w.heap.size w w' := by
  have hs : swC H ps zs (p : Int) = 0 := by rw [swC, if_pos hx, if_pos ⟨by omega, by omega⟩]
  have hc : fsC H ps zs (p : Int) ws = 0 := by rw [fsC, if_pos hs, if_pos ⟨h8, ha⟩]
  have hu := fs_yes H ps zs (p : Int) ws hc
  rw [hu.1, hu.2.1, hu.2.2, hc, Int.toNat_natCast]
  have HX : Hid (sfV H ps zs = 0) := hx
  have SO : Hid (Hok H ∧ zs.length = 64 ∧ ps.length = 8) := fs_sol H ps zs hx
  have IN : Hid ((decide ((0 : Int) ≤ (p : Int)) && decide ((p : Int) ≤ 7)) = true) := by show _ = _; simp; omega
  have AW : Hid (ws.all isW = true) := ha
  have W8 : Hid (ws.length = 8 ∧ p ≤ 7) := ⟨h8, hp⟩
  obtain rfl : wn = 8 := by have := hw.len; omega
  obtain ⟨xw, hxw, _⟩ := hw.at 0 (by decide)
  subst hxw
  have KW : Hid (∀ j, j < 8 → w.cell? (xw.add j) = some (.int .i64 (ws.getD j 0))) := fun j hj => by
    obtain ⟨y, hy, hc⟩ := hw.at j hj
    cases hy
    exact hc
  clear hu hc hs hx h8 ha hp
  obtain ⟨a0, k0, e0, _⟩ := h.h.r.shape
  obtain ⟨a1, k1, e1, _⟩ := h.h.c.shape
  obtain ⟨a2, k2, e2, _⟩ := h.h.i.shape
  obtain ⟨a3, k3, e3, _⟩ := h.h.o.shape
  obtain ⟨a4, k4, e4, _, _, g4⟩ := h.pl.shape
  obtain ⟨a5, k5, e5, _, _, g5⟩ := h.mm.shape
  subst e0 e1 e2 e3 e4 e5
  obtain ⟨n0, hn0⟩ : ∃ n, H.regs.length = n := ⟨_, rfl⟩
  obtain ⟨n1, hn1⟩ : ∃ n, H.csr.length = n := ⟨_, rfl⟩
  obtain ⟨n2, hn2⟩ : ∃ n, H.inn.length = n := ⟨_, rfl⟩
  obtain ⟨n3, hn3⟩ : ∃ n, H.out.length = n := ⟨_, rfl⟩
  obtain ⟨pgb, hpg⟩ := g4 (by have := SO.out; omega)
  obtain ⟨gm, hgm⟩ := g5 (by have := SO.out; omega)
  subst hpg hgm
  have hn4 := SO.out.2.2
  have hn5 := SO.out.2.1
  rw [hn0, hn1, hn2, hn3, hn4, hn5] at h ⊢
  have HS : Hid (Sm w b (.slice a0 n0 k0) (.slice a1 n1 k1) (.slice a2 n2 k2) (.slice a3 n3 k3) (.slice (some ⟨pgb, 0, none⟩) 8 k4) (.slice (some ⟨gm, 0, none⟩) 64 k5) H ps zs) := h
  have HL : Hid (ps.length ≤ 1048576) := hl
  have HW : Hid (Rn w (some xw) 8 wc ws) := hw
  clear h hl hw hn0 hn1 hn2 hn3 hn4 hn5 g4 g5
  generalize hW : (w.alloc (.cells #[.slice a0 n0 k0, .int .i64 H.pc, .slice a1 n1 k1, .bool H.halted, .bool H.waiting, .bool H.rung, .int .i64 H.done, .slice a2 n2 k2, .slice a3 n3 k3, .slice (some ⟨pgb, 0, none⟩) 8 k4, .slice (some ⟨gm, 0, none⟩) 64 k5] 35)).alloc (.cells #[.int .i64 0, .slice none 0 0, .int .i64 0, .slice none 0 0, .bool false, .bool false, .bool false, .int .i64 0, .slice none 0 0, .slice none 0 0, .slice none 0 0, .slice none 0 0] 43) = W
  have B0 : Hid (Below w.heap.size w W) := by show Below _ _ _; rw [← hW]; exact al (al (Below.refl _ _) _) _
  obtain ⟨s, hS⟩ : ∃ s, w.heap.size = s := ⟨_, rfl⟩
  have HSs : Hid (w.heap.size = s) := hS
  have z1 : s + 1 = (w.alloc (.cells #[.slice a0 n0 k0, .int .i64 H.pc, .slice a1 n1 k1, .bool H.halted, .bool H.waiting, .bool H.rung, .int .i64 H.done, .slice a2 n2 k2, .slice a3 n3 k3, .slice (some ⟨pgb, 0, none⟩) 8 k4, .slice (some ⟨gm, 0, none⟩) 64 k5] 35)).heap.size := by rw [← hS]; simp
  have Q : Hid (Vb W s #[.slice a0 n0 k0, .int .i64 H.pc, .slice a1 n1 k1, .bool H.halted, .bool H.waiting, .bool H.rung, .int .i64 H.done, .slice a2 n2 k2, .slice a3 n3 k3, .slice (some ⟨pgb, 0, none⟩) 8 k4, .slice (some ⟨gm, 0, none⟩) 64 k5] 35) := by show Vb _ _ _ _; rw [← hW, ← hS]; exact (Vb.new _ _ _).push _
  have R : Hid (Vb W (s + 1) #[.int .i64 0, .slice none 0 0, .int .i64 0, .slice none 0 0, .bool false, .bool false, .bool false, .int .i64 0, .slice none 0 0, .slice none 0 0, .slice none 0 0, .slice none 0 0] 43) := by show Vb _ _ _ _; rw [← hW, z1]; exact Vb.new _ _ _
  clear z1
  have q0 := Q.out.cell 0 rfl
  have q1 := Q.out.cell 1 rfl
  have q2 := Q.out.cell 2 rfl
  have q3 := Q.out.cell 3 rfl
  have q4 := Q.out.cell 4 rfl
  have q5 := Q.out.cell 5 rfl
  have q6 := Q.out.cell 6 rfl
  have q7 := Q.out.cell 7 rfl
  have q8 := Q.out.cell 8 rfl
  have q9 := Q.out.cell 9 rfl
  have q10 := Q.out.cell 10 rfl
  go_enter Try.func14, Try.ntmps14
  go_wp2_with fail
  clear hW hS q0 q1 q2 q3 q4 q5 q6 q7 q8 q9 q10
  refine (s_soloFault _ _ _ _ _ _ H ps zs _ _ (HS.out.keep B0.out) HL.out).mono ?_
  rw [HX.out]
  rintro e w1 ⟨rfl, b1⟩
  have B1 : Hid (Below w.heap.size w w1) := on B0.out b1
  have R1 : Hid (Vb w1 (s + 1) #[.int .i64 0, .slice none 0 0, .int .i64 0, .slice none 0 0, .bool false, .bool false, .bool false, .int .i64 0, .slice none 0 0, .slice none 0 0, .slice none 0 0, .slice none 0 0] 43) := R.out.keep b1
  have Q1 : Hid (Vb w1 s #[.slice a0 n0 k0, .int .i64 H.pc, .slice a1 n1 k1, .bool H.halted, .bool H.waiting, .bool H.rung, .int .i64 H.done, .slice a2 n2 k2, .slice a3 n3 k3, .slice (some ⟨pgb, 0, none⟩) 8 k4, .slice (some ⟨gm, 0, none⟩) 64 k5] 35) := Q.out.keep b1
  clear b1
  go_upto_region 8 with (first | (go_at_call 26; refine (spec_in _ _ _ _).mono ?_; rintro e y ⟨rfl, hy⟩; rw [hy]; clear hy y; rw [IN.out]) | (go_at_call 37; refine (s_words _ _ _ ws _ (HW.out.stay B1.out)).mono ?_; rintro e y ⟨rfl, hy⟩; rw [hy]; clear hy y; rw [AW.out]))
  have q0 := Q1.out.cell 0 rfl
  have q1 := Q1.out.cell 1 rfl
  have q2 := Q1.out.cell 2 rfl
  have q3 := Q1.out.cell 3 rfl
  have q4 := Q1.out.cell 4 rfl
  have q5 := Q1.out.cell 5 rfl
  have q6 := Q1.out.cell 6 rfl
  have q7 := Q1.out.cell 7 rfl
  have q8 := Q1.out.cell 8 rfl
  have q9 := Q1.out.cell 9 rfl
  have q10 := Q1.out.cell 10 rfl
  go_wp2_with fail
  clear q0 q1 q2 q3 q4 q5 q6 q7 q8 q9 q10
  refine (s_copy11 _ _ _ _ _ _ _ _ _ _ _ _ H pgb k4 ps gm k5 zs b _ (HS.out.keep B1.out) SO.out.1 SO.out.2.2 SO.out.2.1).mono ?_
  rintro e w2 ⟨x0, x1, x2, x3, q0, q1, q2, q3, lp, lq, mp, mq, rfl, sm2, b2⟩
  obtain ⟨om, hom⟩ : ∃ om, mp = some ⟨om, 0, none⟩ := by
    obtain ⟨a', cap', e, _, _, hg⟩ := sm2.mm.shape
    injection e with e1
    rw [e1]
    exact hg (by have := SO.out; omega)
  subst hom
  have OM : Hid (w1.heap.size ≤ om ∧ om < w2.heap.size) := sm2.mm.lt om rfl
  have B2 : Hid (Below w.heap.size w (w2.alloc (.cells #[.slice x0 n0 q0, .int .i64 H.pc, .slice x1 n1 q1, .bool H.halted, .bool H.waiting, .bool H.rung, .int .i64 H.done, .slice x2 n2 q2, .slice x3 n3 q3, .slice lp 8 lq, .slice (some ⟨om, 0, none⟩) 64 mq] 35))) := al (on B1.out b2) _
  have S2 : Hid (Sm (w2.alloc (.cells #[.slice x0 n0 q0, .int .i64 H.pc, .slice x1 n1 q1, .bool H.halted, .bool H.waiting, .bool H.rung, .int .i64 H.done, .slice x2 n2 q2, .slice x3 n3 q3, .slice lp 8 lq, .slice (some ⟨om, 0, none⟩) 64 mq] 35)) w1.heap.size (.slice x0 n0 q0) (.slice x1 n1 q1) (.slice x2 n2 q2) (.slice x3 n3 q3) (.slice lp 8 lq) (.slice (some ⟨om, 0, none⟩) 64 mq) H ps zs) := sm2.keep (al (Below.refl _ _) _)
  have Y2 : Hid (Vb (w2.alloc (.cells #[.slice x0 n0 q0, .int .i64 H.pc, .slice x1 n1 q1, .bool H.halted, .bool H.waiting, .bool H.rung, .int .i64 H.done, .slice x2 n2 q2, .slice x3 n3 q3, .slice lp 8 lq, .slice (some ⟨om, 0, none⟩) 64 mq] 35)) w2.heap.size #[.slice x0 n0 q0, .int .i64 H.pc, .slice x1 n1 q1, .bool H.halted, .bool H.waiting, .bool H.rung, .int .i64 H.done, .slice x2 n2 q2, .slice x3 n3 q3, .slice lp 8 lq, .slice (some ⟨om, 0, none⟩) 64 mq] 35) := Vb.new _ _ _
  have R2 : Hid (Vb (w2.alloc (.cells #[.slice x0 n0 q0, .int .i64 H.pc, .slice x1 n1 q1, .bool H.halted, .bool H.waiting, .bool H.rung, .int .i64 H.done, .slice x2 n2 q2, .slice x3 n3 q3, .slice lp 8 lq, .slice (some ⟨om, 0, none⟩) 64 mq] 35)) (s + 1) #[.int .i64 0, .slice none 0 0, .int .i64 0, .slice none 0 0, .bool false, .bool false, .bool false, .int .i64 0, .slice none 0 0, .slice none 0 0, .slice none 0 0, .slice none 0 0] 43) := (R1.out.keep b2).keep (al (Below.refl _ _) _)
  have L1 : Hid (s + 1 < w1.heap.size) := R1.out.lt
  clear sm2 b2
  go_wp2_with fail
  generalize w2.alloc (.cells #[.slice x0 n0 q0, .int .i64 H.pc, .slice x1 n1 q1, .bool H.halted, .bool H.waiting, .bool H.rung, .int .i64 H.done, .slice x2 n2 q2, .slice x3 n3 q3, .slice lp 8 lq, .slice (some ⟨om, 0, none⟩) 64 mq] 35) = W2 at *
  generalize w2.heap.size = qo at *
  go_loopw [9] (fun i wr => ∃ j : Nat, j ≤ 8 ∧ i = .int .i64 j ∧ Mq (fun k => k = om) W2 wr ∧ Sm wr w1.heap.size (.slice x0 n0 q0) (.slice x1 n1 q1) (.slice x2 n2 q2) (.slice x3 n3 q3) (.slice lp 8 lq) (.slice (some ⟨om, 0, none⟩) 64 mq) H ps (fzL zs p ws j)) (fun i _ => 8 - (intOf i).toNat)
  case atStart => exact ⟨0, Nat.zero_le _, rfl, Mq.refl _ _, by rw [fz_zero]; exact S2.out⟩
  case round =>
    obtain ⟨j, hj, rfl, hM, hSm⟩ := hrel
    have M0 : Hid (Mq (fun k => k = om) W2 wr) := hM
    have S0 : Hid (Sm wr w1.heap.size (.slice x0 n0 q0) (.slice x1 n1 q1) (.slice x2 n2 q2) (.slice x3 n3 q3) (.slice lp 8 lq) (.slice (some ⟨om, 0, none⟩) 64 mq) H ps (fzL zs p ws j)) := hSm
    have Bw : Hid (Below w.heap.size w wr) := Mq.under B2.out hM fun k e => by have := OM.out; have := L1.out; have := HSs.out; omega
    have Yw : Hid (Vb wr qo #[.slice x0 n0 q0, .int .i64 H.pc, .slice x1 n1 q1, .bool H.halted, .bool H.waiting, .bool H.rung, .int .i64 H.done, .slice x2 n2 q2, .slice x3 n3 q3, .slice lp 8 lq, .slice (some ⟨om, 0, none⟩) 64 mq] 35) := hM.vb Y2.out fun e => by have := OM.out; omega
    have Rw : Hid (Vb wr (s + 1) #[.int .i64 0, .slice none 0 0, .int .i64 0, .slice none 0 0, .bool false, .bool false, .bool false, .int .i64 0, .slice none 0 0, .slice none 0 0, .slice none 0 0, .slice none 0 0] 43) := hM.vb R2.out fun e => by have := OM.out; have := L1.out; omega
    clear hM hSm
    by_cases hlt : j < 8
    · have HL8 : Hid (j < 8) := hlt
      have hI : (j : Int) < 8 := by omega
      clear hlt hj
      obtain ⟨z, hz⟩ : ∃ z, ws.getD j 0 = z := ⟨_, rfl⟩
      have HZ : Hid (ws.getD j 0 = z) := hz
      have KZ : Hid (w.cell? (xw.add j) = some (.int .i64 z)) := by show _ = _; rw [← hz]; exact KW.out j HL8.out
      clear hz
      go_upto_region 12 with fail
      refine wp_region_held (S := fun w' => Mq (fun k => k = om) wr w') (by kernel_rfl) ?_
      change wpAnyH _ _ _ _ _ _ _ _ (World.drew _)
      have SD : Hid (Mq (fun k => k = om) wr wr.drew) := ⟨rfl, rfl, rfl, Nat.le_refl _, fun _ _ _ => rfl⟩
      have SS : Hid (Sm wr.drew w1.heap.size (.slice x0 n0 q0) (.slice x1 n1 q1) (.slice x2 n2 q2) (.slice x3 n3 q3) (.slice lp 8 lq) (.slice (some ⟨om, 0, none⟩) 64 mq) H ps (fzL zs p ws j)) := S0.out.keep (Below.refl _ _).drew
      generalize wr.drew = v0 at *
      refine wpAnyH_take (i := 0) (v := (.pointer (some ⟨qo, 10, none⟩))) rfl (by kernel_rfl) (by kernel_rfl) (by kernel_rfl) (fun _ _ _ h => h) (Or.inl ⟨by rfl, fun w' hs => by go_simp⟩) SD.out ?_
      change wpAnyH _ _ _ _ _ _ _ (Act.put _ (some 37) _) _
      simp only [Act.put, List.setIfInBounds_toArray, List.set_cons_zero, List.set_cons_succ]
      refine wpAnyH_take (i := 1) (v := (.slice (some ⟨om, 0, none⟩) 64 mq)) rfl (by kernel_rfl) (by kernel_rfl) (by kernel_rfl) (fun _ _ _ h => h) (Or.inl ⟨by rfl, fun w' hs => by have y := (hs.vb Yw.out (fun e => by have := OM.out; omega)).cell 10 rfl; go_simp⟩) SD.out ?_
      change wpAnyH _ _ _ _ _ _ _ (Act.put _ (some 38) _) _
      simp only [Act.put, List.setIfInBounds_toArray, List.set_cons_zero, List.set_cons_succ]
      refine wpAnyH_take (i := 2) (v := (.int .i64 (p : Int))) rfl (by kernel_rfl) (by kernel_rfl) (by kernel_rfl) (fun _ _ _ h => h) (Or.inl ⟨by rfl, fun w' hs => by go_simp⟩) SD.out ?_
      change wpAnyH _ _ _ _ _ _ _ (Act.put _ (some 39) _) _
      simp only [Act.put, List.setIfInBounds_toArray, List.set_cons_zero, List.set_cons_succ]
      refine wpAnyH_take (i := 3) (v := (.int .i64 ((p : Int) * 8))) rfl (by kernel_rfl) (by kernel_rfl) (by kernel_rfl) (fun _ _ _ h => h) (Or.inl ⟨by rfl, fun w' hs => by have p8 := W8.out.2; have j8 := HL8.out; go_simp; rw [IntKind.wrap_i64]; omega⟩) SD.out ?_
      change wpAnyH _ _ _ _ _ _ _ (Act.put _ (some 40) _) _
      simp only [Act.put, List.setIfInBounds_toArray, List.set_cons_zero, List.set_cons_succ]
      refine wpAnyH_take (i := 4) (v := (.int .i64 (j : Int))) rfl (by kernel_rfl) (by kernel_rfl) (by kernel_rfl) (fun _ _ _ h => h) (Or.inl ⟨by rfl, fun w' hs => by go_simp⟩) SD.out ?_
      change wpAnyH _ _ _ _ _ _ _ (Act.put _ (some 41) _) _
      simp only [Act.put, List.setIfInBounds_toArray, List.set_cons_zero, List.set_cons_succ]
      refine wpAnyH_take (i := 5) (v := (.int .i64 ((p : Int) * 8 + j))) rfl (by kernel_rfl) (by kernel_rfl) (by kernel_rfl) (fun _ _ _ h => h) (Or.inl ⟨by rfl, fun w' hs => by have p8 := W8.out.2; have j8 := HL8.out; go_simp; rw [IntKind.wrap_i64]; omega⟩) SD.out ?_
      change wpAnyH _ _ _ _ _ _ _ (Act.put _ (some 42) _) _
      simp only [Act.put, List.setIfInBounds_toArray, List.set_cons_zero, List.set_cons_succ]
      refine wpAnyH_take (i := 6) (v := (.slice (some xw) 8 wc)) rfl (by kernel_rfl) (by kernel_rfl) (by kernel_rfl) (fun _ _ _ h => h) (Or.inl ⟨by rfl, fun w' hs => by go_simp⟩) SD.out ?_
      change wpAnyH _ _ _ _ _ _ _ (Act.put _ (some 43) _) _
      simp only [Act.put, List.setIfInBounds_toArray, List.set_cons_zero, List.set_cons_succ]
      refine wpAnyH_take (i := 7) (v := (.int .i64 (j : Int))) rfl (by kernel_rfl) (by kernel_rfl) (by kernel_rfl) (fun _ _ _ h => h) (Or.inl ⟨by rfl, fun w' hs => by go_simp⟩) SD.out ?_
      change wpAnyH _ _ _ _ _ _ _ (Act.put _ (some 44) _) _
      simp only [Act.put, List.setIfInBounds_toArray, List.set_cons_zero, List.set_cons_succ]
      refine wpAnyH_take (i := 8) (v := (.pointer (some (xw.add j)))) rfl (by kernel_rfl) (by kernel_rfl) (by kernel_rfl) (fun _ _ _ h => h) (Or.inl ⟨by rfl, fun w' hs => by have y := cell_keep (Mq.under Bw.out hs fun k e => by have := OM.out; have := L1.out; have := HSs.out; omega) KZ.out; go_simp⟩) SD.out ?_
      change wpAnyH _ _ _ _ _ _ _ (Act.put _ (some 45) _) _
      simp only [Act.put, List.setIfInBounds_toArray, List.set_cons_zero, List.set_cons_succ]
      refine wpAnyH_take (i := 9) (v := (.int .i64 z)) rfl (by kernel_rfl) (by kernel_rfl) (by kernel_rfl) (fun _ _ _ h => h) (Or.inl ⟨by rfl, fun w' hs => by have y := cell_keep (Mq.under Bw.out hs fun k e => by have := OM.out; have := L1.out; have := HSs.out; omega) KZ.out; go_simp⟩) SD.out ?_
      change wpAnyH _ _ _ _ _ _ _ (Act.put _ (some 46) _) _
      simp only [Act.put, List.setIfInBounds_toArray, List.set_cons_zero, List.set_cons_succ]
      refine wpAnyH_take (i := 10) (v := (.pointer (some ⟨om, p * 8 + j, none⟩))) rfl (by kernel_rfl) (by kernel_rfl) (by kernel_rfl) (fun _ _ _ h => h) (Or.inl ⟨by rfl, fun w' hs => by have p8 := W8.out.2; have j8 := HL8.out; have u1 : (p : Int) * 8 + j < 64 := (by omega); have u2 : (0 : Int) ≤ (p : Int) * 8 + j := (by omega); have u3 : ((p : Int) * 8 + (j : Int)).toNat = p * 8 + j := (by omega); go_simp⟩) SD.out ?_
      change wpAnyH _ _ _ _ _ _ _ (Act.put _ (some 47) _) _
      simp only [Act.put, List.setIfInBounds_toArray, List.set_cons_zero, List.set_cons_succ]
      have cM := SS.out.mm.cell (by rw [fz_len zs p ws j SO.out.2.1 W8.out.2 W8.out.1 (by have := HL8.out; omega)]) (p * 8 + j) (by have := W8.out.2; have := HL8.out; omega)
      have fM := SS.out.mm.free (by rw [fz_len zs p ws j SO.out.2.1 W8.out.2 W8.out.1 (by have := HL8.out; omega)]) (p * 8 + j)
      refine wpAnyH_ready (rs := [11]) (by kernel_rfl) (by simp) ?_
      refine AllReadyH.cons rfl (fun K hK => ?_) AllReadyH.nil
      rw [if_pos (by rfl)]
      go_simp
      clear cM fM
      have S6 : Hid (Mq (fun k => k = om) wr (v0.setCell ⟨om, p * 8 + j, none⟩ (.int .i64 z))) := SD.out.set _ _ rfl
      have T6 : Hid (Sm (v0.setCell ⟨om, p * 8 + j, none⟩ (.int .i64 z)) w1.heap.size (.slice x0 n0 q0) (.slice x1 n1 q1) (.slice x2 n2 q2) (.slice x3 n3 q3) (.slice lp 8 lq) (.slice (some ⟨om, 0, none⟩) 64 mq) H ps (fzL zs p ws (j + 1))) := by
        show Sm _ _ _ _ _ _ _ _ _ _ _
        rw [fz_succ zs p ws j SO.out.2.1 W8.out.2 W8.out.1 HL8.out, HZ.out]
        exact sm_store SS.out _ _
      generalize v0.setCell ⟨om, p * 8 + j, none⟩ (.int .i64 z) = v6 at *
      refine hK.out _ _ S6.out (fun _ => ?_)
      clear hK K
      refine wpAnyH_done (by kernel_rfl) ?_ _
      go_wp2_with fail
      go_roundw
      case rel => exact ⟨j + 1, by have := HL8.out; omega, by go_num, M0.out.trans S6.out, T6.out⟩
      case measure => have := HL8.out; simp [intOf]; omega
    · have hI : ¬ (j : Int) < 8 := by omega
      obtain rfl : j = 8 := by omega
      clear hlt hj
      have y0 := Yw.out.cell 0 rfl
      have y1 := Yw.out.cell 1 rfl
      have y2 := Yw.out.cell 2 rfl
      have y3 := Yw.out.cell 3 rfl
      have y4 := Yw.out.cell 4 rfl
      have y5 := Yw.out.cell 5 rfl
      have y6 := Yw.out.cell 6 rfl
      have y7 := Yw.out.cell 7 rfl
      have y8 := Yw.out.cell 8 rfl
      have y9 := Yw.out.cell 9 rfl
      have y10 := Yw.out.cell 10 rfl
      have p0 := Rw.out.cell 0 rfl
      have f0 := Rw.out.free 0
      have p1 := Rw.out.cell 1 rfl
      have f1 := Rw.out.free 1
      have p2 := Rw.out.cell 2 rfl
      have f2 := Rw.out.free 2
      have p3 := Rw.out.cell 3 rfl
      have f3 := Rw.out.free 3
      have p4 := Rw.out.cell 4 rfl
      have f4 := Rw.out.free 4
      have p5 := Rw.out.cell 5 rfl
      have f5 := Rw.out.free 5
      have p6 := Rw.out.cell 6 rfl
      have f6 := Rw.out.free 6
      have p7 := Rw.out.cell 7 rfl
      have f7 := Rw.out.free 7
      have p8 := Rw.out.cell 8 rfl
      have f8 := Rw.out.free 8
      have p9 := Rw.out.cell 9 rfl
      have f9 := Rw.out.free 9
      have p10 := Rw.out.cell 10 rfl
      have f10 := Rw.out.free 10
      have p11 := Rw.out.cell 11 rfl
      have f11 := Rw.out.free 11
      have NN : Hid (_ ∧ _) := twelveF Rw.out (.int .i64 0) (.slice x0 n0 q0) (.int .i64 H.pc) (.slice x1 n1 q1) (.bool H.halted) (.bool H.waiting) (.bool H.rung) (.int .i64 H.done) (.slice x2 n2 q2) (.slice x3 n3 q3) (.slice lp 8 lq) (.slice (some ⟨om, 0, none⟩) 64 mq)
      go_wp2_with fail
      clear y0 y1 y2 y3 y4 y5 y6 y7 y8 y9 y10 p0 f0 p1 f1 p2 f2 p3 f3 p4 f4 p5 f5 p6 f6 p7 f7 p8 f8 p9 f9 p10 f10 p11 f11
      generalize ((((((((((((wr.setCell ⟨s + 1, 0, none⟩ (.int .i64 0)).setCell ⟨s + 1, 1, none⟩ (.slice x0 n0 q0)).setCell ⟨s + 1, 2, none⟩ (.int .i64 H.pc)).setCell ⟨s + 1, 3, none⟩ (.slice x1 n1 q1)).setCell ⟨s + 1, 4, none⟩ (.bool H.halted)).setCell ⟨s + 1, 5, none⟩ (.bool H.waiting)).setCell ⟨s + 1, 6, none⟩ (.bool H.rung)).setCell ⟨s + 1, 7, none⟩ (.int .i64 H.done)).setCell ⟨s + 1, 8, none⟩ (.slice x2 n2 q2)).setCell ⟨s + 1, 9, none⟩ (.slice x3 n3 q3)).setCell ⟨s + 1, 10, none⟩ (.slice lp 8 lq)).setCell ⟨s + 1, 11, none⟩ (.slice (some ⟨om, 0, none⟩) 64 mq)) = W9 at *
      have O9 : Ho w1.heap.size wr W9 := NN.out.2.ho fun k e => by have := L1.out; omega
      have F : Hid (Sm W9 w.heap.size (.slice x0 n0 q0) (.slice x1 n1 q1) (.slice x2 n2 q2) (.slice x3 n3 q3) (.slice lp 8 lq) (.slice (some ⟨om, 0, none⟩) 64 mq) H ps (fzL zs p ws 8)) := by
        have v := S0.out
        have z : w.heap.size ≤ w1.heap.size := B1.out.size
        exact ⟨(v.h.ho O9).mono z, v.a, (row_hoS v.pl O9).mono z, (v.mm.ho O9).mono z, v.rm, v.cm, v.im, v.om⟩
      have x0' := NN.out.1.cell 0 rfl
      have x1' := NN.out.1.cell 1 rfl
      have x2' := NN.out.1.cell 2 rfl
      have x3' := NN.out.1.cell 3 rfl
      have x4' := NN.out.1.cell 4 rfl
      have x5' := NN.out.1.cell 5 rfl
      have x6' := NN.out.1.cell 6 rfl
      have x7' := NN.out.1.cell 7 rfl
      have x8' := NN.out.1.cell 8 rfl
      have x9' := NN.out.1.cell 9 rfl
      have x10' := NN.out.1.cell 10 rfl
      have x11' := NN.out.1.cell 11 rfl
      exact bodyPost_ret (v := .agg #[.int .i64 0, .slice x0 n0 q0, .int .i64 H.pc, .slice x1 n1 q1, .bool H.halted, .bool H.waiting, .bool H.rung, .int .i64 H.done, .slice x2 n2 q2, .slice x3 n3 q3, .slice lp 8 lq, .slice (some ⟨om, 0, none⟩) 64 mq]) (by simp [results, Try.results14, go_sem, x0', x1', x2', x3', x4', x5', x6', x7', x8', x9', x10', x11']) rfl ⟨_, _, _, _, _, _, rfl, F.out, Mq.under Bw.out NN.out.2 fun k e => by have := HSs.out; omega⟩
theorem s_feedSolo (r c i o l m : Value) (H : Ht) (ps : List (Int × Int)) (zs : List Int) (pg : Int) (wa : Option Addr) (wn wc : Nat) (ws : List Int) (b : Nat) (w : World) (h : Sm w b r c i o l m H ps zs) (hl : ps.length ≤ 1048576) (hw : Rn w wa wn wc ws) :
    Calls Try.prog 14 #[.agg #[r, .int .i64 H.pc, c, .bool H.halted, .bool H.waiting, .bool H.rung, .int .i64 H.done, i, o, l, m], .int .i64 pg, .slice wa wn wc] w fun e w' => ∃ r' c' i' o' l' m', e = .returned (.agg #[.int .i64 (fsC H ps zs pg ws), r', .int .i64 (fsH H ps zs pg ws).pc, c', .bool (fsH H ps zs pg ws).halted, .bool (fsH H ps zs pg ws).waiting, .bool (fsH H ps zs pg ws).rung, .int .i64 (fsH H ps zs pg ws).done, i', o', l', m']) ∧ Sm w' w.heap.size r' c' i' o' l' m' (fsH H ps zs pg ws) (fsP H ps zs pg ws) (fsZ H ps zs pg ws) ∧ Below w.heap.size w w' := by
  by_cases hx : sfV H ps zs = 0
  · by_cases hn : 0 ≤ pg ∧ pg ≤ 7
    · by_cases h8 : ws.length = 8
      · cases ha : ws.all isW
        · exact sfs_all r c i o l m H ps zs pg wa wn wc ws b w h hl hw hx hn h8 ha
        · obtain ⟨p, rfl⟩ := Int.eq_ofNat_of_zero_le hn.1
          exact sfs_good r c i o l m H ps zs p wa wn wc ws b w h hl hw hx (by omega) h8 ha
      · exact sfs_len r c i o l m H ps zs pg wa wn wc ws b w h hl hw hx hn h8
    · exact sfs_range r c i o l m H ps zs pg wa wn wc ws b w h hl hw hx hn
  · exact sfs_bad r c i o l m H ps zs pg wa wn wc ws b w h hl hw hx
end Go.Proofs.Ytijajemalokgjaa
