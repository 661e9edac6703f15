/- TurnAt and TurnsBefore by the model. -/
import Derived.Test.YtifepfjcbapliaaDoorTns
namespace Go.Proofs.YtifepfjcbapliaaDoor
open Go.RowKit
set_option linter.unusedVariables false

theorem t_min (x y : Int) (w : World) : Calls Tryd.prog 34 #[.int .i64 x, .int .i64 y] w fun e w' => e = .returned (.int .i64 (if x < y then x else y)) ∧ w' = w := by
  by_cases h : x < y
  · rw [if_pos h]
    go_enter Tryd.func34, Tryd.ntmps34
    go_wp2_with fail
    go_ret
    exact ⟨rfl, rfl⟩
  · rw [if_neg h]
    go_enter Tryd.func34, Tryd.ntmps34
    go_wp2_with fail
    go_ret
    exact ⟨rfl, rfl⟩
set_option maxRecDepth 20000 in
set_option maxHeartbeats 4000000 in
theorem s_TurnAt (a0 a1 a2 a3 : Option Addr) (n0 c0 n1 c1 n2 c2 n3 c3 : Nat) (P : Plc) (c : Int) (w : World) (h : Pl w a0 n0 c0 a1 n1 c1 a2 n2 c2 a3 n3 c3 P) :
    Calls Tryd.prog 6 #[.agg #[.slice a0 n0 c0, .slice a1 n1 c1, .slice a2 n2 c2, .slice a3 n3 c3], .int .i64 c] w fun e w' => e = .returned (.agg #[.int .i64 (tR P c).1, .int .i64 (tR P c).2.1, .int .i64 (tR P c).2.2.1, .int .i64 (tR P c).2.2.2]) ∧ Below w.heap.size w w' := by
  obtain ⟨U, hU⟩ : ∃ U, tR P c = U := ⟨_, rfl⟩
  rw [hU]
  have HU : Hid (tR P c = U) := hU
  clear hU
  generalize hW : (w.alloc (.cells #[.slice a0 n0 c0, .slice a1 n1 c1, .slice a2 n2 c2, .slice a3 n3 c3] 38)).alloc (.cells #[.int .i64 0, .int .i64 0, .int .i64 0, .int .i64 0] 32) = W
  have B0 : Hid (Below w.heap.size w W) := by show Below _ _ _; rw [← hW]; exact al (al (Below.refl _ _) _) _
  obtain ⟨s, hS⟩ : ∃ s, w.heap.size = s := ⟨_, rfl⟩
  have HSs : Hid (w.heap.size = s) := hS
  have Q : Hid (W.cell? ⟨s, 0, none⟩ = some (.slice a0 n0 c0) ∧ W.cell? ⟨s, 1, none⟩ = some (.slice a1 n1 c1) ∧ W.cell? ⟨s, 2, none⟩ = some (.slice a2 n2 c2) ∧ W.cell? ⟨s, 3, none⟩ = some (.slice a3 n3 c3)) := by
    show _ ∧ _
    rw [← hW, ← hS]
    exact ⟨cell_push _ (cell_new rfl), cell_push _ (cell_new rfl), cell_push _ (cell_new rfl), cell_push _ (cell_new rfl)⟩
  have R : Hid (Vb W (s + 1) #[.int .i64 0, .int .i64 0, .int .i64 0, .int .i64 0] 32) := by
    have z1 : s + 1 = (w.alloc (.cells #[.slice a0 n0 c0, .slice a1 n1 c1, .slice a2 n2 c2, .slice a3 n3 c3] 38)).heap.size := by rw [← hS]; simp
    show Vb _ _ _ _
    rw [← hW, z1]
    exact Vb.new _ _ _
  have HP : Hid (Pl W a0 n0 c0 a1 n1 c1 a2 n2 c2 a3 n3 c3 P) := h.stay B0.out
  have HA : Hid (PolAt W s P) := ⟨_, _, _, _, _, _, _, _, _, _, _, _, Q.out.1, Q.out.2.1, Q.out.2.2.1, Q.out.2.2.2, HP.out⟩
  clear h
  have q0 := Q.out.1
  have q1 := Q.out.2.1
  have q2 := Q.out.2.2.1
  have q3 := Q.out.2.2.2
  have fv := field_value
  go_enter Tryd.func6, Tryd.ntmps6
  go_wp2_with fail
  clear hW hS
  refine (s_asked12 _ _ P _ HA.out).mono ?_
  rintro e w1 ⟨rfl, b1⟩
  have B1 : Hid (Below w.heap.size w w1) := on B0.out b1
  have R1 : Hid (Vb w1 (s + 1) #[.int .i64 0, .int .i64 0, .int .i64 0, .int .i64 0] 32) := R.out.keep b1
  clear q0 q1 q2 q3
  by_cases hz : ckV P c = 0
  · obtain ⟨pz, cl, cu⟩ := ck_pf hz
    rw [hz]
    obtain ⟨j, hj, hs⟩ := tS_some P pz c
    have HU2 : Hid ((0, (j : Int), (P.plan.getD j (0, 0)).1, (tS P c).2) = U) := by
      show _ = _
      rw [← HU.out, tR, if_pos hz, tG, hs]
      simp
    have HJ : Hid (j < P.plan.length) := hj
    have HSJ : Hid ((tS P c).1 = (j : Int)) := hs
    have PZ : Hid (pfV P = 0 ∧ 0 ≤ c ∧ c ≤ 1000000) := ⟨pz, cl, cu⟩
    have HB1 : Hid (Below W.heap.size W w1) := b1
    clear hz pz cl cu hj hs b1
    go_wp2_with fail
    refine (s_turn _ c P _ (HA.out.stay HB1.out) PZ.out.1 PZ.out.2.1 PZ.out.2.2).mono ?_
    rintro e w2 ⟨rfl, b2⟩
    rw [HSJ.out]
    obtain ⟨L, hL⟩ : ∃ L, (tS P c).2 = L := ⟨_, rfl⟩
    rw [hL] at HU2 ⊢
    clear hL
    have q3 := cell_keep b2 (cell_keep HB1.out Q.out.2.2.2)
    have R2 : Hid (Vb w2 (s + 1) #[.int .i64 0, .int .i64 0, .int .i64 0, .int .i64 0] 32) := R1.out.keep b2
    have B2 : Hid (Below w.heap.size w w2) := on B1.out b2
    have HPw : Hid (Pl w2 a0 n0 c0 a1 n1 c1 a2 n2 c2 a3 n3 c3 P) := (HP.out.stay HB1.out).stay b2
    obtain ⟨x, hx, k0, k1⟩ := HPw.out.plan.at j (by rw [HPw.out.plan.len]; exact HJ.out)
    subst hx
    have JN : (j : Int) < (n3 : Int) := by have := HJ.out; have := HPw.out.plan.len; omega
    have J8 : (j : Int) ≤ 8 := by have := HJ.out; have := (pf_plan P PZ.out.1).1; omega
    obtain ⟨g, hgg⟩ : ∃ g, (P.plan.getD j (0, 0)).1 = g := ⟨_, rfl⟩
    rw [hgg] at HU2 k0
    have E := HU2.out
    subst E
    clear hgg b2 k1
    have r0 := R2.out.cell 0 rfl
    have r1 := R2.out.cell 1 rfl
    have r2 := R2.out.cell 2 rfl
    have r3 := R2.out.cell 3 rfl
    have f0 := R2.out.free 0
    have f1 := R2.out.free 1
    have f2 := R2.out.free 2
    have f3 := R2.out.free 3
    go_wp2_with fail
    exact bodyPost_ret (v := .agg #[.int .i64 0, .int .i64 (j : Int), .int .i64 g, .int .i64 L]) (by simp [results, Tryd.results6, go_sem, r0, r1, r2, r3]) rfl ⟨rfl, ((((B2.out).setCell (by have := HSs.out; show w.heap.size ≤ s + 1; omega) _).setCell (by have := HSs.out; show w.heap.size ≤ s + 1; omega) _).setCell (by have := HSs.out; show w.heap.size ≤ s + 1; omega) _).setCell (by have := HSs.out; show w.heap.size ≤ s + 1; omega) _⟩
  · have HU2 : Hid ((ckV P c, (0 : Int), (0 : Int), (0 : Int)) = U) := by
      show _ = _
      rw [← HU.out, tR, if_neg hz]
    generalize hv : ckV P c = v at *
    have E := HU2.out
    subst E
    have r0 := R1.out.cell 0 rfl
    have r1 := R1.out.cell 1 rfl
    have r2 := R1.out.cell 2 rfl
    have r3 := R1.out.cell 3 rfl
    have f0 := R1.out.free 0
    have f1 := R1.out.free 1
    have f2 := R1.out.free 2
    have f3 := R1.out.free 3
    go_wp2_with fail
    exact bodyPost_ret (v := .agg #[.int .i64 v, .int .i64 0, .int .i64 0, .int .i64 0]) (by simp [results, Tryd.results6, go_sem, r0, r1, r2, r3]) rfl ⟨rfl, ((((B1.out).setCell (by have := HSs.out; show w.heap.size ≤ s + 1; omega) _).setCell (by have := HSs.out; show w.heap.size ≤ s + 1; omega) _).setCell (by have := HSs.out; show w.heap.size ≤ s + 1; omega) _).setCell (by have := HSs.out; show w.heap.size ≤ s + 1; omega) _⟩

set_option maxRecDepth 20000 in
set_option maxHeartbeats 8000000 in
theorem s_TurnsBefore (a0 a1 a2 a3 : Option Addr) (n0 c0 n1 c1 n2 c2 n3 c3 : Nat) (P : Plc) (c g : Int) (w : World) (h : Pl w a0 n0 c0 a1 n1 c1 a2 n2 c2 a3 n3 c3 P) :
    Calls Tryd.prog 11 #[.agg #[.slice a0 n0 c0, .slice a1 n1 c1, .slice a2 n2 c2, .slice a3 n3 c3], .int .i64 c, .int .i64 g] w fun e w' => e = .returned (.agg #[.int .i64 (tbR P c g).1, .int .i64 (tbR P c g).2]) ∧ Below w.heap.size w w' := by
  obtain ⟨U, hU⟩ : ∃ U, tbR P c g = U := ⟨_, rfl⟩
  rw [hU]
  have HU : Hid (tbR P c g = U) := hU
  clear hU
  generalize hW : (w.alloc (.cells #[.slice a0 n0 c0, .slice a1 n1 c1, .slice a2 n2 c2, .slice a3 n3 c3] 38)).alloc (.cells #[.int .i64 0, .int .i64 0] 44) = W
  have B0 : Hid (Below w.heap.size w W) := by show Below _ _ _; rw [← hW]; exact al (al (Below.refl _ _) _) _
  obtain ⟨s, hS⟩ : ∃ s, w.heap.size = s := ⟨_, rfl⟩
  have HSs : Hid (w.heap.size = s) := hS
  have Q : Hid (W.cell? ⟨s, 0, none⟩ = some (.slice a0 n0 c0) ∧ W.cell? ⟨s, 1, none⟩ = some (.slice a1 n1 c1) ∧ W.cell? ⟨s, 2, none⟩ = some (.slice a2 n2 c2) ∧ W.cell? ⟨s, 3, none⟩ = some (.slice a3 n3 c3)) := by
    show _ ∧ _
    rw [← hW, ← hS]
    exact ⟨cell_push _ (cell_new rfl), cell_push _ (cell_new rfl), cell_push _ (cell_new rfl), cell_push _ (cell_new rfl)⟩
  have R : Hid (Vb W (s + 1) #[.int .i64 0, .int .i64 0] 44) := by
    have z1 : s + 1 = (w.alloc (.cells #[.slice a0 n0 c0, .slice a1 n1 c1, .slice a2 n2 c2, .slice a3 n3 c3] 38)).heap.size := by rw [← hS]; simp
    show Vb _ _ _ _
    rw [← hW, z1]
    exact Vb.new _ _ _
  have HP : Hid (Pl W a0 n0 c0 a1 n1 c1 a2 n2 c2 a3 n3 c3 P) := h.stay B0.out
  have HA : Hid (PolAt W s P) := ⟨_, _, _, _, _, _, _, _, _, _, _, _, Q.out.1, Q.out.2.1, Q.out.2.2.1, Q.out.2.2.2, HP.out⟩
  clear h
  have q0 := Q.out.1
  have q1 := Q.out.2.1
  have q2 := Q.out.2.2.1
  have q3 := Q.out.2.2.2
  have fv := field_value
  go_enter Tryd.func11, Tryd.ntmps11
  go_wp2_with fail
  clear hW hS
  refine (s_asked12 _ _ P _ HA.out).mono ?_
  rintro e w1 ⟨rfl, b1⟩
  have B1 : Hid (Below w.heap.size w w1) := on B0.out b1
  have R1 : Hid (Vb w1 (s + 1) #[.int .i64 0, .int .i64 0] 44) := R.out.keep b1
  clear q0 q1 q2 q3
  by_cases hz : ckV P c = 0
  · have PZ : Hid (pfV P = 0 ∧ 0 ≤ c ∧ c ≤ 1000000) := ck_pf hz
    have CZ : Hid (ckV P c = 0) := hz
    have HB1 : Hid (Below W.heap.size W w1) := b1
    rw [hz]
    clear hz b1
    go_wp2_with fail
    refine (l6_guest _ _ P _ (HA.out.stay HB1.out)).mono ?_
    rintro e w1 ⟨rfl, rfl⟩
    by_cases hG : isG P.own.length g = false
    · rw [hG]
      have HU2 : Hid (((4 : Int), (0 : Int)) = U) := by
        have e : tbC P c g = 4 := by rw [tbC, if_pos CZ.out, if_pos hG]
        show _ = _
        rw [← HU.out, tbR, e, if_neg (by decide)]
      have E := HU2.out
      subst E
      have r0 := R1.out.cell 0 rfl
      have r1 := R1.out.cell 1 rfl
      have f0 := R1.out.free 0
      have f1 := R1.out.free 1
      go_wp2_with fail
      exact bodyPost_ret (v := .agg #[.int .i64 4, .int .i64 0]) (by simp [results, Tryd.results11, go_sem, r0, r1]) rfl ⟨rfl, ((B1.out).setCell (by have := HSs.out; show w.heap.size ≤ s + 1; omega) _).setCell (by have := HSs.out; show w.heap.size ≤ s + 1; omega) _⟩
    have HZ : Hid (tbC P c g = 0) := by show _ = _; rw [tbC, if_pos CZ.out, if_neg hG]
    have AK : Hid (askV P g = 0) := by show _ = _; rw [askV, if_pos PZ.out.1, if_neg hG]
    rw [Bool.not_eq_false] at hG
    rw [hG]
    obtain ⟨rr, hrr⟩ : ∃ r, rdV P.plan = r := ⟨_, rfl⟩
    have RP := rd_pos P PZ.out.1
    rw [hrr] at RP
    have HR : Hid (rdV P.plan = rr) := hrr
    have RV : Hid (rR P = (0, rr)) := by show _ = _; rw [rR, if_pos PZ.out.1, hrr]
    clear hrr
    have tm : c.tmod rr = c % rr := Int.tmod_eq_emod_of_nonneg PZ.out.2.1
    have td : c.tdiv rr = c / rr := Int.tdiv_eq_ediv_of_nonneg PZ.out.2.1
    have m0 : 0 ≤ c % rr := Int.emod_nonneg _ (by omega)
    have m1 : c % rr < rr := Int.emod_lt_of_pos _ (by omega)
    obtain ⟨d0, d1⟩ := div_le PZ.out.2.1 PZ.out.2.2 RP.1
    obtain ⟨m, hm⟩ : ∃ m, c % rr = m := ⟨_, rfl⟩
    rw [hm] at tm m0 m1
    have HM : Hid (c % rr = m) := hm
    obtain ⟨d, hd⟩ : ∃ d, c / rr = d := ⟨_, rfl⟩
    rw [hd] at td d0 d1
    have HD : Hid (c / rr = d) := hd
    obtain ⟨fr, hfr⟩ : ∃ f, frV g P.plan = f := ⟨_, rfl⟩
    have FP := fr_le P PZ.out.1 g
    rw [hfr] at FP
    have HF : Hid (frV g P.plan = fr) := hfr
    have FV : Hid (fR P g = (0, fr)) := by show _ = _; rw [fR, if_pos AK.out, hfr]
    obtain ⟨u0, u1⟩ := mul_le d0 d1 FP.1 FP.2
    obtain ⟨bs, hb⟩ : ∃ b, d * fr = b := ⟨_, rfl⟩
    rw [hb] at u0 u1
    have HBS : Hid (d * fr = bs) := hb
    have r1 := RP.1
    have r2 := RP.2
    have U01 : Hid (0 ≤ bs ∧ bs ≤ 400000000) := ⟨u0, u1⟩
    have M01 : Hid (0 ≤ m ∧ m < rr ∧ rr ≤ 400) := ⟨m0, m1, r2⟩
    have HU3 : Hid ((0, bs + (tbF g P.plan m).1) = U) := by
      show _ = _
      rw [← HU.out, tbR, if_pos HZ.out, tbV, HR.out, HM.out, HD.out, HF.out, HBS.out]
    clear hm hd hfr
    have wr : IntKind.i64.wrap (d * fr) = bs := by rw [hb, IntKind.wrap_i64]; omega
    clear hb
    have rne : ¬ rr = 0 := by omega
    have wdd : IntKind.i64.wrap d = d := by rw [IntKind.wrap_i64]; omega
    have q0 := cell_keep HB1.out Q.out.1
    have q1 := cell_keep HB1.out Q.out.2.1
    have q2 := cell_keep HB1.out Q.out.2.2.1
    have q3 := cell_keep HB1.out Q.out.2.2.2
    go_wp2_with fail
    clear q0 q1 q2 q3
    refine (s_roundOf _ _ _ _ _ _ _ _ _ _ _ _ P _ (HP.out.stay HB1.out)).mono ?_
    rintro e w3 ⟨rfl, b3⟩
    rw [RV.out]
    have B3 : Hid (Below w.heap.size w w3) := on B1.out b3
    have R3 : Hid (Vb w3 (s + 1) #[.int .i64 0, .int .i64 0] 44) := R1.out.keep b3
    have HB3 : Hid (Below W.heap.size W w3) := on HB1.out b3
    have Q3 : Hid (_ ∧ _ ∧ _ ∧ _) := ⟨cell_keep HB3.out Q.out.1, cell_keep HB3.out Q.out.2.1, cell_keep HB3.out Q.out.2.2.1, cell_keep HB3.out Q.out.2.2.2⟩
    clear b3
    simp only
    go_wp2_with fail
    refine wp_region_held (S := fun w' => Below w3.heap.size w3 w') (by kernel_rfl) ?_
    change wpAnyH _ _ _ _ _ _ _ _ (World.drew _)
    have SD : Hid (Below w3.heap.size w3 w3.drew) := (Below.refl _ _).drew
    generalize w3.drew = x0 at *
    refine wpAnyH_take (i := 0) (v := .int .i64 c) rfl (by kernel_rfl) (by kernel_rfl) (by kernel_rfl) (fun _ _ _ h => h) (Or.inl ⟨by rfl, fun w' hs => by go_simp⟩) SD.out ?_
    change wpAnyH _ _ _ _ _ _ _ (Act.put _ (some 25) _) _
    simp only [Act.put, List.setIfInBounds_toArray, List.set_cons_zero, List.set_cons_succ]
    refine wpAnyH_take (i := 1) (v := .int .i64 rr) rfl (by kernel_rfl) (by kernel_rfl) (by kernel_rfl) (fun _ _ _ h => h) (Or.inl ⟨by rfl, fun w' hs => by go_simp⟩) SD.out ?_
    change wpAnyH _ _ _ _ _ _ _ (Act.put _ (some 26) _) _
    simp only [Act.put, List.setIfInBounds_toArray, List.set_cons_zero, List.set_cons_succ]
    refine wpAnyH_take (i := 2) (v := .int .i64 d) rfl (by kernel_rfl) (by kernel_rfl) (by kernel_rfl) (fun _ _ _ h => h) (Or.inl ⟨by rfl, fun w' hs => by go_simp⟩) SD.out ?_
    change wpAnyH _ _ _ _ _ _ _ (Act.put _ (some 27) _) _
    simp only [Act.put, List.setIfInBounds_toArray, List.set_cons_zero, List.set_cons_succ]
    refine wpAnyH_take (i := 3) (v := .agg #[.slice a0 n0 c0, .slice a1 n1 c1, .slice a2 n2 c2, .slice a3 n3 c3]) rfl (by kernel_rfl) (by kernel_rfl) (by kernel_rfl) (fun _ _ _ h => h) (Or.inl ⟨by rfl, fun w' hs => by have y0 := cell_keep hs Q3.out.1; have y1 := cell_keep hs Q3.out.2.1; have y2 := cell_keep hs Q3.out.2.2.1; have y3 := cell_keep hs Q3.out.2.2.2; go_simp⟩) SD.out ?_
    change wpAnyH _ _ _ _ _ _ _ (Act.put _ (some 28) _) _
    simp only [Act.put, List.setIfInBounds_toArray, List.set_cons_zero, List.set_cons_succ]
    refine wpAnyH_take (i := 4) (v := .int .i64 g) rfl (by kernel_rfl) (by kernel_rfl) (by kernel_rfl) (fun _ _ _ h => h) (Or.inl ⟨by rfl, fun w' hs => by go_simp⟩) SD.out ?_
    change wpAnyH _ _ _ _ _ _ _ (Act.put _ (some 29) _) _
    simp only [Act.put, List.setIfInBounds_toArray, List.set_cons_zero, List.set_cons_succ]
    refine wpAnyH_ready (rs := [5]) (by kernel_rfl) (by simp) ?_
    refine AllReadyH.cons rfl (fun K hK => ?_) AllReadyH.nil
    rw [if_pos (by rfl)]
    go_simp
    refine (s_framesOf _ _ _ _ _ _ _ _ _ _ _ _ P g _ ((HP.out.stay HB3.out).stay SD.out)).mono ?_
    rintro e w4 ⟨rfl, b4⟩
    rw [FV.out]
    have S4 : Hid (Below w3.heap.size w3 w4) := on SD.out b4
    clear b4
    refine hK.out _ _ S4.out (fun _ => ?_)
    clear hK K
    refine wpAnyH_take (i := 6) (v := .int .i64 fr) rfl (by kernel_rfl) (by kernel_rfl) (by kernel_rfl) (fun _ _ _ h => h) (Or.inl ⟨by rfl, fun w' hs => by go_simp⟩) S4.out ?_
    change wpAnyH _ _ _ _ _ _ _ (Act.put _ (some 31) _) _
    simp only [Act.put, List.setIfInBounds_toArray, List.set_cons_zero, List.set_cons_succ]
    refine wpAnyH_take (i := 7) (v := .int .i64 bs) rfl (by kernel_rfl) (by kernel_rfl) (by kernel_rfl) (fun _ _ _ h => h) (Or.inl ⟨by rfl, fun w' hs => by go_simp⟩) S4.out ?_
    change wpAnyH _ _ _ _ _ _ _ (Act.put _ (some 32) _) _
    simp only [Act.put, List.setIfInBounds_toArray, List.set_cons_zero, List.set_cons_succ]
    refine wpAnyH_take (i := 8) (v := .int .i64 bs) rfl (by kernel_rfl) (by kernel_rfl) (by kernel_rfl) (fun _ _ _ h => h) (Or.inl ⟨by rfl, fun w' hs => by go_simp⟩) S4.out ?_
    change wpAnyH _ _ _ _ _ _ _ (Act.put _ (some 9) _) _
    simp only [Act.put, List.setIfInBounds_toArray, List.set_cons_zero, List.set_cons_succ]
    refine wpAnyH_done (by kernel_rfl) ?_ _
    have B4 : Hid (Below w.heap.size w w4) := on B3.out S4.out
    have R4 : Hid (Vb w4 (s + 1) #[.int .i64 0, .int .i64 0] 44) := R3.out.keep S4.out
    have q3 := cell_keep S4.out Q3.out.2.2.2
    have HPw : Hid (Pl w4 a0 n0 c0 a1 n1 c1 a2 n2 c2 a3 n3 c3 P) := (HP.out.stay HB3.out).stay S4.out
    have HL3 : Hid (n3 = P.plan.length) := HPw.out.plan.len
    have L8 : Hid (n3 ≤ 8) := by show _ ≤ _; rw [HPw.out.plan.len]; exact (pf_plan P PZ.out.1).1
    have hmax3 : (n3 : Int) ≤ 9223372036854775807 := by have := L8.out; omega
    have ST8 : Hid (∀ j, j < P.plan.length → 1 ≤ (P.plan.getD j (0, 0)).2 ∧ (P.plan.getD j (0, 0)).2 ≤ 50) := (pf_plan P PZ.out.1).2
    clear SD S4 x0 Q3
    go_wp2_with fail
    clear wr wdd rne td tm d0 d1 u0 u1 m0 m1 r1 r2 RP FP
    go_loop [9, 10, 11] (fun u v c => ∃ j : Nat, j ≤ n3 ∧ c = .int .i64 j ∧ u = .int .i64 (bs + (tbF g (P.plan.take j) m).1) ∧ v = .int .i64 (tbF g (P.plan.take j) m).2) (fun _ _ c => n3 - (intOf c).toNat)
    case atStart => exact ⟨0, Nat.zero_le _, rfl, by simp [tbF], by simp [tbF]⟩
    case round =>
      obtain ⟨j, hj, rfl, rfl, rfl⟩ := hrel
      by_cases hlt : j < n3
      · by_cases hre : 0 < (tbF g (P.plan.take j) m).2
        · obtain ⟨x, rfl, k0, k1⟩ := HPw.out.plan.at j hlt
          have HLT : Hid (j < n3) := hlt
          have hJ : (j : Int) < (n3 : Int) := by omega
          have J8 : (j : Int) ≤ 8 := by have := L8.out; omega
          have TK : Hid (_ = _) := tb_take g P.plan m j (by have := HL3.out; omega)
          have st := ST8.out j (by have := HL3.out; omega)
          obtain ⟨t0, t1, t2⟩ := tb_bound g P.plan m M01.out.1 (fun x hx => (pf_each P PZ.out.1 x hx).1) j (by have := HL3.out; omega)
          have st0 := st.1
          have st1 := st.2
          have m4 : m ≤ 400 := by have := M01.out; omega
          have u0 := U01.out.1
          have u1 := U01.out.2
          obtain ⟨⟨gg, t⟩, hL⟩ : ∃ L, P.plan.getD j (0, 0) = L := ⟨_, rfl⟩
          rw [hL] at k0 k1 TK st0 st1
          simp only at k0 k1 TK st0 st1
          clear hL st
          obtain ⟨⟨sm, re⟩, hsm⟩ : ∃ z, tbF g (P.plan.take j) m = z := ⟨_, rfl⟩
          rw [hsm] at TK t0 t1 t2 hre ⊢
          simp only at TK t0 t1 t2 hre ⊢
          clear hsm
          by_cases hm : re < t
          · have MN : min t re = re := by omega
            have MI : Hid ((if re < t then re else t) = re) := by show _ = _; split <;> omega
            rw [MN] at TK
            clear MN
            by_cases he : gg = g
            · have TK2 : Hid (tbF g (P.plan.take (j + 1)) m = (sm + re, re - re)) := by show _ = _; rw [TK.out, if_pos he]
              go_wp2_with (go_at_call 34; refine (t_min _ _ _).mono ?_; rintro e y ⟨rfl, hy⟩; rw [hy]; clear hy y; rw [MI.out])
              go_round
              case rel => exact ⟨j + 1, by have := HLT.out; omega, by go_num, by rw [TK2.out]; first | done | go_num | (simp; done), by rw [TK2.out]; first | done | go_num | (simp; done)⟩
              case measure => have := HLT.out; simp [intOf]; omega
            · have TK2 : Hid (tbF g (P.plan.take (j + 1)) m = (sm, re - re)) := by show _ = _; rw [TK.out, if_neg he]; simp
              go_wp2_with (go_at_call 34; refine (t_min _ _ _).mono ?_; rintro e y ⟨rfl, hy⟩; rw [hy]; clear hy y; rw [MI.out])
              go_round
              case rel => exact ⟨j + 1, by have := HLT.out; omega, by go_num, by rw [TK2.out]; first | done | go_num | (simp; done), by rw [TK2.out]; first | done | go_num | (simp; done)⟩
              case measure => have := HLT.out; simp [intOf]; omega
          · have MN : min t re = t := by omega
            have MI : Hid ((if re < t then re else t) = t) := by show _ = _; split <;> omega
            rw [MN] at TK
            clear MN
            by_cases he : gg = g
            · have TK2 : Hid (tbF g (P.plan.take (j + 1)) m = (sm + t, re - t)) := by show _ = _; rw [TK.out, if_pos he]
              go_wp2_with (go_at_call 34; refine (t_min _ _ _).mono ?_; rintro e y ⟨rfl, hy⟩; rw [hy]; clear hy y; rw [MI.out])
              go_round
              case rel => exact ⟨j + 1, by have := HLT.out; omega, by go_num, by rw [TK2.out]; first | done | go_num | (simp; done), by rw [TK2.out]; first | done | go_num | (simp; done)⟩
              case measure => have := HLT.out; simp [intOf]; omega
            · have TK2 : Hid (tbF g (P.plan.take (j + 1)) m = (sm, re - t)) := by show _ = _; rw [TK.out, if_neg he]; simp
              go_wp2_with (go_at_call 34; refine (t_min _ _ _).mono ?_; rintro e y ⟨rfl, hy⟩; rw [hy]; clear hy y; rw [MI.out])
              go_round
              case rel => exact ⟨j + 1, by have := HLT.out; omega, by go_num, by rw [TK2.out]; first | done | go_num | (simp; done), by rw [TK2.out]; first | done | go_num | (simp; done)⟩
              case measure => have := HLT.out; simp [intOf]; omega
        · have hJ : (j : Int) < (n3 : Int) := by omega
          obtain ⟨t0, t1, t2⟩ := tb_bound g P.plan m M01.out.1 (fun x hx => (pf_each P PZ.out.1 x hx).1) j (by have := HL3.out; omega)
          have RE : (tbF g (P.plan.take j) m).2 = 0 := by omega
          have HJL : Hid (j ≤ n3) := hj
          have EV0 : Hid ((tbF g (P.plan.take j) m).1 = (tbF g P.plan m).1) := by
            have hs := tb_still g P.plan m (fun x hx => (pf_each P PZ.out.1 x hx).1) j RE (P.plan.length - j) (by have := HL3.out; omega)
            rw [show j + (P.plan.length - j) = P.plan.length by have := HL3.out; omega, List.take_length] at hs
            show _ = _
            rw [← hs]
          rw [RE]
          clear RE t0 t1 t2 hre
          have EV : Hid ((tbF g (P.plan.take j) m).1 = (tbF g P.plan m).1) := by
            show _ = _
            exact EV0.out
          rw [EV.out]
          obtain ⟨sm, hsm⟩ : ∃ z, (tbF g P.plan m).1 = z := ⟨_, rfl⟩
          rw [hsm] at HU3 ⊢
          have E := HU3.out
          subst E
          clear hsm EV
          have r0 := R4.out.cell 0 rfl
          have r1 := R4.out.cell 1 rfl
          have f0 := R4.out.free 0
          have f1 := R4.out.free 1
          go_wp2_with fail
          exact bodyPost_ret (v := .agg #[.int .i64 0, .int .i64 (bs + sm)]) (by simp [results, Tryd.results11, go_sem, r0, r1]) rfl ⟨rfl, ((B4.out).setCell (by have := HSs.out; show w.heap.size ≤ s + 1; omega) _).setCell (by have := HSs.out; show w.heap.size ≤ s + 1; omega) _⟩
      · have hJ : ¬ (j : Int) < (n3 : Int) := by omega
        have HJ : Hid (j = n3) := by show _ = _; omega
        clear hlt
        have EV : Hid ((tbF g (P.plan.take j) m).1 = (tbF g P.plan m).1) := by
          show _ = _
          rw [List.take_of_length_le (by have := HL3.out; have := HJ.out; omega)]
        rw [EV.out]
        obtain ⟨sm, hsm⟩ : ∃ z, (tbF g P.plan m).1 = z := ⟨_, rfl⟩
        rw [hsm] at HU3 ⊢
        have E := HU3.out
        subst E
        clear hsm EV
        have r0 := R4.out.cell 0 rfl
        have r1 := R4.out.cell 1 rfl
        have f0 := R4.out.free 0
        have f1 := R4.out.free 1
        go_wp2_with fail
        exact bodyPost_ret (v := .agg #[.int .i64 0, .int .i64 (bs + sm)]) (by simp [results, Tryd.results11, go_sem, r0, r1]) rfl ⟨rfl, ((B4.out).setCell (by have := HSs.out; show w.heap.size ≤ s + 1; omega) _).setCell (by have := HSs.out; show w.heap.size ≤ s + 1; omega) _⟩
  · have HU2 : Hid ((ckV P c, (0 : Int)) = U) := by
      show _ = _
      rw [← HU.out, tbR, if_neg (by rw [tbC, if_neg hz]; exact hz), tbC, if_neg hz]
    generalize hv : ckV P c = v at *
    have E := HU2.out
    subst E
    have r0 := R1.out.cell 0 rfl
    have r1 := R1.out.cell 1 rfl
    have f0 := R1.out.free 0
    have f1 := R1.out.free 1
    go_wp2_with fail
    exact bodyPost_ret (v := .agg #[.int .i64 v, .int .i64 0]) (by simp [results, Tryd.results11, go_sem, r0, r1]) rfl ⟨rfl, ((B1.out).setCell (by have := HSs.out; show w.heap.size ≤ s + 1; omega) _).setCell (by have := HSs.out; show w.heap.size ≤ s + 1; omega) _⟩
end Go.Proofs.YtifepfjcbapliaaDoor
