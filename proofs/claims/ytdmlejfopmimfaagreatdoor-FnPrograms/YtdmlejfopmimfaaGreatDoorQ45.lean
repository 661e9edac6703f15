/- Texts of this seat, joined. -/
import Derived.Test.YtdmlejfopmimfaaGreatDoorQ44
namespace Go.Proofs.YtdmlejfopmimfaaGreatDoor
open Go.RowKit
set_option linter.unusedVariables false

theorem argP_num (x : Wb) : argP (numO x) (5, 0) = (numC x, numX x) := by
  unfold numC numX
  cases numO x <;> rfl
theorem nums_put2 {w : World} {b t : Nat} {v : Value} {z : List Int} (h : Nums w b v z) (ht : ∀ k, v.ownBlock = some k → k ≠ t) (x y : Value) : Nums ((w.setCell ⟨t, 0, none⟩ x).setCell ⟨t, 1, none⟩ y) b v z :=
  (h.put _ _ (fun e => ht _ e rfl)).put _ _ (fun e => ht _ e rfl)
/-- What the loop over told words keeps. -/
structure Rt (w wr : World) (s mb n : Nat) (cs : Array Value) (v : Value) (acc : List Int) (ls : List Lbl) : Prop where
  r : Vq wr s cs 56
  u : Nums wr (s + 1) v acc
  m : Sm wr mb n ls
  b : Below w.heap.size w wr
theorem Rt.keep {w wr w' : World} {s mb n : Nat} {cs : Array Value} {v : Value} {acc : List Int} {ls : List Lbl} (h : Rt w wr s mb n cs v acc ls) (b : Below wr.heap.size wr w') : Rt w w' s mb n cs v acc ls :=
  ⟨h.r.keep b, h.u.keep b, h.m.keep b, on h.b b⟩
/-- An answer is laid into its block. -/
theorem Rt.put2 {w wr w' : World} {s mb n t : Nat} {cs : Array Value} {v : Value} {acc : List Int} {ls : List Lbl} (h : Rt w wr s mb n cs v acc ls) (ht : wr.heap.size = t) (hs : w.heap.size = s) (hk : Rt w w' s mb n cs v acc ls) (hmb : mb < wr.heap.size) (x y : Value) : Rt w ((w'.setCell ⟨t, 0, none⟩ x).setCell ⟨t, 1, none⟩ y) s mb n cs v acc ls := by
  have hst : s < t := by have := h.r.lt; omega
  refine ⟨?_, ?_, ?_, ?_⟩
  · exact (heap_setCell_other _ ⟨t, 1, none⟩ s y (by show s ≠ t; omega)).trans ((heap_setCell_other _ ⟨t, 0, none⟩ s x (by show s ≠ t; omega)).trans hk.r)
  · exact nums_put2 hk.u (fun k e => by have := (h.u.lt k e).2; omega) x y
  · exact (hk.m.put (by show mb ≠ t; omega) x).put (by show mb ≠ t; omega) y
  · exact (hk.b.setCell (by show w.heap.size ≤ t; omega) _).setCell (by show w.heap.size ≤ t; omega) _
/-- A number more. -/
theorem Rt.push {w wr w' : World} {s mb n : Nat} {cs : Array Value} {v v' : Value} {acc acc' : List Int} {ls : List Lbl} (h : Rt w wr s mb n cs v acc ls) (hs : w.heap.size = s) (hG : wr.grownBy w' v.ownBlock) (hN : Nums w' (s + 1) v' acc') (hm : v.ownBlock ≠ some mb) : Rt w w' s mb n cs v' acc' ls := by
  have hv : ∀ k, v.ownBlock = some k → s + 1 ≤ k := fun k e => (h.u.lt k e).1
  refine ⟨h.r.gr hG (fun e => by have := hv s e.symm; omega), hN, h.m.kept hG (fun e => hm e.symm), h.b.grown hG h.b.size (fun k e => by have := hv k e; omega)⟩
theorem nums_nilA (w : World) (b : Nat) : Nums w b (.slice none 0 0) [] := World.ownsRow_nil w b _ _
set_option maxRecDepth 20000 in
set_option maxHeartbeats 8000000 in
theorem i_readTold (a0 a1 : Option Addr) (l0 c0 l1 c1 mb nn : Nat) (op : Nat) (a : Option Addr) (n c : Nat) (tl : List Wb) (here : Nat) (ls : List Lbl) (w : World) (hS : Sm w mb nn ls) (h1 : 1 ≤ op) (h2 : op ≤ 26) (hR : Rs w a n c tl) (hg : ∀ y, a = some y → ∃ g o, y = ⟨g, o, none⟩) (hn : n ≤ 100000) (hx : ∀ i, i < tl.length → (tl.getD i []).length ≤ 1500 ∧ tl.getD i [] ≠ []) (hh : here ≤ 1000000) (hP : ∀ x p, findL ls x = some p → p ≤ 1000000) :
    Calls Tryz.prog 51 #[.agg #[.slice a0 l0 c0, .slice a1 l1 c1, .map (some mb)], .int .i64 op, .slice a n c, .int .i64 here] w fun e w' => ∃ v, e = .returned (.tuple #[v, .int .i64 (argsA ls here (farB op) tl []).1]) ∧ Nums w' w.heap.size v (argsA ls here (farB op) tl []).2 ∧ Below w.heap.size w w' := by
  obtain ⟨A, hA⟩ : ∃ A, argsA ls here (farB op) tl [] = A := ⟨_, rfl⟩
  rw [hA]
  have HA : Hid (argsA ls here (farB op) (tl.drop 0) [] = A) := hA
  obtain ⟨s, hs⟩ : ∃ s, w.heap.size = s := ⟨_, rfl⟩
  have HS : Hid (w.heap.size = s) := hs
  have HN : Hid (n = tl.length ∧ n ≤ 100000) := ⟨hR.len, hn⟩
  have hnI : (n : Int) ≤ 100000 := by omega
  have HRs : Hid (Rs w a n c tl) := hR
  have HX : Hid (∀ i, i < tl.length → (tl.getD i []).length ≤ 1500 ∧ tl.getD i [] ≠ []) := hx
  have HG : Hid (∀ y, a = some y → ∃ g o, y = ⟨g, o, none⟩) := hg
  have HPP : Hid (∀ x p, findL ls x = some p → p ≤ 1000000) := hP
  have HMM : Hid (mb < w.heap.size) := hS.lt
  have HO : Hid (1 ≤ op ∧ op ≤ 26 ∧ here ≤ 1000000) := ⟨h1, h2, hh⟩
  have HMB : Hid (∀ {v : Value} {acc : List Int} (W : World), Rt w W s mb nn #[.slice a0 l0 c0, .slice a1 l1 c1, .map (some mb)] v acc ls → v.ownBlock ≠ some mb) := fun W h e => by have := (h.u.lt mb e).1; have := HMM.out; have := HS.out; omega
  generalize hw0 : w.alloc (.cells #[.slice a0 l0 c0, .slice a1 l1 c1, .map (some mb)] 56) = w0
  have R0 : Hid (Rt w w0 s mb nn #[.slice a0 l0 c0, .slice a1 l1 c1, .map (some mb)] (.slice none 0 0) [] ls) := by
    have bb : Below w.heap.size w w0 := by rw [← hw0]; exact al (Below.refl _ _) _
    exact ⟨by rw [← hw0, ← hs]; exact Vq.new _ _ _, nums_nilA _ _, hS.keep bb, bb⟩
  clear hA hR hx hg hP hS h1 h2 hh hn
  go_enter Tryz.func51, Tryz.ntmps51
  go_wp2_with fail
  clear hw0 hs
  go_loopw [8, 19] (fun u i wr => ∃ (j : Nat) (acc : List Int), j ≤ n ∧ i = .int .i64 j ∧ acc.length ≤ j ∧ Rt w wr s mb nn #[.slice a0 l0 c0, .slice a1 l1 c1, .map (some mb)] u acc ls ∧ Hid (argsA ls here (farB op) (tl.drop j) acc = A)) (fun _ i _ => n - (intOf i).toNat)
  case atStart => exact ⟨0, [], Nat.zero_le _, rfl, by simp, R0.out, HA⟩
  case round =>
    clear R0 HA
    obtain ⟨j, acc, hj, rfl, hal, hR, hT⟩ := hrel
    obtain ⟨av, cv, rfl, _⟩ := hR.u.shape
    obtain ⟨lv, hlv⟩ : ∃ lv, acc.length = lv := ⟨_, rfl⟩
    have AL : Hid (acc.length ≤ 100000 ∧ acc.length ≤ j) := ⟨by omega, hal⟩
    rw [hlv] at hR ⊢
    have HR : Hid (Rt w wr s mb nn #[.slice a0 l0 c0, .slice a1 l1 c1, .map (some mb)] (.slice av lv cv) acc ls) := hR
    clear hlv hal
    by_cases hlt : j < n
    · have hJ : (j : Int) < (n : Int) := by omega
      have HL : Hid (j < n) := hlt
      obtain ⟨y, rfl, cx⟩ := (HRs.out.stay hR.b).at j hlt
      obtain ⟨g, o, rfl⟩ := HG.out y rfl
      have RT0 : Hid (A = _) := hT.out.symm.trans (argsA_at ls here (farB op) tl j acc (by have := HN.out; omega))
      obtain ⟨q1, q2⟩ := HX.out j (by have := HN.out; omega)
      obtain ⟨x, hx⟩ : ∃ x, tl.getD j [] = x := ⟨_, rfl⟩
      rw [hx] at cx RT0 q1 q2
      have cx : wr.cell? ⟨g, o + j, none⟩ = some (.string (bq x)) := by simpa [Addr.add_lit] using cx
      have XL : Hid (x.length ≤ 1048576) := by show _ ≤ _; omega
      have XN : Hid (x ≠ []) := q2
      have gl : g < wr.heap.size := block_of_cell cx
      obtain ⟨t, ht⟩ : ∃ t, wr.heap.size = t := ⟨_, rfl⟩
      have HT : Hid (wr.heap.size = t) := ht
      have hcap : (j : Int) ≤ 100000 := by omega
      have HPx : Hid (∀ p, findL ls (x.drop 1) = some p → p ≤ 1000000) := fun p => HPP.out _ p
      clear hx hR hT hlt q1 q2 hj ht
      have FG := fun w => i_goes op w HO.out.2.1
      have FH := fun w => i_hasPrefix x w XN.out XL.out
      by_cases hlast : j + 1 = n
      case neg =>
        have hlI : ¬ (j : Int) = (n : Int) - 1 := by omega
        have WB : wayB (farB op) (decide (j + 1 = tl.length)) x = false := by unfold wayB; rw [decide_eq_false (by have := HN.out; omega)]; rfl
        clear FG FH hlast
        have EA : argO ls here (farB op) (decide (j + 1 = tl.length)) x = (numC x, numX x) := by rw [argO_num WB, argP_num]
        obtain ⟨q, hqd⟩ : ∃ q, numC x = q := ⟨_, rfl⟩
        obtain ⟨z, hzd⟩ : ∃ z, numX x = z := ⟨_, rfl⟩
        rw [hqd, hzd] at EA
        have RT : Hid (A = if q = 0 then argsA ls here (farB op) (tl.drop (j + 1)) (acc ++ [z]) else (q, [])) := by have h := RT0.out; rw [EA] at h; exact h
        have FD := fun w => i_digits x w XL.out
        rw [hqd, hzd] at FD
        clear EA hqd hzd RT0 WB
        go_wp2_with fail
        refine (FD _).mono ?_
        rintro e w5 ⟨rfl, b5⟩
        have RX0 : Hid (Rt w w5 s mb nn #[.slice a0 l0 c0, .slice a1 l1 c1, .map (some mb)] (.slice av lv cv) acc ls) := HR.out.keep (on (al (Below.refl _ _) _) b5)
        have V5 : Hid (Vq w5 t #[.int .i64 0, .int .i64 0] 62) := by have h := (Vq.new wr #[.int .i64 0, .int .i64 0] 62).keep b5; rw [HT.out] at h; exact h
        have k0 := V5.out.cell 0 rfl
        have k1 := V5.out.cell 1 rfl
        have f0 := V5.out.free 0
        have f1 := V5.out.free 1
        have tl5 := V5.out.lt
        have VX : Hid (Vq _ t #[.int .i64 q, .int .i64 z] 62) := pair2 V5.out (.int .i64 q) (.int .i64 z)
        have RX : Hid (Rt w _ s mb nn #[.slice a0 l0 c0, .slice a1 l1 c1, .map (some mb)] (.slice av lv cv) acc ls) := HR.out.put2 HT.out HS.out RX0.out HR.out.m.lt (.int .i64 q) (.int .i64 z)
        clear b5 FD RX0
        rw [HT.out]
        go_upto_region 9 with fail
        generalize World.setCell _ ⟨t, 1, none⟩ (.int .i64 z) = X at *
        clear k0 k1 f0 f1 tl5
        have x0 := VX.out.cell 0 rfl
        have x1 := VX.out.cell 1 rfl
        have xl := VX.out.lt
        by_cases hq : q = 0
        · have RE : Hid (argsA ls here (farB op) (tl.drop (j + 1)) (acc ++ [z]) = A) := by
            have h := RT.out
            rw [hq, if_pos rfl] at h
            exact h.symm
          subst hq
          go_wp2_with (at_builtin; refine wp_appA _ rfl _ _ rfl (s + 1) _ acc rfl (RX.out.u.keep (al (Below.refl _ _) _)) X.heap.size 1 1 [z] rfl rfl (one_atA (cell_new rfl)) (by have := AL.out; omega) (by have := RX.out.r.lt; simp; omega) ?_; intro v' w' hN' hG'; have RN : Hid (Rt w w' s mb nn #[.slice a0 l0 c0, .slice a1 l1 c1, .map (some mb)] v' (acc ++ [z]) ls) := ((RX.out.keep (al (Below.refl _ _) _)).push HS.out hG' hN' (HMB.out _ RX.out)); clear hN' hG')
          go_roundw
          case rel => exact ⟨j + 1, acc ++ [z], by have := HL.out; omega, by go_num, by have := AL.out; simp; omega, RN.out, RE⟩
          case measure => have := HL.out; simp [intOf]; omega
        · have RE : Hid (A = (q, [])) := by
            have h := RT.out
            rw [if_neg hq] at h
            exact h
          have hqB : (q != 0) = true := by simpa using hq
          go_wp2_with fail
          go_quiet (fail)
          go_wp2_with fail
          exact bodyPost_ret (v := .tuple #[.slice none 0 0, .int .i64 q]) (by simp [results, Tryz.results51, go_sem]) rfl ⟨_, by rw [RE.out], by rw [RE.out]; exact nums_nilA _ _, drL RX.out.b nq⟩
      have hlB : ((j : Int) == (n : Int) - 1) = true := by rw [beq_iff_eq]; omega
      have DL : decide (j + 1 = tl.length) = true := decide_eq_true (by have := HN.out; omega)
      by_cases hfarT : farB op = true
      case neg =>
        have hfar : farB op = false := by simpa using hfarT
        clear hfarT
        rw [hfar] at FG
        have WB : wayB (farB op) (decide (j + 1 = tl.length)) x = false := by unfold wayB; rw [hfar, DL]; rfl
        clear FH hlast DL hfar
        have EA : argO ls here (farB op) (decide (j + 1 = tl.length)) x = (numC x, numX x) := by rw [argO_num WB, argP_num]
        obtain ⟨q, hqd⟩ : ∃ q, numC x = q := ⟨_, rfl⟩
        obtain ⟨z, hzd⟩ : ∃ z, numX x = z := ⟨_, rfl⟩
        rw [hqd, hzd] at EA
        have RT : Hid (A = if q = 0 then argsA ls here (farB op) (tl.drop (j + 1)) (acc ++ [z]) else (q, [])) := by have h := RT0.out; rw [EA] at h; exact h
        have FD := fun w => i_digits x w XL.out
        rw [hqd, hzd] at FD
        clear EA hqd hzd RT0 WB
        go_wp2_with (go_at_call 74; refine (FG _).mono ?_; rintro e y ⟨rfl, rfl⟩)
        refine (FD _).mono ?_
        rintro e w5 ⟨rfl, b5⟩
        have RX0 : Hid (Rt w w5 s mb nn #[.slice a0 l0 c0, .slice a1 l1 c1, .map (some mb)] (.slice av lv cv) acc ls) := HR.out.keep (on (al (Below.refl _ _) _) b5)
        have V5 : Hid (Vq w5 t #[.int .i64 0, .int .i64 0] 62) := by have h := (Vq.new wr #[.int .i64 0, .int .i64 0] 62).keep b5; rw [HT.out] at h; exact h
        have k0 := V5.out.cell 0 rfl
        have k1 := V5.out.cell 1 rfl
        have f0 := V5.out.free 0
        have f1 := V5.out.free 1
        have tl5 := V5.out.lt
        have VX : Hid (Vq _ t #[.int .i64 q, .int .i64 z] 62) := pair2 V5.out (.int .i64 q) (.int .i64 z)
        have RX : Hid (Rt w _ s mb nn #[.slice a0 l0 c0, .slice a1 l1 c1, .map (some mb)] (.slice av lv cv) acc ls) := HR.out.put2 HT.out HS.out RX0.out HR.out.m.lt (.int .i64 q) (.int .i64 z)
        clear b5 FD RX0
        rw [HT.out]
        go_upto_region 9 with fail
        generalize World.setCell _ ⟨t, 1, none⟩ (.int .i64 z) = X at *
        clear k0 k1 f0 f1 tl5
        have x0 := VX.out.cell 0 rfl
        have x1 := VX.out.cell 1 rfl
        have xl := VX.out.lt
        by_cases hq : q = 0
        · have RE : Hid (argsA ls here (farB op) (tl.drop (j + 1)) (acc ++ [z]) = A) := by
            have h := RT.out
            rw [hq, if_pos rfl] at h
            exact h.symm
          subst hq
          go_wp2_with (at_builtin; refine wp_appA _ rfl _ _ rfl (s + 1) _ acc rfl (RX.out.u.keep (al (Below.refl _ _) _)) X.heap.size 1 1 [z] rfl rfl (one_atA (cell_new rfl)) (by have := AL.out; omega) (by have := RX.out.r.lt; simp; omega) ?_; intro v' w' hN' hG'; have RN : Hid (Rt w w' s mb nn #[.slice a0 l0 c0, .slice a1 l1 c1, .map (some mb)] v' (acc ++ [z]) ls) := ((RX.out.keep (al (Below.refl _ _) _)).push HS.out hG' hN' (HMB.out _ RX.out)); clear hN' hG')
          go_roundw
          case rel => exact ⟨j + 1, acc ++ [z], by have := HL.out; omega, by go_num, by have := AL.out; simp; omega, RN.out, RE⟩
          case measure => have := HL.out; simp [intOf]; omega
        · have RE : Hid (A = (q, [])) := by
            have h := RT.out
            rw [if_neg hq] at h
            exact h
          have hqB : (q != 0) = true := by simpa using hq
          go_wp2_with fail
          go_quiet (fail)
          go_wp2_with fail
          exact bodyPost_ret (v := .tuple #[.slice none 0 0, .int .i64 q]) (by simp [results, Tryz.results51, go_sem]) rfl ⟨_, by rw [RE.out], by rw [RE.out]; exact nums_nilA _ _, drL RX.out.b nq⟩
      have hfar := hfarT
      clear hfarT
      rw [hfar] at FG
      cases hsg : signB x
      case false =>
        rw [hsg] at FH
        have WB : wayB (farB op) (decide (j + 1 = tl.length)) x = false := by unfold wayB; rw [hfar, DL]; exact hsg
        clear hlast DL hfar hsg
        have EA : argO ls here (farB op) (decide (j + 1 = tl.length)) x = (numC x, numX x) := by rw [argO_num WB, argP_num]
        obtain ⟨q, hqd⟩ : ∃ q, numC x = q := ⟨_, rfl⟩
        obtain ⟨z, hzd⟩ : ∃ z, numX x = z := ⟨_, rfl⟩
        rw [hqd, hzd] at EA
        have RT : Hid (A = if q = 0 then argsA ls here (farB op) (tl.drop (j + 1)) (acc ++ [z]) else (q, [])) := by have h := RT0.out; rw [EA] at h; exact h
        have FD := fun w => i_digits x w XL.out
        rw [hqd, hzd] at FD
        clear EA hqd hzd RT0 WB
        go_wp2_with (first | (go_at_call 74; refine (FG _).mono ?_; rintro e y ⟨rfl, rfl⟩) | (go_at_call 75; refine (FH _).mono ?_; rintro e y ⟨rfl, rfl⟩))
        refine (FD _).mono ?_
        rintro e w5 ⟨rfl, b5⟩
        have RX0 : Hid (Rt w w5 s mb nn #[.slice a0 l0 c0, .slice a1 l1 c1, .map (some mb)] (.slice av lv cv) acc ls) := HR.out.keep (on (al (Below.refl _ _) _) b5)
        have V5 : Hid (Vq w5 t #[.int .i64 0, .int .i64 0] 62) := by have h := (Vq.new wr #[.int .i64 0, .int .i64 0] 62).keep b5; rw [HT.out] at h; exact h
        have k0 := V5.out.cell 0 rfl
        have k1 := V5.out.cell 1 rfl
        have f0 := V5.out.free 0
        have f1 := V5.out.free 1
        have tl5 := V5.out.lt
        have VX : Hid (Vq _ t #[.int .i64 q, .int .i64 z] 62) := pair2 V5.out (.int .i64 q) (.int .i64 z)
        have RX : Hid (Rt w _ s mb nn #[.slice a0 l0 c0, .slice a1 l1 c1, .map (some mb)] (.slice av lv cv) acc ls) := HR.out.put2 HT.out HS.out RX0.out HR.out.m.lt (.int .i64 q) (.int .i64 z)
        clear b5 FD RX0
        rw [HT.out]
        go_upto_region 9 with fail
        generalize World.setCell _ ⟨t, 1, none⟩ (.int .i64 z) = X at *
        clear k0 k1 f0 f1 tl5
        have x0 := VX.out.cell 0 rfl
        have x1 := VX.out.cell 1 rfl
        have xl := VX.out.lt
        by_cases hq : q = 0
        · have RE : Hid (argsA ls here (farB op) (tl.drop (j + 1)) (acc ++ [z]) = A) := by
            have h := RT.out
            rw [hq, if_pos rfl] at h
            exact h.symm
          subst hq
          go_wp2_with (at_builtin; refine wp_appA _ rfl _ _ rfl (s + 1) _ acc rfl (RX.out.u.keep (al (Below.refl _ _) _)) X.heap.size 1 1 [z] rfl rfl (one_atA (cell_new rfl)) (by have := AL.out; omega) (by have := RX.out.r.lt; simp; omega) ?_; intro v' w' hN' hG'; have RN : Hid (Rt w w' s mb nn #[.slice a0 l0 c0, .slice a1 l1 c1, .map (some mb)] v' (acc ++ [z]) ls) := ((RX.out.keep (al (Below.refl _ _) _)).push HS.out hG' hN' (HMB.out _ RX.out)); clear hN' hG')
          go_roundw
          case rel => exact ⟨j + 1, acc ++ [z], by have := HL.out; omega, by go_num, by have := AL.out; simp; omega, RN.out, RE⟩
          case measure => have := HL.out; simp [intOf]; omega
        · have RE : Hid (A = (q, [])) := by
            have h := RT.out
            rw [if_neg hq] at h
            exact h
          have hqB : (q != 0) = true := by simpa using hq
          go_wp2_with fail
          go_quiet (fail)
          go_wp2_with fail
          exact bodyPost_ret (v := .tuple #[.slice none 0 0, .int .i64 q]) (by simp [results, Tryz.results51, go_sem]) rfl ⟨_, by rw [RE.out], by rw [RE.out]; exact nums_nilA _ _, drL RX.out.b nq⟩
      rw [hsg] at FH
      have FT := fun w => i_trim x w XN.out XL.out hsg
      have WB : wayB (farB op) (decide (j + 1 = tl.length)) x = true := by unfold wayB; rw [hfar, DL]; exact hsg
      have EA : argO ls here (farB op) (decide (j + 1 = tl.length)) x = wayV ls here (x.drop 1) := by rw [argO_way WB]; rfl
      have FW := fun w h => i_wayTo a0 a1 l0 c0 l1 c1 mb nn (x.drop 1) here ls w h (by have := XL.out; simp; omega) HO.out.2.2 HPx.out
      obtain ⟨q, hqd⟩ : ∃ q, (wayV ls here (x.drop 1)).1 = q := ⟨_, rfl⟩
      obtain ⟨z, hzd⟩ : ∃ z, (wayV ls here (x.drop 1)).2 = z := ⟨_, rfl⟩
      have RT : Hid (A = if q = 0 then argsA ls here (farB op) (tl.drop (j + 1)) (acc ++ [z]) else (q, [])) := by have h := RT0.out; rw [EA, hqd, hzd] at h; exact h
      rw [hqd, hzd] at FW
      obtain ⟨X1, hX1⟩ : ∃ X1, bq (x.drop 1) = X1 := ⟨_, rfl⟩
      rw [hX1] at FT FW
      have SD : Hid (Vq (wr.alloc (.cells #[.int .i64 0, .int .i64 0] 62)).drew s #[.slice a0 l0 c0, .slice a1 l1 c1, .map (some mb)] 56) := HR.out.r.keep (al (Below.refl _ _) _).drew
      have R1 : Hid (Rt w (wr.alloc (.cells #[.int .i64 0, .int .i64 0] 62)).drew s mb nn #[.slice a0 l0 c0, .slice a1 l1 c1, .map (some mb)] (.slice av lv cv) acc ls) := HR.out.keep (al (Below.refl _ _) _).drew
      have V1 : Hid (Vq (wr.alloc (.cells #[.int .i64 0, .int .i64 0] 62)).drew t #[.int .i64 0, .int .i64 0] 62) := by have h := Vq.new wr #[.int .i64 0, .int .i64 0] 62; rw [HT.out] at h; exact h
      clear EA hqd hzd RT0 WB hlast DL hfar hsg hX1
      go_wp2_with (first | (go_at_call 74; refine (FG _).mono ?_; rintro e y ⟨rfl, rfl⟩) | (go_at_call 75; refine (FH _).mono ?_; rintro e y ⟨rfl, rfl⟩))
      rw [HT.out]
      clear FG FH cx gl
      refine wp_region_held (S := fun w' => Vq w' s #[.slice a0 l0 c0, .slice a1 l1 c1, .map (some mb)] 56) (by kernel_rfl) ?_
      change wpAnyH _ _ _ _ _ _ _ _ (World.drew _)
      generalize (wr.alloc (.cells #[.int .i64 0, .int .i64 0] 62)).drew = x0 at *
      refine wpAnyH_take (i := 0) (v := .agg #[.slice a0 l0 c0, .slice a1 l1 c1, .map (some mb)]) rfl (by kernel_rfl) (by kernel_rfl) (by kernel_rfl) (fun _ _ _ h => h) (Or.inl ⟨by rfl, fun w' hs => by have y0 := hs.cell 0 rfl; have y1 := hs.cell 1 rfl; have y2 := hs.cell 2 rfl; go_simp⟩) SD.out ?_
      change wpAnyH _ _ _ _ _ _ _ (Act.put _ (some 35) _) _
      simp only [Act.put, List.setIfInBounds_toArray, List.set_cons_zero, List.set_cons_succ]
      refine wpAnyH_take (i := 1) (v := .string (bq x)) rfl (by kernel_rfl) (by kernel_rfl) (by kernel_rfl) (fun _ _ _ h => h) (Or.inl ⟨by rfl, fun w' hs => by go_simp⟩) SD.out ?_
      change wpAnyH _ _ _ _ _ _ _ (Act.put _ (some 36) _) _
      simp only [Act.put, List.setIfInBounds_toArray, List.set_cons_zero, List.set_cons_succ]
      refine wpAnyH_take (i := 3) (v := .int .i64 here) rfl (by kernel_rfl) (by kernel_rfl) (by kernel_rfl) (fun _ _ _ h => h) (Or.inl ⟨by rfl, fun w' hs => by go_simp⟩) SD.out ?_
      change wpAnyH _ _ _ _ _ _ _ (Act.put _ (some 38) _) _
      simp only [Act.put, List.setIfInBounds_toArray, List.set_cons_zero, List.set_cons_succ]
      refine wpAnyH_ready (rs := [2]) (by kernel_rfl) (by simp) ?_
      refine AllReadyH.cons rfl (fun K hK => ?_) AllReadyH.nil
      rw [if_pos (by rfl)]
      go_simp
      refine (FT _).mono ?_
      rintro e y ⟨rfl, rfl⟩
      refine hK.out _ _ SD.out (fun _ => ?_)
      clear hK K
      refine wpAnyH_ready (rs := [4]) (by kernel_rfl) (by simp) ?_
      refine AllReadyH.cons rfl (fun K hK => ?_) AllReadyH.nil
      rw [if_pos (by rfl)]
      go_simp
      refine (FW _ R1.out.m).mono ?_
      rintro e w5 ⟨rfl, b5⟩
      have S5 : Hid (Vq w5 s #[.slice a0 l0 c0, .slice a1 l1 c1, .map (some mb)] 56) := SD.out.keep b5
      have RX0 : Hid (Rt w w5 s mb nn #[.slice a0 l0 c0, .slice a1 l1 c1, .map (some mb)] (.slice av lv cv) acc ls) := R1.out.keep b5
      have V5 : Hid (Vq w5 t #[.int .i64 0, .int .i64 0] 62) := V1.out.keep b5
      clear b5
      refine hK.out _ _ S5.out (fun _ => ?_)
      clear hK K
      have k0 := V5.out.cell 0 rfl
      have k1 := V5.out.cell 1 rfl
      have f0 := V5.out.free 0
      have f1 := V5.out.free 1
      have tl5 := V5.out.lt
      have VX : Hid (Vq _ t #[.int .i64 q, .int .i64 z] 62) := pair2 V5.out (.int .i64 q) (.int .i64 z)
      have RX : Hid (Rt w _ s mb nn #[.slice a0 l0 c0, .slice a1 l1 c1, .map (some mb)] (.slice av lv cv) acc ls) := HR.out.put2 HT.out HS.out RX0.out HR.out.m.lt (.int .i64 q) (.int .i64 z)
      refine wpAnyH_ready (rs := [5]) (by kernel_rfl) (by simp) ?_
      refine AllReadyH.cons rfl (fun K hK => ?_) AllReadyH.nil
      rw [if_pos (by rfl)]
      go_simp
      refine hK.out _ _ RX.out.r (fun _ => ?_)
      clear hK K
      refine wpAnyH_done (by kernel_rfl) ?_ _
      generalize World.setCell _ ⟨t, 1, none⟩ (.int .i64 z) = X at *
      clear k0 k1 f0 f1 tl5 FT FW
      have x0 := VX.out.cell 0 rfl
      have x1 := VX.out.cell 1 rfl
      have xl := VX.out.lt
      by_cases hq : q = 0
      · have RE : Hid (argsA ls here (farB op) (tl.drop (j + 1)) (acc ++ [z]) = A) := by
          have h := RT.out
          rw [hq, if_pos rfl] at h
          exact h.symm
        subst hq
        go_wp2_with (at_builtin; refine wp_appA _ rfl _ _ rfl (s + 1) _ acc rfl (RX.out.u.keep (al (Below.refl _ _) _)) X.heap.size 1 1 [z] rfl rfl (one_atA (cell_new rfl)) (by have := AL.out; omega) (by have := RX.out.r.lt; simp; omega) ?_; intro v' w' hN' hG'; have RN : Hid (Rt w w' s mb nn #[.slice a0 l0 c0, .slice a1 l1 c1, .map (some mb)] v' (acc ++ [z]) ls) := ((RX.out.keep (al (Below.refl _ _) _)).push HS.out hG' hN' (HMB.out _ RX.out)); clear hN' hG')
        go_roundw
        case rel => exact ⟨j + 1, acc ++ [z], by have := HL.out; omega, by go_num, by have := AL.out; simp; omega, RN.out, RE⟩
        case measure => have := HL.out; simp [intOf]; omega
      · have RE : Hid (A = (q, [])) := by
          have h := RT.out
          rw [if_neg hq] at h
          exact h
        have hqB : (q != 0) = true := by simpa using hq
        go_wp2_with fail
        go_quiet (fail)
        go_wp2_with fail
        exact bodyPost_ret (v := .tuple #[.slice none 0 0, .int .i64 q]) (by simp [results, Tryz.results51, go_sem]) rfl ⟨_, by rw [RE.out], by rw [RE.out]; exact nums_nilA _ _, drL RX.out.b nq⟩
    · have hJ : ¬ (j : Int) < (n : Int) := by omega
      have RE : Hid (A = (0, acc)) := by
        show _ = _
        rw [← hT.out, List.drop_eq_nil_of_le (by have := HN.out; omega), argsA]
      clear hT hR
      go_wp2_with fail
      exact bodyPost_ret (v := .tuple #[.slice av lv cv, .int .i64 0]) (by simp [results, Tryz.results51, go_sem]) rfl ⟨_, by rw [RE.out], by rw [RE.out]; exact HR.out.u.mono (by have := HS.out; omega), HR.out.b⟩
end Go.Proofs.YtdmlejfopmimfaaGreatDoor
