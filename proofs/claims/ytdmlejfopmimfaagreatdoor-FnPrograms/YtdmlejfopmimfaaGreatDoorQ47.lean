/- Texts of this seat, joined. -/
import Derived.Test.YtdmlejfopmimfaaGreatDoorQ46
namespace Go.Proofs.YtdmlejfopmimfaaGreatDoor
open Go.RowKit
set_option linter.unusedVariables false

theorem words_ne (l x : Wb) (h : x ∈ wordsM l) : x ≠ [] := by
  unfold wordsM at h
  have := (List.mem_filter.1 h).2
  unfold neB at this
  intro e
  subst e
  simp at this
theorem cutT_ne (tx : Wb) (j : Nat) (hj : j < (cutT tx).length) : ∀ i, i < ((cutT tx).getD j []).length → ((cutT tx).getD j []).getD i [] ≠ [] := by
  have hn : (cutT tx).length = (linesM tx).length := cutT_len tx
  have e : (cutT tx).getD j [] = wordsM ((linesM tx).getD j []) := by
    rw [cutT_eq]
    simp [List.getD, List.getElem?_map, List.getElem?_eq_getElem (show j < (linesM tx).length by omega)]
  rw [e]
  exact fun i hi => words_ne _ _ (getD_memL _ i [] hi)
/-- What the program's loop keeps. -/
structure Ra (w wr : World) (s q b0 mb n : Nat) (cs : Array Value) (lv v : Value) (acc : List Int) (ls : List Lbl) (W : List (List Wb)) : Prop where
  r : Vq wr s #[.int .i64 0, .int .i64 0, .slice none 0 0] 31
  o : Vq wr q cs 56
  u : Nums wr (q + 1) v acc
  m : Sm wr mb n ls
  l : Li wr b0 mb lv W
  b : Below w.heap.size w wr
  hs : w.heap.size = s
  sq : s < q
  mq : mb < q
  up : ∀ k, lv.ownBlock = some k → k < q
theorem Ra.keep {w wr w' : World} {s q b0 mb n : Nat} {cs : Array Value} {lv v : Value} {acc : List Int} {ls : List Lbl} {W : List (List Wb)} (h : Ra w wr s q b0 mb n cs lv v acc ls W) (b : Below wr.heap.size wr w') : Ra w w' s q b0 mb n cs lv v acc ls W :=
  ⟨h.r.keep b, h.o.keep b, h.u.keep b, h.m.keep b, h.l.keep b, on h.b b, h.hs, h.sq, h.mq, h.up⟩
theorem Ra.push {w wr w' : World} {s q b0 mb n : Nat} {cs : Array Value} {lv v v' : Value} {acc acc' : List Int} {ls : List Lbl} {W : List (List Wb)} (h : Ra w wr s q b0 mb n cs lv v acc ls W) (hG : wr.grownBy w' v.ownBlock) (hN : Nums w' (q + 1) v' acc') : Ra w w' s q b0 mb n cs lv v' acc' ls W := by
  have hv : ∀ k, v.ownBlock = some k → q + 1 ≤ k := fun k e => (h.u.lt k e).1
  refine ⟨h.r.gr hG (fun e => by have := hv s e.symm; have := h.sq; omega), h.o.gr hG (fun e => by have := hv q e.symm; omega), hN, h.m.kept hG (fun e => by have := hv mb e.symm; have := h.mq; omega), ?_, ?_, h.hs, h.sq, h.mq, h.up⟩
  · exact Li.gr (mb := q) h.l hG (fun k e => .inr (by have := hv k e; omega)) (by have := h.mq; omega) h.up
  · exact h.b.grown hG h.b.size (fun k e => by have := hv k e; have := h.sq; have := h.hs; omega)
theorem nums_put3 {w : World} {b s : Nat} {v : Value} {z : List Int} (h : Nums w b v z) (ht : s < b) (x y u : Value) : Nums (((w.setCell ⟨s, 0, none⟩ x).setCell ⟨s, 1, none⟩ y).setCell ⟨s, 2, none⟩ u) b v z := by
  have sl : ∀ (w : World) (i : Nat) (x : Value), Nums w b v z → Nums (w.setCell ⟨s, i, none⟩ x) b v z := fun w i x h2 => h2.put _ _ (fun e => by have h9 : b ≤ s := (h2.lt _ e).1; omega)
  exact sl _ _ _ (sl _ _ _ (sl _ _ _ h))
set_option maxRecDepth 20000 in
set_option maxHeartbeats 8000000 in
theorem i_assemble (tx : Wb) (w : World) (hl : tx.length ≤ 1048576) :
    Calls Tryz.prog 8 #[.string (bq tx)] w fun e w' => ∃ v, e = .returned (.agg #[.int .i64 (asmV tx).1, .int .i64 ((asmV tx).2.1 : Nat), v]) ∧ Nums w' w.heap.size v (asmV tx).2.2 ∧ Below w.heap.size w w' := by
  have hso := fun w => i_source_all tx w hl
  have HW : Hid ((labV tx).1 = 0 → (cutT tx).length ≤ 80 ∧ ∀ j, j < (cutT tx).length → ((cutT tx).getD j []).length ≤ 1501 ∧ ∀ i, i < ((cutT tx).getD j []).length → (((cutT tx).getD j []).getD i []).length ≤ 1500 ∧ ((cutT tx).getD j []).getD i [] ≠ []) := by
    intro h0
    unfold labV at h0
    split at h0
    · cases h0
    · rename_i hc
      refine ⟨by rw [cutT_len]; omega, fun j hj => ?_⟩
      have h1 := cutT_words tx (by omega) j hj
      exact ⟨h1.1, fun i hi => ⟨h1.2 i hi, cutT_ne tx j hj i hi⟩⟩
  have HPL : Hid (∀ x p, findL (labV tx).2.2 x = some p → p ≤ 1000000) := fun x p h => by have := labV_place tx h; omega
  have EV : Hid (asmV tx = if (labV tx).1 = 0 then asmR (labV tx).2.2 (cutT tx) 0 [] else ((labV tx).1, (labV tx).2.1, [])) := rfl
  obtain ⟨A, hA⟩ : ∃ A, asmV tx = A := ⟨_, rfl⟩
  rw [hA]
  rw [hA] at EV
  generalize cutT tx = W at *
  generalize labV tx = T at *
  obtain ⟨C, P, Z⟩ := T
  clear hA
  simp only at HW HPL EV hso
  obtain ⟨s, hS⟩ : ∃ s, w.heap.size = s := ⟨_, rfl⟩
  have HS : Hid (w.heap.size = s) := hS
  generalize hw0 : w.alloc (.cells #[.int .i64 0, .int .i64 0, .slice none 0 0] 31) = w0
  have V0 : Hid (Vq w0 s #[.int .i64 0, .int .i64 0, .slice none 0 0] 31) := by show Vq _ _ _ _; rw [← hw0, ← hS]; exact Vq.new _ _ _
  have B0 : Hid (Below w.heap.size w w0) := by show Below _ _ _; rw [← hw0]; exact al (Below.refl _ _) _
  go_enter Tryz.func8, Tryz.ntmps8
  go_wp2_with fail
  refine (hso _).mono ?_
  rintro e w1 ⟨lv, v, mv, rfl, R⟩
  clear hso hw0 hS
  obtain ⟨av1, cv1, rfl, _⟩ := R.l.shape
  obtain ⟨a, m, c, om, rfl, rfl⟩ := R.sh
  obtain ⟨lv1, hlv1⟩ : ∃ lv1, Z.length = lv1 := ⟨_, rfl⟩
  simp only [hlv1]
  obtain ⟨q, hq⟩ : ∃ q, w1.heap.size = q := ⟨_, rfl⟩
  have SQ : Hid (s < q) := by show _ < _; have := R.b.size; have := V0.out.lt; omega
  have V1 : Hid (Vq (w1.alloc (.cells #[.slice a m c, .slice av1 lv1 cv1, .map om] 56)) s #[.int .i64 0, .int .i64 0, .slice none 0 0] 31) := (V0.out.keep R.b).keep (al (Below.refl _ _) _)
  have O1 : Hid (Vq (w1.alloc (.cells #[.slice a m c, .slice av1 lv1 cv1, .map om] 56)) q #[.slice a m c, .slice av1 lv1 cv1, .map om] 56) := by show Vq _ _ _ _; rw [← hq]; exact Vq.new _ _ _
  have B1 : Hid (Below w.heap.size w (w1.alloc (.cells #[.slice a m c, .slice av1 lv1 cv1, .map om] 56))) := al (on B0.out R.b) _
  by_cases hC : C = 0
  case neg =>
    have EA : Hid (A = (C, P, [])) := by show _ = _; rw [EV.out, if_neg hC]
    have hCB : (C != 0) = true := by simpa using hC
    clear HW HPL EV R hq hlv1 O1
    go_upto_region 2 with fail
    generalize w1.alloc (.cells #[.slice a m c, .slice av1 lv1 cv1, .map om] 56) = X at *
    have k0 := V1.out.cell 0 rfl
    have k1 := V1.out.cell 1 rfl
    have k2 := V1.out.cell 2 rfl
    have f0 := V1.out.free 0
    have f1 := V1.out.free 1
    have f2 := V1.out.free 2
    have lk := V1.out.lt
    have NN : Hid (Vq _ s #[.int .i64 C, .int .i64 P, .slice none 0 0] 31) := three3 V1.out (.int .i64 C) (.int .i64 P) (.slice none 0 0)
    have BN : Hid (Below w.heap.size w _) := below3 B1.out (show w.heap.size ≤ s by have := HS.out; omega) (.int .i64 C) (.int .i64 P) (.slice none 0 0)
    go_wp2_with fail
    generalize World.setCell _ ⟨s, 2, none⟩ (.slice none 0 0) = V at *
    have x0 := NN.out.cell 0 rfl
    have x1 := NN.out.cell 1 rfl
    have x2 := NN.out.cell 2 rfl
    exact bodyPost_ret (v := .agg #[.int .i64 C, .int .i64 P, .slice none 0 0]) (by simp [results, Tryz.results8, go_sem, x0, x1, x2]) rfl ⟨_, by rw [EA.out], by rw [EA.out]; exact nums_nilA _ _, BN.out⟩
  subst hC
  obtain ⟨b0, mb, n, hmv, S1, L1⟩ := R.g rfl
  cases hmv
  have hm : m = W.length := by
    obtain ⟨a', c', e⟩ := L1.shape
    cases e
    rfl
  have HW2 : Hid (∀ j, j < W.length → (W.getD j []).length ≤ 1501 ∧ ∀ i, i < (W.getD j []).length → ((W.getD j []).getD i []).length ≤ 1500 ∧ (W.getD j []).getD i [] ≠ []) := (HW.out rfl).2
  have HM : Hid (m = W.length ∧ m ≤ 80) := ⟨hm, by have := (HW.out rfl).1; omega⟩
  have hmI : (m : Int) ≤ 80 := by have := HM.out; omega
  have EA : Hid (asmR Z (W.drop 0) 0 [] = A) := by show _ = _; rw [EV.out, if_pos rfl]; rfl
  have R1 : Hid (Ra w (w1.alloc (.cells #[.slice a m c, .slice av1 lv1 cv1, .map (some mb)] 56)) s q b0 mb n #[.slice a m c, .slice av1 lv1 cv1, .map (some mb)] (.slice a m c) (.slice none 0 0) [] Z W) := by
    have bb : Below w1.heap.size w1 (w1.alloc (.cells #[.slice a m c, .slice av1 lv1 cv1, .map (some mb)] 56)) := al (Below.refl _ _) _
    refine ⟨V1.out, O1.out, nums_nilA _ _, S1.keep bb, L1.keep bb, B1.out, HS.out, SQ.out, by have := S1.lt; omega, fun k e => by have := (L1.own k e).2; omega⟩
  clear EV R hlv1 V1 O1 B1 SQ S1 L1 hm
  go_upto_region 2 with fail
  clear hq
  generalize w1.alloc (.cells #[.slice a m c, .slice av1 lv1 cv1, .map (some mb)] 56) = X at *
  have o0 := R1.out.o.cell 0 rfl
  go_wp2_with fail
  clear o0
  go_loopw [6, 24] (fun u i wr => ∃ (j : Nat) (acc : List Int), j ≤ m ∧ i = .int .i64 j ∧ acc.length ≤ j ∧ Ra w wr s q b0 mb n #[.slice a m c, .slice av1 lv1 cv1, .map (some mb)] (.slice a m c) u acc Z W ∧ Hid (asmR Z (W.drop j) j acc = A)) (fun _ i _ => m - (intOf i).toNat)
  case atStart => exact ⟨0, [], Nat.zero_le _, rfl, by simp, R1.out, EA⟩
  case round =>
    clear R1 EA
    obtain ⟨j, acc, hj, rfl, hal, hR, hT⟩ := hrel
    obtain ⟨av, cv, rfl, _⟩ := hR.u.shape
    obtain ⟨lv, hlv⟩ : ∃ lv, acc.length = lv := ⟨_, rfl⟩
    have AL : Hid (acc.length = lv ∧ lv ≤ j ∧ lv ≤ 80) := ⟨hlv, by omega, by have := HM.out; omega⟩
    rw [hlv] at hR ⊢
    have HR : Hid (Ra w wr s q b0 mb n #[.slice a m c, .slice av1 lv1 cv1, .map (some mb)] (.slice a m c) (.slice av lv cv) acc Z W) := hR
    have hlvI : (lv : Int) ≤ 80 := by have := AL.out; omega
    clear hlv hal
    by_cases hlt : j < m
    · have hJ : (j : Int) < (m : Int) := by omega
      have HL : Hid (j < m) := hlt
      obtain ⟨g, cap, aj, nj, cj, hv, cx, hO⟩ := hR.l.at j (by have := HM.out; omega)
      rw [← HM.out.1] at hv
      cases hv
      obtain ⟨q1, q2⟩ := HW2.out j (by have := HM.out; omega)
      have RT0 : Hid (A = _) := hT.out.symm.trans (asmR_at Z W j j acc (by have := HM.out; omega))
      obtain ⟨ws, hws⟩ : ∃ ws, W.getD j [] = ws := ⟨_, rfl⟩
      rw [hws] at hO q1 q2
      have RT : Hid (A = if imgB ws = true then (if (lineV Z lv ws).1 = 0 then asmR Z (W.drop (j + 1)) (j + 1) (acc ++ [(lineV Z lv ws).2]) else ((lineV Z lv ws).1, j, [])) else asmR Z (W.drop (j + 1)) (j + 1) acc) := by
        have h := RT0.out
        simp only [hws, AL.out.1] at h
        exact h
      have RS : Hid (Rs wr aj nj cj ws) := hO.rs
      have NJ : Hid (nj = ws.length ∧ nj ≤ 1501) := by have := hO.rs.len; exact ⟨this, by omega⟩
      have AJ : Hid (∀ y, aj = some y → ∃ g, y = ⟨g, 0, none⟩) := by
        obtain ⟨a', c', e, _, _, _, e4⟩ := hO.shape
        cases e
        exact e4
      have XL : Hid (∀ i, i < ws.length → (ws.getD i []).length ≤ 1500 ∧ ws.getD i [] ≠ []) := q2
      have hI := fun w h => i_isImage aj nj cj ws w h (by have := NJ.out; omega)
      clear RT0 hws hT hlt hO q1 q2 hR hj
      cases him : imgB ws
      · rw [him] at hI
        have RE : Hid (asmR Z (W.drop (j + 1)) (j + 1) acc = A) := by
          have h := RT.out
          rw [him, if_neg Bool.false_ne_true] at h
          exact h.symm
        clear RT him
        go_wp2_with (go_at_call 24; refine (hI _ RS.out).mono ?_; rintro e x ⟨rfl, rfl⟩)
        go_roundw
        case rel => exact ⟨j + 1, acc, by have := HL.out; omega, by go_num, by have := AL.out; omega, HR.out, RE⟩
        case measure => have := HL.out; simp [intOf]; omega
      · rw [him] at hI
        have W0 : Hid (0 < nj) := by
          show _ < _
          rw [NJ.out.1]
          cases ws with
          | nil => simp [imgB] at him
          | cons x r => simp
        obtain ⟨z, hzc⟩ : ∃ z, lineV Z lv ws = z := ⟨_, rfl⟩
        have RT2 : Hid (A = if z.1 = 0 then asmR Z (W.drop (j + 1)) (j + 1) (acc ++ [z.2]) else (z.1, j, [])) := by
          have h := RT.out
          rw [him, if_pos rfl, hzc] at h
          exact h
        obtain ⟨gw, egw⟩ : ∃ gw, aj = some ⟨gw, 0, none⟩ := by
          obtain ⟨y, ey, _⟩ := RS.out.at 0 W0.out
          obtain ⟨gw, e2⟩ := AJ.out y ey
          exact ⟨gw, by rw [ey, e2]⟩
        subst egw
        have FW := i_wordOfLine (some ⟨g, 0, none⟩) av1 m c lv1 cv1 mb n gw nj cj ws lv Z wr HR.out.m RS.out W0.out (by have := NJ.out; omega) XL.out (by have := AL.out; omega) HPL.out
        rw [hzc] at FW
        obtain ⟨z1, z2⟩ := z
        simp only at FW RT2
        have o0 := HR.out.o.cell 0 rfl
        have o1 := HR.out.o.cell 1 rfl
        have o2 := HR.out.o.cell 2 rfl
        clear RT him hzc
        go_wp2_with (go_at_call 24; refine (hI _ RS.out).mono ?_; rintro e x ⟨rfl, rfl⟩)
        refine FW.mono ?_
        rintro e w5 ⟨rfl, b5⟩
        have R5 : Hid (Ra w (w5.alloc (.cells #[.int .i64 z1, .int .i64 z2] 62)) s q b0 mb n #[.slice (some ⟨g, 0, none⟩) m c, .slice av1 lv1 cv1, .map (some mb)] (.slice (some ⟨g, 0, none⟩) m c) (.slice av lv cv) acc Z W) := HR.out.keep (al b5 _)
        have V5 : Hid (Vq (w5.alloc (.cells #[.int .i64 z1, .int .i64 z2] 62)) w5.heap.size #[.int .i64 z1, .int .i64 z2] 62) := Vq.new _ _ _
        obtain ⟨u, hu⟩ : ∃ u, w5.heap.size = u := ⟨_, rfl⟩
        rw [hu] at V5
        clear b5 FW o0 o1 o2 cx hI
        go_upto_region 10 with fail
        clear hu
        generalize w5.alloc (.cells #[.int .i64 z1, .int .i64 z2] 62) = X at *
        have v0 := V5.out.cell 0 rfl
        have v1 := V5.out.cell 1 rfl
        have vl := V5.out.lt
        by_cases hz : z1 = 0
        · have RE : Hid (asmR Z (W.drop (j + 1)) (j + 1) (acc ++ [z2]) = A) := by
            have h := RT2.out
            rw [if_pos hz] at h
            exact h.symm
          subst hz
          go_wp2_with (at_builtin; refine wp_appA _ rfl _ _ rfl (q + 1) _ acc rfl (R5.out.u.keep (al (Below.refl _ _) _)) X.heap.size 1 1 [z2] rfl rfl (one_atA (cell_new rfl)) (by have := AL.out; omega) (by have := R5.out.o.lt; simp; omega) ?_; intro v' w' hN' hG'; have RN : Hid (Ra w w' s q b0 mb n #[.slice (some ⟨g, 0, none⟩) m c, .slice av1 lv1 cv1, .map (some mb)] (.slice (some ⟨g, 0, none⟩) m c) v' (acc ++ [z2]) Z W) := ((R5.out.keep (al (Below.refl _ _) _)).push hG' hN'); clear hN' hG')
          go_roundw
          case rel => exact ⟨j + 1, acc ++ [z2], by have := HL.out; omega, by go_num, by have := AL.out; simp; omega, RN.out, RE⟩
          case measure => have := HL.out; simp [intOf]; omega
        · have RE : Hid (A = (z1, j, [])) := by
            have h := RT2.out
            rw [if_neg hz] at h
            exact h
          have hzB : (z1 != 0) = true := by simpa using hz
          have k0 := R5.out.r.cell 0 rfl
          have k1 := R5.out.r.cell 1 rfl
          have k2 := R5.out.r.cell 2 rfl
          have f0 := R5.out.r.free 0
          have f1 := R5.out.r.free 1
          have f2 := R5.out.r.free 2
          have lk := R5.out.r.lt
          have NN : Hid (Vq _ s #[.int .i64 z1, .int .i64 j, .slice none 0 0] 31) := three3 R5.out.r (.int .i64 z1) (.int .i64 j) (.slice none 0 0)
          have BN : Hid (Below w.heap.size w _) := below3 R5.out.b (show w.heap.size ≤ s by have := HS.out; omega) (.int .i64 z1) (.int .i64 j) (.slice none 0 0)
          go_wp2_with fail
          generalize World.setCell _ ⟨s, 2, none⟩ (.slice none 0 0) = V at *
          have x0 := NN.out.cell 0 rfl
          have x1 := NN.out.cell 1 rfl
          have x2 := NN.out.cell 2 rfl
          exact bodyPost_ret (v := .agg #[.int .i64 z1, .int .i64 j, .slice none 0 0]) (by simp [results, Tryz.results8, go_sem, x0, x1, x2]) rfl ⟨_, by rw [RE.out], by rw [RE.out]; exact nums_nilA _ _, BN.out⟩
    · have hJ : ¬ (j : Int) < (m : Int) := by omega
      have RE : Hid (A = (0, 0, acc)) := by
        show _ = _
        rw [← hT.out, List.drop_eq_nil_of_le (by have := HM.out; omega), asmR]
      have k0 := HR.out.r.cell 0 rfl
      have k1 := HR.out.r.cell 1 rfl
      have k2 := HR.out.r.cell 2 rfl
      have f0 := HR.out.r.free 0
      have f1 := HR.out.r.free 1
      have f2 := HR.out.r.free 2
      have lk := HR.out.r.lt
      have NN : Hid (Vq _ s #[.int .i64 0, .int .i64 0, .slice av lv cv] 31) := three3 HR.out.r (.int .i64 0) (.int .i64 0) (.slice av lv cv)
      have BN : Hid (Below w.heap.size w _) := below3 HR.out.b (show w.heap.size ≤ s by have := HS.out; omega) (.int .i64 0) (.int .i64 0) (.slice av lv cv)
      have NU : Hid (Nums _ w.heap.size (.slice av lv cv) acc) := (nums_put3 (s := s) (b := q + 1) HR.out.u (by have := HR.out.sq; omega) (.int .i64 0) (.int .i64 0) (.slice av lv cv)).mono (show w.heap.size ≤ q + 1 by have := HR.out.sq; have := HS.out; omega)
      clear hT hR
      go_wp2_with fail
      generalize World.setCell _ ⟨s, 2, none⟩ (.slice av lv cv) = V at *
      have x0 := NN.out.cell 0 rfl
      have x1 := NN.out.cell 1 rfl
      have x2 := NN.out.cell 2 rfl
      exact bodyPost_ret (v := .agg #[.int .i64 0, .int .i64 0, .slice av lv cv]) (by simp [results, Tryz.results8, go_sem, x0, x1, x2]) rfl ⟨_, by rw [RE.out]; rfl, by rw [RE.out]; exact NU.out, BN.out⟩
end Go.Proofs.YtdmlejfopmimfaaGreatDoor
