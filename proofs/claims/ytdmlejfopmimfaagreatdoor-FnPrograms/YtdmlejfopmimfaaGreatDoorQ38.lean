/- Texts of this seat, joined. -/
import Derived.Deep.CutRange
import Derived.Test.YtdmlejfopmimfaaGreatDoorQ37
namespace Go.Proofs.YtdmlejfopmimfaaGreatDoor
open Go.RowKit
set_option linter.unusedVariables false

theorem cutT_words (tx : Wb) (hl : tx.length ≤ 1500) (j : Nat) (hj : j < (cutT tx).length) : ((cutT tx).getD j []).length ≤ 1501 ∧ ∀ i, i < ((cutT tx).getD j []).length → (((cutT tx).getD j []).getD i []).length ≤ 1500 := by
  have hn : (cutT tx).length = (linesM tx).length := cutT_len tx
  have e : (cutT tx).getD j [] = wordsM ((linesM tx).getD j []) := by
    rw [cutT_eq]
    simp [List.getD, List.getElem?_map, List.getElem?_eq_getElem (show j < (linesM tx).length by omega)]
  have l1 := lines_mem tx _ (getD_memL (linesM tx) j [] (by omega))
  rw [e]
  refine ⟨?_, fun i hi => Nat.le_trans (words_mem _ _ (getD_memL _ i [] hi)) (by omega)⟩
  unfold wordsM
  have h1 := List.length_filter_le neB (spl 32 ((linesM tx).getD j []) [])
  have h2 := spl_len 32 ((linesM tx).getD j []) []
  omega
theorem cutT_few (tx : Wb) (hl : tx.length ≤ 1500) : (cutT tx).length ≤ 1501 := by
  rw [cutT_len]
  unfold linesM dropE
  have := spl_len 10 tx []
  split
  · rw [List.length_dropLast]; omega
  · omega
/-- What readSource answers. -/
structure Rsd (w w' : World) (W : List (List Wb)) (lv v mv : Value) (R : Int × Nat × List Lbl) : Prop where
  l : Lb w' w.heap.size v R.2.2
  g : R.1 = 0 → ∃ b0 mb n, mv = .map (some mb) ∧ Sm w' mb n R.2.2 ∧ Li w' b0 mb lv W
  b : Below w.heap.size w w'
  sh : ∃ a m c o, lv = .slice a m c ∧ mv = .map o
theorem rsd_bad {w w' : World} {W : List (List Wb)} {R : Int × Nat × List Lbl} {f : Int} {j : Nat} (h : R = (f, j, [])) (hf : ¬ f = 0) (b : Below w.heap.size w w') : Rsd w w' W (.slice none 0 0) (.slice none 0 0) (.map none) R := by
  subst h
  exact ⟨Lb.nil _ _, fun h => absurd h hf, b, ⟨_, _, _, _, rfl, rfl⟩⟩
theorem back3 {w wr : World} {s mb m c : Nat} {a : Option Addr} {v : Value} {acc am : List Lbl} {W : List (List Wb)} {x y z : Value} (h : Rd w wr (s + 1) mb (.slice a m c) v acc am W) (hs : w.heap.size = s) :
    Lb (((wr.setCell ⟨s, 0, none⟩ x).setCell ⟨s, 1, none⟩ y).setCell ⟨s, 2, none⟩ z) w.heap.size v acc ∧ Sm (((wr.setCell ⟨s, 0, none⟩ x).setCell ⟨s, 1, none⟩ y).setCell ⟨s, 2, none⟩ z) mb am.length am ∧ Li (((wr.setCell ⟨s, 0, none⟩ x).setCell ⟨s, 1, none⟩ y).setCell ⟨s, 2, none⟩ z) (s + 1) mb (.slice a m c) W := by
  have st : ∀ (u : World) (i : Nat) (x : Value), Li u (s + 1) mb (.slice a m c) W → Li (u.setCell ⟨s, i, none⟩ x) (s + 1) mb (.slice a m c) W := fun u i x h2 =>
    Li.gr h2 (grown_setL u ⟨s, i, none⟩ x) (fun k e => by cases e; exact .inl (Nat.lt_succ_self _)) (Nat.le_refl _) h.up
  have sm : ∀ (u : World) (i : Nat) (x : Value), Sm u mb am.length am → Sm (u.setCell ⟨s, i, none⟩ x) mb am.length am := fun u i x h2 => h2.put (by have := h.lo; show mb ≠ s; omega) _
  have sl : ∀ (u : World) (i : Nat) (x : Value), Lb u (mb + 1) v acc → Lb (u.setCell ⟨s, i, none⟩ x) (mb + 1) v acc := fun u i x h2 => h2.put _ _ (fun e => by have h9 : mb + 1 ≤ s := (h2.lt _ e).1; have := h.lo; omega)
  exact ⟨(sl _ _ _ (sl _ _ _ (sl _ _ _ h.l))).mono (by have := h.lo; omega), sm _ _ _ (sm _ _ _ (sm _ _ _ h.m)), st _ _ _ (st _ _ _ (st _ _ _ h.li))⟩
set_option maxRecDepth 20000 in
set_option maxHeartbeats 2000000 in
theorem i_source_long (tx : Wb) (w : World) (hl : tx.length ≤ 1048576) (hb : 1500 < tx.length) :
    Calls Tryz.prog 23 #[.string (bq tx)] w fun e w' => e = .returned (.tuple #[.agg #[.slice none 0 0, .slice none 0 0, .map none], .int .i64 2, .int .i64 0]) ∧ Below w.heap.size w w' := by
  have hz : (bq tx).size = tx.length := bq_size tx
  obtain ⟨n, hn⟩ : ∃ n, tx.length = n := ⟨_, rfl⟩
  rw [hn] at hz hl hb
  have hnI : (n : Int) ≤ 1048576 := by omega
  have hbI : (1500 : Int) < (n : Int) := by omega
  go_enter Tryz.func23, Tryz.ntmps23
  go_wp2_with fail
  exact bodyPost_ret (v := .tuple #[.agg #[.slice none 0 0, .slice none 0 0, .map none], .int .i64 2, .int .i64 0]) (by simp [results, Tryz.results23, go_sem]) rfl ⟨rfl, al (Below.refl _ _) _⟩
set_option maxRecDepth 20000 in
set_option maxHeartbeats 8000000 in
theorem i_source (tx : Wb) (w : World) (hl : tx.length ≤ 1500) :
    Calls Tryz.prog 23 #[.string (bq tx)] w fun e w' => ∃ lv v mv, e = .returned (.tuple #[.agg #[lv, v, mv], .int .i64 (labV tx).1, .int .i64 (labV tx).2.1]) ∧ Rsd w w' (cutT tx) lv v mv (labV tx) := by
  have hz : (bq tx).size = tx.length := bq_size tx
  have hcut := fun w => i_cutLines tx w hl
  have HW : Hid (∀ j, j < (cutT tx).length → ((cutT tx).getD j []).length ≤ 1501 ∧ ∀ i, i < ((cutT tx).getD j []).length → (((cutT tx).getD j []).getD i []).length ≤ 1500) := fun j hj => cutT_words tx hl j hj
  have HV : Hid (labV tx = if 80 < (cutT tx).length then (2, 0, []) else labR (cutT tx) 0 0 []) := by
    show _ = _
    unfold labV
    rw [← cutT_len]
    by_cases h : 80 < (cutT tx).length
    · rw [if_pos (.inr h), if_pos h]
    · rw [if_neg (fun k => k.elim (by omega) h), if_neg h]
  have hfew := cutT_few tx hl
  obtain ⟨n, hn⟩ : ∃ n, tx.length = n := ⟨_, rfl⟩
  rw [hn] at hz hl
  have hnI : (n : Int) ≤ 1500 := by omega
  obtain ⟨T, hT⟩ : ∃ T, labV tx = T := ⟨_, rfl⟩
  rw [hT]
  rw [hT] at HV
  generalize cutT tx = W at *
  clear hT hn
  obtain ⟨s, hs⟩ : ∃ s, w.heap.size = s := ⟨_, rfl⟩
  have HS : Hid (w.heap.size = s) := hs
  generalize hw0 : w.alloc (.cells #[.slice none 0 0, .slice none 0 0, .map none] 56) = w0
  have V0 : Hid (Vq w0 s #[.slice none 0 0, .slice none 0 0, .map none] 56) := by show Vq _ _ _ _; rw [← hw0, ← hs]; exact Vq.new _ _ _
  have B0 : Hid (Below w.heap.size w w0) := by show Below _ _ _; rw [← hw0]; exact al (Below.refl _ _) _
  have Z0 : Hid (w0.heap.size = s + 1) := by show _ = _; rw [← hw0, ← hs]; simp
  go_enter Tryz.func23, Tryz.ntmps23
  go_wp2_with fail
  clear hw0
  refine (hcut _).mono ?_
  rintro e w1 ⟨lv, hi, rfl, L1, b1⟩
  clear hcut
  obtain ⟨a, c, rfl⟩ := L1.shape
  obtain ⟨m, hm⟩ : ∃ m, W.length = m := ⟨_, rfl⟩
  have HM : Hid (W.length = m) := hm
  rw [hm] at L1 ⊢
  clear hm
  obtain ⟨mb, hmb⟩ : ∃ mb, w1.heap.size = mb := ⟨_, rfl⟩
  have SB : Hid (s < mb) := by show _ < _; have := b1.size; have := Z0.out; omega
  have V1 : Hid (Vq (w1.alloc (.map #[] 0)) s #[.slice none 0 0, .slice none 0 0, .map none] 56) := (V0.out.keep b1).keep (al (Below.refl _ _) _)
  have k0 := V1.out.cell 0 rfl
  have k1 := V1.out.cell 1 rfl
  have k2 := V1.out.cell 2 rfl
  have f0 := V1.out.free 0
  have f1 := V1.out.free 1
  have f2 := V1.out.free 2
  have ls := V1.out.lt
  have R1 : Hid (Rd w ((((w1.alloc (.map #[] 0)).setCell ⟨s, 0, none⟩ (.slice a m c)).setCell ⟨s, 1, none⟩ (.slice none 0 0)).setCell ⟨s, 2, none⟩ (.map (some mb))) (s + 1) mb (.slice a m c) (.slice none 0 0) [] [] W) := by
    have ho := L1.own
    have hL : Li (w1.alloc (.map #[] 0)) (s + 1) mb (.slice a m c) W := by
      have h := L1.top
      rw [hmb, Z0.out] at h
      exact h.keep (al (Below.refl _ _) _)
    have hSm : Sm (w1.alloc (.map #[] 0)) mb 0 [] := by rw [← hmb]; exact Sm.made _
    have hup : ∀ k, (Value.slice a m c).ownBlock = some k → k < mb := fun k e => by have := (ho k e).2; omega
    have st : ∀ (u : World) (i : Nat) (x : Value), Li u (s + 1) mb (.slice a m c) W → Li (u.setCell ⟨s, i, none⟩ x) (s + 1) mb (.slice a m c) W := fun u i x h =>
      Li.gr h (grown_setL u ⟨s, i, none⟩ x) (fun k e => by cases e; exact .inl (Nat.lt_succ_self _)) (Nat.le_refl _) hup
    have sm : ∀ (u : World) (i : Nat) (x : Value), Sm u mb 0 [] → Sm (u.setCell ⟨s, i, none⟩ x) mb 0 [] := fun u i x h => h.put (by have := SB.out; show mb ≠ s; omega) _
    refine ⟨?_, st _ _ _ (st _ _ _ (st _ _ _ hL)), Lb.nil _ _, sm _ _ _ (sm _ _ _ (sm _ _ _ hSm)), ?_, by have := HS.out; omega, by have := SB.out; omega, hup⟩
    · rw [HS.out]
      exact heap_setCell_same _ s 2 _ _ _ (heap_setCell_same _ s 1 _ _ _ (heap_setCell_same _ s 0 _ _ _ V1.out))
    · have hb : Below w.heap.size w (w1.alloc (.map #[] 0)) := al (on B0.out b1) _
      exact ((hb.setCell (by have := HS.out; show w.heap.size ≤ s; omega) _).setCell (by have := HS.out; show w.heap.size ≤ s; omega) _).setCell (by have := HS.out; show w.heap.size ≤ s; omega) _
  have hmm : (Instr.makeMap 54 none).run Tryz.prog w1 = .ok (.map (some mb)) (w1.alloc (.map #[] 0)) := by rw [← hmb]; exact run_makeMap _ _
  clear b1 L1 V0 Z0 B0 hmb
  have hmI : (m : Int) ≤ 1501 := by have := HM.out; omega
  clear hfew
  by_cases hm8 : 80 < m
  · have HT : Hid (T = (2, 0, [])) := by show _ = _; rw [HV.out, if_pos (by have := HM.out; omega)]
    have h8I : (80 : Int) < (m : Int) := by omega
    have NN : Hid (Vq _ s #[.slice none 0 0, .slice none 0 0, .map none] 56) := three3 (three3 V1.out (.slice a m c) (.slice none 0 0) (.map (some mb))) (.slice none 0 0) (.slice none 0 0) (.map none)
    have BN := below3 R1.out.b (show w.heap.size ≤ s by have := HS.out; omega) (.slice none 0 0) (.slice none 0 0) (.map none)
    clear R1 HV HW
    go_wp2_with fail
    generalize World.setCell _ ⟨s, 2, none⟩ (.map none) = V at *
    have x0 := NN.out.cell 0 rfl
    have x1 := NN.out.cell 1 rfl
    have x2 := NN.out.cell 2 rfl
    exact bodyPost_ret (v := .tuple #[.agg #[.slice none 0 0, .slice none 0 0, .map none], .int .i64 2, .int .i64 0]) (by simp [results, Tryz.results23, go_sem, x0, x1, x2]) rfl ⟨_, _, _, by rw [HT.out]; rfl, rsd_bad HT.out (by decide) BN⟩
  have h8I : (m : Int) ≤ 80 := by omega
  have HT0 : Hid (labR (W.drop 0) 0 0 [] = T) := by show _ = _; rw [List.drop_zero, HV.out, if_neg (by have := HM.out; omega)]
  have HM8 : Hid (m ≤ 80) := by show _ ≤ _; omega
  clear HV hm8 hmI
  go_wp2_with fail
  clear k0 k1 k2 f0 f1 f2 ls hmm
  generalize (((w1.alloc (.map #[] 0)).setCell ⟨s, 0, none⟩ (.slice a m c)).setCell ⟨s, 1, none⟩ (.slice none 0 0)).setCell ⟨s, 2, none⟩ (.map (some mb)) = W1 at *
  go_loopw [5, 25] (fun p i wr => ∃ (j k : Nat) (acc : List Lbl) (v : Value), j ≤ m ∧ i = .int .i64 j ∧ p = .int .i64 k ∧ k ≤ j ∧ acc.length ≤ j ∧ Rd w wr (s + 1) mb (.slice a m c) v acc acc W ∧ Hid (labR (W.drop j) j k acc = T)) (fun _ i _ => m - (intOf i).toNat)
  case atStart => exact ⟨0, 0, [], _, Nat.zero_le _, rfl, rfl, Nat.le_refl _, by simp, R1.out, HT0⟩
  case round =>
    clear R1 HT0
    obtain ⟨j, k, acc, v, hj, rfl, rfl, hkj, hal, hR, hT⟩ := hrel
    obtain ⟨av, cv, rfl, _⟩ := hR.l.shape
    obtain ⟨lv, hlv⟩ : ∃ lv, acc.length = lv := ⟨_, rfl⟩
    rw [hlv] at hR
    have HA : Hid (acc.length = lv ∧ lv ≤ j ∧ k ≤ j) := ⟨hlv, by omega, hkj⟩
    have HR : Hid (Rd w wr (s + 1) mb (.slice a m c) (.slice av lv cv) acc acc W) := by
      have h := hR
      exact h
    have V1 : Hid (Vq wr s #[.slice a m c, .slice av lv cv, .map (some mb)] 56) := by have h := hR.r; rw [HS.out] at h; exact h
    clear hlv hal hR
    have k0 := V1.out.cell 0 rfl
    have k1 := V1.out.cell 1 rfl
    have k2 := V1.out.cell 2 rfl
    have f0 := V1.out.free 0
    have f1 := V1.out.free 1
    have f2 := V1.out.free 2
    have ls := V1.out.lt
    by_cases hlt : j < m
    · have hJ : (j : Int) < (m : Int) := by omega
      have HL : Hid (j < m) := hlt
      obtain ⟨g, cap, aj, nj, cj, hv, cx, hO⟩ := HR.out.li.at j (by rw [HM.out]; exact hlt)
      rw [HM.out] at hv
      cases hv
      obtain ⟨q1, q2⟩ := HW.out j (by rw [HM.out]; exact hlt)
      have RT : Hid (labR (W.drop j) j k acc = _) := labR_at W j j k acc (by have := HM.out; omega)
      obtain ⟨ws, hws⟩ : ∃ ws, W.getD j [] = ws := ⟨_, rfl⟩
      have RT2 : Hid (T = if labB ws = true then if ws.length = 2 ∧ nameB (ws.getD 1 []) = true then if findL acc (ws.getD 1 []) = none then labR (W.drop (j + 1)) (j + 1) k (acc ++ [(ws.getD 1 [], k)]) else (6, j, []) else (5, j, []) else labR (W.drop (j + 1)) (j + 1) (if ws = [] then k else k + 1) acc) := by
        show _ = _
        rw [← hT.out, RT.out]
        simp only [hws]
      rw [hws] at hO q1 q2
      have OS : Hid (Os wr (s + 1) (.slice aj nj cj) ws) := hO
      have NJ : Hid (nj = ws.length ∧ nj ≤ 1501) := by have := hO.rs.len; exact ⟨this, by omega⟩
      have AJ : Hid (∀ y, aj = some y → ∃ g, y = ⟨g, 0, none⟩) := by
        obtain ⟨a', c', e, _, _, _, e4⟩ := hO.shape
        cases e
        exact e4
      have WL : Hid (∀ i, i < ws.length → (ws.getD i []).length ≤ 1500) := q2
      clear RT hws hT hlt hO q1 q2
      have hI := fun w h => i_isImage aj nj cj ws w h (by have := NJ.out; omega)
      have hB := fun w h => i_isLabel aj nj cj ws w h (by have := NJ.out; omega)
      have hkI : (k : Int) ≤ 80 := by have := HA.out; have := HM8.out; have := HL.out; omega
      cases hlab : labB ws
      · rw [hlab] at hB
        by_cases hne : ws = []
        · have him : imgB ws = false := by rw [hne]; rfl
          rw [him] at hI
          have RE : Hid (labR (W.drop (j + 1)) (j + 1) k acc = T) := by
            have h := RT2.out
            rw [hlab, if_neg Bool.false_ne_true, if_pos hne] at h
            exact h.symm
          clear RT2 hne hlab him
          go_wp2_with (first | (go_at_call 24; refine (hI _ OS.out.rs).mono ?_; rintro e x ⟨rfl, rfl⟩) | (go_at_call 45; refine (hB _ OS.out.rs).mono ?_; rintro e x ⟨rfl, rfl⟩))
          go_roundw
          case rel => exact ⟨j + 1, k, acc, _, by have := HL.out; omega, by go_num, rfl, by have := HA.out; omega, by have := HA.out; omega, HR.out, RE⟩
          case measure => have := HL.out; simp [intOf]; omega
        · have him : imgB ws = true := by
            cases ws with
            | nil => exact absurd rfl hne
            | cons x r => simp only [labB, imgB] at hlab ⊢; rw [hlab]; rfl
          rw [him] at hI
          have RE : Hid (labR (W.drop (j + 1)) (j + 1) (k + 1) acc = T) := by
            have h := RT2.out
            rw [hlab, if_neg Bool.false_ne_true, if_neg hne] at h
            exact h.symm
          clear RT2 hne hlab him
          go_wp2_with (first | (go_at_call 24; refine (hI _ OS.out.rs).mono ?_; rintro e x ⟨rfl, rfl⟩) | (go_at_call 45; refine (hB _ OS.out.rs).mono ?_; rintro e x ⟨rfl, rfl⟩))
          go_roundw
          case rel => exact ⟨j + 1, k + 1, acc, _, by have := HL.out; omega, by go_num, by go_num, by have := HA.out; omega, by have := HA.out; omega, HR.out, RE⟩
          case measure => have := HL.out; simp [intOf]; omega
      · rw [hlab] at hB
        have him : imgB ws = false := by
          cases ws with
          | nil => rfl
          | cons x r => simp only [labB, imgB] at hlab ⊢; rw [hlab]; rfl
        rw [him] at hI
        have RT3 : Hid (T = if ws.length = 2 ∧ nameB (ws.getD 1 []) = true then if findL acc (ws.getD 1 []) = none then labR (W.drop (j + 1)) (j + 1) k (acc ++ [(ws.getD 1 [], k)]) else (6, j, []) else (5, j, [])) := by
          have h := RT2.out
          rw [hlab, if_pos rfl] at h
          exact h
        have hFt := fun w h1 h2 => i_labFault (.slice (some ⟨g, 0, none⟩) m c) (.slice av lv cv) mb acc.length aj nj cj ws acc w h1 h2 AJ.out (by have := NJ.out; omega) (fun i hi => Nat.le_trans (WL.out i hi) (by omega))
        clear RT2 hlab him
        by_cases hgood : ws.length = 2 ∧ nameB (ws.getD 1 []) = true ∧ findL acc (ws.getD 1 []) = none
        case neg =>
          obtain ⟨f, hf, hTf, hf0⟩ : ∃ f : Int, lfV acc ws = f ∧ T = (f, j, []) ∧ f ≠ 0 := by
            by_cases h1 : ws.length = 2 ∧ nameB (ws.getD 1 []) = true
            · have h2 : ¬ findL acc (ws.getD 1 []) = none := fun e => hgood ⟨h1.1, h1.2, e⟩
              refine ⟨6, by rw [lfV, if_pos h1, if_neg h2], ?_, by decide⟩
              rw [RT3.out, if_pos h1, if_neg h2]
            · refine ⟨5, by rw [lfV, if_neg h1], ?_, by decide⟩
              rw [RT3.out, if_neg h1]
          have HT : Hid (T = (f, j, [])) := hTf
          rw [hf] at hFt
          have hfB : (f != 0) = true := by simpa using hf0
          have hfI : ¬ f = 0 := hf0
          clear RT3 hgood hf hTf
          go_wp2_with (first | (go_at_call 24; refine (hI _ OS.out.rs).mono ?_; rintro e x ⟨rfl, rfl⟩) | (go_at_call 45; refine (hB _ OS.out.rs).mono ?_; rintro e x ⟨rfl, rfl⟩))
          refine (hFt _ HR.out.m OS.out.rs).mono ?_
          rintro e w2 ⟨rfl, b2⟩
          have V2 : Hid (Vq w2 s #[.slice (some ⟨g, 0, none⟩) m c, .slice av lv cv, .map (some mb)] 56) := V1.out.keep b2
          have BW2 : Hid (Below w.heap.size w w2) := on HR.out.b b2
          clear b2 k0 k1 k2 f0 f1 f2 ls cx
          have k0 := V2.out.cell 0 rfl
          have k1 := V2.out.cell 1 rfl
          have k2 := V2.out.cell 2 rfl
          have f0 := V2.out.free 0
          have f1 := V2.out.free 1
          have f2 := V2.out.free 2
          have ls := V2.out.lt
          have NN : Hid (Vq _ s #[.slice none 0 0, .slice none 0 0, .map none] 56) := three3 V2.out (.slice none 0 0) (.slice none 0 0) (.map none)
          have BN := below3 BW2.out (show w.heap.size ≤ s by have := HS.out; omega) (.slice none 0 0) (.slice none 0 0) (.map none)
          go_wp2_with fail
          generalize World.setCell _ ⟨s, 2, none⟩ (.map none) = V at *
          have x0 := NN.out.cell 0 rfl
          have x1 := NN.out.cell 1 rfl
          have x2 := NN.out.cell 2 rfl
          exact bodyPost_ret (v := .tuple #[.agg #[.slice none 0 0, .slice none 0 0, .map none], .int .i64 f, .int .i64 j]) (by simp [results, Tryz.results23, go_sem, x0, x1, x2]) rfl ⟨_, _, _, by rw [HT.out], rsd_bad HT.out hfI BN⟩
        obtain ⟨g2, gn, gf⟩ := hgood
        have hf : lfV acc ws = 0 := by rw [lfV, if_pos ⟨g2, gn⟩, if_pos gf]
        rw [hf] at hFt
        obtain ⟨y, hy⟩ : ∃ y, ws.getD 1 [] = y := ⟨_, rfl⟩
        have RE : Hid (labR (W.drop (j + 1)) (j + 1) k (acc ++ [(y, k)]) = T) := by
          have h := RT3.out
          rw [if_pos ⟨g2, gn⟩, if_pos gf, hy] at h
          exact h.symm
        have YL : Hid (y.length ≤ 1500) := by have := WL.out 1 (by omega); rw [hy] at this; exact this
        rw [hy] at gf
        have GF : Hid (findL acc y = none) := gf
        obtain ⟨xw, exw, cw⟩ := OS.out.rs.at 1 (by have := NJ.out; omega)
        obtain ⟨gw, egw⟩ := AJ.out xw exw
        rw [egw, add_plainL, hy] at cw
        have n2 : nj = 2 := by have := NJ.out; omega
        subst n2
        subst exw
        subst egw
        clear RT3 g2 gn gf hf hy WL
        go_wp2_with (first | (go_at_call 24; refine (hI _ OS.out.rs).mono ?_; rintro e x ⟨rfl, rfl⟩) | (go_at_call 45; refine (hB _ OS.out.rs).mono ?_; rintro e x ⟨rfl, rfl⟩))
        refine (hFt _ HR.out.m OS.out.rs).mono ?_
        rintro e w2 ⟨rfl, b2⟩
        have R2 : Hid (Rd w w2 (s + 1) mb (.slice (some ⟨g, 0, none⟩) m c) (.slice av lv cv) acc acc W) := HR.out.keep b2
        have V2 : Hid (Vq w2 s #[.slice (some ⟨g, 0, none⟩) m c, .slice av lv cv, .map (some mb)] 56) := V1.out.keep b2
        have cw2 := cell_keep b2 cw
        clear b2 k0 k1 k2 f0 f1 f2 ls cx hFt hI hB cw OS
        obtain ⟨w3, hrun, S3, G3⟩ := R2.out.m.drew.store (by have := HA.out; have := HM8.out; have := HL.out; omega) y (by have := YL.out; omega) k GF.out
        have R3 : Hid (Rd w w3 (s + 1) mb (.slice (some ⟨g, 0, none⟩) m c) (.slice av lv cv) acc (acc ++ [(y, k)]) W) := (R2.out.keep (Below.refl _ _).drew).stored G3 (by rw [List.length_append]; exact S3)
        have cw3 : w3.cell? ⟨gw, 1, none⟩ = some (.string (bq y)) := cell_grL G3 (cell_keep (Below.refl _ _).drew cw2) (fun e => (R2.out.m.apartB cw2) (by cases e; rfl))
        have k2 := V2.out.cell 2 rfl
        have ls := V2.out.lt
        clear S3 G3
        go_wp2_with fail
        go_region
        have R3s : Hid (Vq w3 s #[.slice (some ⟨g, 0, none⟩) m c, .slice av lv cv, .map (some mb)] 56) := by have h := R3.out.r; rw [HS.out] at h; exact h
        clear k2 ls hrun R2 V2 cw2 V1
        have k1 := R3s.out.cell 1 rfl
        have ls := R3s.out.lt
        have cwd := cell_keep (Below.refl _ _).drew cw3
        have R4 : Hid (Rd w w3.drew (s + 1) mb (.slice (some ⟨g, 0, none⟩) m c) (.slice av lv cv) acc (acc ++ [(y, k)]) W) := R3.out.keep (Below.refl _ _).drew
        have AL : Hid (acc.length ≤ 80) := by show _ ≤ _; have := HA.out; have := HM8.out; have := HL.out; omega
        have YB : Hid (y.length ≤ 1048576) := by show _ ≤ _; have := YL.out; omega
        have kd := cell_keep (Below.refl _ _).drew k1
        have ld : s < w3.drew.heap.size := ls
        go_wp2_with fail
        go_region_law (first
          | (refine step_lab rfl (.tmp 52) (.tmp 59) rfl (mb + 1) (.slice av lv cv) acc (by simp [Act.eval]) (R5.out.l.keep (al (Below.refl _ _) _)) w5.heap.size y k (by simp [Act.eval]) (cell_new rfl) (cell_new rfl) (by have := AL.out; omega) (by have := R5.out.m.lt; simp; omega) ?_; intro v' w' hP' hG'; obtain ⟨va, vc, hv', _⟩ := hP'.out.shape; rw [List.length_append, List.length_singleton] at hv'; have VG : Hid (Vq w' s #[.slice (some ⟨g, 0, none⟩) m c, .slice av lv cv, .map (some mb)] 56) := (V5.out.keep (al (Below.refl _ _) _)).gr hG' (fun e => by have := (R5.out.l.lt _ e.symm).1; have := R5.out.lo; omega); have oo1 := VG.out.cell 1 rfl; have fo1 := VG.out.free 1; have lg := VG.out.lt; have MM : Hid (Rd w (w'.setCell ⟨s, 1, none⟩ v') (s + 1) mb (.slice (some ⟨g, 0, none⟩) m c) v' (acc ++ [(y, k)]) (acc ++ [(y, k)]) W) := (by have h := (R5.out.keep (al (Below.refl _ _) _)).pushed hG' hP'.out; rw [HS.out] at h; exact h); clear VG hG'; subst hv')
          | (go_simp; go_wp2_with (go_at_call 47; refine (i_clone y _ YB.out).mono ?_; rintro e w5 ⟨rfl, b5⟩; have R5 : Hid (Rd w w5 (s + 1) mb (.slice (some ⟨g, 0, none⟩) m c) (.slice av lv cv) acc (acc ++ [(y, k)]) W) := R4.out.keep b5; have V5 : Hid (Vq w5 s #[.slice (some ⟨g, 0, none⟩) m c, .slice av lv cv, .map (some mb)] 56) := (by have h := R5.out.r; rw [HS.out] at h; exact h); have k5 := V5.out.cell 1 rfl; have l5 := V5.out.lt; clear b5)))
        all_goals go_wp2_with fail
        all_goals go_roundw
        all_goals first
          | (exact ⟨j + 1, k, acc ++ [(y, k)], _, by have := HL.out; omega, by go_num, rfl, by have := HA.out; omega, by have := HA.out; simp; omega, by first | exact MM.out | exact MM.out.keep (Below.refl _ _).drew, RE⟩)
          | (have := HL.out; simp [intOf]; omega)
    · have hJ : ¬ (j : Int) < (m : Int) := by omega
      have RE : Hid (T = (0, 0, acc)) := by
        show _ = _
        rw [← hT.out, List.drop_eq_nil_of_le (by have := HM.out; omega), labR]
      have NN : Hid (Vq _ s #[.slice a m c, .slice av lv cv, .map (some mb)] 56) := three3 V1.out (.slice a m c) (.slice av lv cv) (.map (some mb))
      have BN := below3 HR.out.b (show w.heap.size ≤ s by have := HS.out; omega) (.slice a m c) (.slice av lv cv) (.map (some mb))
      have RN : Hid (Lb _ w.heap.size (.slice av lv cv) acc ∧ Sm _ mb acc.length acc ∧ Li _ (s + 1) mb (.slice a m c) W) := back3 (x := .slice a m c) (y := .slice av lv cv) (z := .map (some mb)) HR.out HS.out
      go_wp2_with fail
      generalize World.setCell _ ⟨s, 2, none⟩ (.map (some mb)) = V at *
      have x0 := NN.out.cell 0 rfl
      have x1 := NN.out.cell 1 rfl
      have x2 := NN.out.cell 2 rfl
      exact bodyPost_ret (v := .tuple #[.agg #[.slice a m c, .slice av lv cv, .map (some mb)], .int .i64 0, .int .i64 0]) (by simp [results, Tryz.results23, go_sem, x0, x1, x2]) rfl ⟨.slice a m c, .slice av lv cv, .map (some mb), by rw [RE.out]; rfl, ⟨by rw [RE.out]; exact RN.out.1, fun _ => ⟨s + 1, mb, acc.length, rfl, by rw [RE.out]; exact RN.out.2.1, RN.out.2.2⟩, BN, ⟨_, _, _, _, rfl, rfl⟩⟩⟩
end Go.Proofs.YtdmlejfopmimfaaGreatDoor
