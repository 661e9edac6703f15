/- Texts of this seat, joined. -/
import Derived.Deep.CutRange
import Derived.Test.YtdmlejfopmimfaaGreatDoorQ32
namespace Go.Proofs.YtdmlejfopmimfaaGreatDoor
open Go.RowKit
set_option linter.unusedVariables false

set_option maxHeartbeats 2000000 in
theorem s_labels_many (tx : Wb) (w : World) (hl : tx.length ≤ 1048576) (hb : 1500 < tx.length ∨ 80 < (linesM tx).length) :
    Calls Tryz.prog 26 #[.string (bq tx)] w fun e w' => e = .returned (.agg #[.int .i64 2, .int .i64 0, .slice none 0 0]) ∧ Below w.heap.size w w' := by
  have hz : (bq tx).size = tx.length := bq_size tx
  have hs := fun w => s_lines tx w hl
  obtain ⟨n, hn⟩ : ∃ n, tx.length = n := ⟨_, rfl⟩
  rw [hn] at hz hl hb
  have hnI : (n : Int) ≤ 1048576 := by omega
  have HB : Hid (1500 < n ∨ 80 < (linesM tx).length) := hb
  generalize linesM tx = Ls at *
  clear hn hb
  go_enter Tryz.func26, Tryz.ntmps26
  go_wp2_with fail
  refine (hs _).mono ?_
  rintro e w1 ⟨a, m, c, rfl, R1, b1⟩
  have hm := R1.len
  have hmI : (m : Int) ≤ 9223372036854775807 := by
    rcases R1 with ⟨_, h, _⟩ | ⟨x, _, h1, h2, _⟩
    · omega
    · unfold maxLen at h2; omega
  have V1 : Hid (Vq w1 w.heap.size #[.int .i64 0, .int .i64 0, .slice none 0 0] 65) := (Vq.new _ _ _).keep b1
  have B1 : Hid (Below w.heap.size w w1) := on (al (Below.refl _ _) _) b1
  have k0 := V1.out.cell 0 rfl
  have k1 := V1.out.cell 1 rfl
  have k2 := V1.out.cell 2 rfl
  have f0 := V1.out.free 0
  have f1 := V1.out.free 1
  have f2 := V1.out.free 2
  have ls := V1.out.lt
  have hd : decide (1500 < (n : Int)) = true ∨ decide (1500 < (n : Int)) = false ∧ decide (80 < (m : Int)) = true := by
    have := HB.out
    by_cases h : 1500 < n
    · exact .inl (decide_eq_true (by omega))
    · exact .inr ⟨decide_eq_false (by omega), decide_eq_true (by omega)⟩
  clear b1 R1 hm HB
  rcases hd with d1 | ⟨d1, d2⟩
  all_goals
    go_wp2_with fail
    exact bodyPost_ret (v := .agg #[.int .i64 2, .int .i64 0, .slice none 0 0]) (by simp [results, Tryz.results26, go_sem, k0, k1, k2]) rfl ⟨rfl, ((B1.out.setCell (by simp) _).setCell (by simp) _).setCell (by simp) _⟩
theorem drL {B : Nat} {a w : World} (h : Below B a w) (n : Nat) : Below B a (w.drewN n) := ⟨h.os, h.tape, h.output, h.size, h.block⟩
/-- What the model's loop keeps: the answer's place, the labels under way, the lines. -/
structure Ms (w wr : World) (g : Nat) (v : Value) (acc : List Lbl) (a : Option Addr) (m c : Nat) (Ls : List Wb) : Prop where
  r : Vq wr w.heap.size #[.int .i64 0, .int .i64 0, .slice none 0 0] 65
  o : Vq wr g #[.int .i64 0, .int .i64 0, v] 65
  l : Lb wr (g + 1) v acc
  s : Rs wr a m c Ls
  b : Below w.heap.size w wr
  gg : w.heap.size < g
  x : ∀ y, a = some y → 0 < m → y.block < g
theorem add_blockL (x : Addr) (i : Nat) : (x.add i).block = x.block := by unfold Addr.add; split <;> rfl
theorem cell_grL {w w' : World} {row : Option Nat} {p : Addr} {v : Value} (g : w.grownBy w' row) (h : w.cell? p = some v) (hne : some p.block ≠ row) : w'.cell? p = some v := by
  rw [World.cell?_of_block (w := w) (g.block p.block (block_of_cell h) hne)]; exact h
theorem Ms.keep {w wr w' : World} {g : Nat} {v : Value} {acc : List Lbl} {a : Option Addr} {m c : Nat} {Ls : List Wb} (h : Ms w wr g v acc a m c Ls) (b : Below wr.heap.size wr w') : Ms w w' g v acc a m c Ls :=
  ⟨h.r.keep b, h.o.keep b, h.l.keep b, h.s.stay b, on h.b b, h.gg, h.x⟩
/-- A label more. -/
theorem Ms.step {w w3 w4 w' : World} {g : Nat} {v v' : Value} {acc acc' : List Lbl} {a : Option Addr} {m c : Nat} {Ls : List Wb} (h : Ms w w3 g v acc a m c Ls) (b : Below w3.heap.size w3 w4) (hG : w4.grownBy w' v.ownBlock) (hP : Lb w' (g + 1) v' acc') :
    Ms w (w'.setCell ⟨g, 2, none⟩ v') g v' acc' a m c Ls := by
  have h4 := h.keep b
  have hv : ∀ k, v.ownBlock = some k → g + 1 ≤ k := fun k e => (h.l.lt k e).1
  have hne : ∀ k, k ≤ g → some k ≠ v.ownBlock := fun k hk e => by have := hv k e.symm; omega
  have hr : Vq w' w.heap.size _ _ := h4.r.gr hG (hne _ (by have := h.gg; omega))
  have ho : Vq w' g _ _ := h4.o.gr hG (hne _ (Nat.le_refl _))
  refine ⟨?_, ?_, ?_, ?_, ?_, h.gg, h.x⟩
  · exact (heap_setCell_other w' ⟨g, 2, none⟩ w.heap.size v' (by have := h.gg; show w.heap.size ≠ g; omega)).trans hr
  · exact heap_setCell_same w' g 2 _ _ v' ho
  · exact hP.put _ _ (fun e => by have := (hP.lt _ e).1; simp at this; omega)
  · rcases h4.s with h5 | ⟨y, rfl, h5, h6, h7, h8⟩
    · exact .inl h5
    · refine .inr ⟨y, rfl, h5, h6, h7, fun i hi => ?_⟩
      have hy := h.x y rfl (by omega)
      have h9 := cell_grL hG (h8 i hi) (by rw [add_blockL]; exact hne _ (by omega))
      rw [World.cell?_of_block (w := w') (heap_setCell_other w' ⟨g, 2, none⟩ (y.add i).block v' (by rw [add_blockL]; show y.block ≠ g; omega))]
      exact h9
  · exact (h4.b.grown hG (Nat.le_trans h.b.size b.size) (fun k e => by have := hv k e; have := h.gg; omega)).setCell (by have := h.gg; show w.heap.size ≤ g; omega) _
set_option maxHeartbeats 8000000 in
theorem s_labels_good (tx : Wb) (w : World) (hl : tx.length ≤ 1500) (hb : (linesM tx).length ≤ 80) (C : Int) (A : Nat) (Z : List Lbl) (hT : labR (cutT tx) 0 0 [] = (C, A, Z)) :
    Calls Tryz.prog 26 #[.string (bq tx)] w fun e w' => ∃ v, e = .returned (.agg #[.int .i64 C, .int .i64 A, v]) ∧ Lb w' w.heap.size v Z ∧ Below w.heap.size w w' := by
  have hz : (bq tx).size = tx.length := bq_size tx
  have hs := fun w => s_lines tx w (by omega)
  have WL : Hid (∀ j, j < (linesM tx).length → (cutT tx).getD j [] = wordsM ((linesM tx).getD j []) ∧ ((linesM tx).getD j []).length ≤ 1500) := by
    intro j hj
    refine ⟨?_, Nat.le_trans (lines_mem tx _ (getD_memL _ _ _ hj)) hl⟩
    rw [cutT_eq]
    simp [List.getD, List.getElem?_map, List.getElem?_eq_getElem hj]
  have WN : Hid ((cutT tx).length = (linesM tx).length) := cutT_len tx
  have HT0 : Hid (labR ((cutT tx).drop 0) 0 0 [] = (C, A, Z)) := hT
  obtain ⟨n, hn⟩ : ∃ n, tx.length = n := ⟨_, rfl⟩
  rw [hn] at hz hl
  have hnI : (n : Int) ≤ 1500 := by omega
  have HLs : Hid ((linesM tx).length ≤ 80) := hb
  generalize cutT tx = W at *
  generalize linesM tx = Ls at *
  clear hn hb hT
  go_enter Tryz.func26, Tryz.ntmps26
  go_wp2_with fail
  refine (hs _).mono ?_
  rintro e w1 ⟨a, m, c, rfl, R1, b1⟩
  have HM : Hid (m = Ls.length ∧ m ≤ 80) := ⟨R1.len, by have := R1.len; have := HLs.out; omega⟩
  have hmI : (m : Int) ≤ 80 := by have := HM.out; omega
  obtain ⟨g, hg⟩ : ∃ g, w1.heap.size = g := ⟨_, rfl⟩
  have M1 : Hid (Ms w (w1.alloc (.cells #[.int .i64 0, .int .i64 0, .slice none 0 0] 65)) g (.slice none 0 0) [] a m c Ls) := by
    have bb : Below w1.heap.size w1 (w1.alloc (.cells #[.int .i64 0, .int .i64 0, .slice none 0 0] 65)) := al (Below.refl _ _) _
    refine ⟨((Vq.new _ _ _).keep b1).keep bb, by rw [← hg]; exact Vq.new _ _ _, Lb.nil _ _, R1.stay bb, on (on (al (Below.refl _ _) _) b1) bb, ?_, ?_⟩
    · have := b1.size
      simp at this
      omega
    · intro y hy hm0
      have R2 := R1
      obtain ⟨z, e, hcz⟩ := R2.at 0 hm0
      rw [hy] at e
      cases e
      have := block_of_cell hcz
      rw [add_blockL] at this
      omega
  clear b1 R1 hs HLs
  go_wp2_with fail
  generalize w1.alloc (.cells #[.int .i64 0, .int .i64 0, .slice none 0 0] 65) = W1 at *
  clear hg
  go_loopw [5, 6, 7] (fun p i u wr => ∃ (j k : Nat) (acc : List Lbl) (v : Value), j ≤ m ∧ i = .int .i64 j ∧ p = .int .i64 k ∧ k ≤ j ∧ acc.length ≤ j ∧ Ms w wr g v acc a m c Ls ∧ Hid (labR (W.drop j) j k acc = (C, A, Z))) (fun _ i _ _ => m - (intOf i).toNat)
  case atStart => exact ⟨0, 0, [], _, Nat.zero_le _, rfl, rfl, Nat.le_refl _, by simp, M1.out, HT0⟩
  case round =>
    obtain ⟨j, k, acc, v, hj, rfl, rfl, hkj, hal, hM, hT⟩ := hrel
    obtain ⟨av, cv, rfl, _⟩ := hM.l.shape
    obtain ⟨lv, hlv⟩ : ∃ lv, acc.length = lv := ⟨_, rfl⟩
    rw [hlv] at hM
    have HA : Hid (acc.length = lv ∧ lv ≤ j ∧ k ≤ j) := ⟨hlv, by omega, hkj⟩
    have HMs : Hid (Ms w wr g (.slice av lv cv) acc a m c Ls) := hM
    clear hlv hal M1 HT0
    have o0 := hM.o.cell 0 rfl
    have o1 := hM.o.cell 1 rfl
    have o2 := hM.o.cell 2 rfl
    have hgl := hM.o.lt
    have k0 := hM.r.cell 0 rfl
    have k1 := hM.r.cell 1 rfl
    have k2 := hM.r.cell 2 rfl
    have f0 := hM.r.free 0
    have f1 := hM.r.free 1
    have f2 := hM.r.free 2
    have ls := hM.r.lt
    by_cases hlt : j < m
    · have hJ : (j : Int) < (m : Int) := by omega
      have HL : Hid (j < m) := hlt
      obtain ⟨x, rfl, cx⟩ := hM.s.at j hlt
      have WJ : Hid (_ ∧ _) := WL.out j (by have := HM.out; omega)
      have RT : Hid (labR (W.drop j) j k acc = _) := labR_at W j j k acc (by have := HM.out; have := WN.out; omega)
      obtain ⟨y, hy⟩ : ∃ y, Ls.getD j [] = y := ⟨_, rfl⟩
      obtain ⟨ws, hws⟩ : ∃ ws, W.getD j [] = ws := ⟨_, rfl⟩
      have WW : Hid (ws = wordsM y ∧ y.length ≤ 1500) := by have h := WJ.out; rw [hy, hws] at h; exact h
      rw [hy] at cx
      simp only [hws] at RT
      have RT2 : Hid ((C, A, Z) = if labB ws = true then if ws.length = 2 ∧ nameB (ws.getD 1 []) = true then if findL acc (ws.getD 1 []) = none then labR (W.drop (j + 1)) (j + 1) k (acc ++ [(ws.getD 1 [], k)]) else (6, j, []) else (5, j, []) else labR (W.drop (j + 1)) (j + 1) (if ws = [] then k else k + 1) acc) := by
        show _ = _
        rw [← hT.out]; exact RT.out
      clear WJ RT hy hws hM hlt hT
      go_wp2_with fail
      clear o0 o1 o2 k0 k1 k2 f0 f1 f2 ls hgl cx
      refine (s_wordsL y _ (by have := WW.out; omega)).mono ?_
      rintro e w2 ⟨u, rfl, hO, b2⟩
      have M2 : Hid (Ms w w2 g (.slice av lv cv) acc (some x) m c Ls) := HMs.out.keep b2
      rw [← WW.out.1] at hO
      obtain ⟨au, cu, rfl, _, _, _, hau⟩ := hO.shape
      have RS := hO.rs
      have WS : Hid (∀ i, i < ws.length → (ws.getD i []).length ≤ 1500) := fun i hi => Nat.le_trans (words_mem y _ (by rw [← WW.out.1]; exact getD_memL _ _ _ hi)) WW.out.2
      have o0 := M2.out.o.cell 0 rfl
      have o1 := M2.out.o.cell 1 rfl
      have o2 := M2.out.o.cell 2 rfl
      have hgl := M2.out.o.lt
      have k0 := M2.out.r.cell 0 rfl
      have k1 := M2.out.r.cell 1 rfl
      have k2 := M2.out.r.cell 2 rfl
      have f0 := M2.out.r.free 0
      have f1 := M2.out.r.free 1
      have f2 := M2.out.r.free 2
      have ls := M2.out.r.lt
      clear b2 hO HMs
      cases ws with
      | nil =>
        have RE : Hid (labR (W.drop (j + 1)) (j + 1) k acc = (C, A, Z)) := RT2.out.symm
        go_wp2_with fail
        go_roundw
        case rel => exact ⟨j + 1, k, acc, _, by have := HL.out; omega, by go_num, rfl, by omega, by have := HA.out; omega, M2.out, RE⟩
        case measure => have := HL.out; simp [intOf]; omega
      | cons x0 r =>
        obtain ⟨xw, rfl, c0⟩ := RS.at 0 (by simp)
        obtain ⟨gw, rfl⟩ := hau xw rfl
        have c0 : w2.cell? ⟨gw, 0, none⟩ = some (.string (bq x0)) := c0
        clear hau
        have le := lab_eq x0
        obtain ⟨q, hq⟩ : ∃ q, (x0 :: r).length = q + 1 := ⟨r.length, by simp⟩
        have LB : Hid (labB (x0 :: r) = decide (x0 = labW)) := rfl
        have NE : Hid (¬ (x0 :: r) = []) := by show ¬ _; simp
        have Y1 : Hid ((x0 :: r).length = 2 → ∃ y1, (x0 :: r).getD 1 [] = y1 ∧ w2.cell? ⟨gw, 1, none⟩ = some (.string (bq y1)) ∧ y1.length ≤ 1500) := fun h => ⟨_, rfl, by obtain ⟨z, e, h2⟩ := RS.at 1 (by omega); cases e; rw [add_plainL] at h2; exact h2, WS.out 1 (by omega)⟩
        generalize x0 :: r = ws at *
        rw [hq] at RS Y1 ⊢
        have HQ : Hid (ws.length = q + 1) := hq
        have hqI : ¬ (q : Int) + 1 = 0 := by omega
        have hqB : ((q : Int) + 1 == 0) = false := by rw [beq_eq_false_iff_ne]; omega
        clear hq RS WS
        by_cases hx : x0 = labW
        · rw [decide_eq_true hx] at le LB
          have RT3 : Hid ((C, A, Z) = if ws.length = 2 ∧ nameB (ws.getD 1 []) = true then if findL acc (ws.getD 1 []) = none then labR (W.drop (j + 1)) (j + 1) k (acc ++ [(ws.getD 1 [], k)]) else (6, j, []) else (5, j, [])) := by
            have h := RT2.out; rw [LB.out, if_pos rfl] at h; exact h
          clear RT2 LB hx
          by_cases h2 : q = 1
          · subst h2
            obtain ⟨y1, e1, c1, l1⟩ := Y1.out rfl
            have RT4 : Hid ((C, A, Z) = if nameB y1 = true then if findL acc y1 = none then labR (W.drop (j + 1)) (j + 1) k (acc ++ [(y1, k)]) else (6, j, []) else (5, j, [])) := by
              have hc : (ws.length = 2 ∧ nameB y1 = true) ↔ nameB y1 = true := ⟨And.right, fun h => ⟨HQ.out, h⟩⟩
              show _ = _
              rw [RT3.out, e1]
              simp only [hc]
            clear RT3 e1 Y1
            cases hnm : nameB y1
            · have RE : Hid (C = 5 ∧ A = j ∧ Z = []) := by
                have h := RT4.out
                rw [hnm, if_neg Bool.false_ne_true] at h
                simp only [Prod.mk.injEq] at h
                exact h
              have hN := fun w => s_name y1 w (by omega)
              rw [hnm] at hN
              go_wp2_with (go_at_call 54; refine (hN _).mono ?_; rintro e w9 ⟨rfl, rfl⟩)
              exact bodyPost_ret (v := .agg #[.int .i64 5, .int .i64 j, .slice none 0 0]) (by simp [results, Tryz.results26, go_sem, k0, k1, k2]) rfl ⟨_, by rw [RE.out.1, RE.out.2.1], by rw [RE.out.2.2]; exact Lb.nil _ _, ((M2.out.b.setCell (by simp) _).setCell (by simp) _).setCell (by simp) _⟩
            · have hN := fun w => s_name y1 w (by omega)
              rw [hnm] at hN RT4
              have RT5 : Hid ((C, A, Z) = if findL acc y1 = none then labR (W.drop (j + 1)) (j + 1) k (acc ++ [(y1, k)]) else (6, j, [])) := by
                have h := RT4.out; rw [if_pos rfl] at h; exact h
              have hF := fun w h => s_find (.slice av lv cv) acc y1 (g + 1) w h (by have := HA.out; have := HM.out; have := HL.out; omega)
              have LX : Hid (Lb w2 (g + 1) (.slice av lv cv) acc) := M2.out.l
              clear RT4
              cases hfd : findL acc y1 with
              | some kk =>
                rw [hfd] at hF RT5
                have RE : Hid (C = 6 ∧ A = j ∧ Z = []) := by
                  have h := RT5.out
                  rw [if_neg (by simp)] at h
                  simp only [Prod.mk.injEq] at h
                  exact h
                have hkk : (0 : Int) ≤ (kk : Int) := by omega
                have hF2 : ∀ w, Lb w (g + 1) (.slice av lv cv) acc → Calls Tryz.prog 55 #[.slice av lv cv, .string (bq y1)] w fun e w' => e = .returned (.int .i64 kk) ∧ w' = w := hF
                clear hF
                go_wp2_with (go_at_call 54; refine (hN _).mono ?_; rintro e w2 ⟨rfl, rfl⟩)
                go_quiet ((go_at_call 55; exact Calls.quiet_of_same (hF2 _ LX.out)))
                go_wp2_with fail
                exact bodyPost_ret (v := .agg #[.int .i64 6, .int .i64 j, .slice none 0 0]) (by simp [results, Tryz.results26, go_sem, k0, k1, k2]) rfl ⟨_, by rw [RE.out.1, RE.out.2.1], by rw [RE.out.2.2]; exact Lb.nil _ _, (((drL M2.out.b nq).setCell (by simp) _).setCell (by simp) _).setCell (by simp) _⟩
              | none =>
                rw [hfd] at hF RT5
                have RE : Hid (labR (W.drop (j + 1)) (j + 1) k (acc ++ [(y1, k)]) = (C, A, Z)) := by
                  have h := RT5.out
                  rw [if_pos rfl] at h
                  exact h.symm
                have hF2 : ∀ w, Lb w (g + 1) (.slice av lv cv) acc → Calls Tryz.prog 55 #[.slice av lv cv, .string (bq y1)] w fun e w' => e = .returned (.int .i64 (-1)) ∧ w' = w := hF
                clear hF
                go_wp2_with (go_at_call 54; refine (hN _).mono ?_; rintro e w2 ⟨rfl, rfl⟩)
                go_quiet ((go_at_call 55; exact Calls.quiet_of_same (hF2 _ LX.out)))
                clear hF2 hN LX
                have M3 : Hid (Ms w (w2.drewN nq) g (.slice av lv cv) acc (some x) m c Ls) := M2.out.keep (drL (Below.refl _ _) nq)
                have c1 := cell_keep (drL (Below.refl _ _) nq) c1
                clear M2 o0 o1 o2 k0 k1 k2 f0 f1 f2 ls hgl c0
                go_wp2_with fail
                generalize w2.drewN nq = w3 at *
                have o2 := M3.out.o.cell 2 rfl
                have hgl := M3.out.o.lt
                have M4 : Hid (Ms w w3.drew g (.slice av lv cv) acc (some x) m c Ls) := M3.out.keep (Below.refl _ _).drew
                have hlv : Hid (acc.length ≤ 80) := by show _ ≤ _; have := HA.out; have := HM.out; have := HL.out; omega
                have hgw : Hid (acc.length = lv) := HA.out.1
                go_region_law (refine step_lab rfl (.tmp 62) (.tmp 68) rfl (g + 1) (.slice av lv cv) acc (by simp [Act.eval]) (by first | exact M4.out.l.keep (al (Below.refl _ _) _) | exact M3.out.l.keep (al (Below.refl _ _) _)) w3.heap.size y1 k (by simp [Act.eval]) (cell_new rfl) (cell_new rfl) (by have := hlv.out; omega) (by have := M3.out.o.lt; simp; omega) ?_; intro v' w' hP' hG'; obtain ⟨va, vc, hv', _⟩ := hP'.out.shape; rw [List.length_append, List.length_singleton] at hv'; have VG : Hid (Vq w' g #[.int .i64 0, .int .i64 0, .slice av lv cv] 65) := (M4.out.o.keep (al (Below.refl _ _) _)).gr hG' (fun e => by have := (M4.out.l.lt _ e.symm).1; omega); have oo2 := VG.out.cell 2 rfl; have fo2 := VG.out.free 2; have lg := VG.out.lt; have MM : Hid (Ms w (w'.setCell ⟨g, 2, none⟩ v') g v' (acc ++ [(y1, k)]) (some x) m c Ls) := M4.out.step (al (Below.refl _ _) _) hG' hP'.out; clear VG hG'; subst hv')
                all_goals go_wp2_with fail
                all_goals go_roundw
                all_goals first
                  | (exact ⟨j + 1, k, acc ++ [(y1, k)], _, by have := HL.out; omega, by go_num, rfl, by have := HA.out; omega, by have := HA.out; simp; omega, by first | exact MM.out | exact MM.out.keep (Below.refl _ _).drew, RE⟩)
                  | (have := HL.out; simp [intOf]; omega)
          · have h2B : ((q : Int) + 1 != 2) = true := by rw [bne_iff_ne]; omega
            have RE : Hid (C = 5 ∧ A = j ∧ Z = []) := by
              have h := RT3.out
              rw [if_neg (fun e => h2 (by have := e.1; have := HQ.out; omega))] at h
              simp only [Prod.mk.injEq] at h
              exact h
            go_wp2_with fail
            exact bodyPost_ret (v := .agg #[.int .i64 5, .int .i64 j, .slice none 0 0]) (by simp [results, Tryz.results26, go_sem, k0, k1, k2]) rfl ⟨_, by rw [RE.out.1, RE.out.2.1], by rw [RE.out.2.2]; exact Lb.nil _ _, ((M2.out.b.setCell (by simp) _).setCell (by simp) _).setCell (by simp) _⟩
        · rw [decide_eq_false hx] at le LB
          have RE : Hid (labR (W.drop (j + 1)) (j + 1) (k + 1) acc = (C, A, Z)) := by
            have h := RT2.out; rw [LB.out, if_neg (by decide), if_neg NE.out] at h; exact h.symm
          have hkI : (k : Int) ≤ 80 := by have := HA.out; have := HM.out; have := HL.out; omega
          go_wp2_with fail
          go_roundw
          case rel => exact ⟨j + 1, k + 1, acc, _, by have := HL.out; omega, by go_num, by go_num, by have := HA.out; omega, by have := HA.out; omega, M2.out, RE⟩
          case measure => have := HL.out; simp [intOf]; omega
    · have hJ : ¬ (j : Int) < (m : Int) := by omega
      have RE : Hid (C = 0 ∧ A = 0 ∧ Z = acc) := by
        have h := hT.out
        rw [List.drop_eq_nil_of_le (by have := HM.out; have := WN.out; omega), labR] at h
        simp at h
        exact ⟨h.1.symm, h.2.1.symm, h.2.2.symm⟩
      have NB : Hid ((Value.slice av lv cv).ownBlock ≠ some w.heap.size) := fun e => by have := (HMs.out.l.lt _ e).1; have := HMs.out.gg; omega
      clear hT hM
      go_wp2_with fail
      exact bodyPost_ret (v := .agg #[.int .i64 0, .int .i64 0, .slice av lv cv]) (by simp [results, Tryz.results26, go_sem, k0, k1, k2]) rfl ⟨_, by rw [RE.out.1, RE.out.2.1]; rfl, by rw [RE.out.2.2]; exact (((HMs.out.l.mono (by have := HMs.out.gg; omega)).put _ _ NB.out).put _ _ NB.out).put _ _ NB.out, ((HMs.out.b.setCell (by simp) _).setCell (by simp) _).setCell (by simp) _⟩
theorem s_labels (tx : Wb) (w : World) (hl : tx.length ≤ 1048576) :
    Calls Tryz.prog 26 #[.string (bq tx)] w fun e w' => ∃ v, e = .returned (.agg #[.int .i64 (labV tx).1, .int .i64 ((labV tx).2.1 : Nat), v]) ∧ Lb w' w.heap.size v (labV tx).2.2 ∧ Below w.heap.size w w' := by
  unfold labV
  by_cases h : 1500 < tx.length ∨ 80 < (linesM tx).length
  · rw [if_pos h]
    exact (s_labels_many tx w hl h).mono fun e w' ⟨h1, h2⟩ => ⟨_, h1, Lb.nil _ _, h2⟩
  · rw [if_neg h]
    exact s_labels_good tx w (by omega) (by omega) _ _ _ rfl
end Go.Proofs.YtdmlejfopmimfaaGreatDoor
