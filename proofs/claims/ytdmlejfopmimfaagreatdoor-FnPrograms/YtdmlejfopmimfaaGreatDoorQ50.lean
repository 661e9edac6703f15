/- Texts of this seat, joined. -/
import Derived.Test.YtdmlejfopmimfaaGreatDoorQ49
namespace Go.Proofs.YtdmlejfopmimfaaGreatDoor
open Go.RowKit
set_option linter.unusedVariables false

theorem labV_len2 (tx : Wb) : (labV tx).2.2.length ≤ 80 := by
  unfold labV
  split
  · simp
  · next h =>
    have h1 := labR_len (cutT tx) 0 0 []
    rw [cutT_len] at h1
    simp at h1
    omega
theorem vq_apart {w : World} {q : Nat} {a b c : Value} {t : TypeId} (h : Vq w q #[a, b, c] t) {p : Addr} {s : ByteArray} (hc : w.cell? p = some (.string s)) (ha : a ≠ .string s) (hb : b ≠ .string s) (hcc : c ≠ .string s) : p.block ≠ q := by
  intro e
  subst e
  unfold Vq at h
  obtain ⟨blk, off, path⟩ := p
  cases path with
  | none =>
    simp only [World.cell?, h] at hc
    have hm := Array.mem_of_getElem? hc
    simp at hm
    rcases hm with e | e | e
    · exact ha e.symm
    · exact hb e.symm
    · exact hcc e.symm
  | some x => simp [World.cell?, h] at hc
/-- What the model's loop keeps. -/
structure Mz (w wr : World) (s q1 q2 hb lb : Nat) (P : Nat) (lv v : Value) (acc : List Int) (ls : List Lbl) (a : Option Addr) (m c : Nat) (Ls : List Wb) : Prop where
  r : Vq wr s #[.int .i64 0, .int .i64 0, .slice none 0 0] 31
  q : Vq wr q1 #[.int .i64 0, .int .i64 P, lv] 65
  o : Vq wr q2 #[.int .i64 0, .int .i64 0, v] 31
  l : Lb wr lb lv ls
  u : Nums wr hb v acc
  t : Rs wr a m c Ls
  b : Below w.heap.size w wr
  hs : w.heap.size = s
  s1 : s < q1
  s2 : q1 < q2
  s3 : q2 < hb
  lk : ∀ k, lv.ownBlock = some k → k < q1
  x : ∀ y, a = some y → 0 < m → y.block < hb ∧ y.block ≠ q2
  hh : hb ≤ wr.heap.size
theorem Mz.keep {w wr w' : World} {s q1 q2 hb lb P : Nat} {lv v : Value} {acc : List Int} {ls : List Lbl} {a : Option Addr} {m c : Nat} {Ls : List Wb} (h : Mz w wr s q1 q2 hb lb P lv v acc ls a m c Ls) (b : Below wr.heap.size wr w') : Mz w w' s q1 q2 hb lb P lv v acc ls a m c Ls :=
  ⟨h.r.keep b, h.q.keep b, h.o.keep b, h.l.keep b, h.u.keep b, h.t.stay b, on h.b b, h.hs, h.s1, h.s2, h.s3, h.lk, h.x, Nat.le_trans h.hh b.size⟩
theorem Mz.step {w wr w' : World} {s q1 q2 hb lb P : Nat} {lv v v' : Value} {acc acc' : List Int} {ls : List Lbl} {a : Option Addr} {m c : Nat} {Ls : List Wb} (h : Mz w wr s q1 q2 hb lb P lv v acc ls a m c Ls) (hG : wr.grownBy w' v.ownBlock) (hN : Nums w' hb v' acc') : Mz w (w'.setCell ⟨q2, 2, none⟩ v') s q1 q2 hb lb P lv v' acc' ls a m c Ls := by
  have hv : ∀ k, v.ownBlock = some k → hb ≤ k := fun k e => (h.u.lt k e).1
  have hne : ∀ k, k < hb → some k ≠ v.ownBlock := fun k hk e => by have := hv k e.symm; omega
  have hs1 := h.s1
  have hs2 := h.s2
  have hs3 := h.s3
  refine ⟨?_, ?_, ?_, ?_, ?_, ?_, ?_, h.hs, h.s1, h.s2, h.s3, h.lk, h.x, by have := h.hh; have := hG.size; simp [World.setCell]; omega⟩
  · exact (heap_setCell_other w' ⟨q2, 2, none⟩ s v' (by show s ≠ q2; omega)).trans (h.r.gr hG (hne _ (by omega)))
  · exact (heap_setCell_other w' ⟨q2, 2, none⟩ q1 v' (by show q1 ≠ q2; omega)).trans (h.q.gr hG (hne _ (by omega)))
  · exact heap_setCell_same w' q2 2 _ _ v' (h.o.gr hG (hne _ (by omega)))
  · refine Lb.put (World.ownsRow.kept h.l hG ?_) _ _ (fun e => by have := h.lk _ e; simp at this; omega)
    cases e : lv.ownBlock with
    | none => exact .inl rfl
    | some k =>
      refine .inr fun e2 => ?_
      have := h.lk k e
      have := hv k e2.symm
      omega
  · exact hN.put _ _ (fun e => by have h9 : hb ≤ q2 := (hN.lt _ e).1; omega)
  · rcases h.t with h5 | ⟨y, rfl, h5, h6, h7, h8⟩
    · exact .inl h5
    · refine .inr ⟨y, rfl, h5, h6, h7, fun i hi => ?_⟩
      obtain ⟨hy1, hy2⟩ := h.x y rfl (by omega)
      have h9 := cell_grL hG (h8 i hi) (by rw [add_blockL]; exact hne _ hy1)
      rw [World.cell?_of_block (w := w') (heap_setCell_other w' ⟨q2, 2, none⟩ (y.add i).block v' (by rw [add_blockL]; exact hy2))]
      exact h9
  · exact (h.b.grown hG h.b.size (fun k e => by have := hv k e; have := h.hs; omega)).setCell (by have := h.hs; show w.heap.size ≤ q2; omega) _
set_option maxRecDepth 20000 in
set_option maxHeartbeats 8000000 in
theorem s_assemble (tx : Wb) (w : World) (hl : tx.length ≤ 1048576) :
    Calls Tryz.prog 10 #[.string (bq tx)] w fun e w' => ∃ v, e = .returned (.agg #[.int .i64 (asmV tx).1, .int .i64 ((asmV tx).2.1 : Nat), v]) ∧ Nums w' w.heap.size v (asmV tx).2.2 ∧ Below w.heap.size w w' := by
  have hlab := fun w => s_labels tx w hl
  have hlin := fun w => s_lines tx w hl
  have HW : Hid ((labV tx).1 = 0 → (linesM tx).length ≤ 80 ∧ (∀ j, j < (linesM tx).length → (cutT tx).getD j [] = wordsM ((linesM tx).getD j []) ∧ ((linesM tx).getD j []).length ≤ 1500 ∧ ((cutT tx).getD j []).length ≤ 1501 ∧ ∀ i, i < ((cutT tx).getD j []).length → (((cutT tx).getD j []).getD i []).length ≤ 1500 ∧ ((cutT tx).getD j []).getD i [] ≠ [])) := by
    intro h0
    unfold labV at h0
    split at h0
    · cases h0
    · rename_i hc
      refine ⟨by omega, fun j hj => ?_⟩
      have hj2 : j < (cutT tx).length := by rw [cutT_len]; exact hj
      have h1 := cutT_words tx (by omega) j hj2
      refine ⟨?_, Nat.le_trans (lines_mem tx _ (getD_memL _ _ _ hj)) (by omega), h1.1, fun i hi => ⟨h1.2 i hi, cutT_ne tx j hj2 i hi⟩⟩
      rw [cutT_eq]
      simp [List.getD, List.getElem?_map, List.getElem?_eq_getElem hj]
  have WN : Hid ((cutT tx).length = (linesM tx).length) := cutT_len tx
  have HPL : Hid (∀ x p, findL (labV tx).2.2 x = some p → p ≤ 1000000) := fun x p h => by have := labV_place tx h; omega
  have HZL : Hid ((labV tx).2.2.length ≤ 1048576) := by show _ ≤ _; have := labV_len2 tx; omega
  have EV : Hid (asmV tx = if (labV tx).1 = 0 then asmR (labV tx).2.2 (cutT tx) 0 [] else ((labV tx).1, (labV tx).2.1, [])) := rfl
  obtain ⟨A, hA⟩ : ∃ A, asmV tx = A := ⟨_, rfl⟩
  rw [hA]
  rw [hA] at EV
  generalize cutT tx = W at *
  generalize linesM tx = Ls at *
  generalize labV tx = T at *
  obtain ⟨C, P, Z⟩ := T
  clear hA
  simp only at HW HPL EV hlab HZL
  obtain ⟨s, hS⟩ : ∃ s, w.heap.size = s := ⟨_, rfl⟩
  have HS : Hid (w.heap.size = s) := hS
  generalize hw0 : w.alloc (.cells #[.int .i64 0, .int .i64 0, .slice none 0 0] 31) = w0
  have V0 : Hid (Vq w0 s #[.int .i64 0, .int .i64 0, .slice none 0 0] 31) := by show Vq _ _ _ _; rw [← hw0, ← hS]; exact Vq.new _ _ _
  have B0 : Hid (Below w.heap.size w w0) := by show Below _ _ _; rw [← hw0]; exact al (Below.refl _ _) _
  go_enter Tryz.func10, Tryz.ntmps10
  go_wp2_with fail
  refine (hlab _).mono ?_
  rintro e w1 ⟨lv, rfl, L1, b1⟩
  clear hlab hw0 hS
  obtain ⟨la, lc, rfl, _⟩ := L1.shape
  obtain ⟨ll, hll⟩ : ∃ ll, Z.length = ll := ⟨_, rfl⟩
  rw [hll] at L1 ⊢
  clear hll
  obtain ⟨q1, hq1⟩ : ∃ q1, w1.heap.size = q1 := ⟨_, rfl⟩
  have SQ : Hid (s < q1) := by show _ < _; have := b1.size; have := V0.out.lt; omega
  have V1 : Hid (Vq (w1.alloc (.cells #[.int .i64 C, .int .i64 P, .slice la ll lc] 65)) s #[.int .i64 0, .int .i64 0, .slice none 0 0] 31) := (V0.out.keep b1).keep (al (Below.refl _ _) _)
  have Q1 : Hid (Vq (w1.alloc (.cells #[.int .i64 C, .int .i64 P, .slice la ll lc] 65)) q1 #[.int .i64 C, .int .i64 P, .slice la ll lc] 65) := by show Vq _ _ _ _; rw [← hq1]; exact Vq.new _ _ _
  have B1 : Hid (Below w.heap.size w (w1.alloc (.cells #[.int .i64 C, .int .i64 P, .slice la ll lc] 65))) := al (on B0.out b1) _
  have LB1 : Hid (Lb (w1.alloc (.cells #[.int .i64 C, .int .i64 P, .slice la ll lc] 65)) w0.heap.size (.slice la ll lc) Z) := L1.keep (al (Below.refl _ _) _)
  have LK : Hid (∀ k, (Value.slice la ll lc).ownBlock = some k → k < q1) := fun k e => by have := (L1.lt k e).2; omega
  have S1 : Hid ((w1.alloc (.cells #[.int .i64 C, .int .i64 P, .slice la ll lc] 65)).heap.size = q1 + 1) := by show _ = _; rw [← hq1]; simp
  go_upto_region 2 with fail
  clear hq1
  generalize w1.alloc (.cells #[.int .i64 C, .int .i64 P, .slice la ll lc] 65) = X at *
  clear b1 L1
  by_cases hC : C = 0
  case neg =>
    have EA : Hid (A = (C, P, [])) := by show _ = _; rw [EV.out, if_neg hC]
    have hCB : (C != 0) = true := by simpa using hC
    have k0 := V1.out.cell 0 rfl
    have k1 := V1.out.cell 1 rfl
    have k2 := V1.out.cell 2 rfl
    have f0 := V1.out.free 0
    have f1 := V1.out.free 1
    have f2 := V1.out.free 2
    have lk := V1.out.lt
    have j0 := Q1.out.cell 0 rfl
    have j1 := Q1.out.cell 1 rfl
    have NN : Hid (Vq _ s #[.int .i64 C, .int .i64 P, .slice none 0 0] 31) := three3 V1.out (.int .i64 C) (.int .i64 P) (.slice none 0 0)
    have BN : Hid (Below w.heap.size w _) := below3 B1.out (show w.heap.size ≤ s by have := HS.out; omega) (.int .i64 C) (.int .i64 P) (.slice none 0 0)
    clear HW HPL EV
    go_wp2_with fail
    generalize World.setCell _ ⟨s, 2, none⟩ (.slice none 0 0) = V at *
    have x0 := NN.out.cell 0 rfl
    have x1 := NN.out.cell 1 rfl
    have x2 := NN.out.cell 2 rfl
    exact bodyPost_ret (v := .agg #[.int .i64 C, .int .i64 P, .slice none 0 0]) (by simp [results, Tryz.results10, go_sem, x0, x1, x2]) rfl ⟨_, by rw [EA.out], by rw [EA.out]; exact nums_nilA _ _, BN.out⟩
  subst hC
  have HW2 : Hid (∀ j, j < Ls.length → W.getD j [] = wordsM (Ls.getD j []) ∧ (Ls.getD j []).length ≤ 1500 ∧ (W.getD j []).length ≤ 1501 ∧ ∀ i, i < (W.getD j []).length → ((W.getD j []).getD i []).length ≤ 1500 ∧ (W.getD j []).getD i [] ≠ []) := (HW.out rfl).2
  have HL8 : Hid (Ls.length ≤ 80) := (HW.out rfl).1
  have EA : Hid (asmR Z (W.drop 0) 0 [] = A) := by show _ = _; rw [EV.out, if_pos rfl]; rfl
  have j0 := Q1.out.cell 0 rfl
  obtain ⟨q2, hq2⟩ : ∃ q2, X.heap.size = q2 := ⟨_, rfl⟩
  have O1 : Hid (Vq (X.alloc (.cells #[.int .i64 0, .int .i64 0, .slice none 0 0] 31)) q2 #[.int .i64 0, .int .i64 0, .slice none 0 0] 31) := by show Vq _ _ _ _; rw [← hq2]; exact Vq.new _ _ _
  have SQ2 : Hid (q1 < q2 ∧ (X.alloc (.cells #[.int .i64 0, .int .i64 0, .slice none 0 0] 31)).heap.size = q2 + 1) := ⟨by have := S1.out; omega, by rw [← hq2]; simp⟩
  have bX : Hid (Below X.heap.size X (X.alloc (.cells #[.int .i64 0, .int .i64 0, .slice none 0 0] 31))) := al (Below.refl _ _) _
  clear HW EV
  go_upto_region 5 with fail
  clear j0 hq2
  generalize hX2 : X.alloc (.cells #[.int .i64 0, .int .i64 0, .slice none 0 0] 31) = X2 at *
  clear hX2
  go_wp2_with fail
  refine (hlin _).mono ?_
  rintro e w3 ⟨a, m, c, rfl, R3, b3⟩
  have HM : Hid (m = Ls.length ∧ m ≤ 80) := ⟨R3.len, by have := R3.len; have := HL8.out; omega⟩
  have hmI : (m : Int) ≤ 80 := by have := HM.out; omega
  obtain ⟨hb, hhb⟩ : ∃ hb, w3.heap.size = hb := ⟨_, rfl⟩
  have M3 : Hid (Mz w w3 s q1 q2 hb w0.heap.size P (.slice la ll lc) (.slice none 0 0) [] Z a m c Ls) := by
    have bb : Below X.heap.size X w3 := on bX.out b3
    refine ⟨V1.out.keep bb, Q1.out.keep bb, O1.out.keep b3, LB1.out.keep bb, nums_nilA _ _, R3, on B1.out bb, HS.out, SQ.out, SQ2.out.1, by have := b3.size; have := SQ2.out.2; omega, LK.out, ?_, by omega⟩
    intro y hy hm0
    have R2 := R3
    obtain ⟨z, e, hcz⟩ := R2.at 0 hm0
    rw [hy] at e
    cases e
    have h1 := block_of_cell hcz
    have h2 := vq_apart (O1.out.keep b3) hcz (by simp) (by simp) (by simp)
    rw [add_blockL] at h1 h2
    exact ⟨by omega, h2⟩
  clear b3 R3 hlin V1 Q1 B1 LB1 O1 bX hhb
  go_wp2_with fail
  go_loopw [6] (fun i wr => ∃ (j : Nat) (acc : List Int) (v : Value), j ≤ m ∧ i = .int .i64 j ∧ acc.length ≤ j ∧ Mz w wr s q1 q2 hb w0.heap.size P (.slice la ll lc) v acc Z a m c Ls ∧ Hid (asmR Z (W.drop j) j acc = A)) (fun i _ => m - (intOf i).toNat)
  case atStart => exact ⟨0, [], _, Nat.zero_le _, rfl, by simp, M3.out, EA⟩
  case round =>
    clear M3 EA
    obtain ⟨j, acc, v, hj, rfl, hal, hM, hT⟩ := hrel
    obtain ⟨av, cv, rfl, _⟩ := hM.u.shape
    obtain ⟨lv, hlv⟩ : ∃ lv, acc.length = lv := ⟨_, rfl⟩
    rw [hlv] at hM
    have AL : Hid (acc.length = lv ∧ lv ≤ j ∧ lv ≤ 80) := ⟨hlv, by omega, by have := HM.out; omega⟩
    have hlvI : (lv : Int) ≤ 80 := by have := AL.out; omega
    have HMs : Hid (Mz w wr s q1 q2 hb w0.heap.size P (.slice la ll lc) (.slice av lv cv) acc Z a m c Ls) := hM
    clear hlv hal
    by_cases hlt : j < m
    · have hJ : (j : Int) < (m : Int) := by omega
      have HL : Hid (j < m) := hlt
      obtain ⟨x, rfl, cx⟩ := hM.t.at j hlt
      obtain ⟨w1_, w2_, w3_, w4_⟩ := HW2.out j (by have := HM.out; omega)
      have RT0 : Hid (A = _) := hT.out.symm.trans (asmR_at Z W j j acc (by have := HM.out; have := WN.out; omega))
      obtain ⟨y, hy⟩ : ∃ y, Ls.getD j [] = y := ⟨_, rfl⟩
      obtain ⟨ws, hws⟩ : ∃ ws, W.getD j [] = ws := ⟨_, rfl⟩
      rw [hy] at cx w1_ w2_
      rw [hws] at w1_ w3_ w4_
      have WW : Hid (ws = wordsM y ∧ y.length ≤ 1500) := ⟨w1_, w2_⟩
      have XL : Hid (ws.length ≤ 1501 ∧ ∀ i, i < ws.length → (ws.getD i []).length ≤ 1500 ∧ ws.getD i [] ≠ []) := ⟨w3_, w4_⟩
      have RT : Hid (A = if imgB ws = true then (if (lineV Z lv ws).1 = 0 then asmR Z (W.drop (j + 1)) (j + 1) (acc ++ [(lineV Z lv ws).2]) else ((lineV Z lv ws).1, j, [])) else asmR Z (W.drop (j + 1)) (j + 1) acc) := by
        have h := RT0.out
        simp only [hws, AL.out.1] at h
        exact h
      clear RT0 hy hws hM hlt hT w1_ w2_ w3_ w4_ hj
      go_wp2_with fail
      clear cx
      refine (s_wordsL y _ (by have := WW.out; omega)).mono ?_
      rintro e w2 ⟨u, rfl, hO, b2⟩
      have M2 : Hid (Mz w w2 s q1 q2 hb w0.heap.size P (.slice la ll lc) (.slice av lv cv) acc Z (some x) m c Ls) := HMs.out.keep b2
      rw [← WW.out.1] at hO
      obtain ⟨au, cu, rfl, _, _, _, hau⟩ := hO.shape
      have RS : Hid (Rs w2 au ws.length cu ws) := hO.rs
      clear b2 hO HMs
      cases ws with
      | nil =>
        have RE : Hid (asmR Z (W.drop (j + 1)) (j + 1) acc = A) := by have h := RT.out; rw [show imgB ([] : List Wb) = false from rfl, if_neg Bool.false_ne_true] at h; exact h.symm
        clear RT
        go_wp2_with fail
        go_roundw
        case rel => exact ⟨j + 1, acc, _, by have := HL.out; omega, by go_num, by have := AL.out; omega, M2.out, RE⟩
        case measure => have := HL.out; simp [intOf]; omega
      | cons x0 r =>
        obtain ⟨xw, rfl, c0⟩ := RS.out.at 0 (by simp)
        obtain ⟨gw, rfl⟩ := hau xw rfl
        have c0 : w2.cell? ⟨gw, 0, none⟩ = some (.string (bq x0)) := c0
        clear hau
        have le := lab_eq x0
        have IB : Hid (imgB (x0 :: r) = !decide (x0 = labW)) := rfl
        obtain ⟨q, hq⟩ : ∃ q, (x0 :: r).length = q + 1 := ⟨r.length, by simp⟩
        generalize x0 :: r = ws at *
        rw [hq] at RS ⊢
        have HQ : Hid (ws.length = q + 1) := hq
        have hqI : ¬ (q : Int) + 1 = 0 := by omega
        have hqB : ((q : Int) + 1 == 0) = false := by rw [beq_eq_false_iff_ne]; omega
        have hqm : (q : Int) + 1 ≤ 1501 := by have := XL.out.1; omega
        clear hq
        by_cases hx : x0 = labW
        · rw [decide_eq_true hx] at le IB
          have RE : Hid (asmR Z (W.drop (j + 1)) (j + 1) acc = A) := by have h := RT.out; rw [IB.out, if_neg (by decide)] at h; exact h.symm
          clear RT IB hx
          go_wp2_with fail
          go_roundw
          case rel => exact ⟨j + 1, acc, _, by have := HL.out; omega, by go_num, by have := AL.out; omega, M2.out, RE⟩
          case measure => have := HL.out; simp [intOf]; omega
        · rw [decide_eq_false hx] at le IB
          obtain ⟨z, hzc⟩ : ∃ z, lineV Z lv ws = z := ⟨_, rfl⟩
          have RT2 : Hid (A = if z.1 = 0 then asmR Z (W.drop (j + 1)) (j + 1) (acc ++ [z.2]) else (z.1, j, [])) := by
            have h := RT.out
            rw [IB.out, if_pos (by decide), hzc] at h
            exact h
          have FI := s_ins gw (q + 1) cu ws (.slice la ll lc) w0.heap.size Z lv w2 M2.out.l HZL.out RS.out (by omega) (by have := XL.out.1; have := HQ.out; omega) XL.out.2 (by have := AL.out; omega) HPL.out
          rw [hzc] at FI
          obtain ⟨z1, z2⟩ := z
          simp only at FI RT2
          have i2 := M2.out.q.cell 2 rfl
          have o2 := M2.out.o.cell 2 rfl
          clear RT IB hx hzc
          go_wp2_with fail
          refine FI.mono ?_
          rintro e w5 ⟨rfl, b5⟩
          have M5 : Hid (Mz w w5 s q1 q2 hb w0.heap.size P (.slice la ll lc) (.slice av lv cv) acc Z (some x) m c Ls) := M2.out.keep b5
          clear b5 FI i2 o2 c0 M2
          by_cases hz : z1 = 0
          · have RE : Hid (asmR Z (W.drop (j + 1)) (j + 1) (acc ++ [z2]) = A) := by
              have h := RT2.out
              rw [if_pos hz] at h
              exact h.symm
            subst hz
            have o2 := M5.out.o.cell 2 rfl
            have fo := M5.out.o.free 2
            have lo := M5.out.o.lt
            go_wp2_with (at_builtin; refine wp_appA _ rfl _ _ rfl hb _ acc rfl (M5.out.u.keep (al (Below.refl _ _) _)) w5.heap.size 1 1 [z2] rfl rfl (one_atA (cell_new rfl)) (by have := AL.out; omega) (by have := M5.out.hh; simp; omega) ?_; intro v' w' hN' hG'; have MX : Hid (Mz w (w'.setCell ⟨q2, 2, none⟩ v') s q1 q2 hb w0.heap.size P (.slice la ll lc) v' (acc ++ [z2]) Z (some x) m c Ls) := ((M5.out.keep (al (Below.refl _ _) _)).step hG' hN'); have VG : Hid (Vq w' q2 #[.int .i64 0, .int .i64 0, .slice av lv cv] 31) := ((M5.out.keep (al (Below.refl _ _) _)).o.gr hG' (fun e => by have := (M5.out.u.lt _ e.symm).1; have := M5.out.s3; omega)); have o2 := VG.out.cell 2 rfl; have fo := VG.out.free 2; have lo := VG.out.lt; obtain ⟨va, vc, hv', _⟩ := hN'.shape; rw [List.length_append, List.length_singleton] at hv'; clear VG hN' hG'; subst hv')
            go_roundw
            case rel => exact ⟨j + 1, acc ++ [z2], _, by have := HL.out; omega, by go_num, by have := AL.out; simp; omega, MX.out, RE⟩
            case measure => have := HL.out; simp [intOf]; omega
          · have RE : Hid (A = (z1, j, [])) := by
              have h := RT2.out
              rw [if_neg hz] at h
              exact h
            have hzB : (z1 != 0) = true := by simpa using hz
            have k0 := M5.out.r.cell 0 rfl
            have k1 := M5.out.r.cell 1 rfl
            have k2 := M5.out.r.cell 2 rfl
            have f0 := M5.out.r.free 0
            have f1 := M5.out.r.free 1
            have f2 := M5.out.r.free 2
            have lk := M5.out.r.lt
            have NN : Hid (Vq _ s #[.int .i64 z1, .int .i64 j, .slice none 0 0] 31) := three3 M5.out.r (.int .i64 z1) (.int .i64 j) (.slice none 0 0)
            have BN : Hid (Below w.heap.size w _) := below3 M5.out.b (show w.heap.size ≤ s by have := HS.out; omega) (.int .i64 z1) (.int .i64 j) (.slice none 0 0)
            go_wp2_with fail
            generalize World.setCell _ ⟨s, 2, none⟩ (.slice none 0 0) = V at *
            have x0 := NN.out.cell 0 rfl
            have x1 := NN.out.cell 1 rfl
            have x2 := NN.out.cell 2 rfl
            exact bodyPost_ret (v := .agg #[.int .i64 z1, .int .i64 j, .slice none 0 0]) (by simp [results, Tryz.results10, go_sem, x0, x1, x2]) rfl ⟨_, by rw [RE.out], by rw [RE.out]; exact nums_nilA _ _, BN.out⟩
    · have hJ : ¬ (j : Int) < (m : Int) := by omega
      have RE : Hid (A = (0, 0, acc)) := by
        show _ = _
        rw [← hT.out, List.drop_eq_nil_of_le (by have := HM.out; have := WN.out; omega), asmR]
      have k0 := HMs.out.r.cell 0 rfl
      have k1 := HMs.out.r.cell 1 rfl
      have k2 := HMs.out.r.cell 2 rfl
      have f0 := HMs.out.r.free 0
      have f1 := HMs.out.r.free 1
      have f2 := HMs.out.r.free 2
      have lk := HMs.out.r.lt
      have o0 := HMs.out.o.cell 0 rfl
      have o1 := HMs.out.o.cell 1 rfl
      have o2 := HMs.out.o.cell 2 rfl
      have NN : Hid (Vq _ s #[.int .i64 0, .int .i64 0, .slice av lv cv] 31) := three3 HMs.out.r (.int .i64 0) (.int .i64 0) (.slice av lv cv)
      have BN : Hid (Below w.heap.size w _) := below3 HMs.out.b (show w.heap.size ≤ s by have := HS.out; omega) (.int .i64 0) (.int .i64 0) (.slice av lv cv)
      have NU : Hid (Nums _ w.heap.size (.slice av lv cv) acc) := (nums_put3 (s := s) (b := hb) HMs.out.u (by have := HMs.out.s1; have := HMs.out.s2; have := HMs.out.s3; omega) (.int .i64 0) (.int .i64 0) (.slice av lv cv)).mono (show w.heap.size ≤ hb by have := HMs.out.s1; have := HMs.out.s2; have := HMs.out.s3; have := HS.out; omega)
      clear hT hM
      go_wp2_with fail
      generalize World.setCell _ ⟨s, 2, none⟩ (.slice av lv cv) = V at *
      have x0 := NN.out.cell 0 rfl
      have x1 := NN.out.cell 1 rfl
      have x2 := NN.out.cell 2 rfl
      exact bodyPost_ret (v := .agg #[.int .i64 0, .int .i64 0, .slice av lv cv]) (by simp [results, Tryz.results10, go_sem, x0, x1, x2]) rfl ⟨_, by rw [RE.out]; rfl, by rw [RE.out]; exact NU.out, BN.out⟩
end Go.Proofs.YtdmlejfopmimfaaGreatDoor
