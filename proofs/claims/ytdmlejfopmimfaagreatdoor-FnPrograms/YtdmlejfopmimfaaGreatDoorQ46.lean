/- Texts of this seat, joined. -/
import Derived.Test.YtdmlejfopmimfaaGreatDoorQ45
namespace Go.Proofs.YtdmlejfopmimfaaGreatDoor
open Go.RowKit
set_option linter.unusedVariables false

theorem opnF_in (s : ByteArray) : ∀ (f j k : Nat), opnF s f j = some k → j ≤ k ∧ k < j + f
  | 0, j, k, h => by simp [opnF] at h
  | f + 1, j, k, h => by
    rw [opnF] at h
    split at h
    · cases h; omega
    · have := opnF_in s f (j + 1) k h; omega
theorem word_eq (x : Wb) : ((bq x).toList == [119, 111, 114, 100]) = decide (x = wordW) := by
  rw [bq_toList, show ([119, 111, 114, 100] : Wb) = wordW from rfl]
  by_cases h : x = wordW
  · subst h; simp
  · rw [decide_eq_false h]; simpa using h
theorem rs_tail {w : World} {g n c : Nat} {ws : List Wb} (h : Rs w (some ⟨g, 0, none⟩) n c ws) (h0 : 0 < n) : Rs w (if c = 1 then some ⟨g, 0, none⟩ else some ⟨g, 1, none⟩) (n - 1) (c - 1) (ws.drop 1) := by
  rcases h with ⟨h1, _⟩ | ⟨x, e, h1, h2, h3, h4⟩
  · cases h1
  · cases e
    by_cases hc : c = 1
    · rw [if_pos hc]
      exact .inr ⟨_, rfl, by omega, by omega, by simp; omega, fun i hi => by omega⟩
    · rw [if_neg hc]
      refine .inr ⟨_, rfl, by omega, by omega, by simp; omega, fun i hi => ?_⟩
      have := h4 (i + 1) (by omega)
      rw [Addr.add_lit] at this ⊢
      rw [show (ws.drop 1).getD i [] = ws.getD (i + 1) [] by simp [List.getD]]
      simpa [Nat.add_comm] using this
theorem at_tail (g c : Nat) : ∀ y, (if c = 1 then some (⟨g, 0, none⟩ : Addr) else some ⟨g, 1, none⟩) = some y → ∃ g o, y = ⟨g, o, none⟩ := by
  intro y h
  split at h
  · cases h; exact ⟨_, _, rfl⟩
  · cases h; exact ⟨_, _, rfl⟩
set_option maxRecDepth 20000 in
set_option maxHeartbeats 8000000 in
theorem i_wordOfLine (a0 a1 : Option Addr) (l0 c0 l1 c1 mb nn : Nat) (g n c : Nat) (ws : List Wb) (here : Nat) (ls : List Lbl) (w : World) (hS : Sm w mb nn ls) (hR : Rs w (some ⟨g, 0, none⟩) n c ws) (h0 : 0 < n) (hn : n ≤ 100000) (hx : ∀ i, i < ws.length → (ws.getD i []).length ≤ 1500 ∧ ws.getD i [] ≠ []) (hh : here ≤ 1000000) (hP : ∀ x p, findL ls x = some p → p ≤ 1000000) :
    Calls Tryz.prog 25 #[.agg #[.slice a0 l0 c0, .slice a1 l1 c1, .map (some mb)], .slice (some ⟨g, 0, none⟩) n c, .int .i64 here] w fun e w' => e = .returned (.agg #[.int .i64 (lineV ls here ws).1, .int .i64 (lineV ls here ws).2]) ∧ Below w.heap.size w w' := by
  have HN : Hid (n = ws.length ∧ n ≤ 100000 ∧ 0 < n) := ⟨hR.len, hn, h0⟩
  have hnI : (n : Int) ≤ 100000 := by omega
  have hn1 : (1 : Int) ≤ (n : Int) := by omega
  have hcc : n ≤ c := by
    rcases hR with ⟨h1, _⟩ | ⟨x, e, h1, _⟩
    · cases h1
    · exact h1
  have hcI : (n : Int) ≤ (c : Int) := by omega
  obtain ⟨y, ey, c0x⟩ := hR.at 0 h0
  cases ey
  rw [add_plainL] at c0x
  have RT : Hid (Rs w (if c = 1 then some ⟨g, 0, none⟩ else some ⟨g, 1, none⟩) (n - 1) (c - 1) (ws.drop 1)) := rs_tail hR h0
  have AT : Hid (∀ y, (if c = 1 then some (⟨g, 0, none⟩ : Addr) else some ⟨g, 1, none⟩) = some y → ∃ g o, y = ⟨g, o, none⟩) := at_tail g c
  have TX : Hid (∀ i, i < (ws.drop 1).length → ((ws.drop 1).getD i []).length ≤ 1500 ∧ (ws.drop 1).getD i [] ≠ []) := fun i hi => by
    rw [show (ws.drop 1).getD i [] = ws.getD (i + 1) [] by simp [List.getD]]
    exact hx (i + 1) (by simp at hi; omega)
  have TL : Hid ((ws.drop 1).length = n - 1) := by show _ = _; rw [List.length_drop]; have := HN.out; omega
  obtain ⟨x0, hx0⟩ : ∃ x0, ws.getD 0 [] = x0 := ⟨_, rfl⟩
  obtain ⟨tl, htl⟩ : ∃ tl, ws.drop 1 = tl := ⟨_, rfl⟩
  have EV : Hid (lineV ls here ws = if x0 = wordW then plainV tl else lineO ls here tl (opnF (bq x0) 26 1)) := by show _ = _; rw [lineV, hx0, htl]
  rw [hx0] at c0x
  rw [htl] at RT TX TL
  have we := word_eq x0
  obtain ⟨Q1, hq1⟩ : ∃ Q1, (lineV ls here ws).1 = Q1 := ⟨_, rfl⟩
  obtain ⟨Z1, hz1⟩ : ∃ Z1, (lineV ls here ws).2 = Z1 := ⟨_, rfl⟩
  have EQ : Hid ((lineV ls here ws) = (Q1, Z1)) := by show _ = _; rw [← hq1, ← hz1]
  rw [hq1, hz1]
  have HSm : Hid (Sm w mb nn ls) := hS
  have HO : Hid (here ≤ 1000000) := hh
  have HPP : Hid (∀ x p, findL ls x = some p → p ≤ 1000000) := hP
  obtain ⟨s, hs⟩ : ∃ s, w.heap.size = s := ⟨_, rfl⟩
  have HSS : Hid (w.heap.size = s) := hs
  generalize hW : (w.alloc (.cells #[.slice a0 l0 c0, .slice a1 l1 c1, .map (some mb)] 56)).alloc (.cells #[.int .i64 0, .int .i64 0] 62) = W
  have B0 : Hid (Below w.heap.size w W) := by show Below _ _ _; rw [← hW]; exact al (al (Below.refl _ _) _) _
  have Q : Hid (Vq W s #[.slice a0 l0 c0, .slice a1 l1 c1, .map (some mb)] 56) := by show Vq _ _ _ _; rw [← hW, ← hs]; exact (Vq.new _ _ _).keep (al (Below.refl _ _) _)
  have R : Hid (Vq W (s + 1) #[.int .i64 0, .int .i64 0] 62) := by
    show Vq _ _ _ _
    rw [← hW, show s + 1 = (w.alloc (.cells #[.slice a0 l0 c0, .slice a1 l1 c1, .map (some mb)] 56)).heap.size by rw [← hs]; simp]
    exact Vq.new _ _ _
  have c0w := cell_keep B0.out c0x
  have gl : g < W.heap.size := block_of_cell c0w
  clear hS hR h0 hn hx hh hP hx0 htl hq1 hz1 c0x
  go_enter Tryz.func25, Tryz.ntmps25
  go_wp2_with fail
  go_quiet (fail)
  clear hW hs
  have W1 : Hid (Below W.heap.size W (W.drewN nq)) := drL (Below.refl _ _) nq
  generalize W.drewN nq = U at *
  have BU : Hid (Below w.heap.size w U) := on B0.out W1.out
  have QU : Hid (Vq U s #[.slice a0 l0 c0, .slice a1 l1 c1, .map (some mb)] 56) := Q.out.keep W1.out
  have RU : Hid (Vq U (s + 1) #[.int .i64 0, .int .i64 0] 62) := R.out.keep W1.out
  clear Q R W1 c0w gl B0
  generalize (if c = 1 then some (⟨g, 0, none⟩ : Addr) else some ⟨g, 1, none⟩) = ta at *
  have FU : Hid (Rs U ta (n - 1) (c - 1) tl) := RT.out.stay BU.out
  obtain ⟨m, hm⟩ : ∃ m, n - 1 = m := ⟨_, rfl⟩
  rw [hm] at FU TL ⊢
  have HM : Hid (m ≤ 100000) := by show _ ≤ _; have := HN.out; omega
  have hmI : (m : Int) ≤ 100000 := by have := HN.out; omega
  clear hm RT hnI hn1 hcc hcI
  by_cases hwd : x0 = wordW
  · rw [decide_eq_true hwd] at we
    have EP : Hid (plainV tl = (Q1, Z1)) := by show _ = _; rw [← EQ.out, EV.out, if_pos hwd]
    have FP := i_plain ta m (c - 1) tl U FU.out AT.out (by have := HM.out; omega) (fun i hi => by have := (TX.out i hi).1; omega)
    rw [EP.out] at FP
    simp only at FP
    clear EV EQ EP hwd
    go_wp2_with fail
    refine FP.mono ?_
    rintro e w5 ⟨rfl, b5⟩
    have R5 : Hid (Vq w5 (s + 1) #[.int .i64 0, .int .i64 0] 62) := RU.out.keep b5
    have B5 : Hid (Below w.heap.size w w5) := on BU.out b5
    clear b5 FP
    have NN : Hid (Vq _ (s + 1) #[.int .i64 Q1, .int .i64 Z1] 62) := pair2 R5.out (.int .i64 Q1) (.int .i64 Z1)
    have BN : Hid (Below w.heap.size w _) := below2 B5.out (show w.heap.size ≤ s + 1 by have := HSS.out; omega) (.int .i64 Q1) (.int .i64 Z1)
    have k0 := R5.out.cell 0 rfl
    have k1 := R5.out.cell 1 rfl
    have f0 := R5.out.free 0
    have f1 := R5.out.free 1
    have lk := R5.out.lt
    go_wp2_with fail
    generalize World.setCell _ ⟨s + 1, 1, none⟩ (.int .i64 Z1) = V at *
    clear k0 k1 f0 f1 lk
    have x0' := NN.out.cell 0 rfl
    have x1' := NN.out.cell 1 rfl
    exact bodyPost_ret (v := .agg #[.int .i64 Q1, .int .i64 Z1]) (by simp [results, Tryz.results25, go_sem, x0', x1']) rfl ⟨rfl, BN.out⟩
  rw [decide_eq_false hwd] at we
  have EO : Hid (lineO ls here tl (opnF (bq x0) 26 1) = (Q1, Z1)) := by show _ = _; rw [← EQ.out, EV.out, if_neg hwd]
  have FO := i_opNumber (bq x0) U
  unfold opnR at FO
  clear EV EQ hwd
  cases hop : opnF (bq x0) 26 1 with
  | none =>
    rw [hop] at FO EO
    have ER : Hid ((5, 0) = (Q1, Z1)) := EO.out
    simp only [opnO] at FO
    clear hop EO
    go_wp2_with fail
    refine FO.mono ?_
    rintro e w5 ⟨rfl, b5⟩
    have R5 : Hid (Vq (w5.alloc (.cells #[.int .i64 4, .int .i64 0] 62)) (s + 1) #[.int .i64 0, .int .i64 0] 62) := (RU.out.keep b5).keep (al (Below.refl _ _) _)
    have B5 : Hid (Below w.heap.size w (w5.alloc (.cells #[.int .i64 4, .int .i64 0] 62))) := al (on BU.out b5) _
    have V5 : Hid (Vq (w5.alloc (.cells #[.int .i64 4, .int .i64 0] 62)) w5.heap.size #[.int .i64 4, .int .i64 0] 62) := Vq.new _ _ _
    obtain ⟨u, hu⟩ : ∃ u, w5.heap.size = u := ⟨_, rfl⟩
    rw [hu] at V5
    clear b5 FO
    go_upto_region 5 with fail
    clear hu
    generalize w5.alloc (.cells #[.int .i64 4, .int .i64 0] 62) = X at *
    have v0 := V5.out.cell 0 rfl
    have NN : Hid (Vq _ (s + 1) #[.int .i64 5, .int .i64 0] 62) := pair2 R5.out (.int .i64 5) (.int .i64 0)
    have BN : Hid (Below w.heap.size w _) := below2 B5.out (show w.heap.size ≤ s + 1 by have := HSS.out; omega) (.int .i64 5) (.int .i64 0)
    have k0 := R5.out.cell 0 rfl
    have k1 := R5.out.cell 1 rfl
    have f0 := R5.out.free 0
    have f1 := R5.out.free 1
    have lk := R5.out.lt
    go_wp2_with fail
    generalize World.setCell _ ⟨s + 1, 1, none⟩ (.int .i64 0) = V at *
    clear k0 k1 f0 f1 lk
    have x0' := NN.out.cell 0 rfl
    have x1' := NN.out.cell 1 rfl
    exact bodyPost_ret (v := .agg #[.int .i64 5, .int .i64 0]) (by simp [results, Tryz.results25, go_sem, x0', x1']) rfl ⟨by have h := ER.out; cases h; rfl, BN.out⟩
  | some op =>
    obtain ⟨o1, o2⟩ := opnF_in _ _ _ _ hop
    have HOP : Hid (1 ≤ op ∧ op ≤ 26) := ⟨o1, by omega⟩
    rw [hop] at FO EO
    have ER : Hid ((if tl.length = wantN op then codeO op (argsA ls here (farB op) tl []) else (5, 0)) = (Q1, Z1)) := EO.out
    simp only [opnO] at FO
    have hopI : (op : Int) ≤ 26 := by omega
    clear hop EO o1 o2
    go_wp2_with fail
    refine FO.mono ?_
    rintro e w5 ⟨rfl, b5⟩
    have BX : Hid (Below U.heap.size U (w5.alloc (.cells #[.int .i64 0, .int .i64 op] 62))) := al b5 _
    have V5 : Hid (Vq (w5.alloc (.cells #[.int .i64 0, .int .i64 op] 62)) w5.heap.size #[.int .i64 0, .int .i64 op] 62) := Vq.new _ _ _
    obtain ⟨u, hu⟩ : ∃ u, w5.heap.size = u := ⟨_, rfl⟩
    rw [hu] at V5
    clear b5 FO
    go_upto_region 5 with fail
    clear hu
    generalize w5.alloc (.cells #[.int .i64 0, .int .i64 op] 62) = X at *
    have v0 := V5.out.cell 0 rfl
    have v1 := V5.out.cell 1 rfl
    have FT := i_told op X HOP.out.1 HOP.out.2
    obtain ⟨wn, hwn⟩ : ∃ wn, wantN op = wn := ⟨_, rfl⟩
    have W3 : Hid (wn ≤ 3) := by show _ ≤ _; rw [← hwn]; rcases want_cases op HOP.out.1 HOP.out.2 with h | h | h | h <;> omega
    have HWN : Hid (wantN op = wn) := hwn
    rw [hwn] at FT ER
    clear hwn
    have hw3 : (wn : Int) ≤ 3 := by have := W3.out; omega
    by_cases hlen : m = wn
    case neg =>
      have hlB : ((m : Int) == (wn : Int)) = false := by rw [beq_eq_false_iff_ne]; omega
      have hlI : ¬ (m : Int) = (wn : Int) := by omega
      have ER2 : Hid ((5, 0) = (Q1, Z1)) := by have h := ER.out; rw [if_neg (by rw [TL.out]; exact hlen)] at h; exact h
      clear ER hlen
      go_upto_region 6 with (go_at_call 50; refine FT.mono ?_; rintro e w6 ⟨ta6, tc6, rfl, b6⟩; have R5 : Hid (Vq w6 (s + 1) #[.int .i64 0, .int .i64 0] 62) := (RU.out.keep BX.out).keep b6; have B5 : Hid (Below w.heap.size w w6) := on (on BU.out BX.out) b6)
      clear FT v0 v1
      have NN : Hid (Vq _ (s + 1) #[.int .i64 5, .int .i64 0] 62) := pair2 R5.out (.int .i64 5) (.int .i64 0)
      have BN : Hid (Below w.heap.size w _) := below2 B5.out (show w.heap.size ≤ s + 1 by have := HSS.out; omega) (.int .i64 5) (.int .i64 0)
      have k0 := R5.out.cell 0 rfl
      have k1 := R5.out.cell 1 rfl
      have f0 := R5.out.free 0
      have f1 := R5.out.free 1
      have lk := R5.out.lt
      go_wp2_with fail
      generalize World.setCell _ ⟨s + 1, 1, none⟩ (.int .i64 0) = V at *
      clear k0 k1 f0 f1 lk
      have x0' := NN.out.cell 0 rfl
      have x1' := NN.out.cell 1 rfl
      exact bodyPost_ret (v := .agg #[.int .i64 5, .int .i64 0]) (by simp [results, Tryz.results25, go_sem, x0', x1']) rfl ⟨by have h := ER2.out; cases h; rfl, BN.out⟩
    have hlB : ((m : Int) == (wn : Int)) = true := by rw [beq_iff_eq]; omega
    have ER2 : Hid (codeO op (argsA ls here (farB op) tl []) = (Q1, Z1)) := by have h := ER.out; rw [if_pos (by rw [TL.out]; exact hlen)] at h; exact h
    have TLN : Hid (tl.length = wantN op) := by show _ = _; rw [TL.out, HWN.out]; exact hlen
    clear ER
    subst hlen
    go_upto_region 7 with (go_at_call 50; refine FT.mono ?_; rintro e w6 ⟨ta6, tc6, rfl, b6⟩; have BY : Hid (Below U.heap.size U w6) := on BX.out b6; have V6 : Hid (Vq w6 u #[.int .i64 0, .int .i64 op] 62) := V5.out.keep b6)
    have Q6 : Hid (Vq w6 s #[.slice a0 l0 c0, .slice a1 l1 c1, .map (some mb)] 56) := QU.out.keep BY.out
    have S6 : Hid (Sm w6 mb nn ls) := (HSm.out.keep BU.out).keep BY.out
    have FR := i_readTold a0 a1 l0 c0 l1 c1 mb nn op ta m (c - 1) tl here ls w6 S6.out HOP.out.1 HOP.out.2 (FU.out.stay BY.out) AT.out HM.out TX.out HO.out HPP.out
    obtain ⟨A, hA⟩ : ∃ A, argsA ls here (farB op) tl [] = A := ⟨_, rfl⟩
    have ALN : Hid (A.1 = 0 → A.2.length = wantN op) := fun h => by rw [← hA] at h ⊢; rw [argsA_len ls here (farB op) tl [] h]; simp [TLN.out]
    rw [hA] at FR ER2
    obtain ⟨A1, A2⟩ := A
    simp only at FR ALN
    clear FT v0 v1 hA
    have v1 := V6.out.cell 1 rfl
    have s0 := Q6.out.cell 0 rfl
    have s1 := Q6.out.cell 1 rfl
    have s2 := Q6.out.cell 2 rfl
    go_wp2_with fail
    refine FR.mono ?_
    rintro e w7 ⟨nv, rfl, N7, b7⟩
    obtain ⟨na, nc, rfl, _⟩ := N7.shape
    have B7 : Hid (Below U.heap.size U w7) := on BY.out b7
    have V7 : Hid (Vq w7 u #[.int .i64 0, .int .i64 op] 62) := V6.out.keep b7
    have NU7 : Hid (Nums w7 w6.heap.size (.slice na A2.length nc) A2) := N7
    clear b7 FR N7 v1 s0 s1 s2
    by_cases ha : A1 = 0
    case neg =>
      have ER3 : Hid ((A1, 0) = (Q1, Z1)) := by have h := ER2.out; rw [codeO, if_neg ha] at h; exact h
      have haB : (A1 != 0) = true := by simpa using ha
      have R5 : Hid (Vq w7 (s + 1) #[.int .i64 0, .int .i64 0] 62) := RU.out.keep B7.out
      have B5 : Hid (Below w.heap.size w w7) := on BU.out B7.out
      generalize A2.length = al2 at *
      have NN : Hid (Vq _ (s + 1) #[.int .i64 A1, .int .i64 0] 62) := pair2 R5.out (.int .i64 A1) (.int .i64 0)
      have BN : Hid (Below w.heap.size w _) := below2 B5.out (show w.heap.size ≤ s + 1 by have := HSS.out; omega) (.int .i64 A1) (.int .i64 0)
      have k0 := R5.out.cell 0 rfl
      have k1 := R5.out.cell 1 rfl
      have f0 := R5.out.free 0
      have f1 := R5.out.free 1
      have lk := R5.out.lt
      go_wp2_with fail
      generalize World.setCell _ ⟨s + 1, 1, none⟩ (.int .i64 0) = V at *
      clear k0 k1 f0 f1 lk
      have x0' := NN.out.cell 0 rfl
      have x1' := NN.out.cell 1 rfl
      exact bodyPost_ret (v := .agg #[.int .i64 A1, .int .i64 0]) (by simp [results, Tryz.results25, go_sem, x0', x1']) rfl ⟨by have h := ER3.out; cases h; rfl, BN.out⟩
    subst ha
    have ER3 : Hid (insL op A2 = (Q1, Z1)) := by have h := ER2.out; rw [codeO, if_pos rfl] at h; exact h
    have FI := i_insOf op na nc w6.heap.size A2 w7 HOP.out.1 HOP.out.2 (ALN.out rfl) NU7.out
    have FE := fun w => impl_encode op (arD op A2) (arA op A2) (arI op A2) w
    have EE : insC op (arD op A2) (arA op A2) (arI op A2) = Q1 ∧ encV op (arD op A2) (arA op A2) (arI op A2) = Z1 := by have h := ER3.out; rw [insL] at h; cases h; exact ⟨rfl, rfl⟩
    rw [EE.1, EE.2] at FE
    have v1 := V7.out.cell 1 rfl
    clear EE ER3 ER2
    generalize arD op A2 = d1 at *
    generalize arA op A2 = d2 at *
    generalize arI op A2 = d3 at *
    generalize A2.length = al2 at *
    go_wp2_with fail
    refine FI.mono ?_
    rintro e w8 ⟨rfl, b8⟩
    have B8 : Hid (Below U.heap.size U w8) := on B7.out b8
    clear b8 FI v1
    go_wp2_with fail
    refine (FE _).mono ?_
    rintro e w9 ⟨rfl, b9⟩
    have R5 : Hid (Vq w9 (s + 1) #[.int .i64 0, .int .i64 0] 62) := RU.out.keep (on B8.out b9)
    have B5 : Hid (Below w.heap.size w w9) := on BU.out (on B8.out b9)
    clear b9 FE
    have NN : Hid (Vq _ (s + 1) #[.int .i64 Q1, .int .i64 Z1] 62) := pair2 R5.out (.int .i64 Q1) (.int .i64 Z1)
    have BN : Hid (Below w.heap.size w _) := below2 B5.out (show w.heap.size ≤ s + 1 by have := HSS.out; omega) (.int .i64 Q1) (.int .i64 Z1)
    have k0 := R5.out.cell 0 rfl
    have k1 := R5.out.cell 1 rfl
    have f0 := R5.out.free 0
    have f1 := R5.out.free 1
    have lk := R5.out.lt
    go_wp2_with fail
    generalize World.setCell _ ⟨s + 1, 1, none⟩ (.int .i64 Z1) = V at *
    clear k0 k1 f0 f1 lk
    have x0' := NN.out.cell 0 rfl
    have x1' := NN.out.cell 1 rfl
    exact bodyPost_ret (v := .agg #[.int .i64 Q1, .int .i64 Z1]) (by simp [results, Tryz.results25, go_sem, x0', x1']) rfl ⟨rfl, BN.out⟩
end Go.Proofs.YtdmlejfopmimfaaGreatDoor
