/- Texts of this seat, joined. -/
import Derived.Test.YtdmlejfopmimfaaGreatDoorQ48
namespace Go.Proofs.YtdmlejfopmimfaaGreatDoor
open Go.RowKit
set_option linter.unusedVariables false

/-- Plain words by the way of all numbers. -/
theorem plain_bad {ls : List Lbl} {here : Nat} {tl : List Wb} (h : (argsA ls here false tl []).1 ≠ 0) : plainV tl = (5, 0) := by
  unfold plainV
  split
  · rename_i h1
    cases tl with
    | nil => simp at h1
    | cons x r =>
      have hr : r = [] := by simpa using h1
      subst hr
      rw [argsA] at h
      have e : argO ls here false true x = argP (numO x) (5, 0) := argO_num (by simp [wayB])
      simp only [List.isEmpty_nil, e] at h
      cases hn : numO x with
      | none => simp [plainO, hn]
      | some n => rw [hn] at h; simp [argP, argsA] at h
  · rfl
theorem plain_len {ls : List Lbl} {here : Nat} {tl : List Wb} (h : (argsA ls here false tl []).1 = 0) (h2 : (argsA ls here false tl []).2.length ≠ 1) : plainV tl = (5, 0) := by
  have := argsA_len ls here false tl [] h
  unfold plainV
  rw [if_neg]
  simp at this
  omega
theorem plain_one {ls : List Lbl} {here : Nat} {tl : List Wb} (h : (argsA ls here false tl []).1 = 0) (h2 : (argsA ls here false tl []).2.length = 1) : ∃ k : Nat, (argsA ls here false tl []).2 = [(k : Int)] ∧ plainV tl = plainO (some k) ∧ k < 10000000000 := by
  have hl := argsA_len ls here false tl [] h
  rw [h2] at hl
  cases tl with
  | nil => simp at hl
  | cons x r =>
    have hr : r = [] := by simpa using hl
    subst hr
    rw [argsA] at h
    rw [argsA]
    have e : argO ls here false true x = argP (numO x) (5, 0) := argO_num (by simp [wayB])
    simp only [List.isEmpty_nil, e] at h ⊢
    cases hn : numO x with
    | none => rw [hn] at h; simp [argP] at h
    | some k => exact ⟨k, by simp [argP, argsA], by simp [plainV, hn], numO_lt hn⟩
set_option maxRecDepth 20000 in
set_option maxHeartbeats 8000000 in
theorem s_ins (g n c : Nat) (ws : List Wb) (lv : Value) (lb : Nat) (ls : List Lbl) (here : Nat) (w : World) (hL : Lb w lb lv ls) (hls : ls.length ≤ 1048576) (hR : Rs w (some ⟨g, 0, none⟩) n c ws) (h0 : 0 < n) (hn : n ≤ 100000) (hx : ∀ i, i < ws.length → (ws.getD i []).length ≤ 1500 ∧ ws.getD i [] ≠ []) (hh : here ≤ 1000) (hP : ∀ x p, findL ls x = some p → p ≤ 1000000) :
    Calls Tryz.prog 29 #[.slice (some ⟨g, 0, none⟩) n c, lv, .int .i64 here] w fun e w' => e = .returned (.tuple #[.int .i64 (lineV ls here ws).2, .int .i64 (lineV ls here ws).1]) ∧ Below w.heap.size w w' := by
  have HN : Hid (n = ws.length ∧ n ≤ 100000 ∧ 0 < n) := ⟨hR.len, hn, h0⟩
  have hnI : (n : Int) ≤ 100000 := by omega
  have hn1 : (1 : Int) ≤ (n : Int) := by omega
  have hn0 : (0 : Int) < (n : Int) := by omega
  obtain ⟨y, ey, c0x⟩ := hR.at 0 h0
  cases ey
  rw [add_plainL] at c0x
  have FA := fun (op : Nat) (W : World) (b : Below w.heap.size w W) => s_numbers (some ⟨g, 0, none⟩) n c ws op lv lb ls here W (hL.keep b) hls (hR.stay b) h0 (fun y e => by cases e; exact ⟨_, rfl⟩) hn hx hh hP
  have TL : Hid ((ws.drop 1).length + 1 = n) := by show _ = _; rw [List.length_drop]; have := HN.out; omega
  obtain ⟨x0, hx0⟩ : ∃ x0, ws.getD 0 [] = x0 := ⟨_, rfl⟩
  obtain ⟨tl, htl⟩ : ∃ tl, ws.drop 1 = tl := ⟨_, rfl⟩
  have EV : Hid (lineV ls here ws = if x0 = wordW then plainV tl else lineO ls here tl (opnF (bq x0) 26 1)) := by show _ = _; rw [lineV, hx0, htl]
  rw [hx0] at c0x
  rw [htl] at TL FA
  have FA : Hid (∀ (op : Nat) (W : World), Below w.heap.size w W → Calls Tryz.prog 57 #[.slice (some ⟨g, 0, none⟩) n c, .int .i64 op, lv, .int .i64 here] W fun e w' => ∃ va vl vc, e = .returned (.tuple #[.slice va vl vc, .int .i64 (argsA ls here (farB op) tl []).1]) ∧ ((argsA ls here (farB op) tl []).1 = 0 → Nums w' W.heap.size (.slice va vl vc) (argsA ls here (farB op) tl []).2) ∧ Below W.heap.size W w') := FA
  have we := word_eq x0
  have C0 : Hid (w.cell? ⟨g, 0, none⟩ = some (.string (bq x0))) := c0x
  obtain ⟨Q1, hq1⟩ : ∃ Q1, (lineV ls here ws).1 = Q1 := ⟨_, rfl⟩
  obtain ⟨Z1, hz1⟩ : ∃ Z1, (lineV ls here ws).2 = Z1 := ⟨_, rfl⟩
  have EQ : Hid ((lineV ls here ws) = (Q1, Z1)) := by show _ = _; rw [← hq1, ← hz1]
  rw [hq1, hz1]
  have gl : g < w.heap.size := block_of_cell c0x
  obtain ⟨la, lc, rfl, _⟩ := hL.shape
  obtain ⟨ll, hll⟩ : ∃ ll, ls.length = ll := ⟨_, rfl⟩
  rw [hll] at FA ⊢
  clear hL hR h0 hn hx hh hP hx0 htl hq1 hz1 hls hll
  by_cases hwd : x0 = wordW
  · rw [decide_eq_true hwd] at we
    have EP : Hid (plainV tl = (Q1, Z1)) := by show _ = _; rw [← EQ.out, EV.out, if_pos hwd]
    have F0 := FA.out 0 w (Below.refl _ _)
    have ef : farB 0 = false := rfl
    rw [ef] at F0
    have P1 : Hid (_ → _) := plain_bad (ls := ls) (here := here) (tl := tl)
    have P2 : Hid (_ → _ → _) := plain_len (ls := ls) (here := here) (tl := tl)
    have P3 : Hid (_ → _ → _) := plain_one (ls := ls) (here := here) (tl := tl)
    generalize argsA ls here false tl [] = A at *
    obtain ⟨A1, A2⟩ := A
    simp only at F0 P1 P2 P3
    have F0 : Calls Tryz.prog 57 #[.slice (some ⟨g, 0, none⟩) n c, .int .i64 0, .slice la ll lc, .int .i64 here] w fun e w' => ∃ va vl vc, e = .returned (.tuple #[.slice va vl vc, .int .i64 A1]) ∧ (A1 = 0 → Nums w' w.heap.size (.slice va vl vc) A2) ∧ Below w.heap.size w w' := F0
    clear EV EQ hwd FA ef
    go_enter Tryz.func29, Tryz.ntmps29
    go_wp2_with fail
    refine F0.mono ?_
    rintro e w2 ⟨va, vl, vc, rfl, hNu, b2⟩
    have B2 : Hid (Below w.heap.size w w2) := b2
    have HNU : Hid (A1 = 0 → Nums w2 w.heap.size (.slice va vl vc) A2) := hNu
    clear b2 hNu F0 c0x gl
    by_cases ha : A1 = 0
    case neg =>
      have ER : Hid ((5, 0) = (Q1, Z1)) := by show _ = _; rw [← EP.out]; exact (P1.out ha).symm
      have haB : (A1 != 0) = true := by simpa using ha
      clear P1 P2 P3 EP
      go_wp2_with fail
      exact bodyPost_ret (v := .tuple #[.int .i64 0, .int .i64 5]) (by simp [results, Tryz.results29, go_sem]) rfl ⟨by have h := ER.out; cases h; rfl, B2.out⟩
    subst ha
    have NU := HNU.out rfl
    have hvl : vl = A2.length := by obtain ⟨_, _, e, _⟩ := NU.shape; cases e; rfl
    have hvm : (vl : Int) ≤ 9223372036854775807 := by obtain ⟨_, _, e, e1, e2, _⟩ := NU.shape; cases e; unfold maxLen at e2; omega
    by_cases h1 : A2.length = 1
    case neg =>
      have ER : Hid ((5, 0) = (Q1, Z1)) := by show _ = _; rw [← EP.out]; exact (P2.out rfl h1).symm
      have hlI : ¬ (vl : Int) = 1 := by omega
      have hlB : ((vl : Int) != 1) = true := by simpa using hlI
      clear P1 P2 P3 EP NU HNU hvl
      go_wp2_with fail
      exact bodyPost_ret (v := .tuple #[.int .i64 0, .int .i64 5]) (by simp [results, Tryz.results29, go_sem]) rfl ⟨by have h := ER.out; cases h; rfl, B2.out⟩
    obtain ⟨k, e1, e2, hk⟩ := P3.out rfl h1
    obtain ⟨gn, rfl, hc⟩ := nums_at3 NU hvl (by omega)
    have cn := hc 0 (by omega)
    rw [e1] at cn
    have cn : w2.cell? ⟨gn, 0, none⟩ = some (.int .i64 k) := cn
    have hvl1 : vl = 1 := by omega
    subst hvl1
    have ER : Hid (plainO (some k) = (Q1, Z1)) := by show _ = _; rw [← EP.out, e2]
    have hkI : (k : Int) < 10000000000 := by omega
    clear P1 P2 P3 EP NU HNU hvl hc e1 e2 h1 hk
    by_cases hbig : k ≤ 4294967295
    · have ER2 : Hid ((0, (k : Int)) = (Q1, Z1)) := by have h := ER.out; rw [plainO, if_pos hbig] at h; exact h
      have hbI : ¬ (4294967295 : Int) < (k : Int) := by omega
      clear ER hbig hkI
      go_wp2_with fail
      exact bodyPost_ret (v := .tuple #[.int .i64 k, .int .i64 0]) (by simp [results, Tryz.results29, go_sem]) rfl ⟨by have h := ER2.out; cases h; rfl, B2.out⟩
    · have ER2 : Hid ((3, (0 : Int)) = (Q1, Z1)) := by have h := ER.out; rw [plainO, if_neg hbig] at h; exact h
      have hbI : (4294967295 : Int) < (k : Int) := by omega
      clear ER hbig hkI
      go_wp2_with fail
      exact bodyPost_ret (v := .tuple #[.int .i64 0, .int .i64 3]) (by simp [results, Tryz.results29, go_sem]) rfl ⟨by have h := ER2.out; cases h; rfl, B2.out⟩
  rw [decide_eq_false hwd] at we
  have EO : Hid (lineO ls here tl (opnF (bq x0) 26 1) = (Q1, Z1)) := by show _ = _; rw [← EQ.out, EV.out, if_neg hwd]
  have FO := s_opNumber (bq x0) w
  unfold opnR at FO
  clear EV EQ hwd
  cases hop : opnF (bq x0) 26 1 with
  | none =>
    rw [hop] at FO EO
    have ER : Hid ((5, 0) = (Q1, Z1)) := EO.out
    simp only [opnO] at FO
    clear hop EO FA
    go_enter Tryz.func29, Tryz.ntmps29
    go_wp2_with fail
    refine FO.mono ?_
    rintro e w5 ⟨rfl, b5⟩
    have B5 : Hid (Below w.heap.size w (w5.alloc (.cells #[.int .i64 4, .int .i64 0] 62))) := al b5 _
    clear b5 FO c0x gl
    go_wp2_with fail
    exact bodyPost_ret (v := .tuple #[.int .i64 0, .int .i64 5]) (by simp [results, Tryz.results29, go_sem]) rfl ⟨by have h := ER.out; cases h; rfl, B5.out⟩
  | some op =>
    obtain ⟨o1, o2⟩ := opnF_in _ _ _ _ hop
    have HOP : Hid (1 ≤ op ∧ op ≤ 26) := ⟨o1, by omega⟩
    rw [hop] at FO EO
    have ER : Hid ((if tl.length = wantN op then codeO op (argsA ls here (farB op) tl []) else (5, 0)) = (Q1, Z1)) := EO.out
    simp only [opnO] at FO
    have FB := fun w => spec_bare (op : Int) w (by omega)
    have F1 := FA.out op
    have ALN : Hid ((argsA ls here (farB op) tl []).1 = 0 → (argsA ls here (farB op) tl []).2.length = tl.length) := fun h => by rw [argsA_len ls here (farB op) tl [] h]; simp
    generalize argsA ls here (farB op) tl [] = A at *
    obtain ⟨A1, A2⟩ := A
    simp only at F1 ALN
    have HF1 : Hid (∀ (W : World), Below w.heap.size w W → Calls Tryz.prog 57 #[.slice (some ⟨g, 0, none⟩) n c, .int .i64 op, .slice la ll lc, .int .i64 here] W fun e w' => ∃ va vl vc, e = .returned (.tuple #[.slice va vl vc, .int .i64 A1]) ∧ (A1 = 0 → Nums w' W.heap.size (.slice va vl vc) A2) ∧ Below W.heap.size W w') := F1
    have hopI : (op : Int) ≤ 26 := by omega
    clear hop EO FA F1
    rcases want_cases op HOP.out.1 HOP.out.2 with ⟨hw, hd, ha, hi, hk⟩ | ⟨hw, hd, ha, hi, hk⟩ | ⟨hw, hd, ha, hi, hk⟩ | ⟨hw, hd, ha, hi, hk⟩
    · rw [hd, ha, hi] at FB
      rw [hw] at ER
      have eD : arD op A2 = A2.getD 0 0 := by simp [arD, hd]
      have eA : arA op A2 = 0 := by simp [arA, ha]
      have eI : arI op A2 = A2.getD 1 0 := by simp [arI, hi, hd, ha]
      have ED : Hid (arD op A2 = A2.getD 0 0 ∧ arA op A2 = 0 ∧ arI op A2 = A2.getD 1 0) := ⟨eD, eA, eI⟩
      clear hw hd ha hi hk eD eA eI
      go_enter Tryz.func29, Tryz.ntmps29
      go_wp2_with fail
      refine FO.mono ?_
      rintro e w5 ⟨rfl, b5⟩
      have B5 : Hid (Below w.heap.size w ((w5.alloc (.cells #[.int .i64 0, .int .i64 op] 62)).alloc (.cells #[.int .i64 op, .int .i64 0, .int .i64 0, .int .i64 0] 72))) := al (al b5 _) _
      obtain ⟨u, hu⟩ : ∃ u, w5.heap.size + 1 = u := ⟨_, rfl⟩
      have V5 : Hid (Vq ((w5.alloc (.cells #[.int .i64 0, .int .i64 op] 62)).alloc (.cells #[.int .i64 op, .int .i64 0, .int .i64 0, .int .i64 0] 72)) u #[.int .i64 op, .int .i64 0, .int .i64 0, .int .i64 0] 72) := by
        have h := Vq.new (w5.alloc (.cells #[.int .i64 0, .int .i64 op] 62)) #[.int .i64 op, .int .i64 0, .int .i64 0, .int .i64 0] 72
        rw [show (w5.alloc (.cells #[.int .i64 0, .int .i64 op] 62)).heap.size = u by rw [← hu]; simp] at h
        exact h
      have UB : Hid (w.heap.size ≤ u) := by show _ ≤ _; have := b5.size; omega
      clear b5 FO c0x gl
      go_upto_region 12 with fail
      clear hu
      generalize (w5.alloc (.cells #[.int .i64 0, .int .i64 op] 62)).alloc (.cells #[.int .i64 op, .int .i64 0, .int .i64 0, .int .i64 0] 72) = X at *
      have v0 := V5.out.cell 0 rfl
      by_cases hlen : tl.length = 2
      case neg =>
        have hlI : ¬ (n : Int) = 3 := by have := TL.out; omega
        have hlB : ((n : Int) != 3) = true := by simpa using hlI
        have ER2 : Hid ((5, 0) = (Q1, Z1)) := by have h := ER.out; rw [if_neg hlen] at h; exact h
        clear ER
        go_wp2_with (go_at_call 59; refine (FB _).mono ?_; rintro e X ⟨rfl, rfl⟩)
        exact bodyPost_ret (v := .tuple #[.int .i64 0, .int .i64 5]) (by simp [results, Tryz.results29, go_sem]) rfl ⟨by have h := ER2.out; cases h; rfl, B5.out⟩
      have hlI : (n : Int) = 3 := by have := TL.out; omega
      have hln : n = 3 := by have := TL.out; omega
      subst hln
      have ER2 : Hid (codeO op (A1, A2) = (Q1, Z1)) := by have h := ER.out; rw [if_pos hlen] at h; exact h
      have AL2 : Hid (A1 = 0 → A2.length = 2) := fun h => by rw [ALN.out h]; exact hlen
      clear ER hlen hlI ALN
      have FN := HF1.out X B5.out
      go_upto_region 22 with (go_at_call 59; refine (FB _).mono ?_; rintro e X ⟨rfl, rfl⟩)
      go_wp2_with fail
      refine FN.mono ?_
      rintro e w7 ⟨va, vl, vc, rfl, hNu, b7⟩
      have HNU : Hid (A1 = 0 → Nums w7 X.heap.size (.slice va vl vc) A2) := hNu
      have B7 : Hid (Below w.heap.size w w7) := on B5.out b7
      have V7 : Hid (Vq w7 u #[.int .i64 op, .int .i64 0, .int .i64 0, .int .i64 0] 72) := V5.out.keep b7
      clear b7 hNu FN v0
      by_cases ha : A1 = 0
      case neg =>
        have ER3 : Hid ((A1, 0) = (Q1, Z1)) := by have h := ER2.out; rw [codeO, if_neg ha] at h; exact h
        have haB : (A1 != 0) = true := by simpa using ha
        go_wp2_with fail
        exact bodyPost_ret (v := .tuple #[.int .i64 0, .int .i64 A1]) (by simp [results, Tryz.results29, go_sem]) rfl ⟨by have h := ER3.out; cases h; rfl, B7.out⟩
      subst ha
      have NU := HNU.out rfl
      have hvl : vl = A2.length := by obtain ⟨_, _, e, _⟩ := NU.shape; cases e; rfl
      have hv2 : vl = 2 := by rw [hvl]; exact AL2.out rfl
      obtain ⟨gn, rfl, hc⟩ := nums_at3 NU hvl (by omega)
      have cn0 := hc 0 (by omega)
      have cn1 := hc 1 (by omega)
      have gne : gn ≠ u := by have h := (NU.lt gn rfl).1; have := V5.out.lt; omega
      subst hv2
      have FE := fun w => spec_encode op (arD op A2) (arA op A2) (arI op A2) w
      have EE : insC op (arD op A2) (arA op A2) (arI op A2) = Q1 ∧ encV op (arD op A2) (arA op A2) (arI op A2) = Z1 := by have h := ER2.out; rw [codeO, if_pos rfl, insL] at h; cases h; exact ⟨rfl, rfl⟩
      rw [EE.1, EE.2, ED.out.1, ED.out.2.1, ED.out.2.2] at FE
      clear EE ER2 ED NU HNU hvl hc
      generalize A2.getD 0 0 = z0 at *
      generalize A2.getD 1 0 = z1 at *
      have k0 := V7.out.cell 0 rfl
      have k1 := V7.out.cell 1 rfl
      have k2 := V7.out.cell 2 rfl
      have k3 := V7.out.cell 3 rfl
      have f1 := V7.out.free 1
      have f2 := V7.out.free 2
      have f3 := V7.out.free 3
      have lk := V7.out.lt
      go_wp2_with fail
      refine (FE _).mono ?_
      rintro e w8 ⟨rfl, b8⟩
      have B8 : Hid (Below w.heap.size w w8) := on ((B7.out.setCell UB.out _).setCell UB.out _) b8
      clear b8 FE
      go_wp2_with fail
      go_quiet (fail)
      go_wp2_with fail
      exact bodyPost_ret (v := .tuple #[.int .i64 Z1, .int .i64 Q1]) (by simp [results, Tryz.results29, go_sem]) rfl ⟨rfl, drL (al B8.out _) nq⟩
    · rw [hd, ha, hi] at FB
      rw [hw] at ER
      have eD : arD op A2 = 0 := by simp [arD, hd]
      have eA : arA op A2 = A2.getD 0 0 := by simp [arA, ha, hd]
      have eI : arI op A2 = A2.getD 1 0 := by simp [arI, hi, hd, ha]
      have ED : Hid (arD op A2 = 0 ∧ arA op A2 = A2.getD 0 0 ∧ arI op A2 = A2.getD 1 0) := ⟨eD, eA, eI⟩
      clear hw hd ha hi hk eD eA eI
      go_enter Tryz.func29, Tryz.ntmps29
      go_wp2_with fail
      refine FO.mono ?_
      rintro e w5 ⟨rfl, b5⟩
      have B5 : Hid (Below w.heap.size w ((w5.alloc (.cells #[.int .i64 0, .int .i64 op] 62)).alloc (.cells #[.int .i64 op, .int .i64 0, .int .i64 0, .int .i64 0] 72))) := al (al b5 _) _
      obtain ⟨u, hu⟩ : ∃ u, w5.heap.size + 1 = u := ⟨_, rfl⟩
      have V5 : Hid (Vq ((w5.alloc (.cells #[.int .i64 0, .int .i64 op] 62)).alloc (.cells #[.int .i64 op, .int .i64 0, .int .i64 0, .int .i64 0] 72)) u #[.int .i64 op, .int .i64 0, .int .i64 0, .int .i64 0] 72) := by
        have h := Vq.new (w5.alloc (.cells #[.int .i64 0, .int .i64 op] 62)) #[.int .i64 op, .int .i64 0, .int .i64 0, .int .i64 0] 72
        rw [show (w5.alloc (.cells #[.int .i64 0, .int .i64 op] 62)).heap.size = u by rw [← hu]; simp] at h
        exact h
      have UB : Hid (w.heap.size ≤ u) := by show _ ≤ _; have := b5.size; omega
      clear b5 FO c0x gl
      go_upto_region 12 with fail
      clear hu
      generalize (w5.alloc (.cells #[.int .i64 0, .int .i64 op] 62)).alloc (.cells #[.int .i64 op, .int .i64 0, .int .i64 0, .int .i64 0] 72) = X at *
      have v0 := V5.out.cell 0 rfl
      by_cases hlen : tl.length = 2
      case neg =>
        have hlI : ¬ (n : Int) = 3 := by have := TL.out; omega
        have hlB : ((n : Int) != 3) = true := by simpa using hlI
        have ER2 : Hid ((5, 0) = (Q1, Z1)) := by have h := ER.out; rw [if_neg hlen] at h; exact h
        clear ER
        go_wp2_with (go_at_call 59; refine (FB _).mono ?_; rintro e X ⟨rfl, rfl⟩)
        exact bodyPost_ret (v := .tuple #[.int .i64 0, .int .i64 5]) (by simp [results, Tryz.results29, go_sem]) rfl ⟨by have h := ER2.out; cases h; rfl, B5.out⟩
      have hlI : (n : Int) = 3 := by have := TL.out; omega
      have hln : n = 3 := by have := TL.out; omega
      subst hln
      have ER2 : Hid (codeO op (A1, A2) = (Q1, Z1)) := by have h := ER.out; rw [if_pos hlen] at h; exact h
      have AL2 : Hid (A1 = 0 → A2.length = 2) := fun h => by rw [ALN.out h]; exact hlen
      clear ER hlen hlI ALN
      have FN := HF1.out X B5.out
      go_upto_region 22 with (go_at_call 59; refine (FB _).mono ?_; rintro e X ⟨rfl, rfl⟩)
      go_wp2_with fail
      refine FN.mono ?_
      rintro e w7 ⟨va, vl, vc, rfl, hNu, b7⟩
      have HNU : Hid (A1 = 0 → Nums w7 X.heap.size (.slice va vl vc) A2) := hNu
      have B7 : Hid (Below w.heap.size w w7) := on B5.out b7
      have V7 : Hid (Vq w7 u #[.int .i64 op, .int .i64 0, .int .i64 0, .int .i64 0] 72) := V5.out.keep b7
      clear b7 hNu FN v0
      by_cases ha : A1 = 0
      case neg =>
        have ER3 : Hid ((A1, 0) = (Q1, Z1)) := by have h := ER2.out; rw [codeO, if_neg ha] at h; exact h
        have haB : (A1 != 0) = true := by simpa using ha
        go_wp2_with fail
        exact bodyPost_ret (v := .tuple #[.int .i64 0, .int .i64 A1]) (by simp [results, Tryz.results29, go_sem]) rfl ⟨by have h := ER3.out; cases h; rfl, B7.out⟩
      subst ha
      have NU := HNU.out rfl
      have hvl : vl = A2.length := by obtain ⟨_, _, e, _⟩ := NU.shape; cases e; rfl
      have hv2 : vl = 2 := by rw [hvl]; exact AL2.out rfl
      obtain ⟨gn, rfl, hc⟩ := nums_at3 NU hvl (by omega)
      have cn0 := hc 0 (by omega)
      have cn1 := hc 1 (by omega)
      have gne : gn ≠ u := by have h := (NU.lt gn rfl).1; have := V5.out.lt; omega
      subst hv2
      have FE := fun w => spec_encode op (arD op A2) (arA op A2) (arI op A2) w
      have EE : insC op (arD op A2) (arA op A2) (arI op A2) = Q1 ∧ encV op (arD op A2) (arA op A2) (arI op A2) = Z1 := by have h := ER2.out; rw [codeO, if_pos rfl, insL] at h; cases h; exact ⟨rfl, rfl⟩
      rw [EE.1, EE.2, ED.out.1, ED.out.2.1, ED.out.2.2] at FE
      clear EE ER2 ED NU HNU hvl hc
      generalize A2.getD 0 0 = z0 at *
      generalize A2.getD 1 0 = z1 at *
      have k0 := V7.out.cell 0 rfl
      have k1 := V7.out.cell 1 rfl
      have k2 := V7.out.cell 2 rfl
      have k3 := V7.out.cell 3 rfl
      have f1 := V7.out.free 1
      have f2 := V7.out.free 2
      have f3 := V7.out.free 3
      have lk := V7.out.lt
      go_wp2_with fail
      refine (FE _).mono ?_
      rintro e w8 ⟨rfl, b8⟩
      have B8 : Hid (Below w.heap.size w w8) := on ((B7.out.setCell UB.out _).setCell UB.out _) b8
      clear b8 FE
      go_wp2_with fail
      go_quiet (fail)
      go_wp2_with fail
      exact bodyPost_ret (v := .tuple #[.int .i64 Z1, .int .i64 Q1]) (by simp [results, Tryz.results29, go_sem]) rfl ⟨rfl, drL (al B8.out _) nq⟩
    · rw [hd, ha, hi] at FB
      rw [hw] at ER
      have eD : arD op A2 = 0 := by simp [arD, hd]
      have eA : arA op A2 = 0 := by simp [arA, ha]
      have eI : arI op A2 = 0 := by simp [arI, hi]
      have ED : Hid (arD op A2 = 0 ∧ arA op A2 = 0 ∧ arI op A2 = 0) := ⟨eD, eA, eI⟩
      clear hw hd ha hi hk eD eA eI
      go_enter Tryz.func29, Tryz.ntmps29
      go_wp2_with fail
      refine FO.mono ?_
      rintro e w5 ⟨rfl, b5⟩
      have B5 : Hid (Below w.heap.size w ((w5.alloc (.cells #[.int .i64 0, .int .i64 op] 62)).alloc (.cells #[.int .i64 op, .int .i64 0, .int .i64 0, .int .i64 0] 72))) := al (al b5 _) _
      obtain ⟨u, hu⟩ : ∃ u, w5.heap.size + 1 = u := ⟨_, rfl⟩
      have V5 : Hid (Vq ((w5.alloc (.cells #[.int .i64 0, .int .i64 op] 62)).alloc (.cells #[.int .i64 op, .int .i64 0, .int .i64 0, .int .i64 0] 72)) u #[.int .i64 op, .int .i64 0, .int .i64 0, .int .i64 0] 72) := by
        have h := Vq.new (w5.alloc (.cells #[.int .i64 0, .int .i64 op] 62)) #[.int .i64 op, .int .i64 0, .int .i64 0, .int .i64 0] 72
        rw [show (w5.alloc (.cells #[.int .i64 0, .int .i64 op] 62)).heap.size = u by rw [← hu]; simp] at h
        exact h
      have UB : Hid (w.heap.size ≤ u) := by show _ ≤ _; have := b5.size; omega
      clear b5 FO c0x gl
      go_upto_region 12 with fail
      clear hu
      generalize (w5.alloc (.cells #[.int .i64 0, .int .i64 op] 62)).alloc (.cells #[.int .i64 op, .int .i64 0, .int .i64 0, .int .i64 0] 72) = X at *
      have v0 := V5.out.cell 0 rfl
      by_cases hlen : tl.length = 0
      case neg =>
        have hlI : ¬ (n : Int) = 1 := by have := TL.out; omega
        have hlB : ((n : Int) != 1) = true := by simpa using hlI
        have ER2 : Hid ((5, 0) = (Q1, Z1)) := by have h := ER.out; rw [if_neg hlen] at h; exact h
        clear ER
        go_wp2_with (go_at_call 59; refine (FB _).mono ?_; rintro e X ⟨rfl, rfl⟩)
        exact bodyPost_ret (v := .tuple #[.int .i64 0, .int .i64 5]) (by simp [results, Tryz.results29, go_sem]) rfl ⟨by have h := ER2.out; cases h; rfl, B5.out⟩
      have hlI : (n : Int) = 1 := by have := TL.out; omega
      have hln : n = 1 := by have := TL.out; omega
      subst hln
      have ER2 : Hid (codeO op (A1, A2) = (Q1, Z1)) := by have h := ER.out; rw [if_pos hlen] at h; exact h
      have AL2 : Hid (A1 = 0 → A2.length = 0) := fun h => by rw [ALN.out h]; exact hlen
      clear ER hlen hlI ALN
      have FN := HF1.out X B5.out
      go_upto_region 22 with (go_at_call 59; refine (FB _).mono ?_; rintro e X ⟨rfl, rfl⟩)
      go_wp2_with fail
      refine FN.mono ?_
      rintro e w7 ⟨va, vl, vc, rfl, hNu, b7⟩
      have HNU : Hid (A1 = 0 → Nums w7 X.heap.size (.slice va vl vc) A2) := hNu
      have B7 : Hid (Below w.heap.size w w7) := on B5.out b7
      have V7 : Hid (Vq w7 u #[.int .i64 op, .int .i64 0, .int .i64 0, .int .i64 0] 72) := V5.out.keep b7
      clear b7 hNu FN v0
      by_cases ha : A1 = 0
      case neg =>
        have ER3 : Hid ((A1, 0) = (Q1, Z1)) := by have h := ER2.out; rw [codeO, if_neg ha] at h; exact h
        have haB : (A1 != 0) = true := by simpa using ha
        go_wp2_with fail
        exact bodyPost_ret (v := .tuple #[.int .i64 0, .int .i64 A1]) (by simp [results, Tryz.results29, go_sem]) rfl ⟨by have h := ER3.out; cases h; rfl, B7.out⟩
      subst ha
      have NU := HNU.out rfl
      have hvl : vl = A2.length := by obtain ⟨_, _, e, _⟩ := NU.shape; cases e; rfl
      have hv2 : vl = 0 := by rw [hvl]; exact AL2.out rfl
      subst hv2
      have FE := fun w => spec_encode op (arD op A2) (arA op A2) (arI op A2) w
      have EE : insC op (arD op A2) (arA op A2) (arI op A2) = Q1 ∧ encV op (arD op A2) (arA op A2) (arI op A2) = Z1 := by have h := ER2.out; rw [codeO, if_pos rfl, insL] at h; cases h; exact ⟨rfl, rfl⟩
      rw [EE.1, EE.2, ED.out.1, ED.out.2.1, ED.out.2.2] at FE
      clear EE ER2 ED NU HNU hvl
      have k0 := V7.out.cell 0 rfl
      have k1 := V7.out.cell 1 rfl
      have k2 := V7.out.cell 2 rfl
      have k3 := V7.out.cell 3 rfl
      have f1 := V7.out.free 1
      have f2 := V7.out.free 2
      have f3 := V7.out.free 3
      have lk := V7.out.lt
      go_wp2_with fail
      refine (FE _).mono ?_
      rintro e w8 ⟨rfl, b8⟩
      have B8 : Hid (Below w.heap.size w w8) := on B7.out b8
      clear b8 FE
      go_wp2_with fail
      go_quiet (fail)
      go_wp2_with fail
      exact bodyPost_ret (v := .tuple #[.int .i64 Z1, .int .i64 Q1]) (by simp [results, Tryz.results29, go_sem]) rfl ⟨rfl, drL (al B8.out _) nq⟩
    · rw [hd, ha, hi] at FB
      rw [hw] at ER
      have eD : arD op A2 = A2.getD 0 0 := by simp [arD, hd]
      have eA : arA op A2 = A2.getD 1 0 := by simp [arA, ha, hd]
      have eI : arI op A2 = A2.getD 2 0 := by simp [arI, hi, hd, ha]
      have ED : Hid (arD op A2 = A2.getD 0 0 ∧ arA op A2 = A2.getD 1 0 ∧ arI op A2 = A2.getD 2 0) := ⟨eD, eA, eI⟩
      clear hw hd ha hi hk eD eA eI
      go_enter Tryz.func29, Tryz.ntmps29
      go_wp2_with fail
      refine FO.mono ?_
      rintro e w5 ⟨rfl, b5⟩
      have B5 : Hid (Below w.heap.size w ((w5.alloc (.cells #[.int .i64 0, .int .i64 op] 62)).alloc (.cells #[.int .i64 op, .int .i64 0, .int .i64 0, .int .i64 0] 72))) := al (al b5 _) _
      obtain ⟨u, hu⟩ : ∃ u, w5.heap.size + 1 = u := ⟨_, rfl⟩
      have V5 : Hid (Vq ((w5.alloc (.cells #[.int .i64 0, .int .i64 op] 62)).alloc (.cells #[.int .i64 op, .int .i64 0, .int .i64 0, .int .i64 0] 72)) u #[.int .i64 op, .int .i64 0, .int .i64 0, .int .i64 0] 72) := by
        have h := Vq.new (w5.alloc (.cells #[.int .i64 0, .int .i64 op] 62)) #[.int .i64 op, .int .i64 0, .int .i64 0, .int .i64 0] 72
        rw [show (w5.alloc (.cells #[.int .i64 0, .int .i64 op] 62)).heap.size = u by rw [← hu]; simp] at h
        exact h
      have UB : Hid (w.heap.size ≤ u) := by show _ ≤ _; have := b5.size; omega
      clear b5 FO c0x gl
      go_upto_region 12 with fail
      clear hu
      generalize (w5.alloc (.cells #[.int .i64 0, .int .i64 op] 62)).alloc (.cells #[.int .i64 op, .int .i64 0, .int .i64 0, .int .i64 0] 72) = X at *
      have v0 := V5.out.cell 0 rfl
      by_cases hlen : tl.length = 3
      case neg =>
        have hlI : ¬ (n : Int) = 4 := by have := TL.out; omega
        have hlB : ((n : Int) != 4) = true := by simpa using hlI
        have ER2 : Hid ((5, 0) = (Q1, Z1)) := by have h := ER.out; rw [if_neg hlen] at h; exact h
        clear ER
        go_wp2_with (go_at_call 59; refine (FB _).mono ?_; rintro e X ⟨rfl, rfl⟩)
        exact bodyPost_ret (v := .tuple #[.int .i64 0, .int .i64 5]) (by simp [results, Tryz.results29, go_sem]) rfl ⟨by have h := ER2.out; cases h; rfl, B5.out⟩
      have hlI : (n : Int) = 4 := by have := TL.out; omega
      have hln : n = 4 := by have := TL.out; omega
      subst hln
      have ER2 : Hid (codeO op (A1, A2) = (Q1, Z1)) := by have h := ER.out; rw [if_pos hlen] at h; exact h
      have AL2 : Hid (A1 = 0 → A2.length = 3) := fun h => by rw [ALN.out h]; exact hlen
      clear ER hlen hlI ALN
      have FN := HF1.out X B5.out
      go_upto_region 22 with (go_at_call 59; refine (FB _).mono ?_; rintro e X ⟨rfl, rfl⟩)
      go_wp2_with fail
      refine FN.mono ?_
      rintro e w7 ⟨va, vl, vc, rfl, hNu, b7⟩
      have HNU : Hid (A1 = 0 → Nums w7 X.heap.size (.slice va vl vc) A2) := hNu
      have B7 : Hid (Below w.heap.size w w7) := on B5.out b7
      have V7 : Hid (Vq w7 u #[.int .i64 op, .int .i64 0, .int .i64 0, .int .i64 0] 72) := V5.out.keep b7
      clear b7 hNu FN v0
      by_cases ha : A1 = 0
      case neg =>
        have ER3 : Hid ((A1, 0) = (Q1, Z1)) := by have h := ER2.out; rw [codeO, if_neg ha] at h; exact h
        have haB : (A1 != 0) = true := by simpa using ha
        go_wp2_with fail
        exact bodyPost_ret (v := .tuple #[.int .i64 0, .int .i64 A1]) (by simp [results, Tryz.results29, go_sem]) rfl ⟨by have h := ER3.out; cases h; rfl, B7.out⟩
      subst ha
      have NU := HNU.out rfl
      have hvl : vl = A2.length := by obtain ⟨_, _, e, _⟩ := NU.shape; cases e; rfl
      have hv2 : vl = 3 := by rw [hvl]; exact AL2.out rfl
      obtain ⟨gn, rfl, hc⟩ := nums_at3 NU hvl (by omega)
      have cn0 := hc 0 (by omega)
      have cn1 := hc 1 (by omega)
      have cn2 := hc 2 (by omega)
      have gne : gn ≠ u := by have h := (NU.lt gn rfl).1; have := V5.out.lt; omega
      subst hv2
      have FE := fun w => spec_encode op (arD op A2) (arA op A2) (arI op A2) w
      have EE : insC op (arD op A2) (arA op A2) (arI op A2) = Q1 ∧ encV op (arD op A2) (arA op A2) (arI op A2) = Z1 := by have h := ER2.out; rw [codeO, if_pos rfl, insL] at h; cases h; exact ⟨rfl, rfl⟩
      rw [EE.1, EE.2, ED.out.1, ED.out.2.1, ED.out.2.2] at FE
      clear EE ER2 ED NU HNU hvl hc
      generalize A2.getD 0 0 = z0 at *
      generalize A2.getD 1 0 = z1 at *
      generalize A2.getD 2 0 = z2 at *
      have k0 := V7.out.cell 0 rfl
      have k1 := V7.out.cell 1 rfl
      have k2 := V7.out.cell 2 rfl
      have k3 := V7.out.cell 3 rfl
      have f1 := V7.out.free 1
      have f2 := V7.out.free 2
      have f3 := V7.out.free 3
      have lk := V7.out.lt
      go_wp2_with fail
      refine (FE _).mono ?_
      rintro e w8 ⟨rfl, b8⟩
      have B8 : Hid (Below w.heap.size w w8) := on (((B7.out.setCell UB.out _).setCell UB.out _).setCell UB.out _) b8
      clear b8 FE
      go_wp2_with fail
      go_quiet (fail)
      go_wp2_with fail
      exact bodyPost_ret (v := .tuple #[.int .i64 Z1, .int .i64 Q1]) (by simp [results, Tryz.results29, go_sem]) rfl ⟨rfl, drL (al B8.out _) nq⟩
end Go.Proofs.YtdmlejfopmimfaaGreatDoor
