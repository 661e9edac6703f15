/- Texts of this seat, joined. -/
import Derived.Test.YtgjpfmcokcjegaaQ25
import Derived.Test.YtgjpfmcokcjegaaQ35
import Derived.Test.YtgjpfmcokcjegaaQ41
namespace Go.Proofs.Ytgjpfmcokcjegaa
open Go.RowKit
set_option linter.unusedVariables false
set_option maxRecDepth 20000 in
set_option maxHeartbeats 4000000 in
theorem s_asked (q : Nat) (r c i o : Value) (H : Ht) (pa : Option Addr) (pn pc : Nat) (ps : List (Int × Int)) (ma : Option Addr) (mn mc : Nat) (zs : List Int) (b : Nat) (w : World) (h : Hm w b r c i o H) (hv : Vb w q #[r, .int .i64 H.pc, c, .bool H.halted, .bool H.waiting, .bool H.rung, .int .i64 H.done, i, o] 26) (hP : Prs 73 w b (.slice pa pn pc) ps) (hl : ps.length ≤ 1048576) (hM : Nums w b (.slice ma mn mc) zs) (hm : zs.length ≤ 1048576) :
    Calls Try.prog 21 #[.pointer (some ⟨q, 0, none⟩), .slice pa pn pc, .slice ma mn mc] w fun e w' => e = .returned (.int .i64 (seenC H ps zs)) ∧ w' = w := by
  have sF := s_fault q r c i o H b w h hv
  have sP := spec_fault _ ps 24 b w hP hl
  have sM := spec_memFault _ zs b w hM
  have HP : Hid (Prs 73 w b (.slice pa pn pc) ps) := hP
  have HN : Hid (mn = zs.length ∧ pn = ps.length) := by
    refine ⟨hM.len, ?_⟩
    obtain ⟨a, cap, hv, _⟩ := hP.shape
    cases hv
    rfl
  clear h hP hM hl hm hv
  by_cases hf : hfV H = 0
  case neg =>
    have HE : Hid (seenC H ps zs = hfV H) := if_neg hf
    generalize hfV H = f at *
    go_enter Try.func21, Try.ntmps21
    go_wp2_with (go_at_call 46; refine sF.mono ?_; rintro e y ⟨rfl, hy⟩; rw [hy]; clear hy y)
    go_ret
    exact ⟨by rw [HE.out]; rfl, rfl⟩
  have E1 : seenC H ps zs = if pgsV ps 24 = 0 then (if memV zs = 0 then (if beyB ps zs.length then 1 else 0) else 1) else pgsV ps 24 := if_pos hf
  rw [hf] at sF
  clear hf
  by_cases hp : pgsV ps 24 = 0
  case neg =>
    have HE : Hid (seenC H ps zs = pgsV ps 24) := by show _ = _; rw [E1, if_neg hp]
    clear E1
    generalize pgsV ps 24 = f at *
    go_enter Try.func21, Try.ntmps21
    go_wp2_with (first | (go_at_call 46; refine sF.mono ?_; rintro e y ⟨rfl, hy⟩; rw [hy]; clear hy y) | (go_at_call 47; refine sP.mono ?_; rintro e y ⟨rfl, hy⟩; rw [hy]; clear hy y))
    go_ret
    exact ⟨by rw [HE.out]; rfl, rfl⟩
  rw [if_pos hp] at E1
  obtain ⟨_, _, hl8, _⟩ := pgsV_zero hp
  rw [hp] at sP
  have HOK : Hid (okTo 24 ps 8) := (pgsV_zero hp).2.2.2
  clear hp
  by_cases hz : memV zs = 0
  case neg =>
    have HE : Hid (seenC H ps zs = 1) := by show _ = _; rw [E1, if_neg hz]
    clear E1 hl8
    generalize memV zs = f at *
    go_enter Try.func21, Try.ntmps21
    go_wp2_with (first | (go_at_call 46; refine sF.mono ?_; rintro e y ⟨rfl, hy⟩; rw [hy]; clear hy y) | (go_at_call 47; refine sP.mono ?_; rintro e y ⟨rfl, hy⟩; rw [hy]; clear hy y) | (go_at_call 48; refine sM.mono ?_; rintro e y ⟨rfl, hy⟩; rw [hy]; clear hy y))
    go_ret
    exact ⟨by rw [HE.out]; rfl, rfl⟩
  rw [if_pos hz] at E1
  have hz8 : ∃ p, zs.length = p * 8 ∧ p ≤ 24 := by
    unfold memV at hz
    split at hz
    · rename_i hf
      unfold formB at hf
      have hf := of_decide_eq_true hf
      exact ⟨zs.length / 8, by omega, by omega⟩
    · exact absurd hz (by decide)
  obtain ⟨p, hzp, hp24⟩ := hz8
  rw [hz] at sM
  obtain ⟨hn1, hn2⟩ := HN.out
  obtain rfl : mn = p * 8 := by omega
  obtain rfl : pn = 8 := by omega
  obtain ⟨pa', pc', hv, -, -, hg⟩ := HP.out.shape
  obtain ⟨g, hg⟩ := hg (by omega)
  simp only [Value.slice.injEq] at hv
  obtain ⟨hv1, -, -⟩ := hv
  rw [hg] at hv1
  subst hv1
  clear hg
  rw [hzp] at E1
  have HL : Hid (ps.length = 8) := hl8
  have HD : Hid (p * 8 / 8 = p) := by show _ = _; omega
  have HE1 : Hid (seenC H ps zs = if beyB ps (p * 8) then 1 else 0) := E1
  have hpi : (p : Int) ≤ 24 := by omega
  clear hz hn1 hn2 E1 hzp hp24 hl8
  go_enter Try.func21, Try.ntmps21
  go_wp2_with (first | (go_at_call 46; refine sF.mono ?_; rintro e y ⟨rfl, hy⟩; rw [hy]; clear hy y) | (go_at_call 47; refine sP.mono ?_; rintro e y ⟨rfl, hy⟩; rw [hy]; clear hy y) | (go_at_call 48; refine sM.mono ?_; rintro e y ⟨rfl, hy⟩; rw [hy]; clear hy y))
  clear sF sP sM
  go_loop [9] (fun c => ∃ j : Nat, j ≤ 8 ∧ c = .int .i64 j ∧ beyB (ps.take j) (p * 8) = false) (fun c => 8 - (intOf c).toNat)
  case atStart => exact ⟨0, Nat.zero_le _, rfl, rfl⟩
  case round =>
    obtain ⟨j, hj, rfl, hA⟩ := hrel
    have HA : Hid (beyB (ps.take j) (p * 8) = false) := hA
    clear hA
    by_cases hlt : j < 8
    · have c0 := (HP.out.cell HL.out.symm j hlt).1
      have hI : (j : Int) < 8 := by omega
      have HLT : Hid (j < 8) := hlt
      have HT := bey_take ps (p * 8) j (by have := HL.out; omega)
      rw [HA.out] at HT
      have HE := bey_here (ps := ps) (n := p * 8) (j := j) (by have := HL.out; omega)
      rw [HD.out] at HT HE
      have hr := pgC_zero (HOK.out j hlt)
      generalize (ps.getD j (0, 0)).1 = x at *
      have hr1 : -1 ≤ x := hr.1
      have hr2 : x ≤ 23 := by omega
      have HTT : Hid (beyB (ps.take (j + 1)) (p * 8) = (false || decide ((p : Int) ≤ x))) := HT
      have HEE : Hid ((p : Int) ≤ x → beyB ps (p * 8) = true) := HE
      clear HT HE hlt hr
      by_cases hx : (p : Int) ≤ x
      · have hx3 : (p : Int) * 8 < (x + 1) * 8 := by omega
        go_wp2_with fail
        go_ret
        exact ⟨by rw [HE1.out, HEE.out hx]; rfl, rfl⟩
      · have hx2 : x < (p : Int) := by omega
        have hx3 : ¬ (p : Int) * 8 < (x + 1) * 8 := by omega
        go_wp2_with fail
        go_round
        case rel => exact ⟨j + 1, by have := HLT.out; omega, by go_num, by rw [HTT.out]; simpa using hx2⟩
        case measure => have := HLT.out; simp [intOf]; omega
    · have hI : ¬ (j : Int) < 8 := by omega
      obtain rfl : j = 8 := by omega
      have HE : Hid (seenC H ps zs = 0) := by
        have := HA.out
        rw [List.take_of_length_le (Nat.le_of_eq HL.out)] at this
        show _ = _
        rw [HE1.out, this]
        rfl
      go_wp2_with fail
      go_ret
      exact ⟨by rw [HE.out]; rfl, rfl⟩
theorem wk_zero {rs : List (Int × Int)} {x k : Int} (h : ¬ wkC rs x k = 0) : wkV rs x k = 0 := by
  unfold wkV
  unfold wkC at h
  cases hk : kindB k
  · rfl
  · rw [hk] at h
    cases hg : goesB rs x k
    · rfl
    · rw [hg] at h
      simp at h
set_option maxRecDepth 20000 in
set_option maxHeartbeats 4000000 in
theorem i_behind (q : Nat) (i o : Value) (H : Ht) (pg pc : Nat) (ps : List (Int × Int)) (g p : Nat) (ca ri : Int) (b : Nat) (w : World) (hv : Vb w q (mcr H i o (.slice (some ⟨pg, 0, none⟩) 8 pc) (.slice (some ⟨g, 0, none⟩) p p) ca ri) 55) (hP : Prs 73 w b (.slice (some ⟨pg, 0, none⟩) 8 pc) ps) (hl : ps.length = 8) (ho : okTo 24 ps 8) (y k : Int) (h0 : 0 ≤ y) (h63 : y ≤ 63) :
    Calls Try.prog 43 #[.pointer (some ⟨q, 0, none⟩), .int .i64 y, .int .i64 k] w fun e w' => e = .returned (.agg #[.int .i64 (behC ps y k), .int .i64 (behV ps y k)]) ∧ Below w.heap.size w w' := by
  have HV : Hid (Vb w q (mcr H i o (.slice (some ⟨pg, 0, none⟩) 8 pc) (.slice (some ⟨g, 0, none⟩) p p) ca ri) 55) := hv
  have HP : Hid (Prs 73 w b (.slice (some ⟨pg, 0, none⟩) 8 pc) ps) := hP
  have HL : Hid (ps.length = 8 ∧ okTo 24 ps 8) := ⟨hl, ho⟩
  clear hv hP hl ho
  generalize hW : w.alloc (.cells #[.int .i64 0, .int .i64 0] 31) = W
  have B0 : Hid (Below w.heap.size w W) := by show Below _ _ _; rw [← hW]; exact al (Below.refl _ _) _
  obtain ⟨s, hS⟩ : ∃ s, w.heap.size = s := ⟨_, rfl⟩
  have HS : Hid (w.heap.size = s) := hS
  have VR : Hid (Vb W s #[.int .i64 0, .int .i64 0] 31) := by show Vb _ _ _ _; rw [← hW, ← hS]; exact Vb.new _ _ _
  have V0 : Hid (Vb W q (mcr H i o (.slice (some ⟨pg, 0, none⟩) 8 pc) (.slice (some ⟨g, 0, none⟩) p p) ca ri) 55) := HV.out.keep B0.out
  have c34 : W.cell? ⟨q, 34, none⟩ = some (.slice (some ⟨pg, 0, none⟩) 8 pc) := V0.out.cell 34 rfl
  have aB : atB y = true := by unfold atB; simp; omega
  have aN : atN y = y / 8 := by unfold atN; rw [aB]; rfl
  obtain ⟨m, hm⟩ : ∃ m, y / 8 = m := ⟨_, rfl⟩
  have HMM : Hid (y / 8 = m) := hm
  obtain ⟨C, hC⟩ : ∃ C, behC ps y k = C := ⟨_, rfl⟩
  obtain ⟨Y, hY⟩ : ∃ Y, behV ps y k = Y := ⟨_, rfl⟩
  have HC : Hid (behC ps y k = C) := hC
  have HY : Hid (behV ps y k = Y) := hY
  rw [hC, hY]
  clear hC hY
  by_cases h7 : m = 7
  · subst h7
    have E7 : Hid (y / 8 = 7) := hm
    by_cases h4 : k = 4
    · subst h4
      have EC : Hid (C = 9 ∧ Y = 0) := ⟨by rw [← HC.out, behC, if_pos E7.out, if_pos rfl], by rw [← HY.out, behV, if_pos E7.out, if_pos rfl]⟩
      go_enter Try.func43, Try.ntmps43
      have p0 := VR.out.cell 0 rfl
      have f0 := VR.out.free 0
      have p1 := VR.out.cell 1 rfl
      have f1 := VR.out.free 1
      go_wp2_with (go_at_call 53; refine (impl_pageOf y _).mono ?_; rintro e z ⟨rfl, hz⟩; rw [hz, aB, aN, hm]; clear hz z)
      clear aB aN hm hW hS c34
      have NN : Hid (_ ∧ _) := twoX VR.out (.int .i64 9) (.int .i64 0)
      clear p0 f0 p1 f1
      generalize ((W.setCell ⟨s, 0, none⟩ (.int .i64 9)).setCell ⟨s, 1, none⟩ (.int .i64 0)) = V at *
      have x0 := NN.out.1.cell 0 rfl
      have x1 := NN.out.1.cell 1 rfl
      exact bodyPost_ret (v := .agg #[.int .i64 9, .int .i64 0]) (by simp [results, Try.results43, go_sem, x0, x1]) rfl
        ⟨by rw [EC.out.1, EC.out.2], Mq.under B0.out NN.out.2 fun k e => by have := HS.out; omega⟩
    · have h4b : (k == 4) = false := by simpa using h4
      have tm : y.tmod 8 = y % 8 := Int.tmod_eq_emod_of_nonneg h0
      obtain ⟨z8, hz8⟩ : ∃ z8, y % 8 = z8 := ⟨_, rfl⟩
      have hz0 : 0 ≤ z8 := by omega
      have hz7 : z8 ≤ 7 := by omega
      have EC : Hid (C = 0 ∧ Y = 1000 + z8) := ⟨by rw [← HC.out, behC, if_pos E7.out, if_neg h4], by rw [← HY.out, behV, if_pos E7.out, if_neg h4, hz8]⟩
      rw [hz8] at tm
      clear h4 hz8
      go_enter Try.func43, Try.ntmps43
      have p0 := VR.out.cell 0 rfl
      have f0 := VR.out.free 0
      have p1 := VR.out.cell 1 rfl
      have f1 := VR.out.free 1
      go_wp2_with (go_at_call 53; refine (impl_pageOf y _).mono ?_; rintro e z ⟨rfl, hz⟩; rw [hz, aB, aN, hm]; clear hz z)
      clear aB aN hm hW hS c34
      have NN : Hid (_ ∧ _) := twoX VR.out (.int .i64 0) (.int .i64 (1000 + z8))
      clear p0 f0 p1 f1
      generalize ((W.setCell ⟨s, 0, none⟩ (.int .i64 0)).setCell ⟨s, 1, none⟩ (.int .i64 (1000 + z8))) = V at *
      have x0 := NN.out.1.cell 0 rfl
      have x1 := NN.out.1.cell 1 rfl
      exact bodyPost_ret (v := .agg #[.int .i64 0, .int .i64 (1000 + z8)]) (by simp [results, Try.results43, go_sem, x0, x1]) rfl
        ⟨by rw [EC.out.1, EC.out.2], Mq.under B0.out NN.out.2 fun k e => by have := HS.out; omega⟩
  · have h7b : (m != 7) = true := by simpa using h7
    have EC : Hid (C = wkC ps y k ∧ Y = wkV ps y k) := ⟨by rw [← HC.out, behC, if_neg (by rw [hm]; exact h7)], by rw [← HY.out, behV, if_neg (by rw [hm]; exact h7)]⟩
    go_enter Try.func43, Try.ntmps43
    go_wp2_with (go_at_call 53; refine (impl_pageOf y _).mono ?_; rintro e z ⟨rfl, hz⟩; rw [hz, aB, aN, hm]; clear hz z)
    clear aB aN hm hW hS c34 h7 h7b
    refine (impl_walk _ ps y k b W (HP.out.keep B0.out) HL.out.1 HL.out.2).mono ?_
    rintro e w1 ⟨rfl, b1⟩
    have B1 : Hid (Below w.heap.size w w1) := on B0.out b1
    have VR1 : Hid (Vb w1 s #[.int .i64 0, .int .i64 0] 31) := VR.out.keep b1
    clear b1
    generalize wkC ps y k = c1 at *
    generalize wkV ps y k = y1 at *
    have p0 := VR1.out.cell 0 rfl
    have f0 := VR1.out.free 0
    have p1 := VR1.out.cell 1 rfl
    have f1 := VR1.out.free 1
    go_wp2_with fail
    have NN : Hid (_ ∧ _) := twoX VR1.out (.int .i64 c1) (.int .i64 y1)
    clear p0 f0 p1 f1
    generalize ((w1.setCell ⟨s, 0, none⟩ (.int .i64 c1)).setCell ⟨s, 1, none⟩ (.int .i64 y1)) = V at *
    have x0 := NN.out.1.cell 0 rfl
    have x1 := NN.out.1.cell 1 rfl
    exact bodyPost_ret (v := .agg #[.int .i64 c1, .int .i64 y1]) (by simp [results, Try.results43, go_sem, x0, x1]) rfl
      ⟨by rw [EC.out.1, EC.out.2], Mq.under B1.out NN.out.2 fun k e => by have := HS.out; omega⟩
set_option maxRecDepth 20000 in
set_option maxHeartbeats 4000000 in
theorem i_place (q : Nat) (i o : Value) (H : Ht) (pg pc : Nat) (ps : List (Int × Int)) (g p : Nat) (zs : List Int) (ca ri : Int) (b : Nat) (w : World) (hv : Vb w q (mcr H i o (.slice (some ⟨pg, 0, none⟩) 8 pc) (.slice (some ⟨g, 0, none⟩) p p) ca ri) 55) (hP : Prs 73 w b (.slice (some ⟨pg, 0, none⟩) 8 pc) ps) (hG : Pags w b (.slice (some ⟨g, 0, none⟩) p p) p zs) (sn : Sn H ps zs p) (x k : Int) (hk : kindB k = true) :
    Calls Try.prog 19 #[.pointer (some ⟨q, 0, none⟩), .int .i64 x, .int .i64 k] w fun e w' => e = .returned (.agg #[.int .i64 (plC H ps zs x k), .int .i64 (plV H ps zs x k)]) ∧ Below w.heap.size w w' := by
  have HV : Hid (Vb w q (mcr H i o (.slice (some ⟨pg, 0, none⟩) 8 pc) (.slice (some ⟨g, 0, none⟩) p p) ca ri) 55) := hv
  have HP : Hid (Prs 73 w b (.slice (some ⟨pg, 0, none⟩) 8 pc) ps) := hP
  have HG : Hid (Pags w b (.slice (some ⟨g, 0, none⟩) p p) p zs) := hG
  have SN : Hid (Sn H ps zs p) := sn
  have HK : Hid (kindB k = true) := hk
  clear hv hP hG sn hk
  generalize hW : w.alloc (.cells #[.int .i64 0, .int .i64 0] 31) = W
  have B0 : Hid (Below w.heap.size w W) := by show Below _ _ _; rw [← hW]; exact al (Below.refl _ _) _
  obtain ⟨s, hS⟩ : ∃ s, w.heap.size = s := ⟨_, rfl⟩
  have HS : Hid (w.heap.size = s) := hS
  have VR : Hid (Vb W s #[.int .i64 0, .int .i64 0] 31) := by show Vb _ _ _ _; rw [← hW, ← hS]; exact Vb.new _ _ _
  have V0 : Hid (Vb W q (mcr H i o (.slice (some ⟨pg, 0, none⟩) 8 pc) (.slice (some ⟨g, 0, none⟩) p p) ca ri) 55) := HV.out.keep B0.out
  obtain ⟨C, hC⟩ : ∃ C, plC H ps zs x k = C := ⟨_, rfl⟩
  obtain ⟨Y, hY⟩ : ∃ Y, plV H ps zs x k = Y := ⟨_, rfl⟩
  have HC : Hid (plC H ps zs x k = C) := hC
  have HY : Hid (plV H ps zs x k = Y) := hY
  rw [hC, hY]
  clear hC hY
  go_enter Try.func19, Try.ntmps19
  go_wp2_with fail
  clear hW hS
  refine (i_space q i o H pg pc ps g p zs ca ri b W V0.out (HP.out.keep B0.out) (HG.out.keep B0.out) SN.out).mono ?_
  rintro e w1 ⟨u, rfl, pu, b1⟩
  obtain ⟨ua, uc, hu, _⟩ := pu.shape
  obtain ⟨ul, hul⟩ : ∃ ul, (spP H ps zs).length = ul := ⟨_, rfl⟩
  rw [hul] at hu
  subst hu
  obtain ⟨d, hd⟩ : ∃ d, spC H ps = d := ⟨_, rfl⟩
  have HD : Hid (spC H ps = d) := hd
  rw [hd]
  clear hd hul
  go_upto_region 2 with fail
  generalize hW1 : w1.alloc (.cells #[.int .i64 d, .slice ua ul uc] 34) = W1
  obtain ⟨n, hn⟩ : ∃ n, w1.heap.size = n := ⟨_, rfl⟩
  rw [hn]
  have VN : Hid (Vb W1 n #[.int .i64 d, .slice ua ul uc] 34) := by show Vb _ _ _ _; rw [← hW1, ← hn]; exact Vb.new _ _ _
  have bb : Below W.heap.size W W1 := by rw [← hW1]; exact al b1 _
  have PU : Hid (Prs 73 W1 W.heap.size (.slice ua ul uc) (spP H ps zs)) := by show Prs _ _ _ _ _; rw [← hW1]; exact pu.keep (al (Below.refl _ _) _)
  have B1 : Hid (Below w.heap.size w W1) := on B0.out bb
  have VR1 : Hid (Vb W1 s #[.int .i64 0, .int .i64 0] 31) := VR.out.keep bb
  have V1 : Hid (Vb W1 q (mcr H i o (.slice (some ⟨pg, 0, none⟩) 8 pc) (.slice (some ⟨g, 0, none⟩) p p) ca ri) 55) := V0.out.keep bb
  clear hW1 hn b1 bb pu VR V0
  have n0 := VN.out.cell 0 rfl
  have n1 := VN.out.cell 1 rfl
  by_cases hd0 : d = 0
  case neg =>
    have hdb : (d != 0) = true := by simpa using hd0
    have EC : Hid (C = d ∧ Y = 0) := ⟨by rw [← HC.out, plC, HD.out, if_neg hd0], by rw [← HY.out, plV, HD.out, if_neg hd0]⟩
    clear hd0
    have p0 := VR1.out.cell 0 rfl
    have f0 := VR1.out.free 0
    have p1 := VR1.out.cell 1 rfl
    have f1 := VR1.out.free 1
    go_wp2_with fail
    have NN : Hid (_ ∧ _) := twoX VR1.out (.int .i64 d) (.int .i64 0)
    clear p0 f0 p1 f1 n0 n1
    generalize ((W1.setCell ⟨s, 0, none⟩ (.int .i64 d)).setCell ⟨s, 1, none⟩ (.int .i64 0)) = V at *
    have x0 := NN.out.1.cell 0 rfl
    have x1 := NN.out.1.cell 1 rfl
    exact bodyPost_ret (v := .agg #[.int .i64 d, .int .i64 0]) (by simp [results, Try.results19, go_sem, x0, x1]) rfl
      ⟨by rw [EC.out.1, EC.out.2], Mq.under B1.out NN.out.2 fun k e => by have := HS.out; omega⟩
  subst hd0
  obtain ⟨sl, so⟩ := sp_ok SN.out HD.out
  have SO : Hid ((spP H ps zs).length = 8 ∧ okTo 8 (spP H ps zs) 8) := ⟨sl, so⟩
  clear sl so
  have HR : Hid ((wkC (spP H ps zs) x k = 0 → C = behC ps (wkV (spP H ps zs) x k) k ∧ Y = behV ps (wkV (spP H ps zs) x k) k) ∧ (¬ wkC (spP H ps zs) x k = 0 → C = wkC (spP H ps zs) x k ∧ Y = wkV (spP H ps zs) x k)) :=
    ⟨fun e => ⟨by rw [← HC.out, plC, if_pos HD.out, if_pos e], by rw [← HY.out, plV, if_pos HD.out, if_pos e]⟩, fun e => ⟨by rw [← HC.out, plC, if_pos HD.out, if_neg e], by rw [← HY.out, plV, if_pos HD.out, if_neg e, wk_zero e]⟩⟩
  go_wp2_with fail
  clear n0 n1
  generalize hW2 : W1.alloc _ = W2
  obtain ⟨S, hSS⟩ : ∃ S, W1.heap.size = S := ⟨_, rfl⟩
  rw [hSS]
  have b2 : Below W1.heap.size W1 W2 := by rw [← hW2]; exact al (Below.refl _ _) _
  have S0 : W2.cell? ⟨S, 0, none⟩ = some (.func (.func 27) #[.slice ua ul uc] #[]) := by rw [← hW2, ← hSS]; exact cell_new rfl
  have S1 : W2.cell? ⟨S, 1, none⟩ = some (.func (.func 43) #[.pointer (some ⟨q, 0, none⟩)] #[]) := by rw [← hW2, ← hSS]; exact cell_new rfl
  have B2 : Hid (Below w.heap.size w W2) := on B1.out b2
  have VR2 : Hid (Vb W2 s #[.int .i64 0, .int .i64 0] 31) := VR1.out.keep b2
  have V2 : Hid (Vb W2 q (mcr H i o (.slice (some ⟨pg, 0, none⟩) 8 pc) (.slice (some ⟨g, 0, none⟩) p p) ca ri) 55) := V1.out.keep b2
  have PU2 : Hid (Prs 73 W2 W.heap.size (.slice ua ul uc) (spP H ps zs)) := PU.out.keep b2
  clear hW2 hSS b2
  refine (i_through2 x k S q (.slice ua ul uc) (wkC (spP H ps zs) x k) (wkV (spP H ps zs) x k) (behC ps (wkV (spP H ps zs) x k) k) (behV ps (wkV (spP H ps zs) x k) k) C Y W2 (block_of_cell S0) S0 S1
    (fun u hu => impl_walk _ (spP H ps zs) x k W.heap.size u (PU2.out.keep hu) SO.out.1 (okTo_up SO.out.2))
    (fun e u hu => by
      obtain ⟨_, _, l0, l63⟩ := sp_goes SO.out.2 HK.out e
      exact i_behind q i o H pg pc ps g p ca ri b u (V2.out.keep hu) (HP.out.keep (on B2.out hu)) SN.out.l8 SN.out.ok _ k l0 l63) HR.out).mono ?_
  rintro e w3 ⟨rfl, b3⟩
  have B3 : Hid (Below w.heap.size w w3) := on B2.out b3
  have VR3 : Hid (Vb w3 s #[.int .i64 0, .int .i64 0] 31) := VR2.out.keep b3
  clear b3 S0 S1
  have p0 := VR3.out.cell 0 rfl
  have f0 := VR3.out.free 0
  have p1 := VR3.out.cell 1 rfl
  have f1 := VR3.out.free 1
  go_wp2_with fail
  have NN : Hid (_ ∧ _) := twoX VR3.out (.int .i64 C) (.int .i64 Y)
  clear p0 f0 p1 f1
  generalize ((w3.setCell ⟨s, 0, none⟩ (.int .i64 C)).setCell ⟨s, 1, none⟩ (.int .i64 Y)) = V at *
  have x0 := NN.out.1.cell 0 rfl
  have x1 := NN.out.1.cell 1 rfl
  exact bodyPost_ret (v := .agg #[.int .i64 C, .int .i64 Y]) (by simp [results, Try.results19, go_sem, x0, x1]) rfl
    ⟨rfl, Mq.under B3.out NN.out.2 fun k e => by have := HS.out; omega⟩
end Go.Proofs.Ytgjpfmcokcjegaa
