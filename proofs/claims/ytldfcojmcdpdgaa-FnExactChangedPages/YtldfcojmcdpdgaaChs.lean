/- Pages that changed, by the model. -/
import Derived.Test.YtldfcojmcdpdgaaChv
import Derived.Test.YtldfcojmcdpdgaaMem
import Derived.Test.YtldfcojmcdpdgaaIntr
import Derived.Test.YtldfcojmcdpdgaaHnm
namespace Go.Proofs.Ytldfcojmcdpdgaa
open Go.RowKit
set_option linter.unusedVariables false

set_option maxRecDepth 20000 in
set_option maxHeartbeats 8000000 in
theorem s_changed (v u : Value) (us vs : List Int) (b b' : Nat) (w : World) (h : Nums w b v us) (k : Nums w b' u vs) (ha : us.length ≤ 1048576) (hb : vs.length ≤ 1048576) :
    Calls Try.prog 10 #[v, u] w fun e w' => ∃ y, e = .returned (.agg #[.int .i64 (chC us vs), y]) ∧ Nums w' w.heap.size y (chZ us vs) ∧ Below w.heap.size w w' := by
  obtain ⟨a, cap, hv, l1, l2, hg⟩ := h.shape
  obtain ⟨a', cap', hu, l1', l2', hg'⟩ := k.shape
  obtain ⟨n, hn⟩ : ∃ n, us.length = n := ⟨_, rfl⟩
  obtain ⟨n', hn'⟩ : ∃ n, vs.length = n := ⟨_, rfl⟩
  rw [hn] at hv hg ha
  rw [hn'] at hu hg' hb
  subst hv hu
  obtain ⟨C, hC⟩ : ∃ C, chC us vs = C := ⟨_, rfl⟩
  obtain ⟨Z, hZ⟩ : ∃ Z, chZ us vs = Z := ⟨_, rfl⟩
  rw [hC, hZ]
  have HC : Hid (chC us vs = C ∧ chZ us vs = Z) := ⟨hC, hZ⟩
  have HN : Hid (us.length = n ∧ vs.length = n') := ⟨hn, hn'⟩
  have HG : Hid ((0 < n → ∃ g, a = some ⟨g, 0, none⟩) ∧ (0 < n' → ∃ g, a' = some ⟨g, 0, none⟩)) := ⟨hg, hg'⟩
  have hnI : (n : Int) ≤ 1048576 := by omega
  have hnI' : (n' : Int) ≤ 1048576 := by omega
  clear hC hZ hn hn' hg hg' l1 l2 l1' l2' ha hb
  generalize hW : w.alloc (.cells #[.int .i64 0, .slice none 0 0] 35) = W
  have B0 : Hid (Below w.heap.size w W) := by show Below _ _ _; rw [← hW]; exact al (Below.refl _ _) _
  obtain ⟨s, hS⟩ : ∃ s, w.heap.size = s := ⟨_, rfl⟩
  have HSs : Hid (w.heap.size = s) := hS
  have R : Hid (Vb W s #[.int .i64 0, .slice none 0 0] 35) := by show Vb _ _ _ _; rw [← hW, ← hS]; exact Vb.new _ _ _
  have NA : Hid (Nums W b (.slice a n cap) us) := h.keep B0.out
  have NB : Hid (Nums W b' (.slice a' n' cap') vs) := k.keep B0.out
  clear h k
  have ret : Hid (∀ (c : Int) , chC us vs = c → ¬ c = 0 → C = c ∧ Z = []) := fun c hc hz => ⟨by rw [← HC.out.1, hc], by rw [← HC.out.2, chZ, hc, if_neg hz]⟩
  have r0 := R.out.cell 0 rfl
  have r1 := R.out.cell 1 rfl
  have f0 := R.out.free 0
  have f1 := R.out.free 1
  have MF := spec_memFault (.slice a n cap) us b W NA.out
  have MG := spec_memFault (.slice a' n' cap') vs b' W NB.out
  by_cases hm : memV us = 0
  case neg =>
    obtain ⟨e1, e2⟩ := ret.out (memV us) (by rw [chC, if_neg hm]) hm
    obtain ⟨m, hmm⟩ : ∃ m, memV us = m := ⟨_, rfl⟩
    rw [hmm] at MF hm e1
    subst e2
    subst e1
    clear hmm HC ret MG
    go_enter Try.func10, Try.ntmps10
    go_wp2_with fail
    refine MF.mono ?_
    rintro e wr ⟨rfl, rfl⟩
    clear hW hS
    go_wp2_with fail
    exact bodyPost_ret (v := .agg #[.int .i64 C, .slice none 0 0]) (by simp [results, Try.results10, go_sem, r0, r1]) rfl ⟨_, rfl, Nums.nil _ _, (B0.out.setCell (by have := HSs.out; show w.heap.size ≤ s; omega) _).setCell (by have := HSs.out; show w.heap.size ≤ s; omega) _⟩
  rw [hm] at MF
  by_cases hm' : memV vs = 0
  case neg =>
    obtain ⟨e1, e2⟩ := ret.out (memV vs) (by rw [chC, if_pos hm, if_neg hm']) hm'
    obtain ⟨m, hmm⟩ : ∃ m, memV vs = m := ⟨_, rfl⟩
    rw [hmm] at MG hm' e1
    subst e2
    subst e1
    clear hmm HC ret hm
    go_enter Try.func10, Try.ntmps10
    go_wp2_with fail
    refine MF.mono ?_
    rintro e wr ⟨rfl, rfl⟩
    clear hW hS
    go_wp2_with fail
    refine MG.mono ?_
    rintro e wr ⟨rfl, rfl⟩
    go_wp2_with fail
    exact bodyPost_ret (v := .agg #[.int .i64 C, .slice none 0 0]) (by simp [results, Try.results10, go_sem, r0, r1]) rfl ⟨_, rfl, Nums.nil _ _, (B0.out.setCell (by have := HSs.out; show w.heap.size ≤ s; omega) _).setCell (by have := HSs.out; show w.heap.size ≤ s; omega) _⟩
  rw [hm'] at MG
  have MA : Hid (memV us = 0 ∧ memV vs = 0) := ⟨hm, hm'⟩
  clear hm hm'
  by_cases hl : n = n'
  case neg =>
    have hlI : ¬ (n : Int) = (n' : Int) := by omega
    obtain ⟨e1, e2⟩ := ret.out 1 (by rw [chC, if_pos MA.out.1, if_pos MA.out.2, if_neg (by have := HN.out; omega)]) (by decide)
    subst e1 e2
    clear HC ret
    go_enter Try.func10, Try.ntmps10
    go_wp2_with fail
    refine MF.mono ?_
    rintro e wr ⟨rfl, rfl⟩
    clear hW hS
    go_wp2_with fail
    refine MG.mono ?_
    rintro e wr ⟨rfl, rfl⟩
    go_wp2_with fail
    exact bodyPost_ret (v := .agg #[.int .i64 1, .slice none 0 0]) (by simp [results, Try.results10, go_sem, r0, r1]) rfl ⟨_, rfl, Nums.nil _ _, (B0.out.setCell (by have := HSs.out; show w.heap.size ≤ s; omega) _).setCell (by have := HSs.out; show w.heap.size ≤ s; omega) _⟩
  subst hl
  obtain ⟨p, hp, hp1, hp24⟩ := mem_form MA.out.1
  have c0 : chC us vs = 0 := by rw [chC, if_pos MA.out.1, if_pos MA.out.2, if_pos (by have := HN.out; omega)]
  have EC : (0 : Int) = C := by rw [← HC.out.1, c0]
  have EZ : Hid (wL us vs n = Z) := by
    show _ = _
    rw [← HC.out.2, chZ, if_pos c0, hp, show n = p * 8 by have := HN.out; omega, wL_eq us vs p hp (by have := HN.out; omega)]
    simp
  subst EC
  obtain ⟨ga, rfl⟩ := HG.out.1 (by have := HN.out.1; omega)
  obtain ⟨gb, rfl⟩ := HG.out.2 (by have := HN.out.1; omega)
  have HP : Hid (n ≤ 192) := by show _ ≤ _; have := HN.out; omega
  clear hp hp1 hp24 c0 HC ret r0 r1 f0 f1 MA HG
  have WN : Hid (Vb (W.alloc (.cells #[.int .i64 0, .slice none 0 0] 35)) W.heap.size #[.int .i64 0, .slice none 0 0] 35) := Vb.new _ _ _
  have B1 : Hid (Below W.heap.size W (W.alloc (.cells #[.int .i64 0, .slice none 0 0] 35))) := al (Below.refl _ _) _
  obtain ⟨O, hO⟩ : ∃ O, W.heap.size = O := ⟨_, rfl⟩
  have HO : Hid (W.heap.size = O) := hO
  rw [hO] at WN
  go_enter Try.func10, Try.ntmps10
  go_wp2_with fail
  refine MF.mono ?_
  rintro e W ⟨rfl, rfl⟩
  clear hW hS
  go_wp2_with fail
  refine MG.mono ?_
  rintro e W ⟨rfl, rfl⟩
  go_wp2_with fail
  generalize W.alloc (.cells #[.int .i64 0, .slice none 0 0] 35) = V at *
  clear MF MG hO
  go_loopw [8] (fun c wr => ∃ (i : Nat) (y : Value), i ≤ n ∧ c = .int .i64 i ∧ Vb wr O #[.int .i64 0, y] 35 ∧ Nums wr (O + 1) y (wL us vs i) ∧ Below O W wr) (fun c _ => n - (intOf c).toNat)
  case atStart => exact ⟨0, _, Nat.zero_le _, rfl, WN.out, Nums.nil _ _, by have := B1.out; rwa [HO.out] at this⟩
  case round =>
    obtain ⟨i, y, hi, rfl, hV, hN, hB⟩ := hrel
    have HV : Hid (Vb wr O _ _) := hV
    have HNY : Hid (Nums wr (O + 1) y (wL us vs i)) := hN
    have HB : Hid (Below O W wr) := hB
    have HB' : Hid (Below W.heap.size W wr) := by rw [HO.out]; exact hB
    obtain ⟨ya, yc, hy, _, _, _⟩ := hN.shape
    obtain ⟨un, hun⟩ : ∃ un, (wL us vs i).length = un := ⟨_, rfl⟩
    rw [hun] at hy
    subst hy
    have o0 := HV.out.cell 0 rfl
    have o1 := HV.out.cell 1 rfl
    have g1 := HV.out.free 1
    have HUL : Hid ((wL us vs i).length ≤ 192) := by show _ ≤ _; have := wL_len us vs i; have := HP.out; omega
    clear hun hV hN hB
    by_cases hlt : i < n
    · have hI : (i : Int) < (n : Int) := by omega
      have HLT : Hid (i < n) := hlt
      have ca := cell_keep HB'.out (NA.out.cell HN.out.1.symm i hlt)
      have cb := cell_keep HB'.out (NB.out.cell HN.out.2.symm i hlt)
      have SU : Hid (wL us vs (i + 1) = if us.getD i 0 = vs.getD i 0 then wL us vs i else rsV (wL us vs i) ((i / 8 : Nat) : Int)) := rfl
      generalize us.getD i 0 = x at *
      generalize vs.getD i 0 = z at *
      clear hlt
      by_cases hx : x = z
      · subst hx
        have S2 : Hid (wL us vs (i + 1) = wL us vs i) := by show _ = _; rw [SU.out, if_pos rfl]
        clear SU
        go_wp2_with fail
        go_quiet (skip)
        go_wp2_with fail
        go_roundw
        case rel => exact ⟨i + 1, _, by have := HLT.out; omega, by go_num, HV.out.keep (dr (Below.refl _ _) _), by rw [S2.out]; exact HNY.out.keep (dr (Below.refl _ _) _), dr HB.out _⟩
        case measure => have := HLT.out; simp [intOf]; omega
      · have S2 : Hid (wL us vs (i + 1) = rsV (wL us vs i) ((i / 8 : Nat) : Int)) := by show _ = _; rw [SU.out, if_neg hx]
        clear SU
        go_wp2_with fail
        go_quiet (skip)
        have HVq : Hid (Vb (wr.drewN nq) O #[.int .i64 0, .slice ya un yc] 35) := HV.out.keep (dr (Below.refl _ _) _)
        have HNq : Hid (Nums (wr.drewN nq) (O + 1) (.slice ya un yc) (wL us vs i)) := HNY.out.keep (dr (Below.refl _ _) _)
        have HBq : Hid (Below O W (wr.drewN nq)) := dr HB.out _
        clear o0 o1 g1 ca cb
        generalize wr.drewN nq = wq at *
        have o1 := HVq.out.cell 1 rfl
        have LO : Hid (O < wq.heap.size) := HVq.out.lt
        have hq8 : (i : Int) / 8 = ((i / 8 : Nat) : Int) := by omega
        have RS := rs_any (.slice ya un yc) (wL us vs i) ((i / 8 : Nat) : Int) (O + 1) wq HNq.out (by have := HUL.out; omega) (by have := LO.out; omega)
        generalize ((i / 8 : Nat) : Int) = q8 at *
        go_wp2_with fail
        refine RS.mono ?_
        rintro e w5 ⟨u5, rfl, n5, b5⟩
        have HV5 : Hid (Vb w5 O #[.int .i64 0, .slice ya un yc] 35) := HVq.out.keep b5
        have HB5 : Hid (Below O W w5) := HBq.out.trans (b5.mono (by have := LO.out; omega))
        have N5 : Hid (Nums w5 (O + 1) u5 (rsV (wL us vs i) q8)) := n5
        have NE : Hid (u5.ownBlock ≠ some O) := fun e => by have := (n5.lt O e).1; omega
        obtain ⟨ua, uc, hu5, _, _, _⟩ := n5.shape
        obtain ⟨ul, hul⟩ : ∃ ul, (rsV (wL us vs i) q8).length = ul := ⟨_, rfl⟩
        rw [hul] at hu5
        subst hu5
        clear o1 RS n5 b5 hul
        have o1 := HV5.out.cell 1 rfl
        have g1 := HV5.out.free 1
        go_wp2_with fail
        go_roundw
        case rel => exact ⟨i + 1, _, by have := HLT.out; omega, by go_num, HV5.out.set 1 _, by rw [S2.out]; exact N5.out.put ⟨O, 1, none⟩ _ NE.out, HB5.out.setCell (Nat.le_refl O) _⟩
        case measure => have := HLT.out; simp [intOf]; omega
    · have hI : ¬ (i : Int) < (n : Int) := by omega
      obtain rfl : i = n := by omega
      have R3 : Hid (Vb wr s #[.int .i64 0, .slice none 0 0] 35) := R.out.keep HB'.out
      have r0 := R3.out.cell 0 rfl
      have r1 := R3.out.cell 1 rfl
      have f0 := R3.out.free 0
      have f1 := R3.out.free 1
      have LT : Hid (s < O) := by have := R.out.lt; have := HO.out; show _ < _; omega
      have BM : Hid (Below w.heap.size w wr) := on B0.out HB'.out
      have hv : Hid ((Value.slice ya un yc).ownBlock ≠ some s) := fun e => by have := (HNY.out.lt s e).1; have := LT.out; omega
      have PM : Hid (Nums wr w.heap.size (.slice ya un yc) Z) := by rw [← EZ.out]; exact HNY.out.mono (by have := LT.out; have := HSs.out; omega)
      clear hlt
      go_wp2_with fail
      exact bodyPost_ret (v := .agg #[.int .i64 0, .slice ya un yc]) (by simp [results, Try.results10, go_sem, r0, r1]) rfl ⟨_, rfl, (PM.out.put ⟨s, 0, none⟩ _ hv.out).put ⟨s, 1, none⟩ _ hv.out, (BM.out.setCell (by have := HSs.out; show w.heap.size ≤ s; omega) _).setCell (by have := HSs.out; show w.heap.size ≤ s; omega) _⟩
end Go.Proofs.Ytldfcojmcdpdgaa
