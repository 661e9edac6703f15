/- Pages that changed, by the program. -/
import Derived.Test.YtldfcojmcdpdgaaChv
import Derived.Test.YtldfcojmcdpdgaaMem
import Derived.Test.YtldfcojmcdpdgaaIntr
import Derived.Test.YtldfcojmcdpdgaaHnm
import Derived.ChangeKeysEq
namespace Go.Proofs.Ytldfcojmcdpdgaa
open Go.RowKit
set_option linter.unusedVariables false

theorem eight_list8 (zs : List Int) (p : Nat) (h : p * 8 + 8 ≤ zs.length) : eight zs p = [zs.getD (p * 8) 0, zs.getD (p * 8 + 1) 0, zs.getD (p * 8 + 2) 0, zs.getD (p * 8 + 3) 0, zs.getD (p * 8 + 4) 0, zs.getD (p * 8 + 5) 0, zs.getD (p * 8 + 6) 0, zs.getD (p * 8 + 7) 0] := by
  have h1 := take_eight zs (p * 8) h
  rw [List.take_add] at h1
  exact List.append_cancel_left h1
theorem one_atC {w : World} {g : Nat} {z : Int} (h : w.cell? ⟨g, 0, none⟩ = some (.int .i64 z)) : ∀ i, i < 1 → w.cell? ⟨g, i, none⟩ = some (.int .i64 (([z] : List Int).getD i 0)) := by
  intro i hi
  obtain rfl : i = 0 := by omega
  exact h
theorem neq_page (a0 a1 a2 a3 a4 a5 a6 a7 b0 b1 b2 b3 b4 b5 b6 b7 : Int) (w : World) :
    (binOp .neq 58 (.agg #[.int .i64 a0, .int .i64 a1, .int .i64 a2, .int .i64 a3, .int .i64 a4, .int .i64 a5, .int .i64 a6, .int .i64 a7]) (.agg #[.int .i64 b0, .int .i64 b1, .int .i64 b2, .int .i64 b3, .int .i64 b4, .int .i64 b5, .int .i64 b6, .int .i64 b7])).run Try.prog w = .ok (.bool (!decide ([a0, a1, a2, a3, a4, a5, a6, a7] = [b0, b1, b2, b3, b4, b5, b6, b7]))) w := by
  obtain ⟨i, hi, _⟩ := info_parts info_i64
  have hc : Try.prog.cellsOf 2 = 1 := by kernel_rfl
  rw [run_neq_struct, run_equalIn_array w 9999 _ _ Try.underlying58 hi, hc]
  simp only [show List.range 8 = [0, 1, 2, 3, 4, 5, 6, 7] from rfl, Op.eqItems]
  go_simp
  by_cases h0 : a0 = b0
  case neg => simp [h0]
  by_cases h1 : a1 = b1
  case neg => simp [h0, h1]
  by_cases h2 : a2 = b2
  case neg => simp [h0, h1, h2]
  by_cases h3 : a3 = b3
  case neg => simp [h0, h1, h2, h3]
  by_cases h4 : a4 = b4
  case neg => simp [h0, h1, h2, h3, h4]
  by_cases h5 : a5 = b5
  case neg => simp [h0, h1, h2, h3, h4, h5]
  by_cases h6 : a6 = b6
  case neg => simp [h0, h1, h2, h3, h4, h5, h6]
  by_cases h7 : a7 = b7
  case neg => simp [h0, h1, h2, h3, h4, h5, h6, h7]
  simp [h0, h1, h2, h3, h4, h5, h6, h7]

set_option maxRecDepth 20000 in
set_option maxHeartbeats 8000000 in
theorem i_changed (v u : Value) (us vs : List Int) (b b' : Nat) (w : World) (h : Nums w b v us) (k : Nums w b' u vs) (ha : us.length ≤ 1048576) (hb : vs.length ≤ 1048576) :
    Calls Try.prog 12 #[v, u] w fun e w' => ∃ y, e = .returned (.agg #[.int .i64 (chC us vs), y]) ∧ Nums w' w.heap.size y (chZ us vs) ∧ Below w.heap.size w w' := by
  obtain ⟨a, cap, hv, l1, l2, hg⟩ := h.shape
  obtain ⟨a', cap', hu, l1', l2', hg'⟩ := k.shape
  obtain ⟨n, hn⟩ : ∃ n, us.length = n := ⟨_, rfl⟩
  obtain ⟨n', hn'⟩ : ∃ n, vs.length = n := ⟨_, rfl⟩
  rw [hn] at hv hg ha
  rw [hn'] at hu hg' hb
  subst hv hu
  obtain ⟨C, hC⟩ : ∃ C, chC us vs = C := ⟨_, rfl⟩
  obtain ⟨Z, hZ⟩ : ∃ Z, chZ us vs = Z := ⟨_, rfl⟩
  rw [hC, hZ]
  have HC : Hid (chC us vs = C ∧ chZ us vs = Z) := ⟨hC, hZ⟩
  have HN : Hid (us.length = n ∧ vs.length = n') := ⟨hn, hn'⟩
  have HG : Hid ((0 < n → ∃ g, a = some ⟨g, 0, none⟩) ∧ (0 < n' → ∃ g, a' = some ⟨g, 0, none⟩)) := ⟨hg, hg'⟩
  have hnI : (n : Int) ≤ 1048576 := by omega
  have hnI' : (n' : Int) ≤ 1048576 := by omega
  clear hC hZ hn hn' hg hg' l1 l2 l1' l2' ha hb
  generalize hW : (w.alloc (.cells #[.int .i64 0, .slice none 0 0] 35)).alloc (.cells #[.slice a n cap, .slice a' n' cap'] 22) = W
  have B0 : Hid (Below w.heap.size w W) := by show Below _ _ _; rw [← hW]; exact al (al (Below.refl _ _) _) _
  obtain ⟨s, hS⟩ : ∃ s, w.heap.size = s := ⟨_, rfl⟩
  have HSs : Hid (w.heap.size = s) := hS
  have z1 : s + 1 = (w.alloc (.cells #[.int .i64 0, .slice none 0 0] 35)).heap.size := by rw [← hS]; simp
  have R : Hid (Vb W s #[.int .i64 0, .slice none 0 0] 35) := by show Vb _ _ _ _; rw [← hW, ← hS]; exact (Vb.new _ _ _).push _
  have L : Hid (Vb W (s + 1) #[.slice a n cap, .slice a' n' cap'] 22) := by show Vb _ _ _ _; rw [← hW, z1]; exact Vb.new _ _ _
  have NA : Hid (Nums W b (.slice a n cap) us) := h.keep B0.out
  have NB : Hid (Nums W b' (.slice a' n' cap') vs) := k.keep B0.out
  clear z1 h k
  go_enter Try.func12, Try.ntmps12
  go_wp2_with fail
  clear hW hS
  have ret : Hid (∀ (c : Int) , chC us vs = c → ¬ c = 0 → C = c ∧ Z = []) := fun c hc hz => ⟨by rw [← HC.out.1, hc], by rw [← HC.out.2, chZ, hc, if_neg hz]⟩
  go_loop [6, 7, 16] (fun _ _ c => ∃ j : Nat, j ≤ 2 ∧ c = .int .i64 j ∧ Hid (0 < j → memV us = 0) ∧ Hid (1 < j → memV vs = 0)) (fun _ _ c => 2 - (intOf c).toNat)
  case atStart => exact ⟨0, by omega, rfl, fun h => by omega, fun h => by omega⟩
  case round =>
    obtain ⟨j, hj, rfl, p1, p2⟩ := hrel
    have r0 := R.out.cell 0 rfl
    have r1 := R.out.cell 1 rfl
    have f0 := R.out.free 0
    have f1 := R.out.free 1
    by_cases j0 : j = 0
    · subst j0
      have c0 := L.out.cell 0 rfl
      have MF := impl_memFault (.slice a n cap) us b W NA.out
      by_cases hm : memV us = 0
      · rw [hm] at MF
        go_wp2_with fail
        refine MF.mono ?_
        rintro e wr ⟨rfl, rfl⟩
        go_wp2_with fail
        go_round
        case rel => exact ⟨1, by omega, by go_num, fun _ => hm, fun h => by omega⟩
        case measure => simp [intOf]
      · obtain ⟨e1, e2⟩ := ret.out (memV us) (by rw [chC, if_neg hm]) hm
        obtain ⟨m, hmm⟩ : ∃ m, memV us = m := ⟨_, rfl⟩
        rw [hmm] at MF hm e1
        subst e2
        subst e1
        clear hmm HC ret
        go_wp2_with fail
        refine MF.mono ?_
        rintro e wr ⟨rfl, rfl⟩
        go_wp2_with fail
        exact bodyPost_ret (v := .agg #[.int .i64 C, .slice none 0 0]) (by simp [results, Try.results12, go_sem, r0, r1]) rfl ⟨_, rfl, Nums.nil _ _, (B0.out.setCell (by have := HSs.out; show w.heap.size ≤ s; omega) _).setCell (by have := HSs.out; show w.heap.size ≤ s; omega) _⟩
    by_cases j1 : j = 1
    · subst j1
      have c0 := L.out.cell 1 rfl
      have MF := impl_memFault (.slice a' n' cap') vs b' W NB.out
      have ha0 := p1.out (by omega)
      by_cases hm : memV vs = 0
      · rw [hm] at MF
        go_wp2_with fail
        refine MF.mono ?_
        rintro e wr ⟨rfl, rfl⟩
        go_wp2_with fail
        go_round
        case rel => exact ⟨2, by omega, by go_num, fun _ => ha0, fun _ => hm⟩
        case measure => simp [intOf]
      · obtain ⟨e1, e2⟩ := ret.out (memV vs) (by rw [chC, if_pos ha0, if_neg hm]) hm
        obtain ⟨m, hmm⟩ : ∃ m, memV vs = m := ⟨_, rfl⟩
        rw [hmm] at MF hm e1
        subst e1 e2
        clear hmm HC ret ha0
        go_wp2_with fail
        refine MF.mono ?_
        rintro e wr ⟨rfl, rfl⟩
        go_wp2_with fail
        exact bodyPost_ret (v := .agg #[.int .i64 C, .slice none 0 0]) (by simp [results, Try.results12, go_sem, r0, r1]) rfl ⟨_, rfl, Nums.nil _ _, (B0.out.setCell (by have := HSs.out; show w.heap.size ≤ s; omega) _).setCell (by have := HSs.out; show w.heap.size ≤ s; omega) _⟩
    obtain rfl : j = 2 := by omega
    have MA : Hid (memV us = 0 ∧ memV vs = 0) := ⟨p1.out (by omega), p2.out (by omega)⟩
    clear p1 p2 j0 j1
    by_cases hl : n = n'
    case neg =>
      have hlI : ¬ (n : Int) = (n' : Int) := by omega
      obtain ⟨e1, e2⟩ := ret.out 1 (by rw [chC, if_pos MA.out.1, if_pos MA.out.2, if_neg (by have := HN.out; omega)]) (by decide)
      subst e1 e2
      clear HC ret
      go_wp2_with fail
      exact bodyPost_ret (v := .agg #[.int .i64 1, .slice none 0 0]) (by simp [results, Try.results12, go_sem, r0, r1]) rfl ⟨_, rfl, Nums.nil _ _, (B0.out.setCell (by have := HSs.out; show w.heap.size ≤ s; omega) _).setCell (by have := HSs.out; show w.heap.size ≤ s; omega) _⟩
    subst hl
    obtain ⟨p, hp, hp1, hp24⟩ := mem_form MA.out.1
    have c0 : chC us vs = 0 := by rw [chC, if_pos MA.out.1, if_pos MA.out.2, if_pos (by have := HN.out; omega)]
    have EC : (0 : Int) = C := by rw [← HC.out.1, c0]
    have EZ : Hid (chL us vs p = Z) := by show _ = _; rw [← HC.out.2, chZ, if_pos c0, hp]; simp
    subst EC
    obtain ⟨ga, rfl⟩ := HG.out.1 (by have := HN.out.1; omega)
    obtain ⟨gb, rfl⟩ := HG.out.2 (by have := HN.out.1; omega)
    have HP : Hid (us.length = p * 8 ∧ vs.length = p * 8 ∧ 1 ≤ p ∧ p ≤ 24) := ⟨hp, by have := HN.out; omega, hp1, hp24⟩
    have hpI : (p : Int) ≤ 24 := by omega
    clear hp hp1 hp24 c0 HC ret r0 r1 f0 f1 MA
    go_wp2_with fail
    refine (impl_cut _ _ _ vs _ p _ NB.out HP.out.2.1 HP.out.2.2.2 HP.out.2.2.1).mono ?_
    rintro e w1 ⟨g1, rfl, pg1, b1⟩
    have PB : Hid (Pags w1 _ (.slice (some ⟨g1, 0, none⟩) p p) p vs) := pg1
    have B1 : Hid (Below _ W w1) := b1
    clear pg1 b1
    go_wp2_with fail
    refine (impl_cut _ _ _ us _ p _ (NA.out.keep B1.out) HP.out.1 HP.out.2.2.2 HP.out.2.2.1).mono ?_
    rintro e w2 ⟨g2, rfl, pg2, b2⟩
    have PA : Hid (Pags w2 _ (.slice (some ⟨g2, 0, none⟩) p p) p us) := pg2
    have PB2 : Hid (Pags w2 _ (.slice (some ⟨g1, 0, none⟩) p p) p vs) := PB.out.keep b2
    have B2 : Hid (Below _ W w2) := on B1.out b2
    clear pg2 b2 PB B1
    go_wp2_with fail
    go_loopw [8, 10, 11, 38] (fun y _ _ c wr => ∃ j : Nat, j ≤ p ∧ c = .int .i64 j ∧ Nums wr w2.heap.size y (chL us vs j) ∧ Below w2.heap.size w2 wr) (fun _ _ _ c _ => p - (intOf c).toNat)
    case atStart => exact ⟨0, Nat.zero_le _, rfl, Nums.nil _ _, Below.refl _ _⟩
    case round =>
      obtain ⟨j, hj, rfl, hN, hB⟩ := hrel
      have HN2 : Hid (Nums wr w2.heap.size _ (chL us vs j)) := hN
      have HB : Hid (Below w2.heap.size w2 wr) := hB
      obtain ⟨ya, yc, hy, _, _, _⟩ := hN.shape
      have HLN : Hid ((chL us vs j).length ≤ 24) := by show _ ≤ _; have := ch_len us vs j; have := HP.out; omega
      obtain ⟨un, hun⟩ : ∃ un, (chL us vs j).length = un := ⟨_, rfl⟩
      rw [hun] at hy
      have HUN : Hid ((chL us vs j).length = un) := hun
      subst hy
      clear hN hun
      by_cases hlt : j < p
      · have hJ : (j : Int) < (p : Int) := by omega
        have HLT : Hid (j < p) := hlt
        have SU : Hid (_ = _) := ch_succ us vs j
        have EQ : Hid (chB us vs j = !decide (eight us j = eight vs j)) := rfl
        rw [eight_list8 us j (by have := HP.out; omega), eight_list8 vs j (by have := HP.out; omega)] at EQ
        have hpa := fun k (hk : k < p * 8) => cell_keep hB (PA.out.cell k hk)
        have hpb := fun k (hk : k < p * 8) => cell_keep hB (PB2.out.cell k hk)
        have ga2 : g2 < wr.heap.size := block_of_cell (hpa (j * 8) (by omega))
        have gb2 : g1 < wr.heap.size := block_of_cell (hpb (j * 8) (by omega))
        have a0 := hpa (j * 8) (by omega)
        have d0 := hpb (j * 8) (by omega)
        have a1 := hpa (j * 8 + 1) (by omega)
        have d1 := hpb (j * 8 + 1) (by omega)
        have a2 := hpa (j * 8 + 2) (by omega)
        have d2 := hpb (j * 8 + 2) (by omega)
        have a3 := hpa (j * 8 + 3) (by omega)
        have d3 := hpb (j * 8 + 3) (by omega)
        have a4 := hpa (j * 8 + 4) (by omega)
        have d4 := hpb (j * 8 + 4) (by omega)
        have a5 := hpa (j * 8 + 5) (by omega)
        have d5 := hpb (j * 8 + 5) (by omega)
        have a6 := hpa (j * 8 + 6) (by omega)
        have d6 := hpb (j * 8 + 6) (by omega)
        have a7 := hpa (j * 8 + 7) (by omega)
        have d7 := hpb (j * 8 + 7) (by omega)
        generalize us.getD (j * 8) 0 = x0 at *
        generalize vs.getD (j * 8) 0 = y0 at *
        generalize us.getD (j * 8 + 1) 0 = x1 at *
        generalize vs.getD (j * 8 + 1) 0 = y1 at *
        generalize us.getD (j * 8 + 2) 0 = x2 at *
        generalize vs.getD (j * 8 + 2) 0 = y2 at *
        generalize us.getD (j * 8 + 3) 0 = x3 at *
        generalize vs.getD (j * 8 + 3) 0 = y3 at *
        generalize us.getD (j * 8 + 4) 0 = x4 at *
        generalize vs.getD (j * 8 + 4) 0 = y4 at *
        generalize us.getD (j * 8 + 5) 0 = x5 at *
        generalize vs.getD (j * 8 + 5) 0 = y5 at *
        generalize us.getD (j * 8 + 6) 0 = x6 at *
        generalize vs.getD (j * 8 + 6) 0 = y6 at *
        generalize us.getD (j * 8 + 7) 0 = x7 at *
        generalize vs.getD (j * 8 + 7) 0 = y7 at *
        have SZ : Hid (w2.heap.size ≤ wr.heap.size) := hB.size
        have BX : Hid (Below w2.heap.size w2 (wr.alloc (.cells #[.int .i64 x0, .int .i64 x1, .int .i64 x2, .int .i64 x3, .int .i64 x4, .int .i64 x5, .int .i64 x6, .int .i64 x7] 58))) := al hB _
        have NX : Hid (Nums (wr.alloc (.cells #[.int .i64 x0, .int .i64 x1, .int .i64 x2, .int .i64 x3, .int .i64 x4, .int .i64 x5, .int .i64 x6, .int .i64 x7] 58)) w2.heap.size (.slice ya un yc) (chL us vs j)) := HN2.out.keep (al (Below.refl _ _) _)
        have SX : Hid ((wr.alloc (.cells #[.int .i64 x0, .int .i64 x1, .int .i64 x2, .int .i64 x3, .int .i64 x4, .int .i64 x5, .int .i64 x6, .int .i64 x7] 58)).heap.size = wr.heap.size + 1) := by show _ = _; simp
        have ne := fun w => neq_page x0 x1 x2 x3 x4 x5 x6 x7 y0 y1 y2 y3 y4 y5 y6 y7 w
        rw [← EQ.out] at ne
        clear hpa hpb hlt hB EQ
        cases hb : chB us vs j
        · rw [hb] at ne
          have S2 : Hid (chL us vs (j + 1) = chL us vs j) := by show _ = _; rw [SU.out, hb]; simp
          clear hb SU
          go_wp2_with fail
          go_quiet (skip)
          go_wp2_with fail
          go_roundw
          case rel => exact ⟨j + 1, by have := HLT.out; omega, by go_num, by rw [S2.out]; exact NX.out.keep (dr (Below.refl _ _) _), dr BX.out _⟩
          case measure => have := HLT.out; simp [intOf]; omega
        · rw [hb] at ne
          have S2 : Hid (chL us vs (j + 1) = chL us vs j ++ [(j : Int)]) := by show _ = _; rw [SU.out, hb]; simp
          clear hb SU
          go_wp2_with fail
          go_quiet (skip)
          have NQ : Hid (Nums ((wr.alloc (.cells #[.int .i64 x0, .int .i64 x1, .int .i64 x2, .int .i64 x3, .int .i64 x4, .int .i64 x5, .int .i64 x6, .int .i64 x7] 58)).drewN nq) w2.heap.size (.slice ya un yc) (chL us vs j)) := NX.out.keep (dr (Below.refl _ _) _)
          have BQ : Hid (Below w2.heap.size w2 ((wr.alloc (.cells #[.int .i64 x0, .int .i64 x1, .int .i64 x2, .int .i64 x3, .int .i64 x4, .int .i64 x5, .int .i64 x6, .int .i64 x7] 58)).drewN nq)) := dr BX.out _
          generalize (wr.alloc (.cells #[.int .i64 x0, .int .i64 x1, .int .i64 x2, .int .i64 x3, .int .i64 x4, .int .i64 x5, .int .i64 x6, .int .i64 x7] 58)).drewN nq = wq at *
          have SQ : Hid (w2.heap.size ≤ wq.heap.size) := BQ.out.size
          clear NX BX SX a0 a1 a2 a3 a4 a5 a6 a7 d0 d1 d2 d3 d4 d5 d6 d7
          go_wp2_with (at_builtin; refine wp_append _ rfl _ _ rfl w2.heap.size (.slice ya un yc) _ rfl (NQ.out.keep (al (Below.refl _ _) _)) wq.heap.size 1 1 [(j : Int)] rfl rfl (one_atC (cell_new rfl)) (by have := HLN.out; omega) (by have := SQ.out; simp; omega) ?_; intro v' w' hN' hG')
          have N' : Hid (Nums w' w2.heap.size v' (chL us vs j ++ [(j : Int)])) := hN'
          have B' : Hid (Below w2.heap.size w2 w') := (al BQ.out _).grown hG' (by have := SQ.out; simp; omega) (fun k hk => (NQ.out.lt k hk).1)
          clear hN' hG'
          go_wp2_with fail
          go_roundw
          case rel => exact ⟨j + 1, by have := HLT.out; omega, by go_num, by rw [S2.out]; exact N'.out, B'.out⟩
          case measure => have := HLT.out; simp [intOf]; omega
      · have hJ : ¬ (j : Int) < (p : Int) := by omega
        obtain rfl : j = p := by omega
        have R3 : Hid (Vb wr s #[.int .i64 0, .slice none 0 0] 35) := (R.out.keep B2.out).keep hB
        have r0 := R3.out.cell 0 rfl
        have r1 := R3.out.cell 1 rfl
        have f0 := R3.out.free 0
        have f1 := R3.out.free 1
        have LT : Hid (s < w2.heap.size) := (R.out.keep B2.out).lt
        have BM : Hid (Below w.heap.size w wr) := on B0.out (on B2.out hB)
        have hv : Hid ((Value.slice ya un yc).ownBlock ≠ some s) := fun e => by have := (HN2.out.lt s e).1; have := LT.out; omega
        have PM : Hid (Nums wr w.heap.size (.slice ya un yc) Z) := by rw [← EZ.out]; exact HN2.out.mono (by have := LT.out; have := HSs.out; omega)
        clear hB hlt
        go_wp2_with fail
        exact bodyPost_ret (v := .agg #[.int .i64 0, .slice ya un yc]) (by simp [results, Try.results12, go_sem, r0, r1]) rfl ⟨_, rfl, (PM.out.put ⟨s, 0, none⟩ _ hv.out).put ⟨s, 1, none⟩ _ hv.out, (BM.out.setCell (by have := HSs.out; show w.heap.size ≤ s; omega) _).setCell (by have := HSs.out; show w.heap.size ≤ s; omega) _⟩
end Go.Proofs.Ytldfcojmcdpdgaa
