/- The pages of a guest, by the program. -/
import Derived.Test.YtnhebeehpkecfaaGreatDoorPfv
import Derived.Test.YtnhebeehpkecfaaGreatDoorPgm
namespace Go.Proofs.YtnhebeehpkecfaaGreatDoor
open Go.RowKit
set_option linter.unusedVariables false

theorem pageV_own (ow : List Int) (ls : List Ln) (g : Int) (k : Nat) (h : k < ow.length) : pageV ow ls g k = (ow.getD k 0, 7) := by rw [pageV, if_pos h]
theorem pageV_not (ow : List Int) (ls : List Ln) (g : Int) (k : Nat) (h : ¬ k < ow.length) : pageV ow ls g k = firstM g k ls := by rw [pageV, if_neg h]
theorem match_one (g k : Int) (l : Ln) (h1 : l.fr = g) (h2 : l.af = k) : matchL g k l = some (l.pg, 3) := by unfold matchL; rw [if_pos ⟨h1, h2⟩]
theorem match_other (g k : Int) (l : Ln) (h : ¬ (l.fr = g ∧ l.af = k)) (h1 : l.dst = g) (h2 : l.tt = k) : matchL g k l = some (l.pg, 1) := by unfold matchL; rw [if_neg h, if_pos ⟨h1, h2⟩]
theorem match_none (g k : Int) (l : Ln) (h : ¬ (l.fr = g ∧ l.af = k)) (h1 : ¬ (l.dst = g ∧ l.tt = k)) : matchL g k l = none := by unfold matchL; rw [if_neg h, if_neg h1]

theorem res_alloc {w : World} {s : Nat} (a b : Value) (o : Obj) (h : Rs w s) : (((w.setCell ⟨s + 1, 0, none⟩ a).setCell ⟨s + 1, 1, none⟩ b).alloc o).cell? ⟨s + 1, 0, none⟩ = some a ∧ (((w.setCell ⟨s + 1, 0, none⟩ a).setCell ⟨s + 1, 1, none⟩ b).alloc o).cell? ⟨s + 1, 1, none⟩ = some b := by
  have h0 : (w.setCell ⟨s + 1, 0, none⟩ a).cell? ⟨s + 1, 0, none⟩ = some a := World.cell?_setCell_same _ _ _ h.1
  have h1 : (w.setCell ⟨s + 1, 0, none⟩ a).cell? ⟨s + 1, 1, none⟩ = some (.int .i64 0) := by rw [World.cell?_setCell_other _ _ _ _ (by intro e; cases e)]; exact h.2.1
  refine ⟨cell_push o ?_, cell_push o (World.cell?_setCell_same _ _ _ h1)⟩
  rw [World.cell?_setCell_other _ _ _ _ (by intro e; cases e)]
  exact h0

set_option maxRecDepth 20000 in
set_option maxHeartbeats 4000000 in
theorem i_pageAt (a0 a1 a2 a3 : Option Addr) (n0 c0 n1 c1 n2 c2 n3 c3 : Nat) (P : Plc) (g k : Nat) (w : World) (h : Pl w a0 n0 c0 a1 n1 c1 a2 n2 c2 a3 n3 c3 P) (hg : g < P.own.length) (hk : k < 8) :
    Calls Tryz.prog 55 #[.agg #[.slice a0 n0 c0, .slice a1 n1 c1, .slice a2 n2 c2, .slice a3 n3 c3], .int .i64 (g : Int), .int .i64 (k : Int)] w fun e w' => e = .returned (.agg #[.int .i64 (pageV (P.own.getD g []) P.lanes (g : Int) k).1, .int .i64 (pageV (P.own.getD g []) P.lanes (g : Int) k).2]) ∧ Below w.heap.size w w' := by
  generalize hW : ((w.alloc (.cells #[.slice a0 n0 c0, .slice a1 n1 c1, .slice a2 n2 c2, .slice a3 n3 c3] 37))).alloc (.cells #[.int .i64 0, .int .i64 0] 53) = W
  have B0 : Hid (Below w.heap.size w W) := by show Below _ _ _; rw [← hW]; exact al (al (Below.refl _ _) _) _
  obtain ⟨s, hS⟩ : ∃ s, w.heap.size = s := ⟨_, rfl⟩
  have HSs : Hid (w.heap.size = s) := hS
  have Q : Hid (W.cell? ⟨s, 0, none⟩ = some (.slice a0 n0 c0) ∧ W.cell? ⟨s, 1, none⟩ = some (.slice a1 n1 c1)) := by
    show _ ∧ _
    rw [← hW, ← hS]
    exact ⟨cell_push _ (cell_new rfl), cell_push _ (cell_new rfl)⟩
  have R : Hid (Rs W s) := by
    have z1 : s + 1 = ((w.alloc (.cells #[.slice a0 n0 c0, .slice a1 n1 c1, .slice a2 n2 c2, .slice a3 n3 c3] 37))).heap.size := by rw [← hS]; simp
    show Rs W s
    unfold Rs
    rw [← hW, z1]
    exact ⟨cell_new rfl, cell_new rfl, fz_new _ _ _ _, fz_new _ _ _ _, by simp⟩
  have HP : Hid (Pl W a0 n0 c0 a1 n1 c1 a2 n2 c2 a3 n3 c3 P) := h.stay B0.out
  have hgn : g < n0 := by have := h.own.len; omega
  have hgI : (g : Int) < (n0 : Int) := by omega
  have hn0 : (n0 : Int) ≤ 9223372036854775807 := by have := h.own.cap; unfold maxLen at this; omega
  have hmax1 : (n1 : Int) ≤ 9223372036854775807 := by have := h.lanes.cap; unfold maxLen at this; omega
  have HL1 : Hid (n1 = P.lanes.length) := h.lanes.len
  obtain ⟨x, b, l, c, rfl, k1, k2⟩ := HP.out.own.at g hgn
  have K1 : Hid (W.cell? (x.add g) = some (.slice b l c)) := k1
  have HN : Hid (IsNs W b l c (P.own.getD g [])) := k2
  have HNL : Hid (l = (P.own.getD g []).length) := k2.len
  have hl1 : (l : Int) ≤ 9223372036854775807 := by have := k2.cap; unfold maxLen at this; omega
  have hkI : (k : Int) < 8 := by omega
  clear h hg k2
  have q0 := Q.out.1
  have q1 := Q.out.2
  by_cases hkl : k < l
  · rcases HN.out with ⟨_, h1, _, _⟩ | ⟨y, rfl, h1, h2, h3, h4⟩
    · omega
    have d0 := h4 k hkl
    have hkL : (k : Int) < (l : Int) := by omega
    have PV : Hid (pageV (P.own.getD g []) P.lanes (g : Int) k = ((P.own.getD g []).getD k 0, 7)) := pageV_own _ _ _ _ (by have := HNL.out; omega)
    obtain ⟨r0, r1, f0, f1, lt⟩ := R.out
    generalize (P.own.getD g []).getD k 0 = zz at *
    clear h1 h2 h3 h4 hkl
    go_enter Tryz.func55, Tryz.ntmps55
    go_wp2_with fail
    clear hW hS
    exact bodyPost_ret (v := .agg #[.int .i64 zz, .int .i64 7]) (by simp [results, Tryz.results55, go_sem, r0, r1]) rfl ⟨by rw [PV.out], (B0.out.setCell (by have := HSs.out; show w.heap.size ≤ s + 1; omega) _).setCell (by have := HSs.out; show w.heap.size ≤ s + 1; omega) _⟩
  have hkL : ¬ (k : Int) < (l : Int) := by omega
  have PV : Hid (pageV (P.own.getD g []) P.lanes (g : Int) k = firstM (g : Int) (k : Int) P.lanes) := pageV_not _ _ _ _ (by have := HNL.out; omega)
  clear hkl
  go_enter Tryz.func55, Tryz.ntmps55
  go_wp2_with fail
  clear hW hS q0 q1 k1
  go_loopw [9, 27] (fun _ c wr => ∃ i : Nat, i ≤ n1 ∧ c = .int .i64 i ∧ Below W.heap.size W wr ∧ Hid (firstM (g : Int) (k : Int) P.lanes = firstM (g : Int) (k : Int) (P.lanes.drop i))) (fun _ c _ => n1 - (intOf c).toNat)
  case atStart => exact ⟨0, Nat.zero_le _, rfl, Below.refl _ _, by show _ = _; simp⟩
  case round =>
    obtain ⟨i, hi, rfl, hB, hI⟩ := hrel
    have HB : Hid (Below _ W wr) := hB
    have RK : Hid (Rs wr s) := R.out.keep hB
    obtain ⟨r0, r1, f0, f1, lt⟩ := R.out.keep hB
    by_cases hlt : i < n1
    · obtain ⟨xl, rfl, k0, k1, k2, k3, k4⟩ := (HP.out.lanes.stay hB).at i hlt
      have hJ : (i : Int) < (n1 : Int) := by omega
      have HLT : Hid (i < n1) := hlt
      have ST : Hid (_ = _) := firstM_step (g : Int) (k : Int) P.lanes i (by have := HL1.out; omega)
      obtain ⟨O, hO⟩ : ∃ O, P.lanes.getD i lz = O := ⟨_, rfl⟩
      rw [hO] at k0 k1 k2 k3 k4 ST
      clear hO hlt hB
      by_cases e1 : O.fr = (g : Int) ∧ O.af = (k : Int)
      · have S2 : Hid (firstM (g : Int) (k : Int) P.lanes = (O.pg, 3)) := by show _ = _; rw [hI.out, ST.out, match_one _ _ _ e1.1 e1.2]
        obtain ⟨e1, e2⟩ := e1
        obtain ⟨ofr, odst, opg, oaf, ott⟩ := O
        simp only at k0 k1 k2 k3 k4 e1 e2 S2
        subst e1 e2
        clear ST
        go_wp2_with fail
        exact bodyPost_ret (v := .agg #[.int .i64 opg, .int .i64 3]) (by simp [results, Tryz.results55, go_sem, res_alloc _ _ _ RK.out]) rfl ⟨by rw [PV.out, S2.out], al (((on B0.out HB.out).setCell (by have := HSs.out; show w.heap.size ≤ s + 1; omega) _).setCell (by have := HSs.out; show w.heap.size ≤ s + 1; omega) _) _⟩
      by_cases e2 : O.dst = (g : Int) ∧ O.tt = (k : Int)
      · have S2 : Hid (firstM (g : Int) (k : Int) P.lanes = (O.pg, 1)) := by show _ = _; rw [hI.out, ST.out, match_other _ _ _ e1 e2.1 e2.2]
        obtain ⟨e3, e4⟩ := e2
        obtain ⟨ofr, odst, opg, oaf, ott⟩ := O
        simp only at k0 k1 k2 k3 k4 e1 e3 e4 S2
        subst e3 e4
        clear ST
        by_cases e5 : ofr = (g : Int)
        · have e6 : ¬ oaf = (k : Int) := fun e => e1 ⟨e5, e⟩
          clear e1
          go_wp2_with fail
          exact bodyPost_ret (v := .agg #[.int .i64 opg, .int .i64 1]) (by simp [results, Tryz.results55, go_sem, res_alloc _ _ _ RK.out]) rfl ⟨by rw [PV.out, S2.out], al (((on B0.out HB.out).setCell (by have := HSs.out; show w.heap.size ≤ s + 1; omega) _).setCell (by have := HSs.out; show w.heap.size ≤ s + 1; omega) _) _⟩
        · clear e1
          go_wp2_with fail
          exact bodyPost_ret (v := .agg #[.int .i64 opg, .int .i64 1]) (by simp [results, Tryz.results55, go_sem, res_alloc _ _ _ RK.out]) rfl ⟨by rw [PV.out, S2.out], al (((on B0.out HB.out).setCell (by have := HSs.out; show w.heap.size ≤ s + 1; omega) _).setCell (by have := HSs.out; show w.heap.size ≤ s + 1; omega) _) _⟩
      have S2 : Hid (firstM (g : Int) (k : Int) P.lanes = firstM (g : Int) (k : Int) (P.lanes.drop (i + 1))) := by show _ = _; rw [hI.out, ST.out, match_none _ _ _ e1 e2]
      have BA := al HB.out (.cells #[.int .i64 O.fr, .int .i64 O.dst, .int .i64 O.pg, .int .i64 O.af, .int .i64 O.tt] 77)
      have BH : Hid (Below W.heap.size W _) := BA
      clear ST BA
      by_cases e5 : O.fr = (g : Int)
      · have e6 : ¬ O.af = (k : Int) := fun e => e1 ⟨e5, e⟩
        clear e1
        by_cases e7 : O.dst = (g : Int)
        · have e8 : ¬ O.tt = (k : Int) := fun e => e2 ⟨e7, e⟩
          clear e2
          go_wp2_with fail
          go_roundw
          case rel => exact ⟨i + 1, by have := HLT.out; omega, by go_num, by first | exact BH.out | (simp only [e5, e7]; exact al HB.out _) | exact al HB.out _, S2⟩
          case measure => have := HLT.out; simp [intOf]; omega
        · clear e2
          go_wp2_with fail
          go_roundw
          case rel => exact ⟨i + 1, by have := HLT.out; omega, by go_num, by first | exact BH.out | exact al HB.out _, S2⟩
          case measure => have := HLT.out; simp [intOf]; omega
      · clear e1
        by_cases e7 : O.dst = (g : Int)
        · have e8 : ¬ O.tt = (k : Int) := fun e => e2 ⟨e7, e⟩
          clear e2
          go_wp2_with fail
          go_roundw
          case rel => exact ⟨i + 1, by have := HLT.out; omega, by go_num, by first | exact BH.out | exact al HB.out _, S2⟩
          case measure => have := HLT.out; simp [intOf]; omega
        · clear e2
          go_wp2_with fail
          go_roundw
          case rel => exact ⟨i + 1, by have := HLT.out; omega, by go_num, by first | exact BH.out | exact al HB.out _, S2⟩
          case measure => have := HLT.out; simp [intOf]; omega
    · have hJ : ¬ (i : Int) < (n1 : Int) := by omega
      have HJ : Hid (i = n1) := by show _ = _; omega
      have S2 : Hid (firstM (g : Int) (k : Int) P.lanes = (-1, 0)) := by show _ = _; rw [hI.out, List.drop_of_length_le (by have := HL1.out; have := HJ.out; omega)]; rfl
      clear hlt hB
      go_wp2_with fail
      exact bodyPost_ret (v := .agg #[.int .i64 (-1), .int .i64 0]) (by simp [results, Tryz.results55, go_sem, r0, r1]) rfl ⟨by have e := PV.out; rw [S2.out] at e; first | rw [e] | (simp only [List.getD_eq_getElem?_getD] at e; rw [e]), ((on B0.out HB.out).setCell (by have := HSs.out; show w.heap.size ≤ s + 1; omega) _).setCell (by have := HSs.out; show w.heap.size ≤ s + 1; omega) _⟩

set_option maxRecDepth 20000 in
set_option maxHeartbeats 4000000 in
theorem i_pages0 (a0 a1 a2 a3 : Option Addr) (n0 c0 n1 c1 n2 c2 n3 c3 : Nat) (P : Plc) (gu : Int) (w : World) (h : Pl w a0 n0 c0 a1 n1 c1 a2 n2 c2 a3 n3 c3 P) (hgu : 0 ≤ gu ∧ gu < P.own.length) :
    Calls Tryz.prog 28 #[.agg #[.slice a0 n0 c0, .slice a1 n1 c1, .slice a2 n2 c2, .slice a3 n3 c3], .int .i64 gu] w fun e w' => ∃ v, e = .returned v ∧ Prs 53 w' w.heap.size v (pforL (P.own.getD gu.toNat []) P.lanes gu 8) ∧ Below w.heap.size w w' := by
  obtain ⟨g, rfl⟩ := Int.eq_ofNat_of_zero_le hgu.1
  have HGN : Hid (g < P.own.length) := by have := hgu.2; show _ < _; omega
  rw [Int.toNat_natCast]
  generalize hW : (w.alloc (.cells #[.slice a0 n0 c0, .slice a1 n1 c1, .slice a2 n2 c2, .slice a3 n3 c3] 37)) = W
  have B0 : Hid (Below w.heap.size w W) := by show Below _ _ _; rw [← hW]; exact al (Below.refl _ _) _
  obtain ⟨s, hS⟩ : ∃ s, w.heap.size = s := ⟨_, rfl⟩
  have Q : Hid (W.cell? ⟨s, 0, none⟩ = some (.slice a0 n0 c0) ∧ W.cell? ⟨s, 1, none⟩ = some (.slice a1 n1 c1) ∧ W.cell? ⟨s, 2, none⟩ = some (.slice a2 n2 c2) ∧ W.cell? ⟨s, 3, none⟩ = some (.slice a3 n3 c3)) := by
    show _ ∧ _
    rw [← hW, ← hS]
    exact ⟨cell_new rfl, cell_new rfl, cell_new rfl, cell_new rfl⟩
  have HP : Hid (Pl W a0 n0 c0 a1 n1 c1 a2 n2 c2 a3 n3 c3 P) := h.stay B0.out
  clear h hgu
  have SU := fun j => pforL_succ (P.own.getD g []) P.lanes (g : Int) j
  have LN := fun j => pforL_len (P.own.getD g []) P.lanes (g : Int) j
  have PA := fun j (hj : j < 8) w1 (b1 : Below W.heap.size W w1) => i_pageAt _ _ _ _ _ _ _ _ _ _ _ _ P g j w1 (HP.out.stay b1) HGN.out hj
  generalize hD : pforL (P.own.getD g []) P.lanes (g : Int) = D at *
  generalize hE : pageV (P.own.getD g []) P.lanes (g : Int) = E at *
  have D0 : Hid (D 0 = []) := by show _ = _; rw [← hD]; rfl
  clear hD hE
  have SUH : Hid (∀ j, D (j + 1) = D j ++ [((E j).1, (E j).2)]) := SU
  have LNH : Hid (∀ j, (D j).length = j) := LN
  clear SU LN
  go_enter Tryz.func28, Tryz.ntmps28
  go_wp2_with fail
  clear hW hS
  go_loopw [5, 6, 7] (fun v _ c wr => ∃ j : Nat, j ≤ 8 ∧ c = .int .i64 j ∧ Prs 53 wr W.heap.size v (D j) ∧ Below W.heap.size W wr) (fun _ _ c _ => 8 - (intOf c).toNat)
  case atStart => exact ⟨0, Nat.zero_le _, rfl, by rw [D0.out]; exact Prs.nil _ _ _, Below.refl _ _⟩
  case round =>
    obtain ⟨j, hj, rfl, hN, hB⟩ := hrel
    have HN : Hid (Prs _ wr _ _ (D j)) := hN
    have HB : Hid (Below _ W wr) := hB
    obtain ⟨ya, yc, hz, _, _, _⟩ := hN.shape
    generalize (D j).length = un at hz
    subst hz
    by_cases hlt : j < 8
    · have hJ : (j : Int) < 8 := by omega
      have HLT : Hid (j < 8) := hlt
      have q0 := cell_keep hB Q.out.1
      have q1 := cell_keep hB Q.out.2.1
      have q2 := cell_keep hB Q.out.2.2.1
      have q3 := cell_keep hB Q.out.2.2.2
      have PJ := PA j hlt wr hB
      have S2 : Hid (D (j + 1) = D j ++ [((E j).1, (E j).2)]) := SUH.out j
      generalize (E j).1 = p1 at *
      generalize (E j).2 = p2 at *
      clear hN hB hlt PA
      go_wp2_with fail
      refine PJ.mono ?_
      rintro e w2 ⟨rfl, b2⟩
      have B2 : Hid (Below _ W w2) := on HB.out b2
      have N2 : Hid (Prs _ w2 _ _ (D j)) := HN.out.keep b2
      have SZ : Hid (W.heap.size ≤ w2.heap.size) := (on HB.out b2).size
      clear b2 PJ q0 q1 q2 q3
      go_wp2_with (at_builtin; refine wp_pair 50 53 Tryz.underlying50 info_page _ rfl _ _ rfl W.heap.size _ _ rfl (N2.out.keep (al (Below.refl _ _) _)) w2.heap.size p1 p2 rfl (cell_new rfl) (cell_new rfl) (by rw [LNH.out]; have := HLT.out; omega) (by have := SZ.out; simp; omega) ?_; intro v' w' hN' hG')
      have N' : Hid (Prs _ w' _ v' _) := hN'
      have B' : Hid (Below W.heap.size W w') := (al B2.out _).grown hG' (by have := SZ.out; simp; omega) (fun k hk => (N2.out.lt k hk).1)
      clear hN' hG'
      go_wp2_with fail
      go_roundw
      case rel => exact ⟨j + 1, by have := HLT.out; omega, by go_num, by rw [S2.out]; exact N'.out, B'.out⟩
      case measure => have := HLT.out; simp [intOf]; omega
    · have hJ : ¬ (j : Int) < 8 := by omega
      obtain rfl : j = 8 := by omega
      clear hN hB hlt PA
      go_wp2_with fail
      go_ret
      exact ⟨_, rfl, HN.out.mono B0.out.size, on B0.out HB.out⟩

end Go.Proofs.YtnhebeehpkecfaaGreatDoor
