/- Texts of this seat, joined. -/
import Derived.Deep.RegionHeld3
import Derived.Test.YtggejbphdadckaaGreatDoorQ16
import Derived.Test.YtggejbphdadckaaGreatDoorQ29
import Derived.Test.YtggejbphdadckaaGreatDoorQ42
namespace Go.Proofs.YtggejbphdadckaaGreatDoor
open Go.RowKit
set_option linter.unusedVariables false
theorem pageV_own (ow : List Int) (ls : List Ln) (g : Int) (k : Nat) (h : k < ow.length) : pageV ow ls g k = (ow.getD k 0, 7) := by rw [pageV, if_pos h]
theorem pageV_not (ow : List Int) (ls : List Ln) (g : Int) (k : Nat) (h : ¬ k < ow.length) : pageV ow ls g k = firstM g k ls := by rw [pageV, if_neg h]
theorem match_one (g k : Int) (l : Ln) (h1 : l.fr = g) (h2 : l.af = k) : matchL g k l = some (l.pg, 3) := by unfold matchL; rw [if_pos ⟨h1, h2⟩]
theorem match_other (g k : Int) (l : Ln) (h : ¬ (l.fr = g ∧ l.af = k)) (h1 : l.dst = g) (h2 : l.tt = k) : matchL g k l = some (l.pg, 1) := by unfold matchL; rw [if_neg h, if_pos ⟨h1, h2⟩]
theorem match_none (g k : Int) (l : Ln) (h : ¬ (l.fr = g ∧ l.af = k)) (h1 : ¬ (l.dst = g ∧ l.tt = k)) : matchL g k l = none := by unfold matchL; rw [if_neg h, if_neg h1]
theorem res_alloc {w : World} {s : Nat} (a b : Value) (o : Obj) (h : Rs w s) : (((w.setCell ⟨s + 1, 0, none⟩ a).setCell ⟨s + 1, 1, none⟩ b).alloc o).cell? ⟨s + 1, 0, none⟩ = some a ∧ (((w.setCell ⟨s + 1, 0, none⟩ a).setCell ⟨s + 1, 1, none⟩ b).alloc o).cell? ⟨s + 1, 1, none⟩ = some b := by
  have h0 : (w.setCell ⟨s + 1, 0, none⟩ a).cell? ⟨s + 1, 0, none⟩ = some a := World.cell?_setCell_same _ _ _ h.1
  have h1 : (w.setCell ⟨s + 1, 0, none⟩ a).cell? ⟨s + 1, 1, none⟩ = some (.int .i64 0) := by rw [World.cell?_setCell_other _ _ _ _ (by intro e; cases e)]; exact h.2.1
  refine ⟨cell_push o ?_, cell_push o (World.cell?_setCell_same _ _ _ h1)⟩
  rw [World.cell?_setCell_other _ _ _ _ (by intro e; cases e)]
  exact h0
set_option maxRecDepth 20000 in
set_option maxHeartbeats 4000000 in
theorem i_pageAt (a0 a1 a2 a3 : Option Addr) (n0 c0 n1 c1 n2 c2 n3 c3 : Nat) (P : Plc) (g k : Nat) (w : World) (h : Pl w a0 n0 c0 a1 n1 c1 a2 n2 c2 a3 n3 c3 P) (hg : g < P.own.length) (hk : k < 8) :
    Calls Tryz.prog 118 #[.agg #[.slice a0 n0 c0, .slice a1 n1 c1, .slice a2 n2 c2, .slice a3 n3 c3], .int .i64 (g : Int), .int .i64 (k : Int)] w fun e w' => e = .returned (.agg #[.int .i64 (pageV (P.own.getD g []) P.lanes (g : Int) k).1, .int .i64 (pageV (P.own.getD g []) P.lanes (g : Int) k).2]) ∧ Below w.heap.size w w' := by
  generalize hW : ((w.alloc (.cells #[.slice a0 n0 c0, .slice a1 n1 c1, .slice a2 n2 c2, .slice a3 n3 c3] 37))).alloc (.cells #[.int .i64 0, .int .i64 0] 174) = W
  have B0 : Hid (Below w.heap.size w W) := by show Below _ _ _; rw [← hW]; exact al (al (Below.refl _ _) _) _
  obtain ⟨s, hS⟩ : ∃ s, w.heap.size = s := ⟨_, rfl⟩
  have HSs : Hid (w.heap.size = s) := hS
  have Q : Hid (W.cell? ⟨s, 0, none⟩ = some (.slice a0 n0 c0) ∧ W.cell? ⟨s, 1, none⟩ = some (.slice a1 n1 c1)) := by
    show _ ∧ _
    rw [← hW, ← hS]
    exact ⟨cell_push _ (cell_new rfl), cell_push _ (cell_new rfl)⟩
  have R : Hid (Rs W s) := by
    have z1 : s + 1 = ((w.alloc (.cells #[.slice a0 n0 c0, .slice a1 n1 c1, .slice a2 n2 c2, .slice a3 n3 c3] 37))).heap.size := by rw [← hS]; simp
    show Rs W s
    unfold Rs
    rw [← hW, z1]
    exact ⟨cell_new rfl, cell_new rfl, fz_new _ _ _ _, fz_new _ _ _ _, by simp⟩
  have HP : Hid (Pl W a0 n0 c0 a1 n1 c1 a2 n2 c2 a3 n3 c3 P) := h.stay B0.out
  have hgn : g < n0 := by have := h.own.len; omega
  have hgI : (g : Int) < (n0 : Int) := by omega
  have hn0 : (n0 : Int) ≤ 9223372036854775807 := by have := h.own.cap; unfold maxLen at this; omega
  have hmax1 : (n1 : Int) ≤ 9223372036854775807 := by have := h.lanes.cap; unfold maxLen at this; omega
  have HL1 : Hid (n1 = P.lanes.length) := h.lanes.len
  obtain ⟨x, b, l, c, rfl, k1, k2⟩ := HP.out.own.at g hgn
  have K1 : Hid (W.cell? (x.add g) = some (.slice b l c)) := k1
  have HN : Hid (IsNs W b l c (P.own.getD g [])) := k2
  have HNL : Hid (l = (P.own.getD g []).length) := k2.len
  have hl1 : (l : Int) ≤ 9223372036854775807 := by have := k2.cap; unfold maxLen at this; omega
  have hkI : (k : Int) < 8 := by omega
  clear h hg k2
  have q0 := Q.out.1
  have q1 := Q.out.2
  by_cases hkl : k < l
  · rcases HN.out with ⟨_, h1, _, _⟩ | ⟨y, rfl, h1, h2, h3, h4⟩
    · omega
    have d0 := h4 k hkl
    have hkL : (k : Int) < (l : Int) := by omega
    have PV : Hid (pageV (P.own.getD g []) P.lanes (g : Int) k = ((P.own.getD g []).getD k 0, 7)) := pageV_own _ _ _ _ (by have := HNL.out; omega)
    obtain ⟨r0, r1, f0, f1, lt⟩ := R.out
    generalize (P.own.getD g []).getD k 0 = zz at *
    clear h1 h2 h3 h4 hkl
    go_enter Tryz.func118, Tryz.ntmps118
    go_wp2_with fail
    clear hW hS
    exact bodyPost_ret (v := .agg #[.int .i64 zz, .int .i64 7]) (by simp [results, Tryz.results118, go_sem, r0, r1]) rfl ⟨by rw [PV.out], (B0.out.setCell (by have := HSs.out; show w.heap.size ≤ s + 1; omega) _).setCell (by have := HSs.out; show w.heap.size ≤ s + 1; omega) _⟩
  have hkL : ¬ (k : Int) < (l : Int) := by omega
  have PV : Hid (pageV (P.own.getD g []) P.lanes (g : Int) k = firstM (g : Int) (k : Int) P.lanes) := pageV_not _ _ _ _ (by have := HNL.out; omega)
  clear hkl
  go_enter Tryz.func118, Tryz.ntmps118
  go_wp2_with fail
  clear hW hS q0 q1 k1
  go_loopw [9, 27] (fun _ c wr => ∃ i : Nat, i ≤ n1 ∧ c = .int .i64 i ∧ Below W.heap.size W wr ∧ Hid (firstM (g : Int) (k : Int) P.lanes = firstM (g : Int) (k : Int) (P.lanes.drop i))) (fun _ c _ => n1 - (intOf c).toNat)
  case atStart => exact ⟨0, Nat.zero_le _, rfl, Below.refl _ _, by show _ = _; simp⟩
  case round =>
    obtain ⟨i, hi, rfl, hB, hI⟩ := hrel
    have HB : Hid (Below _ W wr) := hB
    have RK : Hid (Rs wr s) := R.out.keep hB
    obtain ⟨r0, r1, f0, f1, lt⟩ := R.out.keep hB
    by_cases hlt : i < n1
    · obtain ⟨xl, rfl, k0, k1, k2, k3, k4⟩ := (HP.out.lanes.stay hB).at i hlt
      have hJ : (i : Int) < (n1 : Int) := by omega
      have HLT : Hid (i < n1) := hlt
      have ST : Hid (_ = _) := firstM_step (g : Int) (k : Int) P.lanes i (by have := HL1.out; omega)
      obtain ⟨O, hO⟩ : ∃ O, P.lanes.getD i lz = O := ⟨_, rfl⟩
      rw [hO] at k0 k1 k2 k3 k4 ST
      clear hO hlt hB
      by_cases e1 : O.fr = (g : Int) ∧ O.af = (k : Int)
      · have S2 : Hid (firstM (g : Int) (k : Int) P.lanes = (O.pg, 3)) := by show _ = _; rw [hI.out, ST.out, match_one _ _ _ e1.1 e1.2]
        obtain ⟨e1, e2⟩ := e1
        obtain ⟨ofr, odst, opg, oaf, ott⟩ := O
        simp only at k0 k1 k2 k3 k4 e1 e2 S2
        subst e1 e2
        clear ST
        go_wp2_with fail
        exact bodyPost_ret (v := .agg #[.int .i64 opg, .int .i64 3]) (by simp [results, Tryz.results118, go_sem, res_alloc _ _ _ RK.out]) rfl ⟨by rw [PV.out, S2.out], al (((on B0.out HB.out).setCell (by have := HSs.out; show w.heap.size ≤ s + 1; omega) _).setCell (by have := HSs.out; show w.heap.size ≤ s + 1; omega) _) _⟩
      by_cases e2 : O.dst = (g : Int) ∧ O.tt = (k : Int)
      · have S2 : Hid (firstM (g : Int) (k : Int) P.lanes = (O.pg, 1)) := by show _ = _; rw [hI.out, ST.out, match_other _ _ _ e1 e2.1 e2.2]
        obtain ⟨e3, e4⟩ := e2
        obtain ⟨ofr, odst, opg, oaf, ott⟩ := O
        simp only at k0 k1 k2 k3 k4 e1 e3 e4 S2
        subst e3 e4
        clear ST
        by_cases e5 : ofr = (g : Int)
        · have e6 : ¬ oaf = (k : Int) := fun e => e1 ⟨e5, e⟩
          clear e1
          go_wp2_with fail
          exact bodyPost_ret (v := .agg #[.int .i64 opg, .int .i64 1]) (by simp [results, Tryz.results118, go_sem, res_alloc _ _ _ RK.out]) rfl ⟨by rw [PV.out, S2.out], al (((on B0.out HB.out).setCell (by have := HSs.out; show w.heap.size ≤ s + 1; omega) _).setCell (by have := HSs.out; show w.heap.size ≤ s + 1; omega) _) _⟩
        · clear e1
          go_wp2_with fail
          exact bodyPost_ret (v := .agg #[.int .i64 opg, .int .i64 1]) (by simp [results, Tryz.results118, go_sem, res_alloc _ _ _ RK.out]) rfl ⟨by rw [PV.out, S2.out], al (((on B0.out HB.out).setCell (by have := HSs.out; show w.heap.size ≤ s + 1; omega) _).setCell (by have := HSs.out; show w.heap.size ≤ s + 1; omega) _) _⟩
      have S2 : Hid (firstM (g : Int) (k : Int) P.lanes = firstM (g : Int) (k : Int) (P.lanes.drop (i + 1))) := by show _ = _; rw [hI.out, ST.out, match_none _ _ _ e1 e2]
      have BA := al HB.out (.cells #[.int .i64 O.fr, .int .i64 O.dst, .int .i64 O.pg, .int .i64 O.af, .int .i64 O.tt] 125)
      have BH : Hid (Below W.heap.size W _) := BA
      clear ST BA
      by_cases e5 : O.fr = (g : Int)
      · have e6 : ¬ O.af = (k : Int) := fun e => e1 ⟨e5, e⟩
        clear e1
        by_cases e7 : O.dst = (g : Int)
        · have e8 : ¬ O.tt = (k : Int) := fun e => e2 ⟨e7, e⟩
          clear e2
          go_wp2_with fail
          go_roundw
          case rel => exact ⟨i + 1, by have := HLT.out; omega, by go_num, by first | exact BH.out | (simp only [e5, e7]; exact al HB.out _) | exact al HB.out _, S2⟩
          case measure => have := HLT.out; simp [intOf]; omega
        · clear e2
          go_wp2_with fail
          go_roundw
          case rel => exact ⟨i + 1, by have := HLT.out; omega, by go_num, by first | exact BH.out | exact al HB.out _, S2⟩
          case measure => have := HLT.out; simp [intOf]; omega
      · clear e1
        by_cases e7 : O.dst = (g : Int)
        · have e8 : ¬ O.tt = (k : Int) := fun e => e2 ⟨e7, e⟩
          clear e2
          go_wp2_with fail
          go_roundw
          case rel => exact ⟨i + 1, by have := HLT.out; omega, by go_num, by first | exact BH.out | exact al HB.out _, S2⟩
          case measure => have := HLT.out; simp [intOf]; omega
        · clear e2
          go_wp2_with fail
          go_roundw
          case rel => exact ⟨i + 1, by have := HLT.out; omega, by go_num, by first | exact BH.out | exact al HB.out _, S2⟩
          case measure => have := HLT.out; simp [intOf]; omega
    · have hJ : ¬ (i : Int) < (n1 : Int) := by omega
      have HJ : Hid (i = n1) := by show _ = _; omega
      have S2 : Hid (firstM (g : Int) (k : Int) P.lanes = (-1, 0)) := by show _ = _; rw [hI.out, List.drop_of_length_le (by have := HL1.out; have := HJ.out; omega)]; rfl
      clear hlt hB
      go_wp2_with fail
      exact bodyPost_ret (v := .agg #[.int .i64 (-1), .int .i64 0]) (by simp [results, Tryz.results118, go_sem, r0, r1]) rfl ⟨by have e := PV.out; rw [S2.out] at e; first | rw [e] | (simp only [List.getD_eq_getElem?_getD] at e; rw [e]), ((on B0.out HB.out).setCell (by have := HSs.out; show w.heap.size ≤ s + 1; omega) _).setCell (by have := HSs.out; show w.heap.size ≤ s + 1; omega) _⟩
set_option maxRecDepth 20000 in
set_option maxHeartbeats 4000000 in
theorem i_pages0 (a0 a1 a2 a3 : Option Addr) (n0 c0 n1 c1 n2 c2 n3 c3 : Nat) (P : Plc) (gu : Int) (w : World) (h : Pl w a0 n0 c0 a1 n1 c1 a2 n2 c2 a3 n3 c3 P) (hgu : 0 ≤ gu ∧ gu < P.own.length) :
    Calls Tryz.prog 95 #[.agg #[.slice a0 n0 c0, .slice a1 n1 c1, .slice a2 n2 c2, .slice a3 n3 c3], .int .i64 gu] w fun e w' => ∃ v, e = .returned v ∧ Prs 174 w' w.heap.size v (pforL (P.own.getD gu.toNat []) P.lanes gu 8) ∧ Below w.heap.size w w' := by
  obtain ⟨g, rfl⟩ := Int.eq_ofNat_of_zero_le hgu.1
  have HGN : Hid (g < P.own.length) := by have := hgu.2; show _ < _; omega
  rw [Int.toNat_natCast]
  generalize hW : (w.alloc (.cells #[.slice a0 n0 c0, .slice a1 n1 c1, .slice a2 n2 c2, .slice a3 n3 c3] 37)) = W
  have B0 : Hid (Below w.heap.size w W) := by show Below _ _ _; rw [← hW]; exact al (Below.refl _ _) _
  obtain ⟨s, hS⟩ : ∃ s, w.heap.size = s := ⟨_, rfl⟩
  have Q : Hid (W.cell? ⟨s, 0, none⟩ = some (.slice a0 n0 c0) ∧ W.cell? ⟨s, 1, none⟩ = some (.slice a1 n1 c1) ∧ W.cell? ⟨s, 2, none⟩ = some (.slice a2 n2 c2) ∧ W.cell? ⟨s, 3, none⟩ = some (.slice a3 n3 c3)) := by
    show _ ∧ _
    rw [← hW, ← hS]
    exact ⟨cell_new rfl, cell_new rfl, cell_new rfl, cell_new rfl⟩
  have HP : Hid (Pl W a0 n0 c0 a1 n1 c1 a2 n2 c2 a3 n3 c3 P) := h.stay B0.out
  clear h hgu
  have SU := fun j => pforL_succ (P.own.getD g []) P.lanes (g : Int) j
  have LN := fun j => pforL_len (P.own.getD g []) P.lanes (g : Int) j
  have PA := fun j (hj : j < 8) w1 (b1 : Below W.heap.size W w1) => i_pageAt _ _ _ _ _ _ _ _ _ _ _ _ P g j w1 (HP.out.stay b1) HGN.out hj
  generalize hD : pforL (P.own.getD g []) P.lanes (g : Int) = D at *
  generalize hE : pageV (P.own.getD g []) P.lanes (g : Int) = E at *
  have D0 : Hid (D 0 = []) := by show _ = _; rw [← hD]; rfl
  clear hD hE
  have SUH : Hid (∀ j, D (j + 1) = D j ++ [((E j).1, (E j).2)]) := SU
  have LNH : Hid (∀ j, (D j).length = j) := LN
  clear SU LN
  go_enter Tryz.func95, Tryz.ntmps95
  go_wp2_with fail
  clear hW hS
  go_loopw [5, 6, 7] (fun v _ c wr => ∃ j : Nat, j ≤ 8 ∧ c = .int .i64 j ∧ Prs 174 wr W.heap.size v (D j) ∧ Below W.heap.size W wr) (fun _ _ c _ => 8 - (intOf c).toNat)
  case atStart => exact ⟨0, Nat.zero_le _, rfl, by rw [D0.out]; exact Prs.nil _ _ _, Below.refl _ _⟩
  case round =>
    obtain ⟨j, hj, rfl, hN, hB⟩ := hrel
    have HN : Hid (Prs _ wr _ _ (D j)) := hN
    have HB : Hid (Below _ W wr) := hB
    obtain ⟨ya, yc, hz, _, _, _⟩ := hN.shape
    generalize (D j).length = un at hz
    subst hz
    by_cases hlt : j < 8
    · have hJ : (j : Int) < 8 := by omega
      have HLT : Hid (j < 8) := hlt
      have q0 := cell_keep hB Q.out.1
      have q1 := cell_keep hB Q.out.2.1
      have q2 := cell_keep hB Q.out.2.2.1
      have q3 := cell_keep hB Q.out.2.2.2
      have PJ := PA j hlt wr hB
      have S2 : Hid (D (j + 1) = D j ++ [((E j).1, (E j).2)]) := SUH.out j
      generalize (E j).1 = p1 at *
      generalize (E j).2 = p2 at *
      clear hN hB hlt PA
      go_wp2_with fail
      refine PJ.mono ?_
      rintro e w2 ⟨rfl, b2⟩
      have B2 : Hid (Below _ W w2) := on HB.out b2
      have N2 : Hid (Prs _ w2 _ _ (D j)) := HN.out.keep b2
      have SZ : Hid (W.heap.size ≤ w2.heap.size) := (on HB.out b2).size
      clear b2 PJ q0 q1 q2 q3
      go_wp2_with (at_builtin; refine wp_pair 149 174 Tryz.underlying149 info_page _ rfl _ _ rfl W.heap.size _ _ rfl (N2.out.keep (al (Below.refl _ _) _)) w2.heap.size p1 p2 rfl (cell_new rfl) (cell_new rfl) (by rw [LNH.out]; have := HLT.out; omega) (by have := SZ.out; simp; omega) ?_; intro v' w' hN' hG')
      have N' : Hid (Prs _ w' _ v' _) := hN'
      have B' : Hid (Below W.heap.size W w') := (al B2.out _).grown hG' (by have := SZ.out; simp; omega) (fun k hk => (N2.out.lt k hk).1)
      clear hN' hG'
      go_wp2_with fail
      go_roundw
      case rel => exact ⟨j + 1, by have := HLT.out; omega, by go_num, by rw [S2.out]; exact N'.out, B'.out⟩
      case measure => have := HLT.out; simp [intOf]; omega
    · have hJ : ¬ (j : Int) < 8 := by omega
      obtain rfl : j = 8 := by omega
      clear hN hB hlt PA
      go_wp2_with fail
      go_ret
      exact ⟨_, rfl, HN.out.mono B0.out.size, on B0.out HB.out⟩
theorem neq_turn (a b c d e : Int) (w : World) (h : ¬ (a = d ∧ b = e)) : (binOp .neq 98 (.agg #[.int .i64 a, .int .i64 b, .int .i64 c]) (.agg #[.int .i64 d, .int .i64 e, .int .i64 c])).run Tryz.prog w = .ok (.bool true) w := by
  go_simp
  by_cases h1 : a = d
  · by_cases h2 : b = e
    · exact absurd ⟨h1, h2⟩ h
    · simp [h1, h2]
  · simp [h1]
theorem i_turnOf (a0 a1 a2 a3 : Option Addr) (n0 c0 n1 c1 n2 c2 n3 c3 : Nat) (am : Option Addr) (lm cm : Nat) (ah : Option Addr) (lh ch : Nat) (X : Hst) (w : World) :
    Calls Tryz.prog 57 #[.agg #[.slice a0 n0 c0, .slice a1 n1 c1, .slice a2 n2 c2, .slice a3 n3 c3, .slice am lm cm, .slice ah lh ch, .int .i64 X.slot, .int .i64 X.left, .int .i64 X.clock]] w fun e w' => e = .returned (.agg #[.int .i64 X.slot, .int .i64 X.left, .int .i64 X.clock]) ∧ Below w.heap.size w w' := by
  go_enter Tryz.func57, Tryz.ntmps57
  go_wp2_with fail
  exact bodyPost_ret (v := .agg #[.int .i64 X.slot, .int .i64 X.left, .int .i64 X.clock]) (by simp [results, Tryz.results57, go_sem]) rfl ⟨rfl, al (al (Below.refl _ _) _) _⟩
set_option maxRecDepth 20000 in
set_option maxHeartbeats 8000000 in
theorem i_hostFault (a0 a1 a2 a3 : Option Addr) (n0 c0 n1 c1 n2 c2 n3 c3 : Nat) (m h : Value) (X : Hst) (b : Nat) (w : World) (d : Oj w b a0 n0 c0 a1 n1 c1 a2 n2 c2 a3 n3 c3 m h X) (hg : w.cell? ⟨0, 0, none⟩ = some (.iface 200 (.agg #[.pointer (some ⟨1, 136, none⟩)]))) :
    Calls Tryz.prog 25 #[.agg #[.slice a0 n0 c0, .slice a1 n1 c1, .slice a2 n2 c2, .slice a3 n3 c3, m, h, .int .i64 X.slot, .int .i64 X.left, .int .i64 X.clock]] w fun e w' => e = .returned (.int .i64 (hoV X)) ∧ Below w.heap.size w w' := by
  obtain ⟨am, cm, rfl, _⟩ := d.mem.shape
  obtain ⟨ah, ch, rfl, _, lh2, gh⟩ := d.harts.shape
  obtain ⟨V, hV⟩ : ∃ V, hoV X = V := ⟨_, rfl⟩
  rw [hV]
  have HV : Hid (hoV X = V) := hV
  clear hV
  obtain ⟨lm, hlm⟩ : ∃ n, X.mem.length = n := ⟨_, rfl⟩
  obtain ⟨lh, hlh⟩ : ∃ n, X.harts.length = n := ⟨_, rfl⟩
  rw [hlm, hlh] at d
  rw [hlh] at gh
  rw [hlm, hlh]
  have HLH : Hid (X.harts.length = lh) := hlh
  have GH : Hid (0 < lh → ∃ g, ah = some ⟨g, 0, none⟩) := gh
  have HL0 : Hid (n0 = X.pol.own.length) := d.pol.own.len
  have HM0 : (n0 : Int) ≤ 9223372036854775807 := by have := d.pol.own.cap; unfold maxLen at this; omega
  have HMH : (lh : Int) ≤ 9223372036854775807 := by obtain ⟨_, _, _, t1, t2, _⟩ := d.harts.shape; rw [hlh] at t1; unfold maxLen at t2; omega
  clear hlm hlh gh lh2
  generalize hW : w.alloc (.cells #[.slice a0 n0 c0, .slice a1 n1 c1, .slice a2 n2 c2, .slice a3 n3 c3, .slice am lm cm, .slice ah lh ch, .int .i64 X.slot, .int .i64 X.left, .int .i64 X.clock] 40) = W
  have B0 : Hid (Below w.heap.size w W) := by show Below _ _ _; rw [← hW]; exact al (Below.refl _ _) _
  obtain ⟨s, hS⟩ : ∃ s, w.heap.size = s := ⟨_, rfl⟩
  have Q : Hid (Vb W s #[.slice a0 n0 c0, .slice a1 n1 c1, .slice a2 n2 c2, .slice a3 n3 c3, .slice am lm cm, .slice ah lh ch, .int .i64 X.slot, .int .i64 X.left, .int .i64 X.clock] 40) := by show Vb _ _ _ _; rw [← hW, ← hS]; exact Vb.new _ _ _
  have D : Hid (Oj W b a0 n0 c0 a1 n1 c1 a2 n2 c2 a3 n3 c3 (.slice am lm cm) (.slice ah lh ch) X) := d.keep B0.out
  have HG : Hid (W.cell? ⟨0, 0, none⟩ = some (.iface 200 (.agg #[.pointer (some ⟨1, 136, none⟩)]))) := cell_keep B0.out hg
  clear d hg
  have q0 := Q.out.cell 0 rfl
  have q1 := Q.out.cell 1 rfl
  have q2 := Q.out.cell 2 rfl
  have q3 := Q.out.cell 3 rfl
  go_enter Tryz.func25, Tryz.ntmps25
  go_wp2_with fail
  clear hW hS q0 q1 q2 q3
  refine (impl_policy _ _ _ _ _ _ _ _ _ _ _ _ X.pol _ D.out.pol HG.out).mono ?_
  rintro e w1 ⟨rfl, b1⟩
  have B1 : Hid (Below W.heap.size W w1) := b1
  have Q1 : Hid (Vb w1 s #[.slice a0 n0 c0, .slice a1 n1 c1, .slice a2 n2 c2, .slice a3 n3 c3, .slice am lm cm, .slice ah lh ch, .int .i64 X.slot, .int .i64 X.left, .int .i64 X.clock] 40) := Q.out.keep b1
  clear b1
  by_cases hz : pfV X.pol = 0
  case neg =>
    have E : Hid (pfV X.pol = V) := by show _ = _; rw [← HV.out, hoV, if_neg hz]
    rw [E.out] at hz ⊢
    go_wp2_with fail
    go_ret
    exact ⟨rfl, on B0.out B1.out⟩
  have PZ : Hid (pfV X.pol = 0) := hz
  rw [hz]
  clear hz
  have q4 := Q1.out.cell 4 rfl
  have q5 := Q1.out.cell 5 rfl
  have q0 := Q1.out.cell 0 rfl
  cases hw : wholeB X.mem
  case false =>
    have E : Hid (1 = V) := by show _ = _; rw [← HV.out, hoV, if_pos PZ.out, if_neg (by rw [hw]; simp)]
    go_wp2_with (go_at_call 54; refine (i_whole _ X.mem b _ (D.out.mem.keep B1.out)).mono ?_; rintro e w1 ⟨rfl, rfl⟩; rw [hw])
    go_ret
    exact ⟨ret_i E.out, on B0.out B1.out⟩
  by_cases hn : lh = n0
  case neg =>
    have E : Hid (1 = V) := by show _ = _; rw [← HV.out, hoV, if_pos PZ.out, if_neg (by rw [HLH.out, ← HL0.out]; exact fun k => hn k.2)]
    have hi : ¬ (lh : Int) = (n0 : Int) := by omega
    go_wp2_with (go_at_call 54; refine (i_whole _ X.mem b _ (D.out.mem.keep B1.out)).mono ?_; rintro e w1 ⟨rfl, rfl⟩; rw [hw])
    go_ret
    exact ⟨ret_i E.out, on B0.out B1.out⟩
  have ME : Hid (wholeB X.mem = true ∧ X.harts.length = X.pol.own.length) := ⟨hw, by rw [HLH.out, ← HL0.out]; exact hn⟩
  have hi : (lh : Int) = (n0 : Int) := by omega
  have HN0 : Hid (lh = n0) := hn
  clear hn
  go_wp2_with (go_at_call 54; refine (i_whole _ X.mem b _ (D.out.mem.keep B1.out)).mono ?_; rintro e w1 ⟨rfl, rfl⟩; rw [hw])
  clear q0 q4 q5 hi HM0
  go_loopw [30] (fun c wr => ∃ j : Nat, j ≤ lh ∧ c = .int .i64 j ∧ hartsV (X.harts.drop j) = hartsV X.harts ∧ Below W.heap.size W wr) (fun c _ => lh - (intOf c).toNat)
  case atStart => exact ⟨0, Nat.zero_le _, rfl, rfl, B1.out⟩
  case round =>
    obtain ⟨j, hj, rfl, hT, hB⟩ := hrel
    have HT : Hid (hartsV (X.harts.drop j) = hartsV X.harts) := hT
    have HB : Hid (Below W.heap.size W wr) := hB
    clear hT hB
    by_cases hlt : j < lh
    · obtain ⟨x1, e1⟩ := GH.out (by omega)
      subst e1
      obtain ⟨r, c, i, o, z1, z2, _⟩ := (D.out.harts.keep HB.out).at j (by rw [HLH.out]; exact hlt)
      have ST := harts_step X.harts j (by rw [HLH.out]; exact hlt)
      obtain ⟨H, hH⟩ : ∃ H, X.harts.getD j voidH = H := ⟨_, rfl⟩
      rw [hH] at z1 z2 ST
      have HST : Hid (_ = _) := ST
      obtain ⟨xr, lr, rfl, _⟩ := z2.r.shape
      obtain ⟨xc, lc, rfl, _⟩ := z2.c.shape
      obtain ⟨xi, li, rfl, _⟩ := z2.i.shape
      obtain ⟨xo, lo, rfl, _⟩ := z2.o.shape
      have Z2 : Hid (Hm wr b _ _ _ _ H) := z2
      generalize H.regs.length = m0 at *
      generalize H.csr.length = m1 at *
      generalize H.inn.length = mi at *
      generalize H.out.length = mo at *
      have y0 := z1.c0
      have y1 := z1.c1
      have y2 := z1.c2
      have y3 := z1.c3
      have y4 := z1.c4
      have y5 := z1.c5
      have y6 := z1.c6
      have y7 := z1.c7
      have y8 := z1.c8
      have hI : (j : Int) < (lh : Int) := by omega
      have hI0 : (j : Int) < (n0 : Int) := by have := HN0.out; omega
      have HL : Hid (j < lh) := hlt
      have xl : x1 < wr.heap.size := block_of_cell z1.c0
      clear z1 z2 hH hlt ST
      go_wp2_with fail
      clear y0 y1 y2 y3 y4 y5 y6 y7 y8 xl
      refine (i_fault _ _ _ _ H b _ (Z2.out.keep (al (Below.refl _ _) _))).mono ?_
      rintro e w2 ⟨rfl, b2⟩
      have B2 : Hid (Below W.heap.size W w2) := on HB.out (on (al (Below.refl _ _) _) b2)
      clear b2
      by_cases hf : hfV H = 0
      · have HT2 : Hid (hartsV (X.harts.drop (j + 1)) = hartsV X.harts) := by
          have t := HST.out
          rw [if_pos hf, HT.out] at t
          exact t.symm
        rw [hf]
        clear hf
        go_wp2_with fail
        go_roundw
        case rel => exact ⟨j + 1, by have := HL.out; omega, by go_num, HT2.out, B2.out⟩
        case measure => have := HL.out; simp [intOf]; omega
      · have HT2 : Hid (hfV H = V) := by
          have t := HST.out
          rw [if_neg hf, HT.out] at t
          show _ = _
          rw [← HV.out, hoV, if_pos PZ.out, if_pos ME.out, if_neg (by rw [t]; exact hf), t]
        rw [HT2.out] at hf ⊢
        go_wp2_with fail
        go_ret
        exact ⟨rfl, on B0.out B2.out⟩
    · have hJ : ¬ (j : Int) < (lh : Int) := by omega
      have hJ0 : ¬ (j : Int) < (n0 : Int) := by have := HN0.out; omega
      have HZ : Hid (hartsV X.harts = 0) := by
        show _ = _
        rw [← HT.out, List.drop_of_length_le (by rw [HLH.out]; omega)]
        rfl
      have Q2 : Hid (Vb wr s #[.slice a0 n0 c0, .slice a1 n1 c1, .slice a2 n2 c2, .slice a3 n3 c3, .slice am lm cm, .slice ah lh ch, .int .i64 X.slot, .int .i64 X.left, .int .i64 X.clock] 40) := Q.out.keep HB.out
      have q8 := Q2.out.cell 8 rfl
      clear hlt
      cases hk : ckOk X.clock
      case false =>
        have E : Hid (3 = V) := by show _ = _; rw [← HV.out, hoV, if_pos PZ.out, if_pos ME.out, if_pos HZ.out, if_neg (by rw [hk]; simp)]
        go_wp2_with (go_at_call 56; refine (i_clock _ _).mono ?_; rintro e w2 ⟨rfl, hw2⟩; rw [hw2]; clear hw2 w2; rw [hk])
        go_ret
        exact ⟨ret_i E.out, on B0.out HB.out⟩
      have CK : Hid (0 ≤ X.clock ∧ X.clock ≤ 1000000) := by show _ ∧ _; unfold ckOk at hk; simpa using hk
      have E : Hid ((if (tS X.pol X.clock).1 = X.slot ∧ (tS X.pol X.clock).2 = X.left then (0 : Int) else 1) = V) := by show _ = _; rw [← HV.out, hoV, if_pos PZ.out, if_pos ME.out, if_pos HZ.out, if_pos hk]
      go_wp2_with (go_at_call 56; refine (i_clock _ _).mono ?_; rintro e w2 ⟨rfl, hw2⟩; rw [hw2]; clear hw2 w2; rw [hk])
      clear q8 hk
      refine wp_region_held (S := fun w' => Below wr.heap.size wr w') (by kernel_rfl) ?_
      change wpAnyH _ _ _ _ _ _ _ _ (World.drew _)
      have SD : Hid (Below wr.heap.size wr wr.drew) := (Below.refl _ _).drew
      generalize wr.drew = x0 at *
      refine wpTk (i := 0) (v := .agg #[.slice a0 n0 c0, .slice a1 n1 c1, .slice a2 n2 c2, .slice a3 n3 c3, .slice am lm cm, .slice ah lh ch, .int .i64 X.slot, .int .i64 X.left, .int .i64 X.clock]) rfl (Or.inl ⟨by rfl, fun w' hs => by have hq := Q2.out.keep hs; have y0 := hq.cell 0 rfl; have y1 := hq.cell 1 rfl; have y2 := hq.cell 2 rfl; have y3 := hq.cell 3 rfl; have y4 := hq.cell 4 rfl; have y5 := hq.cell 5 rfl; have y6 := hq.cell 6 rfl; have y7 := hq.cell 7 rfl; have y8 := hq.cell 8 rfl; go_simp⟩) SD.out ?_
      change wpAnyH _ _ _ _ _ _ _ (Act.put _ (some 44) _) _
      simp only [Act.put, zT, zZ, zS]
      refine wpTk (i := 2) (v := .pointer (some ⟨s, 0, none⟩)) rfl (Or.inl ⟨by rfl, fun w' hs => by go_simp⟩) SD.out ?_
      change wpAnyH _ _ _ _ _ _ _ (Act.put _ (some 46) _) _
      simp only [Act.put, zT, zZ, zS]
      refine wpTk (i := 3) (v := .agg #[.slice a0 n0 c0, .slice a1 n1 c1, .slice a2 n2 c2, .slice a3 n3 c3]) rfl (Or.inl ⟨by rfl, fun w' hs => by have hq := Q2.out.keep hs; have y0 := hq.cell 0 rfl; have y1 := hq.cell 1 rfl; have y2 := hq.cell 2 rfl; have y3 := hq.cell 3 rfl; go_simp⟩) SD.out ?_
      change wpAnyH _ _ _ _ _ _ _ (Act.put _ (some 47) _) _
      simp only [Act.put, zT, zZ, zS]
      refine wpTk (i := 4) (v := .pointer (some ⟨s, 8, none⟩)) rfl (Or.inl ⟨by rfl, fun w' hs => by go_simp⟩) SD.out ?_
      change wpAnyH _ _ _ _ _ _ _ (Act.put _ (some 48) _) _
      simp only [Act.put, zT, zZ, zS]
      refine wpTk (i := 5) (v := .int .i64 X.clock) rfl (Or.inl ⟨by rfl, fun w' hs => by have hq := Q2.out.keep hs; have y8 := hq.cell 8 rfl; go_simp⟩) SD.out ?_
      change wpAnyH _ _ _ _ _ _ _ (Act.put _ (some 49) _) _
      simp only [Act.put, zT, zZ, zS]
      refine zR 1 rfl fun K hK => ?_
      · skip
        rw [if_pos (by rfl)]
        go_simp
        refine (i_turnOf _ _ _ _ _ _ _ _ _ _ _ _ _ _ _ _ _ _ X _).mono ?_
        rintro e w3 ⟨rfl, b3⟩
        have S3 : Hid (Below wr.heap.size wr w3) := on SD.out b3
        clear b3
        refine hK.out _ _ S3.out (fun _ => ?_)
        clear hK K
        refine zR 6 rfl fun K hK => ?_
        rw [if_pos (by rfl)]
        go_simp
        refine (i_turnAt _ _ _ _ _ _ _ _ _ _ _ _ X.pol X.clock _ ((D.out.pol.stay HB.out).stay S3.out) (cell_keep S3.out (cell_keep HB.out HG.out)) PZ.out CK.out.1 CK.out.2).mono ?_
        rintro e w4 ⟨rfl, b4⟩
        have S4 : Hid (Below wr.heap.size wr w4) := on S3.out b4
        clear b4
        refine hK.out _ _ S4.out (fun _ => ?_)
        clear hK K
        obtain ⟨t1, ht1⟩ : ∃ t, (tS X.pol X.clock).1 = t := ⟨_, rfl⟩
        obtain ⟨t2, ht2⟩ : ∃ t, (tS X.pol X.clock).2 = t := ⟨_, rfl⟩
        rw [ht1, ht2] at E ⊢
        clear ht1 ht2
        by_cases ht : t1 = X.slot ∧ t2 = X.left
        · have E0 : Hid (0 = V) := by
            have t := E.out
            rw [if_pos ht] at t
            exact t
          obtain ⟨h1, h2⟩ := ht
          rw [h1, h2]
          refine wpTk (i := 7) (v := .bool false) rfl (Or.inl ⟨by rfl, fun w' hs => by go_simp⟩) S4.out ?_
          change wpAnyH _ _ _ _ _ _ _ (Act.put _ (some 51) _) _
          simp only [Act.put, zT, zZ, zS]
          refine wpAnyH_done (by kernel_rfl) ?_ _
          go_wp2_with fail
          go_ret
          exact ⟨ret_i E0.out, on B0.out (on HB.out S4.out)⟩
        · have E0 : Hid (1 = V) := by
            have t := E.out
            rw [if_neg ht] at t
            exact t
          have hne := fun w => neq_turn X.slot X.left X.clock t1 t2 w (fun k => ht ⟨k.1.symm, k.2.symm⟩)
          refine wpTk (i := 7) (v := .bool true) rfl (Or.inl ⟨by rfl, fun w' hs => by simp [go_sem, hne]⟩) S4.out ?_
          change wpAnyH _ _ _ _ _ _ _ (Act.put _ (some 51) _) _
          simp only [Act.put, zT, zZ, zS]
          refine wpAnyH_done (by kernel_rfl) ?_ _
          go_wp2_with fail
          go_ret
          exact ⟨ret_i E0.out, on B0.out (on HB.out S4.out)⟩
end Go.Proofs.YtggejbphdadckaaGreatDoor
