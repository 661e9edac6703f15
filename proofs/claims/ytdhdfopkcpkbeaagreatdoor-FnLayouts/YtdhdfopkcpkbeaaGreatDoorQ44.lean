/- Texts of this seat, joined. -/
import Derived.Deep.Cut
import Derived.Deep.CutRange
import Derived.Deep.RegionWith
import Derived.Deep.RegionLaw
import Derived.Test.YtdhdfopkcpkbeaaGreatDoorQ42
namespace Go.Proofs.YtdhdfopkcpkbeaaGreatDoor
open Go.RowKit
set_option linter.unusedVariables false

/-- What every drawn policy has. -/
structure Fit (P : Plc) : Prop where
  own : 1 ≤ P.own.length ∧ P.own.length ≤ 3
  rows : ∀ i, i < P.own.length → 1 ≤ (P.own.getD i []).length ∧ (P.own.getD i []).length ≤ 3
  lanes : P.lanes.length ≤ 10
  bells : P.bells.length ≤ 10
  plan : 1 ≤ P.plan.length ∧ P.plan.length ≤ 10

/-- A drawn row stands apart from another one made behind it. -/
theorem rows_push {oss : List (List Int)} {zs : List Int} (h : ∀ i, i < oss.length → 1 ≤ (oss.getD i []).length ∧ (oss.getD i []).length ≤ 3) (hz : 1 ≤ zs.length ∧ zs.length ≤ 3) : ∀ i, i < (oss ++ [zs]).length → 1 ≤ ((oss ++ [zs]).getD i []).length ∧ ((oss ++ [zs]).getD i []).length ≤ 3 := by
  intro i hi
  rw [List.length_append, List.length_singleton] at hi
  by_cases e : i < oss.length
  · rw [List.getD, List.getElem?_append_left e]
    exact h i e
  · obtain rfl : i = oss.length := by omega
    rw [List.getD, List.getElem?_append_right (Nat.le_refl _)]
    simpa using hz

set_option maxRecDepth 100000 in
set_option maxHeartbeats 4000000 in
theorem policy_any {w : World} {b k : Nat} {a : Option Addr} {len cap : Nat} {zs : List Int} (s : Src w b k a len cap zs) (hk : k ≤ 80000) :
    Calls Tryz.prog 39 #[.pointer (some ⟨b, 0, none⟩)] w fun e w' => ∃ (v0 v1 v2 v3 : Value) (P : Plc) (k' : Nat), e = .returned (.agg #[v0, v1, v2, v3]) ∧ Fit P ∧ Dv w' w.heap.size v0 v1 v2 v3 P ∧ k' ≤ k + 100 ∧ Turn b w w' ∧ Src w' b k' a len cap zs := by
  have hb := s.here
  have HS : Hid (Src w b k a len cap zs) := s
  have HK : Hid (k ≤ 80000) := hk
  clear s hk
  go_enter Tryz.func39, Tryz.ntmps39
  go_wp2_with fail
  refine (next_any ((HS.out.alloc _).alloc _) (by have := HK.out; omega) _).mono ?_
  rintro e w1 ⟨pg, rfl, hpg, -, t1, s1⟩
  obtain ⟨pg0, pg1⟩ := hpg (by omega)
  have P1 : Hid (Ps w w1 b (k + 1) a len cap zs (.slice none 0 0) (.slice none 0 0) (.slice none 0 0) (.slice none 0 0) ⟨[], [], [], []⟩) := by
    refine Ps.next ⟨(HS.out.alloc _).alloc _, (Turn.alloc _ w _).trans (Turn.alloc _ _ _), (Bk.new w _ _).keep (al (Below.refl _ _) _), ?_, Dv.nil _ _⟩ hb t1 s1
    have := Bk.new (w.alloc (.cells #[.slice none 0 0, .slice none 0 0, .slice none 0 0, .slice none 0 0] 29)) #[.slice none 0 0, .slice none 0 0, .slice none 0 0, .slice none 0 0] 29
    rw [World.size_alloc] at this
    exact this
  clear hpg t1 HS
  go_wp2_with fail
  have h1 := s1.here
  refine (pick_any (s1.alloc _) (by have := HK.out; omega) (fun v => 1 ≤ v ∧ v ≤ 3) _ 4 (by omega) (by omega) (by simp) (by omega) ?_).mono ?_
  · intro i hi
    have : i = 0 ∨ i = 1 ∨ i = 2 ∨ i = 3 := by omega
    rcases this with rfl | rfl | rfl | rfl
    all_goals exact ⟨_, cell_new rfl, by omega⟩
  rintro e w2 ⟨g0, rfl, ⟨hg0, hg1⟩, t2, s2⟩
  obtain ⟨n0, rfl⟩ := Int.eq_ofNat_of_zero_le (show 0 ≤ g0 by omega)
  have P2 : Hid (Ps w w2 b (k + 1 + 1) a len cap zs (.slice none 0 0) (.slice none 0 0) (.slice none 0 0) (.slice none 0 0) ⟨[], [], [], []⟩) := (P1.out.alloc hb _).next hb t2 s2
  have HN0 : Hid (1 ≤ n0 ∧ n0 ≤ 3) := by show _ ∧ _; omega
  have HPG : Hid (0 ≤ pg ∧ pg < 3) := ⟨pg0, pg1⟩
  clear t2 s2 s1 P1 h1 hg0 hg1 pg0 pg1
  go_wp2_with fail
  go_loopw [4, 5, 6, 7] (fun c4 c5 _ _ wr => ∃ (pg : Int) (g kk : Nat) (v0 : Value) (oss : List (List Int)), c4 = .int .i64 pg ∧ c5 = .int .i64 g ∧ 0 ≤ pg ∧ pg + 3 * g ≤ 12 ∧ Hid (oss.length + g = n0) ∧ Hid (∀ i, i < oss.length → 1 ≤ (oss.getD i []).length ∧ (oss.getD i []).length ≤ 3) ∧ Hid (kk + g ≤ k + 6) ∧ Hid (Ps w wr b kk a len cap zs v0 (.slice none 0 0) (.slice none 0 0) (.slice none 0 0) ⟨oss, [], [], []⟩)) (fun _ c _ _ _ => (intOf c).toNat)
  case atStart => exact ⟨pg, n0, k + 1 + 1, _, [], rfl, rfl, by have := HPG.out; omega, by have := HPG.out; have := HN0.out; omega, by show _ = _; simp, fun i hi => absurd hi (Nat.not_lt_zero _), by show _ ≤ _; have := HN0.out; omega, P2.out⟩
  case round =>
    obtain ⟨pg, g, kk, v0, oss, rfl, rfl, hp0, hp1, HOL, HOR, HKK, PB⟩ := hrel
    rename World => W
    by_cases hlt : 0 < g
    · have hI : (0 : Int) < (g : Int) := by omega
      have HLT : Hid (0 < g) := hlt
      have HPP : Hid (0 ≤ pg ∧ pg + 3 * g ≤ 12) := ⟨hp0, hp1⟩
      have hbr : b < W.heap.size := PB.out.src.here
      clear hlt
      go_wp2_with fail
      refine (next_any (PB.out.src.alloc _) (by have := HK.out; have := HKK.out; omega) _).mono ?_
      rintro e w3 ⟨m0, rfl, hm, -, t3, s3⟩
      obtain ⟨hm0, hm1⟩ := hm (by omega)
      obtain ⟨m, rfl⟩ := Int.eq_ofNat_of_zero_le hm0
      have T3 : Hid (Turn b W w3) := (Turn.alloc _ _ _).trans t3
      have S3 : Hid (Src w3 b (kk + 1) a len cap zs) := s3
      have N3 : Hid (Nums w3 W.heap.size (.slice (some ⟨W.heap.size, 0, none⟩) 0 0) []) := (nums_empty W W.heap.size (Nat.le_refl _)).turn t3 hbr
      have HM : Hid (m ≤ 2) := by show _ ≤ _; omega
      clear t3 s3 hm hm0
      go_wp2_with fail
      go_loopw [4, 6, 7] (fun c4 y c7 wi => ∃ (pg' : Int) (j : Nat) (ys : List Int), c4 = .int .i64 pg' ∧ c7 = .int .i64 j ∧ pg' + j = pg + m + 1 ∧ 0 ≤ pg' ∧ j ≤ 3 ∧ Hid (ys.length + j = m + 1) ∧ Hid (Nums wi W.heap.size y ys) ∧ Hid (Turn b W wi) ∧ Hid (Src wi b (kk + 1) a len cap zs)) (fun _ _ c _ => (intOf c).toNat)
      case atStart => exact ⟨pg, m + 1, [], rfl, by congr 1; omega, by omega, hp0, by omega, by show _ = _; simp, N3.out, T3.out, S3.out⟩
      case round =>
        obtain ⟨pg', j, ys, rfl, rfl, hs, hp', hj3, HYL, NB, TB, SB⟩ := hrel
        obtain ⟨ya, yc, rfl, _, _, _⟩ := NB.out.shape
        generalize hun : ys.length = un at *
        have HUN : Hid (ys.length = un) := hun
        clear hun
        by_cases hlt : 0 < j
        · have hI : (0 : Int) < (j : Int) := by omega
          have HLJ : Hid (0 < j) := hlt
          have HSS : Hid (pg' + j = pg + m + 1 ∧ 0 ≤ pg' ∧ j ≤ 3) := ⟨hs, hp', hj3⟩
          have hpw : pg' + 1 ≤ 100 := by omega
          clear hlt hs
          go_wp2_with (at_builtin; refine wp_appn _ rfl _ _ rfl W.heap.size _ _ rfl (NB.out.keep (al (Below.refl _ _) _)) wr.heap.size 1 1 [pg'] rfl rfl (one_at (cell_new rfl)) (by have := HYL.out; have := HUN.out; simp; omega) (by have := TB.out.size; simp; omega) ?_; intro v' w' hN' hG')
          have NN : Hid (Nums w' W.heap.size v' (ys ++ [pg'])) := hN'
          have TN : Hid (Turn b W w') := (TB.out.trans (Turn.alloc _ _ _)).rowed (NB.out.keep (al (Below.refl _ _) _)) (Nat.le_refl _) hG'
          have SN : Hid (Src w' b (kk + 1) a len cap zs) := (SB.out.alloc _).rowed (NB.out.keep (al (Below.refl _ _) _)) hbr hG'
          clear hN' hG'
          go_wp2_with fail
          go_roundw
          case rel => exact ⟨pg' + 1, j - 1, ys ++ [pg'], by first | rfl | go_num, by have := HLJ.out; first | (congr 1; omega) | go_num, by have := HSS.out; have := HLJ.out; omega, by omega, by have := HSS.out; omega, by show _ = _; have := HYL.out; have := HUN.out; have := HLJ.out; simp; omega, NN.out, TN.out, SN.out⟩
          case measure => have := HLJ.out; simp [intOf]; omega
        · have hI : ¬ (0 : Int) < (j : Int) := by omega
          obtain rfl : j = 0 := by omega
          have PI : Hid (Ps w wr b (kk + 1) a len cap zs v0 (.slice none 0 0) (.slice none 0 0) (.slice none 0 0) ⟨oss, [], [], []⟩) := PB.out.next hb TB.out SB.out
          obtain ⟨oa, oc, hv0, _⟩ := PI.out.dv.own.shape
          simp only at hv0
          subst hv0
          generalize hon : oss.length = on at *
          have HON : Hid (oss.length = on) := hon
          clear hon
          have q0 := PI.out.var.cell (i := 0) rfl
          have y0 := PI.out.var.free 0
          have HSZ : Hid (w.heap.size ≤ W.heap.size) := PB.out.turn.size
          have N9 : Hid (Nums wr w.heap.size (.slice ya un yc) ys) := NB.out.monoD HSZ.out
          clear hlt
          go_wp2_with (at_builtin; refine wp_slo _ rfl _ _ rfl w.heap.size _ oss rfl (PI.out.dv.own.keep (al (Below.refl _ _) _)) wr.heap.size _ _ _ ys rfl (cell_new rfl) (N9.out.keep (al (Below.refl _ _) _)) (by have := HOL.out; have := HN0.out; have := HON.out; omega) (by have := PI.out.turn.size; simp; omega) ?_; intro v' w' hN' hG'; obtain ⟨va, vc, hv', _, _, _⟩ := hN'.shape; generalize hvn : List.length _ = vn at hv'; clear hvn; subst hv'; obtain ⟨R9, D9⟩ := (PI.out.alloc hb _).owned hb hN' hG'; have RR : Hid (Rst w w' b (kk + 1) a len cap zs _ _ _ _) := R9; have DD : Hid (Dv w' w.heap.size _ _ _ _ _) := D9; have q1 := R9.2.2.2.cell (i := 0) rfl; have y1 := R9.2.2.2.free 0; clear hN' hG' R9 D9)
          have PN : Hid (Ps w (w'.setCell ⟨w.heap.size + 1, 0, none⟩ (.slice va vn vc)) b (kk + 1) a len cap zs _ _ _ _ _) := Ps.mk' hb RR.out DD.out (by rfl)
          go_roundw
          case rel => exact ⟨pg', g - 1, kk + 1, _, oss ++ [ys], rfl, by have := HLT.out; first | (congr 1; omega) | go_num, hp', by have := HPP.out; have := HM.out; have := HLT.out; omega, by show _ = _; have := HOL.out; have := HON.out; have := HLT.out; simp; omega, rows_push (by have h := HOR.out; rw [HON.out]; exact h) (by have := HYL.out; have := HUN.out; have := HM.out; omega), by show _ ≤ _; have := HKK.out; have := HLT.out; omega, PN.out⟩
          case measure => have := HLT.out; simp [intOf]; omega
    · have hI : ¬ (0 : Int) < (g : Int) := by omega
      obtain rfl : g = 0 := by omega
      obtain ⟨oa, oc, hv0, _⟩ := PB.out.dv.own.shape
      simp only at hv0
      subst hv0
      have q0 := PB.out.var.cell (i := 0) rfl
      have HON : Hid (oss.length = n0) := HOL.out
      rw [HON.out] at q0
      have HPP : Hid (0 ≤ pg ∧ pg ≤ 12) := by show _ ∧ _; omega
      have PB' : Hid (Ps w W b kk a len cap zs (.slice oa n0 oc) (.slice none 0 0) (.slice none 0 0) (.slice none 0 0) ⟨oss, [], [], []⟩) := by
        have h := PB.out
        rw [HON.out] at h
        exact h
      have HNB : Hid (n0 ≤ 3 ∧ 1 ≤ n0) := by show _ ∧ _; have := HN0.out; omega
      clear hlt PB
      go_wp2_with fail
      refine (next_any PB'.out.src (by have := HK.out; have := HKK.out; omega) _).mono ?_
      rintro e w3 ⟨j0, rfl, hj, -, t3, s3⟩
      obtain ⟨hj0, hj1⟩ := hj (by omega)
      obtain ⟨j0, rfl⟩ := Int.eq_ofNat_of_zero_le hj0
      have P3 : Hid (Ps w w3 b (kk + 1) a len cap zs (.slice oa n0 oc) (.slice none 0 0) (.slice none 0 0) (.slice none 0 0) ⟨oss, [], [], []⟩) := PB'.out.next hb t3 s3
      have HJ0 : Hid (j0 ≤ 3) := by show _ ≤ _; omega
      clear t3 s3 hj hj0 hj1 PB' q0
      go_wp2_with fail
      go_loopw [4, 9, 10] (fun c4 c9 _ wr => ∃ (pg : Int) (j kk : Nat) (v1 : Value) (ls : List Ln), c4 = .int .i64 pg ∧ c9 = .int .i64 j ∧ 0 ≤ pg ∧ pg + j ≤ 16 ∧ j ≤ 3 ∧ Hid (ls.length + j ≤ 3) ∧ Hid (kk + 5 * j ≤ k + 22) ∧ Hid (Ps w wr b kk a len cap zs (.slice oa n0 oc) v1 (.slice none 0 0) (.slice none 0 0) ⟨oss, ls, [], []⟩)) (fun _ c _ _ => (intOf c).toNat)
      case atStart => exact ⟨pg, j0, kk + 1, _, [], rfl, rfl, HPP.out.1, by have := HPP.out; have := HJ0.out; omega, HJ0.out, by show _ ≤ _; have := HJ0.out; simp; omega, by show _ ≤ _; have := HKK.out; have := HJ0.out; omega, P3.out⟩
      case round =>
        obtain ⟨pg, j, kk, v1, ls, rfl, rfl, hp0, hp1, hj3, HLL, HKK, PB⟩ := hrel
        rename World => W3
        obtain ⟨la, lc, hv1, _⟩ := PB.out.dv.lanes.shape
        simp only at hv1
        subst hv1
        generalize hln : ls.length = ln at *
        have HLN : Hid (ls.length = ln) := hln
        clear hln
        by_cases hlt : 0 < j
        · have hI : (0 : Int) < (j : Int) := by omega
          have HLT : Hid (0 < j) := hlt
          have q0 := PB.out.var.cell (i := 0) rfl
          have q1 := PB.out.var.cell (i := 1) rfl
          have q2 := PB.out.var.cell (i := 2) rfl
          have q3 := PB.out.var.cell (i := 3) rfl
          have hbr : b < W3.heap.size := PB.out.src.here
          have HW : Hid (w.heap.size ≤ W3.heap.size) := PB.out.turn.size
          have hqW : w.heap.size + 1 < W3.heap.size := PB.out.var.lt
          have q1' : ((W3.alloc (.cells #[.slice oa n0 oc, .slice la ln lc, .slice none 0 0, .slice none 0 0] 29)).alloc (.cells #[] 83)).cell? ⟨w.heap.size + 1, 1, none⟩ = some (.slice la ln lc) := ((PB.out.alloc hb _).alloc hb _).var.cell (i := 1) rfl
          clear hlt
          go_wp2_with (at_builtin; refine wp_lns _ rfl _ _ rfl (W3.heap.size + 1) (W3.heap.size + 1) rfl (by have := World.ownsRow_lit (W3.alloc (.cells #[.slice oa n0 oc, .slice la ln lc, .slice none 0 0, .slice none 0 0] 29)) (base := W3.heap.size + 1) (e := 83) (size := 5) #[] 0 (by simp) (by decide) rfl; rw [World.size_alloc] at this; exact this) _ w.heap.size ls rfl ((PB.out.dv.lanes.keep (al (Below.refl _ _) _)).keep (al (Below.refl _ _) _)) (by have := HLL.out; have := HLN.out; omega) (by simp) ?_; intro v' w' hN' hG')
          have X5 : Hid (Nx W3 w' b kk a len cap zs (.slice oa n0 oc) (.slice la ln lc) (.slice none 0 0) (.slice none 0 0) v' ls) :=
            ⟨((PB.out.src.alloc _).alloc _).gr hG' (fun x hx e => by cases e; omega), ((Turn.alloc _ W3 _).trans (Turn.alloc _ _ _)).gb hG' (by omega), ((Bk.new W3 _ _).keep (al (Below.refl _ _) _)).gr hG' (fun e => by have := Option.some.inj e; omega), hN'⟩
          obtain ⟨va, vc, hv', _⟩ := hN'.shape
          subst hv'
          clear hN' hG' q0 q1 q2 q3 q1'
          refine (next_any X5.out.src (by have := HK.out; have := HKK.out; omega) _).mono ?_
          rintro e x1 ⟨fr, rfl, -, -, t1, s1⟩
          have X6 := X5.out.next hbr t1 s1
          go_wp2_with fail
          refine (next_any X6.src (by have := HK.out; have := HKK.out; omega) _).mono ?_
          rintro e x2 ⟨dst, rfl, -, -, t2, s2⟩
          have X7 := X6.next hbr t2 s2
          go_wp2_with fail
          refine (next_any X7.src (by have := HK.out; have := HKK.out; omega) _).mono ?_
          rintro e x3 ⟨af, rfl, haf, -, t3, s3⟩
          have X8 := X7.next hbr t3 s3
          obtain ⟨af0, af1⟩ := haf (by omega)
          clear haf
          go_wp2_with fail
          refine (next_any X8.src (by have := HK.out; have := HKK.out; omega) _).mono ?_
          rintro e x4 ⟨tt, rfl, htt, -, t4, s4⟩
          obtain ⟨tt0, tt1⟩ := htt (by omega)
          have X9 : Hid (Nx W3 x4 b (kk + 1 + 1 + 1 + 1) a len cap zs (.slice oa n0 oc) (.slice la ln lc) (.slice none 0 0) (.slice none 0 0) (.slice va ls.length vc) ls) := X8.next hbr t4 s4
          clear htt t1 t2 t3 t4 s1 s2 s3 s4 X5 X6 X7 X8
          go_wp2_with (at_builtin; refine wp_lane 25 83 Tryz.underlying25 info_lane _ rfl _ _ rfl (W3.heap.size + 1) _ ls rfl (X9.out.alloc hbr _).lanes x4.heap.size ⟨fr, dst, pg, 5 + af, 5 + tt⟩ rfl (cell_new rfl) (cell_new rfl) (cell_new rfl) (cell_new rfl) (cell_new rfl) (by have := HLL.out; have := HLN.out; omega) (by have := X9.out.turn.size; have := X9.out.var.lt; simp; omega) ?_; intro v' w' hN' hG'; obtain ⟨ua, uc, hv', _, _, _⟩ := hN'.shape; generalize hvn : List.length _ = un at hv'; clear hvn; subst hv'; have XN : Hid (Nx W3 w' b _ a len cap zs _ _ _ _ (.slice ua un uc) _) := (X9.out.alloc hbr _).push hbr hN' hG'; have q1 := XN.out.var.cell (i := 1) rfl; have y1 := XN.out.var.free 1; clear hN' hG')
          obtain ⟨p8, b8, d8⟩ := Nx.lay PB.out XN.out hb
          simp only at d8
          refine (l6_owns W3.heap.size _ _ (d8.polAt b8)).mono ?_
          rintro e w6 ⟨rfl, k6⟩
          have P6 : Hid (Ps w w6 b (kk + 1 + 1 + 1 + 1) a len cap zs (.slice oa n0 oc) (.slice la ln lc) (.slice none 0 0) (.slice none 0 0) ⟨oss, ls, [], []⟩) := p8.below hb k6
          have B6 : Hid (Bk w6 W3.heap.size #[.slice oa n0 oc, .slice ua un uc, .slice none 0 0, .slice none 0 0] 29) := b8.keep k6
          have D6 : Hid (Dv w6 w.heap.size (.slice oa n0 oc) (.slice ua un uc) (.slice none 0 0) (.slice none 0 0) ⟨oss, ls ++ [⟨fr, dst, pg, 5 + af, 5 + tt⟩], [], []⟩) := d8.keep k6
          have HLN' : Hid ((ls ++ [(⟨fr, dst, pg, 5 + af, 5 + tt⟩ : Ln)]).length = ln + 1) := by show _ = _; rw [List.length_append, HLN.out]; rfl
          generalize hls : ls ++ [(⟨fr, dst, pg, 5 + af, 5 + tt⟩ : Ln)] = ls' at *
          clear hls p8 b8 d8 k6 XN X9 q1 y1 af0 af1 tt0 tt1
          generalize hov : ownsV _ = ov at *
          clear hov
          by_cases hz : ov = 0
          · subst hz
            go_wp2_with fail
            refine (l6_lanes W3.heap.size _ _ (D6.out.polAt B6.out)).mono ?_
            rintro e w7 ⟨rfl, k7⟩
            have P7 : Hid (Ps w w7 b (kk + 1 + 1 + 1 + 1) a len cap zs (.slice oa n0 oc) (.slice la ln lc) (.slice none 0 0) (.slice none 0 0) ⟨oss, ls, [], []⟩) := P6.out.below hb k7
            have B7 : Hid (Bk w7 W3.heap.size #[.slice oa n0 oc, .slice ua un uc, .slice none 0 0, .slice none 0 0] 29) := B6.out.keep k7
            have D7 : Hid (Dv w7 w.heap.size (.slice oa n0 oc) (.slice ua un uc) (.slice none 0 0) (.slice none 0 0) ⟨oss, ls', [], []⟩) := D6.out.keep k7
            clear k7 P6 B6 D6
            generalize hov : linksV _ = lv at *
            clear hov
            by_cases hz : lv = 0
            · subst hz
              have c0 := B7.out.cell (i := 0) rfl
              have c1 := B7.out.cell (i := 1) rfl
              have c2 := B7.out.cell (i := 2) rfl
              have c3 := B7.out.cell (i := 3) rfl
              have q0 := P7.out.var.cell (i := 0) rfl
              have q1 := P7.out.var.cell (i := 1) rfl
              have q2 := P7.out.var.cell (i := 2) rfl
              have q3 := P7.out.var.cell (i := 3) rfl
              have y0 := P7.out.var.free 0
              have y1 := P7.out.var.free 1
              have y2 := P7.out.var.free 2
              have y3 := P7.out.var.free 3
              go_wp2_with fail
              go_roundw
              case rel => exact ⟨pg + 1, j - 1, kk + 1 + 1 + 1 + 1, _, ls', by first | rfl | go_num, by have := HLT.out; first | (congr 1; omega) | go_num, by omega, by have := HLT.out; omega, by omega, by show _ ≤ _; have := HLL.out; have := HLN'.out; have := HLT.out; omega, by show _ ≤ _; have := HKK.out; have := HLT.out; omega, P7.out.all4 hb D7.out⟩
              case measure => have := HLT.out; simp [intOf]; omega
            · go_wp2_with fail
              go_roundw
              case rel => exact ⟨pg, j - 1, kk + 1 + 1 + 1 + 1, _, ls, rfl, by have := HLT.out; first | (congr 1; omega) | go_num, hp0, by have := HLT.out; omega, by omega, by show _ ≤ _; have := HLL.out; have := HLN.out; have := HLT.out; omega, by show _ ≤ _; have := HKK.out; have := HLT.out; omega, P7.out⟩
              case measure => have := HLT.out; simp [intOf]; omega
          · go_wp2_with fail
            go_roundw
            case rel => exact ⟨pg, j - 1, kk + 1 + 1 + 1 + 1, _, ls, rfl, by have := HLT.out; first | (congr 1; omega) | go_num, hp0, by have := HLT.out; omega, by omega, by show _ ≤ _; have := HLL.out; have := HLN.out; have := HLT.out; omega, by show _ ≤ _; have := HKK.out; have := HLT.out; omega, P6.out⟩
            case measure => have := HLT.out; simp [intOf]; omega
        · have hI : ¬ (0 : Int) < (j : Int) := by omega
          obtain rfl : j = 0 := by omega
          have HL3 : Hid (ls.length ≤ 3) := by show _ ≤ _; have := HLL.out; have := HLN.out; omega
          have hbr : b < W3.heap.size := PB.out.src.here
          clear hlt hp0 hp1 hj3
          go_wp2_with fail
          refine (next_any PB.out.src (by have := HK.out; have := HKK.out; omega) _).mono ?_
          rintro e w4 ⟨j0, rfl, hj, -, t4, s4⟩
          obtain ⟨hj0, hj1⟩ := hj (by omega)
          obtain ⟨j0, rfl⟩ := Int.eq_ofNat_of_zero_le hj0
          have P4 : Hid (Ps w w4 b (kk + 1) a len cap zs (.slice oa n0 oc) (.slice la ln lc) (.slice none 0 0) (.slice none 0 0) ⟨oss, ls, [], []⟩) := PB.out.next hb t4 s4
          have HJ0 : Hid (j0 ≤ 2) := by show _ ≤ _; omega
          clear t4 s4 hj hj0 hj1 PB
          go_wp2_with fail
          go_loopw [11, 12] (fun c11 _ wr => ∃ (j kk : Nat) (v2 : Value) (bs : List (Int × Int)), c11 = .int .i64 j ∧ j ≤ 2 ∧ Hid (bs.length ≤ 1) ∧ Hid (kk + 2 * j ≤ k + 27) ∧ Hid (Ps w wr b kk a len cap zs (.slice oa n0 oc) (.slice la ln lc) v2 (.slice none 0 0) ⟨oss, ls, bs, []⟩)) (fun c _ _ => (intOf c).toNat)
          case atStart => exact ⟨j0, kk + 1, _, [], rfl, HJ0.out, by show _ ≤ _; simp, by show _ ≤ _; have := HKK.out; have := HJ0.out; omega, P4.out⟩
          case round =>
            obtain ⟨j, kk, v2, bs, rfl, hj2, HBL, HKK, PB⟩ := hrel
            rename World => W4
            obtain ⟨ba, bc, hv2, _⟩ := PB.out.dv.bells.shape
            simp only at hv2
            subst hv2
            generalize hbn : bs.length = bn at *
            have HBN : Hid (bs.length = bn) := hbn
            clear hbn
            by_cases hlt : 0 < j
            · have hI : (0 : Int) < (j : Int) := by omega
              have HLT : Hid (0 < j) := hlt
              clear hlt
              go_wp2_with fail
              refine (next_any PB.out.src (by have := HK.out; have := HKK.out; omega) _).mono ?_
              rintro e x1 ⟨f, rfl, -, -, t1, s1⟩
              have P5 := PB.out.next hb t1 s1
              go_wp2_with fail
              refine (next_any P5.src (by have := HK.out; have := HKK.out; omega) _).mono ?_
              rintro e x2 ⟨g, rfl, -, -, t2, s2⟩
              have P6 : Hid (Ps w x2 b (kk + 1 + 1) a len cap zs (.slice oa n0 oc) (.slice la ln lc) (.slice ba bn bc) (.slice none 0 0) ⟨oss, ls, bs, []⟩) := P5.next hb t2 s2
              have P7 : Hid (Ps w (x2.alloc (.cells #[.int .i64 f, .int .i64 g] 85)) b (kk + 1 + 1) a len cap zs (.slice oa n0 oc) (.slice la ln lc) (.slice ba bn bc) (.slice none 0 0) ⟨oss, ls, bs, []⟩) := P6.out.alloc hb _
              have q2 := P7.out.var.cell (i := 2) rfl
              clear t1 t2 s1 s2 P5 PB
              have hqx : w.heap.size + 1 < x2.heap.size := P6.out.var.lt
              by_cases hfg : f = g
              · subst hfg
                go_wp2_with fail
                go_roundw
                case rel => exact ⟨j - 1, kk + 1 + 1, _, bs, by have := HLT.out; first | (congr 1; omega) | go_num, by omega, by show _ ≤ _; have := HBL.out; have := HBN.out; omega, by show _ ≤ _; have := HKK.out; have := HLT.out; omega, P7.out⟩
                case measure => have := HLT.out; simp [intOf]; omega
              · by_cases hb1 : bn < 1
                · have HB1 : Hid (bn < 1) := hb1
                  have hb1' : (bn : Int) < 1 := by omega
                  go_wp2_with (at_builtin; refine wp_pair 26 85 Tryz.underlying26 info_bell _ rfl _ _ rfl w.heap.size _ bs rfl (P7.out.alloc hb _).dv.bells (x2.heap.size + 1) f g rfl (cell_at2 (by simp) rfl) (cell_at2 (by simp) rfl) (by have := HBL.out; have := HBN.out; omega) (by simp; omega) ?_; intro v' w' hN' hG'; obtain ⟨va, vc, hv', _, _, _⟩ := hN'.shape; generalize hvn : List.length _ = vn at hv'; clear hvn; subst hv'; obtain ⟨R9, D9⟩ := (P7.out.alloc hb _).belled hb hN' hG'; have RR : Hid (Rst w w' b (kk + 1 + 1) a len cap zs _ _ _ _) := R9; have DD : Hid (Dv w' w.heap.size _ _ _ _ _) := D9; have q2' := R9.2.2.2.cell (i := 2) rfl; have y2' := R9.2.2.2.free 2; clear hN' hG' R9 D9)
                  have PN : Hid (Ps w (w'.setCell ⟨w.heap.size + 1, 2, none⟩ (.slice va vn vc)) b (kk + 1 + 1) a len cap zs _ _ _ _ _) := Ps.mk' hb RR.out DD.out (by rfl)
                  go_roundw
                  case rel => exact ⟨j - 1, kk + 1 + 1, _, bs ++ [(f, g)], by have := HLT.out; first | (congr 1; omega) | go_num, by omega, by show _ ≤ _; have := HB1.out; have := HBN.out; rw [List.length_append, List.length_singleton]; omega, by show _ ≤ _; have := HKK.out; have := HLT.out; omega, PN.out⟩
                  case measure => have := HLT.out; simp [intOf]; omega
                · have hb1' : ¬ (bn : Int) < 1 := by omega
                  go_wp2_with fail
                  go_roundw
                  case rel => exact ⟨j - 1, kk + 1 + 1, _, bs, by have := HLT.out; first | (congr 1; omega) | go_num, by omega, by show _ ≤ _; have := HBL.out; have := HBN.out; omega, by show _ ≤ _; have := HKK.out; have := HLT.out; omega, P7.out⟩
                  case measure => have := HLT.out; simp [intOf]; omega
            · have hI : ¬ (0 : Int) < (j : Int) := by omega
              obtain rfl : j = 0 := by omega
              have HB1 : Hid (bs.length ≤ 1) := by show _ ≤ _; have := HBL.out; have := HBN.out; omega
              clear hlt hj2
              go_wp2_with fail
              refine (next_any PB.out.src (by have := HK.out; have := HKK.out; omega) _).mono ?_
              rintro e w5 ⟨j0, rfl, hj, -, t5, s5⟩
              obtain ⟨hj0, hj1⟩ := hj (by omega)
              obtain ⟨j0, rfl⟩ := Int.eq_ofNat_of_zero_le hj0
              have P5 : Hid (Ps w w5 b (kk + 1) a len cap zs (.slice oa n0 oc) (.slice la ln lc) (.slice ba bn bc) (.slice none 0 0) ⟨oss, ls, bs, []⟩) := PB.out.next hb t5 s5
              have HJ0 : Hid (j0 ≤ 3) := by show _ ≤ _; omega
              clear t5 s5 hj hj0 PB
              go_wp2_with fail
              go_loopw [13] (fun c13 wr => ∃ (j kk : Nat) (v3 : Value) (ps : List (Int × Int)), c13 = .int .i64 j ∧ j ≤ 4 ∧ Hid (ps.length + j = j0 + 1) ∧ Hid (kk + 2 * j ≤ k + 36) ∧ Hid (Ps w wr b kk a len cap zs (.slice oa n0 oc) (.slice la ln lc) (.slice ba bn bc) v3 ⟨oss, ls, bs, ps⟩)) (fun c _ => (intOf c).toNat)
              case atStart => exact ⟨j0 + 1, kk + 1, _, [], by congr 1; omega, by have := HJ0.out; omega, by show _ = _; simp, by show _ ≤ _; have := HKK.out; have := HJ0.out; omega, P5.out⟩
              case round =>
                obtain ⟨j, kk, v3, ps, rfl, hj4, HPL, HKK, PB⟩ := hrel
                rename World => W5
                obtain ⟨sa, sc, hv3, _⟩ := PB.out.dv.plan.shape
                simp only at hv3
                subst hv3
                generalize hsn : ps.length = sn at *
                have HSN : Hid (ps.length = sn) := hsn
                clear hsn
                by_cases hlt : 0 < j
                · have hI : (0 : Int) < (j : Int) := by omega
                  have HLT : Hid (0 < j) := hlt
                  have q3 := PB.out.var.cell (i := 3) rfl
                  have PD : Hid (Ps w W5.drew b kk a len cap zs (.slice oa n0 oc) (.slice la ln lc) (.slice ba bn bc) (.slice sa sn sc) ⟨oss, ls, bs, ps⟩) := PB.out.below hb (Below.refl _ _).drew
                  clear hlt
                  have hqD : w.heap.size + 1 < W5.heap.size := PB.out.var.lt
                  go_wp2_with fail
                  go_region_law (first
                    | (refine step_pair2 27 87 Tryz.underlying27 info_slot rfl (.tmp 122) (.tmp 130) rfl w.heap.size (.slice sa sn sc) ps (by simp [Act.eval]) (PY.out.alloc hb _).dv.plan x2.heap.size gu (IntKind.i64.wrap (1 + st)) (by simp [Act.eval]) (cell_new rfl) (cell_new rfl) (by have := HPL.out; have := HSN.out; have := HJ0.out; omega) (by have := PY.out.turn.size; simp; omega) ?_; intro v' w' hN' hG'; obtain ⟨va, vc, hv', _, _, _⟩ := hN'.out.shape; generalize hvn : List.length _ = vn at hv'; clear hvn; subst hv'; obtain ⟨R9, D9⟩ := (PY.out.alloc hb _).planned hb hN'.out hG'; have RR : Hid (Rst w w' b (kk + 1 + 1) a len cap zs _ _ _ _) := R9; have DD : Hid (Dv w' w.heap.size _ _ _ _ _) := D9; have q3' := R9.2.2.2.cell (i := 3) rfl; have y3' := R9.2.2.2.free 3; clear hN' hG' R9 D9)
                    | (go_simp; go_wp2_with (first
                        | (go_at_call 18; refine (next_any PX.out.src (by have := HK.out; have := HKK.out; omega) _).mono ?_; rintro e x2 ⟨st, rfl, hst, -, t2, s2⟩; obtain ⟨st0, st1⟩ := hst (by omega); have PY : Hid (Ps w x2 b (kk + 1 + 1) a len cap zs (.slice oa n0 oc) (.slice la ln lc) (.slice ba bn bc) (.slice sa sn sc) ⟨oss, ls, bs, ps⟩) := PX.out.next hb t2 s2; have q3 := PY.out.var.cell (i := 3) rfl; have q3a : ∀ o, (x2.alloc o).cell? ⟨w.heap.size + 1, 3, none⟩ = some (.slice sa sn sc) := (fun o => (PY.out.alloc hb o).var.cell (i := 3) rfl); clear hst t2 s2)
                        | (go_at_call 18; refine (next_any PD.out.src (by have := HK.out; have := HKK.out; omega) _).mono ?_; rintro e x1 ⟨gu, rfl, -, -, t1, s1⟩; have PX : Hid (Ps w x1 b (kk + 1) a len cap zs (.slice oa n0 oc) (.slice la ln lc) (.slice ba bn bc) (.slice sa sn sc) ⟨oss, ls, bs, ps⟩) := PD.out.next hb t1 s1; have q3 := PX.out.var.cell (i := 3) rfl; clear t1 s1))))
                  all_goals have PN : Hid (Ps w (w'.setCell ⟨w.heap.size + 1, 3, none⟩ (.slice va vn vc)) b (kk + 1 + 1) a len cap zs _ _ _ _ _) := Ps.mk' hb RR.out DD.out (by rfl)
                  all_goals go_wp2_with fail
                  all_goals go_roundw
                  all_goals first
                    | (have := HLT.out; simp [intOf]; omega)
                    | exact ⟨j - 1, kk + 1 + 1, _, _, by have := HLT.out; first | (congr 1; omega) | go_num, by omega, by show _ = _; have := HPL.out; have := HSN.out; have := HLT.out; rw [List.length_append, List.length_singleton]; omega, by show _ ≤ _; have := HKK.out; have := HLT.out; omega, PN.out⟩
                · have hI : ¬ (0 : Int) < (j : Int) := by omega
                  obtain rfl : j = 0 := by omega
                  have q0 := PB.out.var.cell (i := 0) rfl
                  have q1 := PB.out.var.cell (i := 1) rfl
                  have q2 := PB.out.var.cell (i := 2) rfl
                  have q3 := PB.out.var.cell (i := 3) rfl
                  have r0 := PB.out.res.cell (i := 0) rfl
                  have r1 := PB.out.res.cell (i := 1) rfl
                  have r2 := PB.out.res.cell (i := 2) rfl
                  have r3 := PB.out.res.cell (i := 3) rfl
                  have y0 := PB.out.res.free 0
                  have y1 := PB.out.res.free 1
                  have y2 := PB.out.res.free 2
                  have y3 := PB.out.res.free 3
                  go_wp2_with fail
                  obtain ⟨d, t, s, bk⟩ := PB.out.done hb
                  have z0 := bk.cell (i := 0) rfl
                  have z1 := bk.cell (i := 1) rfl
                  have z2 := bk.cell (i := 2) rfl
                  have z3 := bk.cell (i := 3) rfl
                  exact bodyPost_ret (v := .agg #[.slice oa n0 oc, .slice la ln lc, .slice ba bn bc, .slice sa sn sc]) (by simp [results, Tryz.results39, go_sem, z0, z1, z2, z3]) rfl ⟨_, _, _, _, rfl, _, ⟨by have := HON.out; have := HNB.out; simp only; omega, HOR.out, by have := HL3.out; simp only; omega, by have := HB1.out; simp only; omega, by have := HPL.out; have := HSN.out; have := HJ0.out; simp only; omega⟩, d, kk, by have := HKK.out; omega, t, s⟩
end Go.Proofs.YtdhdfopkcpkbeaaGreatDoor
