/- Texts of this seat, joined. -/
import Derived.Test.YtilbandlachdbaaGreatDoorQ25
import Derived.Test.YtilbandlachdbaaGreatDoorQ35
import Derived.Test.YtilbandlachdbaaGreatDoorQ36
import Derived.Test.YtilbandlachdbaaGreatDoorQ38
namespace Go.Proofs.YtilbandlachdbaaGreatDoor
open Go.RowKit
set_option linter.unusedVariables false

theorem spec_faultBad (a : Option Addr) (n cap : Nat) (top : Int) (w : World) (hn : n ≠ 8) (hm : n ≤ 1048576) (h1 : 1 ≤ top) (h2 : top ≤ 24) :
    Calls Tryz.prog 91 #[.slice a n cap, .int .i64 top] w fun e w' => e = .returned (.int .i64 1) ∧ w' = w := by
  have g : ((n : Int) != 8) = true := by simp; omega
  have hi : (n : Int) ≤ 1048576 := by omega
  have k : (decide (1 ≤ top) && decide (top ≤ 24)) = true := by simp; omega
  go_enter Tryz.func91, Tryz.ntmps91
  go_wp2_with (go_at_call 78; refine (spec_in _ _ _ _).mono ?_; rintro e x ⟨rfl, rfl⟩; rw [k])
  go_ret
  exact ⟨rfl, rfl⟩

set_option maxHeartbeats 2000000 in
theorem spec_fault (v : Value) (rs : List (Int × Int)) (top : Int) (b : Nat) (w : World) (h : Prs 158 w b v rs) (hm : rs.length ≤ 1048576) :
    Calls Tryz.prog 91 #[v, .int .i64 top] w fun e w' => e = .returned (.int .i64 (pgsV rs top)) ∧ w' = w := by
  obtain ⟨a, cap, rfl, l1, l2, hg⟩ := h.shape
  by_cases h1 : (decide (1 ≤ top) && decide (top ≤ 24)) = true
  case neg =>
    rw [Bool.not_eq_true] at h1
    rw [pgsV, if_neg (by simp at h1; omega)]
    clear h
    go_enter Tryz.func91, Tryz.ntmps91
    go_wp2_with (go_at_call 78; refine (spec_in _ _ _ _).mono ?_; rintro e x ⟨rfl, rfl⟩; rw [h1])
    go_ret
    exact ⟨rfl, rfl⟩
  have h2 : 1 ≤ top ∧ top ≤ 24 := by simpa using h1
  obtain ⟨t1, t2⟩ := h2
  by_cases hl : rs.length = 8
  case neg =>
    rw [pgsV, if_pos (by omega), if_neg hl]
    exact spec_faultBad _ _ _ _ _ hl hm t1 t2
  rw [pgsV, if_pos (by omega), if_pos hl]
  rw [hl] at hg ⊢
  have HZ : Hid (Prs 158 w b (.slice a 8 cap) rs) := by show Prs 158 _ _ _ _; rw [← hl]; exact h
  have HN : Hid (rs.length = 8) := hl
  obtain ⟨g, rfl⟩ := hg (by omega)
  clear h hl l1 l2 hg hm
  go_enter Tryz.func91, Tryz.ntmps91
  go_wp2_with (go_at_call 78; refine (spec_in _ _ _ _).mono ?_; rintro e x ⟨rfl, rfl⟩; rw [h1])
  go_loop [5] (fun c => ∃ j : Nat, j ≤ 8 ∧ c = .int .i64 j ∧ okTo top rs j) (fun c => 8 - (intOf c).toNat)
  case atStart => exact ⟨0, Nat.zero_le _, rfl, fun i hi => by omega⟩
  case round =>
    obtain ⟨j, hj, rfl, hA⟩ := hrel
    by_cases hlt : j < 8
    · have c1 := (HZ.out.cell HN.out.symm j hlt).1
      have c2 := (HZ.out.cell HN.out.symm j hlt).2
      have hI : (j : Int) < 8 := by omega
      have HL : Hid (j < 8) := hlt
      have HS : Hid (pgC top (rs.getD j (0, 0)).1 (rs.getD j (0, 0)).2 = 0 → okTo top rs (j + 1)) := okTo_succ hA
      have HT : Hid (pgC top (rs.getD j (0, 0)).1 (rs.getD j (0, 0)).2 ≠ 0 → firstC top rs = pgC top (rs.getD j (0, 0)).1 (rs.getD j (0, 0)).2) := firstC_at (by have := HN.out; omega) hA
      generalize (rs.getD j (0, 0)).1 = p at *
      generalize (rs.getD j (0, 0)).2 = q at *
      clear hlt hA
      by_cases k1 : (decide (-1 ≤ p) && decide (p ≤ top - 1)) = true
      case neg =>
        rw [Bool.not_eq_true] at k1
        have e : pgC top p q = 3 := pgC_range (by simp at k1; omega)
        have HT2 : Hid (firstC top rs = 3) := by show _ = _; rw [HT.out (by omega), e]
        clear e HT HS
        go_wp2_with (go_at_call 78; refine (spec_in _ _ _ _).mono ?_; rintro e x ⟨rfl, rfl⟩; rw [k1])
        go_ret
        exact ⟨by rw [HT2.out]; rfl, rfl⟩
      by_cases k2 : (decide (0 ≤ q) && decide (q ≤ 7)) = true
      case neg =>
        rw [Bool.not_eq_true] at k2
        have e : pgC top p q = 3 := pgC_range (by simp at k2; omega)
        have HT2 : Hid (firstC top rs = 3) := by show _ = _; rw [HT.out (by omega), e]
        clear e HT HS
        go_wp2_with (go_at_call 78; refine (spec_in _ _ _ _).mono ?_; rintro e x ⟨rfl, rfl⟩; first | rw [k1] | rw [k2])
        go_ret
        exact ⟨by rw [HT2.out]; rfl, rfl⟩
      have b1 : -1 ≤ p ∧ p ≤ top - 1 := by simpa using k1
      have b2 : 0 ≤ q ∧ q ≤ 7 := by simpa using k2
      obtain ⟨p1, p2⟩ := b1
      obtain ⟨p3, p4⟩ := b2
      by_cases k3 : p < 0
      case neg =>
        have e : pgC top p q = 0 := pgC_ok (by omega) (by omega)
        have S := HS.out e
        have HS' : Hid (okTo top rs (j + 1)) := S
        clear e HT HS S
        go_wp2_with (go_at_call 78; refine (spec_in _ _ _ _).mono ?_; rintro e x ⟨rfl, rfl⟩; first | rw [k1] | rw [k2])
        go_round
        case rel => exact ⟨j + 1, by have := HL.out; omega, by go_num, HS'.out⟩
        case measure => have := HL.out; simp [intOf]; omega
      by_cases k4 : q = 0
      case neg =>
        have e : pgC top p q = 1 := pgC_form (by omega) (by omega)
        have HT2 : Hid (firstC top rs = 1) := by show _ = _; rw [HT.out (by omega), e]
        have k5 : (q != 0) = true := by simpa using k4
        clear e HT HS k4
        go_wp2_with (go_at_call 78; refine (spec_in _ _ _ _).mono ?_; rintro e x ⟨rfl, rfl⟩; first | rw [k1] | rw [k2])
        go_ret
        exact ⟨by rw [HT2.out]; rfl, rfl⟩
      · have e : pgC top p q = 0 := pgC_ok (by omega) (by omega)
        have HS' : Hid (okTo top rs (j + 1)) := HS.out e
        subst k4
        clear e HT HS
        go_wp2_with (go_at_call 78; refine (spec_in _ _ _ _).mono ?_; rintro e x ⟨rfl, rfl⟩; first | rw [k1] | rw [k2])
        go_round
        case rel => exact ⟨j + 1, by have := HL.out; omega, by go_num, HS'.out⟩
        case measure => have := HL.out; simp [intOf]; omega
    · have hI : ¬ (j : Int) < 8 := by omega
      obtain rfl : j = 8 := by omega
      have HE : Hid (firstC top rs = 0) := firstC_ok (by rw [HN.out]; exact hA)
      clear hA
      go_wp2_with fail
      go_ret
      exact ⟨by rw [HE.out]; rfl, rfl⟩
end Go.Proofs.YtilbandlachdbaaGreatDoor
namespace Go.Proofs.YtilbandlachdbaaGreatDoor
open Go.RowKit
set_option linter.unusedVariables false

theorem vwo_store (H : Ht) (xa : Option Addr) (xn xk : Nat) (ya : Option Addr) (yn yk : Nat) (w : World) : (storeCells ⟨w.heap.size, 0, none⟩ (mca H (.slice xa xn xk) (.slice ya yn yk)).toList 0).run Tryz.prog (w.alloc (.cells #[.int .i64 0, .int .i64 0, .int .i64 0, .int .i64 0, .int .i64 0, .int .i64 0, .int .i64 0, .int .i64 0, .int .i64 0, .int .i64 0, .int .i64 0, .int .i64 0, .int .i64 0, .int .i64 0, .int .i64 0, .int .i64 0, .int .i64 0, .int .i64 0, .int .i64 0, .int .i64 0, .int .i64 0, .int .i64 0, .int .i64 0, .int .i64 0, .int .i64 0, .int .i64 0, .int .i64 0, .int .i64 0, .bool false, .bool false, .bool false, .int .i64 0, .slice none 0 0, .slice none 0 0] 141)) = .ok () (w.alloc (.cells (mca H (.slice xa xn xk) (.slice ya yn yk)) 141)) :=
  run_storeCells_new (P := Tryz.prog) w 141 #[.int .i64 0, .int .i64 0, .int .i64 0, .int .i64 0, .int .i64 0, .int .i64 0, .int .i64 0, .int .i64 0, .int .i64 0, .int .i64 0, .int .i64 0, .int .i64 0, .int .i64 0, .int .i64 0, .int .i64 0, .int .i64 0, .int .i64 0, .int .i64 0, .int .i64 0, .int .i64 0, .int .i64 0, .int .i64 0, .int .i64 0, .int .i64 0, .int .i64 0, .int .i64 0, .int .i64 0, .int .i64 0, .bool false, .bool false, .bool false, .int .i64 0, .slice none 0 0, .slice none 0 0] (mca H (.slice xa xn xk) (.slice ya yn yk)) (by kernel_rfl) rfl (mca_one _ _ _ rfl rfl)
set_option maxRecDepth 20000 in
set_option maxHeartbeats 8000000 in
theorem i_viewOn (r c i o : Value) (H : Ht) (b : Nat) (gm n cap bm : Nat) (ms : List Int) (ao : Option Addr) (lo co : Nat) (ps : List Int) (ag : Option Addr) (lg cg : Nat) (gs : List Int) (w : World) (h : Hm w b r c i o H) (hk : Hok H) (hm : Nums w bm (.slice (some ⟨gm, 0, none⟩) n cap) ms) (mp : Nat) (h1 : 1 ≤ mp) (h24 : mp ≤ 24) (hms : ms.length = mp * 8) (hp : IsNs w ao lo co ps) (hpr : ∀ x ∈ ps, 0 ≤ x ∧ x < mp) (hpl : ps.length ≤ 5) (hg : IsNs w ag lg cg gs) (hgr : ∀ x ∈ gs, 0 ≤ x ∧ x < mp) (hgl : gs.length ≤ 5) :
    Calls Tryz.prog 35 #[.agg #[r, .int .i64 H.pc, c, .bool H.halted, .bool H.waiting, .bool H.rung, .int .i64 H.done, i, o], .slice (some ⟨gm, 0, none⟩) n cap, .slice ao lo co, .slice ag lg cg] w fun e w' => ∃ r' c' i' o' l m, e = .returned (.agg #[r', .int .i64 H.pc, c', .bool H.halted, .bool H.waiting, .bool H.rung, .int .i64 H.done, i', o', l, m]) ∧ Vm w' w.heap.size r' c' i' o' l m H (wordsL ms ps) (wordsL ms gs) ∧ Below w.heap.size w w' := by
  obtain ⟨a0, k0, e0, _⟩ := h.r.shape
  obtain ⟨a1, k1, e1, _⟩ := h.c.shape
  obtain ⟨a2, k2, e2, _⟩ := h.i.shape
  obtain ⟨a3, k3, e3, _⟩ := h.o.shape
  subst e0 e1 e2 e3
  obtain ⟨n0, hn0⟩ : ∃ n, H.regs.length = n := ⟨_, rfl⟩
  obtain ⟨n1, hn1⟩ : ∃ n, H.csr.length = n := ⟨_, rfl⟩
  obtain ⟨n2, hn2⟩ : ∃ n, H.inn.length = n := ⟨_, rfl⟩
  obtain ⟨n3, hn3⟩ : ∃ n, H.out.length = n := ⟨_, rfl⟩
  rw [hn0, hn1, hn2, hn3] at h ⊢
  have KO : Hid (Hok H) := hk
  have HS : Hid (Hm w b (.slice a0 n0 k0) (.slice a1 n1 k1) (.slice a2 n2 k2) (.slice a3 n3 k3) H) := h
  have N0 : Hid (H.inn.length = n2 ∧ H.out.length = n3) := ⟨hn2, hn3⟩
  have HM : Hid (Nums w bm (.slice (some ⟨gm, 0, none⟩) n cap) ms) := hm
  have HP : Hid (IsNs w ao lo co ps ∧ IsNs w ag lg cg gs) := ⟨hp, hg⟩
  have WO : Hid (∀ u, Below w.heap.size w u → Calls Tryz.prog 88 #[.slice (some ⟨gm, 0, none⟩) n cap, .slice ao lo co] u fun e w' => ∃ v, e = .returned v ∧ Nums w' u.heap.size v (wordsL ms ps) ∧ Below u.heap.size u w') := fun u hu => i_wordsN gm n cap bm ms ao lo co ps u (HM.out.keep hu) mp h1 h24 hms (HP.out.1.stay hu) hpr hpl
  have WG : Hid (∀ u, Below w.heap.size w u → Calls Tryz.prog 88 #[.slice (some ⟨gm, 0, none⟩) n cap, .slice ag lg cg] u fun e w' => ∃ v, e = .returned v ∧ Nums w' u.heap.size v (wordsL ms gs) ∧ Below u.heap.size u w') := fun u hu => i_wordsN gm n cap bm ms ag lg cg gs u (HM.out.keep hu) mp h1 h24 hms (HP.out.2.stay hu) hgr hgl
  clear h hk hm h1 h24 hms hp hpr hpl hg hgr hgl hn0 hn1 hn2 hn3
  generalize hW : (w.alloc (.cells #[.slice a0 n0 k0, .int .i64 H.pc, .slice a1 n1 k1, .bool H.halted, .bool H.waiting, .bool H.rung, .int .i64 H.done, .slice a2 n2 k2, .slice a3 n3 k3] 34)).alloc (.cells #[.slice none 0 0, .int .i64 0, .slice none 0 0, .bool false, .bool false, .bool false, .int .i64 0, .slice none 0 0, .slice none 0 0, .slice none 0 0, .slice none 0 0] 36) = W
  have B0 : Hid (Below w.heap.size w W) := by show Below _ _ _; rw [← hW]; exact al (al (Below.refl _ _) _) _
  obtain ⟨s, hS⟩ : ∃ s, w.heap.size = s := ⟨_, rfl⟩
  have HSs : Hid (w.heap.size = s) := hS
  have z1 : s + 1 = (w.alloc (.cells #[.slice a0 n0 k0, .int .i64 H.pc, .slice a1 n1 k1, .bool H.halted, .bool H.waiting, .bool H.rung, .int .i64 H.done, .slice a2 n2 k2, .slice a3 n3 k3] 34)).heap.size := by rw [← hS]; simp
  have Q : Hid (Vb W s #[.slice a0 n0 k0, .int .i64 H.pc, .slice a1 n1 k1, .bool H.halted, .bool H.waiting, .bool H.rung, .int .i64 H.done, .slice a2 n2 k2, .slice a3 n3 k3] 34) := by show Vb _ _ _ _; rw [← hW, ← hS]; exact (Vb.new _ _ _).push _
  have R : Hid (Vb W (s + 1) #[.slice none 0 0, .int .i64 0, .slice none 0 0, .bool false, .bool false, .bool false, .int .i64 0, .slice none 0 0, .slice none 0 0, .slice none 0 0, .slice none 0 0] 36) := by show Vb _ _ _ _; rw [← hW, z1]; exact Vb.new _ _ _
  clear z1
  have q0 := Q.out.cell 0 rfl
  have q1 := Q.out.cell 1 rfl
  have q2 := Q.out.cell 2 rfl
  have q3 := Q.out.cell 3 rfl
  have q4 := Q.out.cell 4 rfl
  have q5 := Q.out.cell 5 rfl
  have q6 := Q.out.cell 6 rfl
  have q7 := Q.out.cell 7 rfl
  have q8 := Q.out.cell 8 rfl
  go_enter Tryz.func35, Tryz.ntmps35
  go_wp2_with fail
  clear hW hS q0 q1 q2 q3 q4 q5 q6 q7 q8
  refine (i_machine _ _ _ _ H _ _ (HS.out.keep B0.out) KO.out.r16 KO.out.c11 (by have := KO.out.i40; omega) (by have := KO.out.o40; omega)).mono ?_
  rintro e w2 ⟨i2, o2, rfl, mi, mo, ap, b2⟩
  obtain ⟨xa, xk, rfl, _⟩ := mi.shape
  obtain ⟨ya, yk, rfl, _⟩ := mo.shape
  rw [N0.out.1] at mi ⊢
  rw [N0.out.2] at mo ⊢
  have hst := vwo_store H xa n2 xk ya n3 yk w2
  have hsz := mca_size H (.slice xa n2 xk) (.slice ya n3 yk)
  have MM : Hid (Nums w2 W.heap.size (.slice xa n2 xk) H.inn ∧ Nums w2 W.heap.size (.slice ya n3 yk) H.out) := ⟨mi, mo⟩
  have B2 : Hid (Below w.heap.size w w2) := on B0.out b2
  have R2 : Hid (Vb w2 (s + 1) #[.slice none 0 0, .int .i64 0, .slice none 0 0, .bool false, .bool false, .bool false, .int .i64 0, .slice none 0 0, .slice none 0 0, .slice none 0 0, .slice none 0 0] 36) := R.out.keep b2
  clear mi mo ap b2
  go_upto_region 2 with fail
  generalize hW3 : w2.alloc (.cells (mca H (.slice xa n2 xk) (.slice ya n3 yk)) 141) = W3
  have b3 : Below w2.heap.size w2 W3 := by rw [← hW3]; exact al (Below.refl _ _) _
  have V3 : Hid (Vb W3 w2.heap.size (mca H (.slice xa n2 xk) (.slice ya n3 yk)) 141) := by show Vb _ _ _ _; rw [← hW3]; exact Vb.new _ _ _
  have M3 : Hid (Nums W3 W.heap.size (.slice xa n2 xk) H.inn ∧ Nums W3 W.heap.size (.slice ya n3 yk) H.out) := ⟨MM.out.1.keep b3, MM.out.2.keep b3⟩
  have B3 : Hid (Below w.heap.size w W3) := on B2.out b3
  have R3 : Hid (Vb W3 (s + 1) #[.slice none 0 0, .int .i64 0, .slice none 0 0, .bool false, .bool false, .bool false, .int .i64 0, .slice none 0 0, .slice none 0 0, .slice none 0 0, .slice none 0 0] 36) := R2.out.keep b3
  clear hst hsz hW3 b3
  generalize w2.heap.size = tt at *
  go_wp2_with fail
  refine (i_hart tt _ _ H _ W3 V3.out M3.out.1 M3.out.2 KO.out.r16 KO.out.c11 (by have := KO.out.i40; omega) (by have := KO.out.o40; omega)).mono ?_
  rintro e w4 ⟨r4, c4, i4, o4, rfl, m4, ha4, b4⟩
  obtain ⟨xa0, xk0, x0e, _⟩ := m4.r.shape
  obtain ⟨xa1, xk1, x1e, _⟩ := m4.c.shape
  obtain ⟨xa2, xk2, x2e, _⟩ := m4.i.shape
  obtain ⟨xa3, xk3, x3e, _⟩ := m4.o.shape
  subst x0e x1e x2e x3e
  obtain ⟨x0, hx0⟩ : ∃ n, H.regs.length = n := ⟨_, rfl⟩
  obtain ⟨x1, hx1⟩ : ∃ n, H.csr.length = n := ⟨_, rfl⟩
  obtain ⟨x2, hx2⟩ : ∃ n, H.inn.length = n := ⟨_, rfl⟩
  obtain ⟨x3, hx3⟩ : ∃ n, H.out.length = n := ⟨_, rfl⟩
  rw [hx0, hx1, hx2, hx3] at m4 ha4 ⊢
  have M4 : Hid (Hm w4 W3.heap.size (.slice xa0 x0 xk0) (.slice xa1 x1 xk1) (.slice xa2 x2 xk2) (.slice xa3 x3 xk3) H) := m4
  have A4 : Hid (Ha (.slice xa0 x0 xk0) (.slice xa1 x1 xk1) (.slice xa2 x2 xk2) (.slice xa3 x3 xk3)) := ha4
  have B4 : Hid (Below w.heap.size w w4) := on B3.out b4
  have R4 : Hid (Vb w4 (s + 1) #[.slice none 0 0, .int .i64 0, .slice none 0 0, .bool false, .bool false, .bool false, .int .i64 0, .slice none 0 0, .slice none 0 0, .slice none 0 0, .slice none 0 0] 36) := R3.out.keep b4
  have L4 : Hid (s + 1 < W3.heap.size) := R3.out.lt
  clear m4 ha4 b4 hx0 hx1 hx2 hx3
  go_wp2_with fail
  refine (WO.out w4 B4.out).mono ?_
  rintro e w5 ⟨v5, rfl, n5, b5⟩
  obtain ⟨xa4, xk4, x4e, _⟩ := n5.shape
  obtain ⟨x4, hx4⟩ : ∃ n, (wordsL ms ps).length = n := ⟨_, rfl⟩
  rw [hx4] at x4e
  subst x4e
  have M5 : Hid (Hm w5 W3.heap.size (.slice xa0 x0 xk0) (.slice xa1 x1 xk1) (.slice xa2 x2 xk2) (.slice xa3 x3 xk3) H) := M4.out.keep b5
  have N5 : Hid (Nums w5 w4.heap.size (.slice xa4 x4 xk4) (wordsL ms ps)) := n5
  have AL : Hid (Apt (.slice xa0 x0 xk0) (.slice xa4 x4 xk4) ∧ Apt (.slice xa1 x1 xk1) (.slice xa4 x4 xk4) ∧ Apt (.slice xa2 x2 xk2) (.slice xa4 x4 xk4) ∧ Apt (.slice xa3 x3 xk3) (.slice xa4 x4 xk4)) := ⟨M4.out.r.apt n5 (Nat.le_refl _), M4.out.c.apt n5 (Nat.le_refl _), M4.out.i.apt n5 (Nat.le_refl _), M4.out.o.apt n5 (Nat.le_refl _)⟩
  have B5 : Hid (Below w.heap.size w w5) := on B4.out b5
  have R5 : Hid (Vb w5 (s + 1) #[.slice none 0 0, .int .i64 0, .slice none 0 0, .bool false, .bool false, .bool false, .int .i64 0, .slice none 0 0, .slice none 0 0, .slice none 0 0, .slice none 0 0] 36) := R4.out.keep b5
  clear n5 b5 hx4
  go_wp2_with fail
  refine (WG.out w5 B5.out).mono ?_
  rintro e w6 ⟨v6, rfl, n6, b6⟩
  obtain ⟨xa5, xk5, x5e, _⟩ := n6.shape
  obtain ⟨x5, hx5⟩ : ∃ n, (wordsL ms gs).length = n := ⟨_, rfl⟩
  rw [hx5] at x5e
  subst x5e
  have M6 : Hid (Hm w6 W3.heap.size (.slice xa0 x0 xk0) (.slice xa1 x1 xk1) (.slice xa2 x2 xk2) (.slice xa3 x3 xk3) H) := M5.out.keep b6
  have N6 : Hid (Nums w6 w4.heap.size (.slice xa4 x4 xk4) (wordsL ms ps) ∧ Nums w6 w5.heap.size (.slice xa5 x5 xk5) (wordsL ms gs)) := ⟨N5.out.keep b6, n6⟩
  have AM : Hid ((Apt (.slice xa0 x0 xk0) (.slice xa5 x5 xk5) ∧ Apt (.slice xa1 x1 xk1) (.slice xa5 x5 xk5) ∧ Apt (.slice xa2 x2 xk2) (.slice xa5 x5 xk5) ∧ Apt (.slice xa3 x3 xk3) (.slice xa5 x5 xk5)) ∧ Apt (.slice xa4 x4 xk4) (.slice xa5 x5 xk5)) := ⟨⟨M5.out.r.apt n6 (Nat.le_refl _), M5.out.c.apt n6 (Nat.le_refl _), M5.out.i.apt n6 (Nat.le_refl _), M5.out.o.apt n6 (Nat.le_refl _)⟩, N5.out.apt n6 (Nat.le_refl _)⟩
  have B6 : Hid (Below w.heap.size w w6) := on B5.out b6
  have R6 : Hid (Vb w6 (s + 1) #[.slice none 0 0, .int .i64 0, .slice none 0 0, .bool false, .bool false, .bool false, .int .i64 0, .slice none 0 0, .slice none 0 0, .slice none 0 0, .slice none 0 0] 36) := R5.out.keep b6
  have L6 : Hid (s + 1 < w4.heap.size ∧ s + 1 < w5.heap.size) := ⟨R4.out.lt, R5.out.lt⟩
  clear n6 b6 hx5
  have p0 := R6.out.cell 0 rfl
  have f0 := R6.out.free 0
  have p1 := R6.out.cell 1 rfl
  have f1 := R6.out.free 1
  have p2 := R6.out.cell 2 rfl
  have f2 := R6.out.free 2
  have p3 := R6.out.cell 3 rfl
  have f3 := R6.out.free 3
  have p4 := R6.out.cell 4 rfl
  have f4 := R6.out.free 4
  have p5 := R6.out.cell 5 rfl
  have f5 := R6.out.free 5
  have p6 := R6.out.cell 6 rfl
  have f6 := R6.out.free 6
  have p7 := R6.out.cell 7 rfl
  have f7 := R6.out.free 7
  have p8 := R6.out.cell 8 rfl
  have f8 := R6.out.free 8
  have p9 := R6.out.cell 9 rfl
  have f9 := R6.out.free 9
  have p10 := R6.out.cell 10 rfl
  have f10 := R6.out.free 10
  have NR : Hid (_ ∧ _) := elevenX R6.out (.slice xa0 x0 xk0) (.int .i64 H.pc) (.slice xa1 x1 xk1) (.bool H.halted) (.bool H.waiting) (.bool H.rung) (.int .i64 H.done) (.slice xa2 x2 xk2) (.slice xa3 x3 xk3) (.slice xa4 x4 xk4) (.slice xa5 x5 xk5)
  go_wp2_with fail
  clear p0 f0 p1 f1 p2 f2 p3 f3 p4 f4 p5 f5 p6 f6 p7 f7 p8 f8 p9 f9 p10 f10
  generalize (((((((((((w6.setCell ⟨s + 1, 0, none⟩ (.slice xa0 x0 xk0)).setCell ⟨s + 1, 1, none⟩ (.int .i64 H.pc)).setCell ⟨s + 1, 2, none⟩ (.slice xa1 x1 xk1)).setCell ⟨s + 1, 3, none⟩ (.bool H.halted)).setCell ⟨s + 1, 4, none⟩ (.bool H.waiting)).setCell ⟨s + 1, 5, none⟩ (.bool H.rung)).setCell ⟨s + 1, 6, none⟩ (.int .i64 H.done)).setCell ⟨s + 1, 7, none⟩ (.slice xa2 x2 xk2)).setCell ⟨s + 1, 8, none⟩ (.slice xa3 x3 xk3)).setCell ⟨s + 1, 9, none⟩ (.slice xa4 x4 xk4)).setCell ⟨s + 1, 10, none⟩ (.slice xa5 x5 xk5)) = V at *
  have O6 : Ho (s + 2) w6 V := NR.out.2.ho fun k e => by omega
  have B7 : Hid (Below w.heap.size w V) := Mq.under B6.out NR.out.2 fun k e => by have := HSs.out; omega
  have SS : Hid (Vm V w.heap.size (.slice xa0 x0 xk0) (.slice xa1 x1 xk1) (.slice xa2 x2 xk2) (.slice xa3 x3 xk3) (.slice xa4 x4 xk4) (.slice xa5 x5 xk5) H (wordsL ms ps) (wordsL ms gs)) := ⟨((M6.out.mono (by have := L4.out; omega)).ho O6).mono (by have := HSs.out; omega), A4.out, ((N6.out.1.mono (by have := L6.out; omega)).ho O6).mono (by have := HSs.out; omega), ((N6.out.2.mono (by have := L6.out; omega)).ho O6).mono (by have := HSs.out; omega), AL.out.1, AL.out.2.1, AL.out.2.2.1, AL.out.2.2.2, AM.out.2, AM.out.1.1, AM.out.1.2.1, AM.out.1.2.2.1, AM.out.1.2.2.2⟩
  have x0' := NR.out.1.cell 0 rfl
  have x1' := NR.out.1.cell 1 rfl
  have x2' := NR.out.1.cell 2 rfl
  have x3' := NR.out.1.cell 3 rfl
  have x4' := NR.out.1.cell 4 rfl
  have x5' := NR.out.1.cell 5 rfl
  have x6' := NR.out.1.cell 6 rfl
  have x7' := NR.out.1.cell 7 rfl
  have x8' := NR.out.1.cell 8 rfl
  have x9' := NR.out.1.cell 9 rfl
  have x10' := NR.out.1.cell 10 rfl
  exact bodyPost_ret (v := .agg #[.slice xa0 x0 xk0, .int .i64 H.pc, .slice xa1 x1 xk1, .bool H.halted, .bool H.waiting, .bool H.rung, .int .i64 H.done, .slice xa2 x2 xk2, .slice xa3 x3 xk3, .slice xa4 x4 xk4, .slice xa5 x5 xk5]) (by simp [results, Tryz.results35, go_sem, x0', x1', x2', x3', x4', x5', x6', x7', x8', x9', x10']) rfl ⟨_, _, _, _, _, _, rfl, SS.out, B7.out⟩
end Go.Proofs.YtilbandlachdbaaGreatDoor
