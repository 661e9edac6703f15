/- Texts of this seat, joined. -/
import Derived.Test.YthnaggeilbcioaaGreatDoorQ49
namespace Go.Proofs.YthnaggeilbcioaaGreatDoor
open Go.RowKit
set_option linter.unusedVariables false

set_option maxRecDepth 20000 in
set_option maxHeartbeats 8000000 in
theorem sfr_fault (a0 a1 a2 a3 : Option Addr) (n0 c0 n1 c1 n2 c2 n3 c3 : Nat) (m h : Value) (X : Hst) (gu : Int) (b : Nat) (w : World) (d : Oj w b a0 n0 c0 a1 n1 c1 a2 n2 c2 a3 n3 c3 m h X) (hv : hoV X ≠ 0) :
    Calls Tryz.prog 5 #[.agg #[.slice a0 n0 c0, .slice a1 n1 c1, .slice a2 n2 c2, .slice a3 n3 c3, m, h, .int .i64 X.slot, .int .i64 X.left, .int .i64 X.clock], .int .i64 gu] w fun e w' => ∃ r' c' i' o' l' m', e = .returned (.agg #[.int .i64 (frC X gu), r', .int .i64 (frH X gu).pc, c', .bool (frH X gu).halted, .bool (frH X gu).waiting, .bool (frH X gu).rung, .int .i64 (frH X gu).done, i', o', l', m']) ∧ Sm w' w.heap.size r' c' i' o' l' m' (frH X gu) (frP X gu) (frZ X gu) ∧ Below w.heap.size w w' := by
  have hx : frC X gu = hoV X := by rw [frC, if_neg hv]
  have hu := fr_not X gu (by rw [hx]; exact hv)
  rw [hu.1, hu.2.1, hu.2.2, hx]
  obtain ⟨cx, hcx⟩ : ∃ cx, hoV X = cx := ⟨_, rfl⟩
  rw [hcx] at hv ⊢
  have HV : Hid (hoV X = cx) := hcx
  clear hu hx hcx
  obtain ⟨am, cm, rfl, _⟩ := d.mem.shape
  obtain ⟨ah, ch, rfl, _, _, gh⟩ := d.harts.shape
  obtain ⟨lm, hlm⟩ : ∃ n, X.mem.length = n := ⟨_, rfl⟩
  obtain ⟨lh, hlh⟩ : ∃ n, X.harts.length = n := ⟨_, rfl⟩
  rw [hlm, hlh] at d ⊢
  rw [hlh] at gh
  clear hlm hlh gh
  generalize hW : (w.alloc (.cells #[.slice a0 n0 c0, .slice a1 n1 c1, .slice a2 n2 c2, .slice a3 n3 c3, .slice am lm cm, .slice ah lh ch, .int .i64 X.slot, .int .i64 X.left, .int .i64 X.clock] 48)).alloc (.cells #[.int .i64 0, .slice none 0 0, .int .i64 0, .slice none 0 0, .bool false, .bool false, .bool false, .int .i64 0, .slice none 0 0, .slice none 0 0, .slice none 0 0, .slice none 0 0] 39) = W
  have B0 : Hid (Below w.heap.size w W) := by show Below _ _ _; rw [← hW]; exact al (al (Below.refl _ _) _) _
  obtain ⟨s, hS⟩ : ∃ s, w.heap.size = s := ⟨_, rfl⟩
  have HSs : Hid (w.heap.size = s) := hS
  have z1 : s + 1 = (w.alloc (.cells #[.slice a0 n0 c0, .slice a1 n1 c1, .slice a2 n2 c2, .slice a3 n3 c3, .slice am lm cm, .slice ah lh ch, .int .i64 X.slot, .int .i64 X.left, .int .i64 X.clock] 48)).heap.size := by rw [← hS]; simp
  have Q : Hid (Vb W s #[.slice a0 n0 c0, .slice a1 n1 c1, .slice a2 n2 c2, .slice a3 n3 c3, .slice am lm cm, .slice ah lh ch, .int .i64 X.slot, .int .i64 X.left, .int .i64 X.clock] 48) := by show Vb _ _ _ _; rw [← hW, ← hS]; exact (Vb.new _ _ _).push _
  have R : Hid (Vb W (s + 1) #[.int .i64 0, .slice none 0 0, .int .i64 0, .slice none 0 0, .bool false, .bool false, .bool false, .int .i64 0, .slice none 0 0, .slice none 0 0, .slice none 0 0, .slice none 0 0] 39) := by show Vb _ _ _ _; rw [← hW, z1]; exact Vb.new _ _ _
  clear z1
  have D : Hid (Oj W b a0 n0 c0 a1 n1 c1 a2 n2 c2 a3 n3 c3 (.slice am lm cm) (.slice ah lh ch) X) := d.keep B0.out
  clear d
  go_enter Tryz.func5, Tryz.ntmps5
  go_wp2_with fail
  clear hW hS
  refine (s_fault12 s _ _ _ _ _ _ _ _ _ _ _ _ _ _ X b _ D.out Q.out).mono ?_
  rw [HV.out]
  rintro e wz ⟨rfl, b1⟩
  have B1 : Hid (Below w.heap.size w wz) := on B0.out b1
  have R1 : Hid (Vb wz (s + 1) #[.int .i64 0, .slice none 0 0, .int .i64 0, .slice none 0 0, .bool false, .bool false, .bool false, .int .i64 0, .slice none 0 0, .slice none 0 0, .slice none 0 0, .slice none 0 0] 39) := R.out.keep b1
  clear b1
  have p0 := R1.out.cell 0 rfl
  have f0 := R1.out.free 0
  have p1 := R1.out.cell 1 rfl
  have f1 := R1.out.free 1
  have p2 := R1.out.cell 2 rfl
  have f2 := R1.out.free 2
  have p3 := R1.out.cell 3 rfl
  have f3 := R1.out.free 3
  have p4 := R1.out.cell 4 rfl
  have f4 := R1.out.free 4
  have p5 := R1.out.cell 5 rfl
  have f5 := R1.out.free 5
  have p6 := R1.out.cell 6 rfl
  have f6 := R1.out.free 6
  have p7 := R1.out.cell 7 rfl
  have f7 := R1.out.free 7
  have p8 := R1.out.cell 8 rfl
  have f8 := R1.out.free 8
  have p9 := R1.out.cell 9 rfl
  have f9 := R1.out.free 9
  have p10 := R1.out.cell 10 rfl
  have f10 := R1.out.free 10
  have p11 := R1.out.cell 11 rfl
  have f11 := R1.out.free 11
  have lt := R1.out.lt
  go_wp2_with fail
  clear lt p0 f0 p1 f1 p2 f2 p3 f3 p4 f4 p5 f5 p6 f6 p7 f7 p8 f8 p9 f9 p10 f10 p11 f11
  have NN : Hid (_ ∧ _) := twelveF R1.out (.int .i64 cx) (.slice none 0 0) (.int .i64 0) (.slice none 0 0) (.bool false) (.bool false) (.bool false) (.int .i64 0) (.slice none 0 0) (.slice none 0 0) (.slice none 0 0) (.slice none 0 0)
  generalize ((((((((((((wz.setCell ⟨s + 1, 0, none⟩ (.int .i64 cx)).setCell ⟨s + 1, 1, none⟩ (.slice none 0 0)).setCell ⟨s + 1, 2, none⟩ (.int .i64 0)).setCell ⟨s + 1, 3, none⟩ (.slice none 0 0)).setCell ⟨s + 1, 4, none⟩ (.bool false)).setCell ⟨s + 1, 5, none⟩ (.bool false)).setCell ⟨s + 1, 6, none⟩ (.bool false)).setCell ⟨s + 1, 7, none⟩ (.int .i64 0)).setCell ⟨s + 1, 8, none⟩ (.slice none 0 0)).setCell ⟨s + 1, 9, none⟩ (.slice none 0 0)).setCell ⟨s + 1, 10, none⟩ (.slice none 0 0)).setCell ⟨s + 1, 11, none⟩ (.slice none 0 0)) = W9 at *
  have x0 := NN.out.1.cell 0 rfl
  have x1 := NN.out.1.cell 1 rfl
  have x2 := NN.out.1.cell 2 rfl
  have x3 := NN.out.1.cell 3 rfl
  have x4 := NN.out.1.cell 4 rfl
  have x5 := NN.out.1.cell 5 rfl
  have x6 := NN.out.1.cell 6 rfl
  have x7 := NN.out.1.cell 7 rfl
  have x8 := NN.out.1.cell 8 rfl
  have x9 := NN.out.1.cell 9 rfl
  have x10 := NN.out.1.cell 10 rfl
  have x11 := NN.out.1.cell 11 rfl
  exact bodyPost_ret (v := .agg #[.int .i64 cx, .slice none 0 0, .int .i64 0, .slice none 0 0, .bool false, .bool false, .bool false, .int .i64 0, .slice none 0 0, .slice none 0 0, .slice none 0 0, .slice none 0 0]) (by simp [results, Tryz.results5, go_sem, x0, x1, x2, x3, x4, x5, x6, x7, x8, x9, x10, x11]) rfl ⟨_, _, _, _, _, _, rfl, sm_voidF _ _, Mq.under B1.out NN.out.2 fun k e => by have := HSs.out; omega⟩
set_option maxRecDepth 20000 in
set_option maxHeartbeats 8000000 in
theorem sfr_none (a0 a1 a2 a3 : Option Addr) (n0 c0 n1 c1 n2 c2 n3 c3 : Nat) (m h : Value) (X : Hst) (gu : Int) (b : Nat) (w : World) (d : Oj w b a0 n0 c0 a1 n1 c1 a2 n2 c2 a3 n3 c3 m h X) (hv : hoV X = 0) (hgu : isG X.pol.own.length gu = false) :
    Calls Tryz.prog 5 #[.agg #[.slice a0 n0 c0, .slice a1 n1 c1, .slice a2 n2 c2, .slice a3 n3 c3, m, h, .int .i64 X.slot, .int .i64 X.left, .int .i64 X.clock], .int .i64 gu] w fun e w' => ∃ r' c' i' o' l' m', e = .returned (.agg #[.int .i64 (frC X gu), r', .int .i64 (frH X gu).pc, c', .bool (frH X gu).halted, .bool (frH X gu).waiting, .bool (frH X gu).rung, .int .i64 (frH X gu).done, i', o', l', m']) ∧ Sm w' w.heap.size r' c' i' o' l' m' (frH X gu) (frP X gu) (frZ X gu) ∧ Below w.heap.size w w' := by
  have hx : frC X gu = 4 := by rw [frC, if_pos hv, if_neg (by rw [hgu]; decide)]
  have hu := fr_not X gu (by rw [hx]; decide)
  rw [hu.1, hu.2.1, hu.2.2, hx]
  have HV : Hid (hoV X = 0) := hv
  have hG : isG n0 gu = false := by rw [d.pol.own.len]; exact hgu
  have HM0 : (n0 : Int) ≤ 9223372036854775807 := by have := d.pol.own.cap; unfold maxLen at this; omega
  have NG : Hid (isG n0 gu = false ∧ (n0 : Int) ≤ 9223372036854775807) := ⟨hG, HM0⟩
  clear hu hx hv hgu hG HM0
  obtain ⟨am, cm, rfl, _⟩ := d.mem.shape
  obtain ⟨ah, ch, rfl, _, _, gh⟩ := d.harts.shape
  obtain ⟨lm, hlm⟩ : ∃ n, X.mem.length = n := ⟨_, rfl⟩
  obtain ⟨lh, hlh⟩ : ∃ n, X.harts.length = n := ⟨_, rfl⟩
  rw [hlm, hlh] at d ⊢
  rw [hlh] at gh
  clear hlm hlh gh
  generalize hW : (w.alloc (.cells #[.slice a0 n0 c0, .slice a1 n1 c1, .slice a2 n2 c2, .slice a3 n3 c3, .slice am lm cm, .slice ah lh ch, .int .i64 X.slot, .int .i64 X.left, .int .i64 X.clock] 48)).alloc (.cells #[.int .i64 0, .slice none 0 0, .int .i64 0, .slice none 0 0, .bool false, .bool false, .bool false, .int .i64 0, .slice none 0 0, .slice none 0 0, .slice none 0 0, .slice none 0 0] 39) = W
  have B0 : Hid (Below w.heap.size w W) := by show Below _ _ _; rw [← hW]; exact al (al (Below.refl _ _) _) _
  obtain ⟨s, hS⟩ : ∃ s, w.heap.size = s := ⟨_, rfl⟩
  have HSs : Hid (w.heap.size = s) := hS
  have z1 : s + 1 = (w.alloc (.cells #[.slice a0 n0 c0, .slice a1 n1 c1, .slice a2 n2 c2, .slice a3 n3 c3, .slice am lm cm, .slice ah lh ch, .int .i64 X.slot, .int .i64 X.left, .int .i64 X.clock] 48)).heap.size := by rw [← hS]; simp
  have Q : Hid (Vb W s #[.slice a0 n0 c0, .slice a1 n1 c1, .slice a2 n2 c2, .slice a3 n3 c3, .slice am lm cm, .slice ah lh ch, .int .i64 X.slot, .int .i64 X.left, .int .i64 X.clock] 48) := by show Vb _ _ _ _; rw [← hW, ← hS]; exact (Vb.new _ _ _).push _
  have R : Hid (Vb W (s + 1) #[.int .i64 0, .slice none 0 0, .int .i64 0, .slice none 0 0, .bool false, .bool false, .bool false, .int .i64 0, .slice none 0 0, .slice none 0 0, .slice none 0 0, .slice none 0 0] 39) := by show Vb _ _ _ _; rw [← hW, z1]; exact Vb.new _ _ _
  clear z1
  have D : Hid (Oj W b a0 n0 c0 a1 n1 c1 a2 n2 c2 a3 n3 c3 (.slice am lm cm) (.slice ah lh ch) X) := d.keep B0.out
  clear d
  go_enter Tryz.func5, Tryz.ntmps5
  go_wp2_with fail
  clear hW hS
  refine (s_fault12 s _ _ _ _ _ _ _ _ _ _ _ _ _ _ X b _ D.out Q.out).mono ?_
  rw [HV.out]
  rintro e w1 ⟨rfl, b1⟩
  have B1 : Hid (Below w.heap.size w w1) := on B0.out b1
  have R1 : Hid (Vb w1 (s + 1) #[.int .i64 0, .slice none 0 0, .int .i64 0, .slice none 0 0, .bool false, .bool false, .bool false, .int .i64 0, .slice none 0 0, .slice none 0 0, .slice none 0 0, .slice none 0 0] 39) := R.out.keep b1
  have Q1 : Hid (Vb w1 s #[.slice a0 n0 c0, .slice a1 n1 c1, .slice a2 n2 c2, .slice a3 n3 c3, .slice am lm cm, .slice ah lh ch, .int .i64 X.slot, .int .i64 X.left, .int .i64 X.clock] 48) := Q.out.keep b1
  have D1 : Hid (Oj w1 b a0 n0 c0 a1 n1 c1 a2 n2 c2 a3 n3 c3 (.slice am lm cm) (.slice ah lh ch) X) := D.out.keep b1
  clear b1
  have q0 := Q1.out.cell 0 rfl
  have q1 := Q1.out.cell 1 rfl
  have q2 := Q1.out.cell 2 rfl
  have q3 := Q1.out.cell 3 rfl
  have PA : Hid (PolAt w1 s X.pol) := ⟨_, _, _, _, _, _, _, _, _, _, _, _, q0, q1, q2, q3, D1.out.pol⟩
  go_wp2_with fail
  clear q0 q1 q2 q3
  refine (l6_guest s gu X.pol _ PA.out).mono ?_
  rintro e wz ⟨rfl, hwz⟩
  rw [hwz]
  clear hwz wz
  rw [← D1.out.pol.own.len, NG.out.1]
  have p0 := R1.out.cell 0 rfl
  have f0 := R1.out.free 0
  have p1 := R1.out.cell 1 rfl
  have f1 := R1.out.free 1
  have p2 := R1.out.cell 2 rfl
  have f2 := R1.out.free 2
  have p3 := R1.out.cell 3 rfl
  have f3 := R1.out.free 3
  have p4 := R1.out.cell 4 rfl
  have f4 := R1.out.free 4
  have p5 := R1.out.cell 5 rfl
  have f5 := R1.out.free 5
  have p6 := R1.out.cell 6 rfl
  have f6 := R1.out.free 6
  have p7 := R1.out.cell 7 rfl
  have f7 := R1.out.free 7
  have p8 := R1.out.cell 8 rfl
  have f8 := R1.out.free 8
  have p9 := R1.out.cell 9 rfl
  have f9 := R1.out.free 9
  have p10 := R1.out.cell 10 rfl
  have f10 := R1.out.free 10
  have p11 := R1.out.cell 11 rfl
  have f11 := R1.out.free 11
  have lt := R1.out.lt
  go_wp2_with fail
  clear lt p0 f0 p1 f1 p2 f2 p3 f3 p4 f4 p5 f5 p6 f6 p7 f7 p8 f8 p9 f9 p10 f10 p11 f11
  have NN : Hid (_ ∧ _) := twelveF R1.out (.int .i64 4) (.slice none 0 0) (.int .i64 0) (.slice none 0 0) (.bool false) (.bool false) (.bool false) (.int .i64 0) (.slice none 0 0) (.slice none 0 0) (.slice none 0 0) (.slice none 0 0)
  generalize ((((((((((((w1.setCell ⟨s + 1, 0, none⟩ (.int .i64 4)).setCell ⟨s + 1, 1, none⟩ (.slice none 0 0)).setCell ⟨s + 1, 2, none⟩ (.int .i64 0)).setCell ⟨s + 1, 3, none⟩ (.slice none 0 0)).setCell ⟨s + 1, 4, none⟩ (.bool false)).setCell ⟨s + 1, 5, none⟩ (.bool false)).setCell ⟨s + 1, 6, none⟩ (.bool false)).setCell ⟨s + 1, 7, none⟩ (.int .i64 0)).setCell ⟨s + 1, 8, none⟩ (.slice none 0 0)).setCell ⟨s + 1, 9, none⟩ (.slice none 0 0)).setCell ⟨s + 1, 10, none⟩ (.slice none 0 0)).setCell ⟨s + 1, 11, none⟩ (.slice none 0 0)) = W9 at *
  have x0 := NN.out.1.cell 0 rfl
  have x1 := NN.out.1.cell 1 rfl
  have x2 := NN.out.1.cell 2 rfl
  have x3 := NN.out.1.cell 3 rfl
  have x4 := NN.out.1.cell 4 rfl
  have x5 := NN.out.1.cell 5 rfl
  have x6 := NN.out.1.cell 6 rfl
  have x7 := NN.out.1.cell 7 rfl
  have x8 := NN.out.1.cell 8 rfl
  have x9 := NN.out.1.cell 9 rfl
  have x10 := NN.out.1.cell 10 rfl
  have x11 := NN.out.1.cell 11 rfl
  exact bodyPost_ret (v := .agg #[.int .i64 4, .slice none 0 0, .int .i64 0, .slice none 0 0, .bool false, .bool false, .bool false, .int .i64 0, .slice none 0 0, .slice none 0 0, .slice none 0 0, .slice none 0 0]) (by simp [results, Tryz.results5, go_sem, x0, x1, x2, x3, x4, x5, x6, x7, x8, x9, x10, x11]) rfl ⟨_, _, _, _, _, _, rfl, sm_voidF _ _, Mq.under B1.out NN.out.2 fun k e => by have := HSs.out; omega⟩
set_option maxRecDepth 20000 in
set_option maxHeartbeats 8000000 in
theorem sfr_good (a0 a1 a2 a3 : Option Addr) (n0 c0 n1 c1 n2 c2 n3 c3 : Nat) (m h : Value) (X : Hst) (g : Nat) (b : Nat) (w : World) (d : Oj w b a0 n0 c0 a1 n1 c1 a2 n2 c2 a3 n3 c3 m h X) (hv : hoV X = 0) (hgu : isG X.pol.own.length (g : Int) = true) :
    Calls Tryz.prog 5 #[.agg #[.slice a0 n0 c0, .slice a1 n1 c1, .slice a2 n2 c2, .slice a3 n3 c3, m, h, .int .i64 X.slot, .int .i64 X.left, .int .i64 X.clock], .int .i64 (g : Int)] w fun e w' => ∃ r' c' i' o' l' m', e = .returned (.agg #[.int .i64 (frC X (g : Int)), r', .int .i64 (frH X (g : Int)).pc, c', .bool (frH X (g : Int)).halted, .bool (frH X (g : Int)).waiting, .bool (frH X (g : Int)).rung, .int .i64 (frH X (g : Int)).done, i', o', l', m']) ∧ Sm w' w.heap.size r' c' i' o' l' m' (frH X (g : Int)) (frP X (g : Int)) (frZ X (g : Int)) ∧ Below w.heap.size w w' := by
  have hx : frC X (g : Int) = 0 := by rw [frC, if_pos hv, if_pos hgu]
  have hu := fr_yes X (g : Int) hx
  rw [hu.1, hu.2.1, hu.2.2, hx, Int.toNat_natCast]
  obtain ⟨PS, hPS⟩ : ∃ PS, (pforL (X.pol.own.getD g []) X.pol.lanes (g : Int) 8) = PS := ⟨_, rfl⟩
  have HPS : Hid ((pforL (X.pol.own.getD g []) X.pol.lanes (g : Int) 8) = PS) := hPS
  rw [hPS]
  clear hPS
  obtain ⟨H, hH⟩ : ∃ H, X.harts.getD g voidH = H := ⟨_, rfl⟩
  rw [hH]
  have HHE : Hid (X.harts.getD g voidH = H) := hH
  clear hH
  have OK : Hid (Fok X g) := fok_of hv hgu
  have HV : Hid (hoV X = 0) := hv
  have HGU : Hid (isG X.pol.own.length (g : Int) = true) := hgu
  clear hu hx hv hgu
  obtain ⟨am, cm, rfl, _⟩ := d.mem.shape
  obtain ⟨ah, ch, rfl, _, _, gh⟩ := d.harts.shape
  obtain ⟨lm, hlm⟩ : ∃ n, X.mem.length = n := ⟨_, rfl⟩
  obtain ⟨lh, hlh⟩ : ∃ n, X.harts.length = n := ⟨_, rfl⟩
  rw [hlm, hlh] at d ⊢
  rw [hlh] at gh
  clear hlm hlh gh
  generalize hW : (w.alloc (.cells #[.slice a0 n0 c0, .slice a1 n1 c1, .slice a2 n2 c2, .slice a3 n3 c3, .slice am lm cm, .slice ah lh ch, .int .i64 X.slot, .int .i64 X.left, .int .i64 X.clock] 48)).alloc (.cells #[.int .i64 0, .slice none 0 0, .int .i64 0, .slice none 0 0, .bool false, .bool false, .bool false, .int .i64 0, .slice none 0 0, .slice none 0 0, .slice none 0 0, .slice none 0 0] 39) = W
  have B0 : Hid (Below w.heap.size w W) := by show Below _ _ _; rw [← hW]; exact al (al (Below.refl _ _) _) _
  obtain ⟨s, hS⟩ : ∃ s, w.heap.size = s := ⟨_, rfl⟩
  have HSs : Hid (w.heap.size = s) := hS
  have z1 : s + 1 = (w.alloc (.cells #[.slice a0 n0 c0, .slice a1 n1 c1, .slice a2 n2 c2, .slice a3 n3 c3, .slice am lm cm, .slice ah lh ch, .int .i64 X.slot, .int .i64 X.left, .int .i64 X.clock] 48)).heap.size := by rw [← hS]; simp
  have Q : Hid (Vb W s #[.slice a0 n0 c0, .slice a1 n1 c1, .slice a2 n2 c2, .slice a3 n3 c3, .slice am lm cm, .slice ah lh ch, .int .i64 X.slot, .int .i64 X.left, .int .i64 X.clock] 48) := by show Vb _ _ _ _; rw [← hW, ← hS]; exact (Vb.new _ _ _).push _
  have R : Hid (Vb W (s + 1) #[.int .i64 0, .slice none 0 0, .int .i64 0, .slice none 0 0, .bool false, .bool false, .bool false, .int .i64 0, .slice none 0 0, .slice none 0 0, .slice none 0 0, .slice none 0 0] 39) := by show Vb _ _ _ _; rw [← hW, z1]; exact Vb.new _ _ _
  clear z1
  have D : Hid (Oj W b a0 n0 c0 a1 n1 c1 a2 n2 c2 a3 n3 c3 (.slice am lm cm) (.slice ah lh ch) X) := d.keep B0.out
  clear d
  go_enter Tryz.func5, Tryz.ntmps5
  go_wp2_with fail
  clear hW hS
  refine (s_fault12 s _ _ _ _ _ _ _ _ _ _ _ _ _ _ X b _ D.out Q.out).mono ?_
  rw [HV.out]
  rintro e w1 ⟨rfl, b1⟩
  have B1 : Hid (Below w.heap.size w w1) := on B0.out b1
  have R1 : Hid (Vb w1 (s + 1) #[.int .i64 0, .slice none 0 0, .int .i64 0, .slice none 0 0, .bool false, .bool false, .bool false, .int .i64 0, .slice none 0 0, .slice none 0 0, .slice none 0 0, .slice none 0 0] 39) := R.out.keep b1
  have Q1 : Hid (Vb w1 s #[.slice a0 n0 c0, .slice a1 n1 c1, .slice a2 n2 c2, .slice a3 n3 c3, .slice am lm cm, .slice ah lh ch, .int .i64 X.slot, .int .i64 X.left, .int .i64 X.clock] 48) := Q.out.keep b1
  have D1 : Hid (Oj w1 b a0 n0 c0 a1 n1 c1 a2 n2 c2 a3 n3 c3 (.slice am lm cm) (.slice ah lh ch) X) := D.out.keep b1
  clear b1 D
  have q0 := Q1.out.cell 0 rfl
  have q1 := Q1.out.cell 1 rfl
  have q2 := Q1.out.cell 2 rfl
  have q3 := Q1.out.cell 3 rfl
  have PA : Hid (PolAt w1 s X.pol) := ⟨_, _, _, _, _, _, _, _, _, _, _, _, q0, q1, q2, q3, D1.out.pol⟩
  go_wp2_with fail
  clear q0 q1 q2 q3
  refine (l6_guest s (g : Int) X.pol _ PA.out).mono ?_
  rintro e wz ⟨rfl, hwz⟩
  rw [hwz]
  clear hwz wz
  rw [HGU.out]
  go_wp2_with fail
  have SC := s_solo16 s _ _ _ _ _ _ _ _ _ _ _ _ _ _ X g b _ D1.out Q1.out OK.out
  rw [HPS.out] at SC
  refine SC.mono ?_
  clear SC
  rintro e w5 ⟨r5, c5, i5, o5, l5, m5', rfl, v5, b5'⟩
  rw [HHE.out] at v5 ⊢
  obtain ⟨xa0, xk0, x0e, _⟩ := v5.h.r.shape
  obtain ⟨xa1, xk1, x1e, _⟩ := v5.h.c.shape
  obtain ⟨xa2, xk2, x2e, _⟩ := v5.h.i.shape
  obtain ⟨xa3, xk3, x3e, _⟩ := v5.h.o.shape
  obtain ⟨xa4, xk4, x4e, _⟩ := v5.pl.shape
  obtain ⟨xa5, xk5, x5e, _⟩ := v5.mm.shape
  subst x0e x1e x2e x3e x4e x5e
  obtain ⟨x0, hx0⟩ : ∃ n, H.regs.length = n := ⟨_, rfl⟩
  obtain ⟨x1, hx1⟩ : ∃ n, H.csr.length = n := ⟨_, rfl⟩
  obtain ⟨x2, hx2⟩ : ∃ n, H.inn.length = n := ⟨_, rfl⟩
  obtain ⟨x3, hx3⟩ : ∃ n, H.out.length = n := ⟨_, rfl⟩
  obtain ⟨x4, hx4⟩ : ∃ n, (aloL PS).length = n := ⟨_, rfl⟩
  obtain ⟨x5, hx5⟩ : ∃ n, (seeS PS X.mem 8).length = n := ⟨_, rfl⟩
  rw [hx0, hx1, hx2, hx3, hx4, hx5] at v5 ⊢
  have V5 : Hid (Sm w5 w1.heap.size (.slice xa0 x0 xk0) (.slice xa1 x1 xk1) (.slice xa2 x2 xk2) (.slice xa3 x3 xk3) (.slice xa4 x4 xk4) (.slice xa5 x5 xk5) H (aloL PS) (seeS PS X.mem 8)) := v5
  have B5 : Hid (Below w.heap.size w w5) := on B1.out b5'
  have R5 : Hid (Vb w5 (s + 1) #[.int .i64 0, .slice none 0 0, .int .i64 0, .slice none 0 0, .bool false, .bool false, .bool false, .int .i64 0, .slice none 0 0, .slice none 0 0, .slice none 0 0, .slice none 0 0] 39) := R1.out.keep b5'
  have L5 : Hid (s + 1 < w1.heap.size) := R1.out.lt
  clear v5 b5' hx0 hx1 hx2 hx3 hx4 hx5
  have p0 := R5.out.cell 0 rfl
  have f0 := R5.out.free 0
  have p1 := R5.out.cell 1 rfl
  have f1 := R5.out.free 1
  have p2 := R5.out.cell 2 rfl
  have f2 := R5.out.free 2
  have p3 := R5.out.cell 3 rfl
  have f3 := R5.out.free 3
  have p4 := R5.out.cell 4 rfl
  have f4 := R5.out.free 4
  have p5 := R5.out.cell 5 rfl
  have f5 := R5.out.free 5
  have p6 := R5.out.cell 6 rfl
  have f6 := R5.out.free 6
  have p7 := R5.out.cell 7 rfl
  have f7 := R5.out.free 7
  have p8 := R5.out.cell 8 rfl
  have f8 := R5.out.free 8
  have p9 := R5.out.cell 9 rfl
  have f9 := R5.out.free 9
  have p10 := R5.out.cell 10 rfl
  have f10 := R5.out.free 10
  have p11 := R5.out.cell 11 rfl
  have f11 := R5.out.free 11
  have NN : Hid (_ ∧ _) := twelveF R5.out (.int .i64 0) (.slice xa0 x0 xk0) (.int .i64 H.pc) (.slice xa1 x1 xk1) (.bool H.halted) (.bool H.waiting) (.bool H.rung) (.int .i64 H.done) (.slice xa2 x2 xk2) (.slice xa3 x3 xk3) (.slice xa4 x4 xk4) (.slice xa5 x5 xk5)
  go_wp2_with fail
  clear p0 f0 p1 f1 p2 f2 p3 f3 p4 f4 p5 f5 p6 f6 p7 f7 p8 f8 p9 f9 p10 f10 p11 f11
  generalize ((((((((((((w5.setCell ⟨s + 1, 0, none⟩ (.int .i64 0)).setCell ⟨s + 1, 1, none⟩ (.slice xa0 x0 xk0)).setCell ⟨s + 1, 2, none⟩ (.int .i64 H.pc)).setCell ⟨s + 1, 3, none⟩ (.slice xa1 x1 xk1)).setCell ⟨s + 1, 4, none⟩ (.bool H.halted)).setCell ⟨s + 1, 5, none⟩ (.bool H.waiting)).setCell ⟨s + 1, 6, none⟩ (.bool H.rung)).setCell ⟨s + 1, 7, none⟩ (.int .i64 H.done)).setCell ⟨s + 1, 8, none⟩ (.slice xa2 x2 xk2)).setCell ⟨s + 1, 9, none⟩ (.slice xa3 x3 xk3)).setCell ⟨s + 1, 10, none⟩ (.slice xa4 x4 xk4)).setCell ⟨s + 1, 11, none⟩ (.slice xa5 x5 xk5)) = W9 at *
  have O9 : Ho (s + 2) w5 W9 := NN.out.2.ho fun k e => by omega
  have V9 : Hid (Sm W9 w.heap.size (.slice xa0 x0 xk0) (.slice xa1 x1 xk1) (.slice xa2 x2 xk2) (.slice xa3 x3 xk3) (.slice xa4 x4 xk4) (.slice xa5 x5 xk5) H (aloL PS) (seeS PS X.mem 8)) := by
    have v := V5.out
    have hl5 := L5.out
    have hs := HSs.out
    have NE : ∀ k, (Value.slice xa4 x4 xk4).ownBlock = some k → ¬ k = s + 1 := fun k e f => by have := (v.pl.lt k e).1; omega
    exact ⟨((v.h.mono (by omega)).ho O9).mono (by omega), v.a, prs_mono (prs_mq v.pl NN.out.2 NE) (by have := B1.out.size; omega), ((v.mm.mono (by omega)).ho O9).mono (by omega), v.rm, v.cm, v.im, v.om⟩
  have x0' := NN.out.1.cell 0 rfl
  have x1' := NN.out.1.cell 1 rfl
  have x2' := NN.out.1.cell 2 rfl
  have x3' := NN.out.1.cell 3 rfl
  have x4' := NN.out.1.cell 4 rfl
  have x5' := NN.out.1.cell 5 rfl
  have x6' := NN.out.1.cell 6 rfl
  have x7' := NN.out.1.cell 7 rfl
  have x8' := NN.out.1.cell 8 rfl
  have x9' := NN.out.1.cell 9 rfl
  have x10' := NN.out.1.cell 10 rfl
  have x11' := NN.out.1.cell 11 rfl
  exact bodyPost_ret (v := .agg #[.int .i64 0, .slice xa0 x0 xk0, .int .i64 H.pc, .slice xa1 x1 xk1, .bool H.halted, .bool H.waiting, .bool H.rung, .int .i64 H.done, .slice xa2 x2 xk2, .slice xa3 x3 xk3, .slice xa4 x4 xk4, .slice xa5 x5 xk5]) (by simp [results, Tryz.results5, go_sem, x0', x1', x2', x3', x4', x5', x6', x7', x8', x9', x10', x11']) rfl ⟨_, _, _, _, _, _, rfl, V9.out, Mq.under B5.out NN.out.2 fun k e => by have := HSs.out; omega⟩
theorem s_soloFrom (a0 a1 a2 a3 : Option Addr) (n0 c0 n1 c1 n2 c2 n3 c3 : Nat) (m h : Value) (X : Hst) (gu : Int) (b : Nat) (w : World) (d : Oj w b a0 n0 c0 a1 n1 c1 a2 n2 c2 a3 n3 c3 m h X) :
    Calls Tryz.prog 5 #[.agg #[.slice a0 n0 c0, .slice a1 n1 c1, .slice a2 n2 c2, .slice a3 n3 c3, m, h, .int .i64 X.slot, .int .i64 X.left, .int .i64 X.clock], .int .i64 gu] w fun e w' => ∃ r' c' i' o' l' m', e = .returned (.agg #[.int .i64 (frC X gu), r', .int .i64 (frH X gu).pc, c', .bool (frH X gu).halted, .bool (frH X gu).waiting, .bool (frH X gu).rung, .int .i64 (frH X gu).done, i', o', l', m']) ∧ Sm w' w.heap.size r' c' i' o' l' m' (frH X gu) (frP X gu) (frZ X gu) ∧ Below w.heap.size w w' := by
  by_cases hv : hoV X = 0
  · cases hgu : isG X.pol.own.length gu
    · exact sfr_none _ _ _ _ _ _ _ _ _ _ _ _ m h X gu b w d hv hgu
    · obtain ⟨g, rfl⟩ := Int.eq_ofNat_of_zero_le ((isG_iff _ _).1 hgu).1
      exact sfr_good _ _ _ _ _ _ _ _ _ _ _ _ m h X g b w d hv hgu
  · exact sfr_fault _ _ _ _ _ _ _ _ _ _ _ _ m h X gu b w d hv
end Go.Proofs.YthnaggeilbcioaaGreatDoor
