/- Texts of this seat, joined. -/
import Derived.Deep.RegionWith
import Derived.Deep.RegionHeld3
import Derived.Deep.Cut
import Derived.Deep.CutRange
import Derived.Test.YthnaggeilbcioaaGreatDoorQ32
import Derived.Test.YthnaggeilbcioaaGreatDoorQ38
import Derived.Test.YthnaggeilbcioaaGreatDoorQ41
import Derived.Test.YthnaggeilbcioaaGreatDoorQ46
namespace Go.Proofs.YthnaggeilbcioaaGreatDoor
open Go.RowKit
set_option linter.unusedVariables false

theorem sv_someF {w : World} {base n cap : Nat} {a : Option Addr} {zs : List Int} (h : Nums w base (.slice a n cap) zs) (hz : 0 < zs.length) : ∃ gm, a = some ⟨gm, 0, none⟩ := by
  obtain ⟨a', cap', e, _, _, hg⟩ := h.shape
  cases e
  exact hg hz
set_option maxRecDepth 20000 in
set_option maxHeartbeats 8000000 in
theorem ifr_fault (a0 a1 a2 a3 : Option Addr) (n0 c0 n1 c1 n2 c2 n3 c3 : Nat) (m h : Value) (X : Hst) (gu : Int) (b : Nat) (w : World) (d : Oj w b a0 n0 c0 a1 n1 c1 a2 n2 c2 a3 n3 c3 m h X) (hg : w.cell? ⟨0, 0, none⟩ = some (.iface 206 (.agg #[.pointer (some ⟨1, 165, none⟩)]))) (hv : hoV X ≠ 0) :
    Calls Tryz.prog 7 #[.agg #[.slice a0 n0 c0, .slice a1 n1 c1, .slice a2 n2 c2, .slice a3 n3 c3, m, h, .int .i64 X.slot, .int .i64 X.left, .int .i64 X.clock], .int .i64 gu] w fun e w' => ∃ r' c' i' o' l' m', e = .returned (.agg #[.int .i64 (frC X gu), r', .int .i64 (frH X gu).pc, c', .bool (frH X gu).halted, .bool (frH X gu).waiting, .bool (frH X gu).rung, .int .i64 (frH X gu).done, i', o', l', m']) ∧ Sm w' w.heap.size r' c' i' o' l' m' (frH X gu) (frP X gu) (frZ X gu) ∧ Below w.heap.size w w' := by
  have hx : frC X gu = hoV X := by rw [frC, if_neg hv]
  have hu := fr_not X gu (by rw [hx]; exact hv)
  rw [hu.1, hu.2.1, hu.2.2, hx]
  obtain ⟨cx, hcx⟩ : ∃ cx, hoV X = cx := ⟨_, rfl⟩
  rw [hcx] at hv ⊢
  have HV : Hid (hoV X = cx) := hcx
  clear hu hx hcx
  obtain ⟨am, cm, rfl, _⟩ := d.mem.shape
  obtain ⟨ah, ch, rfl, _, _, gh⟩ := d.harts.shape
  obtain ⟨lm, hlm⟩ : ∃ n, X.mem.length = n := ⟨_, rfl⟩
  obtain ⟨lh, hlh⟩ : ∃ n, X.harts.length = n := ⟨_, rfl⟩
  rw [hlm, hlh] at d ⊢
  rw [hlh] at gh
  clear hlm hlh gh
  generalize hW : (w.alloc (.cells #[.slice a0 n0 c0, .slice a1 n1 c1, .slice a2 n2 c2, .slice a3 n3 c3, .slice am lm cm, .slice ah lh ch, .int .i64 X.slot, .int .i64 X.left, .int .i64 X.clock] 48)).alloc (.cells #[.int .i64 0, .slice none 0 0, .int .i64 0, .slice none 0 0, .bool false, .bool false, .bool false, .int .i64 0, .slice none 0 0, .slice none 0 0, .slice none 0 0, .slice none 0 0] 39) = W
  have B0 : Hid (Below w.heap.size w W) := by show Below _ _ _; rw [← hW]; exact al (al (Below.refl _ _) _) _
  obtain ⟨s, hS⟩ : ∃ s, w.heap.size = s := ⟨_, rfl⟩
  have HSs : Hid (w.heap.size = s) := hS
  have z1 : s + 1 = (w.alloc (.cells #[.slice a0 n0 c0, .slice a1 n1 c1, .slice a2 n2 c2, .slice a3 n3 c3, .slice am lm cm, .slice ah lh ch, .int .i64 X.slot, .int .i64 X.left, .int .i64 X.clock] 48)).heap.size := by rw [← hS]; simp
  have Q : Hid (Vb W s #[.slice a0 n0 c0, .slice a1 n1 c1, .slice a2 n2 c2, .slice a3 n3 c3, .slice am lm cm, .slice ah lh ch, .int .i64 X.slot, .int .i64 X.left, .int .i64 X.clock] 48) := by show Vb _ _ _ _; rw [← hW, ← hS]; exact (Vb.new _ _ _).push _
  have R : Hid (Vb W (s + 1) #[.int .i64 0, .slice none 0 0, .int .i64 0, .slice none 0 0, .bool false, .bool false, .bool false, .int .i64 0, .slice none 0 0, .slice none 0 0, .slice none 0 0, .slice none 0 0] 39) := by show Vb _ _ _ _; rw [← hW, z1]; exact Vb.new _ _ _
  clear z1
  have D : Hid (Oj W b a0 n0 c0 a1 n1 c1 a2 n2 c2 a3 n3 c3 (.slice am lm cm) (.slice ah lh ch) X) := d.keep B0.out
  have HGE : Hid (_ = _) := cell_keep B0.out hg
  clear hg
  clear d
  have q0 := Q.out.cell 0 rfl
  have q1 := Q.out.cell 1 rfl
  have q2 := Q.out.cell 2 rfl
  have q3 := Q.out.cell 3 rfl
  have q4 := Q.out.cell 4 rfl
  have q5 := Q.out.cell 5 rfl
  have q6 := Q.out.cell 6 rfl
  have q7 := Q.out.cell 7 rfl
  have q8 := Q.out.cell 8 rfl
  go_enter Tryz.func7, Tryz.ntmps7
  go_wp2_with fail
  clear hW hS q0 q1 q2 q3 q4 q5 q6 q7 q8
  refine (i_hostFault _ _ _ _ _ _ _ _ _ _ _ _ _ _ X b _ D.out HGE.out).mono ?_
  rw [HV.out]
  rintro e wz ⟨rfl, b1⟩
  have B1 : Hid (Below w.heap.size w wz) := on B0.out b1
  have R1 : Hid (Vb wz (s + 1) #[.int .i64 0, .slice none 0 0, .int .i64 0, .slice none 0 0, .bool false, .bool false, .bool false, .int .i64 0, .slice none 0 0, .slice none 0 0, .slice none 0 0, .slice none 0 0] 39) := R.out.keep b1
  clear b1
  have p0 := R1.out.cell 0 rfl
  have f0 := R1.out.free 0
  have p1 := R1.out.cell 1 rfl
  have f1 := R1.out.free 1
  have p2 := R1.out.cell 2 rfl
  have f2 := R1.out.free 2
  have p3 := R1.out.cell 3 rfl
  have f3 := R1.out.free 3
  have p4 := R1.out.cell 4 rfl
  have f4 := R1.out.free 4
  have p5 := R1.out.cell 5 rfl
  have f5 := R1.out.free 5
  have p6 := R1.out.cell 6 rfl
  have f6 := R1.out.free 6
  have p7 := R1.out.cell 7 rfl
  have f7 := R1.out.free 7
  have p8 := R1.out.cell 8 rfl
  have f8 := R1.out.free 8
  have p9 := R1.out.cell 9 rfl
  have f9 := R1.out.free 9
  have p10 := R1.out.cell 10 rfl
  have f10 := R1.out.free 10
  have p11 := R1.out.cell 11 rfl
  have f11 := R1.out.free 11
  have lt := R1.out.lt
  go_wp2_with fail
  clear lt p0 f0 p1 f1 p2 f2 p3 f3 p4 f4 p5 f5 p6 f6 p7 f7 p8 f8 p9 f9 p10 f10 p11 f11
  have NN : Hid (_ ∧ _) := twelveF R1.out (.int .i64 cx) (.slice none 0 0) (.int .i64 0) (.slice none 0 0) (.bool false) (.bool false) (.bool false) (.int .i64 0) (.slice none 0 0) (.slice none 0 0) (.slice none 0 0) (.slice none 0 0)
  generalize ((((((((((((wz.setCell ⟨s + 1, 0, none⟩ (.int .i64 cx)).setCell ⟨s + 1, 1, none⟩ (.slice none 0 0)).setCell ⟨s + 1, 2, none⟩ (.int .i64 0)).setCell ⟨s + 1, 3, none⟩ (.slice none 0 0)).setCell ⟨s + 1, 4, none⟩ (.bool false)).setCell ⟨s + 1, 5, none⟩ (.bool false)).setCell ⟨s + 1, 6, none⟩ (.bool false)).setCell ⟨s + 1, 7, none⟩ (.int .i64 0)).setCell ⟨s + 1, 8, none⟩ (.slice none 0 0)).setCell ⟨s + 1, 9, none⟩ (.slice none 0 0)).setCell ⟨s + 1, 10, none⟩ (.slice none 0 0)).setCell ⟨s + 1, 11, none⟩ (.slice none 0 0)) = W9 at *
  have x0 := NN.out.1.cell 0 rfl
  have x1 := NN.out.1.cell 1 rfl
  have x2 := NN.out.1.cell 2 rfl
  have x3 := NN.out.1.cell 3 rfl
  have x4 := NN.out.1.cell 4 rfl
  have x5 := NN.out.1.cell 5 rfl
  have x6 := NN.out.1.cell 6 rfl
  have x7 := NN.out.1.cell 7 rfl
  have x8 := NN.out.1.cell 8 rfl
  have x9 := NN.out.1.cell 9 rfl
  have x10 := NN.out.1.cell 10 rfl
  have x11 := NN.out.1.cell 11 rfl
  exact bodyPost_ret (v := .agg #[.int .i64 cx, .slice none 0 0, .int .i64 0, .slice none 0 0, .bool false, .bool false, .bool false, .int .i64 0, .slice none 0 0, .slice none 0 0, .slice none 0 0, .slice none 0 0]) (by simp [results, Tryz.results7, go_sem, x0, x1, x2, x3, x4, x5, x6, x7, x8, x9, x10, x11]) rfl ⟨_, _, _, _, _, _, rfl, sm_voidF _ _, Mq.under B1.out NN.out.2 fun k e => by have := HSs.out; omega⟩
set_option maxRecDepth 20000 in
set_option maxHeartbeats 8000000 in
theorem ifr_none (a0 a1 a2 a3 : Option Addr) (n0 c0 n1 c1 n2 c2 n3 c3 : Nat) (m h : Value) (X : Hst) (gu : Int) (b : Nat) (w : World) (d : Oj w b a0 n0 c0 a1 n1 c1 a2 n2 c2 a3 n3 c3 m h X) (hg : w.cell? ⟨0, 0, none⟩ = some (.iface 206 (.agg #[.pointer (some ⟨1, 165, none⟩)]))) (hv : hoV X = 0) (hgu : isG X.pol.own.length gu = false) :
    Calls Tryz.prog 7 #[.agg #[.slice a0 n0 c0, .slice a1 n1 c1, .slice a2 n2 c2, .slice a3 n3 c3, m, h, .int .i64 X.slot, .int .i64 X.left, .int .i64 X.clock], .int .i64 gu] w fun e w' => ∃ r' c' i' o' l' m', e = .returned (.agg #[.int .i64 (frC X gu), r', .int .i64 (frH X gu).pc, c', .bool (frH X gu).halted, .bool (frH X gu).waiting, .bool (frH X gu).rung, .int .i64 (frH X gu).done, i', o', l', m']) ∧ Sm w' w.heap.size r' c' i' o' l' m' (frH X gu) (frP X gu) (frZ X gu) ∧ Below w.heap.size w w' := by
  have hx : frC X gu = 4 := by rw [frC, if_pos hv, if_neg (by rw [hgu]; decide)]
  have hu := fr_not X gu (by rw [hx]; decide)
  rw [hu.1, hu.2.1, hu.2.2, hx]
  have HV : Hid (hoV X = 0) := hv
  have hG : isG n0 gu = false := by rw [d.pol.own.len]; exact hgu
  have HM0 : (n0 : Int) ≤ 9223372036854775807 := by have := d.pol.own.cap; unfold maxLen at this; omega
  have NG : Hid (isG n0 gu = false ∧ (n0 : Int) ≤ 9223372036854775807) := ⟨hG, HM0⟩
  clear hu hx hv hgu hG HM0
  obtain ⟨am, cm, rfl, _⟩ := d.mem.shape
  obtain ⟨ah, ch, rfl, _, _, gh⟩ := d.harts.shape
  obtain ⟨lm, hlm⟩ : ∃ n, X.mem.length = n := ⟨_, rfl⟩
  obtain ⟨lh, hlh⟩ : ∃ n, X.harts.length = n := ⟨_, rfl⟩
  rw [hlm, hlh] at d ⊢
  rw [hlh] at gh
  clear hlm hlh gh
  generalize hW : (w.alloc (.cells #[.slice a0 n0 c0, .slice a1 n1 c1, .slice a2 n2 c2, .slice a3 n3 c3, .slice am lm cm, .slice ah lh ch, .int .i64 X.slot, .int .i64 X.left, .int .i64 X.clock] 48)).alloc (.cells #[.int .i64 0, .slice none 0 0, .int .i64 0, .slice none 0 0, .bool false, .bool false, .bool false, .int .i64 0, .slice none 0 0, .slice none 0 0, .slice none 0 0, .slice none 0 0] 39) = W
  have B0 : Hid (Below w.heap.size w W) := by show Below _ _ _; rw [← hW]; exact al (al (Below.refl _ _) _) _
  obtain ⟨s, hS⟩ : ∃ s, w.heap.size = s := ⟨_, rfl⟩
  have HSs : Hid (w.heap.size = s) := hS
  have z1 : s + 1 = (w.alloc (.cells #[.slice a0 n0 c0, .slice a1 n1 c1, .slice a2 n2 c2, .slice a3 n3 c3, .slice am lm cm, .slice ah lh ch, .int .i64 X.slot, .int .i64 X.left, .int .i64 X.clock] 48)).heap.size := by rw [← hS]; simp
  have Q : Hid (Vb W s #[.slice a0 n0 c0, .slice a1 n1 c1, .slice a2 n2 c2, .slice a3 n3 c3, .slice am lm cm, .slice ah lh ch, .int .i64 X.slot, .int .i64 X.left, .int .i64 X.clock] 48) := by show Vb _ _ _ _; rw [← hW, ← hS]; exact (Vb.new _ _ _).push _
  have R : Hid (Vb W (s + 1) #[.int .i64 0, .slice none 0 0, .int .i64 0, .slice none 0 0, .bool false, .bool false, .bool false, .int .i64 0, .slice none 0 0, .slice none 0 0, .slice none 0 0, .slice none 0 0] 39) := by show Vb _ _ _ _; rw [← hW, z1]; exact Vb.new _ _ _
  clear z1
  have D : Hid (Oj W b a0 n0 c0 a1 n1 c1 a2 n2 c2 a3 n3 c3 (.slice am lm cm) (.slice ah lh ch) X) := d.keep B0.out
  have HGE : Hid (_ = _) := cell_keep B0.out hg
  clear hg
  clear d
  have q0 := Q.out.cell 0 rfl
  have q1 := Q.out.cell 1 rfl
  have q2 := Q.out.cell 2 rfl
  have q3 := Q.out.cell 3 rfl
  have q4 := Q.out.cell 4 rfl
  have q5 := Q.out.cell 5 rfl
  have q6 := Q.out.cell 6 rfl
  have q7 := Q.out.cell 7 rfl
  have q8 := Q.out.cell 8 rfl
  go_enter Tryz.func7, Tryz.ntmps7
  go_wp2_with fail
  clear hW hS q0 q1 q2 q3 q4 q5 q6 q7 q8
  refine (i_hostFault _ _ _ _ _ _ _ _ _ _ _ _ _ _ X b _ D.out HGE.out).mono ?_
  rw [HV.out]
  rintro e w1 ⟨rfl, b1⟩
  have B1 : Hid (Below w.heap.size w w1) := on B0.out b1
  have R1 : Hid (Vb w1 (s + 1) #[.int .i64 0, .slice none 0 0, .int .i64 0, .slice none 0 0, .bool false, .bool false, .bool false, .int .i64 0, .slice none 0 0, .slice none 0 0, .slice none 0 0, .slice none 0 0] 39) := R.out.keep b1
  have Q1 : Hid (Vb w1 s #[.slice a0 n0 c0, .slice a1 n1 c1, .slice a2 n2 c2, .slice a3 n3 c3, .slice am lm cm, .slice ah lh ch, .int .i64 X.slot, .int .i64 X.left, .int .i64 X.clock] 48) := Q.out.keep b1
  have D1 : Hid (Oj w1 b a0 n0 c0 a1 n1 c1 a2 n2 c2 a3 n3 c3 (.slice am lm cm) (.slice ah lh ch) X) := D.out.keep b1
  clear b1
  have q0 := Q1.out.cell 0 rfl
  have q1 := Q1.out.cell 1 rfl
  have q2 := Q1.out.cell 2 rfl
  have q3 := Q1.out.cell 3 rfl
  go_wp2_with fail
  clear q0 q1 q2 q3
  refine (i_guest _ _ _ _ _ _ _ _ _ _ _ _ _ _ NG.out.2).mono ?_
  rintro e wz ⟨rfl, hwz⟩
  rw [NG.out.1]
  have b2 : Below w1.heap.size w1 wz := by rw [hwz]; exact al (Below.refl _ _) _
  clear hwz
  have B2 : Hid (Below w.heap.size w wz) := on B1.out b2
  have R2 : Hid (Vb wz (s + 1) #[.int .i64 0, .slice none 0 0, .int .i64 0, .slice none 0 0, .bool false, .bool false, .bool false, .int .i64 0, .slice none 0 0, .slice none 0 0, .slice none 0 0, .slice none 0 0] 39) := R1.out.keep b2
  clear b2
  have p0 := R2.out.cell 0 rfl
  have f0 := R2.out.free 0
  have p1 := R2.out.cell 1 rfl
  have f1 := R2.out.free 1
  have p2 := R2.out.cell 2 rfl
  have f2 := R2.out.free 2
  have p3 := R2.out.cell 3 rfl
  have f3 := R2.out.free 3
  have p4 := R2.out.cell 4 rfl
  have f4 := R2.out.free 4
  have p5 := R2.out.cell 5 rfl
  have f5 := R2.out.free 5
  have p6 := R2.out.cell 6 rfl
  have f6 := R2.out.free 6
  have p7 := R2.out.cell 7 rfl
  have f7 := R2.out.free 7
  have p8 := R2.out.cell 8 rfl
  have f8 := R2.out.free 8
  have p9 := R2.out.cell 9 rfl
  have f9 := R2.out.free 9
  have p10 := R2.out.cell 10 rfl
  have f10 := R2.out.free 10
  have p11 := R2.out.cell 11 rfl
  have f11 := R2.out.free 11
  have lt := R2.out.lt
  go_wp2_with fail
  clear lt p0 f0 p1 f1 p2 f2 p3 f3 p4 f4 p5 f5 p6 f6 p7 f7 p8 f8 p9 f9 p10 f10 p11 f11
  have NN : Hid (_ ∧ _) := twelveF R2.out (.int .i64 4) (.slice none 0 0) (.int .i64 0) (.slice none 0 0) (.bool false) (.bool false) (.bool false) (.int .i64 0) (.slice none 0 0) (.slice none 0 0) (.slice none 0 0) (.slice none 0 0)
  generalize ((((((((((((wz.setCell ⟨s + 1, 0, none⟩ (.int .i64 4)).setCell ⟨s + 1, 1, none⟩ (.slice none 0 0)).setCell ⟨s + 1, 2, none⟩ (.int .i64 0)).setCell ⟨s + 1, 3, none⟩ (.slice none 0 0)).setCell ⟨s + 1, 4, none⟩ (.bool false)).setCell ⟨s + 1, 5, none⟩ (.bool false)).setCell ⟨s + 1, 6, none⟩ (.bool false)).setCell ⟨s + 1, 7, none⟩ (.int .i64 0)).setCell ⟨s + 1, 8, none⟩ (.slice none 0 0)).setCell ⟨s + 1, 9, none⟩ (.slice none 0 0)).setCell ⟨s + 1, 10, none⟩ (.slice none 0 0)).setCell ⟨s + 1, 11, none⟩ (.slice none 0 0)) = W9 at *
  have x0 := NN.out.1.cell 0 rfl
  have x1 := NN.out.1.cell 1 rfl
  have x2 := NN.out.1.cell 2 rfl
  have x3 := NN.out.1.cell 3 rfl
  have x4 := NN.out.1.cell 4 rfl
  have x5 := NN.out.1.cell 5 rfl
  have x6 := NN.out.1.cell 6 rfl
  have x7 := NN.out.1.cell 7 rfl
  have x8 := NN.out.1.cell 8 rfl
  have x9 := NN.out.1.cell 9 rfl
  have x10 := NN.out.1.cell 10 rfl
  have x11 := NN.out.1.cell 11 rfl
  exact bodyPost_ret (v := .agg #[.int .i64 4, .slice none 0 0, .int .i64 0, .slice none 0 0, .bool false, .bool false, .bool false, .int .i64 0, .slice none 0 0, .slice none 0 0, .slice none 0 0, .slice none 0 0]) (by simp [results, Tryz.results7, go_sem, x0, x1, x2, x3, x4, x5, x6, x7, x8, x9, x10, x11]) rfl ⟨_, _, _, _, _, _, rfl, sm_voidF _ _, Mq.under B2.out NN.out.2 fun k e => by have := HSs.out; omega⟩
set_option maxRecDepth 20000 in
set_option maxHeartbeats 8000000 in
theorem ifr_good (a0 a1 a2 a3 : Option Addr) (n0 c0 n1 c1 n2 c2 n3 c3 : Nat) (m h : Value) (X : Hst) (g : Nat) (b : Nat) (w : World) (d : Oj w b a0 n0 c0 a1 n1 c1 a2 n2 c2 a3 n3 c3 m h X) (hg : w.cell? ⟨0, 0, none⟩ = some (.iface 206 (.agg #[.pointer (some ⟨1, 165, none⟩)]))) (hv : hoV X = 0) (hgu : isG X.pol.own.length (g : Int) = true) :
    Calls Tryz.prog 7 #[.agg #[.slice a0 n0 c0, .slice a1 n1 c1, .slice a2 n2 c2, .slice a3 n3 c3, m, h, .int .i64 X.slot, .int .i64 X.left, .int .i64 X.clock], .int .i64 (g : Int)] w fun e w' => ∃ r' c' i' o' l' m', e = .returned (.agg #[.int .i64 (frC X (g : Int)), r', .int .i64 (frH X (g : Int)).pc, c', .bool (frH X (g : Int)).halted, .bool (frH X (g : Int)).waiting, .bool (frH X (g : Int)).rung, .int .i64 (frH X (g : Int)).done, i', o', l', m']) ∧ Sm w' w.heap.size r' c' i' o' l' m' (frH X (g : Int)) (frP X (g : Int)) (frZ X (g : Int)) ∧ Below w.heap.size w w' := by
  have hx : frC X (g : Int) = 0 := by rw [frC, if_pos hv, if_pos hgu]
  have hu := fr_yes X (g : Int) hx
  rw [hu.1, hu.2.1, hu.2.2, hx, Int.toNat_natCast]
  obtain ⟨PS, hPS⟩ : ∃ PS, (pforL (X.pol.own.getD g []) X.pol.lanes (g : Int) 8) = PS := ⟨_, rfl⟩
  have HPS : Hid ((pforL (X.pol.own.getD g []) X.pol.lanes (g : Int) 8) = PS) := hPS
  rw [hPS]
  clear hPS
  have OK : Hid (Fok X g) := fok_of hv hgu
  have HV : Hid (hoV X = 0) := hv
  have HGU : Hid (isG n0 (g : Int) = true) := by show _ = _; rw [d.pol.own.len]; exact hgu
  clear hu hx hv hgu
  obtain ⟨am, cm, rfl, _⟩ := d.mem.shape
  obtain ⟨ah, ch, rfl, hlc1, hlc2, gh⟩ := d.harts.shape
  obtain ⟨gm, hgm⟩ := sv_someF d.mem (by have := OK.out.ml; omega)
  subst hgm
  obtain ⟨hb, hhb⟩ := gh (by have := OK.out.g0; have := OK.out.hl; omega)
  subst hhb
  clear gh
  have GN : Hid (g < n0 ∧ g < X.harts.length) := by have := d.pol.own.len; have := OK.out.g0; have := OK.out.hl; exact ⟨by omega, by omega⟩
  obtain ⟨x, ob, ol, oc, rfl, ko1, ko2⟩ := d.pol.own.at g GN.out.1
  obtain ⟨r, c, i, o, z1, z2, z3⟩ := d.harts.at g GN.out.2
  obtain ⟨H, hH⟩ : ∃ H, X.harts.getD g voidH = H := ⟨_, rfl⟩
  rw [hH] at z1 z2 ⊢
  have HK : Hid (Hok H) := by show Hok H; rw [← hH]; exact OK.out.hk
  clear hH z3
  obtain ⟨d0, k0, e0, _⟩ := z2.r.shape
  obtain ⟨d1, k1, e1, _⟩ := z2.c.shape
  obtain ⟨d2, k2, e2, _⟩ := z2.i.shape
  obtain ⟨d3, k3, e3, _⟩ := z2.o.shape
  subst e0 e1 e2 e3
  obtain ⟨m0, hm0⟩ : ∃ n, H.regs.length = n := ⟨_, rfl⟩
  obtain ⟨m1, hm1⟩ : ∃ n, H.csr.length = n := ⟨_, rfl⟩
  obtain ⟨m2, hm2⟩ : ∃ n, H.inn.length = n := ⟨_, rfl⟩
  obtain ⟨m3, hm3⟩ : ∃ n, H.out.length = n := ⟨_, rfl⟩
  obtain ⟨lm, hlm⟩ : ∃ n, X.mem.length = n := ⟨_, rfl⟩
  obtain ⟨lh, hlh⟩ : ∃ n, X.harts.length = n := ⟨_, rfl⟩
  rw [hm0, hm1, hm2, hm3] at z1 z2
  rw [hlm, hlh] at d ⊢
  have hgI : (g : Int) < (n0 : Int) := by have := GN.out.1; omega
  have hgL : (g : Int) < (lh : Int) := by have := GN.out.2; omega
  have hn0 : (n0 : Int) ≤ 9223372036854775807 := by have := d.pol.own.cap; unfold maxLen at this; omega
  have hnl : (lh : Int) ≤ 9223372036854775807 := by rw [hlh] at hlc1; unfold maxLen at hlc2; omega
  have LI : Hid (((g : Int) < (n0 : Int) ∧ (g : Int) < (lh : Int)) ∧ (n0 : Int) ≤ 9223372036854775807 ∧ (lh : Int) ≤ 9223372036854775807) := ⟨⟨hgI, hgL⟩, hn0, hnl⟩
  have ML : Hid (X.mem.length = lm) := hlm
  have D0 : Hid (Oj w b (some x) n0 c0 a1 n1 c1 a2 n2 c2 a3 n3 c3 (.slice (some ⟨gm, 0, none⟩) lm cm) (.slice (some ⟨hb, 0, none⟩) lh ch) X) := d
  have KO : Hid (w.cell? (x.add g) = some (.slice ob ol oc) ∧ IsNs w ob ol oc (X.pol.own.getD g [])) := ⟨ko1, ko2⟩
  have HC : Hid (Hc w ⟨hb, g * 9, none⟩ (.slice d0 m0 k0) (.slice d1 m1 k1) (.slice d2 m2 k2) (.slice d3 m3 k3) H) := z1
  have HM : Hid (Hm w b (.slice d0 m0 k0) (.slice d1 m1 k1) (.slice d2 m2 k2) (.slice d3 m3 k3) H) := z2
  clear hm0 hm1 hm2 hm3 hlm hlh ko1 ko2 z1 z2 hgI hgL hn0 hnl hlc1 hlc2 d
  generalize hW : (w.alloc (.cells #[.slice (some x) n0 c0, .slice a1 n1 c1, .slice a2 n2 c2, .slice a3 n3 c3, .slice (some ⟨gm, 0, none⟩) lm cm, .slice (some ⟨hb, 0, none⟩) lh ch, .int .i64 X.slot, .int .i64 X.left, .int .i64 X.clock] 48)).alloc (.cells #[.int .i64 0, .slice none 0 0, .int .i64 0, .slice none 0 0, .bool false, .bool false, .bool false, .int .i64 0, .slice none 0 0, .slice none 0 0, .slice none 0 0, .slice none 0 0] 39) = W
  have B0 : Hid (Below w.heap.size w W) := by show Below _ _ _; rw [← hW]; exact al (al (Below.refl _ _) _) _
  obtain ⟨s, hS⟩ : ∃ s, w.heap.size = s := ⟨_, rfl⟩
  have HSs : Hid (w.heap.size = s) := hS
  have z1 : s + 1 = (w.alloc (.cells #[.slice (some x) n0 c0, .slice a1 n1 c1, .slice a2 n2 c2, .slice a3 n3 c3, .slice (some ⟨gm, 0, none⟩) lm cm, .slice (some ⟨hb, 0, none⟩) lh ch, .int .i64 X.slot, .int .i64 X.left, .int .i64 X.clock] 48)).heap.size := by rw [← hS]; simp
  have Q : Hid (Vb W s #[.slice (some x) n0 c0, .slice a1 n1 c1, .slice a2 n2 c2, .slice a3 n3 c3, .slice (some ⟨gm, 0, none⟩) lm cm, .slice (some ⟨hb, 0, none⟩) lh ch, .int .i64 X.slot, .int .i64 X.left, .int .i64 X.clock] 48) := by show Vb _ _ _ _; rw [← hW, ← hS]; exact (Vb.new _ _ _).push _
  have R : Hid (Vb W (s + 1) #[.int .i64 0, .slice none 0 0, .int .i64 0, .slice none 0 0, .bool false, .bool false, .bool false, .int .i64 0, .slice none 0 0, .slice none 0 0, .slice none 0 0, .slice none 0 0] 39) := by show Vb _ _ _ _; rw [← hW, z1]; exact Vb.new _ _ _
  clear z1
  have D : Hid (Oj W b (some x) n0 c0 a1 n1 c1 a2 n2 c2 a3 n3 c3 (.slice (some ⟨gm, 0, none⟩) lm cm) (.slice (some ⟨hb, 0, none⟩) lh ch) X) := D0.out.keep B0.out
  have HGE : Hid (_ = _) := cell_keep B0.out hg
  clear hg
  have q0 := Q.out.cell 0 rfl
  have q1 := Q.out.cell 1 rfl
  have q2 := Q.out.cell 2 rfl
  have q3 := Q.out.cell 3 rfl
  have q4 := Q.out.cell 4 rfl
  have q5 := Q.out.cell 5 rfl
  have q6 := Q.out.cell 6 rfl
  have q7 := Q.out.cell 7 rfl
  have q8 := Q.out.cell 8 rfl
  go_enter Tryz.func7, Tryz.ntmps7
  go_wp2_with fail
  clear hW hS q0 q1 q2 q3 q4 q5 q6 q7 q8
  refine (i_hostFault _ _ _ _ _ _ _ _ _ _ _ _ _ _ X b _ D.out HGE.out).mono ?_
  rw [HV.out]
  rintro e w1 ⟨rfl, b1⟩
  have B1 : Hid (Below w.heap.size w w1) := on B0.out b1
  have R1 : Hid (Vb w1 (s + 1) #[.int .i64 0, .slice none 0 0, .int .i64 0, .slice none 0 0, .bool false, .bool false, .bool false, .int .i64 0, .slice none 0 0, .slice none 0 0, .slice none 0 0, .slice none 0 0] 39) := R.out.keep b1
  have Q1 : Hid (Vb w1 s #[.slice (some x) n0 c0, .slice a1 n1 c1, .slice a2 n2 c2, .slice a3 n3 c3, .slice (some ⟨gm, 0, none⟩) lm cm, .slice (some ⟨hb, 0, none⟩) lh ch, .int .i64 X.slot, .int .i64 X.left, .int .i64 X.clock] 48) := Q.out.keep b1
  clear b1 D
  have q0 := Q1.out.cell 0 rfl
  have q1 := Q1.out.cell 1 rfl
  have q2 := Q1.out.cell 2 rfl
  have q3 := Q1.out.cell 3 rfl
  go_wp2_with fail
  clear q0 q1 q2 q3
  refine (i_guest _ _ _ _ _ _ _ _ _ _ _ _ _ _ LI.out.2.1).mono ?_
  rintro e w2 ⟨rfl, hwz⟩
  rw [HGU.out]
  have b2 : Below w1.heap.size w1 w2 := by rw [hwz]; exact al (Below.refl _ _) _
  clear hwz
  have B2 : Hid (Below w.heap.size w w2) := on B1.out b2
  have R2 : Hid (Vb w2 (s + 1) #[.int .i64 0, .slice none 0 0, .int .i64 0, .slice none 0 0, .bool false, .bool false, .bool false, .int .i64 0, .slice none 0 0, .slice none 0 0, .slice none 0 0, .slice none 0 0] 39) := R1.out.keep b2
  have Q2 : Hid (Vb w2 s #[.slice (some x) n0 c0, .slice a1 n1 c1, .slice a2 n2 c2, .slice a3 n3 c3, .slice (some ⟨gm, 0, none⟩) lm cm, .slice (some ⟨hb, 0, none⟩) lh ch, .int .i64 X.slot, .int .i64 X.left, .int .i64 X.clock] 48) := Q1.out.keep b2
  clear b2
  have q0 := Q2.out.cell 0 rfl
  have q1 := Q2.out.cell 1 rfl
  have q2 := Q2.out.cell 2 rfl
  have q3 := Q2.out.cell 3 rfl
  go_wp2_with fail
  clear q0 q1 q2 q3
  refine (i_pages0 _ _ _ _ _ _ _ _ _ _ _ _ X.pol (g : Int) _ (D0.out.pol.stay B2.out) ⟨by omega, by have := OK.out.g0; omega⟩).mono ?_
  rw [Int.toNat_natCast]
  rintro e w3 ⟨lv, rfl, pr, b3⟩
  obtain ⟨la, lc, hle, _, _, hls⟩ := pr.shape
  rw [pforL_len] at hle hls
  obtain ⟨pb, hpb⟩ := hls (by decide)
  subst hpb
  subst hle
  have PT : Hid (∀ k, k < 8 → ((pforL (X.pol.own.getD g []) X.pol.lanes (g : Int) 8).getD k (0, 0)).1 = -1 ∨ (0 ≤ ((pforL (X.pol.own.getD g []) X.pol.lanes (g : Int) 8).getD k (0, 0)).1 ∧ ((pforL (X.pol.own.getD g []) X.pol.lanes (g : Int) 8).getD k (0, 0)).1 ≤ 23)) := OK.out.to_
  have PLen : Hid ((pforL (X.pol.own.getD g []) X.pol.lanes (g : Int) 8).length = 8) := pforL_len _ _ _ _
  rw [HPS.out] at pr PT PLen
  clear hls
  have L3 : Hid (Prs 77 w3 0 (.slice (some ⟨pb, 0, none⟩) 8 lc) PS) := prs_mono pr (Nat.zero_le _)
  have B3 : Hid (Below w.heap.size w w3) := on B2.out b3
  have R3 : Hid (Vb w3 (s + 1) #[.int .i64 0, .slice none 0 0, .int .i64 0, .slice none 0 0, .bool false, .bool false, .bool false, .int .i64 0, .slice none 0 0, .slice none 0 0, .slice none 0 0, .slice none 0 0] 39) := R2.out.keep b3
  have Q3 : Hid (Vb w3 s #[.slice (some x) n0 c0, .slice a1 n1 c1, .slice a2 n2 c2, .slice a3 n3 c3, .slice (some ⟨gm, 0, none⟩) lm cm, .slice (some ⟨hb, 0, none⟩) lh ch, .int .i64 X.slot, .int .i64 X.left, .int .i64 X.clock] 48) := Q2.out.keep b3
  have LT : Hid (s + 1 < w3.heap.size) := R3.out.lt
  clear b3 pr
  have QS : Hid (∀ w', SvN 12 w3 (s + 1) w' → Vb w' s #[.slice (some x) n0 c0, .slice a1 n1 c1, .slice a2 n2 c2, .slice a3 n3 c3, .slice (some ⟨gm, 0, none⟩) lm cm, .slice (some ⟨hb, 0, none⟩) lh ch, .int .i64 X.slot, .int .i64 X.left, .int .i64 X.clock] 48) := fun w' hs => hs.1.vb Q3.out (by omega)
  have BS : Hid (∀ w', SvN 12 w3 (s + 1) w' → Below w.heap.size w w') := fun w' hs => Mq.under B3.out hs.1 fun k e => by have := HSs.out; omega
  have Sv0 : Hid (SvN 12 w3 (s + 1) w3.drew) := SvN.step ⟨Mq.refl _ _, R3.out.there 12 (by decide)⟩ LT.out (Below.refl _ _).drew
  have E0 : Hid (Below w3.heap.size w3 w3.drew) := (Below.refl _ _).drew
  go_upto_region 7 with fail
  refine wp_region_held (S := fun w' => SvN 12 w3 (s + 1) w') (by kernel_rfl) ?_
  change wpAnyH _ _ _ _ _ _ _ _ (World.drew _)
  generalize w3.drew = u0 at *
  refine wpAnyH_take (i := 0) (v := (.pointer (some ⟨s, 5, none⟩))) rfl (by kernel_rfl) (by kernel_rfl) (by kernel_rfl) (fun _ _ _ h => h) (Or.inl ⟨by rfl, fun w' hs => by go_simp⟩) Sv0.out ?_
  change wpAnyH _ _ _ _ _ _ _ (Act.put _ (some 23) _) _
  simp only [Act.put, List.setIfInBounds_toArray, List.set_cons_zero, List.set_cons_succ]
  refine wpAnyH_take (i := 1) (v := (.slice (some ⟨hb, 0, none⟩) lh ch)) rfl (by kernel_rfl) (by kernel_rfl) (by kernel_rfl) (fun _ _ _ h => h) (Or.inl ⟨by rfl, fun w' hs => by have q5 := (QS.out w' hs).cell 5 rfl; go_simp⟩) Sv0.out ?_
  change wpAnyH _ _ _ _ _ _ _ (Act.put _ (some 24) _) _
  simp only [Act.put, List.setIfInBounds_toArray, List.set_cons_zero, List.set_cons_succ]
  refine wpAnyH_take (i := 2) (v := (.int .i64 (g : Int))) rfl (by kernel_rfl) (by kernel_rfl) (by kernel_rfl) (fun _ _ _ h => h) (Or.inl ⟨by rfl, fun w' hs => by go_simp⟩) Sv0.out ?_
  change wpAnyH _ _ _ _ _ _ _ (Act.put _ (some 25) _) _
  simp only [Act.put, List.setIfInBounds_toArray, List.set_cons_zero, List.set_cons_succ]
  refine wpAnyH_take (i := 3) (v := (.pointer (some ⟨hb, g * 9, none⟩))) rfl (by kernel_rfl) (by kernel_rfl) (by kernel_rfl) (fun _ _ _ h => h) (Or.inl ⟨by rfl, fun w' hs => by have i1 := LI.out.1.1; have i2 := LI.out.1.2; have i3 := LI.out.2.1; have i4 := LI.out.2.2; have y0 := (HC.out.stay (BS.out w' hs)).c0; go_simp⟩) Sv0.out ?_
  change wpAnyH _ _ _ _ _ _ _ (Act.put _ (some 26) _) _
  simp only [Act.put, List.setIfInBounds_toArray, List.set_cons_zero, List.set_cons_succ]
  refine wpAnyH_take (i := 4) (v := (.agg #[.slice d0 m0 k0, .int .i64 H.pc, .slice d1 m1 k1, .bool H.halted, .bool H.waiting, .bool H.rung, .int .i64 H.done, .slice d2 m2 k2, .slice d3 m3 k3])) rfl (by kernel_rfl) (by kernel_rfl) (by kernel_rfl) (fun _ _ _ h => h) (Or.inl ⟨by rfl, fun w' hs => by have hq := HC.out.stay (BS.out w' hs); have y0 := hq.c0; have y1 := hq.c1; have y2 := hq.c2; have y3 := hq.c3; have y4 := hq.c4; have y5 := hq.c5; have y6 := hq.c6; have y7 := hq.c7; have y8 := hq.c8; go_simp⟩) Sv0.out ?_
  change wpAnyH _ _ _ _ _ _ _ (Act.put _ (some 27) _) _
  simp only [Act.put, List.setIfInBounds_toArray, List.set_cons_zero, List.set_cons_succ]
  refine wpAnyH_take (i := 5) (v := (.slice (some ⟨pb, 0, none⟩) 8 lc)) rfl (by kernel_rfl) (by kernel_rfl) (by kernel_rfl) (fun _ _ _ h => h) (Or.inl ⟨by rfl, fun w' hs => by go_simp⟩) Sv0.out ?_
  change wpAnyH _ _ _ _ _ _ _ (Act.put _ (some 28) _) _
  simp only [Act.put, List.setIfInBounds_toArray, List.set_cons_zero, List.set_cons_succ]
  refine wpAnyH_take (i := 7) (v := (.slice (some ⟨pb, 0, none⟩) 8 lc)) rfl (by kernel_rfl) (by kernel_rfl) (by kernel_rfl) (fun _ _ _ h => h) (Or.inl ⟨by rfl, fun w' hs => by go_simp⟩) Sv0.out ?_
  change wpAnyH _ _ _ _ _ _ _ (Act.put _ (some 30) _) _
  simp only [Act.put, List.setIfInBounds_toArray, List.set_cons_zero, List.set_cons_succ]
  refine wpAnyH_take (i := 8) (v := (.pointer (some ⟨s, 4, none⟩))) rfl (by kernel_rfl) (by kernel_rfl) (by kernel_rfl) (fun _ _ _ h => h) (Or.inl ⟨by rfl, fun w' hs => by go_simp⟩) Sv0.out ?_
  change wpAnyH _ _ _ _ _ _ _ (Act.put _ (some 31) _) _
  simp only [Act.put, List.setIfInBounds_toArray, List.set_cons_zero, List.set_cons_succ]
  refine wpAnyH_take (i := 9) (v := (.slice (some ⟨gm, 0, none⟩) lm cm)) rfl (by kernel_rfl) (by kernel_rfl) (by kernel_rfl) (fun _ _ _ h => h) (Or.inl ⟨by rfl, fun w' hs => by have q4 := (QS.out w' hs).cell 4 rfl; go_simp⟩) Sv0.out ?_
  change wpAnyH _ _ _ _ _ _ _ (Act.put _ (some 32) _) _
  simp only [Act.put, List.setIfInBounds_toArray, List.set_cons_zero, List.set_cons_succ]
  refine wpAnyH_ready (rs := [6]) (by kernel_rfl) (by simp) ?_
  refine AllReadyH.cons rfl (fun K hK => ?_) AllReadyH.nil
  rw [if_pos (by rfl)]
  go_simp
  refine (i_pagedOver _ _ _ _ H pb lc PS 0 u0 (((HM.out.keep B3.out).keep E0.out).mono (Nat.zero_le _)) HK.out (L3.out.keep E0.out) PLen.out).mono ?_
  rintro e u1 ⟨i', o', rfl, ni, no, ap, b4⟩
  obtain ⟨xa, xk, xe, _⟩ := ni.shape
  obtain ⟨ya, yk, ye, _⟩ := no.shape
  subst xe ye
  obtain ⟨xn, hxn⟩ : ∃ n, H.inn.length = n := ⟨_, rfl⟩
  obtain ⟨yn, hyn⟩ : ∃ n, H.out.length = n := ⟨_, rfl⟩
  rw [hxn] at ni
  rw [hyn] at no
  rw [hxn, hyn] at ap ⊢
  have N1 : Hid (Nums u1 u0.heap.size (.slice xa xn xk) H.inn ∧ Nums u1 u0.heap.size (.slice ya yn yk) H.out) := ⟨ni, no⟩
  have Sv1 : Hid (SvN 12 w3 (s + 1) u1) := Sv0.out.step LT.out b4
  have E1 : Hid (Below w3.heap.size w3 u1) := on E0.out b4
  clear ni no ap b4 hxn hyn
  refine hK.out _ _ Sv1.out (fun _ => ?_)
  clear hK K
  refine wpAnyH_ready (rs := [10]) (by kernel_rfl) (by simp) ?_
  refine AllReadyH.cons rfl (fun K hK => ?_) AllReadyH.nil
  rw [if_pos (by rfl)]
  go_simp
  refine (i_seen pb lc PS gm lm cm X.mem 0 u1 (L3.out.keep E1.out) PLen.out (((D0.out.mem.keep B3.out).keep E1.out).mono (Nat.zero_le _)) OK.out.ml PT.out).mono ?_
  rintro e u2 ⟨sv, rfl, ns, b5⟩
  have SL : Hid ((seeS PS X.mem 8).length = 64) := seeS_len PS X.mem OK.out.ml PT.out 8 (Nat.le_refl _)
  obtain ⟨sa, sk, se, _, _, hss⟩ := ns.shape
  rw [SL.out] at se hss
  obtain ⟨sg, hsg⟩ := hss (by decide)
  subst hsg
  subst se
  have N2 : Hid (Nums u2 u0.heap.size (.slice xa xn xk) H.inn ∧ Nums u2 u0.heap.size (.slice ya yn yk) H.out) := ⟨N1.out.1.keep b5, N1.out.2.keep b5⟩
  have M2 : Hid (Nums u2 u1.heap.size (.slice (some ⟨sg, 0, none⟩) 64 sk) (seeS PS X.mem 8)) := ns
  have Sv2 : Hid (SvN 12 w3 (s + 1) u2) := Sv1.out.step LT.out b5
  clear ns b5 hss
  refine hK.out _ _ Sv2.out (fun _ => ?_)
  clear hK K
  refine wpAnyH_ready (rs := [11]) (by kernel_rfl) (by simp) ?_
  refine AllReadyH.cons rfl (fun K hK => ?_) AllReadyH.nil
  rw [if_pos (by rfl)]
  go_simp
  refine (i_aloneWith H xa xn xk ya yn yk PS sg 64 sk u1.heap.size (seeS PS X.mem 8) u2 M2.out SL.out).mono ?_
  rintro e u3 ⟨rfl, b6⟩
  have N3 : Hid (Nums u3 u0.heap.size (.slice xa xn xk) H.inn ∧ Nums u3 u0.heap.size (.slice ya yn yk) H.out) := ⟨N2.out.1.keep b6, N2.out.2.keep b6⟩
  have Sv3 : Hid (SvN 12 w3 (s + 1) u3) := Sv2.out.step LT.out b6
  clear b6
  refine hK.out _ _ Sv3.out (fun _ => ?_)
  clear hK K
  refine wpAnyH_ready (rs := [12]) (by kernel_rfl) (by simp) ?_
  refine AllReadyH.cons rfl (fun K hK => ?_) AllReadyH.nil
  rw [if_pos (by rfl)]
  go_simp
  refine (i_asSolo H xa xn xk ya yn yk (aloL PS) (seeS PS X.mem 8) u0.heap.size u3 N3.out.1 N3.out.2 HK.out (aloL_len _) SL.out).mono ?_
  rintro e u4 ⟨r', c', i', o', l', m', rfl, sm, b7⟩
  obtain ⟨v0, k0', f0, _⟩ := sm.h.r.shape
  obtain ⟨v1, k1', f1, _⟩ := sm.h.c.shape
  obtain ⟨v2, k2', f2, _⟩ := sm.h.i.shape
  obtain ⟨v3, k3', f3, _⟩ := sm.h.o.shape
  obtain ⟨v4, k4', f4, _⟩ := sm.pl.shape
  obtain ⟨v5, k5', f5, _⟩ := sm.mm.shape
  subst f0 f1 f2 f3 f4 f5
  obtain ⟨e0, he0⟩ : ∃ n, H.regs.length = n := ⟨_, rfl⟩
  obtain ⟨e1, he1⟩ : ∃ n, H.csr.length = n := ⟨_, rfl⟩
  obtain ⟨e2, he2⟩ : ∃ n, H.inn.length = n := ⟨_, rfl⟩
  obtain ⟨e3, he3⟩ : ∃ n, H.out.length = n := ⟨_, rfl⟩
  obtain ⟨e4, he4⟩ : ∃ n, (aloL PS).length = n := ⟨_, rfl⟩
  obtain ⟨e5, he5⟩ : ∃ n, (seeS PS X.mem 8).length = n := ⟨_, rfl⟩
  rw [he0, he1, he2, he3, he4, he5] at sm ⊢
  have V4 : Hid (Sm u4 u3.heap.size (.slice v0 e0 k0') (.slice v1 e1 k1') (.slice v2 e2 k2') (.slice v3 e3 k3') (.slice v4 e4 k4') (.slice v5 e5 k5') H (aloL PS) (seeS PS X.mem 8)) := sm
  have Sv4 : Hid (SvN 12 w3 (s + 1) u4) := Sv3.out.step LT.out b7
  have Z3 : Hid (s + 1 < u3.heap.size ∧ w.heap.size ≤ u3.heap.size) := ⟨Nat.lt_of_lt_of_le LT.out Sv3.out.1.size, (BS.out _ Sv3.out).size⟩
  clear sm b7 he0 he1 he2 he3 he4 he5
  refine hK.out _ _ Sv4.out (fun _ => ?_)
  clear hK K
  refine wpAnyH_take (i := 13) (v := (.agg #[.int .i64 0, .slice v0 e0 k0', .int .i64 H.pc, .slice v1 e1 k1', .bool H.halted, .bool H.waiting, .bool H.rung, .int .i64 H.done, .slice v2 e2 k2', .slice v3 e3 k3', .slice v4 e4 k4', .slice v5 e5 k5'])) rfl (by kernel_rfl) (by kernel_rfl) (by kernel_rfl) (fun _ _ _ h => h) (Or.inl ⟨by rfl, fun w' hs => by go_simp⟩) Sv4.out ?_
  change wpAnyH _ _ _ _ _ _ _ (Act.put _ (some 36) _) _
  simp only [Act.put, List.setIfInBounds_toArray, List.set_cons_zero, List.set_cons_succ]
  refine wpAnyH_ready (rs := [14]) (by kernel_rfl) (by simp) ?_
  refine AllReadyH.cons rfl (fun K hK => ?_) AllReadyH.nil
  rw [if_pos (by rfl)]
  refine wp_store_mid 39 (.tmp 4) (.tmp 36) rfl (s + 1) 0 #[.int .i64 0, .slice v0 e0 k0', .int .i64 H.pc, .slice v1 e1 k1', .bool H.halted, .bool H.waiting, .bool H.rung, .int .i64 H.done, .slice v2 e2 k2', .slice v3 e3 k3', .slice v4 e4 k4', .slice v5 e5 k5'] rfl rfl Sv4.out.2 (by kernel_rfl) (by simp [Value.oneCell']) ?_
  change K (Act.put _ none undef) _
  simp only [Act.put]
  have S6 : Hid (SvN 12 w3 (s + 1) (u4.setCells (s + 1) 0 #[.int .i64 0, .slice v0 e0 k0', .int .i64 H.pc, .slice v1 e1 k1', .bool H.halted, .bool H.waiting, .bool H.rung, .int .i64 H.done, .slice v2 e2 k2', .slice v3 e3 k3', .slice v4 e4 k4', .slice v5 e5 k5'].toList)) := Sv4.out.set _
  have R6 : Hid ((u4.setCells (s + 1) 0 #[.int .i64 0, .slice v0 e0 k0', .int .i64 H.pc, .slice v1 e1 k1', .bool H.halted, .bool H.waiting, .bool H.rung, .int .i64 H.done, .slice v2 e2 k2', .slice v3 e3 k3', .slice v4 e4 k4', .slice v5 e5 k5'].toList).rangeAt (s + 1) 0 #[.int .i64 0, .slice v0 e0 k0', .int .i64 H.pc, .slice v1 e1 k1', .bool H.halted, .bool H.waiting, .bool H.rung, .int .i64 H.done, .slice v2 e2 k2', .slice v3 e3 k3', .slice v4 e4 k4', .slice v5 e5 k5'].toList) := World.rangeAt_setCells_same _ _ _ _ Sv4.out.2
  have Q6 : Hid (Mq (fun k => k = s + 1) u4 (u4.setCells (s + 1) 0 #[.int .i64 0, .slice v0 e0 k0', .int .i64 H.pc, .slice v1 e1 k1', .bool H.halted, .bool H.waiting, .bool H.rung, .int .i64 H.done, .slice v2 e2 k2', .slice v3 e3 k3', .slice v4 e4 k4', .slice v5 e5 k5'].toList)) := mq_cells (s + 1) _ u4 0
  generalize u4.setCells (s + 1) 0 #[.int .i64 0, .slice v0 e0 k0', .int .i64 H.pc, .slice v1 e1 k1', .bool H.halted, .bool H.waiting, .bool H.rung, .int .i64 H.done, .slice v2 e2 k2', .slice v3 e3 k3', .slice v4 e4 k4', .slice v5 e5 k5'].toList = u6 at *
  refine hK.out _ _ S6.out (fun _ => ?_)
  clear hK K
  refine wpAnyH_done (by kernel_rfl) ?_ _
  have O6 : Ho (s + 2) u4 u6 := Q6.out.ho fun k e => by omega
  have NE : ∀ k, (Value.slice v4 e4 k4').ownBlock = some k → ¬ k = s + 1 := fun k e f => by have := (V4.out.pl.lt k e).1; have := Z3.out; omega
  have F : Hid (Sm u6 w.heap.size (.slice v0 e0 k0') (.slice v1 e1 k1') (.slice v2 e2 k2') (.slice v3 e3 k3') (.slice v4 e4 k4') (.slice v5 e5 k5') H (aloL PS) (seeS PS X.mem 8)) := ⟨((V4.out.h.mono (by have := Z3.out; omega)).ho O6).mono (by have := HSs.out; omega), V4.out.a, prs_mono (prs_mq V4.out.pl Q6.out NE) Z3.out.2, ((V4.out.mm.mono (by have := Z3.out; omega)).ho O6).mono (by have := HSs.out; omega), V4.out.rm, V4.out.cm, V4.out.im, V4.out.om⟩
  have B6 : Hid (Below w.heap.size w u6) := BS.out _ S6.out
  have LD := run_loadVar_mid (P := Tryz.prog) u6 (s + 1) 0 39 #[.int .i64 0, .slice v0 e0 k0', .int .i64 H.pc, .slice v1 e1 k1', .bool H.halted, .bool H.waiting, .bool H.rung, .int .i64 H.done, .slice v2 e2 k2', .slice v3 e3 k3', .slice v4 e4 k4', .slice v5 e5 k5'].toList _ R6.out Tryz.underlying39 rfl (by kernel_rfl)
  go_wp2_with fail
  exact bodyPost_ret (v := .agg #[.int .i64 0, .slice v0 e0 k0', .int .i64 H.pc, .slice v1 e1 k1', .bool H.halted, .bool H.waiting, .bool H.rung, .int .i64 H.done, .slice v2 e2 k2', .slice v3 e3 k3', .slice v4 e4 k4', .slice v5 e5 k5']) (by simp [results, Tryz.results7, asAddr]; rw [LD]) rfl ⟨_, _, _, _, _, _, rfl, F.out, B6.out⟩
theorem i_soloFrom (a0 a1 a2 a3 : Option Addr) (n0 c0 n1 c1 n2 c2 n3 c3 : Nat) (m h : Value) (X : Hst) (gu : Int) (b : Nat) (w : World) (d : Oj w b a0 n0 c0 a1 n1 c1 a2 n2 c2 a3 n3 c3 m h X) (hg : w.cell? ⟨0, 0, none⟩ = some (.iface 206 (.agg #[.pointer (some ⟨1, 165, none⟩)]))) :
    Calls Tryz.prog 7 #[.agg #[.slice a0 n0 c0, .slice a1 n1 c1, .slice a2 n2 c2, .slice a3 n3 c3, m, h, .int .i64 X.slot, .int .i64 X.left, .int .i64 X.clock], .int .i64 gu] w fun e w' => ∃ r' c' i' o' l' m', e = .returned (.agg #[.int .i64 (frC X gu), r', .int .i64 (frH X gu).pc, c', .bool (frH X gu).halted, .bool (frH X gu).waiting, .bool (frH X gu).rung, .int .i64 (frH X gu).done, i', o', l', m']) ∧ Sm w' w.heap.size r' c' i' o' l' m' (frH X gu) (frP X gu) (frZ X gu) ∧ Below w.heap.size w w' := by
  by_cases hv : hoV X = 0
  · cases hgu : isG X.pol.own.length gu
    · exact ifr_none _ _ _ _ _ _ _ _ _ _ _ _ m h X gu b w d hg hv hgu
    · obtain ⟨g, rfl⟩ := Int.eq_ofNat_of_zero_le ((isG_iff _ _).1 hgu).1
      exact ifr_good _ _ _ _ _ _ _ _ _ _ _ _ m h X g b w d hg hv hgu
  · exact ifr_fault _ _ _ _ _ _ _ _ _ _ _ _ m h X gu b w d hg hv
end Go.Proofs.YthnaggeilbcioaaGreatDoor
