/- Texts of this seat, joined. -/
import Derived.Deep.RegionWith
import Derived.Deep.RegionHeld3
import Derived.Deep.Cut
import Derived.Deep.CutRange
import Derived.Test.YthebikoahfcdaaaGreatDoorQ25
import Derived.Test.YthebikoahfcdaaaGreatDoorQ39
import Derived.Test.YthebikoahfcdaaaGreatDoorQ42
import Derived.Test.YthebikoahfcdaaaGreatDoorQ46
import Derived.Test.YthebikoahfcdaaaGreatDoorQ48
namespace Go.Proofs.YthebikoahfcdaaaGreatDoor
open Go.RowKit
set_option linter.unusedVariables false

set_option maxRecDepth 20000 in
set_option maxHeartbeats 8000000 in
theorem ivf_fault (a0 a1 a2 a3 : Option Addr) (n0 c0 n1 c1 n2 c2 n3 c3 : Nat) (m h : Value) (X : Hst) (gu : Int) (b : Nat) (w : World) (d : Oj w b a0 n0 c0 a1 n1 c1 a2 n2 c2 a3 n3 c3 m h X) (hg : w.cell? ⟨0, 0, none⟩ = some (.iface 185 (.agg #[.pointer (some ⟨1, 142, none⟩)]))) (hv : hoV X ≠ 0) :
    Calls Tryz.prog 7 #[.agg #[.slice a0 n0 c0, .slice a1 n1 c1, .slice a2 n2 c2, .slice a3 n3 c3, m, h, .int .i64 X.slot, .int .i64 X.left, .int .i64 X.clock], .int .i64 gu] w fun e w' => ∃ r' c' i' o' l' m', e = .returned (.agg #[.int .i64 (voC X gu), r', .int .i64 (voH X gu).pc, c', .bool (voH X gu).halted, .bool (voH X gu).waiting, .bool (voH X gu).rung, .int .i64 (voH X gu).done, i', o', l', m']) ∧ Vm w' w.heap.size r' c' i' o' l' m' (voH X gu) (voO X gu) (voG X gu) ∧ Below w.heap.size w w' := by
  have hx : voC X gu = hoV X := by rw [voC, if_neg hv]
  have hu := vo_not X gu (by rw [hx]; exact hv)
  rw [hu.1, hu.2.1, hu.2.2, hx]
  obtain ⟨cx, hcx⟩ : ∃ cx, hoV X = cx := ⟨_, rfl⟩
  rw [hcx] at hv ⊢
  have HV : Hid (hoV X = cx) := hcx
  clear hu hx hcx
  obtain ⟨am, cm, rfl, _⟩ := d.mem.shape
  obtain ⟨ah, ch, rfl, _, _, gh⟩ := d.harts.shape
  obtain ⟨lm, hlm⟩ : ∃ n, X.mem.length = n := ⟨_, rfl⟩
  obtain ⟨lh, hlh⟩ : ∃ n, X.harts.length = n := ⟨_, rfl⟩
  rw [hlm, hlh] at d ⊢
  rw [hlh] at gh
  clear hlm hlh gh
  generalize hW : (w.alloc (.cells #[.slice a0 n0 c0, .slice a1 n1 c1, .slice a2 n2 c2, .slice a3 n3 c3, .slice am lm cm, .slice ah lh ch, .int .i64 X.slot, .int .i64 X.left, .int .i64 X.clock] 47)).alloc (.cells #[.int .i64 0, .slice none 0 0, .int .i64 0, .slice none 0 0, .bool false, .bool false, .bool false, .int .i64 0, .slice none 0 0, .slice none 0 0, .slice none 0 0, .slice none 0 0] 38) = W
  have B0 : Hid (Below w.heap.size w W) := by show Below _ _ _; rw [← hW]; exact al (al (Below.refl _ _) _) _
  obtain ⟨s, hS⟩ : ∃ s, w.heap.size = s := ⟨_, rfl⟩
  have HSs : Hid (w.heap.size = s) := hS
  have z1 : s + 1 = (w.alloc (.cells #[.slice a0 n0 c0, .slice a1 n1 c1, .slice a2 n2 c2, .slice a3 n3 c3, .slice am lm cm, .slice ah lh ch, .int .i64 X.slot, .int .i64 X.left, .int .i64 X.clock] 47)).heap.size := by rw [← hS]; simp
  have Q : Hid (Vb W s #[.slice a0 n0 c0, .slice a1 n1 c1, .slice a2 n2 c2, .slice a3 n3 c3, .slice am lm cm, .slice ah lh ch, .int .i64 X.slot, .int .i64 X.left, .int .i64 X.clock] 47) := by show Vb _ _ _ _; rw [← hW, ← hS]; exact (Vb.new _ _ _).push _
  have R : Hid (Vb W (s + 1) #[.int .i64 0, .slice none 0 0, .int .i64 0, .slice none 0 0, .bool false, .bool false, .bool false, .int .i64 0, .slice none 0 0, .slice none 0 0, .slice none 0 0, .slice none 0 0] 38) := by show Vb _ _ _ _; rw [← hW, z1]; exact Vb.new _ _ _
  clear z1
  have D : Hid (Oj W b a0 n0 c0 a1 n1 c1 a2 n2 c2 a3 n3 c3 (.slice am lm cm) (.slice ah lh ch) X) := d.keep B0.out
  have HGE : Hid (_ = _) := cell_keep B0.out hg
  clear hg
  clear d
  have q0 := Q.out.cell 0 rfl
  have q1 := Q.out.cell 1 rfl
  have q2 := Q.out.cell 2 rfl
  have q3 := Q.out.cell 3 rfl
  have q4 := Q.out.cell 4 rfl
  have q5 := Q.out.cell 5 rfl
  have q6 := Q.out.cell 6 rfl
  have q7 := Q.out.cell 7 rfl
  have q8 := Q.out.cell 8 rfl
  go_enter Tryz.func7, Tryz.ntmps7
  go_wp2_with fail
  clear hW hS q0 q1 q2 q3 q4 q5 q6 q7 q8
  refine (i_hostFault _ _ _ _ _ _ _ _ _ _ _ _ _ _ X b _ D.out HGE.out).mono ?_
  rw [HV.out]
  rintro e wz ⟨rfl, b1⟩
  have B1 : Hid (Below w.heap.size w wz) := on B0.out b1
  have R1 : Hid (Vb wz (s + 1) #[.int .i64 0, .slice none 0 0, .int .i64 0, .slice none 0 0, .bool false, .bool false, .bool false, .int .i64 0, .slice none 0 0, .slice none 0 0, .slice none 0 0, .slice none 0 0] 38) := R.out.keep b1
  clear b1
  have p0 := R1.out.cell 0 rfl
  have f0 := R1.out.free 0
  have p1 := R1.out.cell 1 rfl
  have f1 := R1.out.free 1
  have p2 := R1.out.cell 2 rfl
  have f2 := R1.out.free 2
  have p3 := R1.out.cell 3 rfl
  have f3 := R1.out.free 3
  have p4 := R1.out.cell 4 rfl
  have f4 := R1.out.free 4
  have p5 := R1.out.cell 5 rfl
  have f5 := R1.out.free 5
  have p6 := R1.out.cell 6 rfl
  have f6 := R1.out.free 6
  have p7 := R1.out.cell 7 rfl
  have f7 := R1.out.free 7
  have p8 := R1.out.cell 8 rfl
  have f8 := R1.out.free 8
  have p9 := R1.out.cell 9 rfl
  have f9 := R1.out.free 9
  have p10 := R1.out.cell 10 rfl
  have f10 := R1.out.free 10
  have p11 := R1.out.cell 11 rfl
  have f11 := R1.out.free 11
  have lt := R1.out.lt
  go_wp2_with fail
  clear lt p0 f0 p1 f1 p2 f2 p3 f3 p4 f4 p5 f5 p6 f6 p7 f7 p8 f8 p9 f9 p10 f10 p11 f11
  have NN : Hid (_ ∧ _) := twelveV R1.out (.int .i64 cx) (.slice none 0 0) (.int .i64 0) (.slice none 0 0) (.bool false) (.bool false) (.bool false) (.int .i64 0) (.slice none 0 0) (.slice none 0 0) (.slice none 0 0) (.slice none 0 0)
  generalize ((((((((((((wz.setCell ⟨s + 1, 0, none⟩ (.int .i64 cx)).setCell ⟨s + 1, 1, none⟩ (.slice none 0 0)).setCell ⟨s + 1, 2, none⟩ (.int .i64 0)).setCell ⟨s + 1, 3, none⟩ (.slice none 0 0)).setCell ⟨s + 1, 4, none⟩ (.bool false)).setCell ⟨s + 1, 5, none⟩ (.bool false)).setCell ⟨s + 1, 6, none⟩ (.bool false)).setCell ⟨s + 1, 7, none⟩ (.int .i64 0)).setCell ⟨s + 1, 8, none⟩ (.slice none 0 0)).setCell ⟨s + 1, 9, none⟩ (.slice none 0 0)).setCell ⟨s + 1, 10, none⟩ (.slice none 0 0)).setCell ⟨s + 1, 11, none⟩ (.slice none 0 0)) = W9 at *
  have x0 := NN.out.1.cell 0 rfl
  have x1 := NN.out.1.cell 1 rfl
  have x2 := NN.out.1.cell 2 rfl
  have x3 := NN.out.1.cell 3 rfl
  have x4 := NN.out.1.cell 4 rfl
  have x5 := NN.out.1.cell 5 rfl
  have x6 := NN.out.1.cell 6 rfl
  have x7 := NN.out.1.cell 7 rfl
  have x8 := NN.out.1.cell 8 rfl
  have x9 := NN.out.1.cell 9 rfl
  have x10 := NN.out.1.cell 10 rfl
  have x11 := NN.out.1.cell 11 rfl
  exact bodyPost_ret (v := .agg #[.int .i64 cx, .slice none 0 0, .int .i64 0, .slice none 0 0, .bool false, .bool false, .bool false, .int .i64 0, .slice none 0 0, .slice none 0 0, .slice none 0 0, .slice none 0 0]) (by simp [results, Tryz.results7, go_sem, x0, x1, x2, x3, x4, x5, x6, x7, x8, x9, x10, x11]) rfl ⟨_, _, _, _, _, _, rfl, vm_void _ _, Mq.under B1.out NN.out.2 fun k e => by have := HSs.out; omega⟩
set_option maxRecDepth 20000 in
set_option maxHeartbeats 8000000 in
theorem ivf_none (a0 a1 a2 a3 : Option Addr) (n0 c0 n1 c1 n2 c2 n3 c3 : Nat) (m h : Value) (X : Hst) (gu : Int) (b : Nat) (w : World) (d : Oj w b a0 n0 c0 a1 n1 c1 a2 n2 c2 a3 n3 c3 m h X) (hg : w.cell? ⟨0, 0, none⟩ = some (.iface 185 (.agg #[.pointer (some ⟨1, 142, none⟩)]))) (hv : hoV X = 0) (hgu : isG X.pol.own.length gu = false) :
    Calls Tryz.prog 7 #[.agg #[.slice a0 n0 c0, .slice a1 n1 c1, .slice a2 n2 c2, .slice a3 n3 c3, m, h, .int .i64 X.slot, .int .i64 X.left, .int .i64 X.clock], .int .i64 gu] w fun e w' => ∃ r' c' i' o' l' m', e = .returned (.agg #[.int .i64 (voC X gu), r', .int .i64 (voH X gu).pc, c', .bool (voH X gu).halted, .bool (voH X gu).waiting, .bool (voH X gu).rung, .int .i64 (voH X gu).done, i', o', l', m']) ∧ Vm w' w.heap.size r' c' i' o' l' m' (voH X gu) (voO X gu) (voG X gu) ∧ Below w.heap.size w w' := by
  have hx : voC X gu = 4 := by rw [voC, if_pos hv, if_neg (by rw [hgu]; decide)]
  have hu := vo_not X gu (by rw [hx]; decide)
  rw [hu.1, hu.2.1, hu.2.2, hx]
  have HV : Hid (hoV X = 0) := hv
  have hG : isG n0 gu = false := by rw [d.pol.own.len]; exact hgu
  have HM0 : (n0 : Int) ≤ 9223372036854775807 := by have := d.pol.own.cap; unfold maxLen at this; omega
  have NG : Hid (isG n0 gu = false ∧ (n0 : Int) ≤ 9223372036854775807) := ⟨hG, HM0⟩
  clear hu hx hv hgu hG HM0
  obtain ⟨am, cm, rfl, _⟩ := d.mem.shape
  obtain ⟨ah, ch, rfl, _, _, gh⟩ := d.harts.shape
  obtain ⟨lm, hlm⟩ : ∃ n, X.mem.length = n := ⟨_, rfl⟩
  obtain ⟨lh, hlh⟩ : ∃ n, X.harts.length = n := ⟨_, rfl⟩
  rw [hlm, hlh] at d ⊢
  rw [hlh] at gh
  clear hlm hlh gh
  generalize hW : (w.alloc (.cells #[.slice a0 n0 c0, .slice a1 n1 c1, .slice a2 n2 c2, .slice a3 n3 c3, .slice am lm cm, .slice ah lh ch, .int .i64 X.slot, .int .i64 X.left, .int .i64 X.clock] 47)).alloc (.cells #[.int .i64 0, .slice none 0 0, .int .i64 0, .slice none 0 0, .bool false, .bool false, .bool false, .int .i64 0, .slice none 0 0, .slice none 0 0, .slice none 0 0, .slice none 0 0] 38) = W
  have B0 : Hid (Below w.heap.size w W) := by show Below _ _ _; rw [← hW]; exact al (al (Below.refl _ _) _) _
  obtain ⟨s, hS⟩ : ∃ s, w.heap.size = s := ⟨_, rfl⟩
  have HSs : Hid (w.heap.size = s) := hS
  have z1 : s + 1 = (w.alloc (.cells #[.slice a0 n0 c0, .slice a1 n1 c1, .slice a2 n2 c2, .slice a3 n3 c3, .slice am lm cm, .slice ah lh ch, .int .i64 X.slot, .int .i64 X.left, .int .i64 X.clock] 47)).heap.size := by rw [← hS]; simp
  have Q : Hid (Vb W s #[.slice a0 n0 c0, .slice a1 n1 c1, .slice a2 n2 c2, .slice a3 n3 c3, .slice am lm cm, .slice ah lh ch, .int .i64 X.slot, .int .i64 X.left, .int .i64 X.clock] 47) := by show Vb _ _ _ _; rw [← hW, ← hS]; exact (Vb.new _ _ _).push _
  have R : Hid (Vb W (s + 1) #[.int .i64 0, .slice none 0 0, .int .i64 0, .slice none 0 0, .bool false, .bool false, .bool false, .int .i64 0, .slice none 0 0, .slice none 0 0, .slice none 0 0, .slice none 0 0] 38) := by show Vb _ _ _ _; rw [← hW, z1]; exact Vb.new _ _ _
  clear z1
  have D : Hid (Oj W b a0 n0 c0 a1 n1 c1 a2 n2 c2 a3 n3 c3 (.slice am lm cm) (.slice ah lh ch) X) := d.keep B0.out
  have HGE : Hid (_ = _) := cell_keep B0.out hg
  clear hg
  clear d
  have q0 := Q.out.cell 0 rfl
  have q1 := Q.out.cell 1 rfl
  have q2 := Q.out.cell 2 rfl
  have q3 := Q.out.cell 3 rfl
  have q4 := Q.out.cell 4 rfl
  have q5 := Q.out.cell 5 rfl
  have q6 := Q.out.cell 6 rfl
  have q7 := Q.out.cell 7 rfl
  have q8 := Q.out.cell 8 rfl
  go_enter Tryz.func7, Tryz.ntmps7
  go_wp2_with fail
  clear hW hS q0 q1 q2 q3 q4 q5 q6 q7 q8
  refine (i_hostFault _ _ _ _ _ _ _ _ _ _ _ _ _ _ X b _ D.out HGE.out).mono ?_
  rw [HV.out]
  rintro e w1 ⟨rfl, b1⟩
  have B1 : Hid (Below w.heap.size w w1) := on B0.out b1
  have R1 : Hid (Vb w1 (s + 1) #[.int .i64 0, .slice none 0 0, .int .i64 0, .slice none 0 0, .bool false, .bool false, .bool false, .int .i64 0, .slice none 0 0, .slice none 0 0, .slice none 0 0, .slice none 0 0] 38) := R.out.keep b1
  have Q1 : Hid (Vb w1 s #[.slice a0 n0 c0, .slice a1 n1 c1, .slice a2 n2 c2, .slice a3 n3 c3, .slice am lm cm, .slice ah lh ch, .int .i64 X.slot, .int .i64 X.left, .int .i64 X.clock] 47) := Q.out.keep b1
  have D1 : Hid (Oj w1 b a0 n0 c0 a1 n1 c1 a2 n2 c2 a3 n3 c3 (.slice am lm cm) (.slice ah lh ch) X) := D.out.keep b1
  clear b1
  have q0 := Q1.out.cell 0 rfl
  have q1 := Q1.out.cell 1 rfl
  have q2 := Q1.out.cell 2 rfl
  have q3 := Q1.out.cell 3 rfl
  go_wp2_with fail
  clear q0 q1 q2 q3
  refine (i_guest _ _ _ _ _ _ _ _ _ _ _ _ _ _ NG.out.2).mono ?_
  rintro e wz ⟨rfl, hwz⟩
  rw [NG.out.1]
  have b2 : Below w1.heap.size w1 wz := by rw [hwz]; exact al (Below.refl _ _) _
  clear hwz
  have B2 : Hid (Below w.heap.size w wz) := on B1.out b2
  have R2 : Hid (Vb wz (s + 1) #[.int .i64 0, .slice none 0 0, .int .i64 0, .slice none 0 0, .bool false, .bool false, .bool false, .int .i64 0, .slice none 0 0, .slice none 0 0, .slice none 0 0, .slice none 0 0] 38) := R1.out.keep b2
  clear b2
  have p0 := R2.out.cell 0 rfl
  have f0 := R2.out.free 0
  have p1 := R2.out.cell 1 rfl
  have f1 := R2.out.free 1
  have p2 := R2.out.cell 2 rfl
  have f2 := R2.out.free 2
  have p3 := R2.out.cell 3 rfl
  have f3 := R2.out.free 3
  have p4 := R2.out.cell 4 rfl
  have f4 := R2.out.free 4
  have p5 := R2.out.cell 5 rfl
  have f5 := R2.out.free 5
  have p6 := R2.out.cell 6 rfl
  have f6 := R2.out.free 6
  have p7 := R2.out.cell 7 rfl
  have f7 := R2.out.free 7
  have p8 := R2.out.cell 8 rfl
  have f8 := R2.out.free 8
  have p9 := R2.out.cell 9 rfl
  have f9 := R2.out.free 9
  have p10 := R2.out.cell 10 rfl
  have f10 := R2.out.free 10
  have p11 := R2.out.cell 11 rfl
  have f11 := R2.out.free 11
  have lt := R2.out.lt
  go_wp2_with fail
  clear lt p0 f0 p1 f1 p2 f2 p3 f3 p4 f4 p5 f5 p6 f6 p7 f7 p8 f8 p9 f9 p10 f10 p11 f11
  have NN : Hid (_ ∧ _) := twelveV R2.out (.int .i64 4) (.slice none 0 0) (.int .i64 0) (.slice none 0 0) (.bool false) (.bool false) (.bool false) (.int .i64 0) (.slice none 0 0) (.slice none 0 0) (.slice none 0 0) (.slice none 0 0)
  generalize ((((((((((((wz.setCell ⟨s + 1, 0, none⟩ (.int .i64 4)).setCell ⟨s + 1, 1, none⟩ (.slice none 0 0)).setCell ⟨s + 1, 2, none⟩ (.int .i64 0)).setCell ⟨s + 1, 3, none⟩ (.slice none 0 0)).setCell ⟨s + 1, 4, none⟩ (.bool false)).setCell ⟨s + 1, 5, none⟩ (.bool false)).setCell ⟨s + 1, 6, none⟩ (.bool false)).setCell ⟨s + 1, 7, none⟩ (.int .i64 0)).setCell ⟨s + 1, 8, none⟩ (.slice none 0 0)).setCell ⟨s + 1, 9, none⟩ (.slice none 0 0)).setCell ⟨s + 1, 10, none⟩ (.slice none 0 0)).setCell ⟨s + 1, 11, none⟩ (.slice none 0 0)) = W9 at *
  have x0 := NN.out.1.cell 0 rfl
  have x1 := NN.out.1.cell 1 rfl
  have x2 := NN.out.1.cell 2 rfl
  have x3 := NN.out.1.cell 3 rfl
  have x4 := NN.out.1.cell 4 rfl
  have x5 := NN.out.1.cell 5 rfl
  have x6 := NN.out.1.cell 6 rfl
  have x7 := NN.out.1.cell 7 rfl
  have x8 := NN.out.1.cell 8 rfl
  have x9 := NN.out.1.cell 9 rfl
  have x10 := NN.out.1.cell 10 rfl
  have x11 := NN.out.1.cell 11 rfl
  exact bodyPost_ret (v := .agg #[.int .i64 4, .slice none 0 0, .int .i64 0, .slice none 0 0, .bool false, .bool false, .bool false, .int .i64 0, .slice none 0 0, .slice none 0 0, .slice none 0 0, .slice none 0 0]) (by simp [results, Tryz.results7, go_sem, x0, x1, x2, x3, x4, x5, x6, x7, x8, x9, x10, x11]) rfl ⟨_, _, _, _, _, _, rfl, vm_void _ _, Mq.under B2.out NN.out.2 fun k e => by have := HSs.out; omega⟩
set_option maxRecDepth 20000 in
set_option maxHeartbeats 8000000 in
theorem ivf_good (a0 a1 a2 a3 : Option Addr) (n0 c0 n1 c1 n2 c2 n3 c3 : Nat) (m h : Value) (X : Hst) (g : Nat) (b : Nat) (w : World) (d : Oj w b a0 n0 c0 a1 n1 c1 a2 n2 c2 a3 n3 c3 m h X) (hg : w.cell? ⟨0, 0, none⟩ = some (.iface 185 (.agg #[.pointer (some ⟨1, 142, none⟩)]))) (hv : hoV X = 0) (hgu : isG X.pol.own.length (g : Int) = true) :
    Calls Tryz.prog 7 #[.agg #[.slice a0 n0 c0, .slice a1 n1 c1, .slice a2 n2 c2, .slice a3 n3 c3, m, h, .int .i64 X.slot, .int .i64 X.left, .int .i64 X.clock], .int .i64 (g : Int)] w fun e w' => ∃ r' c' i' o' l' m', e = .returned (.agg #[.int .i64 (voC X (g : Int)), r', .int .i64 (voH X (g : Int)).pc, c', .bool (voH X (g : Int)).halted, .bool (voH X (g : Int)).waiting, .bool (voH X (g : Int)).rung, .int .i64 (voH X (g : Int)).done, i', o', l', m']) ∧ Vm w' w.heap.size r' c' i' o' l' m' (voH X (g : Int)) (voO X (g : Int)) (voG X (g : Int)) ∧ Below w.heap.size w w' := by
  have hx : voC X (g : Int) = 0 := by rw [voC, if_pos hv, if_pos hgu]
  have hu := vo_yes X (g : Int) hx
  rw [hu.1, hu.2.1, hu.2.2, hx, Int.toNat_natCast]
  have OK : Hid (Vok X g) := vok_of hv hgu
  have HV : Hid (hoV X = 0) := hv
  have HGU : Hid (isG n0 (g : Int) = true) := by show _ = _; rw [d.pol.own.len]; exact hgu
  clear hu hx hv hgu
  obtain ⟨am, cm, rfl, _⟩ := d.mem.shape
  obtain ⟨ah, ch, rfl, hlc1, hlc2, gh⟩ := d.harts.shape
  obtain ⟨gm, hgm⟩ := sv_some d.mem (by have := OK.out.ml; omega)
  subst hgm
  obtain ⟨hb, hhb⟩ := gh (by have := OK.out.g0; have := OK.out.hl; omega)
  subst hhb
  clear gh
  have GN : Hid (g < n0 ∧ g < X.harts.length) := by have := d.pol.own.len; have := OK.out.g0; have := OK.out.hl; exact ⟨by omega, by omega⟩
  obtain ⟨x, ob, ol, oc, rfl, ko1, ko2⟩ := d.pol.own.at g GN.out.1
  obtain ⟨r, c, i, o, z1, z2, z3⟩ := d.harts.at g GN.out.2
  obtain ⟨H, hH⟩ : ∃ H, X.harts.getD g voidH = H := ⟨_, rfl⟩
  rw [hH] at z1 z2 ⊢
  have HK : Hid (Hok H) := by show Hok H; rw [← hH]; exact OK.out.hk
  clear hH z3
  obtain ⟨d0, k0, e0, _⟩ := z2.r.shape
  obtain ⟨d1, k1, e1, _⟩ := z2.c.shape
  obtain ⟨d2, k2, e2, _⟩ := z2.i.shape
  obtain ⟨d3, k3, e3, _⟩ := z2.o.shape
  subst e0 e1 e2 e3
  obtain ⟨m0, hm0⟩ : ∃ n, H.regs.length = n := ⟨_, rfl⟩
  obtain ⟨m1, hm1⟩ : ∃ n, H.csr.length = n := ⟨_, rfl⟩
  obtain ⟨m2, hm2⟩ : ∃ n, H.inn.length = n := ⟨_, rfl⟩
  obtain ⟨m3, hm3⟩ : ∃ n, H.out.length = n := ⟨_, rfl⟩
  obtain ⟨lm, hlm⟩ : ∃ n, X.mem.length = n := ⟨_, rfl⟩
  obtain ⟨lh, hlh⟩ : ∃ n, X.harts.length = n := ⟨_, rfl⟩
  rw [hm0, hm1, hm2, hm3] at z1 z2
  rw [hlm, hlh] at d ⊢
  have hgI : (g : Int) < (n0 : Int) := by have := GN.out.1; omega
  have hgL : (g : Int) < (lh : Int) := by have := GN.out.2; omega
  have hn0 : (n0 : Int) ≤ 9223372036854775807 := by have := d.pol.own.cap; unfold maxLen at this; omega
  have hnl : (lh : Int) ≤ 9223372036854775807 := by rw [hlh] at hlc1; unfold maxLen at hlc2; omega
  have LI : Hid (((g : Int) < (n0 : Int) ∧ (g : Int) < (lh : Int)) ∧ (n0 : Int) ≤ 9223372036854775807 ∧ (lh : Int) ≤ 9223372036854775807) := ⟨⟨hgI, hgL⟩, hn0, hnl⟩
  have ML : Hid (X.mem.length = lm) := hlm
  have D0 : Hid (Oj w b (some x) n0 c0 a1 n1 c1 a2 n2 c2 a3 n3 c3 (.slice (some ⟨gm, 0, none⟩) lm cm) (.slice (some ⟨hb, 0, none⟩) lh ch) X) := d
  have KO : Hid (w.cell? (x.add g) = some (.slice ob ol oc) ∧ IsNs w ob ol oc (X.pol.own.getD g [])) := ⟨ko1, ko2⟩
  have HC : Hid (Hc w ⟨hb, g * 9, none⟩ (.slice d0 m0 k0) (.slice d1 m1 k1) (.slice d2 m2 k2) (.slice d3 m3 k3) H) := z1
  have HM : Hid (Hm w b (.slice d0 m0 k0) (.slice d1 m1 k1) (.slice d2 m2 k2) (.slice d3 m3 k3) H) := z2
  clear hm0 hm1 hm2 hm3 hlm hlh ko1 ko2 z1 z2 hgI hgL hn0 hnl hlc1 hlc2 d
  generalize hW : (w.alloc (.cells #[.slice (some x) n0 c0, .slice a1 n1 c1, .slice a2 n2 c2, .slice a3 n3 c3, .slice (some ⟨gm, 0, none⟩) lm cm, .slice (some ⟨hb, 0, none⟩) lh ch, .int .i64 X.slot, .int .i64 X.left, .int .i64 X.clock] 47)).alloc (.cells #[.int .i64 0, .slice none 0 0, .int .i64 0, .slice none 0 0, .bool false, .bool false, .bool false, .int .i64 0, .slice none 0 0, .slice none 0 0, .slice none 0 0, .slice none 0 0] 38) = W
  have B0 : Hid (Below w.heap.size w W) := by show Below _ _ _; rw [← hW]; exact al (al (Below.refl _ _) _) _
  obtain ⟨s, hS⟩ : ∃ s, w.heap.size = s := ⟨_, rfl⟩
  have HSs : Hid (w.heap.size = s) := hS
  have z1 : s + 1 = (w.alloc (.cells #[.slice (some x) n0 c0, .slice a1 n1 c1, .slice a2 n2 c2, .slice a3 n3 c3, .slice (some ⟨gm, 0, none⟩) lm cm, .slice (some ⟨hb, 0, none⟩) lh ch, .int .i64 X.slot, .int .i64 X.left, .int .i64 X.clock] 47)).heap.size := by rw [← hS]; simp
  have Q : Hid (Vb W s #[.slice (some x) n0 c0, .slice a1 n1 c1, .slice a2 n2 c2, .slice a3 n3 c3, .slice (some ⟨gm, 0, none⟩) lm cm, .slice (some ⟨hb, 0, none⟩) lh ch, .int .i64 X.slot, .int .i64 X.left, .int .i64 X.clock] 47) := by show Vb _ _ _ _; rw [← hW, ← hS]; exact (Vb.new _ _ _).push _
  have R : Hid (Vb W (s + 1) #[.int .i64 0, .slice none 0 0, .int .i64 0, .slice none 0 0, .bool false, .bool false, .bool false, .int .i64 0, .slice none 0 0, .slice none 0 0, .slice none 0 0, .slice none 0 0] 38) := by show Vb _ _ _ _; rw [← hW, z1]; exact Vb.new _ _ _
  clear z1
  have D : Hid (Oj W b (some x) n0 c0 a1 n1 c1 a2 n2 c2 a3 n3 c3 (.slice (some ⟨gm, 0, none⟩) lm cm) (.slice (some ⟨hb, 0, none⟩) lh ch) X) := D0.out.keep B0.out
  have HGE : Hid (_ = _) := cell_keep B0.out hg
  clear hg
  have q0 := Q.out.cell 0 rfl
  have q1 := Q.out.cell 1 rfl
  have q2 := Q.out.cell 2 rfl
  have q3 := Q.out.cell 3 rfl
  have q4 := Q.out.cell 4 rfl
  have q5 := Q.out.cell 5 rfl
  have q6 := Q.out.cell 6 rfl
  have q7 := Q.out.cell 7 rfl
  have q8 := Q.out.cell 8 rfl
  go_enter Tryz.func7, Tryz.ntmps7
  go_wp2_with fail
  clear hW hS q0 q1 q2 q3 q4 q5 q6 q7 q8
  refine (i_hostFault _ _ _ _ _ _ _ _ _ _ _ _ _ _ X b _ D.out HGE.out).mono ?_
  rw [HV.out]
  rintro e w1 ⟨rfl, b1⟩
  have B1 : Hid (Below w.heap.size w w1) := on B0.out b1
  have R1 : Hid (Vb w1 (s + 1) #[.int .i64 0, .slice none 0 0, .int .i64 0, .slice none 0 0, .bool false, .bool false, .bool false, .int .i64 0, .slice none 0 0, .slice none 0 0, .slice none 0 0, .slice none 0 0] 38) := R.out.keep b1
  have Q1 : Hid (Vb w1 s #[.slice (some x) n0 c0, .slice a1 n1 c1, .slice a2 n2 c2, .slice a3 n3 c3, .slice (some ⟨gm, 0, none⟩) lm cm, .slice (some ⟨hb, 0, none⟩) lh ch, .int .i64 X.slot, .int .i64 X.left, .int .i64 X.clock] 47) := Q.out.keep b1
  clear b1 D
  have q0 := Q1.out.cell 0 rfl
  have q1 := Q1.out.cell 1 rfl
  have q2 := Q1.out.cell 2 rfl
  have q3 := Q1.out.cell 3 rfl
  go_wp2_with fail
  clear q0 q1 q2 q3
  refine (i_guest _ _ _ _ _ _ _ _ _ _ _ _ _ _ LI.out.2.1).mono ?_
  rintro e w2 ⟨rfl, hwz⟩
  rw [HGU.out]
  have b2 : Below w1.heap.size w1 w2 := by rw [hwz]; exact al (Below.refl _ _) _
  clear hwz
  have B2 : Hid (Below w.heap.size w w2) := on B1.out b2
  have R2 : Hid (Vb w2 (s + 1) #[.int .i64 0, .slice none 0 0, .int .i64 0, .slice none 0 0, .bool false, .bool false, .bool false, .int .i64 0, .slice none 0 0, .slice none 0 0, .slice none 0 0, .slice none 0 0] 38) := R1.out.keep b2
  have Q2 : Hid (Vb w2 s #[.slice (some x) n0 c0, .slice a1 n1 c1, .slice a2 n2 c2, .slice a3 n3 c3, .slice (some ⟨gm, 0, none⟩) lm cm, .slice (some ⟨hb, 0, none⟩) lh ch, .int .i64 X.slot, .int .i64 X.left, .int .i64 X.clock] 47) := Q1.out.keep b2
  clear b2
  have LT : Hid (s + 1 < w2.heap.size) := R2.out.lt
  have QS : Hid (∀ w', SvN 12 w2 (s + 1) w' → Vb w' s #[.slice (some x) n0 c0, .slice a1 n1 c1, .slice a2 n2 c2, .slice a3 n3 c3, .slice (some ⟨gm, 0, none⟩) lm cm, .slice (some ⟨hb, 0, none⟩) lh ch, .int .i64 X.slot, .int .i64 X.left, .int .i64 X.clock] 47) := fun w' hs => hs.1.vb Q2.out (by omega)
  have BS : Hid (∀ w', SvN 12 w2 (s + 1) w' → Below w.heap.size w w') := fun w' hs => Mq.under B2.out hs.1 fun k e => by have := HSs.out; omega
  have Sv0 : Hid (SvN 12 w2 (s + 1) w2.drew) := SvN.step ⟨Mq.refl _ _, R2.out.there 12 (by decide)⟩ LT.out (Below.refl _ _).drew
  have E0 : Hid (Below w2.heap.size w2 w2.drew) := (Below.refl _ _).drew
  go_upto_region 6 with fail
  refine wp_region_held (S := fun w' => SvN 12 w2 (s + 1) w') (by kernel_rfl) ?_
  change wpAnyH _ _ _ _ _ _ _ _ (World.drew _)
  generalize w2.drew = u0 at *
  refine wpAnyH_take (i := 0) (v := (.pointer (some ⟨s, 0, none⟩))) rfl (by kernel_rfl) (by kernel_rfl) (by kernel_rfl) (fun _ _ _ h => h) (Or.inl ⟨by rfl, fun w' hs => by go_simp⟩) Sv0.out ?_
  change wpAnyH _ _ _ _ _ _ _ (Act.put _ (some 18) _) _
  simp only [Act.put, List.setIfInBounds_toArray, List.set_cons_zero, List.set_cons_succ]
  refine wpAnyH_take (i := 1) (v := (.agg #[.slice (some x) n0 c0, .slice a1 n1 c1, .slice a2 n2 c2, .slice a3 n3 c3])) rfl (by kernel_rfl) (by kernel_rfl) (by kernel_rfl) (fun _ _ _ h => h) (Or.inl ⟨by rfl, fun w' hs => by have hq := QS.out w' hs; have y0 := hq.cell 0 rfl; have y1 := hq.cell 1 rfl; have y2 := hq.cell 2 rfl; have y3 := hq.cell 3 rfl; go_simp⟩) Sv0.out ?_
  change wpAnyH _ _ _ _ _ _ _ (Act.put _ (some 19) _) _
  simp only [Act.put, List.setIfInBounds_toArray, List.set_cons_zero, List.set_cons_succ]
  refine wpAnyH_take (i := 2) (v := (.int .i64 (g : Int))) rfl (by kernel_rfl) (by kernel_rfl) (by kernel_rfl) (fun _ _ _ h => h) (Or.inl ⟨by rfl, fun w' hs => by go_simp⟩) Sv0.out ?_
  change wpAnyH _ _ _ _ _ _ _ (Act.put _ (some 20) _) _
  simp only [Act.put, List.setIfInBounds_toArray, List.set_cons_zero, List.set_cons_succ]
  refine wpAnyH_take (i := 3) (v := (.pointer (some ⟨s, 5, none⟩))) rfl (by kernel_rfl) (by kernel_rfl) (by kernel_rfl) (fun _ _ _ h => h) (Or.inl ⟨by rfl, fun w' hs => by go_simp⟩) Sv0.out ?_
  change wpAnyH _ _ _ _ _ _ _ (Act.put _ (some 21) _) _
  simp only [Act.put, List.setIfInBounds_toArray, List.set_cons_zero, List.set_cons_succ]
  refine wpAnyH_take (i := 4) (v := (.slice (some ⟨hb, 0, none⟩) lh ch)) rfl (by kernel_rfl) (by kernel_rfl) (by kernel_rfl) (fun _ _ _ h => h) (Or.inl ⟨by rfl, fun w' hs => by have q5 := (QS.out w' hs).cell 5 rfl; go_simp⟩) Sv0.out ?_
  change wpAnyH _ _ _ _ _ _ _ (Act.put _ (some 22) _) _
  simp only [Act.put, List.setIfInBounds_toArray, List.set_cons_zero, List.set_cons_succ]
  refine wpAnyH_take (i := 5) (v := (.int .i64 (g : Int))) rfl (by kernel_rfl) (by kernel_rfl) (by kernel_rfl) (fun _ _ _ h => h) (Or.inl ⟨by rfl, fun w' hs => by go_simp⟩) Sv0.out ?_
  change wpAnyH _ _ _ _ _ _ _ (Act.put _ (some 23) _) _
  simp only [Act.put, List.setIfInBounds_toArray, List.set_cons_zero, List.set_cons_succ]
  refine wpAnyH_take (i := 6) (v := (.pointer (some ⟨hb, g * 9, none⟩))) rfl (by kernel_rfl) (by kernel_rfl) (by kernel_rfl) (fun _ _ _ h => h) (Or.inl ⟨by rfl, fun w' hs => by have i1 := LI.out.1.1; have i2 := LI.out.1.2; have i3 := LI.out.2.1; have i4 := LI.out.2.2; have y0 := (HC.out.stay (BS.out w' hs)).c0; go_simp⟩) Sv0.out ?_
  change wpAnyH _ _ _ _ _ _ _ (Act.put _ (some 24) _) _
  simp only [Act.put, List.setIfInBounds_toArray, List.set_cons_zero, List.set_cons_succ]
  refine wpAnyH_take (i := 7) (v := (.agg #[.slice d0 m0 k0, .int .i64 H.pc, .slice d1 m1 k1, .bool H.halted, .bool H.waiting, .bool H.rung, .int .i64 H.done, .slice d2 m2 k2, .slice d3 m3 k3])) rfl (by kernel_rfl) (by kernel_rfl) (by kernel_rfl) (fun _ _ _ h => h) (Or.inl ⟨by rfl, fun w' hs => by have hq := HC.out.stay (BS.out w' hs); have y0 := hq.c0; have y1 := hq.c1; have y2 := hq.c2; have y3 := hq.c3; have y4 := hq.c4; have y5 := hq.c5; have y6 := hq.c6; have y7 := hq.c7; have y8 := hq.c8; go_simp⟩) Sv0.out ?_
  change wpAnyH _ _ _ _ _ _ _ (Act.put _ (some 25) _) _
  simp only [Act.put, List.setIfInBounds_toArray, List.set_cons_zero, List.set_cons_succ]
  refine wpAnyH_take (i := 9) (v := (.pointer (some ⟨s, 4, none⟩))) rfl (by kernel_rfl) (by kernel_rfl) (by kernel_rfl) (fun _ _ _ h => h) (Or.inl ⟨by rfl, fun w' hs => by go_simp⟩) Sv0.out ?_
  change wpAnyH _ _ _ _ _ _ _ (Act.put _ (some 27) _) _
  simp only [Act.put, List.setIfInBounds_toArray, List.set_cons_zero, List.set_cons_succ]
  refine wpAnyH_take (i := 10) (v := (.slice (some ⟨gm, 0, none⟩) lm cm)) rfl (by kernel_rfl) (by kernel_rfl) (by kernel_rfl) (fun _ _ _ h => h) (Or.inl ⟨by rfl, fun w' hs => by have q4 := (QS.out w' hs).cell 4 rfl; go_simp⟩) Sv0.out ?_
  change wpAnyH _ _ _ _ _ _ _ (Act.put _ (some 28) _) _
  simp only [Act.put, List.setIfInBounds_toArray, List.set_cons_zero, List.set_cons_succ]
  refine wpAnyH_ready (rs := [8]) (by kernel_rfl) (by simp) ?_
  refine AllReadyH.cons rfl (fun K hK => ?_) AllReadyH.nil
  rw [if_pos (by rfl)]
  go_simp
  refine (i_machine _ _ _ _ H _ _ ((HM.out.keep B2.out).keep E0.out) HK.out.r16 HK.out.c11 (by have := HK.out.i40; omega) (by have := HK.out.o40; omega)).mono ?_
  rintro e u1 ⟨i2, o2, rfl, mi, mo, ap, b3⟩
  obtain ⟨ya, yk, rfl, _⟩ := mi.shape
  obtain ⟨za, zk, rfl, _⟩ := mo.shape
  obtain ⟨yn, hyn⟩ : ∃ n, H.inn.length = n := ⟨_, rfl⟩
  obtain ⟨zn, hzn⟩ : ∃ n, H.out.length = n := ⟨_, rfl⟩
  rw [hyn] at mi
  rw [hzn] at mo
  rw [hyn, hzn]
  have N1 : Hid (Nums u1 u0.heap.size (.slice ya yn yk) H.inn ∧ Nums u1 u0.heap.size (.slice za zn zk) H.out) := ⟨mi, mo⟩
  have Sv1 : Hid (SvN 12 w2 (s + 1) u1) := Sv0.out.step LT.out b3
  have E1 : Hid (Below w2.heap.size w2 u1) := on E0.out b3
  clear mi mo ap b3 hyn hzn
  refine hK.out _ _ Sv1.out (fun _ => ?_)
  clear hK K
  refine wpAnyH_ready (rs := [11]) (by kernel_rfl) (by simp) ?_
  refine AllReadyH.cons rfl (fun K hK => ?_) AllReadyH.nil
  rw [if_pos (by rfl)]
  go_simp
  refine (impl_cut gm lm cm X.mem b 24 _ ((D0.out.mem.keep B2.out).keep E1.out) OK.out.ml (by decide) (by decide)).mono ?_
  rintro e u2 ⟨pg, rfl, pgs, b4⟩
  have N2 : Hid (Nums u2 u0.heap.size (.slice ya yn yk) H.inn ∧ Nums u2 u0.heap.size (.slice za zn zk) H.out) := ⟨N1.out.1.keep b4, N1.out.2.keep b4⟩
  have PG : Hid (Pags u2 u1.heap.size (.slice (some ⟨pg, 0, none⟩) 24 24) 24 X.mem) := pgs
  have Sv2 : Hid (SvN 12 w2 (s + 1) u2) := Sv1.out.step LT.out b4
  have E2 : Hid (Below w2.heap.size w2 u2) := on E1.out b4
  clear pgs b4
  refine hK.out _ _ Sv2.out (fun _ => ?_)
  clear hK K
  refine wpAnyH_ready (rs := [12]) (by kernel_rfl) (by simp) ?_
  refine AllReadyH.cons rfl (fun K hK => ?_) AllReadyH.nil
  rw [if_pos (by rfl)]
  go_simp
  refine (i_hostView x a1 a2 a3 n0 c0 n1 c1 n2 c2 n3 c3 X.pol g ya yn yk za zn zk H pg 24 X.mem u2 ((D0.out.pol.stay B2.out).stay E2.out) GN.out.1 OK.out.l4 N2.out.1.rv N2.out.2.rv HK.out (fun k hk => PG.out.cell k hk) OK.out.ml OK.out.oo OK.out.o5 OK.out.gr (by have := OK.out.g4; omega)).mono ?_
  rintro e v1 ⟨r5, c5, i5, o5, l5, m5', rfl, v5, b5'⟩
  obtain ⟨xa0, xk0, x0e, _⟩ := v5.h.r.shape
  obtain ⟨xa1, xk1, x1e, _⟩ := v5.h.c.shape
  obtain ⟨xa2, xk2, x2e, _⟩ := v5.h.i.shape
  obtain ⟨xa3, xk3, x3e, _⟩ := v5.h.o.shape
  obtain ⟨xa4, xk4, x4e, _⟩ := v5.pl.shape
  obtain ⟨xa5, xk5, x5e, _⟩ := v5.mm.shape
  subst x0e x1e x2e x3e x4e x5e
  obtain ⟨x0, hx0⟩ : ∃ n, H.regs.length = n := ⟨_, rfl⟩
  obtain ⟨x1, hx1⟩ : ∃ n, H.csr.length = n := ⟨_, rfl⟩
  obtain ⟨x2, hx2⟩ : ∃ n, H.inn.length = n := ⟨_, rfl⟩
  obtain ⟨x3, hx3⟩ : ∃ n, H.out.length = n := ⟨_, rfl⟩
  obtain ⟨x4, hx4⟩ : ∃ n, (wordsL X.mem (X.pol.own.getD g [])).length = n := ⟨_, rfl⟩
  obtain ⟨x5, hx5⟩ : ∃ n, (wordsL X.mem (gvL true (g : Int) X.pol.lanes)).length = n := ⟨_, rfl⟩
  rw [hx0, hx1, hx2, hx3, hx4, hx5] at v5 ⊢
  have V1 : Hid (Vm v1 u2.heap.size (.slice xa0 x0 xk0) (.slice xa1 x1 xk1) (.slice xa2 x2 xk2) (.slice xa3 x3 xk3) (.slice xa4 x4 xk4) (.slice xa5 x5 xk5) H (wordsL X.mem (X.pol.own.getD g [])) (wordsL X.mem (gvL true (g : Int) X.pol.lanes))) := v5
  have Sv3 : Hid (SvN 12 w2 (s + 1) v1) := Sv2.out.step LT.out b5'
  have Z0 : Hid (w2.heap.size ≤ u2.heap.size) := E2.out.size
  clear v5 b5' hx0 hx1 hx2 hx3 hx4 hx5
  refine hK.out _ _ Sv3.out (fun _ => ?_)
  clear hK K
  refine wpAnyH_take (i := 13) (v := (.agg #[.int .i64 0, .slice xa0 x0 xk0, .int .i64 H.pc, .slice xa1 x1 xk1, .bool H.halted, .bool H.waiting, .bool H.rung, .int .i64 H.done, .slice xa2 x2 xk2, .slice xa3 x3 xk3, .slice xa4 x4 xk4, .slice xa5 x5 xk5])) rfl (by kernel_rfl) (by kernel_rfl) (by kernel_rfl) (fun _ _ _ h => h) (Or.inl ⟨by rfl, fun w' hs => by go_simp⟩) Sv3.out ?_
  change wpAnyH _ _ _ _ _ _ _ (Act.put _ (some 31) _) _
  simp only [Act.put, List.setIfInBounds_toArray, List.set_cons_zero, List.set_cons_succ]
  refine wpAnyH_ready (rs := [14]) (by kernel_rfl) (by simp) ?_
  refine AllReadyH.cons rfl (fun K hK => ?_) AllReadyH.nil
  rw [if_pos (by rfl)]
  refine wp_store_mid 38 (.tmp 4) (.tmp 31) rfl (s + 1) 0 #[.int .i64 0, .slice xa0 x0 xk0, .int .i64 H.pc, .slice xa1 x1 xk1, .bool H.halted, .bool H.waiting, .bool H.rung, .int .i64 H.done, .slice xa2 x2 xk2, .slice xa3 x3 xk3, .slice xa4 x4 xk4, .slice xa5 x5 xk5] rfl rfl Sv3.out.2 (by kernel_rfl) (by simp [Value.oneCell']) ?_
  change K (Act.put _ none undef) _
  simp only [Act.put]
  have S6 : Hid (SvN 12 w2 (s + 1) (v1.setCells (s + 1) 0 #[.int .i64 0, .slice xa0 x0 xk0, .int .i64 H.pc, .slice xa1 x1 xk1, .bool H.halted, .bool H.waiting, .bool H.rung, .int .i64 H.done, .slice xa2 x2 xk2, .slice xa3 x3 xk3, .slice xa4 x4 xk4, .slice xa5 x5 xk5].toList)) := Sv3.out.set _
  have R6 : Hid ((v1.setCells (s + 1) 0 #[.int .i64 0, .slice xa0 x0 xk0, .int .i64 H.pc, .slice xa1 x1 xk1, .bool H.halted, .bool H.waiting, .bool H.rung, .int .i64 H.done, .slice xa2 x2 xk2, .slice xa3 x3 xk3, .slice xa4 x4 xk4, .slice xa5 x5 xk5].toList).rangeAt (s + 1) 0 #[.int .i64 0, .slice xa0 x0 xk0, .int .i64 H.pc, .slice xa1 x1 xk1, .bool H.halted, .bool H.waiting, .bool H.rung, .int .i64 H.done, .slice xa2 x2 xk2, .slice xa3 x3 xk3, .slice xa4 x4 xk4, .slice xa5 x5 xk5].toList) := World.rangeAt_setCells_same _ _ _ _ Sv3.out.2
  have Q6 : Hid (Mq (fun k => k = s + 1) v1 (v1.setCells (s + 1) 0 #[.int .i64 0, .slice xa0 x0 xk0, .int .i64 H.pc, .slice xa1 x1 xk1, .bool H.halted, .bool H.waiting, .bool H.rung, .int .i64 H.done, .slice xa2 x2 xk2, .slice xa3 x3 xk3, .slice xa4 x4 xk4, .slice xa5 x5 xk5].toList)) := mq_cells (s + 1) _ v1 0
  generalize v1.setCells (s + 1) 0 #[.int .i64 0, .slice xa0 x0 xk0, .int .i64 H.pc, .slice xa1 x1 xk1, .bool H.halted, .bool H.waiting, .bool H.rung, .int .i64 H.done, .slice xa2 x2 xk2, .slice xa3 x3 xk3, .slice xa4 x4 xk4, .slice xa5 x5 xk5].toList = v6 at *
  refine hK.out _ _ S6.out (fun _ => ?_)
  clear hK K
  refine wpAnyH_done (by kernel_rfl) ?_ _
  have z1 : w.heap.size ≤ w2.heap.size := B2.out.size
  have z2 := Z0.out
  have o6 : Ho w2.heap.size v1 v6 := Q6.out.ho fun k e => by have := LT.out; omega
  have F : Hid (Vm v6 w.heap.size (.slice xa0 x0 xk0) (.slice xa1 x1 xk1) (.slice xa2 x2 xk2) (.slice xa3 x3 xk3) (.slice xa4 x4 xk4) (.slice xa5 x5 xk5) H (wordsL X.mem (X.pol.own.getD g [])) (wordsL X.mem (gvL true (g : Int) X.pol.lanes))) := by
    have v := V1.out
    exact ⟨((v.h.mono z2).ho o6).mono z1, v.a, ((v.pl.mono z2).ho o6).mono z1, ((v.mm.mono z2).ho o6).mono z1, v.rl, v.cl, v.il, v.ol, v.lm, v.rm, v.cm, v.im, v.om⟩
  have B6 : Hid (Below w.heap.size w v6) := BS.out _ S6.out
  have LD := run_loadVar_mid (P := Tryz.prog) v6 (s + 1) 0 38 #[.int .i64 0, .slice xa0 x0 xk0, .int .i64 H.pc, .slice xa1 x1 xk1, .bool H.halted, .bool H.waiting, .bool H.rung, .int .i64 H.done, .slice xa2 x2 xk2, .slice xa3 x3 xk3, .slice xa4 x4 xk4, .slice xa5 x5 xk5].toList _ R6.out Tryz.underlying38 rfl (by kernel_rfl)
  go_wp2_with fail
  exact bodyPost_ret (v := .agg #[.int .i64 0, .slice xa0 x0 xk0, .int .i64 H.pc, .slice xa1 x1 xk1, .bool H.halted, .bool H.waiting, .bool H.rung, .int .i64 H.done, .slice xa2 x2 xk2, .slice xa3 x3 xk3, .slice xa4 x4 xk4, .slice xa5 x5 xk5]) (by simp [results, Tryz.results7, asAddr]; rw [LD]) rfl ⟨_, _, _, _, _, _, rfl, F.out, B6.out⟩
theorem i_viewOf (a0 a1 a2 a3 : Option Addr) (n0 c0 n1 c1 n2 c2 n3 c3 : Nat) (m h : Value) (X : Hst) (gu : Int) (b : Nat) (w : World) (d : Oj w b a0 n0 c0 a1 n1 c1 a2 n2 c2 a3 n3 c3 m h X) (hg : w.cell? ⟨0, 0, none⟩ = some (.iface 185 (.agg #[.pointer (some ⟨1, 142, none⟩)]))) :
    Calls Tryz.prog 7 #[.agg #[.slice a0 n0 c0, .slice a1 n1 c1, .slice a2 n2 c2, .slice a3 n3 c3, m, h, .int .i64 X.slot, .int .i64 X.left, .int .i64 X.clock], .int .i64 gu] w fun e w' => ∃ r' c' i' o' l' m', e = .returned (.agg #[.int .i64 (voC X gu), r', .int .i64 (voH X gu).pc, c', .bool (voH X gu).halted, .bool (voH X gu).waiting, .bool (voH X gu).rung, .int .i64 (voH X gu).done, i', o', l', m']) ∧ Vm w' w.heap.size r' c' i' o' l' m' (voH X gu) (voO X gu) (voG X gu) ∧ Below w.heap.size w w' := by
  by_cases hv : hoV X = 0
  · cases hgu : isG X.pol.own.length gu
    · exact ivf_none _ _ _ _ _ _ _ _ _ _ _ _ m h X gu b w d hg hv hgu
    · obtain ⟨g, rfl⟩ := Int.eq_ofNat_of_zero_le ((isG_iff _ _).1 hgu).1
      exact ivf_good _ _ _ _ _ _ _ _ _ _ _ _ m h X g b w d hg hv hgu
  · exact ivf_fault _ _ _ _ _ _ _ _ _ _ _ _ m h X gu b w d hg hv
end Go.Proofs.YthebikoahfcdaaaGreatDoor
