/- Texts of this seat, joined. -/
import Derived.Deep.RegionWith
import Derived.Deep.RegionHeld3
import Derived.Deep.Cut
import Derived.Deep.CutRange
import Derived.Test.YtadkhognlapckaaGreatDoorQ33
import Derived.Test.YtadkhognlapckaaGreatDoorQ45
import Derived.Test.YtadkhognlapckaaGreatDoorQ48
namespace Go.Proofs.YtadkhognlapckaaGreatDoor
open Go.RowKit
set_option linter.unusedVariables false

set_option maxRecDepth 20000 in
set_option maxHeartbeats 8000000 in
theorem sv_ask (a0 a1 a2 a3 : Option Addr) (n0 c0 n1 c1 n2 c2 n3 c3 : Nat) (P : Plc) (r c i o l m : Value) (H : Ht) (ps : List (Int × Int)) (zs : List Int) (gu : Int) (b : Nat) (w : World) (hp : Pl w a0 n0 c0 a1 n1 c1 a2 n2 c2 a3 n3 c3 P) (h : Sm w b r c i o l m H ps zs) (hl : ps.length ≤ 1048576)  (hx : askV P gu ≠ 0) :
    Calls Tryz.prog 6 #[.agg #[.slice a0 n0 c0, .slice a1 n1 c1, .slice a2 n2 c2, .slice a3 n3 c3], .agg #[r, .int .i64 H.pc, c, .bool H.halted, .bool H.waiting, .bool H.rung, .int .i64 H.done, i, o, l, m], .int .i64 gu] w fun e w' => ∃ r' c' i' o' l' m', e = .returned (.agg #[.int .i64 (svC P gu H ps zs), r', .int .i64 (svH P gu H ps zs).pc, c', .bool (svH P gu H ps zs).halted, .bool (svH P gu H ps zs).waiting, .bool (svH P gu H ps zs).rung, .int .i64 (svH P gu H ps zs).done, i', o', l', m']) ∧ Vm w' w.heap.size r' c' i' o' l' m' (svH P gu H ps zs) (svO P gu H ps zs) (svG P gu H ps zs) ∧ Below w.heap.size w w' := by
  have hv : svC P gu H ps zs = askV P gu := by rw [svC, if_neg hx]
  have hu := sv_not P gu H ps zs (by rw [hv]; exact hx)
  rw [hu.1, hu.2.1, hu.2.2, hv]
  clear hu hv
  obtain ⟨x, hX⟩ : ∃ x, askV P gu = x := ⟨_, rfl⟩
  have HX : Hid (askV P gu = x) := hX
  rw [hX] at hx ⊢
  have hx0 : (x != 0) = true := by simp [hx]
  clear hX hx
  obtain ⟨d0, k0, e0, _⟩ := h.h.r.shape
  obtain ⟨d1, k1, e1, _⟩ := h.h.c.shape
  obtain ⟨d2, k2, e2, _⟩ := h.h.i.shape
  obtain ⟨d3, k3, e3, _⟩ := h.h.o.shape
  obtain ⟨d4, k4, e4, _⟩ := h.pl.shape
  obtain ⟨d5, k5, e5, _⟩ := h.mm.shape
  subst e0 e1 e2 e3 e4 e5
  obtain ⟨m0, hm0⟩ : ∃ n, H.regs.length = n := ⟨_, rfl⟩
  obtain ⟨m1, hm1⟩ : ∃ n, H.csr.length = n := ⟨_, rfl⟩
  obtain ⟨m2, hm2⟩ : ∃ n, H.inn.length = n := ⟨_, rfl⟩
  obtain ⟨m3, hm3⟩ : ∃ n, H.out.length = n := ⟨_, rfl⟩
  obtain ⟨m4, hm4⟩ : ∃ n, ps.length = n := ⟨_, rfl⟩
  obtain ⟨m5, hm5⟩ : ∃ n, zs.length = n := ⟨_, rfl⟩
  rw [hm0, hm1, hm2, hm3, hm4, hm5] at h ⊢
  have HS : Hid (Sm w b (.slice d0 m0 k0) (.slice d1 m1 k1) (.slice d2 m2 k2) (.slice d3 m3 k3) (.slice d4 m4 k4) (.slice d5 m5 k5) H ps zs) := h
  have HL : Hid (ps.length ≤ 1048576) := hl
  have LN : Hid (zs.length = m5) := hm5
  clear h hl hm0 hm1 hm2 hm3 hm4 hm5
  generalize hW : ((w.alloc (.cells #[.slice a0 n0 c0, .slice a1 n1 c1, .slice a2 n2 c2, .slice a3 n3 c3] 46)).alloc (.cells #[.slice d0 m0 k0, .int .i64 H.pc, .slice d1 m1 k1, .bool H.halted, .bool H.waiting, .bool H.rung, .int .i64 H.done, .slice d2 m2 k2, .slice d3 m3 k3, .slice d4 m4 k4, .slice d5 m5 k5] 50)).alloc (.cells #[.int .i64 0, .slice none 0 0, .int .i64 0, .slice none 0 0, .bool false, .bool false, .bool false, .int .i64 0, .slice none 0 0, .slice none 0 0, .slice none 0 0, .slice none 0 0] 40) = W
  have B0 : Hid (Below w.heap.size w W) := by show Below _ _ _; rw [← hW]; exact al (al (al (Below.refl _ _) _) _) _
  obtain ⟨s, hS⟩ : ∃ s, w.heap.size = s := ⟨_, rfl⟩
  have HSs : Hid (w.heap.size = s) := hS
  have z1 : s + 1 = (w.alloc (.cells #[.slice a0 n0 c0, .slice a1 n1 c1, .slice a2 n2 c2, .slice a3 n3 c3] 46)).heap.size := by rw [← hS]; simp
  have z2 : s + 2 = ((w.alloc (.cells #[.slice a0 n0 c0, .slice a1 n1 c1, .slice a2 n2 c2, .slice a3 n3 c3] 46)).alloc (.cells #[.slice d0 m0 k0, .int .i64 H.pc, .slice d1 m1 k1, .bool H.halted, .bool H.waiting, .bool H.rung, .int .i64 H.done, .slice d2 m2 k2, .slice d3 m3 k3, .slice d4 m4 k4, .slice d5 m5 k5] 50)).heap.size := by rw [← hS]; simp
  have Q : Hid (Vb W s #[.slice a0 n0 c0, .slice a1 n1 c1, .slice a2 n2 c2, .slice a3 n3 c3] 46) := by show Vb _ _ _ _; rw [← hW, ← hS]; exact ((Vb.new _ _ _).push _).push _
  have S : Hid (Vb W (s + 1) #[.slice d0 m0 k0, .int .i64 H.pc, .slice d1 m1 k1, .bool H.halted, .bool H.waiting, .bool H.rung, .int .i64 H.done, .slice d2 m2 k2, .slice d3 m3 k3, .slice d4 m4 k4, .slice d5 m5 k5] 50) := by show Vb _ _ _ _; rw [← hW, z1]; exact (Vb.new _ _ _).push _
  have R : Hid (Vb W (s + 2) #[.int .i64 0, .slice none 0 0, .int .i64 0, .slice none 0 0, .bool false, .bool false, .bool false, .int .i64 0, .slice none 0 0, .slice none 0 0, .slice none 0 0, .slice none 0 0] 40) := by show Vb _ _ _ _; rw [← hW, z2]; exact Vb.new _ _ _
  clear z1 z2
  have HP : Hid (Pl W a0 n0 c0 a1 n1 c1 a2 n2 c2 a3 n3 c3 P) := hp.stay B0.out
  have HA : Hid (PolAt W s P) := ⟨_, _, _, _, _, _, _, _, _, _, _, _, Q.out.cell 0 rfl, Q.out.cell 1 rfl, Q.out.cell 2 rfl, Q.out.cell 3 rfl, HP.out⟩
  clear hp
  have q0 := Q.out.cell 0 rfl
  have q1 := Q.out.cell 1 rfl
  have q2 := Q.out.cell 2 rfl
  have q3 := Q.out.cell 3 rfl
  go_enter Tryz.func6, Tryz.ntmps6
  go_wp2_with fail
  clear hW hS q0 q1 q2 q3
  refine (l6_asked _ _ P _ HA.out).mono ?_
  rw [HX.out]
  rintro e w1 ⟨rfl, b1⟩
  have B1 : Hid (Below w.heap.size w w1) := on B0.out b1
  have R1 : Hid (Vb w1 (s + 2) #[.int .i64 0, .slice none 0 0, .int .i64 0, .slice none 0 0, .bool false, .bool false, .bool false, .int .i64 0, .slice none 0 0, .slice none 0 0, .slice none 0 0, .slice none 0 0] 40) := R.out.keep b1
  have S1 : Hid (Vb w1 (s + 1) #[.slice d0 m0 k0, .int .i64 H.pc, .slice d1 m1 k1, .bool H.halted, .bool H.waiting, .bool H.rung, .int .i64 H.done, .slice d2 m2 k2, .slice d3 m3 k3, .slice d4 m4 k4, .slice d5 m5 k5] 50) := S.out.keep b1
  have Q1 : Hid (Vb w1 s #[.slice a0 n0 c0, .slice a1 n1 c1, .slice a2 n2 c2, .slice a3 n3 c3] 46) := Q.out.keep b1
  have HP1 : Hid (Pl w1 a0 n0 c0 a1 n1 c1 a2 n2 c2 a3 n3 c3 P) := HP.out.stay b1
  clear b1
  have p0 := R1.out.cell 0 rfl
  have f0 := R1.out.free 0
  have p1 := R1.out.cell 1 rfl
  have f1 := R1.out.free 1
  have p2 := R1.out.cell 2 rfl
  have f2 := R1.out.free 2
  have p3 := R1.out.cell 3 rfl
  have f3 := R1.out.free 3
  have p4 := R1.out.cell 4 rfl
  have f4 := R1.out.free 4
  have p5 := R1.out.cell 5 rfl
  have f5 := R1.out.free 5
  have p6 := R1.out.cell 6 rfl
  have f6 := R1.out.free 6
  have p7 := R1.out.cell 7 rfl
  have f7 := R1.out.free 7
  have p8 := R1.out.cell 8 rfl
  have f8 := R1.out.free 8
  have p9 := R1.out.cell 9 rfl
  have f9 := R1.out.free 9
  have p10 := R1.out.cell 10 rfl
  have f10 := R1.out.free 10
  have p11 := R1.out.cell 11 rfl
  have f11 := R1.out.free 11
  have lt := R1.out.lt
  go_wp2_with fail
  clear lt p0 f0 p1 f1 p2 f2 p3 f3 p4 f4 p5 f5 p6 f6 p7 f7 p8 f8 p9 f9 p10 f10 p11 f11
  have NN : Hid (_ ∧ _) := twelveV R1.out (.int .i64 x) (.slice none 0 0) (.int .i64 0) (.slice none 0 0) (.bool false) (.bool false) (.bool false) (.int .i64 0) (.slice none 0 0) (.slice none 0 0) (.slice none 0 0) (.slice none 0 0)
  generalize ((((((((((((w1.setCell ⟨s + 2, 0, none⟩ (.int .i64 x)).setCell ⟨s + 2, 1, none⟩ (.slice none 0 0)).setCell ⟨s + 2, 2, none⟩ (.int .i64 0)).setCell ⟨s + 2, 3, none⟩ (.slice none 0 0)).setCell ⟨s + 2, 4, none⟩ (.bool false)).setCell ⟨s + 2, 5, none⟩ (.bool false)).setCell ⟨s + 2, 6, none⟩ (.bool false)).setCell ⟨s + 2, 7, none⟩ (.int .i64 0)).setCell ⟨s + 2, 8, none⟩ (.slice none 0 0)).setCell ⟨s + 2, 9, none⟩ (.slice none 0 0)).setCell ⟨s + 2, 10, none⟩ (.slice none 0 0)).setCell ⟨s + 2, 11, none⟩ (.slice none 0 0)) = W9 at *
  have x0 := NN.out.1.cell 0 rfl
  have x1 := NN.out.1.cell 1 rfl
  have x2 := NN.out.1.cell 2 rfl
  have x3 := NN.out.1.cell 3 rfl
  have x4 := NN.out.1.cell 4 rfl
  have x5 := NN.out.1.cell 5 rfl
  have x6 := NN.out.1.cell 6 rfl
  have x7 := NN.out.1.cell 7 rfl
  have x8 := NN.out.1.cell 8 rfl
  have x9 := NN.out.1.cell 9 rfl
  have x10 := NN.out.1.cell 10 rfl
  have x11 := NN.out.1.cell 11 rfl
  exact bodyPost_ret (v := .agg #[.int .i64 x, .slice none 0 0, .int .i64 0, .slice none 0 0, .bool false, .bool false, .bool false, .int .i64 0, .slice none 0 0, .slice none 0 0, .slice none 0 0, .slice none 0 0]) (by simp [results, Tryz.results6, go_sem, x0, x1, x2, x3, x4, x5, x6, x7, x8, x9, x10, x11]) rfl
    ⟨_, _, _, _, _, _, rfl, vm_void _ _, Mq.under B1.out NN.out.2 fun k e => by have := HSs.out; omega⟩
set_option maxRecDepth 20000 in
set_option maxHeartbeats 8000000 in
theorem sv_sf (a0 a1 a2 a3 : Option Addr) (n0 c0 n1 c1 n2 c2 n3 c3 : Nat) (P : Plc) (r c i o l m : Value) (H : Ht) (ps : List (Int × Int)) (zs : List Int) (gu : Int) (b : Nat) (w : World) (hp : Pl w a0 n0 c0 a1 n1 c1 a2 n2 c2 a3 n3 c3 P) (h : Sm w b r c i o l m H ps zs) (hl : ps.length ≤ 1048576)  (ha : askV P gu = 0) (hx : sfV H ps zs ≠ 0) :
    Calls Tryz.prog 6 #[.agg #[.slice a0 n0 c0, .slice a1 n1 c1, .slice a2 n2 c2, .slice a3 n3 c3], .agg #[r, .int .i64 H.pc, c, .bool H.halted, .bool H.waiting, .bool H.rung, .int .i64 H.done, i, o, l, m], .int .i64 gu] w fun e w' => ∃ r' c' i' o' l' m', e = .returned (.agg #[.int .i64 (svC P gu H ps zs), r', .int .i64 (svH P gu H ps zs).pc, c', .bool (svH P gu H ps zs).halted, .bool (svH P gu H ps zs).waiting, .bool (svH P gu H ps zs).rung, .int .i64 (svH P gu H ps zs).done, i', o', l', m']) ∧ Vm w' w.heap.size r' c' i' o' l' m' (svH P gu H ps zs) (svO P gu H ps zs) (svG P gu H ps zs) ∧ Below w.heap.size w w' := by
  have hv : svC P gu H ps zs = sfV H ps zs := by rw [svC, if_pos ha]
  have hu := sv_not P gu H ps zs (by rw [hv]; exact hx)
  rw [hu.1, hu.2.1, hu.2.2, hv]
  clear hu hv
  obtain ⟨x, hX⟩ : ∃ x, sfV H ps zs = x := ⟨_, rfl⟩
  have HX : Hid (sfV H ps zs = x) := hX
  rw [hX] at hx ⊢
  have hx0 : (x != 0) = true := by simp [hx]
  clear hX hx
  have HA0 : Hid (askV P gu = 0) := ha
  clear ha
  obtain ⟨d0, k0, e0, _⟩ := h.h.r.shape
  obtain ⟨d1, k1, e1, _⟩ := h.h.c.shape
  obtain ⟨d2, k2, e2, _⟩ := h.h.i.shape
  obtain ⟨d3, k3, e3, _⟩ := h.h.o.shape
  obtain ⟨d4, k4, e4, _⟩ := h.pl.shape
  obtain ⟨d5, k5, e5, _⟩ := h.mm.shape
  subst e0 e1 e2 e3 e4 e5
  obtain ⟨m0, hm0⟩ : ∃ n, H.regs.length = n := ⟨_, rfl⟩
  obtain ⟨m1, hm1⟩ : ∃ n, H.csr.length = n := ⟨_, rfl⟩
  obtain ⟨m2, hm2⟩ : ∃ n, H.inn.length = n := ⟨_, rfl⟩
  obtain ⟨m3, hm3⟩ : ∃ n, H.out.length = n := ⟨_, rfl⟩
  obtain ⟨m4, hm4⟩ : ∃ n, ps.length = n := ⟨_, rfl⟩
  obtain ⟨m5, hm5⟩ : ∃ n, zs.length = n := ⟨_, rfl⟩
  rw [hm0, hm1, hm2, hm3, hm4, hm5] at h ⊢
  have HS : Hid (Sm w b (.slice d0 m0 k0) (.slice d1 m1 k1) (.slice d2 m2 k2) (.slice d3 m3 k3) (.slice d4 m4 k4) (.slice d5 m5 k5) H ps zs) := h
  have HL : Hid (ps.length ≤ 1048576) := hl
  have LN : Hid (zs.length = m5) := hm5
  clear h hl hm0 hm1 hm2 hm3 hm4 hm5
  generalize hW : ((w.alloc (.cells #[.slice a0 n0 c0, .slice a1 n1 c1, .slice a2 n2 c2, .slice a3 n3 c3] 46)).alloc (.cells #[.slice d0 m0 k0, .int .i64 H.pc, .slice d1 m1 k1, .bool H.halted, .bool H.waiting, .bool H.rung, .int .i64 H.done, .slice d2 m2 k2, .slice d3 m3 k3, .slice d4 m4 k4, .slice d5 m5 k5] 50)).alloc (.cells #[.int .i64 0, .slice none 0 0, .int .i64 0, .slice none 0 0, .bool false, .bool false, .bool false, .int .i64 0, .slice none 0 0, .slice none 0 0, .slice none 0 0, .slice none 0 0] 40) = W
  have B0 : Hid (Below w.heap.size w W) := by show Below _ _ _; rw [← hW]; exact al (al (al (Below.refl _ _) _) _) _
  obtain ⟨s, hS⟩ : ∃ s, w.heap.size = s := ⟨_, rfl⟩
  have HSs : Hid (w.heap.size = s) := hS
  have z1 : s + 1 = (w.alloc (.cells #[.slice a0 n0 c0, .slice a1 n1 c1, .slice a2 n2 c2, .slice a3 n3 c3] 46)).heap.size := by rw [← hS]; simp
  have z2 : s + 2 = ((w.alloc (.cells #[.slice a0 n0 c0, .slice a1 n1 c1, .slice a2 n2 c2, .slice a3 n3 c3] 46)).alloc (.cells #[.slice d0 m0 k0, .int .i64 H.pc, .slice d1 m1 k1, .bool H.halted, .bool H.waiting, .bool H.rung, .int .i64 H.done, .slice d2 m2 k2, .slice d3 m3 k3, .slice d4 m4 k4, .slice d5 m5 k5] 50)).heap.size := by rw [← hS]; simp
  have Q : Hid (Vb W s #[.slice a0 n0 c0, .slice a1 n1 c1, .slice a2 n2 c2, .slice a3 n3 c3] 46) := by show Vb _ _ _ _; rw [← hW, ← hS]; exact ((Vb.new _ _ _).push _).push _
  have S : Hid (Vb W (s + 1) #[.slice d0 m0 k0, .int .i64 H.pc, .slice d1 m1 k1, .bool H.halted, .bool H.waiting, .bool H.rung, .int .i64 H.done, .slice d2 m2 k2, .slice d3 m3 k3, .slice d4 m4 k4, .slice d5 m5 k5] 50) := by show Vb _ _ _ _; rw [← hW, z1]; exact (Vb.new _ _ _).push _
  have R : Hid (Vb W (s + 2) #[.int .i64 0, .slice none 0 0, .int .i64 0, .slice none 0 0, .bool false, .bool false, .bool false, .int .i64 0, .slice none 0 0, .slice none 0 0, .slice none 0 0, .slice none 0 0] 40) := by show Vb _ _ _ _; rw [← hW, z2]; exact Vb.new _ _ _
  clear z1 z2
  have HP : Hid (Pl W a0 n0 c0 a1 n1 c1 a2 n2 c2 a3 n3 c3 P) := hp.stay B0.out
  have HA : Hid (PolAt W s P) := ⟨_, _, _, _, _, _, _, _, _, _, _, _, Q.out.cell 0 rfl, Q.out.cell 1 rfl, Q.out.cell 2 rfl, Q.out.cell 3 rfl, HP.out⟩
  clear hp
  have q0 := Q.out.cell 0 rfl
  have q1 := Q.out.cell 1 rfl
  have q2 := Q.out.cell 2 rfl
  have q3 := Q.out.cell 3 rfl
  go_enter Tryz.func6, Tryz.ntmps6
  go_wp2_with fail
  clear hW hS q0 q1 q2 q3
  refine (l6_asked _ _ P _ HA.out).mono ?_
  rw [HA0.out]
  rintro e w1 ⟨rfl, b1⟩
  have B1 : Hid (Below w.heap.size w w1) := on B0.out b1
  have R1 : Hid (Vb w1 (s + 2) #[.int .i64 0, .slice none 0 0, .int .i64 0, .slice none 0 0, .bool false, .bool false, .bool false, .int .i64 0, .slice none 0 0, .slice none 0 0, .slice none 0 0, .slice none 0 0] 40) := R.out.keep b1
  have S1 : Hid (Vb w1 (s + 1) #[.slice d0 m0 k0, .int .i64 H.pc, .slice d1 m1 k1, .bool H.halted, .bool H.waiting, .bool H.rung, .int .i64 H.done, .slice d2 m2 k2, .slice d3 m3 k3, .slice d4 m4 k4, .slice d5 m5 k5] 50) := S.out.keep b1
  have Q1 : Hid (Vb w1 s #[.slice a0 n0 c0, .slice a1 n1 c1, .slice a2 n2 c2, .slice a3 n3 c3] 46) := Q.out.keep b1
  have HP1 : Hid (Pl w1 a0 n0 c0 a1 n1 c1 a2 n2 c2 a3 n3 c3 P) := HP.out.stay b1
  clear b1
  have y0 := S1.out.cell 0 rfl
  have y1 := S1.out.cell 1 rfl
  have y2 := S1.out.cell 2 rfl
  have y3 := S1.out.cell 3 rfl
  have y4 := S1.out.cell 4 rfl
  have y5 := S1.out.cell 5 rfl
  have y6 := S1.out.cell 6 rfl
  have y7 := S1.out.cell 7 rfl
  have y8 := S1.out.cell 8 rfl
  have y9 := S1.out.cell 9 rfl
  have y10 := S1.out.cell 10 rfl
  go_wp2_with fail
  clear y0 y1 y2 y3 y4 y5 y6 y7 y8 y9 y10
  refine (s_soloFault _ _ _ _ _ _ H ps zs _ _ (HS.out.keep B1.out) HL.out).mono ?_
  rw [HX.out]
  rintro e w2 ⟨rfl, b2⟩
  have B2 : Hid (Below w.heap.size w w2) := on B1.out b2
  have R2 : Hid (Vb w2 (s + 2) #[.int .i64 0, .slice none 0 0, .int .i64 0, .slice none 0 0, .bool false, .bool false, .bool false, .int .i64 0, .slice none 0 0, .slice none 0 0, .slice none 0 0, .slice none 0 0] 40) := R1.out.keep b2
  clear b2
  have p0 := R2.out.cell 0 rfl
  have f0 := R2.out.free 0
  have p1 := R2.out.cell 1 rfl
  have f1 := R2.out.free 1
  have p2 := R2.out.cell 2 rfl
  have f2 := R2.out.free 2
  have p3 := R2.out.cell 3 rfl
  have f3 := R2.out.free 3
  have p4 := R2.out.cell 4 rfl
  have f4 := R2.out.free 4
  have p5 := R2.out.cell 5 rfl
  have f5 := R2.out.free 5
  have p6 := R2.out.cell 6 rfl
  have f6 := R2.out.free 6
  have p7 := R2.out.cell 7 rfl
  have f7 := R2.out.free 7
  have p8 := R2.out.cell 8 rfl
  have f8 := R2.out.free 8
  have p9 := R2.out.cell 9 rfl
  have f9 := R2.out.free 9
  have p10 := R2.out.cell 10 rfl
  have f10 := R2.out.free 10
  have p11 := R2.out.cell 11 rfl
  have f11 := R2.out.free 11
  have lt := R2.out.lt
  go_wp2_with fail
  clear lt p0 f0 p1 f1 p2 f2 p3 f3 p4 f4 p5 f5 p6 f6 p7 f7 p8 f8 p9 f9 p10 f10 p11 f11
  have NN : Hid (_ ∧ _) := twelveV R2.out (.int .i64 x) (.slice none 0 0) (.int .i64 0) (.slice none 0 0) (.bool false) (.bool false) (.bool false) (.int .i64 0) (.slice none 0 0) (.slice none 0 0) (.slice none 0 0) (.slice none 0 0)
  generalize ((((((((((((w2.setCell ⟨s + 2, 0, none⟩ (.int .i64 x)).setCell ⟨s + 2, 1, none⟩ (.slice none 0 0)).setCell ⟨s + 2, 2, none⟩ (.int .i64 0)).setCell ⟨s + 2, 3, none⟩ (.slice none 0 0)).setCell ⟨s + 2, 4, none⟩ (.bool false)).setCell ⟨s + 2, 5, none⟩ (.bool false)).setCell ⟨s + 2, 6, none⟩ (.bool false)).setCell ⟨s + 2, 7, none⟩ (.int .i64 0)).setCell ⟨s + 2, 8, none⟩ (.slice none 0 0)).setCell ⟨s + 2, 9, none⟩ (.slice none 0 0)).setCell ⟨s + 2, 10, none⟩ (.slice none 0 0)).setCell ⟨s + 2, 11, none⟩ (.slice none 0 0)) = W9 at *
  have x0 := NN.out.1.cell 0 rfl
  have x1 := NN.out.1.cell 1 rfl
  have x2 := NN.out.1.cell 2 rfl
  have x3 := NN.out.1.cell 3 rfl
  have x4 := NN.out.1.cell 4 rfl
  have x5 := NN.out.1.cell 5 rfl
  have x6 := NN.out.1.cell 6 rfl
  have x7 := NN.out.1.cell 7 rfl
  have x8 := NN.out.1.cell 8 rfl
  have x9 := NN.out.1.cell 9 rfl
  have x10 := NN.out.1.cell 10 rfl
  have x11 := NN.out.1.cell 11 rfl
  exact bodyPost_ret (v := .agg #[.int .i64 x, .slice none 0 0, .int .i64 0, .slice none 0 0, .bool false, .bool false, .bool false, .int .i64 0, .slice none 0 0, .slice none 0 0, .slice none 0 0, .slice none 0 0]) (by simp [results, Tryz.results6, go_sem, x0, x1, x2, x3, x4, x5, x6, x7, x8, x9, x10, x11]) rfl
    ⟨_, _, _, _, _, _, rfl, vm_void _ _, Mq.under B2.out NN.out.2 fun k e => by have := HSs.out; omega⟩
end Go.Proofs.YtadkhognlapckaaGreatDoor
namespace Go.Proofs.YtadkhognlapckaaGreatDoor
open Go.RowKit
set_option linter.unusedVariables false

set_option maxRecDepth 20000 in
set_option maxHeartbeats 8000000 in
theorem sv_good (a0 a1 a2 a3 : Option Addr) (n0 c0 n1 c1 n2 c2 n3 c3 : Nat) (P : Plc) (r c i o l m : Value) (H : Ht) (ps : List (Int × Int)) (zs : List Int) (g : Nat) (b : Nat) (w : World) (hp : Pl w a0 n0 c0 a1 n1 c1 a2 n2 c2 a3 n3 c3 P) (h : Sm w b r c i o l m H ps zs) (hl : ps.length ≤ 1048576)  (ha : askV P (g : Int) = 0) (hx : sfV H ps zs = 0) :
    Calls Tryz.prog 6 #[.agg #[.slice a0 n0 c0, .slice a1 n1 c1, .slice a2 n2 c2, .slice a3 n3 c3], .agg #[r, .int .i64 H.pc, c, .bool H.halted, .bool H.waiting, .bool H.rung, .int .i64 H.done, i, o, l, m], .int .i64 (g : Int)] w fun e w' => ∃ r' c' i' o' l' m', e = .returned (.agg #[.int .i64 (svC P (g : Int) H ps zs), r', .int .i64 (svH P (g : Int) H ps zs).pc, c', .bool (svH P (g : Int) H ps zs).halted, .bool (svH P (g : Int) H ps zs).waiting, .bool (svH P (g : Int) H ps zs).rung, .int .i64 (svH P (g : Int) H ps zs).done, i', o', l', m']) ∧ Vm w' w.heap.size r' c' i' o' l' m' (svH P (g : Int) H ps zs) (svO P (g : Int) H ps zs) (svG P (g : Int) H ps zs) ∧ Below w.heap.size w w' := by
  have hv : svC P (g : Int) H ps zs = 0 := by rw [svC, if_pos ha]; exact hx
  have hu := sv_yes P (g : Int) H ps zs hv
  rw [hu.1, hu.2.1, hu.2.2, hv, Int.toNat_natCast]
  clear hu hv
  have SP : Hid (_ ∧ _) := sv_pol P g ha
  have SS : Hid (_ ∧ _) := sv_sol H ps zs hx
  have HA0 : Hid (askV P (g : Int) = 0) := ha
  have HX : Hid (sfV H ps zs = 0) := hx
  clear ha hx
  obtain ⟨ol, hol⟩ : ∃ n, (P.own.getD g []).length = n := ⟨_, rfl⟩
  have HOL : Hid ((P.own.getD g []).length = ol) := hol
  rw [hol]
  clear hol
  obtain ⟨d0, k0, e0, _⟩ := h.h.r.shape
  obtain ⟨d1, k1, e1, _⟩ := h.h.c.shape
  obtain ⟨d2, k2, e2, _⟩ := h.h.i.shape
  obtain ⟨d3, k3, e3, _⟩ := h.h.o.shape
  obtain ⟨d4, k4, e4, _⟩ := h.pl.shape
  obtain ⟨d5, k5, e5, _⟩ := h.mm.shape
  subst e0 e1 e2 e3 e4 e5
  obtain ⟨m0, hm0⟩ : ∃ n, H.regs.length = n := ⟨_, rfl⟩
  obtain ⟨m1, hm1⟩ : ∃ n, H.csr.length = n := ⟨_, rfl⟩
  obtain ⟨m2, hm2⟩ : ∃ n, H.inn.length = n := ⟨_, rfl⟩
  obtain ⟨m3, hm3⟩ : ∃ n, H.out.length = n := ⟨_, rfl⟩
  obtain ⟨m4, hm4⟩ : ∃ n, ps.length = n := ⟨_, rfl⟩
  obtain ⟨m5, hm5⟩ : ∃ n, zs.length = n := ⟨_, rfl⟩
  rw [hm0, hm1, hm2, hm3, hm4, hm5] at h ⊢
  have HS : Hid (Sm w b (.slice d0 m0 k0) (.slice d1 m1 k1) (.slice d2 m2 k2) (.slice d3 m3 k3) (.slice d4 m4 k4) (.slice d5 m5 k5) H ps zs) := h
  have HL : Hid (ps.length ≤ 1048576) := hl
  have LN : Hid (zs.length = m5) := hm5
  clear h hl hm0 hm1 hm2 hm3 hm4 hm5
  generalize hW : ((w.alloc (.cells #[.slice a0 n0 c0, .slice a1 n1 c1, .slice a2 n2 c2, .slice a3 n3 c3] 46)).alloc (.cells #[.slice d0 m0 k0, .int .i64 H.pc, .slice d1 m1 k1, .bool H.halted, .bool H.waiting, .bool H.rung, .int .i64 H.done, .slice d2 m2 k2, .slice d3 m3 k3, .slice d4 m4 k4, .slice d5 m5 k5] 50)).alloc (.cells #[.int .i64 0, .slice none 0 0, .int .i64 0, .slice none 0 0, .bool false, .bool false, .bool false, .int .i64 0, .slice none 0 0, .slice none 0 0, .slice none 0 0, .slice none 0 0] 40) = W
  have B0 : Hid (Below w.heap.size w W) := by show Below _ _ _; rw [← hW]; exact al (al (al (Below.refl _ _) _) _) _
  obtain ⟨s, hS⟩ : ∃ s, w.heap.size = s := ⟨_, rfl⟩
  have HSs : Hid (w.heap.size = s) := hS
  have z1 : s + 1 = (w.alloc (.cells #[.slice a0 n0 c0, .slice a1 n1 c1, .slice a2 n2 c2, .slice a3 n3 c3] 46)).heap.size := by rw [← hS]; simp
  have z2 : s + 2 = ((w.alloc (.cells #[.slice a0 n0 c0, .slice a1 n1 c1, .slice a2 n2 c2, .slice a3 n3 c3] 46)).alloc (.cells #[.slice d0 m0 k0, .int .i64 H.pc, .slice d1 m1 k1, .bool H.halted, .bool H.waiting, .bool H.rung, .int .i64 H.done, .slice d2 m2 k2, .slice d3 m3 k3, .slice d4 m4 k4, .slice d5 m5 k5] 50)).heap.size := by rw [← hS]; simp
  have Q : Hid (Vb W s #[.slice a0 n0 c0, .slice a1 n1 c1, .slice a2 n2 c2, .slice a3 n3 c3] 46) := by show Vb _ _ _ _; rw [← hW, ← hS]; exact ((Vb.new _ _ _).push _).push _
  have S : Hid (Vb W (s + 1) #[.slice d0 m0 k0, .int .i64 H.pc, .slice d1 m1 k1, .bool H.halted, .bool H.waiting, .bool H.rung, .int .i64 H.done, .slice d2 m2 k2, .slice d3 m3 k3, .slice d4 m4 k4, .slice d5 m5 k5] 50) := by show Vb _ _ _ _; rw [← hW, z1]; exact (Vb.new _ _ _).push _
  have R : Hid (Vb W (s + 2) #[.int .i64 0, .slice none 0 0, .int .i64 0, .slice none 0 0, .bool false, .bool false, .bool false, .int .i64 0, .slice none 0 0, .slice none 0 0, .slice none 0 0, .slice none 0 0] 40) := by show Vb _ _ _ _; rw [← hW, z2]; exact Vb.new _ _ _
  clear z1 z2
  have HP : Hid (Pl W a0 n0 c0 a1 n1 c1 a2 n2 c2 a3 n3 c3 P) := hp.stay B0.out
  have HA : Hid (PolAt W s P) := ⟨_, _, _, _, _, _, _, _, _, _, _, _, Q.out.cell 0 rfl, Q.out.cell 1 rfl, Q.out.cell 2 rfl, Q.out.cell 3 rfl, HP.out⟩
  clear hp
  have q0 := Q.out.cell 0 rfl
  have q1 := Q.out.cell 1 rfl
  have q2 := Q.out.cell 2 rfl
  have q3 := Q.out.cell 3 rfl
  go_enter Tryz.func6, Tryz.ntmps6
  go_wp2_with fail
  clear hW hS q0 q1 q2 q3
  refine (l6_asked _ _ P _ HA.out).mono ?_
  rw [HA0.out]
  rintro e w1 ⟨rfl, b1⟩
  have B1 : Hid (Below w.heap.size w w1) := on B0.out b1
  have R1 : Hid (Vb w1 (s + 2) #[.int .i64 0, .slice none 0 0, .int .i64 0, .slice none 0 0, .bool false, .bool false, .bool false, .int .i64 0, .slice none 0 0, .slice none 0 0, .slice none 0 0, .slice none 0 0] 40) := R.out.keep b1
  have S1 : Hid (Vb w1 (s + 1) #[.slice d0 m0 k0, .int .i64 H.pc, .slice d1 m1 k1, .bool H.halted, .bool H.waiting, .bool H.rung, .int .i64 H.done, .slice d2 m2 k2, .slice d3 m3 k3, .slice d4 m4 k4, .slice d5 m5 k5] 50) := S.out.keep b1
  have Q1 : Hid (Vb w1 s #[.slice a0 n0 c0, .slice a1 n1 c1, .slice a2 n2 c2, .slice a3 n3 c3] 46) := Q.out.keep b1
  have HP1 : Hid (Pl w1 a0 n0 c0 a1 n1 c1 a2 n2 c2 a3 n3 c3 P) := HP.out.stay b1
  clear b1
  have y0 := S1.out.cell 0 rfl
  have y1 := S1.out.cell 1 rfl
  have y2 := S1.out.cell 2 rfl
  have y3 := S1.out.cell 3 rfl
  have y4 := S1.out.cell 4 rfl
  have y5 := S1.out.cell 5 rfl
  have y6 := S1.out.cell 6 rfl
  have y7 := S1.out.cell 7 rfl
  have y8 := S1.out.cell 8 rfl
  have y9 := S1.out.cell 9 rfl
  have y10 := S1.out.cell 10 rfl
  go_wp2_with fail
  clear y0 y1 y2 y3 y4 y5 y6 y7 y8 y9 y10
  refine (s_soloFault _ _ _ _ _ _ H ps zs _ _ (HS.out.keep B1.out) HL.out).mono ?_
  rw [HX.out]
  rintro e w2 ⟨rfl, b2⟩
  have B2 : Hid (Below w.heap.size w w2) := on B1.out b2
  have R2 : Hid (Vb w2 (s + 2) #[.int .i64 0, .slice none 0 0, .int .i64 0, .slice none 0 0, .bool false, .bool false, .bool false, .int .i64 0, .slice none 0 0, .slice none 0 0, .slice none 0 0, .slice none 0 0] 40) := R1.out.keep b2
  have S2 : Hid (Vb w2 (s + 1) #[.slice d0 m0 k0, .int .i64 H.pc, .slice d1 m1 k1, .bool H.halted, .bool H.waiting, .bool H.rung, .int .i64 H.done, .slice d2 m2 k2, .slice d3 m3 k3, .slice d4 m4 k4, .slice d5 m5 k5] 50) := S1.out.keep b2
  have Q2 : Hid (Vb w2 s #[.slice a0 n0 c0, .slice a1 n1 c1, .slice a2 n2 c2, .slice a3 n3 c3] 46) := Q1.out.keep b2
  have HP2 : Hid (Pl w2 a0 n0 c0 a1 n1 c1 a2 n2 c2 a3 n3 c3 P) := HP1.out.stay b2
  clear b2
  have GN : Hid (g < n0) := by have := HP2.out.own.len; have := SP.out.1; show _ < _; omega
  have hgI : (g : Int) < (n0 : Int) := by have := GN.out; omega
  have hn0 : (n0 : Int) ≤ 9223372036854775807 := by have := HP2.out.own.cap; unfold maxLen at this; omega
  obtain ⟨x, ob, ol', oc, rfl, ko1, ko2⟩ := HP2.out.own.at g GN.out
  obtain rfl : ol = ol' := by have := ko2.len; have := HOL.out; omega
  have KO : Hid (w2.cell? (x.add g) = some (.slice ob ol oc)) := ko1
  have OL : Hid (ol = (P.own.getD g []).length ∧ ol ≤ 5) := ⟨ko2.len, by have := ko2.len; have := SP.out.2.1; omega⟩
  have ol5 : (ol : Int) ≤ 5 := by have := OL.out; omega
  have HA2 : Hid (PolAt w2 s P) := ⟨_, _, _, _, _, _, _, _, _, _, _, _, Q2.out.cell 0 rfl, Q2.out.cell 1 rfl, Q2.out.cell 2 rfl, Q2.out.cell 3 rfl, HP2.out⟩
  clear ko2 ko1
  go_wp2_with fail
  go_loopw [9, 10] (fun y c wr => ∃ j : Nat, j ≤ ol ∧ c = .int .i64 j ∧ Nums wr w2.heap.size y (upL j) ∧ Below w2.heap.size w2 wr) (fun _ c _ => ol - (intOf c).toNat)
  case atStart => exact ⟨0, Nat.zero_le _, rfl, World.ownsRow_lit w2 #[] 0 (Nat.le_refl _) (by decide) rfl, al (Below.refl _ _) _⟩
  case round =>
    obtain ⟨j, hj, rfl, hN, hB⟩ := hrel
    have HN : Hid (Nums wr w2.heap.size _ (upL j)) := hN
    have HB : Hid (Below w2.heap.size w2 wr) := hB
    obtain ⟨ya, yc, hy, _, _, _⟩ := hN.shape
    rw [up_len] at hy
    subst hy
    have SZ : Hid (w2.heap.size ≤ wr.heap.size) := hB.size
    have q0 := (Q2.out.keep hB).cell 0 rfl
    have ko := cell_keep hB KO.out
    clear hN
    by_cases hlt : j < ol
    · have hJ : (j : Int) < (ol : Int) := by omega
      have HLT : Hid (j < ol) := hlt
      have LU : Hid ((upL j).length ≤ 5) := by show _ ≤ _; rw [up_len]; have := OL.out; omega
      clear hlt hB
      go_wp2_with (at_builtin; refine wp_appn _ rfl _ _ rfl w2.heap.size _ _ rfl (HN.out.keep (al (Below.refl _ _) _)) wr.heap.size 1 1 [(j : Int)] rfl rfl (one_at (cell_new rfl)) (by have := LU.out; omega) (by have := SZ.out; simp; omega) ?_; intro v' w' hN' hG')
      have N' : Hid (Nums w' w2.heap.size v' (upL (j + 1))) := by show Nums _ _ _ _; rw [up_succ]; exact hN'
      have B' : Hid (Below w2.heap.size w2 w') := (al HB.out _).grown hG' (by have := SZ.out; simp; omega) (fun k hk => (HN.out.lt k hk).1)
      clear hN' hG'
      go_wp2_with fail
      go_roundw
      case rel => exact ⟨j + 1, by have := HLT.out; omega, by go_num, N'.out, B'.out⟩
      case measure => have := HLT.out; simp [intOf]; omega
    · have hJ : ¬ (j : Int) < (ol : Int) := by omega
      have EJ : j = ol := by omega
      subst EJ
      have B3 : Hid (Below w.heap.size w wr) := on B2.out HB.out
      have R3 : Hid (Vb wr (s + 2) #[.int .i64 0, .slice none 0 0, .int .i64 0, .slice none 0 0, .bool false, .bool false, .bool false, .int .i64 0, .slice none 0 0, .slice none 0 0, .slice none 0 0, .slice none 0 0] 40) := R2.out.keep HB.out
      have S3 : Hid (Vb wr (s + 1) #[.slice d0 m0 k0, .int .i64 H.pc, .slice d1 m1 k1, .bool H.halted, .bool H.waiting, .bool H.rung, .int .i64 H.done, .slice d2 m2 k2, .slice d3 m3 k3, .slice d4 m4 k4, .slice d5 m5 k5] 50) := S2.out.keep HB.out
      have HA3 : Hid (PolAt wr s P) := HA2.out.stay HB.out
      have H3 : Hid (Sm wr b (.slice d0 m0 k0) (.slice d1 m1 k1) (.slice d2 m2 k2) (.slice d3 m3 k3) (.slice d4 m4 k4) (.slice d5 m5 k5) H ps zs) := HS.out.keep B3.out
      obtain ⟨gm, hgm⟩ := sv_some H3.out.mm (by have := SS.out.2; omega)
      subst hgm
      have LT : Hid (s + 2 < wr.heap.size) := R3.out.lt
      have QS : Hid (∀ w', Sv12 wr (s + 2) w' → Vb w' (s + 1) #[.slice d0 m0 k0, .int .i64 H.pc, .slice d1 m1 k1, .bool H.halted, .bool H.waiting, .bool H.rung, .int .i64 H.done, .slice d2 m2 k2, .slice d3 m3 k3, .slice d4 m4 k4, .slice (some ⟨gm, 0, none⟩) m5 k5] 50) := fun w' hs => hs.1.vb S3.out (by omega)
      have Sv0 : Hid (Sv12 wr (s + 2) wr.drew) := Sv12.step ⟨Mq.refl _ _, R3.out.there 12 (by decide)⟩ LT.out (Below.refl _ _).drew
      have D0 : Hid (Below wr.heap.size wr wr.drew) := (Below.refl _ _).drew
      clear hlt hB
      go_upto_region 12 with fail
      clear q0 ko
      refine wp_region_held (S := fun w' => Sv12 wr (s + 2) w') (by kernel_rfl) ?_
      change wpAnyH _ _ _ _ _ _ _ _ (World.drew _)
      generalize wr.drew = v0 at *
      refine wpAnyH_take (i := 0) (v := (.pointer (some ⟨s + 1, 0, none⟩))) rfl (by kernel_rfl) (by kernel_rfl) (by kernel_rfl) (fun _ _ _ h => h) (Or.inl ⟨by rfl, fun w' hs => by go_simp⟩) Sv0.out ?_
      change wpAnyH _ _ _ _ _ _ _ (Act.put _ (some 38) _) _
      simp only [Act.put, List.setIfInBounds_toArray, List.set_cons_zero, List.set_cons_succ]
      refine wpAnyH_take (i := 1) (v := (.agg #[.slice d0 m0 k0, .int .i64 H.pc, .slice d1 m1 k1, .bool H.halted, .bool H.waiting, .bool H.rung, .int .i64 H.done, .slice d2 m2 k2, .slice d3 m3 k3])) rfl (by kernel_rfl) (by kernel_rfl) (by kernel_rfl) (fun _ _ _ h => h) (Or.inl ⟨by rfl, fun w' hs => by have hq := QS.out w' hs; have y0 := hq.cell 0 rfl; have y1 := hq.cell 1 rfl; have y2 := hq.cell 2 rfl; have y3 := hq.cell 3 rfl; have y4 := hq.cell 4 rfl; have y5 := hq.cell 5 rfl; have y6 := hq.cell 6 rfl; have y7 := hq.cell 7 rfl; have y8 := hq.cell 8 rfl; go_simp⟩) Sv0.out ?_
      change wpAnyH _ _ _ _ _ _ _ (Act.put _ (some 39) _) _
      simp only [Act.put, List.setIfInBounds_toArray, List.set_cons_zero, List.set_cons_succ]
      refine wpAnyH_take (i := 3) (v := (.pointer (some ⟨s + 1, 10, none⟩))) rfl (by kernel_rfl) (by kernel_rfl) (by kernel_rfl) (fun _ _ _ h => h) (Or.inl ⟨by rfl, fun w' hs => by go_simp⟩) Sv0.out ?_
      change wpAnyH _ _ _ _ _ _ _ (Act.put _ (some 41) _) _
      simp only [Act.put, List.setIfInBounds_toArray, List.set_cons_zero, List.set_cons_succ]
      refine wpAnyH_take (i := 4) (v := (.slice (some ⟨gm, 0, none⟩) m5 k5)) rfl (by kernel_rfl) (by kernel_rfl) (by kernel_rfl) (fun _ _ _ h => h) (Or.inl ⟨by rfl, fun w' hs => by have hq := QS.out w' hs; have y10 := hq.cell 10 rfl; go_simp⟩) Sv0.out ?_
      change wpAnyH _ _ _ _ _ _ _ (Act.put _ (some 42) _) _
      simp only [Act.put, List.setIfInBounds_toArray, List.set_cons_zero, List.set_cons_succ]
      refine wpAnyH_take (i := 5) (v := (.slice ya j yc)) rfl (by kernel_rfl) (by kernel_rfl) (by kernel_rfl) (fun _ _ _ h => h) (Or.inl ⟨by rfl, fun w' hs => by go_simp⟩) Sv0.out ?_
      change wpAnyH _ _ _ _ _ _ _ (Act.put _ (some 43) _) _
      simp only [Act.put, List.setIfInBounds_toArray, List.set_cons_zero, List.set_cons_succ]
      refine wpAnyH_take (i := 7) (v := (.pointer (some ⟨s + 1, 10, none⟩))) rfl (by kernel_rfl) (by kernel_rfl) (by kernel_rfl) (fun _ _ _ h => h) (Or.inl ⟨by rfl, fun w' hs => by go_simp⟩) Sv0.out ?_
      change wpAnyH _ _ _ _ _ _ _ (Act.put _ (some 45) _) _
      simp only [Act.put, List.setIfInBounds_toArray, List.set_cons_zero, List.set_cons_succ]
      refine wpAnyH_take (i := 8) (v := (.slice (some ⟨gm, 0, none⟩) m5 k5)) rfl (by kernel_rfl) (by kernel_rfl) (by kernel_rfl) (fun _ _ _ h => h) (Or.inl ⟨by rfl, fun w' hs => by have hq := QS.out w' hs; have y10 := hq.cell 10 rfl; go_simp⟩) Sv0.out ?_
      change wpAnyH _ _ _ _ _ _ _ (Act.put _ (some 46) _) _
      simp only [Act.put, List.setIfInBounds_toArray, List.set_cons_zero, List.set_cons_succ]
      refine wpAnyH_take (i := 9) (v := (.int .i64 (g : Int))) rfl (by kernel_rfl) (by kernel_rfl) (by kernel_rfl) (fun _ _ _ h => h) (Or.inl ⟨by rfl, fun w' hs => by go_simp⟩) Sv0.out ?_
      change wpAnyH _ _ _ _ _ _ _ (Act.put _ (some 47) _) _
      simp only [Act.put, List.setIfInBounds_toArray, List.set_cons_zero, List.set_cons_succ]
      refine wpAnyH_ready (rs := [2]) (by kernel_rfl) (by simp) ?_
      refine AllReadyH.cons rfl (fun K hK => ?_) AllReadyH.nil
      rw [if_pos (by rfl)]
      go_simp
      refine (s_copy _ _ _ _ H b _ (H3.out.h.keep D0.out) (by have := SS.out.1.r16; omega) (by have := SS.out.1.c11; omega) (by have := SS.out.1.i40; omega) (by have := SS.out.1.o40; omega)).mono ?_
      rintro e v1 ⟨r2, c2, i2, o2, rfl, m2', A2, b2⟩
      obtain ⟨xa0, xk0, x0e, _⟩ := m2'.r.shape
      obtain ⟨xa1, xk1, x1e, _⟩ := m2'.c.shape
      obtain ⟨xa2, xk2, x2e, _⟩ := m2'.i.shape
      obtain ⟨xa3, xk3, x3e, _⟩ := m2'.o.shape
      subst x0e x1e x2e x3e
      obtain ⟨x0, hx0⟩ : ∃ n, H.regs.length = n := ⟨_, rfl⟩
      obtain ⟨x1, hx1⟩ : ∃ n, H.csr.length = n := ⟨_, rfl⟩
      obtain ⟨x2, hx2⟩ : ∃ n, H.inn.length = n := ⟨_, rfl⟩
      obtain ⟨x3, hx3⟩ : ∃ n, H.out.length = n := ⟨_, rfl⟩
      rw [hx0, hx1, hx2, hx3] at m2' A2 ⊢
      have M1 : Hid (Hm v1 v0.heap.size (.slice xa0 x0 xk0) (.slice xa1 x1 xk1) (.slice xa2 x2 xk2) (.slice xa3 x3 xk3) H) := m2'
      have A1 : Hid (Ha (.slice xa0 x0 xk0) (.slice xa1 x1 xk1) (.slice xa2 x2 xk2) (.slice xa3 x3 xk3)) := A2
      have Sv1 : Hid (Sv12 wr (s + 2) v1) := Sv0.out.step LT.out b2
      have D1 : Hid (Below wr.heap.size wr v1) := on D0.out b2
      clear m2' A2 b2 hx0 hx1 hx2 hx3
      refine hK.out _ _ Sv1.out (fun _ => ?_)
      clear hK K
      refine wpAnyH_ready (rs := [6]) (by kernel_rfl) (by simp) ?_
      refine AllReadyH.cons rfl (fun K hK => ?_) AllReadyH.nil
      rw [if_pos (by rfl)]
      go_simp
      refine (l7_wordsN gm m5 k5 b zs ya j yc (upL j) v1 (H3.out.mm.keep D1.out) 8 (by omega) (by omega) (by have := SS.out.2; omega) (HN.out.keep D1.out).read (fun x hx => by have := up_in j x hx; have := OL.out; omega) (by rw [up_len]; exact OL.out.2)).mono ?_
      rintro e v2 ⟨u4, rfl, n4, b4⟩
      obtain ⟨xa4, xk4, x4e, _⟩ := n4.shape
      obtain ⟨x4, hx4⟩ : ∃ n, (wordsL zs (upL j)).length = n := ⟨_, rfl⟩
      rw [hx4] at x4e
      subst x4e
      have M2 : Hid (Hm v2 v0.heap.size (.slice xa0 x0 xk0) (.slice xa1 x1 xk1) (.slice xa2 x2 xk2) (.slice xa3 x3 xk3) H) := M1.out.keep b4
      have N2 : Hid (Nums v2 v1.heap.size (.slice xa4 x4 xk4) (wordsL zs (upL j))) := n4
      have AL : Hid (Apt (.slice xa0 x0 xk0) (.slice xa4 x4 xk4) ∧ Apt (.slice xa1 x1 xk1) (.slice xa4 x4 xk4) ∧ Apt (.slice xa2 x2 xk2) (.slice xa4 x4 xk4) ∧ Apt (.slice xa3 x3 xk3) (.slice xa4 x4 xk4)) := ⟨M1.out.r.apt n4 (Nat.le_refl _), M1.out.c.apt n4 (Nat.le_refl _), M1.out.i.apt n4 (Nat.le_refl _), M1.out.o.apt n4 (Nat.le_refl _)⟩
      have Sv2 : Hid (Sv12 wr (s + 2) v2) := Sv1.out.step LT.out b4
      have D2 : Hid (Below wr.heap.size wr v2) := on D1.out b4
      clear n4 b4 hx4
      refine hK.out _ _ Sv2.out (fun _ => ?_)
      clear hK K
      refine wpAnyH_ready (rs := [10]) (by kernel_rfl) (by simp) ?_
      refine AllReadyH.cons rfl (fun K hK => ?_) AllReadyH.nil
      rw [if_pos (by rfl)]
      go_simp
      refine (s_gives false s (g : Int) P v2 (HA3.out.stay D2.out) (by have := SP.out.2.2.1; omega)).mono ?_
      rintro e v3 ⟨u5, rfl, n5, b5⟩
      obtain ⟨ga, gc, hgv, _, _, _⟩ := n5.shape
      obtain ⟨gl, hgl⟩ : ∃ n, (gvL false (g : Int) P.lanes).length = n := ⟨_, rfl⟩
      rw [hgl] at hgv
      subst hgv
      have M3 : Hid (Hm v3 v0.heap.size (.slice xa0 x0 xk0) (.slice xa1 x1 xk1) (.slice xa2 x2 xk2) (.slice xa3 x3 xk3) H) := M2.out.keep b5
      have N3 : Hid (Nums v3 v1.heap.size (.slice xa4 x4 xk4) (wordsL zs (upL j))) := N2.out.keep b5
      have G3 : Hid (Nums v3 v2.heap.size (.slice ga gl gc) (gvL false (g : Int) P.lanes)) := n5
      have Sv3 : Hid (Sv12 wr (s + 2) v3) := Sv2.out.step LT.out b5
      have D3 : Hid (Below wr.heap.size wr v3) := on D2.out b5
      clear n5 b5 hgl
      refine hK.out _ _ Sv3.out (fun _ => ?_)
      clear hK K
      refine wpAnyH_ready (rs := [11]) (by kernel_rfl) (by simp) ?_
      refine AllReadyH.cons rfl (fun K hK => ?_) AllReadyH.nil
      rw [if_pos (by rfl)]
      go_simp
      refine (l7_wordsN gm m5 k5 b zs ga gl gc (gvL false (g : Int) P.lanes) v3 (H3.out.mm.keep D3.out) 8 (by omega) (by omega) (by have := SS.out.2; omega) G3.out.read (fun x hx => SP.out.2.2.2.1 x hx) (by have := SP.out.2.2.2.2; omega)).mono ?_
      rintro e v4 ⟨u6, rfl, n6, b6⟩
      obtain ⟨xa5, xk5, x5e, _⟩ := n6.shape
      obtain ⟨x5, hx5⟩ : ∃ n, (wordsL zs (gvL false (g : Int) P.lanes)).length = n := ⟨_, rfl⟩
      rw [hx5] at x5e
      subst x5e
      have M4 : Hid (Hm v4 v0.heap.size (.slice xa0 x0 xk0) (.slice xa1 x1 xk1) (.slice xa2 x2 xk2) (.slice xa3 x3 xk3) H) := M3.out.keep b6
      have N4 : Hid (Nums v4 v1.heap.size (.slice xa4 x4 xk4) (wordsL zs (upL j)) ∧ Nums v4 v3.heap.size (.slice xa5 x5 xk5) (wordsL zs (gvL false (g : Int) P.lanes))) := ⟨N3.out.keep b6, n6⟩
      have AM : Hid ((Apt (.slice xa0 x0 xk0) (.slice xa5 x5 xk5) ∧ Apt (.slice xa1 x1 xk1) (.slice xa5 x5 xk5) ∧ Apt (.slice xa2 x2 xk2) (.slice xa5 x5 xk5) ∧ Apt (.slice xa3 x3 xk3) (.slice xa5 x5 xk5)) ∧ Apt (.slice xa4 x4 xk4) (.slice xa5 x5 xk5)) := ⟨⟨M3.out.r.apt n6 (Nat.le_refl _), M3.out.c.apt n6 (Nat.le_refl _), M3.out.i.apt n6 (Nat.le_refl _), M3.out.o.apt n6 (Nat.le_refl _)⟩, N3.out.apt n6 (Nat.le_refl _)⟩
      have Sv4 : Hid (Sv12 wr (s + 2) v4) := Sv3.out.step LT.out b6
      have ZZ : Hid (wr.heap.size ≤ v0.heap.size ∧ wr.heap.size ≤ v1.heap.size ∧ wr.heap.size ≤ v3.heap.size) := ⟨D0.out.size, D1.out.size, D3.out.size⟩
      clear n6 b6 hx5
      refine hK.out _ _ Sv4.out (fun _ => ?_)
      clear hK K
      refine wpAnyH_take (i := 12) (v := (.agg #[.slice xa0 x0 xk0, .int .i64 H.pc, .slice xa1 x1 xk1, .bool H.halted, .bool H.waiting, .bool H.rung, .int .i64 H.done, .slice xa2 x2 xk2, .slice xa3 x3 xk3, .slice xa4 x4 xk4, .slice xa5 x5 xk5])) rfl (by kernel_rfl) (by kernel_rfl) (by kernel_rfl) (fun _ _ _ h => h) (Or.inl ⟨by rfl, fun w' hs => by go_simp⟩) Sv4.out ?_
      change wpAnyH _ _ _ _ _ _ _ (Act.put _ (some 50) _) _
      simp only [Act.put, List.setIfInBounds_toArray, List.set_cons_zero, List.set_cons_succ]
      refine wpAnyH_take (i := 13) (v := (.agg #[.int .i64 0, .slice xa0 x0 xk0, .int .i64 H.pc, .slice xa1 x1 xk1, .bool H.halted, .bool H.waiting, .bool H.rung, .int .i64 H.done, .slice xa2 x2 xk2, .slice xa3 x3 xk3, .slice xa4 x4 xk4, .slice xa5 x5 xk5])) rfl (by kernel_rfl) (by kernel_rfl) (by kernel_rfl) (fun _ _ _ h => h) (Or.inl ⟨by rfl, fun w' hs => by go_simp⟩) Sv4.out ?_
      change wpAnyH _ _ _ _ _ _ _ (Act.put _ (some 51) _) _
      simp only [Act.put, List.setIfInBounds_toArray, List.set_cons_zero, List.set_cons_succ]
      refine wpAnyH_ready (rs := [14]) (by kernel_rfl) (by simp) ?_
      refine AllReadyH.cons rfl (fun K hK => ?_) AllReadyH.nil
      rw [if_pos (by rfl)]
      refine wp_store_mid 40 (.tmp 6) (.tmp 51) rfl (s + 2) 0 #[.int .i64 0, .slice xa0 x0 xk0, .int .i64 H.pc, .slice xa1 x1 xk1, .bool H.halted, .bool H.waiting, .bool H.rung, .int .i64 H.done, .slice xa2 x2 xk2, .slice xa3 x3 xk3, .slice xa4 x4 xk4, .slice xa5 x5 xk5] rfl rfl Sv4.out.2 (by kernel_rfl) (by simp [Value.oneCell']) ?_
      change K (Act.put _ none undef) _
      simp only [Act.put]
      have S6 : Hid (Sv12 wr (s + 2) (v4.setCells (s + 2) 0 #[.int .i64 0, .slice xa0 x0 xk0, .int .i64 H.pc, .slice xa1 x1 xk1, .bool H.halted, .bool H.waiting, .bool H.rung, .int .i64 H.done, .slice xa2 x2 xk2, .slice xa3 x3 xk3, .slice xa4 x4 xk4, .slice xa5 x5 xk5].toList)) := Sv4.out.set _
      have R6 : Hid ((v4.setCells (s + 2) 0 #[.int .i64 0, .slice xa0 x0 xk0, .int .i64 H.pc, .slice xa1 x1 xk1, .bool H.halted, .bool H.waiting, .bool H.rung, .int .i64 H.done, .slice xa2 x2 xk2, .slice xa3 x3 xk3, .slice xa4 x4 xk4, .slice xa5 x5 xk5].toList).rangeAt (s + 2) 0 #[.int .i64 0, .slice xa0 x0 xk0, .int .i64 H.pc, .slice xa1 x1 xk1, .bool H.halted, .bool H.waiting, .bool H.rung, .int .i64 H.done, .slice xa2 x2 xk2, .slice xa3 x3 xk3, .slice xa4 x4 xk4, .slice xa5 x5 xk5].toList) := World.rangeAt_setCells_same _ _ _ _ Sv4.out.2
      have Q6 : Hid (Mq (fun k => k = s + 2) v4 (v4.setCells (s + 2) 0 #[.int .i64 0, .slice xa0 x0 xk0, .int .i64 H.pc, .slice xa1 x1 xk1, .bool H.halted, .bool H.waiting, .bool H.rung, .int .i64 H.done, .slice xa2 x2 xk2, .slice xa3 x3 xk3, .slice xa4 x4 xk4, .slice xa5 x5 xk5].toList)) := mq_cells (s + 2) _ v4 0
      generalize v4.setCells (s + 2) 0 #[.int .i64 0, .slice xa0 x0 xk0, .int .i64 H.pc, .slice xa1 x1 xk1, .bool H.halted, .bool H.waiting, .bool H.rung, .int .i64 H.done, .slice xa2 x2 xk2, .slice xa3 x3 xk3, .slice xa4 x4 xk4, .slice xa5 x5 xk5].toList = v6 at *
      refine hK.out _ _ S6.out (fun _ => ?_)
      clear hK K
      refine wpAnyH_done (by kernel_rfl) ?_ _
      have z1 : w.heap.size ≤ wr.heap.size := B3.out.size
      have z2 := ZZ.out
      have o6 : Ho wr.heap.size v4 v6 := Q6.out.ho fun k e => by have := LT.out; omega
      have F : Hid (Vm v6 w.heap.size (.slice xa0 x0 xk0) (.slice xa1 x1 xk1) (.slice xa2 x2 xk2) (.slice xa3 x3 xk3) (.slice xa4 x4 xk4) (.slice xa5 x5 xk5) H (wordsL zs (upL j)) (wordsL zs (gvL false (g : Int) P.lanes))) :=
        ⟨((M4.out.mono z2.1).ho o6).mono z1, A1.out, ((N4.out.1.mono z2.2.1).ho o6).mono z1, ((N4.out.2.mono z2.2.2).ho o6).mono z1, AL.out.1, AL.out.2.1, AL.out.2.2.1, AL.out.2.2.2, AM.out.2, AM.out.1.1, AM.out.1.2.1, AM.out.1.2.2.1, AM.out.1.2.2.2⟩
      have B6 : Hid (Below w.heap.size w v6) := Mq.under B3.out S6.out.1 fun k e => by have := HSs.out; omega
      have LD := run_loadVar_mid (P := Tryz.prog) v6 (s + 2) 0 40 #[.int .i64 0, .slice xa0 x0 xk0, .int .i64 H.pc, .slice xa1 x1 xk1, .bool H.halted, .bool H.waiting, .bool H.rung, .int .i64 H.done, .slice xa2 x2 xk2, .slice xa3 x3 xk3, .slice xa4 x4 xk4, .slice xa5 x5 xk5].toList _ R6.out Tryz.underlying40 rfl (by kernel_rfl)
      go_wp2_with fail
      exact bodyPost_ret (v := .agg #[.int .i64 0, .slice xa0 x0 xk0, .int .i64 H.pc, .slice xa1 x1 xk1, .bool H.halted, .bool H.waiting, .bool H.rung, .int .i64 H.done, .slice xa2 x2 xk2, .slice xa3 x3 xk3, .slice xa4 x4 xk4, .slice xa5 x5 xk5]) (by simp [results, Tryz.results6, asAddr]; rw [LD]) rfl ⟨_, _, _, _, _, _, rfl, F.out, B6.out⟩
theorem s_soloView (a0 a1 a2 a3 : Option Addr) (n0 c0 n1 c1 n2 c2 n3 c3 : Nat) (P : Plc) (r c i o l m : Value) (H : Ht) (ps : List (Int × Int)) (zs : List Int) (gu : Int) (b : Nat) (w : World) (hp : Pl w a0 n0 c0 a1 n1 c1 a2 n2 c2 a3 n3 c3 P) (h : Sm w b r c i o l m H ps zs) (hl : ps.length ≤ 1048576)  :
    Calls Tryz.prog 6 #[.agg #[.slice a0 n0 c0, .slice a1 n1 c1, .slice a2 n2 c2, .slice a3 n3 c3], .agg #[r, .int .i64 H.pc, c, .bool H.halted, .bool H.waiting, .bool H.rung, .int .i64 H.done, i, o, l, m], .int .i64 gu] w fun e w' => ∃ r' c' i' o' l' m', e = .returned (.agg #[.int .i64 (svC P gu H ps zs), r', .int .i64 (svH P gu H ps zs).pc, c', .bool (svH P gu H ps zs).halted, .bool (svH P gu H ps zs).waiting, .bool (svH P gu H ps zs).rung, .int .i64 (svH P gu H ps zs).done, i', o', l', m']) ∧ Vm w' w.heap.size r' c' i' o' l' m' (svH P gu H ps zs) (svO P gu H ps zs) (svG P gu H ps zs) ∧ Below w.heap.size w w' := by
  by_cases ha : askV P gu = 0
  · by_cases hx : sfV H ps zs = 0
    · obtain ⟨g, rfl⟩ := Int.eq_ofNat_of_zero_le (ask_guest P gu ha).1
      exact sv_good _ _ _ _ _ _ _ _ _ _ _ _ P r c i o l m H ps zs g b w hp h hl  ha hx
    · exact sv_sf _ _ _ _ _ _ _ _ _ _ _ _ P r c i o l m H ps zs gu b w hp h hl  ha hx
  · exact sv_ask _ _ _ _ _ _ _ _ _ _ _ _ P r c i o l m H ps zs gu b w hp h hl  ha
end Go.Proofs.YtadkhognlapckaaGreatDoor
