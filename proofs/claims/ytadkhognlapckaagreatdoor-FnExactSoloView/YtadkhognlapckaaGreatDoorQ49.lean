/- Texts of this seat, joined. -/
import Derived.Deep.RegionWith
import Derived.Deep.RegionHeld3
import Derived.Deep.Cut
import Derived.Deep.CutRange
import Derived.Test.YtadkhognlapckaaGreatDoorQ39
import Derived.Test.YtadkhognlapckaaGreatDoorQ48
namespace Go.Proofs.YtadkhognlapckaaGreatDoor
open Go.RowKit
set_option linter.unusedVariables false

set_option maxRecDepth 20000 in
set_option maxHeartbeats 8000000 in
theorem iv_ask (a0 a1 a2 a3 : Option Addr) (n0 c0 n1 c1 n2 c2 n3 c3 : Nat) (P : Plc) (r c i o l m : Value) (H : Ht) (ps : List (Int × Int)) (zs : List Int) (gu : Int) (b : Nat) (w : World) (hp : Pl w a0 n0 c0 a1 n1 c1 a2 n2 c2 a3 n3 c3 P) (h : Sm w b r c i o l m H ps zs) (hl : ps.length ≤ 1048576) (hg : w.cell? ⟨0, 0, none⟩ = some (.iface 179 (.agg #[.pointer (some ⟨1, 145, none⟩)]))) (hx : askV P gu ≠ 0) :
    Calls Tryz.prog 9 #[.agg #[.slice a0 n0 c0, .slice a1 n1 c1, .slice a2 n2 c2, .slice a3 n3 c3], .agg #[r, .int .i64 H.pc, c, .bool H.halted, .bool H.waiting, .bool H.rung, .int .i64 H.done, i, o, l, m], .int .i64 gu] w fun e w' => ∃ r' c' i' o' l' m', e = .returned (.agg #[.int .i64 (svC P gu H ps zs), r', .int .i64 (svH P gu H ps zs).pc, c', .bool (svH P gu H ps zs).halted, .bool (svH P gu H ps zs).waiting, .bool (svH P gu H ps zs).rung, .int .i64 (svH P gu H ps zs).done, i', o', l', m']) ∧ Vm w' w.heap.size r' c' i' o' l' m' (svH P gu H ps zs) (svO P gu H ps zs) (svG P gu H ps zs) ∧ Below w.heap.size w w' := by
  have hv : svC P gu H ps zs = askV P gu := by rw [svC, if_neg hx]
  have hu := sv_not P gu H ps zs (by rw [hv]; exact hx)
  rw [hu.1, hu.2.1, hu.2.2, hv]
  clear hu hv
  obtain ⟨x, hX⟩ : ∃ x, askV P gu = x := ⟨_, rfl⟩
  have HX : Hid (askV P gu = x) := hX
  rw [hX] at hx ⊢
  have hx0 : (x != 0) = true := by simp [hx]
  clear hX hx
  obtain ⟨d0, k0, e0, _⟩ := h.h.r.shape
  obtain ⟨d1, k1, e1, _⟩ := h.h.c.shape
  obtain ⟨d2, k2, e2, _⟩ := h.h.i.shape
  obtain ⟨d3, k3, e3, _⟩ := h.h.o.shape
  obtain ⟨d4, k4, e4, _⟩ := h.pl.shape
  obtain ⟨d5, k5, e5, _⟩ := h.mm.shape
  subst e0 e1 e2 e3 e4 e5
  obtain ⟨m0, hm0⟩ : ∃ n, H.regs.length = n := ⟨_, rfl⟩
  obtain ⟨m1, hm1⟩ : ∃ n, H.csr.length = n := ⟨_, rfl⟩
  obtain ⟨m2, hm2⟩ : ∃ n, H.inn.length = n := ⟨_, rfl⟩
  obtain ⟨m3, hm3⟩ : ∃ n, H.out.length = n := ⟨_, rfl⟩
  obtain ⟨m4, hm4⟩ : ∃ n, ps.length = n := ⟨_, rfl⟩
  obtain ⟨m5, hm5⟩ : ∃ n, zs.length = n := ⟨_, rfl⟩
  rw [hm0, hm1, hm2, hm3, hm4, hm5] at h ⊢
  have HS : Hid (Sm w b (.slice d0 m0 k0) (.slice d1 m1 k1) (.slice d2 m2 k2) (.slice d3 m3 k3) (.slice d4 m4 k4) (.slice d5 m5 k5) H ps zs) := h
  have HL : Hid (ps.length ≤ 1048576) := hl
  have LN : Hid (zs.length = m5) := hm5
  clear h hl hm0 hm1 hm2 hm3 hm4 hm5
  generalize hW : ((w.alloc (.cells #[.slice a0 n0 c0, .slice a1 n1 c1, .slice a2 n2 c2, .slice a3 n3 c3] 46)).alloc (.cells #[.slice d0 m0 k0, .int .i64 H.pc, .slice d1 m1 k1, .bool H.halted, .bool H.waiting, .bool H.rung, .int .i64 H.done, .slice d2 m2 k2, .slice d3 m3 k3, .slice d4 m4 k4, .slice d5 m5 k5] 50)).alloc (.cells #[.int .i64 0, .slice none 0 0, .int .i64 0, .slice none 0 0, .bool false, .bool false, .bool false, .int .i64 0, .slice none 0 0, .slice none 0 0, .slice none 0 0, .slice none 0 0] 40) = W
  have B0 : Hid (Below w.heap.size w W) := by show Below _ _ _; rw [← hW]; exact al (al (al (Below.refl _ _) _) _) _
  obtain ⟨s, hS⟩ : ∃ s, w.heap.size = s := ⟨_, rfl⟩
  have HSs : Hid (w.heap.size = s) := hS
  have z1 : s + 1 = (w.alloc (.cells #[.slice a0 n0 c0, .slice a1 n1 c1, .slice a2 n2 c2, .slice a3 n3 c3] 46)).heap.size := by rw [← hS]; simp
  have z2 : s + 2 = ((w.alloc (.cells #[.slice a0 n0 c0, .slice a1 n1 c1, .slice a2 n2 c2, .slice a3 n3 c3] 46)).alloc (.cells #[.slice d0 m0 k0, .int .i64 H.pc, .slice d1 m1 k1, .bool H.halted, .bool H.waiting, .bool H.rung, .int .i64 H.done, .slice d2 m2 k2, .slice d3 m3 k3, .slice d4 m4 k4, .slice d5 m5 k5] 50)).heap.size := by rw [← hS]; simp
  have Q : Hid (Vb W s #[.slice a0 n0 c0, .slice a1 n1 c1, .slice a2 n2 c2, .slice a3 n3 c3] 46) := by show Vb _ _ _ _; rw [← hW, ← hS]; exact ((Vb.new _ _ _).push _).push _
  have S : Hid (Vb W (s + 1) #[.slice d0 m0 k0, .int .i64 H.pc, .slice d1 m1 k1, .bool H.halted, .bool H.waiting, .bool H.rung, .int .i64 H.done, .slice d2 m2 k2, .slice d3 m3 k3, .slice d4 m4 k4, .slice d5 m5 k5] 50) := by show Vb _ _ _ _; rw [← hW, z1]; exact (Vb.new _ _ _).push _
  have R : Hid (Vb W (s + 2) #[.int .i64 0, .slice none 0 0, .int .i64 0, .slice none 0 0, .bool false, .bool false, .bool false, .int .i64 0, .slice none 0 0, .slice none 0 0, .slice none 0 0, .slice none 0 0] 40) := by show Vb _ _ _ _; rw [← hW, z2]; exact Vb.new _ _ _
  clear z1 z2
  have HP : Hid (Pl W a0 n0 c0 a1 n1 c1 a2 n2 c2 a3 n3 c3 P) := hp.stay B0.out
  have HGE : Hid (_ = _) := cell_keep B0.out hg
  clear hg
  clear hp
  have q0 := Q.out.cell 0 rfl
  have q1 := Q.out.cell 1 rfl
  have q2 := Q.out.cell 2 rfl
  have q3 := Q.out.cell 3 rfl
  go_enter Tryz.func9, Tryz.ntmps9
  go_wp2_with fail
  clear hW hS q0 q1 q2 q3
  refine (i_asked _ _ _ _ _ _ _ _ _ _ _ _ P _ _ HP.out HGE.out).mono ?_
  rw [HX.out]
  rintro e w1 ⟨rfl, b1⟩
  have B1 : Hid (Below w.heap.size w w1) := on B0.out b1
  have R1 : Hid (Vb w1 (s + 2) #[.int .i64 0, .slice none 0 0, .int .i64 0, .slice none 0 0, .bool false, .bool false, .bool false, .int .i64 0, .slice none 0 0, .slice none 0 0, .slice none 0 0, .slice none 0 0] 40) := R.out.keep b1
  have S1 : Hid (Vb w1 (s + 1) #[.slice d0 m0 k0, .int .i64 H.pc, .slice d1 m1 k1, .bool H.halted, .bool H.waiting, .bool H.rung, .int .i64 H.done, .slice d2 m2 k2, .slice d3 m3 k3, .slice d4 m4 k4, .slice d5 m5 k5] 50) := S.out.keep b1
  have Q1 : Hid (Vb w1 s #[.slice a0 n0 c0, .slice a1 n1 c1, .slice a2 n2 c2, .slice a3 n3 c3] 46) := Q.out.keep b1
  have HP1 : Hid (Pl w1 a0 n0 c0 a1 n1 c1 a2 n2 c2 a3 n3 c3 P) := HP.out.stay b1
  clear b1
  have p0 := R1.out.cell 0 rfl
  have f0 := R1.out.free 0
  have p1 := R1.out.cell 1 rfl
  have f1 := R1.out.free 1
  have p2 := R1.out.cell 2 rfl
  have f2 := R1.out.free 2
  have p3 := R1.out.cell 3 rfl
  have f3 := R1.out.free 3
  have p4 := R1.out.cell 4 rfl
  have f4 := R1.out.free 4
  have p5 := R1.out.cell 5 rfl
  have f5 := R1.out.free 5
  have p6 := R1.out.cell 6 rfl
  have f6 := R1.out.free 6
  have p7 := R1.out.cell 7 rfl
  have f7 := R1.out.free 7
  have p8 := R1.out.cell 8 rfl
  have f8 := R1.out.free 8
  have p9 := R1.out.cell 9 rfl
  have f9 := R1.out.free 9
  have p10 := R1.out.cell 10 rfl
  have f10 := R1.out.free 10
  have p11 := R1.out.cell 11 rfl
  have f11 := R1.out.free 11
  have lt := R1.out.lt
  go_wp2_with fail
  clear lt p0 f0 p1 f1 p2 f2 p3 f3 p4 f4 p5 f5 p6 f6 p7 f7 p8 f8 p9 f9 p10 f10 p11 f11
  have NN : Hid (_ ∧ _) := twelveV R1.out (.int .i64 x) (.slice none 0 0) (.int .i64 0) (.slice none 0 0) (.bool false) (.bool false) (.bool false) (.int .i64 0) (.slice none 0 0) (.slice none 0 0) (.slice none 0 0) (.slice none 0 0)
  generalize ((((((((((((w1.setCell ⟨s + 2, 0, none⟩ (.int .i64 x)).setCell ⟨s + 2, 1, none⟩ (.slice none 0 0)).setCell ⟨s + 2, 2, none⟩ (.int .i64 0)).setCell ⟨s + 2, 3, none⟩ (.slice none 0 0)).setCell ⟨s + 2, 4, none⟩ (.bool false)).setCell ⟨s + 2, 5, none⟩ (.bool false)).setCell ⟨s + 2, 6, none⟩ (.bool false)).setCell ⟨s + 2, 7, none⟩ (.int .i64 0)).setCell ⟨s + 2, 8, none⟩ (.slice none 0 0)).setCell ⟨s + 2, 9, none⟩ (.slice none 0 0)).setCell ⟨s + 2, 10, none⟩ (.slice none 0 0)).setCell ⟨s + 2, 11, none⟩ (.slice none 0 0)) = W9 at *
  have x0 := NN.out.1.cell 0 rfl
  have x1 := NN.out.1.cell 1 rfl
  have x2 := NN.out.1.cell 2 rfl
  have x3 := NN.out.1.cell 3 rfl
  have x4 := NN.out.1.cell 4 rfl
  have x5 := NN.out.1.cell 5 rfl
  have x6 := NN.out.1.cell 6 rfl
  have x7 := NN.out.1.cell 7 rfl
  have x8 := NN.out.1.cell 8 rfl
  have x9 := NN.out.1.cell 9 rfl
  have x10 := NN.out.1.cell 10 rfl
  have x11 := NN.out.1.cell 11 rfl
  exact bodyPost_ret (v := .agg #[.int .i64 x, .slice none 0 0, .int .i64 0, .slice none 0 0, .bool false, .bool false, .bool false, .int .i64 0, .slice none 0 0, .slice none 0 0, .slice none 0 0, .slice none 0 0]) (by simp [results, Tryz.results9, go_sem, x0, x1, x2, x3, x4, x5, x6, x7, x8, x9, x10, x11]) rfl
    ⟨_, _, _, _, _, _, rfl, vm_void _ _, Mq.under B1.out NN.out.2 fun k e => by have := HSs.out; omega⟩
set_option maxRecDepth 20000 in
set_option maxHeartbeats 8000000 in
theorem iv_sf (a0 a1 a2 a3 : Option Addr) (n0 c0 n1 c1 n2 c2 n3 c3 : Nat) (P : Plc) (r c i o l m : Value) (H : Ht) (ps : List (Int × Int)) (zs : List Int) (gu : Int) (b : Nat) (w : World) (hp : Pl w a0 n0 c0 a1 n1 c1 a2 n2 c2 a3 n3 c3 P) (h : Sm w b r c i o l m H ps zs) (hl : ps.length ≤ 1048576) (hg : w.cell? ⟨0, 0, none⟩ = some (.iface 179 (.agg #[.pointer (some ⟨1, 145, none⟩)]))) (ha : askV P gu = 0) (hx : sfV H ps zs ≠ 0) :
    Calls Tryz.prog 9 #[.agg #[.slice a0 n0 c0, .slice a1 n1 c1, .slice a2 n2 c2, .slice a3 n3 c3], .agg #[r, .int .i64 H.pc, c, .bool H.halted, .bool H.waiting, .bool H.rung, .int .i64 H.done, i, o, l, m], .int .i64 gu] w fun e w' => ∃ r' c' i' o' l' m', e = .returned (.agg #[.int .i64 (svC P gu H ps zs), r', .int .i64 (svH P gu H ps zs).pc, c', .bool (svH P gu H ps zs).halted, .bool (svH P gu H ps zs).waiting, .bool (svH P gu H ps zs).rung, .int .i64 (svH P gu H ps zs).done, i', o', l', m']) ∧ Vm w' w.heap.size r' c' i' o' l' m' (svH P gu H ps zs) (svO P gu H ps zs) (svG P gu H ps zs) ∧ Below w.heap.size w w' := by
  have hv : svC P gu H ps zs = sfV H ps zs := by rw [svC, if_pos ha]
  have hu := sv_not P gu H ps zs (by rw [hv]; exact hx)
  rw [hu.1, hu.2.1, hu.2.2, hv]
  clear hu hv
  obtain ⟨x, hX⟩ : ∃ x, sfV H ps zs = x := ⟨_, rfl⟩
  have HX : Hid (sfV H ps zs = x) := hX
  rw [hX] at hx ⊢
  have hx0 : (x != 0) = true := by simp [hx]
  clear hX hx
  have HA0 : Hid (askV P gu = 0) := ha
  clear ha
  obtain ⟨d0, k0, e0, _⟩ := h.h.r.shape
  obtain ⟨d1, k1, e1, _⟩ := h.h.c.shape
  obtain ⟨d2, k2, e2, _⟩ := h.h.i.shape
  obtain ⟨d3, k3, e3, _⟩ := h.h.o.shape
  obtain ⟨d4, k4, e4, _⟩ := h.pl.shape
  obtain ⟨d5, k5, e5, _⟩ := h.mm.shape
  subst e0 e1 e2 e3 e4 e5
  obtain ⟨m0, hm0⟩ : ∃ n, H.regs.length = n := ⟨_, rfl⟩
  obtain ⟨m1, hm1⟩ : ∃ n, H.csr.length = n := ⟨_, rfl⟩
  obtain ⟨m2, hm2⟩ : ∃ n, H.inn.length = n := ⟨_, rfl⟩
  obtain ⟨m3, hm3⟩ : ∃ n, H.out.length = n := ⟨_, rfl⟩
  obtain ⟨m4, hm4⟩ : ∃ n, ps.length = n := ⟨_, rfl⟩
  obtain ⟨m5, hm5⟩ : ∃ n, zs.length = n := ⟨_, rfl⟩
  rw [hm0, hm1, hm2, hm3, hm4, hm5] at h ⊢
  have HS : Hid (Sm w b (.slice d0 m0 k0) (.slice d1 m1 k1) (.slice d2 m2 k2) (.slice d3 m3 k3) (.slice d4 m4 k4) (.slice d5 m5 k5) H ps zs) := h
  have HL : Hid (ps.length ≤ 1048576) := hl
  have LN : Hid (zs.length = m5) := hm5
  clear h hl hm0 hm1 hm2 hm3 hm4 hm5
  generalize hW : ((w.alloc (.cells #[.slice a0 n0 c0, .slice a1 n1 c1, .slice a2 n2 c2, .slice a3 n3 c3] 46)).alloc (.cells #[.slice d0 m0 k0, .int .i64 H.pc, .slice d1 m1 k1, .bool H.halted, .bool H.waiting, .bool H.rung, .int .i64 H.done, .slice d2 m2 k2, .slice d3 m3 k3, .slice d4 m4 k4, .slice d5 m5 k5] 50)).alloc (.cells #[.int .i64 0, .slice none 0 0, .int .i64 0, .slice none 0 0, .bool false, .bool false, .bool false, .int .i64 0, .slice none 0 0, .slice none 0 0, .slice none 0 0, .slice none 0 0] 40) = W
  have B0 : Hid (Below w.heap.size w W) := by show Below _ _ _; rw [← hW]; exact al (al (al (Below.refl _ _) _) _) _
  obtain ⟨s, hS⟩ : ∃ s, w.heap.size = s := ⟨_, rfl⟩
  have HSs : Hid (w.heap.size = s) := hS
  have z1 : s + 1 = (w.alloc (.cells #[.slice a0 n0 c0, .slice a1 n1 c1, .slice a2 n2 c2, .slice a3 n3 c3] 46)).heap.size := by rw [← hS]; simp
  have z2 : s + 2 = ((w.alloc (.cells #[.slice a0 n0 c0, .slice a1 n1 c1, .slice a2 n2 c2, .slice a3 n3 c3] 46)).alloc (.cells #[.slice d0 m0 k0, .int .i64 H.pc, .slice d1 m1 k1, .bool H.halted, .bool H.waiting, .bool H.rung, .int .i64 H.done, .slice d2 m2 k2, .slice d3 m3 k3, .slice d4 m4 k4, .slice d5 m5 k5] 50)).heap.size := by rw [← hS]; simp
  have Q : Hid (Vb W s #[.slice a0 n0 c0, .slice a1 n1 c1, .slice a2 n2 c2, .slice a3 n3 c3] 46) := by show Vb _ _ _ _; rw [← hW, ← hS]; exact ((Vb.new _ _ _).push _).push _
  have S : Hid (Vb W (s + 1) #[.slice d0 m0 k0, .int .i64 H.pc, .slice d1 m1 k1, .bool H.halted, .bool H.waiting, .bool H.rung, .int .i64 H.done, .slice d2 m2 k2, .slice d3 m3 k3, .slice d4 m4 k4, .slice d5 m5 k5] 50) := by show Vb _ _ _ _; rw [← hW, z1]; exact (Vb.new _ _ _).push _
  have R : Hid (Vb W (s + 2) #[.int .i64 0, .slice none 0 0, .int .i64 0, .slice none 0 0, .bool false, .bool false, .bool false, .int .i64 0, .slice none 0 0, .slice none 0 0, .slice none 0 0, .slice none 0 0] 40) := by show Vb _ _ _ _; rw [← hW, z2]; exact Vb.new _ _ _
  clear z1 z2
  have HP : Hid (Pl W a0 n0 c0 a1 n1 c1 a2 n2 c2 a3 n3 c3 P) := hp.stay B0.out
  have HGE : Hid (_ = _) := cell_keep B0.out hg
  clear hg
  clear hp
  have q0 := Q.out.cell 0 rfl
  have q1 := Q.out.cell 1 rfl
  have q2 := Q.out.cell 2 rfl
  have q3 := Q.out.cell 3 rfl
  go_enter Tryz.func9, Tryz.ntmps9
  go_wp2_with fail
  clear hW hS q0 q1 q2 q3
  refine (i_asked _ _ _ _ _ _ _ _ _ _ _ _ P _ _ HP.out HGE.out).mono ?_
  rw [HA0.out]
  rintro e w1 ⟨rfl, b1⟩
  have B1 : Hid (Below w.heap.size w w1) := on B0.out b1
  have R1 : Hid (Vb w1 (s + 2) #[.int .i64 0, .slice none 0 0, .int .i64 0, .slice none 0 0, .bool false, .bool false, .bool false, .int .i64 0, .slice none 0 0, .slice none 0 0, .slice none 0 0, .slice none 0 0] 40) := R.out.keep b1
  have S1 : Hid (Vb w1 (s + 1) #[.slice d0 m0 k0, .int .i64 H.pc, .slice d1 m1 k1, .bool H.halted, .bool H.waiting, .bool H.rung, .int .i64 H.done, .slice d2 m2 k2, .slice d3 m3 k3, .slice d4 m4 k4, .slice d5 m5 k5] 50) := S.out.keep b1
  have Q1 : Hid (Vb w1 s #[.slice a0 n0 c0, .slice a1 n1 c1, .slice a2 n2 c2, .slice a3 n3 c3] 46) := Q.out.keep b1
  have HP1 : Hid (Pl w1 a0 n0 c0 a1 n1 c1 a2 n2 c2 a3 n3 c3 P) := HP.out.stay b1
  clear b1
  have y0 := S1.out.cell 0 rfl
  have y1 := S1.out.cell 1 rfl
  have y2 := S1.out.cell 2 rfl
  have y3 := S1.out.cell 3 rfl
  have y4 := S1.out.cell 4 rfl
  have y5 := S1.out.cell 5 rfl
  have y6 := S1.out.cell 6 rfl
  have y7 := S1.out.cell 7 rfl
  have y8 := S1.out.cell 8 rfl
  have y9 := S1.out.cell 9 rfl
  have y10 := S1.out.cell 10 rfl
  go_wp2_with fail
  clear y0 y1 y2 y3 y4 y5 y6 y7 y8 y9 y10
  refine (i_soloFault _ _ _ _ _ _ H ps zs _ _ (HS.out.keep B1.out) HL.out).mono ?_
  rw [HX.out]
  rintro e w2 ⟨rfl, b2⟩
  have B2 : Hid (Below w.heap.size w w2) := on B1.out b2
  have R2 : Hid (Vb w2 (s + 2) #[.int .i64 0, .slice none 0 0, .int .i64 0, .slice none 0 0, .bool false, .bool false, .bool false, .int .i64 0, .slice none 0 0, .slice none 0 0, .slice none 0 0, .slice none 0 0] 40) := R1.out.keep b2
  clear b2
  have p0 := R2.out.cell 0 rfl
  have f0 := R2.out.free 0
  have p1 := R2.out.cell 1 rfl
  have f1 := R2.out.free 1
  have p2 := R2.out.cell 2 rfl
  have f2 := R2.out.free 2
  have p3 := R2.out.cell 3 rfl
  have f3 := R2.out.free 3
  have p4 := R2.out.cell 4 rfl
  have f4 := R2.out.free 4
  have p5 := R2.out.cell 5 rfl
  have f5 := R2.out.free 5
  have p6 := R2.out.cell 6 rfl
  have f6 := R2.out.free 6
  have p7 := R2.out.cell 7 rfl
  have f7 := R2.out.free 7
  have p8 := R2.out.cell 8 rfl
  have f8 := R2.out.free 8
  have p9 := R2.out.cell 9 rfl
  have f9 := R2.out.free 9
  have p10 := R2.out.cell 10 rfl
  have f10 := R2.out.free 10
  have p11 := R2.out.cell 11 rfl
  have f11 := R2.out.free 11
  have lt := R2.out.lt
  go_wp2_with fail
  clear lt p0 f0 p1 f1 p2 f2 p3 f3 p4 f4 p5 f5 p6 f6 p7 f7 p8 f8 p9 f9 p10 f10 p11 f11
  have NN : Hid (_ ∧ _) := twelveV R2.out (.int .i64 x) (.slice none 0 0) (.int .i64 0) (.slice none 0 0) (.bool false) (.bool false) (.bool false) (.int .i64 0) (.slice none 0 0) (.slice none 0 0) (.slice none 0 0) (.slice none 0 0)
  generalize ((((((((((((w2.setCell ⟨s + 2, 0, none⟩ (.int .i64 x)).setCell ⟨s + 2, 1, none⟩ (.slice none 0 0)).setCell ⟨s + 2, 2, none⟩ (.int .i64 0)).setCell ⟨s + 2, 3, none⟩ (.slice none 0 0)).setCell ⟨s + 2, 4, none⟩ (.bool false)).setCell ⟨s + 2, 5, none⟩ (.bool false)).setCell ⟨s + 2, 6, none⟩ (.bool false)).setCell ⟨s + 2, 7, none⟩ (.int .i64 0)).setCell ⟨s + 2, 8, none⟩ (.slice none 0 0)).setCell ⟨s + 2, 9, none⟩ (.slice none 0 0)).setCell ⟨s + 2, 10, none⟩ (.slice none 0 0)).setCell ⟨s + 2, 11, none⟩ (.slice none 0 0)) = W9 at *
  have x0 := NN.out.1.cell 0 rfl
  have x1 := NN.out.1.cell 1 rfl
  have x2 := NN.out.1.cell 2 rfl
  have x3 := NN.out.1.cell 3 rfl
  have x4 := NN.out.1.cell 4 rfl
  have x5 := NN.out.1.cell 5 rfl
  have x6 := NN.out.1.cell 6 rfl
  have x7 := NN.out.1.cell 7 rfl
  have x8 := NN.out.1.cell 8 rfl
  have x9 := NN.out.1.cell 9 rfl
  have x10 := NN.out.1.cell 10 rfl
  have x11 := NN.out.1.cell 11 rfl
  exact bodyPost_ret (v := .agg #[.int .i64 x, .slice none 0 0, .int .i64 0, .slice none 0 0, .bool false, .bool false, .bool false, .int .i64 0, .slice none 0 0, .slice none 0 0, .slice none 0 0, .slice none 0 0]) (by simp [results, Tryz.results9, go_sem, x0, x1, x2, x3, x4, x5, x6, x7, x8, x9, x10, x11]) rfl
    ⟨_, _, _, _, _, _, rfl, vm_void _ _, Mq.under B2.out NN.out.2 fun k e => by have := HSs.out; omega⟩
end Go.Proofs.YtadkhognlapckaaGreatDoor
namespace Go.Proofs.YtadkhognlapckaaGreatDoor
open Go.RowKit
set_option linter.unusedVariables false

set_option maxRecDepth 20000 in
set_option maxHeartbeats 8000000 in
theorem iv_good (a0 a1 a2 a3 : Option Addr) (n0 c0 n1 c1 n2 c2 n3 c3 : Nat) (P : Plc) (r c i o l m : Value) (H : Ht) (ps : List (Int × Int)) (zs : List Int) (g : Nat) (b : Nat) (w : World) (hp : Pl w a0 n0 c0 a1 n1 c1 a2 n2 c2 a3 n3 c3 P) (h : Sm w b r c i o l m H ps zs) (hl : ps.length ≤ 1048576) (hg : w.cell? ⟨0, 0, none⟩ = some (.iface 179 (.agg #[.pointer (some ⟨1, 145, none⟩)]))) (ha : askV P (g : Int) = 0) (hx : sfV H ps zs = 0) :
    Calls Tryz.prog 9 #[.agg #[.slice a0 n0 c0, .slice a1 n1 c1, .slice a2 n2 c2, .slice a3 n3 c3], .agg #[r, .int .i64 H.pc, c, .bool H.halted, .bool H.waiting, .bool H.rung, .int .i64 H.done, i, o, l, m], .int .i64 (g : Int)] w fun e w' => ∃ r' c' i' o' l' m', e = .returned (.agg #[.int .i64 (svC P (g : Int) H ps zs), r', .int .i64 (svH P (g : Int) H ps zs).pc, c', .bool (svH P (g : Int) H ps zs).halted, .bool (svH P (g : Int) H ps zs).waiting, .bool (svH P (g : Int) H ps zs).rung, .int .i64 (svH P (g : Int) H ps zs).done, i', o', l', m']) ∧ Vm w' w.heap.size r' c' i' o' l' m' (svH P (g : Int) H ps zs) (svO P (g : Int) H ps zs) (svG P (g : Int) H ps zs) ∧ Below w.heap.size w w' := by
  have hv : svC P (g : Int) H ps zs = 0 := by rw [svC, if_pos ha]; exact hx
  have hu := sv_yes P (g : Int) H ps zs hv
  rw [hu.1, hu.2.1, hu.2.2, hv, Int.toNat_natCast]
  clear hu hv
  have SP : Hid (_ ∧ _) := sv_pol P g ha
  have SS : Hid (_ ∧ _) := sv_sol H ps zs hx
  have HA0 : Hid (askV P (g : Int) = 0) := ha
  have HX : Hid (sfV H ps zs = 0) := hx
  clear ha hx
  obtain ⟨ol, hol⟩ : ∃ n, (P.own.getD g []).length = n := ⟨_, rfl⟩
  have HOL : Hid ((P.own.getD g []).length = ol) := hol
  rw [hol]
  clear hol
  obtain ⟨d0, k0, e0, _⟩ := h.h.r.shape
  obtain ⟨d1, k1, e1, _⟩ := h.h.c.shape
  obtain ⟨d2, k2, e2, _⟩ := h.h.i.shape
  obtain ⟨d3, k3, e3, _⟩ := h.h.o.shape
  obtain ⟨d4, k4, e4, _⟩ := h.pl.shape
  obtain ⟨d5, k5, e5, _⟩ := h.mm.shape
  subst e0 e1 e2 e3 e4 e5
  obtain ⟨m0, hm0⟩ : ∃ n, H.regs.length = n := ⟨_, rfl⟩
  obtain ⟨m1, hm1⟩ : ∃ n, H.csr.length = n := ⟨_, rfl⟩
  obtain ⟨m2, hm2⟩ : ∃ n, H.inn.length = n := ⟨_, rfl⟩
  obtain ⟨m3, hm3⟩ : ∃ n, H.out.length = n := ⟨_, rfl⟩
  obtain ⟨m4, hm4⟩ : ∃ n, ps.length = n := ⟨_, rfl⟩
  obtain ⟨m5, hm5⟩ : ∃ n, zs.length = n := ⟨_, rfl⟩
  rw [hm0, hm1, hm2, hm3, hm4, hm5] at h ⊢
  have HS : Hid (Sm w b (.slice d0 m0 k0) (.slice d1 m1 k1) (.slice d2 m2 k2) (.slice d3 m3 k3) (.slice d4 m4 k4) (.slice d5 m5 k5) H ps zs) := h
  have HL : Hid (ps.length ≤ 1048576) := hl
  have LN : Hid (zs.length = m5) := hm5
  clear h hl hm0 hm1 hm2 hm3 hm4 hm5
  generalize hW : ((w.alloc (.cells #[.slice a0 n0 c0, .slice a1 n1 c1, .slice a2 n2 c2, .slice a3 n3 c3] 46)).alloc (.cells #[.slice d0 m0 k0, .int .i64 H.pc, .slice d1 m1 k1, .bool H.halted, .bool H.waiting, .bool H.rung, .int .i64 H.done, .slice d2 m2 k2, .slice d3 m3 k3, .slice d4 m4 k4, .slice d5 m5 k5] 50)).alloc (.cells #[.int .i64 0, .slice none 0 0, .int .i64 0, .slice none 0 0, .bool false, .bool false, .bool false, .int .i64 0, .slice none 0 0, .slice none 0 0, .slice none 0 0, .slice none 0 0] 40) = W
  have B0 : Hid (Below w.heap.size w W) := by show Below _ _ _; rw [← hW]; exact al (al (al (Below.refl _ _) _) _) _
  obtain ⟨s, hS⟩ : ∃ s, w.heap.size = s := ⟨_, rfl⟩
  have HSs : Hid (w.heap.size = s) := hS
  have z1 : s + 1 = (w.alloc (.cells #[.slice a0 n0 c0, .slice a1 n1 c1, .slice a2 n2 c2, .slice a3 n3 c3] 46)).heap.size := by rw [← hS]; simp
  have z2 : s + 2 = ((w.alloc (.cells #[.slice a0 n0 c0, .slice a1 n1 c1, .slice a2 n2 c2, .slice a3 n3 c3] 46)).alloc (.cells #[.slice d0 m0 k0, .int .i64 H.pc, .slice d1 m1 k1, .bool H.halted, .bool H.waiting, .bool H.rung, .int .i64 H.done, .slice d2 m2 k2, .slice d3 m3 k3, .slice d4 m4 k4, .slice d5 m5 k5] 50)).heap.size := by rw [← hS]; simp
  have Q : Hid (Vb W s #[.slice a0 n0 c0, .slice a1 n1 c1, .slice a2 n2 c2, .slice a3 n3 c3] 46) := by show Vb _ _ _ _; rw [← hW, ← hS]; exact ((Vb.new _ _ _).push _).push _
  have S : Hid (Vb W (s + 1) #[.slice d0 m0 k0, .int .i64 H.pc, .slice d1 m1 k1, .bool H.halted, .bool H.waiting, .bool H.rung, .int .i64 H.done, .slice d2 m2 k2, .slice d3 m3 k3, .slice d4 m4 k4, .slice d5 m5 k5] 50) := by show Vb _ _ _ _; rw [← hW, z1]; exact (Vb.new _ _ _).push _
  have R : Hid (Vb W (s + 2) #[.int .i64 0, .slice none 0 0, .int .i64 0, .slice none 0 0, .bool false, .bool false, .bool false, .int .i64 0, .slice none 0 0, .slice none 0 0, .slice none 0 0, .slice none 0 0] 40) := by show Vb _ _ _ _; rw [← hW, z2]; exact Vb.new _ _ _
  clear z1 z2
  have HP : Hid (Pl W a0 n0 c0 a1 n1 c1 a2 n2 c2 a3 n3 c3 P) := hp.stay B0.out
  have HGE : Hid (_ = _) := cell_keep B0.out hg
  clear hg
  clear hp
  have q0 := Q.out.cell 0 rfl
  have q1 := Q.out.cell 1 rfl
  have q2 := Q.out.cell 2 rfl
  have q3 := Q.out.cell 3 rfl
  go_enter Tryz.func9, Tryz.ntmps9
  go_wp2_with fail
  clear hW hS q0 q1 q2 q3
  refine (i_asked _ _ _ _ _ _ _ _ _ _ _ _ P _ _ HP.out HGE.out).mono ?_
  rw [HA0.out]
  rintro e w1 ⟨rfl, b1⟩
  have B1 : Hid (Below w.heap.size w w1) := on B0.out b1
  have R1 : Hid (Vb w1 (s + 2) #[.int .i64 0, .slice none 0 0, .int .i64 0, .slice none 0 0, .bool false, .bool false, .bool false, .int .i64 0, .slice none 0 0, .slice none 0 0, .slice none 0 0, .slice none 0 0] 40) := R.out.keep b1
  have S1 : Hid (Vb w1 (s + 1) #[.slice d0 m0 k0, .int .i64 H.pc, .slice d1 m1 k1, .bool H.halted, .bool H.waiting, .bool H.rung, .int .i64 H.done, .slice d2 m2 k2, .slice d3 m3 k3, .slice d4 m4 k4, .slice d5 m5 k5] 50) := S.out.keep b1
  have Q1 : Hid (Vb w1 s #[.slice a0 n0 c0, .slice a1 n1 c1, .slice a2 n2 c2, .slice a3 n3 c3] 46) := Q.out.keep b1
  have HP1 : Hid (Pl w1 a0 n0 c0 a1 n1 c1 a2 n2 c2 a3 n3 c3 P) := HP.out.stay b1
  clear b1
  have y0 := S1.out.cell 0 rfl
  have y1 := S1.out.cell 1 rfl
  have y2 := S1.out.cell 2 rfl
  have y3 := S1.out.cell 3 rfl
  have y4 := S1.out.cell 4 rfl
  have y5 := S1.out.cell 5 rfl
  have y6 := S1.out.cell 6 rfl
  have y7 := S1.out.cell 7 rfl
  have y8 := S1.out.cell 8 rfl
  have y9 := S1.out.cell 9 rfl
  have y10 := S1.out.cell 10 rfl
  go_wp2_with fail
  clear y0 y1 y2 y3 y4 y5 y6 y7 y8 y9 y10
  refine (i_soloFault _ _ _ _ _ _ H ps zs _ _ (HS.out.keep B1.out) HL.out).mono ?_
  rw [HX.out]
  rintro e w2 ⟨rfl, b2⟩
  have B2 : Hid (Below w.heap.size w w2) := on B1.out b2
  have R2 : Hid (Vb w2 (s + 2) #[.int .i64 0, .slice none 0 0, .int .i64 0, .slice none 0 0, .bool false, .bool false, .bool false, .int .i64 0, .slice none 0 0, .slice none 0 0, .slice none 0 0, .slice none 0 0] 40) := R1.out.keep b2
  have S2 : Hid (Vb w2 (s + 1) #[.slice d0 m0 k0, .int .i64 H.pc, .slice d1 m1 k1, .bool H.halted, .bool H.waiting, .bool H.rung, .int .i64 H.done, .slice d2 m2 k2, .slice d3 m3 k3, .slice d4 m4 k4, .slice d5 m5 k5] 50) := S1.out.keep b2
  have Q2 : Hid (Vb w2 s #[.slice a0 n0 c0, .slice a1 n1 c1, .slice a2 n2 c2, .slice a3 n3 c3] 46) := Q1.out.keep b2
  have HP2 : Hid (Pl w2 a0 n0 c0 a1 n1 c1 a2 n2 c2 a3 n3 c3 P) := HP1.out.stay b2
  clear b2
  have GN : Hid (g < n0) := by have := HP2.out.own.len; have := SP.out.1; show _ < _; omega
  have hgI : (g : Int) < (n0 : Int) := by have := GN.out; omega
  have hn0 : (n0 : Int) ≤ 9223372036854775807 := by have := HP2.out.own.cap; unfold maxLen at this; omega
  obtain ⟨x, ob, ol', oc, rfl, ko1, ko2⟩ := HP2.out.own.at g GN.out
  obtain rfl : ol = ol' := by have := ko2.len; have := HOL.out; omega
  have OL : Hid (ol = (P.own.getD g []).length ∧ ol ≤ 5) := ⟨ko2.len, by have := ko2.len; have := SP.out.2.1; omega⟩
  have ol5 : (ol : Int) ≤ 5 := by have := OL.out; omega
  clear ko2
  have q0 := Q2.out.cell 0 rfl
  go_wp2_with fail
  clear q0 ko1
  go_loopw [9, 10, 31] (fun y _ c wr => ∃ j : Nat, j ≤ ol ∧ c = .int .i64 j ∧ Nums wr w2.heap.size y (upL j) ∧ Below w2.heap.size w2 wr) (fun _ _ c _ => ol - (intOf c).toNat)
  case atStart => exact ⟨0, Nat.zero_le _, rfl, Nums.nil _ _, Below.refl _ _⟩
  case round =>
    obtain ⟨j, hj, rfl, hN, hB⟩ := hrel
    have HN : Hid (Nums wr w2.heap.size _ (upL j)) := hN
    have HB : Hid (Below w2.heap.size w2 wr) := hB
    obtain ⟨ya, yc, hy, _, _, _⟩ := hN.shape
    rw [up_len] at hy
    subst hy
    have SZ : Hid (w2.heap.size ≤ wr.heap.size) := hB.size
    clear hN
    by_cases hlt : j < ol
    · have hJ : (j : Int) < (ol : Int) := by omega
      have HLT : Hid (j < ol) := hlt
      have LU : Hid ((upL j).length ≤ 5) := by show _ ≤ _; rw [up_len]; have := OL.out; omega
      clear hlt hB
      go_wp2_with (at_builtin; refine wp_appn _ rfl _ _ rfl w2.heap.size _ _ rfl (HN.out.keep (al (Below.refl _ _) _)) wr.heap.size 1 1 [(j : Int)] rfl rfl (one_at (cell_new rfl)) (by have := LU.out; omega) (by have := SZ.out; simp; omega) ?_; intro v' w' hN' hG')
      have N' : Hid (Nums w' w2.heap.size v' (upL (j + 1))) := by show Nums _ _ _ _; rw [up_succ]; exact hN'
      have B' : Hid (Below w2.heap.size w2 w') := (al HB.out _).grown hG' (by have := SZ.out; simp; omega) (fun k hk => (HN.out.lt k hk).1)
      clear hN' hG'
      go_wp2_with fail
      go_roundw
      case rel => exact ⟨j + 1, by have := HLT.out; omega, by go_num, N'.out, B'.out⟩
      case measure => have := HLT.out; simp [intOf]; omega
    · have hJ : ¬ (j : Int) < (ol : Int) := by omega
      have EJ : j = ol := by omega
      subst EJ
      have B3 : Hid (Below w.heap.size w wr) := on B2.out HB.out
      have R3 : Hid (Vb wr (s + 2) #[.int .i64 0, .slice none 0 0, .int .i64 0, .slice none 0 0, .bool false, .bool false, .bool false, .int .i64 0, .slice none 0 0, .slice none 0 0, .slice none 0 0, .slice none 0 0] 40) := R2.out.keep HB.out
      have S3 : Hid (Vb wr (s + 1) #[.slice d0 m0 k0, .int .i64 H.pc, .slice d1 m1 k1, .bool H.halted, .bool H.waiting, .bool H.rung, .int .i64 H.done, .slice d2 m2 k2, .slice d3 m3 k3, .slice d4 m4 k4, .slice d5 m5 k5] 50) := S2.out.keep HB.out
      have Q3 : Hid (Vb wr s #[.slice (some x) n0 c0, .slice a1 n1 c1, .slice a2 n2 c2, .slice a3 n3 c3] 46) := Q2.out.keep HB.out
      have HP3 : Hid (Pl wr (some x) n0 c0 a1 n1 c1 a2 n2 c2 a3 n3 c3 P) := HP2.out.stay HB.out
      clear hlt hB
      have q0 := Q3.out.cell 0 rfl
      have q1 := Q3.out.cell 1 rfl
      have q2 := Q3.out.cell 2 rfl
      have q3 := Q3.out.cell 3 rfl
      go_wp2_with fail
      clear q0 q1 q2 q3
      refine (i_givenS _ _ _ _ _ _ _ _ _ _ _ _ P _ _ HP3.out (by have := SP.out.2.2.1; omega)).mono ?_
      rintro e w4 ⟨gv, rfl, gn, b4⟩
      obtain ⟨ga, gc, hgv, _, _, _⟩ := gn.shape
      obtain ⟨gl, hgl⟩ : ∃ n, (gvL false (g : Int) P.lanes).length = n := ⟨_, rfl⟩
      rw [hgl] at hgv
      subst hgv
      have G4 : Hid (Nums w4 wr.heap.size (.slice ga gl gc) (gvL false (g : Int) P.lanes)) := gn
      have U4 : Hid (Nums w4 w2.heap.size (.slice ya j yc) (upL j)) := HN.out.keep b4
      have B4 : Hid (Below w.heap.size w w4) := on B3.out b4
      have R4 : Hid (Vb w4 (s + 2) #[.int .i64 0, .slice none 0 0, .int .i64 0, .slice none 0 0, .bool false, .bool false, .bool false, .int .i64 0, .slice none 0 0, .slice none 0 0, .slice none 0 0, .slice none 0 0] 40) := R3.out.keep b4
      have S4 : Hid (Vb w4 (s + 1) #[.slice d0 m0 k0, .int .i64 H.pc, .slice d1 m1 k1, .bool H.halted, .bool H.waiting, .bool H.rung, .int .i64 H.done, .slice d2 m2 k2, .slice d3 m3 k3, .slice d4 m4 k4, .slice d5 m5 k5] 50) := S3.out.keep b4
      have H4 : Hid (Sm w4 b (.slice d0 m0 k0) (.slice d1 m1 k1) (.slice d2 m2 k2) (.slice d3 m3 k3) (.slice d4 m4 k4) (.slice d5 m5 k5) H ps zs) := HS.out.keep B4.out
      clear gn hgl b4
      obtain ⟨gm, hgm⟩ := sv_some H4.out.mm (by have := SS.out.2; omega)
      subst hgm
      have LT : Hid (s + 2 < w4.heap.size) := R4.out.lt
      have QS : Hid (∀ w', SvN 12 w4 (s + 2) w' → Vb w' (s + 1) #[.slice d0 m0 k0, .int .i64 H.pc, .slice d1 m1 k1, .bool H.halted, .bool H.waiting, .bool H.rung, .int .i64 H.done, .slice d2 m2 k2, .slice d3 m3 k3, .slice d4 m4 k4, .slice (some ⟨gm, 0, none⟩) m5 k5] 50) := fun w' hs => hs.1.vb S4.out (by omega)
      have BS : Hid (∀ w', SvN 12 w4 (s + 2) w' → Below w.heap.size w w') := fun w' hs => Mq.under B4.out hs.1 fun k e => by have := HSs.out; omega
      have Sv0 : Hid (SvN 12 w4 (s + 2) w4.drew) := SvN.step ⟨Mq.refl _ _, R4.out.there 12 (by decide)⟩ LT.out (Below.refl _ _).drew
      have E0 : Hid (Below w4.heap.size w4 w4.drew) := (Below.refl _ _).drew
      go_upto_region 14 with fail
      refine wp_region_held (S := fun w' => SvN 12 w4 (s + 2) w') (by kernel_rfl) ?_
      change wpAnyH _ _ _ _ _ _ _ _ (World.drew _)
      generalize w4.drew = u0 at *
      refine wpAnyH_take (i := 0) (v := (.pointer (some ⟨s + 1, 0, none⟩))) rfl (by kernel_rfl) (by kernel_rfl) (by kernel_rfl) (fun _ _ _ h => h) (Or.inl ⟨by rfl, fun w' hs => by go_simp⟩) Sv0.out ?_
      change wpAnyH _ _ _ _ _ _ _ (Act.put _ (some 42) _) _
      simp only [Act.put, List.setIfInBounds_toArray, List.set_cons_zero, List.set_cons_succ]
      refine wpAnyH_take (i := 1) (v := (.agg #[.slice d0 m0 k0, .int .i64 H.pc, .slice d1 m1 k1, .bool H.halted, .bool H.waiting, .bool H.rung, .int .i64 H.done, .slice d2 m2 k2, .slice d3 m3 k3])) rfl (by kernel_rfl) (by kernel_rfl) (by kernel_rfl) (fun _ _ _ h => h) (Or.inl ⟨by rfl, fun w' hs => by have hq := QS.out w' hs; have y0 := hq.cell 0 rfl; have y1 := hq.cell 1 rfl; have y2 := hq.cell 2 rfl; have y3 := hq.cell 3 rfl; have y4 := hq.cell 4 rfl; have y5 := hq.cell 5 rfl; have y6 := hq.cell 6 rfl; have y7 := hq.cell 7 rfl; have y8 := hq.cell 8 rfl; go_simp⟩) Sv0.out ?_
      change wpAnyH _ _ _ _ _ _ _ (Act.put _ (some 43) _) _
      simp only [Act.put, List.setIfInBounds_toArray, List.set_cons_zero, List.set_cons_succ]
      refine wpAnyH_take (i := 3) (v := (.pointer (some ⟨s + 1, 10, none⟩))) rfl (by kernel_rfl) (by kernel_rfl) (by kernel_rfl) (fun _ _ _ h => h) (Or.inl ⟨by rfl, fun w' hs => by go_simp⟩) Sv0.out ?_
      change wpAnyH _ _ _ _ _ _ _ (Act.put _ (some 45) _) _
      simp only [Act.put, List.setIfInBounds_toArray, List.set_cons_zero, List.set_cons_succ]
      refine wpAnyH_take (i := 4) (v := (.slice (some ⟨gm, 0, none⟩) m5 k5)) rfl (by kernel_rfl) (by kernel_rfl) (by kernel_rfl) (fun _ _ _ h => h) (Or.inl ⟨by rfl, fun w' hs => by have y0 := (QS.out w' hs).cell 10 rfl; go_simp⟩) Sv0.out ?_
      change wpAnyH _ _ _ _ _ _ _ (Act.put _ (some 46) _) _
      simp only [Act.put, List.setIfInBounds_toArray, List.set_cons_zero, List.set_cons_succ]
      refine wpAnyH_take (i := 6) (v := (.slice ya j yc)) rfl (by kernel_rfl) (by kernel_rfl) (by kernel_rfl) (fun _ _ _ h => h) (Or.inl ⟨by rfl, fun w' hs => by go_simp⟩) Sv0.out ?_
      change wpAnyH _ _ _ _ _ _ _ (Act.put _ (some 48) _) _
      simp only [Act.put, List.setIfInBounds_toArray, List.set_cons_zero, List.set_cons_succ]
      refine wpAnyH_take (i := 7) (v := (.slice ga gl gc)) rfl (by kernel_rfl) (by kernel_rfl) (by kernel_rfl) (fun _ _ _ h => h) (Or.inl ⟨by rfl, fun w' hs => by go_simp⟩) Sv0.out ?_
      change wpAnyH _ _ _ _ _ _ _ (Act.put _ (some 49) _) _
      simp only [Act.put, List.setIfInBounds_toArray, List.set_cons_zero, List.set_cons_succ]
      refine wpAnyH_ready (rs := [2]) (by kernel_rfl) (by simp) ?_
      refine AllReadyH.cons rfl (fun K hK => ?_) AllReadyH.nil
      rw [if_pos (by rfl)]
      go_simp
      refine (i_machine _ _ _ _ H _ _ (H4.out.h.keep E0.out) SS.out.1.r16 SS.out.1.c11 (by have := SS.out.1.i40; omega) (by have := SS.out.1.o40; omega)).mono ?_
      rintro e u1 ⟨i2, o2, rfl, mi, mo, ap, b3⟩
      obtain ⟨ja, jk, rfl, _⟩ := mi.shape
      obtain ⟨za, zk, rfl, _⟩ := mo.shape
      obtain ⟨jn, hyn⟩ : ∃ n, H.inn.length = n := ⟨_, rfl⟩
      obtain ⟨zn, hzn⟩ : ∃ n, H.out.length = n := ⟨_, rfl⟩
      rw [hyn] at mi
      rw [hzn] at mo
      rw [hyn, hzn]
      have N1 : Hid (Nums u1 u0.heap.size (.slice ja jn jk) H.inn ∧ Nums u1 u0.heap.size (.slice za zn zk) H.out) := ⟨mi, mo⟩
      have Sv1 : Hid (SvN 12 w4 (s + 2) u1) := Sv0.out.step LT.out b3
      have E1 : Hid (Below w4.heap.size w4 u1) := on E0.out b3
      clear mi mo ap b3 hyn hzn
      refine hK.out _ _ Sv1.out (fun _ => ?_)
      clear hK K
      refine wpAnyH_ready (rs := [5]) (by kernel_rfl) (by simp) ?_
      refine AllReadyH.cons rfl (fun K hK => ?_) AllReadyH.nil
      rw [if_pos (by rfl)]
      go_simp
      refine (impl_cut gm m5 k5 zs b 8 _ (H4.out.mm.keep E1.out) (by have := SS.out.2; omega) (by decide) (by decide)).mono ?_
      rintro e u2 ⟨pg, rfl, pgs, b5⟩
      have N2 : Hid (Nums u2 u0.heap.size (.slice ja jn jk) H.inn ∧ Nums u2 u0.heap.size (.slice za zn zk) H.out) := ⟨N1.out.1.keep b5, N1.out.2.keep b5⟩
      have PG : Hid (Pags u2 u1.heap.size (.slice (some ⟨pg, 0, none⟩) 8 8) 8 zs) := pgs
      have Sv2 : Hid (SvN 12 w4 (s + 2) u2) := Sv1.out.step LT.out b5
      have E2 : Hid (Below w4.heap.size w4 u2) := on E1.out b5
      clear pgs b5
      refine hK.out _ _ Sv2.out (fun _ => ?_)
      clear hK K
      refine wpAnyH_ready (rs := [8]) (by kernel_rfl) (by simp) ?_
      refine AllReadyH.cons rfl (fun K hK => ?_) AllReadyH.nil
      rw [if_pos (by rfl)]
      go_simp
      refine (i_viewOn ja jn jk za zn zk H 0 pg 8 zs ya j yc (upL j) ga gl gc (gvL false (g : Int) P.lanes) u2 N2.out.1.rv N2.out.2.rv SS.out.1 8 (fun k hk => PG.out.cell k hk) (by decide) (by decide) (by have := SS.out.2; omega) (U4.out.keep E2.out).read (fun x hx => by have := up_in j x hx; have := OL.out; omega) (by rw [up_len]; exact OL.out.2) (G4.out.keep E2.out).read (fun x hx => SP.out.2.2.2.1 x hx) (by have := SP.out.2.2.2.2; omega)).mono ?_
      rintro e v1 ⟨r5, c5, i5, o5, l5, m5', rfl, v5, b5'⟩
      obtain ⟨xa0, xk0, x0e, _⟩ := v5.h.r.shape
      obtain ⟨xa1, xk1, x1e, _⟩ := v5.h.c.shape
      obtain ⟨xa2, xk2, x2e, _⟩ := v5.h.i.shape
      obtain ⟨xa3, xk3, x3e, _⟩ := v5.h.o.shape
      obtain ⟨xa4, xk4, x4e, _⟩ := v5.pl.shape
      obtain ⟨xa5, xk5, x5e, _⟩ := v5.mm.shape
      subst x0e x1e x2e x3e x4e x5e
      obtain ⟨x0, hx0⟩ : ∃ n, H.regs.length = n := ⟨_, rfl⟩
      obtain ⟨x1, hx1⟩ : ∃ n, H.csr.length = n := ⟨_, rfl⟩
      obtain ⟨x2, hx2⟩ : ∃ n, H.inn.length = n := ⟨_, rfl⟩
      obtain ⟨x3, hx3⟩ : ∃ n, H.out.length = n := ⟨_, rfl⟩
      obtain ⟨x4, hx4⟩ : ∃ n, (wordsL zs (upL j)).length = n := ⟨_, rfl⟩
      obtain ⟨x5, hx5⟩ : ∃ n, (wordsL zs (gvL false (g : Int) P.lanes)).length = n := ⟨_, rfl⟩
      rw [hx0, hx1, hx2, hx3, hx4, hx5] at v5 ⊢
      have V1 : Hid (Vm v1 u2.heap.size (.slice xa0 x0 xk0) (.slice xa1 x1 xk1) (.slice xa2 x2 xk2) (.slice xa3 x3 xk3) (.slice xa4 x4 xk4) (.slice xa5 x5 xk5) H (wordsL zs (upL j)) (wordsL zs (gvL false (g : Int) P.lanes))) := v5
      have Sv3 : Hid (SvN 12 w4 (s + 2) v1) := Sv2.out.step LT.out b5'
      have Z0 : Hid (w4.heap.size ≤ u2.heap.size) := E2.out.size
      clear v5 b5' hx0 hx1 hx2 hx3 hx4 hx5
      refine hK.out _ _ Sv3.out (fun _ => ?_)
      clear hK K
      refine wpAnyH_take (i := 9) (v := (.agg #[.int .i64 0, .slice xa0 x0 xk0, .int .i64 H.pc, .slice xa1 x1 xk1, .bool H.halted, .bool H.waiting, .bool H.rung, .int .i64 H.done, .slice xa2 x2 xk2, .slice xa3 x3 xk3, .slice xa4 x4 xk4, .slice xa5 x5 xk5])) rfl (by kernel_rfl) (by kernel_rfl) (by kernel_rfl) (fun _ _ _ h => h) (Or.inl ⟨by rfl, fun w' hs => by go_simp⟩) Sv3.out ?_
      change wpAnyH _ _ _ _ _ _ _ (Act.put _ (some 51) _) _
      simp only [Act.put, List.setIfInBounds_toArray, List.set_cons_zero, List.set_cons_succ]
      refine wpAnyH_ready (rs := [10]) (by kernel_rfl) (by simp) ?_
      refine AllReadyH.cons rfl (fun K hK => ?_) AllReadyH.nil
      rw [if_pos (by rfl)]
      refine wp_store_mid 40 (.tmp 6) (.tmp 51) rfl (s + 2) 0 #[.int .i64 0, .slice xa0 x0 xk0, .int .i64 H.pc, .slice xa1 x1 xk1, .bool H.halted, .bool H.waiting, .bool H.rung, .int .i64 H.done, .slice xa2 x2 xk2, .slice xa3 x3 xk3, .slice xa4 x4 xk4, .slice xa5 x5 xk5] rfl rfl Sv3.out.2 (by kernel_rfl) (by simp [Value.oneCell']) ?_
      change K (Act.put _ none undef) _
      simp only [Act.put]
      have S6 : Hid (SvN 12 w4 (s + 2) (v1.setCells (s + 2) 0 #[.int .i64 0, .slice xa0 x0 xk0, .int .i64 H.pc, .slice xa1 x1 xk1, .bool H.halted, .bool H.waiting, .bool H.rung, .int .i64 H.done, .slice xa2 x2 xk2, .slice xa3 x3 xk3, .slice xa4 x4 xk4, .slice xa5 x5 xk5].toList)) := Sv3.out.set _
      have R6 : Hid ((v1.setCells (s + 2) 0 #[.int .i64 0, .slice xa0 x0 xk0, .int .i64 H.pc, .slice xa1 x1 xk1, .bool H.halted, .bool H.waiting, .bool H.rung, .int .i64 H.done, .slice xa2 x2 xk2, .slice xa3 x3 xk3, .slice xa4 x4 xk4, .slice xa5 x5 xk5].toList).rangeAt (s + 2) 0 #[.int .i64 0, .slice xa0 x0 xk0, .int .i64 H.pc, .slice xa1 x1 xk1, .bool H.halted, .bool H.waiting, .bool H.rung, .int .i64 H.done, .slice xa2 x2 xk2, .slice xa3 x3 xk3, .slice xa4 x4 xk4, .slice xa5 x5 xk5].toList) := World.rangeAt_setCells_same _ _ _ _ Sv3.out.2
      have Q6 : Hid (Mq (fun k => k = s + 2) v1 (v1.setCells (s + 2) 0 #[.int .i64 0, .slice xa0 x0 xk0, .int .i64 H.pc, .slice xa1 x1 xk1, .bool H.halted, .bool H.waiting, .bool H.rung, .int .i64 H.done, .slice xa2 x2 xk2, .slice xa3 x3 xk3, .slice xa4 x4 xk4, .slice xa5 x5 xk5].toList)) := mq_cells (s + 2) _ v1 0
      generalize v1.setCells (s + 2) 0 #[.int .i64 0, .slice xa0 x0 xk0, .int .i64 H.pc, .slice xa1 x1 xk1, .bool H.halted, .bool H.waiting, .bool H.rung, .int .i64 H.done, .slice xa2 x2 xk2, .slice xa3 x3 xk3, .slice xa4 x4 xk4, .slice xa5 x5 xk5].toList = v6 at *
      refine hK.out _ _ S6.out (fun _ => ?_)
      clear hK K
      refine wpAnyH_done (by kernel_rfl) ?_ _
      have z1 : w.heap.size ≤ w4.heap.size := B4.out.size
      have z2 := Z0.out
      have o6 : Ho w4.heap.size v1 v6 := Q6.out.ho fun k e => by have := LT.out; omega
      have F : Hid (Vm v6 w.heap.size (.slice xa0 x0 xk0) (.slice xa1 x1 xk1) (.slice xa2 x2 xk2) (.slice xa3 x3 xk3) (.slice xa4 x4 xk4) (.slice xa5 x5 xk5) H (wordsL zs (upL j)) (wordsL zs (gvL false (g : Int) P.lanes))) := by
        have v := V1.out
        exact ⟨((v.h.mono z2).ho o6).mono z1, v.a, ((v.pl.mono z2).ho o6).mono z1, ((v.mm.mono z2).ho o6).mono z1, v.rl, v.cl, v.il, v.ol, v.lm, v.rm, v.cm, v.im, v.om⟩
      have B6 : Hid (Below w.heap.size w v6) := BS.out _ S6.out
      have LD := run_loadVar_mid (P := Tryz.prog) v6 (s + 2) 0 40 #[.int .i64 0, .slice xa0 x0 xk0, .int .i64 H.pc, .slice xa1 x1 xk1, .bool H.halted, .bool H.waiting, .bool H.rung, .int .i64 H.done, .slice xa2 x2 xk2, .slice xa3 x3 xk3, .slice xa4 x4 xk4, .slice xa5 x5 xk5].toList _ R6.out Tryz.underlying40 rfl (by kernel_rfl)
      go_wp2_with fail
      exact bodyPost_ret (v := .agg #[.int .i64 0, .slice xa0 x0 xk0, .int .i64 H.pc, .slice xa1 x1 xk1, .bool H.halted, .bool H.waiting, .bool H.rung, .int .i64 H.done, .slice xa2 x2 xk2, .slice xa3 x3 xk3, .slice xa4 x4 xk4, .slice xa5 x5 xk5]) (by simp [results, Tryz.results9, asAddr]; rw [LD]) rfl ⟨_, _, _, _, _, _, rfl, F.out, B6.out⟩
theorem i_soloView (a0 a1 a2 a3 : Option Addr) (n0 c0 n1 c1 n2 c2 n3 c3 : Nat) (P : Plc) (r c i o l m : Value) (H : Ht) (ps : List (Int × Int)) (zs : List Int) (gu : Int) (b : Nat) (w : World) (hp : Pl w a0 n0 c0 a1 n1 c1 a2 n2 c2 a3 n3 c3 P) (h : Sm w b r c i o l m H ps zs) (hl : ps.length ≤ 1048576) (hg : w.cell? ⟨0, 0, none⟩ = some (.iface 179 (.agg #[.pointer (some ⟨1, 145, none⟩)]))) :
    Calls Tryz.prog 9 #[.agg #[.slice a0 n0 c0, .slice a1 n1 c1, .slice a2 n2 c2, .slice a3 n3 c3], .agg #[r, .int .i64 H.pc, c, .bool H.halted, .bool H.waiting, .bool H.rung, .int .i64 H.done, i, o, l, m], .int .i64 gu] w fun e w' => ∃ r' c' i' o' l' m', e = .returned (.agg #[.int .i64 (svC P gu H ps zs), r', .int .i64 (svH P gu H ps zs).pc, c', .bool (svH P gu H ps zs).halted, .bool (svH P gu H ps zs).waiting, .bool (svH P gu H ps zs).rung, .int .i64 (svH P gu H ps zs).done, i', o', l', m']) ∧ Vm w' w.heap.size r' c' i' o' l' m' (svH P gu H ps zs) (svO P gu H ps zs) (svG P gu H ps zs) ∧ Below w.heap.size w w' := by
  by_cases ha : askV P gu = 0
  · by_cases hx : sfV H ps zs = 0
    · obtain ⟨g, rfl⟩ := Int.eq_ofNat_of_zero_le (ask_guest P gu ha).1
      exact iv_good _ _ _ _ _ _ _ _ _ _ _ _ P r c i o l m H ps zs g b w hp h hl hg ha hx
    · exact iv_sf _ _ _ _ _ _ _ _ _ _ _ _ P r c i o l m H ps zs gu b w hp h hl hg ha hx
  · exact iv_ask _ _ _ _ _ _ _ _ _ _ _ _ P r c i o l m H ps zs gu b w hp h hl hg ha
end Go.Proofs.YtadkhognlapckaaGreatDoor
