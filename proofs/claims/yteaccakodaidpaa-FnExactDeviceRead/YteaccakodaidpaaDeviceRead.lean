/- The law FnExactDeviceRead answers true at every input, and each argument reads behind the call as it read ahead of it; no condition. -/
import Derived.Test.YteaccakodaidpaaBase
import Derived.Lib.SmallJoins
import Derived.Test.YteaccakodaidpaaHdn
import Derived.Test.YteaccakodaidpaaHto
import Derived.Deep.RegionWith
import Derived.Deep.Cut
import Derived.Deep.CutRange
namespace Go.Proofs.Yteaccakodaidpaa.fnExactDeviceReadDone
open Go.ChangeShapes Go.WideShapes Go.ChangeAt Go.RowKit
open Go.ChangeMaps (open_string shut_string)
set_option linter.unusedVariables false

set_option maxRecDepth 20000 in
set_option maxHeartbeats 8000000 in
theorem walk (a0 a1 a2 a3 : Option Addr) (n0 c0 n1 c1 n2 c2 n3 c3 : Nat) (H : Ht) (k : Int) (w : World) (h : Hin w a0 n0 c0 a1 n1 c1 a2 n2 c2 a3 n3 c3 H) (wk : (Lit.int .i64 k).wf = true) :
    Calls Try.prog 5 #[.agg #[.slice a0 n0 c0, .int .i64 H.pc, .slice a1 n1 c1, .bool H.halted, .bool H.waiting, .bool H.rung, .int .i64 H.done, .slice a2 n2 c2, .slice a3 n3 c3], .int .i64 k] w fun e w' => e = .returned (.bool true) ∧ Below w.heap.size w w' := by
  generalize hW : w.alloc (.cells #[.slice a0 n0 c0, .int .i64 H.pc, .slice a1 n1 c1, .bool H.halted, .bool H.waiting, .bool H.rung, .int .i64 H.done, .slice a2 n2 c2, .slice a3 n3 c3] 53) = W
  have B0 : Hid (Below w.heap.size w W) := by show Below _ _ _; rw [← hW]; exact al (Below.refl _ _) _
  obtain ⟨s, hS⟩ : ∃ s, w.heap.size = s := ⟨_, rfl⟩
  have Q : Hid (Vb W s #[.slice a0 n0 c0, .int .i64 H.pc, .slice a1 n1 c1, .bool H.halted, .bool H.waiting, .bool H.rung, .int .i64 H.done, .slice a2 n2 c2, .slice a3 n3 c3] 53) := by
    show Vb _ _ _ _
    rw [← hW, ← hS]
    exact Vb.new _ _ _
  have HP : Hid (Hin W a0 n0 c0 a1 n1 c1 a2 n2 c2 a3 n3 c3 H) := h.stay B0.out
  clear h wk
  have q0 := Q.out.cell 0 rfl
  have q1 := Q.out.cell 1 rfl
  have q2 := Q.out.cell 2 rfl
  have q3 := Q.out.cell 3 rfl
  have q4 := Q.out.cell 4 rfl
  have q5 := Q.out.cell 5 rfl
  have q6 := Q.out.cell 6 rfl
  have q7 := Q.out.cell 7 rfl
  have q8 := Q.out.cell 8 rfl
  go_enter Try.func5, Try.ntmps5
  go_wp2_with fail
  clear hW hS
  refine (sz_hart _ _ _ _ _ _ _ _ _ _ _ _ H _ HP.out).mono ?_
  rintro e w1 ⟨⟨r, rfl, hr, hs⟩, b1⟩
  by_cases hneg : r < 0
  · go_wp2_with fail
    go_ret
    exact ⟨rfl, on B0.out b1⟩
  have SM : Hid (Hs n0 n1 n2 n3) := hs (by omega)
  have B1 : Hid (Below _ W w1) := b1
  have Q1 := Q.out.keep b1
  clear hs b1 q0 q1 q2 q3 q4 q5 q6 q7 q8
  have q0 := Q1.cell 0 rfl
  have q1 := Q1.cell 1 rfl
  have q2 := Q1.cell 2 rfl
  have q3 := Q1.cell 3 rfl
  have q4 := Q1.cell 4 rfl
  have q5 := Q1.cell 5 rfl
  have q6 := Q1.cell 6 rfl
  have q7 := Q1.cell 7 rfl
  have q8 := Q1.cell 8 rfl
  clear Q1
  go_wp2_with fail
  clear q0 q1 q2 q3 q4 q5 q6 q7 q8
  refine (to_hart _ _ _ _ _ _ _ _ _ _ _ _ H _ (HP.out.stay B1.out) SM.out).mono ?_
  rintro e w2 ⟨r2, d2, i2, o2, rfl, m2, A2, b2⟩
  have B2 : Hid (Below _ W w2) := on B1.out b2
  have M2 : Hid (Hm w2 _ r2 d2 i2 o2 H) := m2
  clear m2 b2 A2
  go_wp2_with fail
  refine (s_devRead _ _ _ _ H _ _ _ M2.out).mono ?_
  rintro e w3 ⟨r3, d3, i3, o3, rfl, m3, A3, b3⟩
  obtain ⟨x3, hx3⟩ : ∃ x3, (drR H k).code = x3 := ⟨_, rfl⟩
  obtain ⟨yv, hy3⟩ : ∃ yv, (drR H k).val = yv := ⟨_, rfl⟩
  obtain ⟨zv, hz3⟩ : ∃ zv, (drR H k).ring = zv := ⟨_, rfl⟩
  obtain ⟨G, hG⟩ : ∃ G, (drR H k).h = G := ⟨_, rfl⟩
  rw [hG] at m3
  rw [hx3, hy3, hz3, hG]
  have HXY : Hid ((drR H k).val = yv) := hy3
  have HXZ : Hid ((drR H k).ring = zv) := hz3
  clear hy3 hz3
  have HX : Hid ((drR H k).code = x3) := hx3
  have HG : Hid ((drR H k).h = G) := hG
  have HT : Hid ((1 : Int) + totH G ≤ 4611686018427387904) := by have := drR_tot H k; rw [hG] at this; show _ ≤ _; omega
  obtain ⟨za0, zk0, rfl, _⟩ := m3.r
  obtain ⟨za1, zk1, rfl, _⟩ := m3.c
  obtain ⟨za2, zk2, rfl, _⟩ := m3.i
  obtain ⟨za3, zk3, rfl, _⟩ := m3.o
  have M3w : Hid (Hr w3 (.slice za0 G.regs.length zk0) (.slice za1 G.csr.length zk1) (.slice za2 G.inn.length zk2) (.slice za3 G.out.length zk3) G) := m3
  have B3 : Hid (Below _ W (w3.alloc (.cells #[.int .i64 x3, .int .i64 yv, .int .i64 zv, (.slice za0 G.regs.length zk0), .int .i64 G.pc, (.slice za1 G.csr.length zk1), .bool G.halted, .bool G.waiting, .bool G.rung, .int .i64 G.done, (.slice za2 G.inn.length zk2), (.slice za3 G.out.length zk3)] 46))) := al (on B2.out b3) _
  have Y3 : Hid (Vb (w3.alloc (.cells #[.int .i64 x3, .int .i64 yv, .int .i64 zv, (.slice za0 G.regs.length zk0), .int .i64 G.pc, (.slice za1 G.csr.length zk1), .bool G.halted, .bool G.waiting, .bool G.rung, .int .i64 G.done, (.slice za2 G.inn.length zk2), (.slice za3 G.out.length zk3)] 46)) w3.heap.size #[.int .i64 x3, .int .i64 yv, .int .i64 zv, (.slice za0 G.regs.length zk0), .int .i64 G.pc, (.slice za1 G.csr.length zk1), .bool G.halted, .bool G.waiting, .bool G.rung, .int .i64 G.done, (.slice za2 G.inn.length zk2), (.slice za3 G.out.length zk3)] 46) := Vb.new _ _ _
  have M3 : Hid (Hr (w3.alloc (.cells #[.int .i64 x3, .int .i64 yv, .int .i64 zv, (.slice za0 G.regs.length zk0), .int .i64 G.pc, (.slice za1 G.csr.length zk1), .bool G.halted, .bool G.waiting, .bool G.rung, .int .i64 G.done, (.slice za2 G.inn.length zk2), (.slice za3 G.out.length zk3)] 46)) (.slice za0 G.regs.length zk0) (.slice za1 G.csr.length zk1) (.slice za2 G.inn.length zk2) (.slice za3 G.out.length zk3) G) := m3.stay (al (Below.refl _ _) _)
  have L3 : Hid (∀ k, Own4 (.slice za0 G.regs.length zk0) (.slice za1 G.csr.length zk1) (.slice za2 G.inn.length zk2) (.slice za3 G.out.length zk3) k → k < w3.heap.size) := fun k e => (A3 k e).2
  have Z3 : Hid (w3.heap.size + 1 = (w3.alloc (.cells #[.int .i64 x3, .int .i64 yv, .int .i64 zv, (.slice za0 G.regs.length zk0), .int .i64 G.pc, (.slice za1 G.csr.length zk1), .bool G.halted, .bool G.waiting, .bool G.rung, .int .i64 G.done, (.slice za2 G.inn.length zk2), (.slice za3 G.out.length zk3)] 46)).heap.size) := by show _ = _; simp
  have Q3 := Q.out.keep (on B2.out b3)
  have ls3 : s < w3.heap.size := Q3.lt
  have LS3 : Hid (s < w3.heap.size) := ls3
  clear b3 hx3 hG M2 m3 A3 M3w
  have q0 := Q3.cell 0 rfl
  have q1 := Q3.cell 1 rfl
  have q2 := Q3.cell 2 rfl
  have q3 := Q3.cell 3 rfl
  have q4 := Q3.cell 4 rfl
  have q5 := Q3.cell 5 rfl
  have q6 := Q3.cell 6 rfl
  have q7 := Q3.cell 7 rfl
  have q8 := Q3.cell 8 rfl
  clear Q3
  go_wp2_with fail
  generalize (w3.alloc (.cells #[.int .i64 x3, .int .i64 yv, .int .i64 zv, (.slice za0 G.regs.length zk0), .int .i64 G.pc, (.slice za1 G.csr.length zk1), .bool G.halted, .bool G.waiting, .bool G.rung, .int .i64 G.done, (.slice za2 G.inn.length zk2), (.slice za3 G.out.length zk3)] 46)) = W3 at *
  generalize w3.heap.size = s3 at *
  clear q0 q1 q2 q3 q4 q5 q6 q7 q8 ls3
  refine (to_hart _ _ _ _ _ _ _ _ _ _ _ _ H _ (HP.out.stay B3.out) SM.out).mono ?_
  rintro e w4 ⟨r4, d4, i4, o4, rfl, m4, A4, b4⟩
  obtain ⟨xa0, xk0, rfl, _⟩ := m4.r.shape
  obtain ⟨xa1, xk1, rfl, _⟩ := m4.c.shape
  obtain ⟨xa2, xk2, rfl, _⟩ := m4.i.shape
  obtain ⟨xa3, xk3, rfl, _⟩ := m4.o.shape
  have M4 : Hid (Hm w4 W3.heap.size (.slice xa0 H.regs.length xk0) (.slice xa1 H.csr.length xk1) (.slice xa2 H.inn.length xk2) (.slice xa3 H.out.length xk3) H) := m4
  have HA4 : Hid (Ha (.slice xa0 H.regs.length xk0) (.slice xa1 H.csr.length xk1) (.slice xa2 H.inn.length xk2) (.slice xa3 H.out.length xk3)) := A4
  have D4 : Hid (Below w4.heap.size w4 (w4.alloc (.cells #[(.slice xa0 H.regs.length xk0), .int .i64 H.pc, (.slice xa1 H.csr.length xk1), .bool H.halted, .bool H.waiting, .bool H.rung, .int .i64 H.done, (.slice xa2 H.inn.length xk2), (.slice xa3 H.out.length xk3)] 39))) := al (Below.refl _ _) _
  have B4 : Hid (Below _ W (w4.alloc (.cells #[(.slice xa0 H.regs.length xk0), .int .i64 H.pc, (.slice xa1 H.csr.length xk1), .bool H.halted, .bool H.waiting, .bool H.rung, .int .i64 H.done, (.slice xa2 H.inn.length xk2), (.slice xa3 H.out.length xk3)] 39))) := al (on B3.out b4) _
  have X4 : Hid (Vb (w4.alloc (.cells #[(.slice xa0 H.regs.length xk0), .int .i64 H.pc, (.slice xa1 H.csr.length xk1), .bool H.halted, .bool H.waiting, .bool H.rung, .int .i64 H.done, (.slice xa2 H.inn.length xk2), (.slice xa3 H.out.length xk3)] 39)) w4.heap.size #[(.slice xa0 H.regs.length xk0), .int .i64 H.pc, (.slice xa1 H.csr.length xk1), .bool H.halted, .bool H.waiting, .bool H.rung, .int .i64 H.done, (.slice xa2 H.inn.length xk2), (.slice xa3 H.out.length xk3)] 39) := Vb.new _ _ _
  have Z4 : Hid (W3.heap.size ≤ w4.heap.size ∧ w4.heap.size + 1 = (w4.alloc (.cells #[(.slice xa0 H.regs.length xk0), .int .i64 H.pc, (.slice xa1 H.csr.length xk1), .bool H.halted, .bool H.waiting, .bool H.rung, .int .i64 H.done, (.slice xa2 H.inn.length xk2), (.slice xa3 H.out.length xk3)] 39)).heap.size) := ⟨b4.size, by simp⟩
  have Y4 : Hid (Vb (w4.alloc (.cells #[(.slice xa0 H.regs.length xk0), .int .i64 H.pc, (.slice xa1 H.csr.length xk1), .bool H.halted, .bool H.waiting, .bool H.rung, .int .i64 H.done, (.slice xa2 H.inn.length xk2), (.slice xa3 H.out.length xk3)] 39)) s3 _ _) := (Y3.out.keep b4).push _
  have M34 : Hid (Hr (w4.alloc (.cells #[(.slice xa0 H.regs.length xk0), .int .i64 H.pc, (.slice xa1 H.csr.length xk1), .bool H.halted, .bool H.waiting, .bool H.rung, .int .i64 H.done, (.slice xa2 H.inn.length xk2), (.slice xa3 H.out.length xk3)] 39)) (.slice za0 G.regs.length zk0) (.slice za1 G.csr.length zk1) (.slice za2 G.inn.length zk2) (.slice za3 G.out.length zk3) G) := (M3.out.stay b4).stay D4.out
  clear m4 A4 b4
  go_wp2_with fail
  generalize (w4.alloc (.cells #[(.slice xa0 H.regs.length xk0), .int .i64 H.pc, (.slice xa1 H.csr.length xk1), .bool H.halted, .bool H.waiting, .bool H.rung, .int .i64 H.done, (.slice xa2 H.inn.length xk2), (.slice xa3 H.out.length xk3)] 39)) = W4 at *
  obtain ⟨s4, hs4⟩ : ∃ s4, w4.heap.size = s4 := ⟨_, rfl⟩
  rw [hs4] at X4 Z4 ⊢
  have S4 : Hid (w4.heap.size = s4) := hs4
  clear hs4
  refine (i_devRead _ _ _ _ H _ _ _ (M4.out.keep D4.out)).mono ?_
  rintro e w5 ⟨r5, d5, i5, o5, rfl, m5, A5, b5⟩
  rw [HG.out] at m5
  rw [HX.out, HXY.out, HXZ.out, HG.out]
  obtain ⟨ga0, gk0, rfl, _⟩ := m5.r.shape
  obtain ⟨ga1, gk1, rfl, _⟩ := m5.c.shape
  obtain ⟨ga2, gk2, rfl, _⟩ := m5.i.shape
  obtain ⟨ga3, gk3, rfl, _⟩ := m5.o.shape
  have HA5 : Hid (Ha (.slice ga0 G.regs.length gk0) (.slice ga1 G.csr.length gk1) (.slice ga2 G.inn.length gk2) (.slice ga3 G.out.length gk3)) := A5
  have B5 : Hid (Below _ W (w5.alloc (.cells #[.int .i64 x3, .int .i64 yv, .int .i64 zv, (.slice ga0 G.regs.length gk0), .int .i64 G.pc, (.slice ga1 G.csr.length gk1), .bool G.halted, .bool G.waiting, .bool G.rung, .int .i64 G.done, (.slice ga2 G.inn.length gk2), (.slice ga3 G.out.length gk3)] 46))) := al (on B4.out b5) _
  have D5 : Hid (Below w4.heap.size w4 (w5.alloc (.cells #[.int .i64 x3, .int .i64 yv, .int .i64 zv, (.slice ga0 G.regs.length gk0), .int .i64 G.pc, (.slice ga1 G.csr.length gk1), .bool G.halted, .bool G.waiting, .bool G.rung, .int .i64 G.done, (.slice ga2 G.inn.length gk2), (.slice ga3 G.out.length gk3)] 46))) := al (on D4.out b5) _
  have G5 : Hid (Vb (w5.alloc (.cells #[.int .i64 x3, .int .i64 yv, .int .i64 zv, (.slice ga0 G.regs.length gk0), .int .i64 G.pc, (.slice ga1 G.csr.length gk1), .bool G.halted, .bool G.waiting, .bool G.rung, .int .i64 G.done, (.slice ga2 G.inn.length gk2), (.slice ga3 G.out.length gk3)] 46)) w5.heap.size #[.int .i64 x3, .int .i64 yv, .int .i64 zv, (.slice ga0 G.regs.length gk0), .int .i64 G.pc, (.slice ga1 G.csr.length gk1), .bool G.halted, .bool G.waiting, .bool G.rung, .int .i64 G.done, (.slice ga2 G.inn.length gk2), (.slice ga3 G.out.length gk3)] 46) := Vb.new _ _ _
  have X5 : Hid (Vb (w5.alloc (.cells #[.int .i64 x3, .int .i64 yv, .int .i64 zv, (.slice ga0 G.regs.length gk0), .int .i64 G.pc, (.slice ga1 G.csr.length gk1), .bool G.halted, .bool G.waiting, .bool G.rung, .int .i64 G.done, (.slice ga2 G.inn.length gk2), (.slice ga3 G.out.length gk3)] 46)) s4 _ _) := (X4.out.keep b5).push _
  have Y5 : Hid (Vb (w5.alloc (.cells #[.int .i64 x3, .int .i64 yv, .int .i64 zv, (.slice ga0 G.regs.length gk0), .int .i64 G.pc, (.slice ga1 G.csr.length gk1), .bool G.halted, .bool G.waiting, .bool G.rung, .int .i64 G.done, (.slice ga2 G.inn.length gk2), (.slice ga3 G.out.length gk3)] 46)) s3 _ _) := (Y4.out.keep b5).push _
  have N5 : Hid (Hr (w5.alloc (.cells #[.int .i64 x3, .int .i64 yv, .int .i64 zv, (.slice ga0 G.regs.length gk0), .int .i64 G.pc, (.slice ga1 G.csr.length gk1), .bool G.halted, .bool G.waiting, .bool G.rung, .int .i64 G.done, (.slice ga2 G.inn.length gk2), (.slice ga3 G.out.length gk3)] 46)) (.slice za0 G.regs.length zk0) (.slice za1 G.csr.length zk1) (.slice za2 G.inn.length zk2) (.slice za3 G.out.length zk3) G) := (M34.out.stay b5).stay (al (Below.refl _ _) _)
  have O5 : Hid (Hm (w5.alloc (.cells #[.int .i64 x3, .int .i64 yv, .int .i64 zv, (.slice ga0 G.regs.length gk0), .int .i64 G.pc, (.slice ga1 G.csr.length gk1), .bool G.halted, .bool G.waiting, .bool G.rung, .int .i64 G.done, (.slice ga2 G.inn.length gk2), (.slice ga3 G.out.length gk3)] 46)) _ (.slice ga0 G.regs.length gk0) (.slice ga1 G.csr.length gk1) (.slice ga2 G.inn.length gk2) (.slice ga3 G.out.length gk3) G) := m5.keep (al (Below.refl _ _) _)
  have L5 : Hid (∀ k, Own4 (.slice ga0 G.regs.length gk0) (.slice ga1 G.csr.length gk1) (.slice ga2 G.inn.length gk2) (.slice ga3 G.out.length gk3) k → W4.heap.size ≤ k ∧ k < w5.heap.size) := fun k e => m5.own k e
  have Z5 : Hid (W4.heap.size ≤ w5.heap.size) := b5.size
  have yw := Y4.out.keep b5
  have ly : s3 < w5.heap.size := yw.lt
  have y0 := yw.cell 0 rfl
  have y1 := yw.cell 1 rfl
  have y2 := yw.cell 2 rfl
  have y3 := yw.cell 3 rfl
  have y4 := yw.cell 4 rfl
  have y5 := yw.cell 5 rfl
  have y6 := yw.cell 6 rfl
  have y7 := yw.cell 7 rfl
  have y8 := yw.cell 8 rfl
  have y9 := yw.cell 9 rfl
  have y10 := yw.cell 10 rfl
  have y11 := yw.cell 11 rfl
  clear b5 yw m5 A5
  go_wp2_with fail
  generalize (w5.alloc (.cells #[.int .i64 x3, .int .i64 yv, .int .i64 zv, (.slice ga0 G.regs.length gk0), .int .i64 G.pc, (.slice ga1 G.csr.length gk1), .bool G.halted, .bool G.waiting, .bool G.rung, .int .i64 G.done, (.slice ga2 G.inn.length gk2), (.slice ga3 G.out.length gk3)] 46)) = W5 at *
  generalize w5.heap.size = s5 at *
  clear y0 y1 y2 y3 y4 y5 y6 y7 y8 y9 y10 y11 ly
  refine (eq_dres _ _ _ _ _ _ _ _ _ _ _ G _ O5.out.hr N5.out).mono ?_
  rintro e w6 ⟨rfl, b6⟩
  have B6 : Hid (Below _ W w6) := on B5.out b6
  have D6 : Hid (Below w4.heap.size w4 w6) := on D5.out b6
  have M5 : Hid (Hm w6 _ (.slice xa0 H.regs.length xk0) (.slice xa1 H.csr.length xk1) (.slice xa2 H.inn.length xk2) (.slice xa3 H.out.length xk3) H) := M4.out.keep D6.out
  have X6 : Hid (Vb w6 s4 _ _) := X5.out.keep b6
  have Y6 : Hid (Vb w6 s3 _ _) := Y5.out.keep b6
  have G6 : Hid (Vb w6 s5 _ _) := G5.out.keep b6
  have N6 : Hid (Hr w6 (.slice za0 G.regs.length zk0) (.slice za1 G.csr.length zk1) (.slice za2 G.inn.length zk2) (.slice za3 G.out.length zk3) G) := N5.out.stay b6
  have O6 : Hid (Hm w6 _ (.slice ga0 G.regs.length gk0) (.slice ga1 G.csr.length gk1) (.slice ga2 G.inn.length gk2) (.slice ga3 G.out.length gk3) G) := O5.out.keep b6
  have Q6 := Q.out.keep B6.out
  clear b6 X5 Y5 G5 N5 O5 D5 B5
  have q0 := Q6.cell 0 rfl
  have q1 := Q6.cell 1 rfl
  have q2 := Q6.cell 2 rfl
  have q3 := Q6.cell 3 rfl
  have q4 := Q6.cell 4 rfl
  have q5 := Q6.cell 5 rfl
  have q6 := Q6.cell 6 rfl
  have q7 := Q6.cell 7 rfl
  have q8 := Q6.cell 8 rfl
  have x0 := X6.out.cell 0 rfl
  have x1 := X6.out.cell 1 rfl
  have x2 := X6.out.cell 2 rfl
  have x3 := X6.out.cell 3 rfl
  have x4 := X6.out.cell 4 rfl
  have x5 := X6.out.cell 5 rfl
  have x6 := X6.out.cell 6 rfl
  have x7 := X6.out.cell 7 rfl
  have x8 := X6.out.cell 8 rfl
  clear Q6
  go_wp2_with fail
  go_cut [35] from 13 to 73 (fun c wx => c = .bool false ∧ Below w6.heap.size w6 wx)
  case first =>
    go_region_with (first
      | (go_at_call 27; refine (to_hart _ _ _ _ _ _ _ _ _ _ _ _ H _ (HP.out.stay (by first | exact B6.out | exact B6.out.drew | exact B6.out.drew.drew | exact B6.out.drew.drew.drew)) SM.out).mono ?_; rintro e w8 ⟨r8, d8, i8, o8, rfl, m8, A8, b8⟩; clear A8; have E8 : Hid (Below w6.heap.size w6 w8) := (by first | exact b8 | exact on (Below.refl _ _).drew b8 | exact on (Below.refl _ _).drew.drew b8 | exact on (Below.refl _ _).drew.drew.drew b8); have x0 := cell_keep b8 x0; have x1 := cell_keep b8 x1; have x2 := cell_keep b8 x2; have x3 := cell_keep b8 x3; have x4 := cell_keep b8 x4; have x5 := cell_keep b8 x5; have x6 := cell_keep b8 x6; have x7 := cell_keep b8 x7; have x8 := cell_keep b8 x8; (first | have N8 := M5.out.keep b8 | have N8 := (M5.out.keep (Below.refl _ _).drew).keep b8 | have N8 := (M5.out.keep (Below.refl _ _).drew.drew).keep b8); clear b8)
      | (go_at_call 29; refine (eq_hart _ _ _ _ _ _ _ _ H _ _ _ (by first | exact N8 | exact N8.keep (Below.refl _ _).drew | exact N8.keep (Below.refl _ _).drew.drew) (by first | exact m8 | exact m8.keep (Below.refl _ _).drew | exact m8.keep (Below.refl _ _).drew.drew)).mono ?_; rintro e w7 ⟨rfl, b7⟩; (first | have E7 : Hid (Below w6.heap.size w6 w7) := on E8.out b7 | have E7 : Hid (Below w6.heap.size w6 w7) := on E8.out.drew b7 | have E7 : Hid (Below w6.heap.size w6 w7) := on E8.out.drew.drew b7); clear b7))
    all_goals (go_wp2_with fail; go_meet; exact ⟨rfl, by first | exact E7.out | exact E7.out.drew⟩)
  case rest =>
  obtain ⟨rfl, b7⟩ := hcut
  have B7 : Hid (Below _ W wc) := on B6.out b7
  have D7 : Hid (Below w4.heap.size w4 wc) := on D6.out b7
  have X7 : Hid (Vb wc s4 _ _) := X6.out.keep b7
  have Y7 : Hid (Vb wc s3 _ _) := Y6.out.keep b7
  have G7 : Hid (Vb wc s5 _ _) := G6.out.keep b7
  have N7 : Hid (Hr wc (.slice za0 G.regs.length zk0) (.slice za1 G.csr.length zk1) (.slice za2 G.inn.length zk2) (.slice za3 G.out.length zk3) G) := N6.out.stay b7
  have O7 : Hid (Hm wc _ (.slice ga0 G.regs.length gk0) (.slice ga1 G.csr.length gk1) (.slice ga2 G.inn.length gk2) (.slice ga3 G.out.length gk3) G) := O6.out.keep b7
  clear b7 q0 q1 q2 q3 q4 q5 q6 q7 q8 x0 x1 x2 x3 x4 x5 x6 x7 x8 X6 Y6 G6 N6 O6 D6 B6 M5
  have x0 := X7.out.cell 0 rfl
  have x1 := X7.out.cell 1 rfl
  have x2 := X7.out.cell 2 rfl
  have x3 := X7.out.cell 3 rfl
  have x4 := X7.out.cell 4 rfl
  have x5 := X7.out.cell 5 rfl
  have x6 := X7.out.cell 6 rfl
  have x7 := X7.out.cell 7 rfl
  have x8 := X7.out.cell 8 rfl
  have TH : Hid ((1 : Int) + totH H ≤ 4611686018427387904) := by
    have := SM.out.regs; have := SM.out.csr; have := SM.out.inn; have := SM.out.out
    have := HP.out.regs.ln.1; have := HP.out.csr.ln.1; have := HP.out.inn.ln.1; have := HP.out.out.ln.1
    show _ ≤ _; unfold totH; omega
  go_wp2_with fail
  clear x0 x1 x2 x3 x4 x5 x6 x7 x8
  refine (mark_hart _ _ _ _ H 1 _ _ (M4.out.keep D7.out) HA4.out (by decide) TH.out).mono ?_
  rintro e m1 ⟨rfl, _, mk1⟩
  have RN : Hid (∀ k, Own4 (.slice xa0 H.regs.length xk0) (.slice xa1 H.csr.length xk1) (.slice xa2 H.inn.length xk2) (.slice xa3 H.out.length xk3) k → W3.heap.size ≤ k ∧ k < w4.heap.size) := fun k e => M4.out.own k e
  have Bm : Hid (Below _ W m1) := Mq.below B7.out mk1 fun k e => by have := (RN.out k e).1; have := B3.out.size; omega
  have Ym : Hid (Vb m1 s3 _ _) := mk1.vb Y7.out fun e => by have := (RN.out _ e).1; have := Z3.out; omega
  have Gm : Hid (Vb m1 s5 _ _) := mk1.vb G7.out fun e => by have := (RN.out _ e).2; have := S4.out; have := Z4.out.2; have := Z5.out; omega
  have Nm : Hid (Hr m1 (.slice za0 G.regs.length zk0) (.slice za1 G.csr.length zk1) (.slice za2 G.inn.length zk2) (.slice za3 G.out.length zk3) G) := N7.out.mq mk1 fun k e _ f => by have := L3.out k e; have := (RN.out _ f).1; have := Z3.out; omega
  have Om : Hid (Hm m1 _ (.slice ga0 G.regs.length gk0) (.slice ga1 G.csr.length gk1) (.slice ga2 G.inn.length gk2) (.slice ga3 G.out.length gk3) G) := mk1.hm O7.out fun k e f => by have := (L5.out k e).1; have := (RN.out _ f).2; have := S4.out; have := Z4.out.2; omega
  have hp1 : 0 ≤ (1 : Int) + totH H := by omega
  generalize (1 : Int) + totH H = T1 at *
  clear mk1 Y7 G7 N7 O7
  have y0 := Ym.out.cell 0 rfl
  have y1 := Ym.out.cell 1 rfl
  have y2 := Ym.out.cell 2 rfl
  have y3 := Ym.out.cell 3 rfl
  have y4 := Ym.out.cell 4 rfl
  have y5 := Ym.out.cell 5 rfl
  have y6 := Ym.out.cell 6 rfl
  have y7 := Ym.out.cell 7 rfl
  have y8 := Ym.out.cell 8 rfl
  have y9 := Ym.out.cell 9 rfl
  have y10 := Ym.out.cell 10 rfl
  have y11 := Ym.out.cell 11 rfl
  have g0 := Gm.out.cell 0 rfl
  have g1 := Gm.out.cell 1 rfl
  have g2 := Gm.out.cell 2 rfl
  have g3 := Gm.out.cell 3 rfl
  have g4 := Gm.out.cell 4 rfl
  have g5 := Gm.out.cell 5 rfl
  have g6 := Gm.out.cell 6 rfl
  have g7 := Gm.out.cell 7 rfl
  have g8 := Gm.out.cell 8 rfl
  have g9 := Gm.out.cell 9 rfl
  have g10 := Gm.out.cell 10 rfl
  have g11 := Gm.out.cell 11 rfl
  go_wp2_with fail
  clear y0 y1 y2 y3 y4 y5 y6 y7 y8 y9 y10 y11 g0 g1 g2 g3 g4 g5 g6 g7 g8 g9 g10 g11
  refine (eq_dres _ _ _ _ _ _ _ _ _ _ _ G _ Om.out.hr Nm.out).mono ?_
  rintro e t1 ⟨rfl, b7⟩
  have Bt1 : Hid (Below _ W t1) := on Bm.out b7
  have Yt1 : Hid (Vb t1 s3 _ _) := Ym.out.keep b7
  have Gt1 : Hid (Vb t1 s5 _ _) := Gm.out.keep b7
  have Nt1 : Hid (Hr t1 (.slice za0 G.regs.length zk0) (.slice za1 G.csr.length zk1) (.slice za2 G.inn.length zk2) (.slice za3 G.out.length zk3) G) := Nm.out.stay b7
  have Ot1 : Hid (Hm t1 _ (.slice ga0 G.regs.length gk0) (.slice ga1 G.csr.length gk1) (.slice ga2 G.inn.length gk2) (.slice ga3 G.out.length gk3) G) := Om.out.keep b7
  clear b7 Ym Gm Nm Om
  have g0 := Gt1.out.cell 0 rfl
  have g1 := Gt1.out.cell 1 rfl
  have g2 := Gt1.out.cell 2 rfl
  have g3 := Gt1.out.cell 3 rfl
  have g4 := Gt1.out.cell 4 rfl
  have g5 := Gt1.out.cell 5 rfl
  have g6 := Gt1.out.cell 6 rfl
  have g7 := Gt1.out.cell 7 rfl
  have g8 := Gt1.out.cell 8 rfl
  have g9 := Gt1.out.cell 9 rfl
  have g10 := Gt1.out.cell 10 rfl
  have g11 := Gt1.out.cell 11 rfl
  go_wp2_with fail
  clear g0 g1 g2 g3 g4 g5 g6 g7 g8 g9 g10 g11
  refine (mark_dres _ _ _ _ _ _ _ G 1 _ _ Ot1.out HA5.out (by decide) HT.out).mono ?_
  rintro e t2 ⟨rfl, n7, g7⟩
  have Bt2 : Hid (Below _ W t2) := Mq.below Bt1.out g7 fun k e => by have := (L5.out k e).1; have := B4.out.size; omega
  have Yt2 : Hid (Vb t2 s3 _ _) := g7.vb Yt1.out fun e => by have := (L5.out _ e).1; have := Z3.out; have := Z4.out; omega
  have Gt2 : Hid (Vb t2 s5 _ _) := g7.vb Gt1.out fun e => by have := (L5.out _ e).2; omega
  have Nt2 : Hid (Hr t2 (.slice za0 G.regs.length zk0) (.slice za1 G.csr.length zk1) (.slice za2 G.inn.length zk2) (.slice za3 G.out.length zk3) G) := Nt1.out.mq g7 fun k e _ f => by have := L3.out k e; have := (L5.out _ f).1; have := Z3.out; have := Z4.out; omega
  have Ot2 : Hid (Hm t2 _ (.slice ga0 G.regs.length gk0) (.slice ga1 G.csr.length gk1) (.slice ga2 G.inn.length gk2) (.slice ga3 G.out.length gk3) (mkH 1 G)) := n7
  have hp2 : 0 ≤ (1 : Int) + totH G := by omega
  obtain ⟨T2, hT2⟩ : ∃ T2, (1 : Int) + totH G = T2 := ⟨_, rfl⟩
  rw [hT2] at hp2 ⊢
  have HT2 : Hid ((1 : Int) + totH G = T2) := hT2
  clear n7 g7 hT2 Yt1 Gt1 Nt1 Ot1
  have g0 := Gt2.out.cell 0 rfl
  have g1 := Gt2.out.cell 1 rfl
  have g2 := Gt2.out.cell 2 rfl
  have g3 := Gt2.out.cell 3 rfl
  have g4 := Gt2.out.cell 4 rfl
  have g5 := Gt2.out.cell 5 rfl
  have g6 := Gt2.out.cell 6 rfl
  have g7 := Gt2.out.cell 7 rfl
  have g8 := Gt2.out.cell 8 rfl
  have g9 := Gt2.out.cell 9 rfl
  have g10 := Gt2.out.cell 10 rfl
  have g11 := Gt2.out.cell 11 rfl
  go_wp2_with fail
  clear g0 g1 g2 g3 g4 g5 g6 g7 g8 g9 g10 g11
  refine (held_dres _ _ _ _ _ _ _ G 1 _ _ Ot2.out (by decide) HT.out).mono ?_
  rintro e t3 ⟨rfl, b7⟩
  rw [HT2.out]
  have Bt3 : Hid (Below _ W t3) := on Bt2.out b7
  have Yt3 : Hid (Vb t3 s3 _ _) := Yt2.out.keep b7
  have Gt3 : Hid (Vb t3 s5 _ _) := Gt2.out.keep b7
  have Nt3 : Hid (Hr t3 (.slice za0 G.regs.length zk0) (.slice za1 G.csr.length zk1) (.slice za2 G.inn.length zk2) (.slice za3 G.out.length zk3) G) := Nt2.out.stay b7
  have Ot3 : Hid (Hm t3 _ (.slice ga0 G.regs.length gk0) (.slice ga1 G.csr.length gk1) (.slice ga2 G.inn.length gk2) (.slice ga3 G.out.length gk3) (mkH 1 G)) := Ot2.out.keep b7
  have Qt3 := Q.out.keep Bt3.out
  clear b7 Yt2 Gt2 Nt2 Ot2
  have q0 := Qt3.cell 0 rfl
  have q1 := Qt3.cell 1 rfl
  have q2 := Qt3.cell 2 rfl
  have q3 := Qt3.cell 3 rfl
  have q4 := Qt3.cell 4 rfl
  have q5 := Qt3.cell 5 rfl
  have q6 := Qt3.cell 6 rfl
  have q7 := Qt3.cell 7 rfl
  have q8 := Qt3.cell 8 rfl
  clear Qt3
  go_wp2_with fail
  clear q0 q1 q2 q3 q4 q5 q6 q7 q8
  refine (to_hart _ _ _ _ _ _ _ _ _ _ _ _ H _ (HP.out.stay Bt3.out) SM.out).mono ?_
  rintro e t4 ⟨r9, d9, i9, o9, rfl, m9, A9, b7⟩
  have Bt4 : Hid (Below _ W t4) := on Bt3.out b7
  have Yt4 : Hid (Vb t4 s3 _ _) := Yt3.out.keep b7
  have Gt4 : Hid (Vb t4 s5 _ _) := Gt3.out.keep b7
  have Nt4 : Hid (Hr t4 (.slice za0 G.regs.length zk0) (.slice za1 G.csr.length zk1) (.slice za2 G.inn.length zk2) (.slice za3 G.out.length zk3) G) := Nt3.out.stay b7
  have Ot4 : Hid (Hm t4 _ (.slice ga0 G.regs.length gk0) (.slice ga1 G.csr.length gk1) (.slice ga2 G.inn.length gk2) (.slice ga3 G.out.length gk3) (mkH 1 G)) := Ot3.out.keep b7
  have M9 : Hid (Hm t4 _ r9 d9 i9 o9 H) := m9
  clear b7 m9 A9 Yt3 Gt3 Nt3 Ot3
  go_wp2_with fail
  refine (i_devRead _ _ _ _ H _ _ _ M9.out).mono ?_
  rintro e t6 ⟨r6, d6, i6, o6, rfl, m6, A6, b7⟩
  rw [HG.out] at m6
  rw [HX.out, HXY.out, HXZ.out, HG.out]
  obtain ⟨ja0, jk0, rfl, _⟩ := m6.r.shape
  obtain ⟨ja1, jk1, rfl, _⟩ := m6.c.shape
  obtain ⟨ja2, jk2, rfl, _⟩ := m6.i.shape
  obtain ⟨ja3, jk3, rfl, _⟩ := m6.o.shape
  have WN : Hid (Below t6.heap.size t6 (t6.alloc (.cells #[.int .i64 x3, .int .i64 yv, .int .i64 zv, (.slice ja0 G.regs.length jk0), .int .i64 G.pc, (.slice ja1 G.csr.length jk1), .bool G.halted, .bool G.waiting, .bool G.rung, .int .i64 G.done, (.slice ja2 G.inn.length jk2), (.slice ja3 G.out.length jk3)] 46))) := al (Below.refl _ _) _
  have H6 : Hid (Hm (t6.alloc (.cells #[.int .i64 x3, .int .i64 yv, .int .i64 zv, (.slice ja0 G.regs.length jk0), .int .i64 G.pc, (.slice ja1 G.csr.length jk1), .bool G.halted, .bool G.waiting, .bool G.rung, .int .i64 G.done, (.slice ja2 G.inn.length jk2), (.slice ja3 G.out.length jk3)] 46)) _ (.slice ja0 G.regs.length jk0) (.slice ja1 G.csr.length jk1) (.slice ja2 G.inn.length jk2) (.slice ja3 G.out.length jk3) G) := m6.keep WN.out
  have Bt6 : Hid (Below _ W t6) := on Bt4.out b7
  have Gt6 : Hid (Vb t6 s5 _ _) := Gt4.out.keep b7
  have Nt6 : Hid (Hr t6 (.slice za0 G.regs.length zk0) (.slice za1 G.csr.length zk1) (.slice za2 G.inn.length zk2) (.slice za3 G.out.length zk3) G) := Nt4.out.stay b7
  have Ot6 : Hid (Hm t6 _ (.slice ga0 G.regs.length gk0) (.slice ga1 G.csr.length gk1) (.slice ga2 G.inn.length gk2) (.slice ga3 G.out.length gk3) (mkH 1 G)) := Ot4.out.keep b7
  have Yt6 := Yt4.out.keep b7
  have l6 : s3 < t6.heap.size := Yt6.lt
  have y0 := Yt6.cell 0 rfl
  have y1 := Yt6.cell 1 rfl
  have y2 := Yt6.cell 2 rfl
  have y3 := Yt6.cell 3 rfl
  have y4 := Yt6.cell 4 rfl
  have y5 := Yt6.cell 5 rfl
  have y6 := Yt6.cell 6 rfl
  have y7 := Yt6.cell 7 rfl
  have y8 := Yt6.cell 8 rfl
  have y9 := Yt6.cell 9 rfl
  have y10 := Yt6.cell 10 rfl
  have y11 := Yt6.cell 11 rfl
  clear b7 Yt6 A6 m6
  go_wp2_with fail
  refine (eq_dres _ _ _ _ _ _ _ _ _ _ _ G _ H6.out.hr (Nt6.out.stay WN.out)).mono ?_
  rintro e t7 ⟨rfl, b8⟩
  have b7 := on WN.out b8
  clear b8 y0 y1 y2 y3 y4 y5 y6 y7 y8 y9 y10 y11 l6
  have Bt7 : Hid (Below _ W t7) := on Bt6.out b7
  have Ot7 : Hid (Hm t7 _ (.slice ga0 G.regs.length gk0) (.slice ga1 G.csr.length gk1) (.slice ga2 G.inn.length gk2) (.slice ga3 G.out.length gk3) (mkH 1 G)) := Ot6.out.keep b7
  have Gt7 := Gt6.out.keep b7
  clear b7
  have g0 := Gt7.cell 0 rfl
  have g1 := Gt7.cell 1 rfl
  have g2 := Gt7.cell 2 rfl
  have g3 := Gt7.cell 3 rfl
  have g4 := Gt7.cell 4 rfl
  have g5 := Gt7.cell 5 rfl
  have g6 := Gt7.cell 6 rfl
  have g7 := Gt7.cell 7 rfl
  have g8 := Gt7.cell 8 rfl
  have g9 := Gt7.cell 9 rfl
  have g10 := Gt7.cell 10 rfl
  have g11 := Gt7.cell 11 rfl
  clear Gt7
  go_wp2_with fail
  refine (held_dres _ _ _ _ _ _ _ G 1 _ _ Ot7.out (by decide) HT.out).mono ?_
  rintro e t8 ⟨rfl, b8⟩
  rw [HT2.out]
  go_wp2_with fail
  go_ret
  exact ⟨rfl, on B0.out (on Bt7.out b8)⟩

set_option maxRecDepth 100000 in
theorem lifted (os : Os) (started : os.Started) (H : Type) (enc : TypeId × Value → H) :
    ReturnsInHanded {} Try.checked os 5 .any (Rows.fnExactDeviceReadSpec.pre6 enc Try.prog Try.f5 Rows.fnExactDeviceReadRow.domain false) (Rows.fnExactDeviceReadSpec.post enc Try.prog Try.f5 false true false false) := by
  refine returnsInHanded_of_change (C := Try.checked) own started (by kernel_rfl) Try.func5
    (ChangeSpec.witness6 (enc := enc) (C := Try.checked) false ⟨#[], #[.agg #[.slice none 0 0, .int .i64 0, .slice none 0 0, .bool false, .bool false, .bool false, .int .i64 0, .slice none 0 0, .slice none 0 0], .int .i64 0], []⟩ 8 (by kernel_rfl) (by kernel_rfl) (by kernel_rfl) (by kernel_rfl)) ?_
  intro W base args ds gs before hval0 hW hcnd _
  have hval : ∀ (j : Nat) t v, Try.f5.params[j]? = some t → args[j]? = some v → Value.okWide Try.prog W .any base t v := hval0
  have hW' := hW
  obtain ⟨p, q, hA0, hV, rfl, hfz, hnd⟩ := hW
  have hA : DataW.TrodAll enc Try.prog W 0 (fun _ => true) true Try.f5.params.toList args.toList ds p := hA0
  rw [Try.params5] at hA hval
  obtain ⟨v0, vs0, d0, ds0, p0, q0, hargs, rfl, rfl, h0, r0⟩ := trodAll_cons hA
  obtain ⟨v1, vs1, d1, ds1, p1, q1, rfl, rfl, rfl, h1, r1⟩ := trodAll_cons r0
  obtain ⟨rfl, rfl, rfl⟩ := trodAll_nil r1
  obtain rfl : args = #[v0, v1] := by cases args; simp_all
  obtain ⟨rfl, rfl⟩ := trodVars_none hV
  have k0 := h0
  have lt0 : ∀ x ∈ p0, x.block < W.heap.size := by obtain ⟨m, hm⟩ := k0; exact DataW.trod_lt m _ _ _ hm
  obtain ⟨pa0, pa1, pa2, pa3, pn0, pk0, pn1, pk1, pn2, pk2, pn3, pk3, pH, rfl, pin⟩ := hart_open Try.underlying53 (by kernel_rfl) (by kernel_rfl) Try.underlying37 Try.underlying2 Try.underlying37 Try.underlying4 Try.underlying4 Try.underlying4 Try.underlying2 Try.underlying37 Try.underlying37 Try.underlying2 Try.underlying2 Try.underlying2 Try.underlying2 (by kernel_rfl) (by kernel_rfl) (by kernel_rfl) (by kernel_rfl) (hval 0 53 v0 rfl rfl) h0
  obtain ⟨a1, rfl, rfl, rfl, w1⟩ := open_int Try.underlying2 (hval 1 2 v1 rfl rfl) h1
  clear hA0 hval0
  refine (walk pa0 pa1 pa2 pa3 pn0 pk0 pn1 pk1 pn2 pk2 pn3 pk3 pH a1 W pin w1).mono fun e W' ⟨he, bel⟩ => ?_
  subst he
  exact ⟨_, rfl, _, _, _, [], _, [], hW', trodAll_mk1 (shut_bool Try.underlying4 _), (trodAll_cons_mk (Below.trod laidOut (by kernel_rfl) (of_decide_eq_true (by kernel_rfl)) k0 bel lt0) (trodAll_cons_mk (shut_int Try.underlying2 w1) trodAll_mk0)), rfl, bel.frame _, fun h => by cases h⟩

theorem over : Rows.fnExactDeviceReadRow.holds Try.pinned (OpenSpec.ofChange Rows.fnExactDeviceReadSpec) :=
  OpenClaim.holds_of_wide 5 Try.f5 rfl rfl rfl rfl rfl rfl rfl ⟨rfl, rfl, rfl, rfl, rfl⟩ rfl rfl rfl rfl rfl (by kernel_rfl) Try.func5 (by kernel_rfl)
    (of_decide_eq_true (by kernel_rfl)) (by unfold Func.isWrapper; first | (rw [if_pos (by decide +kernel)]; kernel_rfl) | (rw [if_neg (by decide +kernel)]; exact ⟨rfl, rfl⟩))
    (fun os started H enc _ => lifted os started H enc)

theorem proved : Rows.FnExactDeviceReadSaid := over
end Go.Proofs.Yteaccakodaidpaa.fnExactDeviceReadDone
