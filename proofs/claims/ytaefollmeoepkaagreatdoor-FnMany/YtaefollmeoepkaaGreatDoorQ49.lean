/- Texts of this seat, joined. -/
import Derived.Test.YtaefollmeoepkaaGreatDoorQ48
namespace Go.Proofs.YtaefollmeoepkaaGreatDoor
open Go.RowKit
set_option linter.unusedVariables false
set_option maxRecDepth 20000 in
set_option maxHeartbeats 8000000 in
theorem i_stepHart (r c i o : Value) (H : Ht) (pa : Option Addr) (pn pc : Nat) (ps : List (Int × Int)) (ma : Option Addr) (mn mc : Nat) (zs : List Int) (b : Nat) (w : World) (h : Hm w b r c i o H) (hP : Prs 36 w b (.slice pa pn pc) ps) (hl : ps.length ≤ 1048576) (hM : Nums w b (.slice ma mn mc) zs) (hm : zs.length ≤ 1048576) (tab : Tab w) (tb : 0 < w.heap.size) :
    Calls Tryz.prog 8 #[.agg #[r, .int .i64 H.pc, c, .bool H.halted, .bool H.waiting, .bool H.rung, .int .i64 H.done, i, o], .slice pa pn pc, .slice ma mn mc] w fun e w' => ∃ r' c' i' o' m', e = .returned (.agg #[.int .i64 (smV H ps zs 1).code, .int .i64 (smV H ps zs 1).ca, .int .i64 (smV H ps zs 1).ri, r', .int .i64 (smV H ps zs 1).H.pc, c', .bool (smV H ps zs 1).H.halted, .bool (smV H ps zs 1).H.waiting, .bool (smV H ps zs 1).H.rung, .int .i64 (smV H ps zs 1).H.done, i', o', m']) ∧ Tm w' w.heap.size r' c' i' o' m' (smV H ps zs 1).H (smV H ps zs 1).zs ∧ Below w.heap.size w w' := by
  have HM : Hid (Hm w b r c i o H) := h
  have HP : Hid (Prs 36 w b (.slice pa pn pc) ps) := hP
  have HZ : Hid (Nums w b (.slice ma mn mc) zs) := hM
  have HL : Hid (ps.length ≤ 1048576 ∧ zs.length ≤ 1048576) := ⟨hl, hm⟩
  have HT : Hid (Tab w ∧ 0 < w.heap.size) := ⟨tab, tb⟩
  obtain ⟨a0, k0, rfl, _⟩ := h.r.shape
  obtain ⟨a1, k1, rfl, _⟩ := h.c.shape
  obtain ⟨a2, k2, rfl, _⟩ := h.i.shape
  obtain ⟨a3, k3, rfl, _⟩ := h.o.shape
  obtain ⟨Y, hY⟩ : ∃ Y, (smV H ps zs 1) = Y := ⟨_, rfl⟩
  rw [hY]
  have HY : Hid ((smV H ps zs 1) = Y) := hY
  clear h hP hl hM hm tab tb hY
  generalize hW : (w.alloc (.cells #[.slice a0 H.regs.length k0, .int .i64 H.pc, .slice a1 H.csr.length k1, .bool H.halted, .bool H.waiting, .bool H.rung, .int .i64 H.done, .slice a2 H.inn.length k2, .slice a3 H.out.length k3] 26)).alloc (.cells #[.int .i64 0, .int .i64 0, .int .i64 0, .slice none 0 0, .int .i64 0, .slice none 0 0, .bool false, .bool false, .bool false, .int .i64 0, .slice none 0 0, .slice none 0 0, .slice none 0 0] 31) = W
  have B0 : Hid (Below w.heap.size w W) := by show Below _ _ _; rw [← hW]; exact al (al (Below.refl _ _) _) _
  obtain ⟨s, hS⟩ : ∃ s, w.heap.size = s := ⟨_, rfl⟩
  have HS : Hid (w.heap.size = s) := hS
  have VA : Hid (Vb W s #[.slice a0 H.regs.length k0, .int .i64 H.pc, .slice a1 H.csr.length k1, .bool H.halted, .bool H.waiting, .bool H.rung, .int .i64 H.done, .slice a2 H.inn.length k2, .slice a3 H.out.length k3] 26) := by
    show Vb _ _ _ _; rw [← hW, ← hS]; exact (Vb.new _ _ _).push _
  have VR : Hid (Vb W (s + 1) #[.int .i64 0, .int .i64 0, .int .i64 0, .slice none 0 0, .int .i64 0, .slice none 0 0, .bool false, .bool false, .bool false, .int .i64 0, .slice none 0 0, .slice none 0 0, .slice none 0 0] 31) := by
    have z1 : s + 1 = (w.alloc (.cells #[.slice a0 H.regs.length k0, .int .i64 H.pc, .slice a1 H.csr.length k1, .bool H.halted, .bool H.waiting, .bool H.rung, .int .i64 H.done, .slice a2 H.inn.length k2, .slice a3 H.out.length k3] 26)).heap.size := by rw [← hS]; simp
    show Vb _ _ _ _; rw [← hW, z1]; exact Vb.new _ _ _
  have q0 := VA.out.cell 0 rfl
  have q1 := VA.out.cell 1 rfl
  have q2 := VA.out.cell 2 rfl
  have q3 := VA.out.cell 3 rfl
  have q4 := VA.out.cell 4 rfl
  have q5 := VA.out.cell 5 rfl
  have q6 := VA.out.cell 6 rfl
  have q7 := VA.out.cell 7 rfl
  have q8 := VA.out.cell 8 rfl
  go_enter Tryz.func8, Tryz.ntmps8
  go_wp2_with fail
  clear hW hS q0 q1 q2 q3 q4 q5 q6 q7 q8
  have CALL := i_stepMany _ _ _ _ H pa pn pc ps ma mn mc zs 1 b W (HM.out.keep B0.out) (HP.out.keep B0.out) HL.out.1 (HZ.out.keep B0.out) HL.out.2 (HT.out.1.keep B0.out) (Nat.lt_of_lt_of_le HT.out.2 B0.out.size)
  rw [HY.out] at CALL
  refine CALL.mono ?_
  clear CALL
  rintro e w6 ⟨u0, u1, u2, u3, u4, rfl, t6, b6⟩
  obtain ⟨xa0, xk0, e0, _⟩ := t6.h.r.shape
  obtain ⟨xa1, xk1, e1, _⟩ := t6.h.c.shape
  obtain ⟨xa2, xk2, e2, _⟩ := t6.h.i.shape
  obtain ⟨xa3, xk3, e3, _⟩ := t6.h.o.shape
  obtain ⟨xa4, xk4, e4, _⟩ := t6.mm.shape
  subst e0 e1 e2 e3 e4
  generalize hn0 : Y.H.regs.length = m0 at *
  generalize hn1 : Y.H.csr.length = m1 at *
  generalize hn2 : Y.H.inn.length = m2 at *
  generalize hn3 : Y.H.out.length = m3 at *
  generalize hn4 : Y.zs.length = m4 at *
  have T7 : Hid (Tm w6 W.heap.size (.slice xa0 m0 xk0) (.slice xa1 m1 xk1) (.slice xa2 m2 xk2) (.slice xa3 m3 xk3) (.slice xa4 m4 xk4) Y.H Y.zs) := t6
  have B6 : Hid (Below w.heap.size w w6) := on B0.out b6
  have VR6 : Hid (Vb w6 (s + 1) #[.int .i64 0, .int .i64 0, .int .i64 0, .slice none 0 0, .int .i64 0, .slice none 0 0, .bool false, .bool false, .bool false, .int .i64 0, .slice none 0 0, .slice none 0 0, .slice none 0 0] 31) := VR.out.keep b6
  have LR : Hid (s + 1 < W.heap.size) := VR.out.lt
  clear t6 b6 hn0 hn1 hn2 hn3 hn4
  have p0 := VR6.out.cell 0 rfl
  have p1 := VR6.out.cell 1 rfl
  have p2 := VR6.out.cell 2 rfl
  have p3 := VR6.out.cell 3 rfl
  have p4 := VR6.out.cell 4 rfl
  have p5 := VR6.out.cell 5 rfl
  have p6 := VR6.out.cell 6 rfl
  have p7 := VR6.out.cell 7 rfl
  have p8 := VR6.out.cell 8 rfl
  have p9 := VR6.out.cell 9 rfl
  have p10 := VR6.out.cell 10 rfl
  have p11 := VR6.out.cell 11 rfl
  have p12 := VR6.out.cell 12 rfl
  have f0 := VR6.out.free 0
  have f1 := VR6.out.free 1
  have f2 := VR6.out.free 2
  have f3 := VR6.out.free 3
  have f4 := VR6.out.free 4
  have f5 := VR6.out.free 5
  have f6 := VR6.out.free 6
  have f7 := VR6.out.free 7
  have f8 := VR6.out.free 8
  have f9 := VR6.out.free 9
  have f10 := VR6.out.free 10
  have f11 := VR6.out.free 11
  have f12 := VR6.out.free 12
  go_wp2_with fail
  have NN : Hid (_ ∧ _) := thirteenX VR6.out (.int .i64 Y.code) (.int .i64 Y.ca) (.int .i64 Y.ri) (.slice xa0 m0 xk0) (.int .i64 Y.H.pc) (.slice xa1 m1 xk1) (.bool Y.H.halted) (.bool Y.H.waiting) (.bool Y.H.rung) (.int .i64 Y.H.done) (.slice xa2 m2 xk2) (.slice xa3 m3 xk3) (.slice xa4 m4 xk4)
  clear p0 p1 p2 p3 p4 p5 p6 p7 p8 p9 p10 p11 p12 f0 f1 f2 f3 f4 f5 f6 f7 f8 f9 f10 f11 f12
  generalize (((((((((((((w6.setCell ⟨s + 1, 0, none⟩ (.int .i64 Y.code)).setCell ⟨s + 1, 1, none⟩ (.int .i64 Y.ca)).setCell ⟨s + 1, 2, none⟩ (.int .i64 Y.ri)).setCell ⟨s + 1, 3, none⟩ (.slice xa0 m0 xk0)).setCell ⟨s + 1, 4, none⟩ (.int .i64 Y.H.pc)).setCell ⟨s + 1, 5, none⟩ (.slice xa1 m1 xk1)).setCell ⟨s + 1, 6, none⟩ (.bool Y.H.halted)).setCell ⟨s + 1, 7, none⟩ (.bool Y.H.waiting)).setCell ⟨s + 1, 8, none⟩ (.bool Y.H.rung)).setCell ⟨s + 1, 9, none⟩ (.int .i64 Y.H.done)).setCell ⟨s + 1, 10, none⟩ (.slice xa2 m2 xk2)).setCell ⟨s + 1, 11, none⟩ (.slice xa3 m3 xk3)).setCell ⟨s + 1, 12, none⟩ (.slice xa4 m4 xk4)) = V at *
  have TV : Hid (Tm V w.heap.size (.slice xa0 m0 xk0) (.slice xa1 m1 xk1) (.slice xa2 m2 xk2) (.slice xa3 m3 xk3) (.slice xa4 m4 xk4) Y.H Y.zs) := (T7.out.ho (NN.out.2.ho fun k e => by have := LR.out; omega)).mono B0.out.size
  have x0 := NN.out.1.cell 0 rfl
  have x1 := NN.out.1.cell 1 rfl
  have x2 := NN.out.1.cell 2 rfl
  have x3 := NN.out.1.cell 3 rfl
  have x4 := NN.out.1.cell 4 rfl
  have x5 := NN.out.1.cell 5 rfl
  have x6 := NN.out.1.cell 6 rfl
  have x7 := NN.out.1.cell 7 rfl
  have x8 := NN.out.1.cell 8 rfl
  have x9 := NN.out.1.cell 9 rfl
  have x10 := NN.out.1.cell 10 rfl
  have x11 := NN.out.1.cell 11 rfl
  have x12 := NN.out.1.cell 12 rfl
  exact bodyPost_ret (v := .agg #[.int .i64 Y.code, .int .i64 Y.ca, .int .i64 Y.ri, .slice xa0 m0 xk0, .int .i64 Y.H.pc, .slice xa1 m1 xk1, .bool Y.H.halted, .bool Y.H.waiting, .bool Y.H.rung, .int .i64 Y.H.done, .slice xa2 m2 xk2, .slice xa3 m3 xk3, .slice xa4 m4 xk4]) (by simp [results, Tryz.results8, go_sem, x0, x1, x2, x3, x4, x5, x6, x7, x8, x9, x10, x11, x12]) rfl
    ⟨_, _, _, _, _, rfl, TV.out, Mq.under B6.out NN.out.2 fun k e => by have := HS.out; omega⟩
end Go.Proofs.YtaefollmeoepkaaGreatDoor
