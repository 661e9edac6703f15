/- BackHart, of both. -/
import Derived.Test.YtaajaikpkcgalaaDoorHob
import Derived.Test.YtaajaikpkcgalaaDoorHoa
namespace Go.Proofs.YtaajaikpkcgalaaDoor
open Go.RowKit
set_option linter.unusedVariables false

set_option maxRecDepth 20000 in
set_option maxHeartbeats 8000000 in
theorem i_backHart (r c i o : Value) (H : Ht) (b : Nat) (w : World) (h : Hm w b r c i o H) :
    Calls Tryd.prog 9 #[.agg #[r, .int .i64 H.pc, c, .bool H.halted, .bool H.waiting, .bool H.rung, .int .i64 H.done, i, o]] w fun e w' => ∃ r' c' i' o', e = .returned (.agg #[.int .i64 (backR H).1, r', .int .i64 (backR H).2.pc, c', .bool (backR H).2.halted, .bool (backR H).2.waiting, .bool (backR H).2.rung, .int .i64 (backR H).2.done, i', o']) ∧ Hm w' w.heap.size r' c' i' o' (backR H).2 ∧ Ha r' c' i' o' ∧ Below w.heap.size w w' := by
  have HM : Hid (Hm w b r c i o H) := h
  obtain ⟨a0, k0, rfl, _⟩ := h.r.shape
  obtain ⟨a1, k1, rfl, _⟩ := h.c.shape
  obtain ⟨a2, k2, rfl, _⟩ := h.i.shape
  obtain ⟨a3, k3, rfl, _⟩ := h.o.shape
  clear h
  generalize hW : (w.alloc (.cells #[.slice a0 H.regs.length k0, .int .i64 H.pc, .slice a1 H.csr.length k1, .bool H.halted, .bool H.waiting, .bool H.rung, .int .i64 H.done, .slice a2 H.inn.length k2, .slice a3 H.out.length k3] 26)).alloc (.cells #[.int .i64 0, .slice none 0 0, .int .i64 0, .slice none 0 0, .bool false, .bool false, .bool false, .int .i64 0, .slice none 0 0, .slice none 0 0] 30) = W
  have B0 : Hid (Below w.heap.size w W) := by show Below _ _ _; rw [← hW]; exact al (al (Below.refl _ _) _) _
  obtain ⟨s, hS⟩ : ∃ s, w.heap.size = s := ⟨_, rfl⟩
  have HS : Hid (w.heap.size = s) := hS
  have VA : Hid (Vb W s #[.slice a0 H.regs.length k0, .int .i64 H.pc, .slice a1 H.csr.length k1, .bool H.halted, .bool H.waiting, .bool H.rung, .int .i64 H.done, .slice a2 H.inn.length k2, .slice a3 H.out.length k3] 26) := by
    show Vb _ _ _ _; rw [← hW, ← hS]; exact (Vb.new _ _ _).push _
  have VR : Hid (Vb W (s + 1) #[.int .i64 0, .slice none 0 0, .int .i64 0, .slice none 0 0, .bool false, .bool false, .bool false, .int .i64 0, .slice none 0 0, .slice none 0 0] 30) := by
    have z1 : s + 1 = (w.alloc (.cells #[.slice a0 H.regs.length k0, .int .i64 H.pc, .slice a1 H.csr.length k1, .bool H.halted, .bool H.waiting, .bool H.rung, .int .i64 H.done, .slice a2 H.inn.length k2, .slice a3 H.out.length k3] 26)).heap.size := by rw [← hS]; simp
    show Vb _ _ _ _; rw [← hW, z1]; exact Vb.new _ _ _
  have q0 := VA.out.cell 0 rfl
  have q1 := VA.out.cell 1 rfl
  have q2 := VA.out.cell 2 rfl
  have q3 := VA.out.cell 3 rfl
  have q4 := VA.out.cell 4 rfl
  have q5 := VA.out.cell 5 rfl
  have q6 := VA.out.cell 6 rfl
  have q7 := VA.out.cell 7 rfl
  have q8 := VA.out.cell 8 rfl
  go_enter Tryd.func9, Tryd.ntmps9
  go_wp2_with fail
  clear hW hS q0 q1 q2 q3 q4 q5 q6 q7 q8
  refine (i_fault _ _ _ _ H _ _ (HM.out.keep B0.out)).mono ?_
  rintro e w1 ⟨rfl, b1⟩
  have B1 : Hid (Below w.heap.size w w1) := on B0.out b1
  have VA1 : Hid (Vb w1 s #[.slice a0 H.regs.length k0, .int .i64 H.pc, .slice a1 H.csr.length k1, .bool H.halted, .bool H.waiting, .bool H.rung, .int .i64 H.done, .slice a2 H.inn.length k2, .slice a3 H.out.length k3] 26) := VA.out.keep b1
  have VR1 : Hid (Vb w1 (s + 1) #[.int .i64 0, .slice none 0 0, .int .i64 0, .slice none 0 0, .bool false, .bool false, .bool false, .int .i64 0, .slice none 0 0, .slice none 0 0] 30) := VR.out.keep b1
  have M1 : Hid (Hm w1 b _ _ _ _ H) := HM.out.keep B1.out
  clear b1 VA VR
  by_cases hf : hfV H = 0
  case neg =>
    have E1 : Hid ((backR H).1 = hfV H) := by show _ = _; simp only [backR, if_neg hf]
    have E2 : Hid ((backR H).2 = voidH) := by show _ = _; simp only [backR, if_neg hf]
    generalize hfV H = f at *
    have HE1 : Hid ((backR H).1 = f) := by show _ = _; first | exact E1.out | exact E2.out
    have HE2 : Hid ((backR H).2 = voidH) := by show _ = _; first | exact E1.out | exact E2.out
    have p0 := VR1.out.cell 0 rfl
    have f0 := VR1.out.free 0
    have p1 := VR1.out.cell 1 rfl
    have f1 := VR1.out.free 1
    have p2 := VR1.out.cell 2 rfl
    have f2 := VR1.out.free 2
    have p3 := VR1.out.cell 3 rfl
    have f3 := VR1.out.free 3
    have p4 := VR1.out.cell 4 rfl
    have f4 := VR1.out.free 4
    have p5 := VR1.out.cell 5 rfl
    have f5 := VR1.out.free 5
    have p6 := VR1.out.cell 6 rfl
    have f6 := VR1.out.free 6
    have p7 := VR1.out.cell 7 rfl
    have f7 := VR1.out.free 7
    have p8 := VR1.out.cell 8 rfl
    have f8 := VR1.out.free 8
    have p9 := VR1.out.cell 9 rfl
    have f9 := VR1.out.free 9
    go_wp2_with fail
    have NN : Hid (_ ∧ _) := ten VR1.out (.int .i64 f) (.slice none 0 0) (.int .i64 0) (.slice none 0 0) (.bool false) (.bool false) (.bool false) (.int .i64 0) (.slice none 0 0) (.slice none 0 0)
    clear p0 f0 p1 f1 p2 f2 p3 f3 p4 f4 p5 f5 p6 f6 p7 f7 p8 f8 p9 f9
    generalize ((((((((((w1.setCell ⟨s + 1, 0, none⟩ (.int .i64 f)).setCell ⟨s + 1, 1, none⟩ (.slice none 0 0)).setCell ⟨s + 1, 2, none⟩ (.int .i64 0)).setCell ⟨s + 1, 3, none⟩ (.slice none 0 0)).setCell ⟨s + 1, 4, none⟩ (.bool false)).setCell ⟨s + 1, 5, none⟩ (.bool false)).setCell ⟨s + 1, 6, none⟩ (.bool false)).setCell ⟨s + 1, 7, none⟩ (.int .i64 0)).setCell ⟨s + 1, 8, none⟩ (.slice none 0 0)).setCell ⟨s + 1, 9, none⟩ (.slice none 0 0)) = V at *
    have x0 := NN.out.1.cell 0 rfl
    have x1 := NN.out.1.cell 1 rfl
    have x2 := NN.out.1.cell 2 rfl
    have x3 := NN.out.1.cell 3 rfl
    have x4 := NN.out.1.cell 4 rfl
    have x5 := NN.out.1.cell 5 rfl
    have x6 := NN.out.1.cell 6 rfl
    have x7 := NN.out.1.cell 7 rfl
    have x8 := NN.out.1.cell 8 rfl
    have x9 := NN.out.1.cell 9 rfl
    have BV : Below w.heap.size w V := Mq.under B1.out NN.out.2 fun k e => by have := HS.out; omega
    have MV := NN.out.2
    refine bodyPost_ret (v := .agg #[.int .i64 f, .slice none 0 0, .int .i64 0, .slice none 0 0, .bool false, .bool false, .bool false, .int .i64 0, .slice none 0 0, .slice none 0 0]) (by simp [results, Tryd.results9, go_sem, x0, x1, x2, x3, x4, x5, x6, x7, x8, x9]) rfl ?_
    rw [HE1.out, HE2.out]
    exact ⟨_, _, _, _, rfl, void_hm _ _, void_ha, BV⟩
  have K : Hid (Hok H) := hok_of hf
  have HF : Hid (hfV H = 0) := hf
  rw [hf]
  have HE1 : Hid ((backR H).1 = 0) := by show _ = _; simp [backR, hf]
  have HE2 : Hid ((backR H).2 = backV H) := by show _ = _; simp [backR, hf]
  have q0 := VA1.out.cell 0 rfl
  have q1 := VA1.out.cell 1 rfl
  have q2 := VA1.out.cell 2 rfl
  have q3 := VA1.out.cell 3 rfl
  have q4 := VA1.out.cell 4 rfl
  have q5 := VA1.out.cell 5 rfl
  have q6 := VA1.out.cell 6 rfl
  have q7 := VA1.out.cell 7 rfl
  have q8 := VA1.out.cell 8 rfl
  go_wp2_with fail
  clear q0 q1 q2 q3 q4 q5 q6 q7 q8
  refine (i_machine _ _ _ _ H _ _ M1.out K.out.r16 K.out.c11 (by have := K.out.i40; omega) (by have := K.out.o40; omega)).mono ?_
  rintro e w2 ⟨i2, o2, rfl, mi, mo, ap, b2⟩
  obtain ⟨xa, xk, rfl, _⟩ := mi.shape
  obtain ⟨ya, yk, rfl, _⟩ := mo.shape
  generalize hxn : H.inn.length = xn at *
  generalize hyn : H.out.length = yn at *
  have hst := mca_store H xa xn xk ya yn yk w2
  have hsz := mca_size H (.slice xa xn xk) (.slice ya yn yk)
  have MI : Hid (Nums w2 w1.heap.size (.slice xa xn xk) H.inn) := mi
  have MO : Hid (Nums w2 w1.heap.size (.slice ya yn yk) H.out) := mo
  have B2 : Hid (Below w.heap.size w w2) := on B1.out b2
  have VR2 : Hid (Vb w2 (s + 1) #[.int .i64 0, .slice none 0 0, .int .i64 0, .slice none 0 0, .bool false, .bool false, .bool false, .int .i64 0, .slice none 0 0, .slice none 0 0] 30) := VR1.out.keep b2
  clear mi mo ap b2 hxn hyn
  go_wp2_with fail
  generalize hW3 : w2.alloc (.cells (mca H (.slice xa xn xk) (.slice ya yn yk)) 56) = W3
  obtain ⟨m, hm⟩ : ∃ m, w2.heap.size = m := ⟨_, rfl⟩
  have HMm : Hid (w2.heap.size = m) := hm
  rw [hm]
  have V3 : Hid (Vb W3 m (mca H (.slice xa xn xk) (.slice ya yn yk)) 56) := by show Vb _ _ _ _; rw [← hW3, ← hm]; exact Vb.new _ _ _
  have B3 : Hid (Below w.heap.size w W3) := by show Below _ _ _; rw [← hW3]; exact al B2.out _
  have VR3 : Hid (Vb W3 (s + 1) #[.int .i64 0, .slice none 0 0, .int .i64 0, .slice none 0 0, .bool false, .bool false, .bool false, .int .i64 0, .slice none 0 0, .slice none 0 0] 30) := by show Vb _ _ _ _; rw [← hW3]; exact VR2.out.push _
  have MI3 : Hid (Nums W3 w1.heap.size (.slice xa xn xk) H.inn) := by show Nums _ _ _ _; rw [← hW3]; exact MI.out.keep (al (Below.refl _ _) _)
  have MO3 : Hid (Nums W3 w1.heap.size (.slice ya yn yk) H.out) := by show Nums _ _ _ _; rw [← hW3]; exact MO.out.keep (al (Below.refl _ _) _)
  clear hst hsz hW3 hm
  refine (i_goBack _ _ _ H _ V3.out K.out.c11 (all_at K.out.cw 0).1 (st_three K.out)).mono ?_
  rintro e w4 ⟨rfl, v4, m4⟩
  obtain ⟨G, hG⟩ : ∃ G, backV H = G := ⟨_, rfl⟩
  have HG : Hid (backV H = G) := hG
  have V4 : Hid (Vb w4 m (mca G (.slice xa xn xk) (.slice ya yn yk)) 56) := by show Vb _ _ _ _; rw [← hG]; exact v4
  have HE3 : Hid ((backR H).2 = G) := HE2.out.trans hG
  have GI : Hid (G.inn = H.inn ∧ G.out = H.out) := by rw [← hG]; exact ⟨rfl, rfl⟩
  have MI4 : Hid (Nums w4 w1.heap.size (.slice xa xn xk) G.inn) := by show Nums _ _ _ _; rw [GI.out.1]; exact m4.nums MI3.out fun k e f => by have := (MI.out.lt k e).2; have := HMm.out; omega
  have MO4 : Hid (Nums w4 w1.heap.size (.slice ya yn yk) G.out) := by show Nums _ _ _ _; rw [GI.out.2]; exact m4.nums MO3.out fun k e f => by have := (MO.out.lt k e).2; have := HMm.out; omega
  have VR4 : Hid (Vb w4 (s + 1) #[.int .i64 0, .slice none 0 0, .int .i64 0, .slice none 0 0, .bool false, .bool false, .bool false, .int .i64 0, .slice none 0 0, .slice none 0 0] 30) := m4.vb VR3.out fun e => by have := VR2.out.lt; have := HMm.out; omega
  have B4 : Hid (Below w.heap.size w w4) := Mq.under B3.out m4 fun k e => by have := B2.out.size; have := HMm.out; omega
  have LG : Hid (G.regs.length = 16 ∧ G.csr.length = 11 ∧ G.inn.length ≤ 1000 ∧ G.out.length ≤ 1000) := by
    have k1 := K.out.r16; have k2 := K.out.c11; have k3 := K.out.i40; have k4 := K.out.o40
    rw [← HG.out]
    refine ⟨?_, ?_, ?_, ?_⟩ <;> simp only [backV, List.length_set] <;> omega
  clear v4 m4 hG
  go_wp2_with fail
  refine (i_hart m _ _ G _ _ V4.out MI4.out MO4.out LG.out.1 LG.out.2.1 LG.out.2.2.1 LG.out.2.2.2).mono ?_
  rintro e w5 ⟨r5, c5, i5, o5, rfl, m5, A5, b5⟩
  obtain ⟨ja0, jk0, rfl, _⟩ := m5.r.shape
  obtain ⟨ja1, jk1, rfl, _⟩ := m5.c.shape
  obtain ⟨ja2, jk2, rfl, _⟩ := m5.i.shape
  obtain ⟨ja3, jk3, rfl, _⟩ := m5.o.shape
  generalize G.regs.length = g0 at *
  generalize G.csr.length = g1 at *
  generalize G.inn.length = g2 at *
  generalize G.out.length = g3 at *
  have M5 : Hid (Hm w5 w4.heap.size (.slice ja0 g0 jk0) (.slice ja1 g1 jk1) (.slice ja2 g2 jk2) (.slice ja3 g3 jk3) G) := m5
  have HA5 : Hid (Ha (.slice ja0 g0 jk0) (.slice ja1 g1 jk1) (.slice ja2 g2 jk2) (.slice ja3 g3 jk3)) := A5
  have B5 : Hid (Below w.heap.size w w5) := on B4.out b5
  have VR5 : Hid (Vb w5 (s + 1) #[.int .i64 0, .slice none 0 0, .int .i64 0, .slice none 0 0, .bool false, .bool false, .bool false, .int .i64 0, .slice none 0 0, .slice none 0 0] 30) := VR4.out.keep b5
  have LQ : Hid (s + 1 < w4.heap.size) := VR4.out.lt
  clear m5 A5 b5
  have p0 := VR5.out.cell 0 rfl
  have f0 := VR5.out.free 0
  have p1 := VR5.out.cell 1 rfl
  have f1 := VR5.out.free 1
  have p2 := VR5.out.cell 2 rfl
  have f2 := VR5.out.free 2
  have p3 := VR5.out.cell 3 rfl
  have f3 := VR5.out.free 3
  have p4 := VR5.out.cell 4 rfl
  have f4 := VR5.out.free 4
  have p5 := VR5.out.cell 5 rfl
  have f5 := VR5.out.free 5
  have p6 := VR5.out.cell 6 rfl
  have f6 := VR5.out.free 6
  have p7 := VR5.out.cell 7 rfl
  have f7 := VR5.out.free 7
  have p8 := VR5.out.cell 8 rfl
  have f8 := VR5.out.free 8
  have p9 := VR5.out.cell 9 rfl
  have f9 := VR5.out.free 9
  go_wp2_with fail
  have NN : Hid (_ ∧ _) := ten VR5.out (.int .i64 0) (.slice ja0 g0 jk0) (.int .i64 G.pc) (.slice ja1 g1 jk1) (.bool G.halted) (.bool G.waiting) (.bool G.rung) (.int .i64 G.done) (.slice ja2 g2 jk2) (.slice ja3 g3 jk3)
  clear p0 f0 p1 f1 p2 f2 p3 f3 p4 f4 p5 f5 p6 f6 p7 f7 p8 f8 p9 f9
  generalize ((((((((((w5.setCell ⟨s + 1, 0, none⟩ (.int .i64 0)).setCell ⟨s + 1, 1, none⟩ (.slice ja0 g0 jk0)).setCell ⟨s + 1, 2, none⟩ (.int .i64 G.pc)).setCell ⟨s + 1, 3, none⟩ (.slice ja1 g1 jk1)).setCell ⟨s + 1, 4, none⟩ (.bool G.halted)).setCell ⟨s + 1, 5, none⟩ (.bool G.waiting)).setCell ⟨s + 1, 6, none⟩ (.bool G.rung)).setCell ⟨s + 1, 7, none⟩ (.int .i64 G.done)).setCell ⟨s + 1, 8, none⟩ (.slice ja2 g2 jk2)).setCell ⟨s + 1, 9, none⟩ (.slice ja3 g3 jk3)) = V at *
  have x0 := NN.out.1.cell 0 rfl
  have x1 := NN.out.1.cell 1 rfl
  have x2 := NN.out.1.cell 2 rfl
  have x3 := NN.out.1.cell 3 rfl
  have x4 := NN.out.1.cell 4 rfl
  have x5 := NN.out.1.cell 5 rfl
  have x6 := NN.out.1.cell 6 rfl
  have x7 := NN.out.1.cell 7 rfl
  have x8 := NN.out.1.cell 8 rfl
  have x9 := NN.out.1.cell 9 rfl
  have BV : Below w.heap.size w V := Mq.under B5.out NN.out.2 fun k e => by have := HS.out; omega
  have MV := NN.out.2
  refine bodyPost_ret (v := .agg #[.int .i64 0, .slice ja0 g0 jk0, .int .i64 G.pc, .slice ja1 g1 jk1, .bool G.halted, .bool G.waiting, .bool G.rung, .int .i64 G.done, .slice ja2 g2 jk2, .slice ja3 g3 jk3]) (by simp [results, Tryd.results9, go_sem, x0, x1, x2, x3, x4, x5, x6, x7, x8, x9]) rfl ?_
  rw [HE1.out, HE3.out]
  exact ⟨_, _, _, _, rfl, ((MV.hm M5.out fun k e f => by have := (M5.out.own k e).1; have := LQ.out; omega).mono B4.out.size), HA5.out, BV⟩

end Go.Proofs.YtaajaikpkcgalaaDoor
