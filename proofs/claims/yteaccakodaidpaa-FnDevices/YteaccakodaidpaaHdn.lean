/- DeviceRead, of both. -/
import Derived.Test.YteaccakodaidpaaHdj
import Derived.Test.YteaccakodaidpaaHdm
import Derived.Deep.Cut
namespace Go.Proofs.Yteaccakodaidpaa
open Go.RowKit
set_option linter.unusedVariables false

set_option maxRecDepth 20000 in
set_option maxHeartbeats 8000000 in
theorem i_devRead (r c i o : Value) (H : Ht) (k : Int) (b : Nat) (w : World) (h : Hm w b r c i o H) :
    Calls Try.prog 19 #[.agg #[r, .int .i64 H.pc, c, .bool H.halted, .bool H.waiting, .bool H.rung, .int .i64 H.done, i, o], .int .i64 k] w fun e w' => ∃ r' c' i' o', e = .returned (.agg #[.int .i64 (drR H k).code, .int .i64 (drR H k).val, .int .i64 (drR H k).ring, r', .int .i64 (drR H k).h.pc, c', .bool (drR H k).h.halted, .bool (drR H k).h.waiting, .bool (drR H k).h.rung, .int .i64 (drR H k).h.done, i', o']) ∧ Hm w' w.heap.size r' c' i' o' (drR H k).h ∧ Ha r' c' i' o' ∧ Below w.heap.size w w' := by
  have HM : Hid (Hm w b r c i o H) := h
  obtain ⟨a0, k0, rfl, _⟩ := h.r.shape
  obtain ⟨a1, k1, rfl, _⟩ := h.c.shape
  obtain ⟨a2, k2, rfl, _⟩ := h.i.shape
  obtain ⟨a3, k3, rfl, _⟩ := h.o.shape
  clear h
  generalize hW : (w.alloc (.cells #[.slice a0 H.regs.length k0, .int .i64 H.pc, .slice a1 H.csr.length k1, .bool H.halted, .bool H.waiting, .bool H.rung, .int .i64 H.done, .slice a2 H.inn.length k2, .slice a3 H.out.length k3] 39)).alloc (.cells #[.int .i64 0, .int .i64 0, .int .i64 0, .slice none 0 0, .int .i64 0, .slice none 0 0, .bool false, .bool false, .bool false, .int .i64 0, .slice none 0 0, .slice none 0 0] 46) = W
  have B0 : Hid (Below w.heap.size w W) := by show Below _ _ _; rw [← hW]; exact al (al (Below.refl _ _) _) _
  obtain ⟨s, hS⟩ : ∃ s, w.heap.size = s := ⟨_, rfl⟩
  have HS : Hid (w.heap.size = s) := hS
  have VA : Hid (Vb W s #[.slice a0 H.regs.length k0, .int .i64 H.pc, .slice a1 H.csr.length k1, .bool H.halted, .bool H.waiting, .bool H.rung, .int .i64 H.done, .slice a2 H.inn.length k2, .slice a3 H.out.length k3] 39) := by
    show Vb _ _ _ _; rw [← hW, ← hS]; exact (Vb.new _ _ _).push _
  have VR : Hid (Vb W (s + 1) #[.int .i64 0, .int .i64 0, .int .i64 0, .slice none 0 0, .int .i64 0, .slice none 0 0, .bool false, .bool false, .bool false, .int .i64 0, .slice none 0 0, .slice none 0 0] 46) := by
    have z1 : s + 1 = (w.alloc (.cells #[.slice a0 H.regs.length k0, .int .i64 H.pc, .slice a1 H.csr.length k1, .bool H.halted, .bool H.waiting, .bool H.rung, .int .i64 H.done, .slice a2 H.inn.length k2, .slice a3 H.out.length k3] 39)).heap.size := by rw [← hS]; simp
    show Vb _ _ _ _; rw [← hW, z1]; exact Vb.new _ _ _
  have q0 := VA.out.cell 0 rfl
  have q1 := VA.out.cell 1 rfl
  have q2 := VA.out.cell 2 rfl
  have q3 := VA.out.cell 3 rfl
  have q4 := VA.out.cell 4 rfl
  have q5 := VA.out.cell 5 rfl
  have q6 := VA.out.cell 6 rfl
  have q7 := VA.out.cell 7 rfl
  have q8 := VA.out.cell 8 rfl
  go_enter Try.func19, Try.ntmps19
  go_wp2_with fail
  clear hW hS q0 q1 q2 q3 q4 q5 q6 q7 q8
  refine (i_fault _ _ _ _ H _ _ (HM.out.keep B0.out)).mono ?_
  rintro e w1 ⟨rfl, b1⟩
  have B1 : Hid (Below w.heap.size w w1) := on B0.out b1
  have VA1 : Hid (Vb w1 s #[.slice a0 H.regs.length k0, .int .i64 H.pc, .slice a1 H.csr.length k1, .bool H.halted, .bool H.waiting, .bool H.rung, .int .i64 H.done, .slice a2 H.inn.length k2, .slice a3 H.out.length k3] 39) := VA.out.keep b1
  have VR1 : Hid (Vb w1 (s + 1) #[.int .i64 0, .int .i64 0, .int .i64 0, .slice none 0 0, .int .i64 0, .slice none 0 0, .bool false, .bool false, .bool false, .int .i64 0, .slice none 0 0, .slice none 0 0] 46) := VR.out.keep b1
  have M1 : Hid (Hm w1 b _ _ _ _ H) := HM.out.keep B1.out
  clear b1 VA VR
  by_cases hf : hfV H = 0
  case neg =>
    have E0 : Hid ((drR H k).code = hfV H) := by show _ = _; simp only [drR, if_neg hf]
    have E1 : Hid ((drR H k).val = 0) := by show _ = _; simp only [drR, if_neg hf]
    have E2 : Hid ((drR H k).ring = 0) := by show _ = _; simp only [drR, if_neg hf]
    have E3 : Hid ((drR H k).h = voidH) := by show _ = _; simp only [drR, if_neg hf]
    generalize hfV H = f at *
    have HE1 : Hid ((drR H k).code = f) := by show _ = _; first | exact E0.out | exact E1.out | exact E2.out | exact E3.out
    have HE2 : Hid ((drR H k).val = 0) := by show _ = _; first | exact E0.out | exact E1.out | exact E2.out | exact E3.out
    have HE3 : Hid ((drR H k).ring = 0) := by show _ = _; first | exact E0.out | exact E1.out | exact E2.out | exact E3.out
    have HE4 : Hid ((drR H k).h = voidH) := by show _ = _; first | exact E0.out | exact E1.out | exact E2.out | exact E3.out
    have p0 := VR1.out.cell 0 rfl
    have f0 := VR1.out.free 0
    have p1 := VR1.out.cell 1 rfl
    have f1 := VR1.out.free 1
    have p2 := VR1.out.cell 2 rfl
    have f2 := VR1.out.free 2
    have p3 := VR1.out.cell 3 rfl
    have f3 := VR1.out.free 3
    have p4 := VR1.out.cell 4 rfl
    have f4 := VR1.out.free 4
    have p5 := VR1.out.cell 5 rfl
    have f5 := VR1.out.free 5
    have p6 := VR1.out.cell 6 rfl
    have f6 := VR1.out.free 6
    have p7 := VR1.out.cell 7 rfl
    have f7 := VR1.out.free 7
    have p8 := VR1.out.cell 8 rfl
    have f8 := VR1.out.free 8
    have p9 := VR1.out.cell 9 rfl
    have f9 := VR1.out.free 9
    have p10 := VR1.out.cell 10 rfl
    have f10 := VR1.out.free 10
    have p11 := VR1.out.cell 11 rfl
    have f11 := VR1.out.free 11
    go_wp2_with fail
    have NN : Hid (_ ∧ _) := twelve VR1.out (.int .i64 f) (.int .i64 0) (.int .i64 0) (.slice none 0 0) (.int .i64 0) (.slice none 0 0) (.bool false) (.bool false) (.bool false) (.int .i64 0) (.slice none 0 0) (.slice none 0 0)
    clear p0 f0 p1 f1 p2 f2 p3 f3 p4 f4 p5 f5 p6 f6 p7 f7 p8 f8 p9 f9 p10 f10 p11 f11
    generalize ((((((((((((w1.setCell ⟨s + 1, 0, none⟩ (.int .i64 f)).setCell ⟨s + 1, 1, none⟩ (.int .i64 0)).setCell ⟨s + 1, 2, none⟩ (.int .i64 0)).setCell ⟨s + 1, 3, none⟩ (.slice none 0 0)).setCell ⟨s + 1, 4, none⟩ (.int .i64 0)).setCell ⟨s + 1, 5, none⟩ (.slice none 0 0)).setCell ⟨s + 1, 6, none⟩ (.bool false)).setCell ⟨s + 1, 7, none⟩ (.bool false)).setCell ⟨s + 1, 8, none⟩ (.bool false)).setCell ⟨s + 1, 9, none⟩ (.int .i64 0)).setCell ⟨s + 1, 10, none⟩ (.slice none 0 0)).setCell ⟨s + 1, 11, none⟩ (.slice none 0 0)) = V at *
    have x0 := NN.out.1.cell 0 rfl
    have x1 := NN.out.1.cell 1 rfl
    have x2 := NN.out.1.cell 2 rfl
    have x3 := NN.out.1.cell 3 rfl
    have x4 := NN.out.1.cell 4 rfl
    have x5 := NN.out.1.cell 5 rfl
    have x6 := NN.out.1.cell 6 rfl
    have x7 := NN.out.1.cell 7 rfl
    have x8 := NN.out.1.cell 8 rfl
    have x9 := NN.out.1.cell 9 rfl
    have x10 := NN.out.1.cell 10 rfl
    have x11 := NN.out.1.cell 11 rfl
    have BV : Below w.heap.size w V := Mq.under B1.out NN.out.2 fun k e => by have := HS.out; omega
    have MV := NN.out.2
    refine bodyPost_ret (v := .agg #[.int .i64 f, .int .i64 0, .int .i64 0, .slice none 0 0, .int .i64 0, .slice none 0 0, .bool false, .bool false, .bool false, .int .i64 0, .slice none 0 0, .slice none 0 0]) (by simp [results, Try.results19, go_sem, x0, x1, x2, x3, x4, x5, x6, x7, x8, x9, x10, x11]) rfl ?_
    rw [HE1.out, HE2.out, HE3.out, HE4.out]
    exact ⟨_, _, _, _, rfl, void_hm _ _, void_ha, BV⟩
  have K : Hid (Hok H) := hok_of hf
  have HF : Hid (hfV H = 0) := hf
  rw [hf]
  cases hk : (decide (0 ≤ k) && decide (k ≤ 7))
  case false =>
    have HE1 : Hid ((drR H k).code = 3) := by show _ = _; simp [drR, hf, hk]
    have HE2 : Hid ((drR H k).val = 0) := by show _ = _; simp [drR, hf, hk]
    have HE3 : Hid ((drR H k).ring = 0) := by show _ = _; simp [drR, hf, hk]
    have HE4 : Hid ((drR H k).h = voidH) := by show _ = _; simp [drR, hf, hk]
    have p0 := VR1.out.cell 0 rfl
    have f0 := VR1.out.free 0
    have p1 := VR1.out.cell 1 rfl
    have f1 := VR1.out.free 1
    have p2 := VR1.out.cell 2 rfl
    have f2 := VR1.out.free 2
    have p3 := VR1.out.cell 3 rfl
    have f3 := VR1.out.free 3
    have p4 := VR1.out.cell 4 rfl
    have f4 := VR1.out.free 4
    have p5 := VR1.out.cell 5 rfl
    have f5 := VR1.out.free 5
    have p6 := VR1.out.cell 6 rfl
    have f6 := VR1.out.free 6
    have p7 := VR1.out.cell 7 rfl
    have f7 := VR1.out.free 7
    have p8 := VR1.out.cell 8 rfl
    have f8 := VR1.out.free 8
    have p9 := VR1.out.cell 9 rfl
    have f9 := VR1.out.free 9
    have p10 := VR1.out.cell 10 rfl
    have f10 := VR1.out.free 10
    have p11 := VR1.out.cell 11 rfl
    have f11 := VR1.out.free 11
    go_wp2_with (go_at_call 64; refine (i_isDevice _ _).mono ?_; rintro e y ⟨rfl, hy⟩; rw [hy]; clear hy y; rw [hk])
    have NN : Hid (_ ∧ _) := twelve VR1.out (.int .i64 3) (.int .i64 0) (.int .i64 0) (.slice none 0 0) (.int .i64 0) (.slice none 0 0) (.bool false) (.bool false) (.bool false) (.int .i64 0) (.slice none 0 0) (.slice none 0 0)
    clear p0 f0 p1 f1 p2 f2 p3 f3 p4 f4 p5 f5 p6 f6 p7 f7 p8 f8 p9 f9 p10 f10 p11 f11
    generalize ((((((((((((w1.setCell ⟨s + 1, 0, none⟩ (.int .i64 3)).setCell ⟨s + 1, 1, none⟩ (.int .i64 0)).setCell ⟨s + 1, 2, none⟩ (.int .i64 0)).setCell ⟨s + 1, 3, none⟩ (.slice none 0 0)).setCell ⟨s + 1, 4, none⟩ (.int .i64 0)).setCell ⟨s + 1, 5, none⟩ (.slice none 0 0)).setCell ⟨s + 1, 6, none⟩ (.bool false)).setCell ⟨s + 1, 7, none⟩ (.bool false)).setCell ⟨s + 1, 8, none⟩ (.bool false)).setCell ⟨s + 1, 9, none⟩ (.int .i64 0)).setCell ⟨s + 1, 10, none⟩ (.slice none 0 0)).setCell ⟨s + 1, 11, none⟩ (.slice none 0 0)) = V at *
    have x0 := NN.out.1.cell 0 rfl
    have x1 := NN.out.1.cell 1 rfl
    have x2 := NN.out.1.cell 2 rfl
    have x3 := NN.out.1.cell 3 rfl
    have x4 := NN.out.1.cell 4 rfl
    have x5 := NN.out.1.cell 5 rfl
    have x6 := NN.out.1.cell 6 rfl
    have x7 := NN.out.1.cell 7 rfl
    have x8 := NN.out.1.cell 8 rfl
    have x9 := NN.out.1.cell 9 rfl
    have x10 := NN.out.1.cell 10 rfl
    have x11 := NN.out.1.cell 11 rfl
    have BV : Below w.heap.size w V := Mq.under B1.out NN.out.2 fun k e => by have := HS.out; omega
    have MV := NN.out.2
    refine bodyPost_ret (v := .agg #[.int .i64 3, .int .i64 0, .int .i64 0, .slice none 0 0, .int .i64 0, .slice none 0 0, .bool false, .bool false, .bool false, .int .i64 0, .slice none 0 0, .slice none 0 0]) (by simp [results, Try.results19, go_sem, x0, x1, x2, x3, x4, x5, x6, x7, x8, x9, x10, x11]) rfl ?_
    rw [HE1.out, HE2.out, HE3.out, HE4.out]
    exact ⟨_, _, _, _, rfl, void_hm _ _, void_ha, BV⟩
  have HK : Hid (0 ≤ k ∧ k ≤ 7) := by show _ ∧ _; simpa using hk
  have HE1 : Hid ((drR H k).code = 0) := by show _ = _; simp [drR, hf, hk]
  have HE2 : Hid ((drR H k).val = drV H k) := by show _ = _; simp [drR, hf, hk]
  have HE3 : Hid ((drR H k).ring = -1) := by show _ = _; simp [drR, hf, hk]
  have HE4 : Hid ((drR H k).h = drH H k) := by show _ = _; simp [drR, hf, hk]
  have q0 := VA1.out.cell 0 rfl
  have q1 := VA1.out.cell 1 rfl
  have q2 := VA1.out.cell 2 rfl
  have q3 := VA1.out.cell 3 rfl
  have q4 := VA1.out.cell 4 rfl
  have q5 := VA1.out.cell 5 rfl
  have q6 := VA1.out.cell 6 rfl
  have q7 := VA1.out.cell 7 rfl
  have q8 := VA1.out.cell 8 rfl
  go_wp2_with (go_at_call 64; refine (i_isDevice _ _).mono ?_; rintro e y ⟨rfl, hy⟩; rw [hy]; clear hy y; rw [hk])
  clear q0 q1 q2 q3 q4 q5 q6 q7 q8
  refine (i_machine _ _ _ _ H _ _ M1.out K.out.r16 K.out.c11 (by have := K.out.i40; omega) (by have := K.out.o40; omega)).mono ?_
  rintro e w2 ⟨i2, o2, rfl, mi, mo, ap, b2⟩
  obtain ⟨xa, xk, rfl, _⟩ := mi.shape
  obtain ⟨ya', yk, rfl, _⟩ := mo.shape
  generalize hxn : H.inn.length = xn at *
  generalize hyn : H.out.length = yn' at *
  have hst := mca_store H xa xn xk ya' yn' yk w2
  have hsz := mca_size H (.slice xa xn xk) (.slice ya' yn' yk)
  have MI : Hid (Nums w2 w1.heap.size (.slice xa xn xk) H.inn) := mi
  have MO : Hid (Nums w2 w1.heap.size (.slice ya' yn' yk) H.out) := mo
  have AP : Hid (Apt (.slice xa xn xk) (.slice ya' yn' yk)) := ap
  have B2 : Hid (Below w.heap.size w w2) := on B1.out b2
  have VR2 : Hid (Vb w2 (s + 1) #[.int .i64 0, .int .i64 0, .int .i64 0, .slice none 0 0, .int .i64 0, .slice none 0 0, .bool false, .bool false, .bool false, .int .i64 0, .slice none 0 0, .slice none 0 0] 46) := VR1.out.keep b2
  have LB : Hid (w1.heap.size ≤ w2.heap.size ∧ s + 1 < w1.heap.size) := ⟨b2.size, VR1.out.lt⟩
  have XN : Hid (H.inn.length = xn) := hxn
  clear mi mo ap b2 hxn hyn
  go_wp2_with fail
  generalize hW3 : w2.alloc (.cells (mca H (.slice xa xn xk) (.slice ya' yn' yk)) 103) = W3
  obtain ⟨m, hm'⟩ : ∃ m, w2.heap.size = m := ⟨_, rfl⟩
  have HMm : Hid (w2.heap.size = m) := hm'
  rw [hm']
  have V3 : Hid (Vb W3 m (mca H (.slice xa xn xk) (.slice ya' yn' yk)) 103) := by show Vb _ _ _ _; rw [← hW3, ← hm']; exact Vb.new _ _ _
  have B3 : Hid (Below w.heap.size w W3) := by show Below _ _ _; rw [← hW3]; exact al B2.out _
  have VR3 : Hid (Vb W3 (s + 1) #[.int .i64 0, .int .i64 0, .int .i64 0, .slice none 0 0, .int .i64 0, .slice none 0 0, .bool false, .bool false, .bool false, .int .i64 0, .slice none 0 0, .slice none 0 0] 46) := by show Vb _ _ _ _; rw [← hW3]; exact VR2.out.push _
  have MI3 : Hid (Nums W3 w1.heap.size (.slice xa xn xk) H.inn) := by show Nums _ _ _ _; rw [← hW3]; exact MI.out.keep (al (Below.refl _ _) _)
  have MO3 : Hid (Nums W3 w1.heap.size (.slice ya' yn' yk) H.out) := by show Nums _ _ _ _; rw [← hW3]; exact MO.out.keep (al (Below.refl _ _) _)
  have LW : Hid (w1.heap.size ≤ W3.heap.size) := by show _ ≤ _; rw [← hW3]; have := LB.out.1; simp; omega
  clear hst hsz hW3 hm'
  refine (i_read _ _ _ H k _ _ V3.out MI3.out MO3.out HK.out.1 HK.out.2).mono ?_
  rintro e w4 ⟨rfl, i4, o4, s4⟩
  obtain ⟨G, hG⟩ : ∃ G, drH H k = G := ⟨_, rfl⟩
  rw [hG] at s4
  have HG : Hid (drH H k = G) := hG
  have HEG : Hid ((drR H k).h = G) := HE4.out.trans hG
  obtain ⟨g, hg⟩ : ∃ g, drV H k = g := ⟨_, rfl⟩
  rw [hg]
  have HEV : Hid ((drR H k).val = g) := HE2.out.trans hg
  clear hg
  have S4 : Hid (Si W3 w4 m (.slice xa xn xk) (.slice ya' yn' yk) _ _ G) := s4
  have VR4 : Hid (Vb w4 (s + 1) #[.int .i64 0, .int .i64 0, .int .i64 0, .slice none 0 0, .int .i64 0, .slice none 0 0, .bool false, .bool false, .bool false, .int .i64 0, .slice none 0 0, .slice none 0 0] 46) := S4.out.g.vb VR3.out fun e => by
    have := LB.out.2; have := LB.out.1; have := HMm.out
    rcases e with e | e | e
    · omega
    · have := (MI.out.lt _ e).1; omega
    · have := (MO.out.lt _ e).1; omega
  have B4 : Hid (Below w.heap.size w w4) := Mq.under B3.out S4.out.g fun k e => by
    have := B1.out.size; have := LB.out.1; have := HMm.out
    rcases e with e | e | e
    · omega
    · have := (MI.out.lt _ e).1; omega
    · have := (MO.out.lt _ e).1; omega
  have LG : Hid (G.regs.length = 16 ∧ G.csr.length = 11 ∧ G.inn.length ≤ 1000 ∧ G.out.length ≤ 1000) := by
    rw [← HG.out]
    exact drH_lens K.out k
  clear s4 hG
  go_wp2_with fail
  refine (i_hartr m _ _ G _ S4.out.v S4.out.ri S4.out.ro LG.out.1 LG.out.2.1 LG.out.2.2.1 LG.out.2.2.2).mono ?_
  rintro e w5 ⟨r5, c5, i5, o5, rfl, m5, A5, b5⟩
  obtain ⟨ja0, jk0, rfl, _⟩ := m5.r.shape
  obtain ⟨ja1, jk1, rfl, _⟩ := m5.c.shape
  obtain ⟨ja2, jk2, rfl, _⟩ := m5.i.shape
  obtain ⟨ja3, jk3, rfl, _⟩ := m5.o.shape
  generalize G.regs.length = g0 at *
  generalize G.csr.length = g1 at *
  generalize G.inn.length = g2 at *
  generalize G.out.length = g3 at *
  have M5 : Hid (Hm w5 w4.heap.size (.slice ja0 g0 jk0) (.slice ja1 g1 jk1) (.slice ja2 g2 jk2) (.slice ja3 g3 jk3) G) := m5
  have HA5 : Hid (Ha (.slice ja0 g0 jk0) (.slice ja1 g1 jk1) (.slice ja2 g2 jk2) (.slice ja3 g3 jk3)) := A5
  have B5 : Hid (Below w.heap.size w w5) := on B4.out b5
  have VR5 : Hid (Vb w5 (s + 1) #[.int .i64 0, .int .i64 0, .int .i64 0, .slice none 0 0, .int .i64 0, .slice none 0 0, .bool false, .bool false, .bool false, .int .i64 0, .slice none 0 0, .slice none 0 0] 46) := VR4.out.keep b5
  have LQ : Hid (s + 1 < w4.heap.size) := VR4.out.lt
  clear m5 A5 b5
  have p0 := VR5.out.cell 0 rfl
  have f0 := VR5.out.free 0
  have p1 := VR5.out.cell 1 rfl
  have f1 := VR5.out.free 1
  have p2 := VR5.out.cell 2 rfl
  have f2 := VR5.out.free 2
  have p3 := VR5.out.cell 3 rfl
  have f3 := VR5.out.free 3
  have p4 := VR5.out.cell 4 rfl
  have f4 := VR5.out.free 4
  have p5 := VR5.out.cell 5 rfl
  have f5 := VR5.out.free 5
  have p6 := VR5.out.cell 6 rfl
  have f6 := VR5.out.free 6
  have p7 := VR5.out.cell 7 rfl
  have f7 := VR5.out.free 7
  have p8 := VR5.out.cell 8 rfl
  have f8 := VR5.out.free 8
  have p9 := VR5.out.cell 9 rfl
  have f9 := VR5.out.free 9
  have p10 := VR5.out.cell 10 rfl
  have f10 := VR5.out.free 10
  have p11 := VR5.out.cell 11 rfl
  have f11 := VR5.out.free 11
  go_wp2_with fail
  have NN : Hid (_ ∧ _) := twelve VR5.out (.int .i64 0) (.int .i64 g) (.int .i64 (-1)) (.slice ja0 g0 jk0) (.int .i64 G.pc) (.slice ja1 g1 jk1) (.bool G.halted) (.bool G.waiting) (.bool G.rung) (.int .i64 G.done) (.slice ja2 g2 jk2) (.slice ja3 g3 jk3)
  clear p0 f0 p1 f1 p2 f2 p3 f3 p4 f4 p5 f5 p6 f6 p7 f7 p8 f8 p9 f9 p10 f10 p11 f11
  generalize ((((((((((((w5.setCell ⟨s + 1, 0, none⟩ (.int .i64 0)).setCell ⟨s + 1, 1, none⟩ (.int .i64 g)).setCell ⟨s + 1, 2, none⟩ (.int .i64 (-1))).setCell ⟨s + 1, 3, none⟩ (.slice ja0 g0 jk0)).setCell ⟨s + 1, 4, none⟩ (.int .i64 G.pc)).setCell ⟨s + 1, 5, none⟩ (.slice ja1 g1 jk1)).setCell ⟨s + 1, 6, none⟩ (.bool G.halted)).setCell ⟨s + 1, 7, none⟩ (.bool G.waiting)).setCell ⟨s + 1, 8, none⟩ (.bool G.rung)).setCell ⟨s + 1, 9, none⟩ (.int .i64 G.done)).setCell ⟨s + 1, 10, none⟩ (.slice ja2 g2 jk2)).setCell ⟨s + 1, 11, none⟩ (.slice ja3 g3 jk3)) = V at *
  have x0 := NN.out.1.cell 0 rfl
  have x1 := NN.out.1.cell 1 rfl
  have x2 := NN.out.1.cell 2 rfl
  have x3 := NN.out.1.cell 3 rfl
  have x4 := NN.out.1.cell 4 rfl
  have x5 := NN.out.1.cell 5 rfl
  have x6 := NN.out.1.cell 6 rfl
  have x7 := NN.out.1.cell 7 rfl
  have x8 := NN.out.1.cell 8 rfl
  have x9 := NN.out.1.cell 9 rfl
  have x10 := NN.out.1.cell 10 rfl
  have x11 := NN.out.1.cell 11 rfl
  have BV : Below w.heap.size w V := Mq.under B5.out NN.out.2 fun k e => by have := HS.out; omega
  have MV := NN.out.2
  refine bodyPost_ret (v := .agg #[.int .i64 0, .int .i64 g, .int .i64 (-1), .slice ja0 g0 jk0, .int .i64 G.pc, .slice ja1 g1 jk1, .bool G.halted, .bool G.waiting, .bool G.rung, .int .i64 G.done, .slice ja2 g2 jk2, .slice ja3 g3 jk3]) (by simp [results, Try.results19, go_sem, x0, x1, x2, x3, x4, x5, x6, x7, x8, x9, x10, x11]) rfl ?_
  rw [HE1.out, HEV.out, HE3.out, HEG.out]
  exact ⟨_, _, _, _, rfl, ((MV.hm M5.out fun k e f => by have := (M5.out.own k e).1; have := LQ.out; omega).mono B4.out.size), HA5.out, BV⟩

set_option maxRecDepth 20000 in
set_option maxHeartbeats 8000000 in
theorem s_devRead (r c i o : Value) (H : Ht) (k : Int) (b : Nat) (w : World) (h : Hm w b r c i o H) :
    Calls Try.prog 26 #[.agg #[r, .int .i64 H.pc, c, .bool H.halted, .bool H.waiting, .bool H.rung, .int .i64 H.done, i, o], .int .i64 k] w fun e w' => ∃ r' c' i' o', e = .returned (.agg #[.int .i64 (drR H k).code, .int .i64 (drR H k).val, .int .i64 (drR H k).ring, r', .int .i64 (drR H k).h.pc, c', .bool (drR H k).h.halted, .bool (drR H k).h.waiting, .bool (drR H k).h.rung, .int .i64 (drR H k).h.done, i', o']) ∧ Hr w' r' c' i' o' (drR H k).h ∧ (∀ k, Own4 r' c' i' o' k → w.heap.size ≤ k ∧ k < w'.heap.size) ∧ Below w.heap.size w w' := by
  have HM : Hid (Hm w b r c i o H) := h
  obtain ⟨a0, k0, rfl, _⟩ := h.r.shape
  obtain ⟨a1, k1, rfl, _⟩ := h.c.shape
  obtain ⟨a2, k2, rfl, _⟩ := h.i.shape
  obtain ⟨a3, k3, rfl, _⟩ := h.o.shape
  clear h
  generalize hW : (w.alloc (.cells #[.slice a0 H.regs.length k0, .int .i64 H.pc, .slice a1 H.csr.length k1, .bool H.halted, .bool H.waiting, .bool H.rung, .int .i64 H.done, .slice a2 H.inn.length k2, .slice a3 H.out.length k3] 39)).alloc (.cells #[.int .i64 0, .int .i64 0, .int .i64 0, .slice none 0 0, .int .i64 0, .slice none 0 0, .bool false, .bool false, .bool false, .int .i64 0, .slice none 0 0, .slice none 0 0] 46) = W
  have B0 : Hid (Below w.heap.size w W) := by show Below _ _ _; rw [← hW]; exact al (al (Below.refl _ _) _) _
  obtain ⟨s, hS⟩ : ∃ s, w.heap.size = s := ⟨_, rfl⟩
  have HS : Hid (w.heap.size = s) := hS
  have VA : Hid (Vb W s #[.slice a0 H.regs.length k0, .int .i64 H.pc, .slice a1 H.csr.length k1, .bool H.halted, .bool H.waiting, .bool H.rung, .int .i64 H.done, .slice a2 H.inn.length k2, .slice a3 H.out.length k3] 39) := by
    show Vb _ _ _ _; rw [← hW, ← hS]; exact (Vb.new _ _ _).push _
  have VR : Hid (Vb W (s + 1) #[.int .i64 0, .int .i64 0, .int .i64 0, .slice none 0 0, .int .i64 0, .slice none 0 0, .bool false, .bool false, .bool false, .int .i64 0, .slice none 0 0, .slice none 0 0] 46) := by
    have z1 : s + 1 = (w.alloc (.cells #[.slice a0 H.regs.length k0, .int .i64 H.pc, .slice a1 H.csr.length k1, .bool H.halted, .bool H.waiting, .bool H.rung, .int .i64 H.done, .slice a2 H.inn.length k2, .slice a3 H.out.length k3] 39)).heap.size := by rw [← hS]; simp
    show Vb _ _ _ _; rw [← hW, z1]; exact Vb.new _ _ _
  have q0 := VA.out.cell 0 rfl
  have q1 := VA.out.cell 1 rfl
  have q2 := VA.out.cell 2 rfl
  have q3 := VA.out.cell 3 rfl
  have q4 := VA.out.cell 4 rfl
  have q5 := VA.out.cell 5 rfl
  have q6 := VA.out.cell 6 rfl
  have q7 := VA.out.cell 7 rfl
  have q8 := VA.out.cell 8 rfl
  go_enter Try.func26, Try.ntmps26
  go_wp2_with fail
  clear hW hS q0 q1 q2 q3 q4 q5 q6 q7 q8
  refine (s_fault _ _ _ _ _ H _ _ (HM.out.keep B0.out) VA.out).mono ?_
  rintro e w1 ⟨rfl, hw1⟩
  have b1 : Below W.heap.size W w1 := by rw [hw1]; exact Below.refl _ _
  clear hw1
  have B1 : Hid (Below w.heap.size w w1) := on B0.out b1
  have VA1 : Hid (Vb w1 s #[.slice a0 H.regs.length k0, .int .i64 H.pc, .slice a1 H.csr.length k1, .bool H.halted, .bool H.waiting, .bool H.rung, .int .i64 H.done, .slice a2 H.inn.length k2, .slice a3 H.out.length k3] 39) := VA.out.keep b1
  have VR1 : Hid (Vb w1 (s + 1) #[.int .i64 0, .int .i64 0, .int .i64 0, .slice none 0 0, .int .i64 0, .slice none 0 0, .bool false, .bool false, .bool false, .int .i64 0, .slice none 0 0, .slice none 0 0] 46) := VR.out.keep b1
  have M1 : Hid (Hm w1 b _ _ _ _ H) := HM.out.keep B1.out
  clear b1 VA VR
  by_cases hf : hfV H = 0
  case neg =>
    have E0 : Hid ((drR H k).code = hfV H) := by show _ = _; simp only [drR, if_neg hf]
    have E1 : Hid ((drR H k).val = 0) := by show _ = _; simp only [drR, if_neg hf]
    have E2 : Hid ((drR H k).ring = 0) := by show _ = _; simp only [drR, if_neg hf]
    have E3 : Hid ((drR H k).h = voidH) := by show _ = _; simp only [drR, if_neg hf]
    generalize hfV H = f at *
    have HE1 : Hid ((drR H k).code = f) := by show _ = _; first | exact E0.out | exact E1.out | exact E2.out | exact E3.out
    have HE2 : Hid ((drR H k).val = 0) := by show _ = _; first | exact E0.out | exact E1.out | exact E2.out | exact E3.out
    have HE3 : Hid ((drR H k).ring = 0) := by show _ = _; first | exact E0.out | exact E1.out | exact E2.out | exact E3.out
    have HE4 : Hid ((drR H k).h = voidH) := by show _ = _; first | exact E0.out | exact E1.out | exact E2.out | exact E3.out
    go_wp2_with fail
    refine (s_bad _ _).mono ?_
    rintro e wb ⟨rfl, bb⟩
    have VRb : Hid (Vb wb (s + 1) #[.int .i64 0, .int .i64 0, .int .i64 0, .slice none 0 0, .int .i64 0, .slice none 0 0, .bool false, .bool false, .bool false, .int .i64 0, .slice none 0 0, .slice none 0 0] 46) := VR1.out.keep bb
    have Bb : Hid (Below w.heap.size w wb) := on B1.out bb
    clear bb
    have p0 := VRb.out.cell 0 rfl
    have f0 := VRb.out.free 0
    have p1 := VRb.out.cell 1 rfl
    have f1 := VRb.out.free 1
    have p2 := VRb.out.cell 2 rfl
    have f2 := VRb.out.free 2
    have p3 := VRb.out.cell 3 rfl
    have f3 := VRb.out.free 3
    have p4 := VRb.out.cell 4 rfl
    have f4 := VRb.out.free 4
    have p5 := VRb.out.cell 5 rfl
    have f5 := VRb.out.free 5
    have p6 := VRb.out.cell 6 rfl
    have f6 := VRb.out.free 6
    have p7 := VRb.out.cell 7 rfl
    have f7 := VRb.out.free 7
    have p8 := VRb.out.cell 8 rfl
    have f8 := VRb.out.free 8
    have p9 := VRb.out.cell 9 rfl
    have f9 := VRb.out.free 9
    have p10 := VRb.out.cell 10 rfl
    have f10 := VRb.out.free 10
    have p11 := VRb.out.cell 11 rfl
    have f11 := VRb.out.free 11
    go_wp2_with fail
    have NN : Hid (_ ∧ _) := twelve VRb.out (.int .i64 f) (.int .i64 0) (.int .i64 0) (.slice none 0 0) (.int .i64 0) (.slice none 0 0) (.bool false) (.bool false) (.bool false) (.int .i64 0) (.slice none 0 0) (.slice none 0 0)
    clear p0 f0 p1 f1 p2 f2 p3 f3 p4 f4 p5 f5 p6 f6 p7 f7 p8 f8 p9 f9 p10 f10 p11 f11
    generalize ((((((((((((wb.setCell ⟨s + 1, 0, none⟩ (.int .i64 f)).setCell ⟨s + 1, 1, none⟩ (.int .i64 0)).setCell ⟨s + 1, 2, none⟩ (.int .i64 0)).setCell ⟨s + 1, 3, none⟩ (.slice none 0 0)).setCell ⟨s + 1, 4, none⟩ (.int .i64 0)).setCell ⟨s + 1, 5, none⟩ (.slice none 0 0)).setCell ⟨s + 1, 6, none⟩ (.bool false)).setCell ⟨s + 1, 7, none⟩ (.bool false)).setCell ⟨s + 1, 8, none⟩ (.bool false)).setCell ⟨s + 1, 9, none⟩ (.int .i64 0)).setCell ⟨s + 1, 10, none⟩ (.slice none 0 0)).setCell ⟨s + 1, 11, none⟩ (.slice none 0 0)) = V at *
    have x0 := NN.out.1.cell 0 rfl
    have x1 := NN.out.1.cell 1 rfl
    have x2 := NN.out.1.cell 2 rfl
    have x3 := NN.out.1.cell 3 rfl
    have x4 := NN.out.1.cell 4 rfl
    have x5 := NN.out.1.cell 5 rfl
    have x6 := NN.out.1.cell 6 rfl
    have x7 := NN.out.1.cell 7 rfl
    have x8 := NN.out.1.cell 8 rfl
    have x9 := NN.out.1.cell 9 rfl
    have x10 := NN.out.1.cell 10 rfl
    have x11 := NN.out.1.cell 11 rfl
    have BV : Below w.heap.size w V := Mq.under Bb.out NN.out.2 fun k e => by have := HS.out; omega
    have MV := NN.out.2
    refine bodyPost_ret (v := .agg #[.int .i64 f, .int .i64 0, .int .i64 0, .slice none 0 0, .int .i64 0, .slice none 0 0, .bool false, .bool false, .bool false, .int .i64 0, .slice none 0 0, .slice none 0 0]) (by simp [results, Try.results26, go_sem, x0, x1, x2, x3, x4, x5, x6, x7, x8, x9, x10, x11]) rfl ?_
    rw [HE1.out, HE2.out, HE3.out, HE4.out]
    exact ⟨_, _, _, _, rfl, void_hr _, (fun k e => by rcases e with e | e | e | e <;> cases e), BV⟩
  have K : Hid (Hok H) := hok_of hf
  have HF : Hid (hfV H = 0) := hf
  rw [hf]
  cases hk : (decide (0 ≤ k) && decide (k ≤ 7))
  case false =>
    have HE1 : Hid ((drR H k).code = 3) := by show _ = _; simp [drR, hf, hk]
    have HE2 : Hid ((drR H k).val = 0) := by show _ = _; simp [drR, hf, hk]
    have HE3 : Hid ((drR H k).ring = 0) := by show _ = _; simp [drR, hf, hk]
    have HE4 : Hid ((drR H k).h = voidH) := by show _ = _; simp [drR, hf, hk]
    go_wp2_with (go_at_call 72; refine (spec_in _ _ _ _).mono ?_; rintro e y ⟨rfl, hy⟩; rw [hy]; clear hy y; rw [hk])
    refine (s_bad _ _).mono ?_
    rintro e wb ⟨rfl, bb⟩
    have VRb : Hid (Vb wb (s + 1) #[.int .i64 0, .int .i64 0, .int .i64 0, .slice none 0 0, .int .i64 0, .slice none 0 0, .bool false, .bool false, .bool false, .int .i64 0, .slice none 0 0, .slice none 0 0] 46) := VR1.out.keep bb
    have Bb : Hid (Below w.heap.size w wb) := on B1.out bb
    clear bb
    have p0 := VRb.out.cell 0 rfl
    have f0 := VRb.out.free 0
    have p1 := VRb.out.cell 1 rfl
    have f1 := VRb.out.free 1
    have p2 := VRb.out.cell 2 rfl
    have f2 := VRb.out.free 2
    have p3 := VRb.out.cell 3 rfl
    have f3 := VRb.out.free 3
    have p4 := VRb.out.cell 4 rfl
    have f4 := VRb.out.free 4
    have p5 := VRb.out.cell 5 rfl
    have f5 := VRb.out.free 5
    have p6 := VRb.out.cell 6 rfl
    have f6 := VRb.out.free 6
    have p7 := VRb.out.cell 7 rfl
    have f7 := VRb.out.free 7
    have p8 := VRb.out.cell 8 rfl
    have f8 := VRb.out.free 8
    have p9 := VRb.out.cell 9 rfl
    have f9 := VRb.out.free 9
    have p10 := VRb.out.cell 10 rfl
    have f10 := VRb.out.free 10
    have p11 := VRb.out.cell 11 rfl
    have f11 := VRb.out.free 11
    go_wp2_with fail
    have NN : Hid (_ ∧ _) := twelve VRb.out (.int .i64 3) (.int .i64 0) (.int .i64 0) (.slice none 0 0) (.int .i64 0) (.slice none 0 0) (.bool false) (.bool false) (.bool false) (.int .i64 0) (.slice none 0 0) (.slice none 0 0)
    clear p0 f0 p1 f1 p2 f2 p3 f3 p4 f4 p5 f5 p6 f6 p7 f7 p8 f8 p9 f9 p10 f10 p11 f11
    generalize ((((((((((((wb.setCell ⟨s + 1, 0, none⟩ (.int .i64 3)).setCell ⟨s + 1, 1, none⟩ (.int .i64 0)).setCell ⟨s + 1, 2, none⟩ (.int .i64 0)).setCell ⟨s + 1, 3, none⟩ (.slice none 0 0)).setCell ⟨s + 1, 4, none⟩ (.int .i64 0)).setCell ⟨s + 1, 5, none⟩ (.slice none 0 0)).setCell ⟨s + 1, 6, none⟩ (.bool false)).setCell ⟨s + 1, 7, none⟩ (.bool false)).setCell ⟨s + 1, 8, none⟩ (.bool false)).setCell ⟨s + 1, 9, none⟩ (.int .i64 0)).setCell ⟨s + 1, 10, none⟩ (.slice none 0 0)).setCell ⟨s + 1, 11, none⟩ (.slice none 0 0)) = V at *
    have x0 := NN.out.1.cell 0 rfl
    have x1 := NN.out.1.cell 1 rfl
    have x2 := NN.out.1.cell 2 rfl
    have x3 := NN.out.1.cell 3 rfl
    have x4 := NN.out.1.cell 4 rfl
    have x5 := NN.out.1.cell 5 rfl
    have x6 := NN.out.1.cell 6 rfl
    have x7 := NN.out.1.cell 7 rfl
    have x8 := NN.out.1.cell 8 rfl
    have x9 := NN.out.1.cell 9 rfl
    have x10 := NN.out.1.cell 10 rfl
    have x11 := NN.out.1.cell 11 rfl
    have BV : Below w.heap.size w V := Mq.under Bb.out NN.out.2 fun k e => by have := HS.out; omega
    have MV := NN.out.2
    refine bodyPost_ret (v := .agg #[.int .i64 3, .int .i64 0, .int .i64 0, .slice none 0 0, .int .i64 0, .slice none 0 0, .bool false, .bool false, .bool false, .int .i64 0, .slice none 0 0, .slice none 0 0]) (by simp [results, Try.results26, go_sem, x0, x1, x2, x3, x4, x5, x6, x7, x8, x9, x10, x11]) rfl ?_
    rw [HE1.out, HE2.out, HE3.out, HE4.out]
    exact ⟨_, _, _, _, rfl, void_hr _, (fun k e => by rcases e with e | e | e | e <;> cases e), BV⟩
  have HK : Hid (0 ≤ k ∧ k ≤ 7) := by show _ ∧ _; simpa using hk
  have HE1 : Hid ((drR H k).code = 0) := by show _ = _; simp [drR, hf, hk]
  have HE2 : Hid ((drR H k).val = drV H k) := by show _ = _; simp [drR, hf, hk]
  have HE3 : Hid ((drR H k).ring = -1) := by show _ = _; simp [drR, hf, hk]
  have HE4 : Hid ((drR H k).h = drH H k) := by show _ = _; simp [drR, hf, hk]
  have q0 := VA1.out.cell 0 rfl
  have q1 := VA1.out.cell 1 rfl
  have q2 := VA1.out.cell 2 rfl
  have q3 := VA1.out.cell 3 rfl
  have q4 := VA1.out.cell 4 rfl
  have q5 := VA1.out.cell 5 rfl
  have q6 := VA1.out.cell 6 rfl
  have q7 := VA1.out.cell 7 rfl
  have q8 := VA1.out.cell 8 rfl
  go_wp2_with (go_at_call 72; refine (spec_in _ _ _ _).mono ?_; rintro e y ⟨rfl, hy⟩; rw [hy]; clear hy y; rw [hk])
  clear q0 q1 q2 q3 q4 q5 q6 q7 q8
  refine (s_copy _ _ _ _ H _ _ M1.out (by have := K.out.r16; omega) (by have := K.out.c11; omega) (by have := K.out.i40; omega) (by have := K.out.o40; omega)).mono ?_
  rintro e w2 ⟨r2, c2, i2, o2, rfl, m2, A2', b2⟩
  obtain ⟨xa0, xk0, rfl, _⟩ := m2.r.shape
  obtain ⟨xa1, xk1, rfl, _⟩ := m2.c.shape
  obtain ⟨xa2, xk2, rfl, _⟩ := m2.i.shape
  obtain ⟨xa3, xk3, rfl, _⟩ := m2.o.shape
  have A2 : Hid (Ha (.slice xa0 H.regs.length xk0) (.slice xa1 H.csr.length xk1) (.slice xa2 H.inn.length xk2) (.slice xa3 H.out.length xk3)) := A2'
  have M2 : Hid (Hm w2 w1.heap.size (.slice xa0 H.regs.length xk0) (.slice xa1 H.csr.length xk1) (.slice xa2 H.inn.length xk2) (.slice xa3 H.out.length xk3) H) := m2
  have B2 : Hid (Below w.heap.size w w2) := on B1.out b2
  have VR2 : Hid (Vb w2 (s + 1) #[.int .i64 0, .int .i64 0, .int .i64 0, .slice none 0 0, .int .i64 0, .slice none 0 0, .bool false, .bool false, .bool false, .int .i64 0, .slice none 0 0, .slice none 0 0] 46) := VR1.out.keep b2
  have LQ : Hid (s + 1 < w1.heap.size) := VR1.out.lt
  have LB : Hid (w1.heap.size ≤ w2.heap.size) := b2.size
  clear m2 A2' b2
  go_wp2_with fail
  generalize hW3 : w2.alloc (.cells #[.slice xa0 H.regs.length xk0, .int .i64 H.pc, .slice xa1 H.csr.length xk1, .bool H.halted, .bool H.waiting, .bool H.rung, .int .i64 H.done, .slice xa2 H.inn.length xk2, .slice xa3 H.out.length xk3] 39) = W3
  obtain ⟨q, hq⟩ : ∃ q, w2.heap.size = q := ⟨_, rfl⟩
  have HQ : Hid (w2.heap.size = q) := hq
  rw [hq]
  have V3 : Hid (Vb W3 q #[.slice xa0 H.regs.length xk0, .int .i64 H.pc, .slice xa1 H.csr.length xk1, .bool H.halted, .bool H.waiting, .bool H.rung, .int .i64 H.done, .slice xa2 H.inn.length xk2, .slice xa3 H.out.length xk3] 39) := by show Vb _ _ _ _; rw [← hW3, ← hq]; exact Vb.new _ _ _
  have B3 : Hid (Below w.heap.size w W3) := by show Below _ _ _; rw [← hW3]; exact al B2.out _
  have VR3 : Hid (Vb W3 (s + 1) #[.int .i64 0, .int .i64 0, .int .i64 0, .slice none 0 0, .int .i64 0, .slice none 0 0, .bool false, .bool false, .bool false, .int .i64 0, .slice none 0 0, .slice none 0 0] 46) := by show Vb _ _ _ _; rw [← hW3]; exact VR2.out.push _
  have M3 : Hid (Hm W3 w1.heap.size (.slice xa0 H.regs.length xk0) (.slice xa1 H.csr.length xk1) (.slice xa2 H.inn.length xk2) (.slice xa3 H.out.length xk3) H) := by show Hm _ _ _ _ _ _ _; rw [← hW3]; exact M2.out.keep (al (Below.refl _ _) _)
  have NQ : Hid (∀ k, Own4 (.slice xa0 H.regs.length xk0) (.slice xa1 H.csr.length xk1) (.slice xa2 H.inn.length xk2) (.slice xa3 H.out.length xk3) k → k ≠ q) := fun k e f => by have := (M2.out.own k e).2; have := HQ.out; omega
  have LW : Hid (w1.heap.size ≤ W3.heap.size) := by show _ ≤ _; rw [← hW3]; have := LB.out; simp; omega
  clear hW3 hq
  refine (s_read _ _ _ _ _ H k _ _ M3.out V3.out NQ.out K.out.c11 HK.out.1 HK.out.2).mono ?_
  rintro e w4 ⟨rfl, i4, o4, s4⟩
  obtain ⟨G, hG⟩ : ∃ G, drH H k = G := ⟨_, rfl⟩
  rw [hG] at s4
  have HEG : Hid ((drR H k).h = G) := HE4.out.trans hG
  obtain ⟨g, hg⟩ : ∃ g, drV H k = g := ⟨_, rfl⟩
  rw [hg]
  have HEV : Hid ((drR H k).val = g) := HE2.out.trans hg
  obtain ⟨ia, ik, rfl, _⟩ := s4.m.i
  obtain ⟨oa, ok, rfl, _⟩ := s4.m.o
  have S4 : Hid (Sd W3 w4 w1.heap.size q (.slice xa0 H.regs.length xk0) (.slice xa1 H.csr.length xk1) (.slice xa3 H.out.length xk3) _ _ G) := s4
  have VR4 : Hid (Vb w4 (s + 1) #[.int .i64 0, .int .i64 0, .int .i64 0, .slice none 0 0, .int .i64 0, .slice none 0 0, .bool false, .bool false, .bool false, .int .i64 0, .slice none 0 0, .slice none 0 0] 46) := S4.out.g.vb VR3.out fun e => by
    have := LQ.out
    rcases e with e | e | e
    · have := VR2.out.lt; have := HQ.out; omega
    · have := (M2.out.own _ (.inr (.inl e))).1; omega
    · have := (M2.out.own _ (.inr (.inr (.inr e)))).1; omega
  have B4 : Hid (Below w.heap.size w w4) := Mq.under B3.out S4.out.g fun k e => by
    have := B1.out.size; have := B2.out.size
    rcases e with e | e | e
    · have := HQ.out; omega
    · have := (M2.out.own _ (.inr (.inl e))).1; omega
    · have := (M2.out.own _ (.inr (.inr (.inr e)))).1; omega
  clear s4 hG hg
  generalize H.regs.length = g0 at *
  generalize H.csr.length = g1 at *
  generalize G.inn.length = g2 at *
  generalize G.out.length = g3 at *
  have q0 := S4.out.v.cell 0 rfl
  have q1 := S4.out.v.cell 1 rfl
  have q2 := S4.out.v.cell 2 rfl
  have q3 := S4.out.v.cell 3 rfl
  have q4 := S4.out.v.cell 4 rfl
  have q5 := S4.out.v.cell 5 rfl
  have q6 := S4.out.v.cell 6 rfl
  have q7 := S4.out.v.cell 7 rfl
  have q8 := S4.out.v.cell 8 rfl
  have p0 := VR4.out.cell 0 rfl
  have f0 := VR4.out.free 0
  have p1 := VR4.out.cell 1 rfl
  have f1 := VR4.out.free 1
  have p2 := VR4.out.cell 2 rfl
  have f2 := VR4.out.free 2
  have p3 := VR4.out.cell 3 rfl
  have f3 := VR4.out.free 3
  have p4 := VR4.out.cell 4 rfl
  have f4 := VR4.out.free 4
  have p5 := VR4.out.cell 5 rfl
  have f5 := VR4.out.free 5
  have p6 := VR4.out.cell 6 rfl
  have f6 := VR4.out.free 6
  have p7 := VR4.out.cell 7 rfl
  have f7 := VR4.out.free 7
  have p8 := VR4.out.cell 8 rfl
  have f8 := VR4.out.free 8
  have p9 := VR4.out.cell 9 rfl
  have f9 := VR4.out.free 9
  have p10 := VR4.out.cell 10 rfl
  have f10 := VR4.out.free 10
  have p11 := VR4.out.cell 11 rfl
  have f11 := VR4.out.free 11
  go_wp2_with fail
  clear q0 q1 q2 q3 q4 q5 q6 q7 q8
  have NN : Hid (_ ∧ _) := twelve VR4.out (.int .i64 0) (.int .i64 g) (.int .i64 (-1)) (.slice xa0 g0 xk0) (.int .i64 G.pc) (.slice xa1 g1 xk1) (.bool G.halted) (.bool G.waiting) (.bool G.rung) (.int .i64 G.done) (.slice ia g2 ik) (.slice oa g3 ok)
  clear p0 f0 p1 f1 p2 f2 p3 f3 p4 f4 p5 f5 p6 f6 p7 f7 p8 f8 p9 f9 p10 f10 p11 f11
  generalize ((((((((((((w4.setCell ⟨s + 1, 0, none⟩ (.int .i64 0)).setCell ⟨s + 1, 1, none⟩ (.int .i64 g)).setCell ⟨s + 1, 2, none⟩ (.int .i64 (-1))).setCell ⟨s + 1, 3, none⟩ (.slice xa0 g0 xk0)).setCell ⟨s + 1, 4, none⟩ (.int .i64 G.pc)).setCell ⟨s + 1, 5, none⟩ (.slice xa1 g1 xk1)).setCell ⟨s + 1, 6, none⟩ (.bool G.halted)).setCell ⟨s + 1, 7, none⟩ (.bool G.waiting)).setCell ⟨s + 1, 8, none⟩ (.bool G.rung)).setCell ⟨s + 1, 9, none⟩ (.int .i64 G.done)).setCell ⟨s + 1, 10, none⟩ (.slice ia g2 ik)).setCell ⟨s + 1, 11, none⟩ (.slice oa g3 ok)) = V at *
  have x0 := NN.out.1.cell 0 rfl
  have x1 := NN.out.1.cell 1 rfl
  have x2 := NN.out.1.cell 2 rfl
  have x3 := NN.out.1.cell 3 rfl
  have x4 := NN.out.1.cell 4 rfl
  have x5 := NN.out.1.cell 5 rfl
  have x6 := NN.out.1.cell 6 rfl
  have x7 := NN.out.1.cell 7 rfl
  have x8 := NN.out.1.cell 8 rfl
  have x9 := NN.out.1.cell 9 rfl
  have x10 := NN.out.1.cell 10 rfl
  have x11 := NN.out.1.cell 11 rfl
  have BV : Below w.heap.size w V := Mq.under B4.out NN.out.2 fun k e => by have := HS.out; omega
  have MV := NN.out.2
  refine bodyPost_ret (v := .agg #[.int .i64 0, .int .i64 g, .int .i64 (-1), .slice xa0 g0 xk0, .int .i64 G.pc, .slice xa1 g1 xk1, .bool G.halted, .bool G.waiting, .bool G.rung, .int .i64 G.done, .slice ia g2 ik, .slice oa g3 ok]) (by simp [results, Try.results26, go_sem, x0, x1, x2, x3, x4, x5, x6, x7, x8, x9, x10, x11]) rfl ?_
  rw [HE1.out, HEV.out, HE3.out, HEG.out]
  exact ⟨_, _, _, _, rfl, S4.out.m.mq MV (fun k e _ f => by have := (S4.out.n k e).1; have := LQ.out; omega), (fun k e => by have := S4.out.n k e; have := B1.out.size; have := MV.size; omega), BV⟩
end Go.Proofs.Yteaccakodaidpaa
