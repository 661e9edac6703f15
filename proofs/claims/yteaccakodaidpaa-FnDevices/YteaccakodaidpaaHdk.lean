/- RingHart and FeedHart, of both. -/
import Derived.Test.YteaccakodaidpaaHdj
import Derived.Test.YteaccakodaidpaaHdm
import Derived.Deep.Cut
namespace Go.Proofs.Yteaccakodaidpaa
open Go.RowKit
set_option linter.unusedVariables false

set_option maxRecDepth 20000 in
set_option maxHeartbeats 8000000 in
theorem i_ringHart (r c i o : Value) (H : Ht) (b : Nat) (w : World) (h : Hm w b r c i o H) :
    Calls Try.prog 23 #[.agg #[r, .int .i64 H.pc, c, .bool H.halted, .bool H.waiting, .bool H.rung, .int .i64 H.done, i, o]] w fun e w' => ∃ r' c' i' o', e = .returned (.agg #[.int .i64 (ringR H).1, r', .int .i64 (ringR H).2.pc, c', .bool (ringR H).2.halted, .bool (ringR H).2.waiting, .bool (ringR H).2.rung, .int .i64 (ringR H).2.done, i', o']) ∧ Hm w' w.heap.size r' c' i' o' (ringR H).2 ∧ Ha r' c' i' o' ∧ Below w.heap.size w w' := by
  have HM : Hid (Hm w b r c i o H) := h
  obtain ⟨a0, k0, rfl, _⟩ := h.r.shape
  obtain ⟨a1, k1, rfl, _⟩ := h.c.shape
  obtain ⟨a2, k2, rfl, _⟩ := h.i.shape
  obtain ⟨a3, k3, rfl, _⟩ := h.o.shape
  clear h
  generalize hW : (w.alloc (.cells #[.slice a0 H.regs.length k0, .int .i64 H.pc, .slice a1 H.csr.length k1, .bool H.halted, .bool H.waiting, .bool H.rung, .int .i64 H.done, .slice a2 H.inn.length k2, .slice a3 H.out.length k3] 39)).alloc (.cells #[.int .i64 0, .slice none 0 0, .int .i64 0, .slice none 0 0, .bool false, .bool false, .bool false, .int .i64 0, .slice none 0 0, .slice none 0 0] 43) = W
  have B0 : Hid (Below w.heap.size w W) := by show Below _ _ _; rw [← hW]; exact al (al (Below.refl _ _) _) _
  obtain ⟨s, hS⟩ : ∃ s, w.heap.size = s := ⟨_, rfl⟩
  have HS : Hid (w.heap.size = s) := hS
  have VA : Hid (Vb W s #[.slice a0 H.regs.length k0, .int .i64 H.pc, .slice a1 H.csr.length k1, .bool H.halted, .bool H.waiting, .bool H.rung, .int .i64 H.done, .slice a2 H.inn.length k2, .slice a3 H.out.length k3] 39) := by
    show Vb _ _ _ _; rw [← hW, ← hS]; exact (Vb.new _ _ _).push _
  have VR : Hid (Vb W (s + 1) #[.int .i64 0, .slice none 0 0, .int .i64 0, .slice none 0 0, .bool false, .bool false, .bool false, .int .i64 0, .slice none 0 0, .slice none 0 0] 43) := by
    have z1 : s + 1 = (w.alloc (.cells #[.slice a0 H.regs.length k0, .int .i64 H.pc, .slice a1 H.csr.length k1, .bool H.halted, .bool H.waiting, .bool H.rung, .int .i64 H.done, .slice a2 H.inn.length k2, .slice a3 H.out.length k3] 39)).heap.size := by rw [← hS]; simp
    show Vb _ _ _ _; rw [← hW, z1]; exact Vb.new _ _ _
  have q0 := VA.out.cell 0 rfl
  have q1 := VA.out.cell 1 rfl
  have q2 := VA.out.cell 2 rfl
  have q3 := VA.out.cell 3 rfl
  have q4 := VA.out.cell 4 rfl
  have q5 := VA.out.cell 5 rfl
  have q6 := VA.out.cell 6 rfl
  have q7 := VA.out.cell 7 rfl
  have q8 := VA.out.cell 8 rfl
  go_enter Try.func23, Try.ntmps23
  go_wp2_with fail
  clear hW hS q0 q1 q2 q3 q4 q5 q6 q7 q8
  refine (i_fault _ _ _ _ H _ _ (HM.out.keep B0.out)).mono ?_
  rintro e w1 ⟨rfl, b1⟩
  have B1 : Hid (Below w.heap.size w w1) := on B0.out b1
  have VA1 : Hid (Vb w1 s #[.slice a0 H.regs.length k0, .int .i64 H.pc, .slice a1 H.csr.length k1, .bool H.halted, .bool H.waiting, .bool H.rung, .int .i64 H.done, .slice a2 H.inn.length k2, .slice a3 H.out.length k3] 39) := VA.out.keep b1
  have VR1 : Hid (Vb w1 (s + 1) #[.int .i64 0, .slice none 0 0, .int .i64 0, .slice none 0 0, .bool false, .bool false, .bool false, .int .i64 0, .slice none 0 0, .slice none 0 0] 43) := VR.out.keep b1
  have M1 : Hid (Hm w1 b _ _ _ _ H) := HM.out.keep B1.out
  clear b1 VA VR
  by_cases hf : hfV H = 0
  case neg =>
    have E0 : Hid ((ringR H).1 = hfV H) := by show _ = _; simp only [ringR, if_neg hf]
    have E1 : Hid ((ringR H).2 = voidH) := by show _ = _; simp only [ringR, if_neg hf]
    generalize hfV H = f at *
    have HE1 : Hid ((ringR H).1 = f) := by show _ = _; first | exact E0.out | exact E1.out
    have HE2 : Hid ((ringR H).2 = voidH) := by show _ = _; first | exact E0.out | exact E1.out
    have p0 := VR1.out.cell 0 rfl
    have f0 := VR1.out.free 0
    have p1 := VR1.out.cell 1 rfl
    have f1 := VR1.out.free 1
    have p2 := VR1.out.cell 2 rfl
    have f2 := VR1.out.free 2
    have p3 := VR1.out.cell 3 rfl
    have f3 := VR1.out.free 3
    have p4 := VR1.out.cell 4 rfl
    have f4 := VR1.out.free 4
    have p5 := VR1.out.cell 5 rfl
    have f5 := VR1.out.free 5
    have p6 := VR1.out.cell 6 rfl
    have f6 := VR1.out.free 6
    have p7 := VR1.out.cell 7 rfl
    have f7 := VR1.out.free 7
    have p8 := VR1.out.cell 8 rfl
    have f8 := VR1.out.free 8
    have p9 := VR1.out.cell 9 rfl
    have f9 := VR1.out.free 9
    go_wp2_with fail
    have NN : Hid (_ ∧ _) := ten VR1.out (.int .i64 f) (.slice none 0 0) (.int .i64 0) (.slice none 0 0) (.bool false) (.bool false) (.bool false) (.int .i64 0) (.slice none 0 0) (.slice none 0 0)
    clear p0 f0 p1 f1 p2 f2 p3 f3 p4 f4 p5 f5 p6 f6 p7 f7 p8 f8 p9 f9
    generalize ((((((((((w1.setCell ⟨s + 1, 0, none⟩ (.int .i64 f)).setCell ⟨s + 1, 1, none⟩ (.slice none 0 0)).setCell ⟨s + 1, 2, none⟩ (.int .i64 0)).setCell ⟨s + 1, 3, none⟩ (.slice none 0 0)).setCell ⟨s + 1, 4, none⟩ (.bool false)).setCell ⟨s + 1, 5, none⟩ (.bool false)).setCell ⟨s + 1, 6, none⟩ (.bool false)).setCell ⟨s + 1, 7, none⟩ (.int .i64 0)).setCell ⟨s + 1, 8, none⟩ (.slice none 0 0)).setCell ⟨s + 1, 9, none⟩ (.slice none 0 0)) = V at *
    have x0 := NN.out.1.cell 0 rfl
    have x1 := NN.out.1.cell 1 rfl
    have x2 := NN.out.1.cell 2 rfl
    have x3 := NN.out.1.cell 3 rfl
    have x4 := NN.out.1.cell 4 rfl
    have x5 := NN.out.1.cell 5 rfl
    have x6 := NN.out.1.cell 6 rfl
    have x7 := NN.out.1.cell 7 rfl
    have x8 := NN.out.1.cell 8 rfl
    have x9 := NN.out.1.cell 9 rfl
    have BV : Below w.heap.size w V := Mq.under B1.out NN.out.2 fun k e => by have := HS.out; omega
    have MV := NN.out.2
    refine bodyPost_ret (v := .agg #[.int .i64 f, .slice none 0 0, .int .i64 0, .slice none 0 0, .bool false, .bool false, .bool false, .int .i64 0, .slice none 0 0, .slice none 0 0]) (by simp [results, Try.results23, go_sem, x0, x1, x2, x3, x4, x5, x6, x7, x8, x9]) rfl ?_
    rw [HE1.out, HE2.out]
    exact ⟨_, _, _, _, rfl, void_hm _ _, void_ha, BV⟩
  have K : Hid (Hok H) := hok_of hf
  have HF : Hid (hfV H = 0) := hf
  rw [hf]
  have HE1 : Hid ((ringR H).1 = 0) := by show _ = _; simp [ringR, hf]
  have HE2 : Hid ((ringR H).2 = ringV H) := by show _ = _; simp [ringR, hf]
  have q0 := VA1.out.cell 0 rfl
  have q1 := VA1.out.cell 1 rfl
  have q2 := VA1.out.cell 2 rfl
  have q3 := VA1.out.cell 3 rfl
  have q4 := VA1.out.cell 4 rfl
  have q5 := VA1.out.cell 5 rfl
  have q6 := VA1.out.cell 6 rfl
  have q7 := VA1.out.cell 7 rfl
  have q8 := VA1.out.cell 8 rfl
  go_wp2_with fail
  clear q0 q1 q2 q3 q4 q5 q6 q7 q8
  refine (i_machine _ _ _ _ H _ _ M1.out K.out.r16 K.out.c11 (by have := K.out.i40; omega) (by have := K.out.o40; omega)).mono ?_
  rintro e w2 ⟨i2, o2, rfl, mi, mo, ap, b2⟩
  obtain ⟨xa, xk, rfl, _⟩ := mi.shape
  obtain ⟨ya', yk, rfl, _⟩ := mo.shape
  generalize hxn : H.inn.length = xn at *
  generalize hyn : H.out.length = yn' at *
  have hst := mca_store H xa xn xk ya' yn' yk w2
  have hsz := mca_size H (.slice xa xn xk) (.slice ya' yn' yk)
  have MI : Hid (Nums w2 w1.heap.size (.slice xa xn xk) H.inn) := mi
  have MO : Hid (Nums w2 w1.heap.size (.slice ya' yn' yk) H.out) := mo
  have AP : Hid (Apt (.slice xa xn xk) (.slice ya' yn' yk)) := ap
  have B2 : Hid (Below w.heap.size w w2) := on B1.out b2
  have VR2 : Hid (Vb w2 (s + 1) #[.int .i64 0, .slice none 0 0, .int .i64 0, .slice none 0 0, .bool false, .bool false, .bool false, .int .i64 0, .slice none 0 0, .slice none 0 0] 43) := VR1.out.keep b2
  have LB : Hid (w1.heap.size ≤ w2.heap.size ∧ s + 1 < w1.heap.size) := ⟨b2.size, VR1.out.lt⟩
  have XN : Hid (H.inn.length = xn) := hxn
  clear mi mo ap b2 hxn hyn
  have c30 : (w2.alloc (.cells (mca H (.slice xa xn xk) (.slice ya' yn' yk)) 103)).cell? ⟨w2.heap.size, 30, none⟩ = some (.bool H.rung) := (Vb.new w2 (mca H (.slice xa xn xk) (.slice ya' yn' yk)) 103).cell 30 rfl
  have f30 : (w2.alloc (.cells (mca H (.slice xa xn xk) (.slice ya' yn' yk)) 103)).frozen? ⟨w2.heap.size, 30, none⟩ = false := (Vb.new w2 (mca H (.slice xa xn xk) (.slice ya' yn' yk)) 103).free 30
  generalize hW3 : w2.alloc (.cells (mca H (.slice xa xn xk) (.slice ya' yn' yk)) 103) = W3 at hst c30 f30
  go_wp2_with fail
  obtain ⟨m, hm'⟩ : ∃ m, w2.heap.size = m := ⟨_, rfl⟩
  have HMm : Hid (w2.heap.size = m) := hm'
  rw [hm']
  have V3 : Hid (Vb W3 m (mca H (.slice xa xn xk) (.slice ya' yn' yk)) 103) := by show Vb _ _ _ _; rw [← hW3, ← hm']; exact Vb.new _ _ _
  have B3 : Hid (Below w.heap.size w W3) := by show Below _ _ _; rw [← hW3]; exact al B2.out _
  have VR3 : Hid (Vb W3 (s + 1) #[.int .i64 0, .slice none 0 0, .int .i64 0, .slice none 0 0, .bool false, .bool false, .bool false, .int .i64 0, .slice none 0 0, .slice none 0 0] 43) := by show Vb _ _ _ _; rw [← hW3]; exact VR2.out.push _
  have MI3 : Hid (Nums W3 w1.heap.size (.slice xa xn xk) H.inn) := by show Nums _ _ _ _; rw [← hW3]; exact MI.out.keep (al (Below.refl _ _) _)
  have MO3 : Hid (Nums W3 w1.heap.size (.slice ya' yn' yk) H.out) := by show Nums _ _ _ _; rw [← hW3]; exact MO.out.keep (al (Below.refl _ _) _)
  have LW : Hid (w1.heap.size ≤ W3.heap.size) := by show _ ≤ _; rw [← hW3]; have := LB.out.1; simp; omega
  clear hst hsz hW3 hm' c30 f30
  have S4' : Hid (Si W3 (W3.setCell ⟨m, 30, none⟩ (.bool true)) m (.slice xa xn xk) (.slice ya' yn' yk) (.slice xa xn xk) (.slice ya' yn' yk) (ringV H)) :=
    ⟨V3.out.set 30 _, (MI3.out.put _ _ (MI3.out.ne_vb V3.out (by decide))).rv, (MO3.out.put _ _ (MO3.out.ne_vb V3.out (by decide))).rv, (Mq.refl _ _).set ⟨m, 30, none⟩ _ (.inl rfl)⟩
  generalize W3.setCell ⟨m, 30, none⟩ (.bool true) = w4 at *
  have s4 := S4'.out
  obtain ⟨G, hG⟩ : ∃ G, ringV H = G := ⟨_, rfl⟩
  rw [hG] at s4
  have HG : Hid (ringV H = G) := hG
  have HEG : Hid ((ringR H).2 = G) := HE2.out.trans hG
  clear S4'
  have S4 : Hid (Si W3 w4 m (.slice xa xn xk) (.slice ya' yn' yk) _ _ G) := s4
  have VR4 : Hid (Vb w4 (s + 1) #[.int .i64 0, .slice none 0 0, .int .i64 0, .slice none 0 0, .bool false, .bool false, .bool false, .int .i64 0, .slice none 0 0, .slice none 0 0] 43) := S4.out.g.vb VR3.out fun e => by
    have := LB.out.2; have := LB.out.1; have := HMm.out
    rcases e with e | e | e
    · omega
    · have := (MI.out.lt _ e).1; omega
    · have := (MO.out.lt _ e).1; omega
  have B4 : Hid (Below w.heap.size w w4) := Mq.under B3.out S4.out.g fun k e => by
    have := B1.out.size; have := LB.out.1; have := HMm.out
    rcases e with e | e | e
    · omega
    · have := (MI.out.lt _ e).1; omega
    · have := (MO.out.lt _ e).1; omega
  have LG : Hid (G.regs.length = 16 ∧ G.csr.length = 11 ∧ G.inn.length ≤ 1000 ∧ G.out.length ≤ 1000) := by
    rw [← HG.out]
    exact ringV_lens K.out
  clear s4 hG
  go_wp2_with fail
  refine (i_hartr m _ _ G _ S4.out.v S4.out.ri S4.out.ro LG.out.1 LG.out.2.1 LG.out.2.2.1 LG.out.2.2.2).mono ?_
  rintro e w5 ⟨r5, c5, i5, o5, rfl, m5, A5, b5⟩
  obtain ⟨ja0, jk0, rfl, _⟩ := m5.r.shape
  obtain ⟨ja1, jk1, rfl, _⟩ := m5.c.shape
  obtain ⟨ja2, jk2, rfl, _⟩ := m5.i.shape
  obtain ⟨ja3, jk3, rfl, _⟩ := m5.o.shape
  generalize G.regs.length = g0 at *
  generalize G.csr.length = g1 at *
  generalize G.inn.length = g2 at *
  generalize G.out.length = g3 at *
  have M5 : Hid (Hm w5 w4.heap.size (.slice ja0 g0 jk0) (.slice ja1 g1 jk1) (.slice ja2 g2 jk2) (.slice ja3 g3 jk3) G) := m5
  have HA5 : Hid (Ha (.slice ja0 g0 jk0) (.slice ja1 g1 jk1) (.slice ja2 g2 jk2) (.slice ja3 g3 jk3)) := A5
  have B5 : Hid (Below w.heap.size w w5) := on B4.out b5
  have VR5 : Hid (Vb w5 (s + 1) #[.int .i64 0, .slice none 0 0, .int .i64 0, .slice none 0 0, .bool false, .bool false, .bool false, .int .i64 0, .slice none 0 0, .slice none 0 0] 43) := VR4.out.keep b5
  have LQ : Hid (s + 1 < w4.heap.size) := VR4.out.lt
  clear m5 A5 b5
  have p0 := VR5.out.cell 0 rfl
  have f0 := VR5.out.free 0
  have p1 := VR5.out.cell 1 rfl
  have f1 := VR5.out.free 1
  have p2 := VR5.out.cell 2 rfl
  have f2 := VR5.out.free 2
  have p3 := VR5.out.cell 3 rfl
  have f3 := VR5.out.free 3
  have p4 := VR5.out.cell 4 rfl
  have f4 := VR5.out.free 4
  have p5 := VR5.out.cell 5 rfl
  have f5 := VR5.out.free 5
  have p6 := VR5.out.cell 6 rfl
  have f6 := VR5.out.free 6
  have p7 := VR5.out.cell 7 rfl
  have f7 := VR5.out.free 7
  have p8 := VR5.out.cell 8 rfl
  have f8 := VR5.out.free 8
  have p9 := VR5.out.cell 9 rfl
  have f9 := VR5.out.free 9
  go_wp2_with fail
  have NN : Hid (_ ∧ _) := ten VR5.out (.int .i64 0) (.slice ja0 g0 jk0) (.int .i64 G.pc) (.slice ja1 g1 jk1) (.bool G.halted) (.bool G.waiting) (.bool G.rung) (.int .i64 G.done) (.slice ja2 g2 jk2) (.slice ja3 g3 jk3)
  clear p0 f0 p1 f1 p2 f2 p3 f3 p4 f4 p5 f5 p6 f6 p7 f7 p8 f8 p9 f9
  generalize ((((((((((w5.setCell ⟨s + 1, 0, none⟩ (.int .i64 0)).setCell ⟨s + 1, 1, none⟩ (.slice ja0 g0 jk0)).setCell ⟨s + 1, 2, none⟩ (.int .i64 G.pc)).setCell ⟨s + 1, 3, none⟩ (.slice ja1 g1 jk1)).setCell ⟨s + 1, 4, none⟩ (.bool G.halted)).setCell ⟨s + 1, 5, none⟩ (.bool G.waiting)).setCell ⟨s + 1, 6, none⟩ (.bool G.rung)).setCell ⟨s + 1, 7, none⟩ (.int .i64 G.done)).setCell ⟨s + 1, 8, none⟩ (.slice ja2 g2 jk2)).setCell ⟨s + 1, 9, none⟩ (.slice ja3 g3 jk3)) = V at *
  have x0 := NN.out.1.cell 0 rfl
  have x1 := NN.out.1.cell 1 rfl
  have x2 := NN.out.1.cell 2 rfl
  have x3 := NN.out.1.cell 3 rfl
  have x4 := NN.out.1.cell 4 rfl
  have x5 := NN.out.1.cell 5 rfl
  have x6 := NN.out.1.cell 6 rfl
  have x7 := NN.out.1.cell 7 rfl
  have x8 := NN.out.1.cell 8 rfl
  have x9 := NN.out.1.cell 9 rfl
  have BV : Below w.heap.size w V := Mq.under B5.out NN.out.2 fun k e => by have := HS.out; omega
  have MV := NN.out.2
  refine bodyPost_ret (v := .agg #[.int .i64 0, .slice ja0 g0 jk0, .int .i64 G.pc, .slice ja1 g1 jk1, .bool G.halted, .bool G.waiting, .bool G.rung, .int .i64 G.done, .slice ja2 g2 jk2, .slice ja3 g3 jk3]) (by simp [results, Try.results23, go_sem, x0, x1, x2, x3, x4, x5, x6, x7, x8, x9]) rfl ?_
  rw [HE1.out, HEG.out]
  exact ⟨_, _, _, _, rfl, ((MV.hm M5.out fun k e f => by have := (M5.out.own k e).1; have := LQ.out; omega).mono B4.out.size), HA5.out, BV⟩

set_option maxRecDepth 20000 in
set_option maxHeartbeats 8000000 in
theorem s_ringHart (r c i o : Value) (H : Ht) (b : Nat) (w : World) (h : Hm w b r c i o H) :
    Calls Try.prog 40 #[.agg #[r, .int .i64 H.pc, c, .bool H.halted, .bool H.waiting, .bool H.rung, .int .i64 H.done, i, o]] w fun e w' => ∃ r' c' i' o', e = .returned (.agg #[.int .i64 (ringR H).1, r', .int .i64 (ringR H).2.pc, c', .bool (ringR H).2.halted, .bool (ringR H).2.waiting, .bool (ringR H).2.rung, .int .i64 (ringR H).2.done, i', o']) ∧ Hm w' w.heap.size r' c' i' o' (ringR H).2 ∧ Below w.heap.size w w' := by
  have HM : Hid (Hm w b r c i o H) := h
  obtain ⟨a0, k0, rfl, _⟩ := h.r.shape
  obtain ⟨a1, k1, rfl, _⟩ := h.c.shape
  obtain ⟨a2, k2, rfl, _⟩ := h.i.shape
  obtain ⟨a3, k3, rfl, _⟩ := h.o.shape
  clear h
  generalize hW : (w.alloc (.cells #[.slice a0 H.regs.length k0, .int .i64 H.pc, .slice a1 H.csr.length k1, .bool H.halted, .bool H.waiting, .bool H.rung, .int .i64 H.done, .slice a2 H.inn.length k2, .slice a3 H.out.length k3] 39)).alloc (.cells #[.int .i64 0, .slice none 0 0, .int .i64 0, .slice none 0 0, .bool false, .bool false, .bool false, .int .i64 0, .slice none 0 0, .slice none 0 0] 43) = W
  have B0 : Hid (Below w.heap.size w W) := by show Below _ _ _; rw [← hW]; exact al (al (Below.refl _ _) _) _
  obtain ⟨s, hS⟩ : ∃ s, w.heap.size = s := ⟨_, rfl⟩
  have HS : Hid (w.heap.size = s) := hS
  have VA : Hid (Vb W s #[.slice a0 H.regs.length k0, .int .i64 H.pc, .slice a1 H.csr.length k1, .bool H.halted, .bool H.waiting, .bool H.rung, .int .i64 H.done, .slice a2 H.inn.length k2, .slice a3 H.out.length k3] 39) := by
    show Vb _ _ _ _; rw [← hW, ← hS]; exact (Vb.new _ _ _).push _
  have VR : Hid (Vb W (s + 1) #[.int .i64 0, .slice none 0 0, .int .i64 0, .slice none 0 0, .bool false, .bool false, .bool false, .int .i64 0, .slice none 0 0, .slice none 0 0] 43) := by
    have z1 : s + 1 = (w.alloc (.cells #[.slice a0 H.regs.length k0, .int .i64 H.pc, .slice a1 H.csr.length k1, .bool H.halted, .bool H.waiting, .bool H.rung, .int .i64 H.done, .slice a2 H.inn.length k2, .slice a3 H.out.length k3] 39)).heap.size := by rw [← hS]; simp
    show Vb _ _ _ _; rw [← hW, z1]; exact Vb.new _ _ _
  have q0 := VA.out.cell 0 rfl
  have q1 := VA.out.cell 1 rfl
  have q2 := VA.out.cell 2 rfl
  have q3 := VA.out.cell 3 rfl
  have q4 := VA.out.cell 4 rfl
  have q5 := VA.out.cell 5 rfl
  have q6 := VA.out.cell 6 rfl
  have q7 := VA.out.cell 7 rfl
  have q8 := VA.out.cell 8 rfl
  go_enter Try.func40, Try.ntmps40
  go_wp2_with fail
  clear hW hS q0 q1 q2 q3 q4 q5 q6 q7 q8
  refine (s_fault _ _ _ _ _ H _ _ (HM.out.keep B0.out) VA.out).mono ?_
  rintro e w1 ⟨rfl, hw1⟩
  have b1 : Below W.heap.size W w1 := by rw [hw1]; exact Below.refl _ _
  clear hw1
  have B1 : Hid (Below w.heap.size w w1) := on B0.out b1
  have VA1 : Hid (Vb w1 s #[.slice a0 H.regs.length k0, .int .i64 H.pc, .slice a1 H.csr.length k1, .bool H.halted, .bool H.waiting, .bool H.rung, .int .i64 H.done, .slice a2 H.inn.length k2, .slice a3 H.out.length k3] 39) := VA.out.keep b1
  have VR1 : Hid (Vb w1 (s + 1) #[.int .i64 0, .slice none 0 0, .int .i64 0, .slice none 0 0, .bool false, .bool false, .bool false, .int .i64 0, .slice none 0 0, .slice none 0 0] 43) := VR.out.keep b1
  have M1 : Hid (Hm w1 b _ _ _ _ H) := HM.out.keep B1.out
  clear b1 VA VR
  by_cases hf : hfV H = 0
  case neg =>
    have E0 : Hid ((ringR H).1 = hfV H) := by show _ = _; simp only [ringR, if_neg hf]
    have E1 : Hid ((ringR H).2 = voidH) := by show _ = _; simp only [ringR, if_neg hf]
    generalize hfV H = f at *
    have HE1 : Hid ((ringR H).1 = f) := by show _ = _; first | exact E0.out | exact E1.out
    have HE2 : Hid ((ringR H).2 = voidH) := by show _ = _; first | exact E0.out | exact E1.out
    have p0 := VR1.out.cell 0 rfl
    have f0 := VR1.out.free 0
    have p1 := VR1.out.cell 1 rfl
    have f1 := VR1.out.free 1
    have p2 := VR1.out.cell 2 rfl
    have f2 := VR1.out.free 2
    have p3 := VR1.out.cell 3 rfl
    have f3 := VR1.out.free 3
    have p4 := VR1.out.cell 4 rfl
    have f4 := VR1.out.free 4
    have p5 := VR1.out.cell 5 rfl
    have f5 := VR1.out.free 5
    have p6 := VR1.out.cell 6 rfl
    have f6 := VR1.out.free 6
    have p7 := VR1.out.cell 7 rfl
    have f7 := VR1.out.free 7
    have p8 := VR1.out.cell 8 rfl
    have f8 := VR1.out.free 8
    have p9 := VR1.out.cell 9 rfl
    have f9 := VR1.out.free 9
    go_wp2_with fail
    have NN : Hid (_ ∧ _) := ten VR1.out (.int .i64 f) (.slice none 0 0) (.int .i64 0) (.slice none 0 0) (.bool false) (.bool false) (.bool false) (.int .i64 0) (.slice none 0 0) (.slice none 0 0)
    clear p0 f0 p1 f1 p2 f2 p3 f3 p4 f4 p5 f5 p6 f6 p7 f7 p8 f8 p9 f9
    generalize ((((((((((w1.setCell ⟨s + 1, 0, none⟩ (.int .i64 f)).setCell ⟨s + 1, 1, none⟩ (.slice none 0 0)).setCell ⟨s + 1, 2, none⟩ (.int .i64 0)).setCell ⟨s + 1, 3, none⟩ (.slice none 0 0)).setCell ⟨s + 1, 4, none⟩ (.bool false)).setCell ⟨s + 1, 5, none⟩ (.bool false)).setCell ⟨s + 1, 6, none⟩ (.bool false)).setCell ⟨s + 1, 7, none⟩ (.int .i64 0)).setCell ⟨s + 1, 8, none⟩ (.slice none 0 0)).setCell ⟨s + 1, 9, none⟩ (.slice none 0 0)) = V at *
    have x0 := NN.out.1.cell 0 rfl
    have x1 := NN.out.1.cell 1 rfl
    have x2 := NN.out.1.cell 2 rfl
    have x3 := NN.out.1.cell 3 rfl
    have x4 := NN.out.1.cell 4 rfl
    have x5 := NN.out.1.cell 5 rfl
    have x6 := NN.out.1.cell 6 rfl
    have x7 := NN.out.1.cell 7 rfl
    have x8 := NN.out.1.cell 8 rfl
    have x9 := NN.out.1.cell 9 rfl
    have BV : Below w.heap.size w V := Mq.under B1.out NN.out.2 fun k e => by have := HS.out; omega
    have MV := NN.out.2
    refine bodyPost_ret (v := .agg #[.int .i64 f, .slice none 0 0, .int .i64 0, .slice none 0 0, .bool false, .bool false, .bool false, .int .i64 0, .slice none 0 0, .slice none 0 0]) (by simp [results, Try.results40, go_sem, x0, x1, x2, x3, x4, x5, x6, x7, x8, x9]) rfl ?_
    rw [HE1.out, HE2.out]
    exact ⟨_, _, _, _, rfl, void_hm _ _, BV⟩
  have K : Hid (Hok H) := hok_of hf
  have HF : Hid (hfV H = 0) := hf
  rw [hf]
  have HE1 : Hid ((ringR H).1 = 0) := by show _ = _; simp [ringR, hf]
  have HE2 : Hid ((ringR H).2 = ringV H) := by show _ = _; simp [ringR, hf]
  have q0 := VA1.out.cell 0 rfl
  have q1 := VA1.out.cell 1 rfl
  have q2 := VA1.out.cell 2 rfl
  have q3 := VA1.out.cell 3 rfl
  have q4 := VA1.out.cell 4 rfl
  have q5 := VA1.out.cell 5 rfl
  have q6 := VA1.out.cell 6 rfl
  have q7 := VA1.out.cell 7 rfl
  have q8 := VA1.out.cell 8 rfl
  go_wp2_with fail
  clear q0 q1 q2 q3 q4 q5 q6 q7 q8
  refine (s_copy _ _ _ _ H _ _ M1.out (by have := K.out.r16; omega) (by have := K.out.c11; omega) (by have := K.out.i40; omega) (by have := K.out.o40; omega)).mono ?_
  rintro e w2 ⟨r2, c2, i2, o2, rfl, m2, A2', b2⟩
  obtain ⟨xa0, xk0, rfl, _⟩ := m2.r.shape
  obtain ⟨xa1, xk1, rfl, _⟩ := m2.c.shape
  obtain ⟨xa2, xk2, rfl, _⟩ := m2.i.shape
  obtain ⟨xa3, xk3, rfl, _⟩ := m2.o.shape
  have A2 : Hid (Ha (.slice xa0 H.regs.length xk0) (.slice xa1 H.csr.length xk1) (.slice xa2 H.inn.length xk2) (.slice xa3 H.out.length xk3)) := A2'
  have M2 : Hid (Hm w2 w1.heap.size (.slice xa0 H.regs.length xk0) (.slice xa1 H.csr.length xk1) (.slice xa2 H.inn.length xk2) (.slice xa3 H.out.length xk3) H) := m2
  have B2 : Hid (Below w.heap.size w w2) := on B1.out b2
  have VR2 : Hid (Vb w2 (s + 1) #[.int .i64 0, .slice none 0 0, .int .i64 0, .slice none 0 0, .bool false, .bool false, .bool false, .int .i64 0, .slice none 0 0, .slice none 0 0] 43) := VR1.out.keep b2
  have LQ : Hid (s + 1 < w1.heap.size) := VR1.out.lt
  have LB : Hid (w1.heap.size ≤ w2.heap.size) := b2.size
  clear m2 A2' b2
  have c5 : (w2.alloc (.cells #[.slice xa0 H.regs.length xk0, .int .i64 H.pc, .slice xa1 H.csr.length xk1, .bool H.halted, .bool H.waiting, .bool H.rung, .int .i64 H.done, .slice xa2 H.inn.length xk2, .slice xa3 H.out.length xk3] 39)).cell? ⟨w2.heap.size, 5, none⟩ = some (.bool H.rung) := (Vb.new w2 #[.slice xa0 H.regs.length xk0, .int .i64 H.pc, .slice xa1 H.csr.length xk1, .bool H.halted, .bool H.waiting, .bool H.rung, .int .i64 H.done, .slice xa2 H.inn.length xk2, .slice xa3 H.out.length xk3] 39).cell 5 rfl
  have f5 : (w2.alloc (.cells #[.slice xa0 H.regs.length xk0, .int .i64 H.pc, .slice xa1 H.csr.length xk1, .bool H.halted, .bool H.waiting, .bool H.rung, .int .i64 H.done, .slice xa2 H.inn.length xk2, .slice xa3 H.out.length xk3] 39)).frozen? ⟨w2.heap.size, 5, none⟩ = false := (Vb.new w2 #[.slice xa0 H.regs.length xk0, .int .i64 H.pc, .slice xa1 H.csr.length xk1, .bool H.halted, .bool H.waiting, .bool H.rung, .int .i64 H.done, .slice xa2 H.inn.length xk2, .slice xa3 H.out.length xk3] 39).free 5
  go_upto_region 5 with fail
  generalize hW3 : (w2.alloc (.cells #[.slice xa0 H.regs.length xk0, .int .i64 H.pc, .slice xa1 H.csr.length xk1, .bool H.halted, .bool H.waiting, .bool H.rung, .int .i64 H.done, .slice xa2 H.inn.length xk2, .slice xa3 H.out.length xk3] 39)) = W3 at *
  obtain ⟨q, hq⟩ : ∃ q, w2.heap.size = q := ⟨_, rfl⟩
  have HQ : Hid (w2.heap.size = q) := hq
  rw [hq]
  have V3 : Hid (Vb W3 q #[.slice xa0 H.regs.length xk0, .int .i64 H.pc, .slice xa1 H.csr.length xk1, .bool H.halted, .bool H.waiting, .bool H.rung, .int .i64 H.done, .slice xa2 H.inn.length xk2, .slice xa3 H.out.length xk3] 39) := by show Vb _ _ _ _; rw [← hW3, ← hq]; exact Vb.new _ _ _
  have B3 : Hid (Below w.heap.size w W3) := by show Below _ _ _; rw [← hW3]; exact al B2.out _
  have VR3 : Hid (Vb W3 (s + 1) #[.int .i64 0, .slice none 0 0, .int .i64 0, .slice none 0 0, .bool false, .bool false, .bool false, .int .i64 0, .slice none 0 0, .slice none 0 0] 43) := by show Vb _ _ _ _; rw [← hW3]; exact VR2.out.push _
  have M3 : Hid (Hm W3 w1.heap.size (.slice xa0 H.regs.length xk0) (.slice xa1 H.csr.length xk1) (.slice xa2 H.inn.length xk2) (.slice xa3 H.out.length xk3) H) := by show Hm _ _ _ _ _ _ _; rw [← hW3]; exact M2.out.keep (al (Below.refl _ _) _)
  have NQ : Hid (∀ k, Own4 (.slice xa0 H.regs.length xk0) (.slice xa1 H.csr.length xk1) (.slice xa2 H.inn.length xk2) (.slice xa3 H.out.length xk3) k → k ≠ q) := fun k e f => by have := (M2.out.own k e).2; have := HQ.out; omega
  have LW : Hid (w1.heap.size ≤ W3.heap.size) := by show _ ≤ _; rw [← hW3]; have := LB.out; simp; omega
  rw [hq] at c5 f5
  clear hW3 hq
  have M4 : Hid (Hm (W3.setCell ⟨q, 5, none⟩ (.bool true)) w1.heap.size (.slice xa0 H.regs.length xk0) (.slice xa1 H.csr.length xk1) (.slice xa2 H.inn.length xk2) (.slice xa3 H.out.length xk3) (ringV H)) := ⟨M3.out.r.put _ _ (fun e => NQ.out _ (.inl e) rfl), M3.out.c.put _ _ (fun e => NQ.out _ (.inr (.inl e)) rfl), M3.out.i.put _ _ (fun e => NQ.out _ (.inr (.inr (.inl e))) rfl), M3.out.o.put _ _ (fun e => NQ.out _ (.inr (.inr (.inr e))) rfl)⟩
  have V4 : Hid (Vb (W3.setCell ⟨q, 5, none⟩ (.bool true)) q #[.slice xa0 H.regs.length xk0, .int .i64 (ringV H).pc, .slice xa1 H.csr.length xk1, .bool (ringV H).halted, .bool (ringV H).waiting, .bool (ringV H).rung, .int .i64 (ringV H).done, .slice xa2 H.inn.length xk2, .slice xa3 H.out.length xk3] 39) := V3.out.set 5 _
  have G4 : Hid (Mq (fun j => j = q) W3 (W3.setCell ⟨q, 5, none⟩ (.bool true))) := (Mq.refl _ _).set ⟨q, 5, none⟩ _ rfl
  go_upto_region 6 with fail
  generalize W3.setCell ⟨q, 5, none⟩ (.bool true) = w4 at *
  obtain ⟨G, hG⟩ : ∃ G, ringV H = G := ⟨_, rfl⟩
  rw [hG] at M4 V4
  have HEG : Hid ((ringR H).2 = G) := HE2.out.trans hG
  have VR4 : Hid (Vb w4 (s + 1) #[.int .i64 0, .slice none 0 0, .int .i64 0, .slice none 0 0, .bool false, .bool false, .bool false, .int .i64 0, .slice none 0 0, .slice none 0 0] 43) := G4.out.vb VR3.out fun e => by have := VR2.out.lt; have := HQ.out; omega
  have B4 : Hid (Below w.heap.size w w4) := Mq.under B3.out G4.out fun k e => by have := B2.out.size; have := HQ.out; omega
  clear hG c5 f5
  generalize H.regs.length = g0 at *
  generalize H.csr.length = g1 at *
  generalize H.inn.length = g2 at *
  generalize H.out.length = g3 at *
  have q0 := V4.out.cell 0 rfl
  have q1 := V4.out.cell 1 rfl
  have q2 := V4.out.cell 2 rfl
  have q3 := V4.out.cell 3 rfl
  have q4 := V4.out.cell 4 rfl
  have q5 := V4.out.cell 5 rfl
  have q6 := V4.out.cell 6 rfl
  have q7 := V4.out.cell 7 rfl
  have q8 := V4.out.cell 8 rfl
  have p0 := VR4.out.cell 0 rfl
  have f0 := VR4.out.free 0
  have p1 := VR4.out.cell 1 rfl
  have f1 := VR4.out.free 1
  have p2 := VR4.out.cell 2 rfl
  have f2 := VR4.out.free 2
  have p3 := VR4.out.cell 3 rfl
  have f3 := VR4.out.free 3
  have p4 := VR4.out.cell 4 rfl
  have f4 := VR4.out.free 4
  have p5 := VR4.out.cell 5 rfl
  have f5 := VR4.out.free 5
  have p6 := VR4.out.cell 6 rfl
  have f6 := VR4.out.free 6
  have p7 := VR4.out.cell 7 rfl
  have f7 := VR4.out.free 7
  have p8 := VR4.out.cell 8 rfl
  have f8 := VR4.out.free 8
  have p9 := VR4.out.cell 9 rfl
  have f9 := VR4.out.free 9
  go_wp2_with fail
  clear q0 q1 q2 q3 q4 q5 q6 q7 q8
  have NN : Hid (_ ∧ _) := ten VR4.out (.int .i64 0) (.slice xa0 g0 xk0) (.int .i64 G.pc) (.slice xa1 g1 xk1) (.bool G.halted) (.bool G.waiting) (.bool G.rung) (.int .i64 G.done) (.slice xa2 g2 xk2) (.slice xa3 g3 xk3)
  clear p0 f0 p1 f1 p2 f2 p3 f3 p4 f4 p5 f5 p6 f6 p7 f7 p8 f8 p9 f9
  generalize ((((((((((w4.setCell ⟨s + 1, 0, none⟩ (.int .i64 0)).setCell ⟨s + 1, 1, none⟩ (.slice xa0 g0 xk0)).setCell ⟨s + 1, 2, none⟩ (.int .i64 G.pc)).setCell ⟨s + 1, 3, none⟩ (.slice xa1 g1 xk1)).setCell ⟨s + 1, 4, none⟩ (.bool G.halted)).setCell ⟨s + 1, 5, none⟩ (.bool G.waiting)).setCell ⟨s + 1, 6, none⟩ (.bool G.rung)).setCell ⟨s + 1, 7, none⟩ (.int .i64 G.done)).setCell ⟨s + 1, 8, none⟩ (.slice xa2 g2 xk2)).setCell ⟨s + 1, 9, none⟩ (.slice xa3 g3 xk3)) = V at *
  have x0 := NN.out.1.cell 0 rfl
  have x1 := NN.out.1.cell 1 rfl
  have x2 := NN.out.1.cell 2 rfl
  have x3 := NN.out.1.cell 3 rfl
  have x4 := NN.out.1.cell 4 rfl
  have x5 := NN.out.1.cell 5 rfl
  have x6 := NN.out.1.cell 6 rfl
  have x7 := NN.out.1.cell 7 rfl
  have x8 := NN.out.1.cell 8 rfl
  have x9 := NN.out.1.cell 9 rfl
  have BV : Below w.heap.size w V := Mq.under B4.out NN.out.2 fun k e => by have := HS.out; omega
  have MV := NN.out.2
  refine bodyPost_ret (v := .agg #[.int .i64 0, .slice xa0 g0 xk0, .int .i64 G.pc, .slice xa1 g1 xk1, .bool G.halted, .bool G.waiting, .bool G.rung, .int .i64 G.done, .slice xa2 g2 xk2, .slice xa3 g3 xk3]) (by simp [results, Try.results40, go_sem, x0, x1, x2, x3, x4, x5, x6, x7, x8, x9]) rfl ?_
  rw [HE1.out, HEG.out]
  exact ⟨_, _, _, _, rfl, ((MV.hm M4.out fun k e f => by have := (M4.out.own k e).1; have := LQ.out; omega).mono B1.out.size), BV⟩

set_option maxRecDepth 20000 in
set_option maxHeartbeats 8000000 in
theorem i_feedHart (r c i o : Value) (H : Ht) (ya : Option Addr) (yn yc : Nat) (ys : List Int) (b : Nat) (w : World) (h : Hm w b r c i o H) (hy : Rn w ya yn yc ys) (hyn : yn ≤ 1048576) :
    Calls Try.prog 17 #[.agg #[r, .int .i64 H.pc, c, .bool H.halted, .bool H.waiting, .bool H.rung, .int .i64 H.done, i, o], .slice ya yn yc] w fun e w' => ∃ r' c' i' o', e = .returned (.agg #[.int .i64 (feedR H ys).1, r', .int .i64 (feedR H ys).2.pc, c', .bool (feedR H ys).2.halted, .bool (feedR H ys).2.waiting, .bool (feedR H ys).2.rung, .int .i64 (feedR H ys).2.done, i', o']) ∧ Hm w' w.heap.size r' c' i' o' (feedR H ys).2 ∧ Ha r' c' i' o' ∧ Below w.heap.size w w' := by
  have HM : Hid (Hm w b r c i o H) := h
  obtain ⟨a0, k0, rfl, _⟩ := h.r.shape
  obtain ⟨a1, k1, rfl, _⟩ := h.c.shape
  obtain ⟨a2, k2, rfl, _⟩ := h.i.shape
  obtain ⟨a3, k3, rfl, _⟩ := h.o.shape
  clear h
  have HY : Hid (Rn w ya yn yc ys) := hy
  have HYN : Hid (yn ≤ 1048576) := hyn
  have HYL : Hid (yn = ys.length) := hy.len
  clear hy hyn
  generalize hW : (w.alloc (.cells #[.slice a0 H.regs.length k0, .int .i64 H.pc, .slice a1 H.csr.length k1, .bool H.halted, .bool H.waiting, .bool H.rung, .int .i64 H.done, .slice a2 H.inn.length k2, .slice a3 H.out.length k3] 39)).alloc (.cells #[.int .i64 0, .slice none 0 0, .int .i64 0, .slice none 0 0, .bool false, .bool false, .bool false, .int .i64 0, .slice none 0 0, .slice none 0 0] 43) = W
  have B0 : Hid (Below w.heap.size w W) := by show Below _ _ _; rw [← hW]; exact al (al (Below.refl _ _) _) _
  obtain ⟨s, hS⟩ : ∃ s, w.heap.size = s := ⟨_, rfl⟩
  have HS : Hid (w.heap.size = s) := hS
  have VA : Hid (Vb W s #[.slice a0 H.regs.length k0, .int .i64 H.pc, .slice a1 H.csr.length k1, .bool H.halted, .bool H.waiting, .bool H.rung, .int .i64 H.done, .slice a2 H.inn.length k2, .slice a3 H.out.length k3] 39) := by
    show Vb _ _ _ _; rw [← hW, ← hS]; exact (Vb.new _ _ _).push _
  have VR : Hid (Vb W (s + 1) #[.int .i64 0, .slice none 0 0, .int .i64 0, .slice none 0 0, .bool false, .bool false, .bool false, .int .i64 0, .slice none 0 0, .slice none 0 0] 43) := by
    have z1 : s + 1 = (w.alloc (.cells #[.slice a0 H.regs.length k0, .int .i64 H.pc, .slice a1 H.csr.length k1, .bool H.halted, .bool H.waiting, .bool H.rung, .int .i64 H.done, .slice a2 H.inn.length k2, .slice a3 H.out.length k3] 39)).heap.size := by rw [← hS]; simp
    show Vb _ _ _ _; rw [← hW, z1]; exact Vb.new _ _ _
  have q0 := VA.out.cell 0 rfl
  have q1 := VA.out.cell 1 rfl
  have q2 := VA.out.cell 2 rfl
  have q3 := VA.out.cell 3 rfl
  have q4 := VA.out.cell 4 rfl
  have q5 := VA.out.cell 5 rfl
  have q6 := VA.out.cell 6 rfl
  have q7 := VA.out.cell 7 rfl
  have q8 := VA.out.cell 8 rfl
  go_enter Try.func17, Try.ntmps17
  go_wp2_with fail
  clear hW hS q0 q1 q2 q3 q4 q5 q6 q7 q8
  refine (i_fault _ _ _ _ H _ _ (HM.out.keep B0.out)).mono ?_
  rintro e w1 ⟨rfl, b1⟩
  have B1 : Hid (Below w.heap.size w w1) := on B0.out b1
  have VA1 : Hid (Vb w1 s #[.slice a0 H.regs.length k0, .int .i64 H.pc, .slice a1 H.csr.length k1, .bool H.halted, .bool H.waiting, .bool H.rung, .int .i64 H.done, .slice a2 H.inn.length k2, .slice a3 H.out.length k3] 39) := VA.out.keep b1
  have VR1 : Hid (Vb w1 (s + 1) #[.int .i64 0, .slice none 0 0, .int .i64 0, .slice none 0 0, .bool false, .bool false, .bool false, .int .i64 0, .slice none 0 0, .slice none 0 0] 43) := VR.out.keep b1
  have M1 : Hid (Hm w1 b _ _ _ _ H) := HM.out.keep B1.out
  clear b1 VA VR
  by_cases hf : hfV H = 0
  case neg =>
    have E0 : Hid ((feedR H ys).1 = hfV H) := by show _ = _; simp only [feedR, if_neg hf]
    have E1 : Hid ((feedR H ys).2 = voidH) := by show _ = _; simp only [feedR, if_neg hf]
    generalize hfV H = f at *
    have HE1 : Hid ((feedR H ys).1 = f) := by show _ = _; first | exact E0.out | exact E1.out
    have HE2 : Hid ((feedR H ys).2 = voidH) := by show _ = _; first | exact E0.out | exact E1.out
    have p0 := VR1.out.cell 0 rfl
    have f0 := VR1.out.free 0
    have p1 := VR1.out.cell 1 rfl
    have f1 := VR1.out.free 1
    have p2 := VR1.out.cell 2 rfl
    have f2 := VR1.out.free 2
    have p3 := VR1.out.cell 3 rfl
    have f3 := VR1.out.free 3
    have p4 := VR1.out.cell 4 rfl
    have f4 := VR1.out.free 4
    have p5 := VR1.out.cell 5 rfl
    have f5 := VR1.out.free 5
    have p6 := VR1.out.cell 6 rfl
    have f6 := VR1.out.free 6
    have p7 := VR1.out.cell 7 rfl
    have f7 := VR1.out.free 7
    have p8 := VR1.out.cell 8 rfl
    have f8 := VR1.out.free 8
    have p9 := VR1.out.cell 9 rfl
    have f9 := VR1.out.free 9
    go_wp2_with fail
    have NN : Hid (_ ∧ _) := ten VR1.out (.int .i64 f) (.slice none 0 0) (.int .i64 0) (.slice none 0 0) (.bool false) (.bool false) (.bool false) (.int .i64 0) (.slice none 0 0) (.slice none 0 0)
    clear p0 f0 p1 f1 p2 f2 p3 f3 p4 f4 p5 f5 p6 f6 p7 f7 p8 f8 p9 f9
    generalize ((((((((((w1.setCell ⟨s + 1, 0, none⟩ (.int .i64 f)).setCell ⟨s + 1, 1, none⟩ (.slice none 0 0)).setCell ⟨s + 1, 2, none⟩ (.int .i64 0)).setCell ⟨s + 1, 3, none⟩ (.slice none 0 0)).setCell ⟨s + 1, 4, none⟩ (.bool false)).setCell ⟨s + 1, 5, none⟩ (.bool false)).setCell ⟨s + 1, 6, none⟩ (.bool false)).setCell ⟨s + 1, 7, none⟩ (.int .i64 0)).setCell ⟨s + 1, 8, none⟩ (.slice none 0 0)).setCell ⟨s + 1, 9, none⟩ (.slice none 0 0)) = V at *
    have x0 := NN.out.1.cell 0 rfl
    have x1 := NN.out.1.cell 1 rfl
    have x2 := NN.out.1.cell 2 rfl
    have x3 := NN.out.1.cell 3 rfl
    have x4 := NN.out.1.cell 4 rfl
    have x5 := NN.out.1.cell 5 rfl
    have x6 := NN.out.1.cell 6 rfl
    have x7 := NN.out.1.cell 7 rfl
    have x8 := NN.out.1.cell 8 rfl
    have x9 := NN.out.1.cell 9 rfl
    have BV : Below w.heap.size w V := Mq.under B1.out NN.out.2 fun k e => by have := HS.out; omega
    have MV := NN.out.2
    refine bodyPost_ret (v := .agg #[.int .i64 f, .slice none 0 0, .int .i64 0, .slice none 0 0, .bool false, .bool false, .bool false, .int .i64 0, .slice none 0 0, .slice none 0 0]) (by simp [results, Try.results17, go_sem, x0, x1, x2, x3, x4, x5, x6, x7, x8, x9]) rfl ?_
    rw [HE1.out, HE2.out]
    exact ⟨_, _, _, _, rfl, void_hm _ _, void_ha, BV⟩
  have K : Hid (Hok H) := hok_of hf
  have HF : Hid (hfV H = 0) := hf
  rw [hf]
  cases ha : ys.all isW
  case false =>
    have HE1 : Hid ((feedR H ys).1 = 3) := by show _ = _; simp [feedR, hf, ha]
    have HE2 : Hid ((feedR H ys).2 = voidH) := by show _ = _; simp [feedR, hf, ha]
    have p0 := VR1.out.cell 0 rfl
    have f0 := VR1.out.free 0
    have p1 := VR1.out.cell 1 rfl
    have f1 := VR1.out.free 1
    have p2 := VR1.out.cell 2 rfl
    have f2 := VR1.out.free 2
    have p3 := VR1.out.cell 3 rfl
    have f3 := VR1.out.free 3
    have p4 := VR1.out.cell 4 rfl
    have f4 := VR1.out.free 4
    have p5 := VR1.out.cell 5 rfl
    have f5 := VR1.out.free 5
    have p6 := VR1.out.cell 6 rfl
    have f6 := VR1.out.free 6
    have p7 := VR1.out.cell 7 rfl
    have f7 := VR1.out.free 7
    have p8 := VR1.out.cell 8 rfl
    have f8 := VR1.out.free 8
    have p9 := VR1.out.cell 9 rfl
    have f9 := VR1.out.free 9
    go_wp2_with (go_at_call 57; refine (i_words _ _ _ ys _ (HY.out.stay B1.out)).mono ?_; rintro e y ⟨rfl, hy⟩; rw [hy]; clear hy y; rw [ha])
    have NN : Hid (_ ∧ _) := ten VR1.out (.int .i64 3) (.slice none 0 0) (.int .i64 0) (.slice none 0 0) (.bool false) (.bool false) (.bool false) (.int .i64 0) (.slice none 0 0) (.slice none 0 0)
    clear p0 f0 p1 f1 p2 f2 p3 f3 p4 f4 p5 f5 p6 f6 p7 f7 p8 f8 p9 f9
    generalize ((((((((((w1.setCell ⟨s + 1, 0, none⟩ (.int .i64 3)).setCell ⟨s + 1, 1, none⟩ (.slice none 0 0)).setCell ⟨s + 1, 2, none⟩ (.int .i64 0)).setCell ⟨s + 1, 3, none⟩ (.slice none 0 0)).setCell ⟨s + 1, 4, none⟩ (.bool false)).setCell ⟨s + 1, 5, none⟩ (.bool false)).setCell ⟨s + 1, 6, none⟩ (.bool false)).setCell ⟨s + 1, 7, none⟩ (.int .i64 0)).setCell ⟨s + 1, 8, none⟩ (.slice none 0 0)).setCell ⟨s + 1, 9, none⟩ (.slice none 0 0)) = V at *
    have x0 := NN.out.1.cell 0 rfl
    have x1 := NN.out.1.cell 1 rfl
    have x2 := NN.out.1.cell 2 rfl
    have x3 := NN.out.1.cell 3 rfl
    have x4 := NN.out.1.cell 4 rfl
    have x5 := NN.out.1.cell 5 rfl
    have x6 := NN.out.1.cell 6 rfl
    have x7 := NN.out.1.cell 7 rfl
    have x8 := NN.out.1.cell 8 rfl
    have x9 := NN.out.1.cell 9 rfl
    have BV : Below w.heap.size w V := Mq.under B1.out NN.out.2 fun k e => by have := HS.out; omega
    have MV := NN.out.2
    refine bodyPost_ret (v := .agg #[.int .i64 3, .slice none 0 0, .int .i64 0, .slice none 0 0, .bool false, .bool false, .bool false, .int .i64 0, .slice none 0 0, .slice none 0 0]) (by simp [results, Try.results17, go_sem, x0, x1, x2, x3, x4, x5, x6, x7, x8, x9]) rfl ?_
    rw [HE1.out, HE2.out]
    exact ⟨_, _, _, _, rfl, void_hm _ _, void_ha, BV⟩
  have q0 := VA1.out.cell 0 rfl
  have q1 := VA1.out.cell 1 rfl
  have q2 := VA1.out.cell 2 rfl
  have q3 := VA1.out.cell 3 rfl
  have q4 := VA1.out.cell 4 rfl
  have q5 := VA1.out.cell 5 rfl
  have q6 := VA1.out.cell 6 rfl
  have q7 := VA1.out.cell 7 rfl
  have q8 := VA1.out.cell 8 rfl
  go_wp2_with (go_at_call 57; refine (i_words _ _ _ ys _ (HY.out.stay B1.out)).mono ?_; rintro e y ⟨rfl, hy⟩; rw [hy]; clear hy y; rw [ha])
  clear q0 q1 q2 q3 q4 q5 q6 q7 q8
  refine (i_machine _ _ _ _ H _ _ M1.out K.out.r16 K.out.c11 (by have := K.out.i40; omega) (by have := K.out.o40; omega)).mono ?_
  rintro e w2 ⟨i2, o2, rfl, mi, mo, ap, b2⟩
  obtain ⟨xa, xk, rfl, _⟩ := mi.shape
  obtain ⟨ya', yk, rfl, _⟩ := mo.shape
  generalize hxn : H.inn.length = xn at *
  generalize hyn : H.out.length = yn' at *
  have hst := mca_store H xa xn xk ya' yn' yk w2
  have hsz := mca_size H (.slice xa xn xk) (.slice ya' yn' yk)
  have MI : Hid (Nums w2 w1.heap.size (.slice xa xn xk) H.inn) := mi
  have MO : Hid (Nums w2 w1.heap.size (.slice ya' yn' yk) H.out) := mo
  have AP : Hid (Apt (.slice xa xn xk) (.slice ya' yn' yk)) := ap
  have B2 : Hid (Below w.heap.size w w2) := on B1.out b2
  have VR2 : Hid (Vb w2 (s + 1) #[.int .i64 0, .slice none 0 0, .int .i64 0, .slice none 0 0, .bool false, .bool false, .bool false, .int .i64 0, .slice none 0 0, .slice none 0 0] 43) := VR1.out.keep b2
  have LB : Hid (w1.heap.size ≤ w2.heap.size ∧ s + 1 < w1.heap.size) := ⟨b2.size, VR1.out.lt⟩
  have XN : Hid (H.inn.length = xn) := hxn
  clear mi mo ap b2 hxn hyn
  go_wp2_with fail
  generalize hW3 : w2.alloc (.cells (mca H (.slice xa xn xk) (.slice ya' yn' yk)) 103) = W3
  obtain ⟨m, hm'⟩ : ∃ m, w2.heap.size = m := ⟨_, rfl⟩
  have HMm : Hid (w2.heap.size = m) := hm'
  rw [hm']
  have V3 : Hid (Vb W3 m (mca H (.slice xa xn xk) (.slice ya' yn' yk)) 103) := by show Vb _ _ _ _; rw [← hW3, ← hm']; exact Vb.new _ _ _
  have B3 : Hid (Below w.heap.size w W3) := by show Below _ _ _; rw [← hW3]; exact al B2.out _
  have VR3 : Hid (Vb W3 (s + 1) #[.int .i64 0, .slice none 0 0, .int .i64 0, .slice none 0 0, .bool false, .bool false, .bool false, .int .i64 0, .slice none 0 0, .slice none 0 0] 43) := by show Vb _ _ _ _; rw [← hW3]; exact VR2.out.push _
  have MI3 : Hid (Nums W3 w1.heap.size (.slice xa xn xk) H.inn) := by show Nums _ _ _ _; rw [← hW3]; exact MI.out.keep (al (Below.refl _ _) _)
  have MO3 : Hid (Nums W3 w1.heap.size (.slice ya' yn' yk) H.out) := by show Nums _ _ _ _; rw [← hW3]; exact MO.out.keep (al (Below.refl _ _) _)
  have LW : Hid (w1.heap.size ≤ W3.heap.size) := by show _ ≤ _; rw [← hW3]; have := LB.out.1; simp; omega
  clear hst hsz hW3 hm'
  by_cases hm : H.inn.length + ys.length ≤ 40
  case neg =>
    refine (i_feed_full _ _ _ H _ _ _ _ _ V3.out MI3.out K.out.i40 (by have := HYN.out; omega) (by have := HYL.out; omega)).mono ?_
    rintro e w4 ⟨rfl, hw4⟩
    rw [hw4]
    have HE1 : Hid ((feedR H ys).1 = 2) := by show _ = _; simp [feedR, hf, ha, hm]
    have HE2 : Hid ((feedR H ys).2 = voidH) := by show _ = _; simp [feedR, hf, ha, hm]
    have p0 := VR3.out.cell 0 rfl
    have f0 := VR3.out.free 0
    have p1 := VR3.out.cell 1 rfl
    have f1 := VR3.out.free 1
    have p2 := VR3.out.cell 2 rfl
    have f2 := VR3.out.free 2
    have p3 := VR3.out.cell 3 rfl
    have f3 := VR3.out.free 3
    have p4 := VR3.out.cell 4 rfl
    have f4 := VR3.out.free 4
    have p5 := VR3.out.cell 5 rfl
    have f5 := VR3.out.free 5
    have p6 := VR3.out.cell 6 rfl
    have f6 := VR3.out.free 6
    have p7 := VR3.out.cell 7 rfl
    have f7 := VR3.out.free 7
    have p8 := VR3.out.cell 8 rfl
    have f8 := VR3.out.free 8
    have p9 := VR3.out.cell 9 rfl
    have f9 := VR3.out.free 9
    go_wp2_with fail
    have NN : Hid (_ ∧ _) := ten VR3.out (.int .i64 2) (.slice none 0 0) (.int .i64 0) (.slice none 0 0) (.bool false) (.bool false) (.bool false) (.int .i64 0) (.slice none 0 0) (.slice none 0 0)
    clear p0 f0 p1 f1 p2 f2 p3 f3 p4 f4 p5 f5 p6 f6 p7 f7 p8 f8 p9 f9
    generalize ((((((((((W3.setCell ⟨s + 1, 0, none⟩ (.int .i64 2)).setCell ⟨s + 1, 1, none⟩ (.slice none 0 0)).setCell ⟨s + 1, 2, none⟩ (.int .i64 0)).setCell ⟨s + 1, 3, none⟩ (.slice none 0 0)).setCell ⟨s + 1, 4, none⟩ (.bool false)).setCell ⟨s + 1, 5, none⟩ (.bool false)).setCell ⟨s + 1, 6, none⟩ (.bool false)).setCell ⟨s + 1, 7, none⟩ (.int .i64 0)).setCell ⟨s + 1, 8, none⟩ (.slice none 0 0)).setCell ⟨s + 1, 9, none⟩ (.slice none 0 0)) = V at *
    have x0 := NN.out.1.cell 0 rfl
    have x1 := NN.out.1.cell 1 rfl
    have x2 := NN.out.1.cell 2 rfl
    have x3 := NN.out.1.cell 3 rfl
    have x4 := NN.out.1.cell 4 rfl
    have x5 := NN.out.1.cell 5 rfl
    have x6 := NN.out.1.cell 6 rfl
    have x7 := NN.out.1.cell 7 rfl
    have x8 := NN.out.1.cell 8 rfl
    have x9 := NN.out.1.cell 9 rfl
    have BV : Below w.heap.size w V := Mq.under B3.out NN.out.2 fun k e => by have := HS.out; omega
    have MV := NN.out.2
    refine bodyPost_ret (v := .agg #[.int .i64 2, .slice none 0 0, .int .i64 0, .slice none 0 0, .bool false, .bool false, .bool false, .int .i64 0, .slice none 0 0, .slice none 0 0]) (by simp [results, Try.results17, go_sem, x0, x1, x2, x3, x4, x5, x6, x7, x8, x9]) rfl ?_
    rw [HE1.out, HE2.out]
    exact ⟨_, _, _, _, rfl, void_hm _ _, void_ha, BV⟩
  have HE1 : Hid ((feedR H ys).1 = 0) := by show _ = _; simp [feedR, hf, ha, hm]
  have HE2 : Hid ((feedR H ys).2 = feedV H ys) := by show _ = _; simp [feedR, hf, ha, hm]
  refine (i_feed _ _ _ H _ _ _ ys _ _ V3.out MI3.out MO3.out AP.out (HY.out.stay B3.out) (by have := HYL.out; omega) LW.out).mono ?_
  rintro e w4 ⟨rfl, i4, o4, s4'⟩
  have s4 : Si W3 w4 m _ _ i4 o4 (feedV H ys) := s4'
  clear s4'
  obtain ⟨G, hG⟩ : ∃ G, feedV H ys = G := ⟨_, rfl⟩
  rw [hG] at s4
  have HG : Hid (feedV H ys = G) := hG
  have HEG : Hid ((feedR H ys).2 = G) := HE2.out.trans hG
  have S4 : Hid (Si W3 w4 m (.slice xa xn xk) (.slice ya' yn' yk) _ _ G) := s4
  have VR4 : Hid (Vb w4 (s + 1) #[.int .i64 0, .slice none 0 0, .int .i64 0, .slice none 0 0, .bool false, .bool false, .bool false, .int .i64 0, .slice none 0 0, .slice none 0 0] 43) := S4.out.g.vb VR3.out fun e => by
    have := LB.out.2; have := LB.out.1; have := HMm.out
    rcases e with e | e | e
    · omega
    · have := (MI.out.lt _ e).1; omega
    · have := (MO.out.lt _ e).1; omega
  have B4 : Hid (Below w.heap.size w w4) := Mq.under B3.out S4.out.g fun k e => by
    have := B1.out.size; have := LB.out.1; have := HMm.out
    rcases e with e | e | e
    · omega
    · have := (MI.out.lt _ e).1; omega
    · have := (MO.out.lt _ e).1; omega
  have LG : Hid (G.regs.length = 16 ∧ G.csr.length = 11 ∧ G.inn.length ≤ 1000 ∧ G.out.length ≤ 1000) := by
    rw [← HG.out]
    exact feedV_lens K.out hm
  clear s4 hG
  go_wp2_with fail
  refine (i_hartr m _ _ G _ S4.out.v S4.out.ri S4.out.ro LG.out.1 LG.out.2.1 LG.out.2.2.1 LG.out.2.2.2).mono ?_
  rintro e w5 ⟨r5, c5, i5, o5, rfl, m5, A5, b5⟩
  obtain ⟨ja0, jk0, rfl, _⟩ := m5.r.shape
  obtain ⟨ja1, jk1, rfl, _⟩ := m5.c.shape
  obtain ⟨ja2, jk2, rfl, _⟩ := m5.i.shape
  obtain ⟨ja3, jk3, rfl, _⟩ := m5.o.shape
  generalize G.regs.length = g0 at *
  generalize G.csr.length = g1 at *
  generalize G.inn.length = g2 at *
  generalize G.out.length = g3 at *
  have M5 : Hid (Hm w5 w4.heap.size (.slice ja0 g0 jk0) (.slice ja1 g1 jk1) (.slice ja2 g2 jk2) (.slice ja3 g3 jk3) G) := m5
  have HA5 : Hid (Ha (.slice ja0 g0 jk0) (.slice ja1 g1 jk1) (.slice ja2 g2 jk2) (.slice ja3 g3 jk3)) := A5
  have B5 : Hid (Below w.heap.size w w5) := on B4.out b5
  have VR5 : Hid (Vb w5 (s + 1) #[.int .i64 0, .slice none 0 0, .int .i64 0, .slice none 0 0, .bool false, .bool false, .bool false, .int .i64 0, .slice none 0 0, .slice none 0 0] 43) := VR4.out.keep b5
  have LQ : Hid (s + 1 < w4.heap.size) := VR4.out.lt
  clear m5 A5 b5
  have p0 := VR5.out.cell 0 rfl
  have f0 := VR5.out.free 0
  have p1 := VR5.out.cell 1 rfl
  have f1 := VR5.out.free 1
  have p2 := VR5.out.cell 2 rfl
  have f2 := VR5.out.free 2
  have p3 := VR5.out.cell 3 rfl
  have f3 := VR5.out.free 3
  have p4 := VR5.out.cell 4 rfl
  have f4 := VR5.out.free 4
  have p5 := VR5.out.cell 5 rfl
  have f5 := VR5.out.free 5
  have p6 := VR5.out.cell 6 rfl
  have f6 := VR5.out.free 6
  have p7 := VR5.out.cell 7 rfl
  have f7 := VR5.out.free 7
  have p8 := VR5.out.cell 8 rfl
  have f8 := VR5.out.free 8
  have p9 := VR5.out.cell 9 rfl
  have f9 := VR5.out.free 9
  go_wp2_with fail
  have NN : Hid (_ ∧ _) := ten VR5.out (.int .i64 0) (.slice ja0 g0 jk0) (.int .i64 G.pc) (.slice ja1 g1 jk1) (.bool G.halted) (.bool G.waiting) (.bool G.rung) (.int .i64 G.done) (.slice ja2 g2 jk2) (.slice ja3 g3 jk3)
  clear p0 f0 p1 f1 p2 f2 p3 f3 p4 f4 p5 f5 p6 f6 p7 f7 p8 f8 p9 f9
  generalize ((((((((((w5.setCell ⟨s + 1, 0, none⟩ (.int .i64 0)).setCell ⟨s + 1, 1, none⟩ (.slice ja0 g0 jk0)).setCell ⟨s + 1, 2, none⟩ (.int .i64 G.pc)).setCell ⟨s + 1, 3, none⟩ (.slice ja1 g1 jk1)).setCell ⟨s + 1, 4, none⟩ (.bool G.halted)).setCell ⟨s + 1, 5, none⟩ (.bool G.waiting)).setCell ⟨s + 1, 6, none⟩ (.bool G.rung)).setCell ⟨s + 1, 7, none⟩ (.int .i64 G.done)).setCell ⟨s + 1, 8, none⟩ (.slice ja2 g2 jk2)).setCell ⟨s + 1, 9, none⟩ (.slice ja3 g3 jk3)) = V at *
  have x0 := NN.out.1.cell 0 rfl
  have x1 := NN.out.1.cell 1 rfl
  have x2 := NN.out.1.cell 2 rfl
  have x3 := NN.out.1.cell 3 rfl
  have x4 := NN.out.1.cell 4 rfl
  have x5 := NN.out.1.cell 5 rfl
  have x6 := NN.out.1.cell 6 rfl
  have x7 := NN.out.1.cell 7 rfl
  have x8 := NN.out.1.cell 8 rfl
  have x9 := NN.out.1.cell 9 rfl
  have BV : Below w.heap.size w V := Mq.under B5.out NN.out.2 fun k e => by have := HS.out; omega
  have MV := NN.out.2
  refine bodyPost_ret (v := .agg #[.int .i64 0, .slice ja0 g0 jk0, .int .i64 G.pc, .slice ja1 g1 jk1, .bool G.halted, .bool G.waiting, .bool G.rung, .int .i64 G.done, .slice ja2 g2 jk2, .slice ja3 g3 jk3]) (by simp [results, Try.results17, go_sem, x0, x1, x2, x3, x4, x5, x6, x7, x8, x9]) rfl ?_
  rw [HE1.out, HEG.out]
  exact ⟨_, _, _, _, rfl, ((MV.hm M5.out fun k e f => by have := (M5.out.own k e).1; have := LQ.out; omega).mono B4.out.size), HA5.out, BV⟩

set_option maxRecDepth 20000 in
set_option maxHeartbeats 8000000 in
theorem s_feedHart (r c i o : Value) (H : Ht) (ya : Option Addr) (yn yc : Nat) (ys : List Int) (b : Nat) (w : World) (h : Hm w b r c i o H) (hy : Rn w ya yn yc ys) (hyn : yn ≤ 1048576) :
    Calls Try.prog 18 #[.agg #[r, .int .i64 H.pc, c, .bool H.halted, .bool H.waiting, .bool H.rung, .int .i64 H.done, i, o], .slice ya yn yc] w fun e w' => ∃ r' c' i' o', e = .returned (.agg #[.int .i64 (feedR H ys).1, r', .int .i64 (feedR H ys).2.pc, c', .bool (feedR H ys).2.halted, .bool (feedR H ys).2.waiting, .bool (feedR H ys).2.rung, .int .i64 (feedR H ys).2.done, i', o']) ∧ Hm w' w.heap.size r' c' i' o' (feedR H ys).2 ∧ Below w.heap.size w w' := by
  have HM : Hid (Hm w b r c i o H) := h
  obtain ⟨a0, k0, rfl, _⟩ := h.r.shape
  obtain ⟨a1, k1, rfl, _⟩ := h.c.shape
  obtain ⟨a2, k2, rfl, _⟩ := h.i.shape
  obtain ⟨a3, k3, rfl, _⟩ := h.o.shape
  clear h
  have HY : Hid (Rn w ya yn yc ys) := hy
  have HYN : Hid (yn ≤ 1048576) := hyn
  have HYL : Hid (yn = ys.length) := hy.len
  clear hy hyn
  generalize hW : (w.alloc (.cells #[.slice a0 H.regs.length k0, .int .i64 H.pc, .slice a1 H.csr.length k1, .bool H.halted, .bool H.waiting, .bool H.rung, .int .i64 H.done, .slice a2 H.inn.length k2, .slice a3 H.out.length k3] 39)).alloc (.cells #[.int .i64 0, .slice none 0 0, .int .i64 0, .slice none 0 0, .bool false, .bool false, .bool false, .int .i64 0, .slice none 0 0, .slice none 0 0] 43) = W
  have B0 : Hid (Below w.heap.size w W) := by show Below _ _ _; rw [← hW]; exact al (al (Below.refl _ _) _) _
  obtain ⟨s, hS⟩ : ∃ s, w.heap.size = s := ⟨_, rfl⟩
  have HS : Hid (w.heap.size = s) := hS
  have VA : Hid (Vb W s #[.slice a0 H.regs.length k0, .int .i64 H.pc, .slice a1 H.csr.length k1, .bool H.halted, .bool H.waiting, .bool H.rung, .int .i64 H.done, .slice a2 H.inn.length k2, .slice a3 H.out.length k3] 39) := by
    show Vb _ _ _ _; rw [← hW, ← hS]; exact (Vb.new _ _ _).push _
  have VR : Hid (Vb W (s + 1) #[.int .i64 0, .slice none 0 0, .int .i64 0, .slice none 0 0, .bool false, .bool false, .bool false, .int .i64 0, .slice none 0 0, .slice none 0 0] 43) := by
    have z1 : s + 1 = (w.alloc (.cells #[.slice a0 H.regs.length k0, .int .i64 H.pc, .slice a1 H.csr.length k1, .bool H.halted, .bool H.waiting, .bool H.rung, .int .i64 H.done, .slice a2 H.inn.length k2, .slice a3 H.out.length k3] 39)).heap.size := by rw [← hS]; simp
    show Vb _ _ _ _; rw [← hW, z1]; exact Vb.new _ _ _
  have q0 := VA.out.cell 0 rfl
  have q1 := VA.out.cell 1 rfl
  have q2 := VA.out.cell 2 rfl
  have q3 := VA.out.cell 3 rfl
  have q4 := VA.out.cell 4 rfl
  have q5 := VA.out.cell 5 rfl
  have q6 := VA.out.cell 6 rfl
  have q7 := VA.out.cell 7 rfl
  have q8 := VA.out.cell 8 rfl
  go_enter Try.func18, Try.ntmps18
  go_wp2_with fail
  clear hW hS q0 q1 q2 q3 q4 q5 q6 q7 q8
  refine (s_fault _ _ _ _ _ H _ _ (HM.out.keep B0.out) VA.out).mono ?_
  rintro e w1 ⟨rfl, hw1⟩
  have b1 : Below W.heap.size W w1 := by rw [hw1]; exact Below.refl _ _
  clear hw1
  have B1 : Hid (Below w.heap.size w w1) := on B0.out b1
  have VA1 : Hid (Vb w1 s #[.slice a0 H.regs.length k0, .int .i64 H.pc, .slice a1 H.csr.length k1, .bool H.halted, .bool H.waiting, .bool H.rung, .int .i64 H.done, .slice a2 H.inn.length k2, .slice a3 H.out.length k3] 39) := VA.out.keep b1
  have VR1 : Hid (Vb w1 (s + 1) #[.int .i64 0, .slice none 0 0, .int .i64 0, .slice none 0 0, .bool false, .bool false, .bool false, .int .i64 0, .slice none 0 0, .slice none 0 0] 43) := VR.out.keep b1
  have M1 : Hid (Hm w1 b _ _ _ _ H) := HM.out.keep B1.out
  clear b1 VA VR
  by_cases hf : hfV H = 0
  case neg =>
    have E0 : Hid ((feedR H ys).1 = hfV H) := by show _ = _; simp only [feedR, if_neg hf]
    have E1 : Hid ((feedR H ys).2 = voidH) := by show _ = _; simp only [feedR, if_neg hf]
    generalize hfV H = f at *
    have HE1 : Hid ((feedR H ys).1 = f) := by show _ = _; first | exact E0.out | exact E1.out
    have HE2 : Hid ((feedR H ys).2 = voidH) := by show _ = _; first | exact E0.out | exact E1.out
    have p0 := VR1.out.cell 0 rfl
    have f0 := VR1.out.free 0
    have p1 := VR1.out.cell 1 rfl
    have f1 := VR1.out.free 1
    have p2 := VR1.out.cell 2 rfl
    have f2 := VR1.out.free 2
    have p3 := VR1.out.cell 3 rfl
    have f3 := VR1.out.free 3
    have p4 := VR1.out.cell 4 rfl
    have f4 := VR1.out.free 4
    have p5 := VR1.out.cell 5 rfl
    have f5 := VR1.out.free 5
    have p6 := VR1.out.cell 6 rfl
    have f6 := VR1.out.free 6
    have p7 := VR1.out.cell 7 rfl
    have f7 := VR1.out.free 7
    have p8 := VR1.out.cell 8 rfl
    have f8 := VR1.out.free 8
    have p9 := VR1.out.cell 9 rfl
    have f9 := VR1.out.free 9
    go_wp2_with fail
    have NN : Hid (_ ∧ _) := ten VR1.out (.int .i64 f) (.slice none 0 0) (.int .i64 0) (.slice none 0 0) (.bool false) (.bool false) (.bool false) (.int .i64 0) (.slice none 0 0) (.slice none 0 0)
    clear p0 f0 p1 f1 p2 f2 p3 f3 p4 f4 p5 f5 p6 f6 p7 f7 p8 f8 p9 f9
    generalize ((((((((((w1.setCell ⟨s + 1, 0, none⟩ (.int .i64 f)).setCell ⟨s + 1, 1, none⟩ (.slice none 0 0)).setCell ⟨s + 1, 2, none⟩ (.int .i64 0)).setCell ⟨s + 1, 3, none⟩ (.slice none 0 0)).setCell ⟨s + 1, 4, none⟩ (.bool false)).setCell ⟨s + 1, 5, none⟩ (.bool false)).setCell ⟨s + 1, 6, none⟩ (.bool false)).setCell ⟨s + 1, 7, none⟩ (.int .i64 0)).setCell ⟨s + 1, 8, none⟩ (.slice none 0 0)).setCell ⟨s + 1, 9, none⟩ (.slice none 0 0)) = V at *
    have x0 := NN.out.1.cell 0 rfl
    have x1 := NN.out.1.cell 1 rfl
    have x2 := NN.out.1.cell 2 rfl
    have x3 := NN.out.1.cell 3 rfl
    have x4 := NN.out.1.cell 4 rfl
    have x5 := NN.out.1.cell 5 rfl
    have x6 := NN.out.1.cell 6 rfl
    have x7 := NN.out.1.cell 7 rfl
    have x8 := NN.out.1.cell 8 rfl
    have x9 := NN.out.1.cell 9 rfl
    have BV : Below w.heap.size w V := Mq.under B1.out NN.out.2 fun k e => by have := HS.out; omega
    have MV := NN.out.2
    refine bodyPost_ret (v := .agg #[.int .i64 f, .slice none 0 0, .int .i64 0, .slice none 0 0, .bool false, .bool false, .bool false, .int .i64 0, .slice none 0 0, .slice none 0 0]) (by simp [results, Try.results18, go_sem, x0, x1, x2, x3, x4, x5, x6, x7, x8, x9]) rfl ?_
    rw [HE1.out, HE2.out]
    exact ⟨_, _, _, _, rfl, void_hm _ _, BV⟩
  have K : Hid (Hok H) := hok_of hf
  have HF : Hid (hfV H = 0) := hf
  rw [hf]
  cases ha : ys.all isW
  case false =>
    have HE1 : Hid ((feedR H ys).1 = 3) := by show _ = _; simp [feedR, hf, ha]
    have HE2 : Hid ((feedR H ys).2 = voidH) := by show _ = _; simp [feedR, hf, ha]
    have p0 := VR1.out.cell 0 rfl
    have f0 := VR1.out.free 0
    have p1 := VR1.out.cell 1 rfl
    have f1 := VR1.out.free 1
    have p2 := VR1.out.cell 2 rfl
    have f2 := VR1.out.free 2
    have p3 := VR1.out.cell 3 rfl
    have f3 := VR1.out.free 3
    have p4 := VR1.out.cell 4 rfl
    have f4 := VR1.out.free 4
    have p5 := VR1.out.cell 5 rfl
    have f5 := VR1.out.free 5
    have p6 := VR1.out.cell 6 rfl
    have f6 := VR1.out.free 6
    have p7 := VR1.out.cell 7 rfl
    have f7 := VR1.out.free 7
    have p8 := VR1.out.cell 8 rfl
    have f8 := VR1.out.free 8
    have p9 := VR1.out.cell 9 rfl
    have f9 := VR1.out.free 9
    go_wp2_with (go_at_call 62; refine (s_words _ _ _ ys _ (HY.out.stay B1.out)).mono ?_; rintro e y ⟨rfl, hy⟩; rw [hy]; clear hy y; rw [ha])
    have NN : Hid (_ ∧ _) := ten VR1.out (.int .i64 3) (.slice none 0 0) (.int .i64 0) (.slice none 0 0) (.bool false) (.bool false) (.bool false) (.int .i64 0) (.slice none 0 0) (.slice none 0 0)
    clear p0 f0 p1 f1 p2 f2 p3 f3 p4 f4 p5 f5 p6 f6 p7 f7 p8 f8 p9 f9
    generalize ((((((((((w1.setCell ⟨s + 1, 0, none⟩ (.int .i64 3)).setCell ⟨s + 1, 1, none⟩ (.slice none 0 0)).setCell ⟨s + 1, 2, none⟩ (.int .i64 0)).setCell ⟨s + 1, 3, none⟩ (.slice none 0 0)).setCell ⟨s + 1, 4, none⟩ (.bool false)).setCell ⟨s + 1, 5, none⟩ (.bool false)).setCell ⟨s + 1, 6, none⟩ (.bool false)).setCell ⟨s + 1, 7, none⟩ (.int .i64 0)).setCell ⟨s + 1, 8, none⟩ (.slice none 0 0)).setCell ⟨s + 1, 9, none⟩ (.slice none 0 0)) = V at *
    have x0 := NN.out.1.cell 0 rfl
    have x1 := NN.out.1.cell 1 rfl
    have x2 := NN.out.1.cell 2 rfl
    have x3 := NN.out.1.cell 3 rfl
    have x4 := NN.out.1.cell 4 rfl
    have x5 := NN.out.1.cell 5 rfl
    have x6 := NN.out.1.cell 6 rfl
    have x7 := NN.out.1.cell 7 rfl
    have x8 := NN.out.1.cell 8 rfl
    have x9 := NN.out.1.cell 9 rfl
    have BV : Below w.heap.size w V := Mq.under B1.out NN.out.2 fun k e => by have := HS.out; omega
    have MV := NN.out.2
    refine bodyPost_ret (v := .agg #[.int .i64 3, .slice none 0 0, .int .i64 0, .slice none 0 0, .bool false, .bool false, .bool false, .int .i64 0, .slice none 0 0, .slice none 0 0]) (by simp [results, Try.results18, go_sem, x0, x1, x2, x3, x4, x5, x6, x7, x8, x9]) rfl ?_
    rw [HE1.out, HE2.out]
    exact ⟨_, _, _, _, rfl, void_hm _ _, BV⟩
  by_cases hm : H.inn.length + ys.length ≤ 40
  case neg =>
    have h1 : (40 : Int) < (H.inn.length : Int) + (yn : Int) := by have := HYL.out; omega
    have h2 : (H.inn.length : Int) ≤ 40 := by have := K.out.i40; omega
    have h3 : (yn : Int) ≤ 1048576 := by have := HYN.out; omega
    have q7 := VA1.out.cell 7 rfl
    have HE1 : Hid ((feedR H ys).1 = 2) := by show _ = _; simp [feedR, hf, ha, hm]
    have HE2 : Hid ((feedR H ys).2 = voidH) := by show _ = _; simp [feedR, hf, ha, hm]
    have p0 := VR1.out.cell 0 rfl
    have f0 := VR1.out.free 0
    have p1 := VR1.out.cell 1 rfl
    have f1 := VR1.out.free 1
    have p2 := VR1.out.cell 2 rfl
    have f2 := VR1.out.free 2
    have p3 := VR1.out.cell 3 rfl
    have f3 := VR1.out.free 3
    have p4 := VR1.out.cell 4 rfl
    have f4 := VR1.out.free 4
    have p5 := VR1.out.cell 5 rfl
    have f5 := VR1.out.free 5
    have p6 := VR1.out.cell 6 rfl
    have f6 := VR1.out.free 6
    have p7 := VR1.out.cell 7 rfl
    have f7 := VR1.out.free 7
    have p8 := VR1.out.cell 8 rfl
    have f8 := VR1.out.free 8
    have p9 := VR1.out.cell 9 rfl
    have f9 := VR1.out.free 9
    go_wp2_with (go_at_call 62; refine (s_words _ _ _ ys _ (HY.out.stay B1.out)).mono ?_; rintro e y ⟨rfl, hy⟩; rw [hy]; clear hy y; rw [ha])
    have NN : Hid (_ ∧ _) := ten VR1.out (.int .i64 2) (.slice none 0 0) (.int .i64 0) (.slice none 0 0) (.bool false) (.bool false) (.bool false) (.int .i64 0) (.slice none 0 0) (.slice none 0 0)
    clear p0 f0 p1 f1 p2 f2 p3 f3 p4 f4 p5 f5 p6 f6 p7 f7 p8 f8 p9 f9
    generalize ((((((((((w1.setCell ⟨s + 1, 0, none⟩ (.int .i64 2)).setCell ⟨s + 1, 1, none⟩ (.slice none 0 0)).setCell ⟨s + 1, 2, none⟩ (.int .i64 0)).setCell ⟨s + 1, 3, none⟩ (.slice none 0 0)).setCell ⟨s + 1, 4, none⟩ (.bool false)).setCell ⟨s + 1, 5, none⟩ (.bool false)).setCell ⟨s + 1, 6, none⟩ (.bool false)).setCell ⟨s + 1, 7, none⟩ (.int .i64 0)).setCell ⟨s + 1, 8, none⟩ (.slice none 0 0)).setCell ⟨s + 1, 9, none⟩ (.slice none 0 0)) = V at *
    have x0 := NN.out.1.cell 0 rfl
    have x1 := NN.out.1.cell 1 rfl
    have x2 := NN.out.1.cell 2 rfl
    have x3 := NN.out.1.cell 3 rfl
    have x4 := NN.out.1.cell 4 rfl
    have x5 := NN.out.1.cell 5 rfl
    have x6 := NN.out.1.cell 6 rfl
    have x7 := NN.out.1.cell 7 rfl
    have x8 := NN.out.1.cell 8 rfl
    have x9 := NN.out.1.cell 9 rfl
    have BV : Below w.heap.size w V := Mq.under B1.out NN.out.2 fun k e => by have := HS.out; omega
    have MV := NN.out.2
    refine bodyPost_ret (v := .agg #[.int .i64 2, .slice none 0 0, .int .i64 0, .slice none 0 0, .bool false, .bool false, .bool false, .int .i64 0, .slice none 0 0, .slice none 0 0]) (by simp [results, Try.results18, go_sem, x0, x1, x2, x3, x4, x5, x6, x7, x8, x9]) rfl ?_
    rw [HE1.out, HE2.out]
    exact ⟨_, _, _, _, rfl, void_hm _ _, BV⟩
  have h1 : ¬ (40 : Int) < (H.inn.length : Int) + (yn : Int) := by have := HYL.out; omega
  have h2 : (H.inn.length : Int) ≤ 40 := by have := K.out.i40; omega
  have h3 : (yn : Int) ≤ 1048576 := by have := HYN.out; omega
  have HE1 : Hid ((feedR H ys).1 = 0) := by show _ = _; simp [feedR, hf, ha, hm]
  have HE2 : Hid ((feedR H ys).2 = feedV H ys) := by show _ = _; simp [feedR, hf, ha, hm]
  have q0 := VA1.out.cell 0 rfl
  have q1 := VA1.out.cell 1 rfl
  have q2 := VA1.out.cell 2 rfl
  have q3 := VA1.out.cell 3 rfl
  have q4 := VA1.out.cell 4 rfl
  have q5 := VA1.out.cell 5 rfl
  have q6 := VA1.out.cell 6 rfl
  have q7 := VA1.out.cell 7 rfl
  have q8 := VA1.out.cell 8 rfl
  go_wp2_with (go_at_call 62; refine (s_words _ _ _ ys _ (HY.out.stay B1.out)).mono ?_; rintro e y ⟨rfl, hy⟩; rw [hy]; clear hy y; rw [ha])
  clear q0 q1 q2 q3 q4 q5 q6 q7 q8 h1 h2 h3
  refine (s_copy _ _ _ _ H _ _ M1.out (by have := K.out.r16; omega) (by have := K.out.c11; omega) (by have := K.out.i40; omega) (by have := K.out.o40; omega)).mono ?_
  rintro e w2 ⟨r2, c2, i2, o2, rfl, m2, A2', b2⟩
  obtain ⟨xa0, xk0, rfl, _⟩ := m2.r.shape
  obtain ⟨xa1, xk1, rfl, _⟩ := m2.c.shape
  obtain ⟨xa2, xk2, rfl, _⟩ := m2.i.shape
  obtain ⟨xa3, xk3, rfl, _⟩ := m2.o.shape
  have A2 : Hid (Ha (.slice xa0 H.regs.length xk0) (.slice xa1 H.csr.length xk1) (.slice xa2 H.inn.length xk2) (.slice xa3 H.out.length xk3)) := A2'
  have M2 : Hid (Hm w2 w1.heap.size (.slice xa0 H.regs.length xk0) (.slice xa1 H.csr.length xk1) (.slice xa2 H.inn.length xk2) (.slice xa3 H.out.length xk3) H) := m2
  have B2 : Hid (Below w.heap.size w w2) := on B1.out b2
  have VR2 : Hid (Vb w2 (s + 1) #[.int .i64 0, .slice none 0 0, .int .i64 0, .slice none 0 0, .bool false, .bool false, .bool false, .int .i64 0, .slice none 0 0, .slice none 0 0] 43) := VR1.out.keep b2
  have LQ : Hid (s + 1 < w1.heap.size) := VR1.out.lt
  have LB : Hid (w1.heap.size ≤ w2.heap.size) := b2.size
  clear m2 A2' b2
  go_upto_region 9 with fail
  generalize hW3 : (w2.alloc (.cells #[.slice xa0 H.regs.length xk0, .int .i64 H.pc, .slice xa1 H.csr.length xk1, .bool H.halted, .bool H.waiting, .bool H.rung, .int .i64 H.done, .slice xa2 H.inn.length xk2, .slice xa3 H.out.length xk3] 39)) = W3
  obtain ⟨q, hq⟩ : ∃ q, w2.heap.size = q := ⟨_, rfl⟩
  have HQ : Hid (w2.heap.size = q) := hq
  rw [hq]
  have V3 : Hid (Vb W3 q #[.slice xa0 H.regs.length xk0, .int .i64 H.pc, .slice xa1 H.csr.length xk1, .bool H.halted, .bool H.waiting, .bool H.rung, .int .i64 H.done, .slice xa2 H.inn.length xk2, .slice xa3 H.out.length xk3] 39) := by show Vb _ _ _ _; rw [← hW3, ← hq]; exact Vb.new _ _ _
  have B3 : Hid (Below w.heap.size w W3) := by show Below _ _ _; rw [← hW3]; exact al B2.out _
  have VR3 : Hid (Vb W3 (s + 1) #[.int .i64 0, .slice none 0 0, .int .i64 0, .slice none 0 0, .bool false, .bool false, .bool false, .int .i64 0, .slice none 0 0, .slice none 0 0] 43) := by show Vb _ _ _ _; rw [← hW3]; exact VR2.out.push _
  have M3 : Hid (Hm W3 w1.heap.size (.slice xa0 H.regs.length xk0) (.slice xa1 H.csr.length xk1) (.slice xa2 H.inn.length xk2) (.slice xa3 H.out.length xk3) H) := by show Hm _ _ _ _ _ _ _; rw [← hW3]; exact M2.out.keep (al (Below.refl _ _) _)
  have NQ : Hid (∀ k, Own4 (.slice xa0 H.regs.length xk0) (.slice xa1 H.csr.length xk1) (.slice xa2 H.inn.length xk2) (.slice xa3 H.out.length xk3) k → k ≠ q) := fun k e f => by have := (M2.out.own k e).2; have := HQ.out; omega
  have LW : Hid (w1.heap.size ≤ W3.heap.size) := by show _ ≤ _; rw [← hW3]; have := LB.out; simp; omega
  clear hW3 hq
  have c7 : W3.cell? ⟨q, 7, none⟩ = some (.slice xa2 H.inn.length xk2) := V3.out.cell 7 rfl
  obtain ⟨l, hl⟩ : ∃ l, H.inn.length = l := ⟨_, rfl⟩
  have HL : Hid (H.inn.length = l) := hl
  rw [hl] at c7 V3 M3 NQ M2 A2 ⊢
  clear hl
  go_upto_region 10 with (at_builtin; refine wp_appy _ rfl _ _ rfl w1.heap.size _ H.inn rfl M3.out.i ya yn yc ys rfl (HY.out.stay B3.out) (by have := K.out.i40; have := HYN.out; omega) LW.out ?_; intro v' w' hN' hG'; obtain ⟨y, cap', hv', _⟩ := hN'.shape; obtain ⟨Ln, hLn⟩ : ∃ Ln, (H.inn ++ ys).length = Ln := ⟨_, rfl⟩; rw [hLn] at hv'; clear hLn; subst hv'; have N4 : Hid (Nums w' w1.heap.size (.slice y Ln cap') (H.inn ++ ys)) := hN'; have G4 : Hid (W3.grownBy w' (Value.slice xa2 l xk2).ownBlock) := hG'; have V4 : Hid (Vb w' q _ 39) := V3.out.gr hG' (fun e => NQ.out q (.inr (.inr (.inl e.symm))) rfl); clear hN' hG' c7; have c1 : w'.cell? ⟨q, 7, none⟩ = some (.slice xa2 l xk2) := V4.out.cell 7 rfl; have f1 := V4.out.free 7)
  have M5 : Hid (Hm (w'.setCell ⟨q, 7, none⟩ (.slice y Ln cap')) w1.heap.size (.slice xa0 H.regs.length xk0) (.slice xa1 H.csr.length xk1) (.slice y Ln cap') (.slice xa3 H.out.length xk3) (feedV H ys)) :=
    ⟨(M3.out.r.kept G4.out A2.out.ri).put ⟨q, 7, none⟩ _ (fun e => NQ.out _ (.inl e) rfl), (M3.out.c.kept G4.out A2.out.ci).put ⟨q, 7, none⟩ _ (fun e => NQ.out _ (.inr (.inl e)) rfl),
      N4.out.put ⟨q, 7, none⟩ _ (N4.out.ne_vb (t := 39) V4.out (by decide)), (M3.out.o.kept G4.out A2.out.io.swap).put ⟨q, 7, none⟩ _ (fun e => NQ.out _ (.inr (.inr (.inr e))) rfl)⟩
  have V5 : Hid (Vb (w'.setCell ⟨q, 7, none⟩ (.slice y Ln cap')) q #[.slice xa0 H.regs.length xk0, .int .i64 (feedV H ys).pc, .slice xa1 H.csr.length xk1, .bool (feedV H ys).halted, .bool (feedV H ys).waiting, .bool (feedV H ys).rung, .int .i64 (feedV H ys).done, .slice y Ln cap', .slice xa3 H.out.length xk3] 39) := V4.out.set 7 _
  have G5 : Hid (Mq (fun j => j = q ∨ (Value.slice xa2 l xk2).ownBlock = some j) W3 (w'.setCell ⟨q, 7, none⟩ (.slice y Ln cap'))) := (Mq.of G4.out fun k e => .inr e.symm).set ⟨q, 7, none⟩ _ (.inl rfl)
  clear c1 f1 V4 N4 G4
  generalize w'.setCell ⟨q, 7, none⟩ (.slice y Ln cap') = w4 at *
  obtain ⟨G, hG⟩ : ∃ G, feedV H ys = G := ⟨_, rfl⟩
  rw [hG] at M5 V5
  have HEG : Hid ((feedR H ys).2 = G) := HE2.out.trans hG
  have VR4 : Hid (Vb w4 (s + 1) #[.int .i64 0, .slice none 0 0, .int .i64 0, .slice none 0 0, .bool false, .bool false, .bool false, .int .i64 0, .slice none 0 0, .slice none 0 0] 43) := G5.out.vb VR3.out fun e => by
    have := LQ.out
    rcases e with e | e
    · have := VR2.out.lt; have := HQ.out; omega
    · have := (M2.out.own _ (.inr (.inr (.inl e)))).1; omega
  have B4 : Hid (Below w.heap.size w w4) := Mq.under B3.out G5.out fun k e => by
    have := B1.out.size; have := B2.out.size
    rcases e with e | e
    · have := HQ.out; omega
    · have := (M2.out.own _ (.inr (.inr (.inl e)))).1; omega
  clear hG
  generalize H.regs.length = g0 at *
  generalize H.csr.length = g1 at *
  generalize H.out.length = g3 at *
  have q0 := V5.out.cell 0 rfl
  have q1 := V5.out.cell 1 rfl
  have q2 := V5.out.cell 2 rfl
  have q3 := V5.out.cell 3 rfl
  have q4 := V5.out.cell 4 rfl
  have q5 := V5.out.cell 5 rfl
  have q6 := V5.out.cell 6 rfl
  have q7 := V5.out.cell 7 rfl
  have q8 := V5.out.cell 8 rfl
  have p0 := VR4.out.cell 0 rfl
  have f0 := VR4.out.free 0
  have p1 := VR4.out.cell 1 rfl
  have f1 := VR4.out.free 1
  have p2 := VR4.out.cell 2 rfl
  have f2 := VR4.out.free 2
  have p3 := VR4.out.cell 3 rfl
  have f3 := VR4.out.free 3
  have p4 := VR4.out.cell 4 rfl
  have f4 := VR4.out.free 4
  have p5 := VR4.out.cell 5 rfl
  have f5 := VR4.out.free 5
  have p6 := VR4.out.cell 6 rfl
  have f6 := VR4.out.free 6
  have p7 := VR4.out.cell 7 rfl
  have f7 := VR4.out.free 7
  have p8 := VR4.out.cell 8 rfl
  have f8 := VR4.out.free 8
  have p9 := VR4.out.cell 9 rfl
  have f9 := VR4.out.free 9
  go_wp2_with fail
  clear q0 q1 q2 q3 q4 q5 q6 q7 q8
  have NN : Hid (_ ∧ _) := ten VR4.out (.int .i64 0) (.slice xa0 g0 xk0) (.int .i64 G.pc) (.slice xa1 g1 xk1) (.bool G.halted) (.bool G.waiting) (.bool G.rung) (.int .i64 G.done) (.slice y Ln cap') (.slice xa3 g3 xk3)
  clear p0 f0 p1 f1 p2 f2 p3 f3 p4 f4 p5 f5 p6 f6 p7 f7 p8 f8 p9 f9
  generalize ((((((((((w4.setCell ⟨s + 1, 0, none⟩ (.int .i64 0)).setCell ⟨s + 1, 1, none⟩ (.slice xa0 g0 xk0)).setCell ⟨s + 1, 2, none⟩ (.int .i64 G.pc)).setCell ⟨s + 1, 3, none⟩ (.slice xa1 g1 xk1)).setCell ⟨s + 1, 4, none⟩ (.bool G.halted)).setCell ⟨s + 1, 5, none⟩ (.bool G.waiting)).setCell ⟨s + 1, 6, none⟩ (.bool G.rung)).setCell ⟨s + 1, 7, none⟩ (.int .i64 G.done)).setCell ⟨s + 1, 8, none⟩ (.slice y Ln cap')).setCell ⟨s + 1, 9, none⟩ (.slice xa3 g3 xk3)) = V at *
  have x0 := NN.out.1.cell 0 rfl
  have x1 := NN.out.1.cell 1 rfl
  have x2 := NN.out.1.cell 2 rfl
  have x3 := NN.out.1.cell 3 rfl
  have x4 := NN.out.1.cell 4 rfl
  have x5 := NN.out.1.cell 5 rfl
  have x6 := NN.out.1.cell 6 rfl
  have x7 := NN.out.1.cell 7 rfl
  have x8 := NN.out.1.cell 8 rfl
  have x9 := NN.out.1.cell 9 rfl
  have BV : Below w.heap.size w V := Mq.under B4.out NN.out.2 fun k e => by have := HS.out; omega
  have MV := NN.out.2
  refine bodyPost_ret (v := .agg #[.int .i64 0, .slice xa0 g0 xk0, .int .i64 G.pc, .slice xa1 g1 xk1, .bool G.halted, .bool G.waiting, .bool G.rung, .int .i64 G.done, .slice y Ln cap', .slice xa3 g3 xk3]) (by simp [results, Try.results18, go_sem, x0, x1, x2, x3, x4, x5, x6, x7, x8, x9]) rfl ?_
  rw [HE1.out, HEG.out]
  exact ⟨_, _, _, _, rfl, ((MV.hm M5.out fun k e f => by have := (M5.out.own k e).1; have := LQ.out; omega).mono B1.out.size), BV⟩
end Go.Proofs.Yteaccakodaidpaa
