/- DueOf, of both. -/
import Derived.Test.YtaajaikpkcgalaaDoorHds
namespace Go.Proofs.YtaajaikpkcgalaaDoor
open Go.RowKit
set_option linter.unusedVariables false

/-- What is due, as a code and a number. -/
def dueP (H : Ht) : Int × Int := if dueV H < 0 then (4, 0) else (0, dueV H)
theorem low_nonneg (b : Int) : 0 ≤ lowV b := by
  unfold lowV
  split
  · decide
  · split <;> decide

set_option maxRecDepth 20000 in
set_option maxHeartbeats 8000000 in
theorem i_due (m : Nat) (i o : Value) (H : Ht) (b : Nat) (w : World) (hv : Vb w m (mca H i o) 56) (hi : Nums w b i H.inn) (k : Hok H) (tb : Tab w) :
    Calls Tryd.prog 35 #[.pointer (some ⟨m, 0, none⟩)] w fun e w' => e = .returned (.agg #[.int .i64 (dueP H).1, .int .i64 (dueP H).2]) ∧ Below w.heap.size w w' := by
  have K : Hid (Hok H) := k
  have HV : Hid (Vb w m (mca H i o) 56) := hv
  have HI : Hid (Nums w b i H.inn) := hi
  have TB : Hid (Tab w) := tb
  clear k hv hi tb
  generalize hW : w.alloc (.cells #[.int .i64 0, .int .i64 0] 35) = W
  have B0 : Hid (Below w.heap.size w W) := by show Below _ _ _; rw [← hW]; exact al (Below.refl _ _) _
  obtain ⟨s, hS⟩ : ∃ s, w.heap.size = s := ⟨_, rfl⟩
  have HS : Hid (w.heap.size = s) := hS
  have VR : Hid (Vb W s #[.int .i64 0, .int .i64 0] 35) := by show Vb _ _ _ _; rw [← hW, ← hS]; exact Vb.new _ _ _
  have V0 : Hid (Vb W m (mca H i o) 56) := HV.out.keep B0.out
  have MI0 : Hid (Nums W b i H.inn) := HI.out.keep B0.out
  go_enter Tryd.func35, Tryd.ntmps35
  go_wp2_with fail
  clear hW hS
  refine (i_wanted _ _ _ H _ _ V0.out MI0.out (all_at K.out.cw 7).1 (all_at K.out.cw 7).2).mono ?_
  rintro e w4 ⟨rfl, b4⟩
  have B4 : Hid (Below w.heap.size w w4) := on B0.out b4
  have V4 : Hid (Vb w4 m (mca H i o) 56) := V0.out.keep b4
  have VR4 : Hid (Vb w4 s #[.int .i64 0, .int .i64 0] 35) := VR.out.keep b4
  have TB4 : Hid (Tab w4) := TB.out.keep B4.out
  obtain ⟨z, hz⟩ : ∃ g, gt H.csr 0 = g := ⟨_, rfl⟩
  have HZ : Hid (gt H.csr 0 = z) := hz
  have z0 : 0 ≤ z := by rw [← hz]; exact (all_at K.out.cw 0).1
  have z9 : z ≤ 4294967295 := by rw [← hz]; exact (all_at K.out.cw 0).2
  have t2 : z.tmod 2 = z % 2 := Int.tmod_eq_emod_of_nonneg z0
  have c17 : w4.cell? ⟨m, 17, none⟩ = some (.int .i64 z) := by rw [← hz]; exact V4.out.cell 17 rfl
  obtain ⟨g, hg⟩ : ∃ g, bothV H = g := ⟨_, rfl⟩
  have HG : Hid (bothV H = g) := hg
  have br := both_range H
  rw [hg] at br ⊢
  have BR : Hid (0 ≤ g ∧ g ≤ 7) := br
  clear hz hg b4 br
  by_cases hev : z % 2 = 0
  · have HD : Hid (dueV H = -1) := due_even (by rw [HZ.out]; exact hev)
    have HE1 : Hid ((dueP H).1 = 4) := by show _ = _; simp [dueP, HD.out]
    have HE2 : Hid ((dueP H).2 = 0) := by show _ = _; simp [dueP, HD.out]
    have p0 := VR4.out.cell 0 rfl
    have f0 := VR4.out.free 0
    have p1 := VR4.out.cell 1 rfl
    have f1 := VR4.out.free 1
    go_wp2_with fail
    have NN : Hid (_ ∧ _) := two VR4.out (.int .i64 4) (.int .i64 0)
    clear p0 f0 p1 f1
    generalize ((w4.setCell ⟨s, 0, none⟩ (.int .i64 4)).setCell ⟨s, 1, none⟩ (.int .i64 0)) = V at *
    have x0 := NN.out.1.cell 0 rfl
    have x1 := NN.out.1.cell 1 rfl
    exact bodyPost_ret (v := .agg #[.int .i64 4, .int .i64 0]) (by simp [results, Tryd.results35, go_sem, x0, x1]) rfl
      ⟨by rw [HE1.out, HE2.out], Mq.under B4.out NN.out.2 fun k e => by have := HS.out; omega⟩
  have hod : (z % 2 == 0) = false := by simp [hev]
  by_cases hg0 : g = 0
  · have HD : Hid (dueV H = -1) := due_none (HG.out.trans hg0)
    have HE1 : Hid ((dueP H).1 = 4) := by show _ = _; simp [dueP, HD.out]
    have HE2 : Hid ((dueP H).2 = 0) := by show _ = _; simp [dueP, HD.out]
    subst hg0
    have p0 := VR4.out.cell 0 rfl
    have f0 := VR4.out.free 0
    have p1 := VR4.out.cell 1 rfl
    have f1 := VR4.out.free 1
    go_wp2_with fail
    have NN : Hid (_ ∧ _) := two VR4.out (.int .i64 4) (.int .i64 0)
    clear p0 f0 p1 f1
    generalize ((w4.setCell ⟨s, 0, none⟩ (.int .i64 4)).setCell ⟨s, 1, none⟩ (.int .i64 0)) = V at *
    have x0 := NN.out.1.cell 0 rfl
    have x1 := NN.out.1.cell 1 rfl
    exact bodyPost_ret (v := .agg #[.int .i64 4, .int .i64 0]) (by simp [results, Tryd.results35, go_sem, x0, x1]) rfl
      ⟨by rw [HE1.out, HE2.out], Mq.under B4.out NN.out.2 fun k e => by have := HS.out; omega⟩
  have HD : Hid (dueV H = lowV g) := due_some (by rw [HZ.out]; exact hev) HG.out hg0
  have LR : Hid (0 ≤ lowV g) := low_nonneg g
  have HE1 : Hid ((dueP H).1 = 0) := by show _ = _; simp only [dueP]; rw [HD.out, if_neg (by have := LR.out; omega)]
  have HE2 : Hid ((dueP H).2 = lowV g) := by show _ = _; simp only [dueP]; rw [HD.out, if_neg (by have := LR.out; omega)]
  have g1 : 1 ≤ g := by have := BR.out; omega
  have g7 : g ≤ 7 := BR.out.2
  have G1 : Hid (1 ≤ g) := g1
  have p0 := VR4.out.cell 0 rfl
  have f0 := VR4.out.free 0
  have p1 := VR4.out.cell 1 rfl
  have f1 := VR4.out.free 1
  go_wp2_with (go_at_call 49; refine (i_zeros g _ G1.out BR.out.2 TB4.out).mono ?_; rintro e y ⟨rfl, hy⟩; rw [hy]; clear hy y)
  have NN : Hid (_ ∧ _) := two VR4.out (.int .i64 0) (.int .i64 (lowV g))
  clear p0 f0 p1 f1
  generalize ((w4.setCell ⟨s, 0, none⟩ (.int .i64 0)).setCell ⟨s, 1, none⟩ (.int .i64 (lowV g))) = V at *
  have x0 := NN.out.1.cell 0 rfl
  have x1 := NN.out.1.cell 1 rfl
  exact bodyPost_ret (v := .agg #[.int .i64 0, .int .i64 (lowV g)]) (by simp [results, Tryd.results35, go_sem, x0, x1]) rfl
    ⟨by rw [HE1.out, HE2.out], Mq.under B4.out NN.out.2 fun k e => by have := HS.out; omega⟩

set_option maxRecDepth 20000 in
set_option maxHeartbeats 8000000 in
theorem i_dueOf (r c i o : Value) (H : Ht) (b : Nat) (w : World) (h : Hm w b r c i o H) (tb : Tab w) :
    Calls Tryd.prog 11 #[.agg #[r, .int .i64 H.pc, c, .bool H.halted, .bool H.waiting, .bool H.rung, .int .i64 H.done, i, o]] w fun e w' => e = .returned (.agg #[.int .i64 (dueR H).1, .int .i64 (dueR H).2]) ∧ Below w.heap.size w w' := by
  have HM : Hid (Hm w b r c i o H) := h
  have TB : Hid (Tab w) := tb
  clear tb
  obtain ⟨a0, k0, rfl, _⟩ := h.r.shape
  obtain ⟨a1, k1, rfl, _⟩ := h.c.shape
  obtain ⟨a2, k2, rfl, _⟩ := h.i.shape
  obtain ⟨a3, k3, rfl, _⟩ := h.o.shape
  clear h
  generalize hW : (w.alloc (.cells #[.slice a0 H.regs.length k0, .int .i64 H.pc, .slice a1 H.csr.length k1, .bool H.halted, .bool H.waiting, .bool H.rung, .int .i64 H.done, .slice a2 H.inn.length k2, .slice a3 H.out.length k3] 26)).alloc (.cells #[.int .i64 0, .int .i64 0] 35) = W
  have B0 : Hid (Below w.heap.size w W) := by show Below _ _ _; rw [← hW]; exact al (al (Below.refl _ _) _) _
  obtain ⟨s, hS⟩ : ∃ s, w.heap.size = s := ⟨_, rfl⟩
  have HS : Hid (w.heap.size = s) := hS
  have VA : Hid (Vb W s #[.slice a0 H.regs.length k0, .int .i64 H.pc, .slice a1 H.csr.length k1, .bool H.halted, .bool H.waiting, .bool H.rung, .int .i64 H.done, .slice a2 H.inn.length k2, .slice a3 H.out.length k3] 26) := by
    show Vb _ _ _ _; rw [← hW, ← hS]; exact (Vb.new _ _ _).push _
  have VR : Hid (Vb W (s + 1) #[.int .i64 0, .int .i64 0] 35) := by
    have z1 : s + 1 = (w.alloc (.cells #[.slice a0 H.regs.length k0, .int .i64 H.pc, .slice a1 H.csr.length k1, .bool H.halted, .bool H.waiting, .bool H.rung, .int .i64 H.done, .slice a2 H.inn.length k2, .slice a3 H.out.length k3] 26)).heap.size := by rw [← hS]; simp
    show Vb _ _ _ _; rw [← hW, z1]; exact Vb.new _ _ _
  have q0 := VA.out.cell 0 rfl
  have q1 := VA.out.cell 1 rfl
  have q2 := VA.out.cell 2 rfl
  have q3 := VA.out.cell 3 rfl
  have q4 := VA.out.cell 4 rfl
  have q5 := VA.out.cell 5 rfl
  have q6 := VA.out.cell 6 rfl
  have q7 := VA.out.cell 7 rfl
  have q8 := VA.out.cell 8 rfl
  go_enter Tryd.func11, Tryd.ntmps11
  go_wp2_with fail
  clear hW hS q0 q1 q2 q3 q4 q5 q6 q7 q8
  refine (i_fault _ _ _ _ H _ _ (HM.out.keep B0.out)).mono ?_
  rintro e w1 ⟨rfl, b1⟩
  have B1 : Hid (Below w.heap.size w w1) := on B0.out b1
  have VA1 : Hid (Vb w1 s #[.slice a0 H.regs.length k0, .int .i64 H.pc, .slice a1 H.csr.length k1, .bool H.halted, .bool H.waiting, .bool H.rung, .int .i64 H.done, .slice a2 H.inn.length k2, .slice a3 H.out.length k3] 26) := VA.out.keep b1
  have VR1 : Hid (Vb w1 (s + 1) #[.int .i64 0, .int .i64 0] 35) := VR.out.keep b1
  have M1 : Hid (Hm w1 b _ _ _ _ H) := HM.out.keep B1.out
  clear b1 VA VR
  by_cases hf : hfV H = 0
  case neg =>
    have HE1 : Hid ((dueR H).1 = hfV H) := by show _ = _; simp only [dueR, if_neg hf]
    have HE2 : Hid ((dueR H).2 = 0) := by show _ = _; simp only [dueR, if_neg hf]
    generalize hfV H = f at *
    have p0 := VR1.out.cell 0 rfl
    have f0 := VR1.out.free 0
    have p1 := VR1.out.cell 1 rfl
    have f1 := VR1.out.free 1
    go_wp2_with fail
    have NN : Hid (_ ∧ _) := two VR1.out (.int .i64 f) (.int .i64 0)
    clear p0 f0 p1 f1
    generalize ((w1.setCell ⟨s + 1, 0, none⟩ (.int .i64 f)).setCell ⟨s + 1, 1, none⟩ (.int .i64 0)) = V at *
    have x0 := NN.out.1.cell 0 rfl
    have x1 := NN.out.1.cell 1 rfl
    exact bodyPost_ret (v := .agg #[.int .i64 f, .int .i64 0]) (by simp [results, Tryd.results11, go_sem, x0, x1]) rfl
      ⟨by rw [HE1.out, HE2.out], Mq.under B1.out NN.out.2 fun k e => by have := HS.out; omega⟩
  have K : Hid (Hok H) := hok_of hf
  have HF : Hid (hfV H = 0) := hf
  rw [hf]
  have q0 := VA1.out.cell 0 rfl
  have q1 := VA1.out.cell 1 rfl
  have q2 := VA1.out.cell 2 rfl
  have q3 := VA1.out.cell 3 rfl
  have q4 := VA1.out.cell 4 rfl
  have q5 := VA1.out.cell 5 rfl
  have q6 := VA1.out.cell 6 rfl
  have q7 := VA1.out.cell 7 rfl
  have q8 := VA1.out.cell 8 rfl
  go_wp2_with fail
  clear q0 q1 q2 q3 q4 q5 q6 q7 q8
  refine (i_machine _ _ _ _ H _ _ M1.out K.out.r16 K.out.c11 (by have := K.out.i40; omega) (by have := K.out.o40; omega)).mono ?_
  rintro e w2 ⟨i2, o2, rfl, mi, mo, ap, b2⟩
  obtain ⟨xa, xk, rfl, _⟩ := mi.shape
  obtain ⟨ya, yk, rfl, _⟩ := mo.shape
  generalize hxn : H.inn.length = xn at *
  generalize hyn : H.out.length = yn at *
  have hst := mca_store H xa xn xk ya yn yk w2
  have hsz := mca_size H (.slice xa xn xk) (.slice ya yn yk)
  have MI : Hid (Nums w2 w1.heap.size (.slice xa xn xk) H.inn) := mi
  have B2 : Hid (Below w.heap.size w w2) := on B1.out b2
  have VR2 : Hid (Vb w2 (s + 1) #[.int .i64 0, .int .i64 0] 35) := VR1.out.keep b2
  clear mi mo ap b2 hxn hyn
  go_wp2_with fail
  generalize hW3 : w2.alloc (.cells (mca H (.slice xa xn xk) (.slice ya yn yk)) 56) = W3
  obtain ⟨m, hm⟩ : ∃ m, w2.heap.size = m := ⟨_, rfl⟩
  rw [hm]
  have V3 : Hid (Vb W3 m (mca H (.slice xa xn xk) (.slice ya yn yk)) 56) := by show Vb _ _ _ _; rw [← hW3, ← hm]; exact Vb.new _ _ _
  have B3 : Hid (Below w.heap.size w W3) := by show Below _ _ _; rw [← hW3]; exact al B2.out _
  have VR3 : Hid (Vb W3 (s + 1) #[.int .i64 0, .int .i64 0] 35) := by show Vb _ _ _ _; rw [← hW3]; exact VR2.out.push _
  have MI3 : Hid (Nums W3 w1.heap.size (.slice xa xn xk) H.inn) := by show Nums _ _ _ _; rw [← hW3]; exact MI.out.keep (al (Below.refl _ _) _)
  have TB3 : Hid (Tab W3) := TB.out.keep B3.out
  clear hst hsz hW3 hm
  refine (i_due _ _ _ H _ _ V3.out MI3.out K.out TB3.out).mono ?_
  rintro e w4 ⟨rfl, b4⟩
  have B4 : Hid (Below w.heap.size w w4) := on B3.out b4
  have VR4 : Hid (Vb w4 (s + 1) #[.int .i64 0, .int .i64 0] 35) := VR3.out.keep b4
  have HE1 : Hid ((dueR H).1 = (dueP H).1) := by show _ = _; simp only [dueR, dueP, if_pos HF.out]
  have HE2 : Hid ((dueR H).2 = (dueP H).2) := by show _ = _; simp only [dueR, dueP, if_pos HF.out]
  generalize (dueP H).1 = d1 at *
  generalize (dueP H).2 = d2 at *
  have p0 := VR4.out.cell 0 rfl
  have f0 := VR4.out.free 0
  have p1 := VR4.out.cell 1 rfl
  have f1 := VR4.out.free 1
  go_wp2_with fail
  have NN : Hid (_ ∧ _) := two VR4.out (.int .i64 d1) (.int .i64 d2)
  clear p0 f0 p1 f1
  generalize ((w4.setCell ⟨s + 1, 0, none⟩ (.int .i64 d1)).setCell ⟨s + 1, 1, none⟩ (.int .i64 d2)) = V at *
  have x0 := NN.out.1.cell 0 rfl
  have x1 := NN.out.1.cell 1 rfl
  exact bodyPost_ret (v := .agg #[.int .i64 d1, .int .i64 d2]) (by simp [results, Tryd.results11, go_sem, x0, x1]) rfl
    ⟨by rw [HE1.out, HE2.out], Mq.under B4.out NN.out.2 fun k e => by have := HS.out; omega⟩

set_option maxRecDepth 20000 in
set_option maxHeartbeats 8000000 in
theorem s_dueOf (r c i o : Value) (H : Ht) (b : Nat) (w : World) (h : Hm w b r c i o H) :
    Calls Tryd.prog 15 #[.agg #[r, .int .i64 H.pc, c, .bool H.halted, .bool H.waiting, .bool H.rung, .int .i64 H.done, i, o]] w fun e w' => e = .returned (.agg #[.int .i64 (dueR H).1, .int .i64 (dueR H).2]) ∧ Below w.heap.size w w' := by
  have HM : Hid (Hm w b r c i o H) := h
  obtain ⟨a0, k0, rfl, _⟩ := h.r.shape
  obtain ⟨a1, k1, rfl, _⟩ := h.c.shape
  obtain ⟨a2, k2, rfl, _⟩ := h.i.shape
  obtain ⟨a3, k3, rfl, _⟩ := h.o.shape
  clear h
  generalize hW : (w.alloc (.cells #[.slice a0 H.regs.length k0, .int .i64 H.pc, .slice a1 H.csr.length k1, .bool H.halted, .bool H.waiting, .bool H.rung, .int .i64 H.done, .slice a2 H.inn.length k2, .slice a3 H.out.length k3] 26)).alloc (.cells #[.int .i64 0, .int .i64 0] 35) = W
  have B0 : Hid (Below w.heap.size w W) := by show Below _ _ _; rw [← hW]; exact al (al (Below.refl _ _) _) _
  obtain ⟨s, hS⟩ : ∃ s, w.heap.size = s := ⟨_, rfl⟩
  have HS : Hid (w.heap.size = s) := hS
  have VA : Hid (Vb W s #[.slice a0 H.regs.length k0, .int .i64 H.pc, .slice a1 H.csr.length k1, .bool H.halted, .bool H.waiting, .bool H.rung, .int .i64 H.done, .slice a2 H.inn.length k2, .slice a3 H.out.length k3] 26) := by
    show Vb _ _ _ _; rw [← hW, ← hS]; exact (Vb.new _ _ _).push _
  have VR : Hid (Vb W (s + 1) #[.int .i64 0, .int .i64 0] 35) := by
    have z1 : s + 1 = (w.alloc (.cells #[.slice a0 H.regs.length k0, .int .i64 H.pc, .slice a1 H.csr.length k1, .bool H.halted, .bool H.waiting, .bool H.rung, .int .i64 H.done, .slice a2 H.inn.length k2, .slice a3 H.out.length k3] 26)).heap.size := by rw [← hS]; simp
    show Vb _ _ _ _; rw [← hW, z1]; exact Vb.new _ _ _
  have q0 := VA.out.cell 0 rfl
  have q1 := VA.out.cell 1 rfl
  have q2 := VA.out.cell 2 rfl
  have q3 := VA.out.cell 3 rfl
  have q4 := VA.out.cell 4 rfl
  have q5 := VA.out.cell 5 rfl
  have q6 := VA.out.cell 6 rfl
  have q7 := VA.out.cell 7 rfl
  have q8 := VA.out.cell 8 rfl
  go_enter Tryd.func15, Tryd.ntmps15
  go_wp2_with fail
  clear hW hS q0 q1 q2 q3 q4 q5 q6 q7 q8
  refine (s_fault _ _ _ _ _ H _ _ (HM.out.keep B0.out) VA.out).mono ?_
  rintro e w1 ⟨rfl, hw1⟩
  have b1 : Below W.heap.size W w1 := by rw [hw1]; exact Below.refl _ _
  clear hw1
  have B1 : Hid (Below w.heap.size w w1) := on B0.out b1
  have VA1 : Hid (Vb w1 s #[.slice a0 H.regs.length k0, .int .i64 H.pc, .slice a1 H.csr.length k1, .bool H.halted, .bool H.waiting, .bool H.rung, .int .i64 H.done, .slice a2 H.inn.length k2, .slice a3 H.out.length k3] 26) := VA.out.keep b1
  have VR1 : Hid (Vb w1 (s + 1) #[.int .i64 0, .int .i64 0] 35) := VR.out.keep b1
  have M1 : Hid (Hm w1 b _ _ _ _ H) := HM.out.keep B1.out
  clear b1 VA VR
  by_cases hf : hfV H = 0
  case neg =>
    have HE1 : Hid ((dueR H).1 = hfV H) := by show _ = _; simp only [dueR, if_neg hf]
    have HE2 : Hid ((dueR H).2 = 0) := by show _ = _; simp only [dueR, if_neg hf]
    generalize hfV H = f at *
    have p0 := VR1.out.cell 0 rfl
    have f0 := VR1.out.free 0
    have p1 := VR1.out.cell 1 rfl
    have f1 := VR1.out.free 1
    go_wp2_with fail
    have NN : Hid (_ ∧ _) := two VR1.out (.int .i64 f) (.int .i64 0)
    clear p0 f0 p1 f1
    generalize ((w1.setCell ⟨s + 1, 0, none⟩ (.int .i64 f)).setCell ⟨s + 1, 1, none⟩ (.int .i64 0)) = V at *
    have x0 := NN.out.1.cell 0 rfl
    have x1 := NN.out.1.cell 1 rfl
    exact bodyPost_ret (v := .agg #[.int .i64 f, .int .i64 0]) (by simp [results, Tryd.results15, go_sem, x0, x1]) rfl
      ⟨by rw [HE1.out, HE2.out], Mq.under B1.out NN.out.2 fun k e => by have := HS.out; omega⟩
  have K : Hid (Hok H) := hok_of hf
  have HF : Hid (hfV H = 0) := hf
  rw [hf]
  go_wp2_with fail
  refine (s_due _ _ _ _ _ H _ _ M1.out VA1.out K.out).mono ?_
  rintro e w4 ⟨rfl, b4⟩
  have B3 : Hid (Below w.heap.size w w4) := on B1.out b4
  have VR3 : Hid (Vb w4 (s + 1) #[.int .i64 0, .int .i64 0] 35) := VR1.out.keep b4
  obtain ⟨g, hg⟩ : ∃ g, dueV H = g := ⟨_, rfl⟩
  have HG : Hid (dueV H = g) := hg
  rw [hg]
  clear hg b4
  by_cases hn : g < 0
  · have HE1 : Hid ((dueR H).1 = 4) := by show _ = _; simp [dueR, HF.out, HG.out, hn]
    have HE2 : Hid ((dueR H).2 = 0) := by show _ = _; simp [dueR, HF.out, HG.out, hn]
    have p0 := VR3.out.cell 0 rfl
    have f0 := VR3.out.free 0
    have p1 := VR3.out.cell 1 rfl
    have f1 := VR3.out.free 1
    go_wp2_with fail
    have NN : Hid (_ ∧ _) := two VR3.out (.int .i64 4) (.int .i64 0)
    clear p0 f0 p1 f1
    generalize ((w4.setCell ⟨s + 1, 0, none⟩ (.int .i64 4)).setCell ⟨s + 1, 1, none⟩ (.int .i64 0)) = V at *
    have x0 := NN.out.1.cell 0 rfl
    have x1 := NN.out.1.cell 1 rfl
    exact bodyPost_ret (v := .agg #[.int .i64 4, .int .i64 0]) (by simp [results, Tryd.results15, go_sem, x0, x1]) rfl
      ⟨by rw [HE1.out, HE2.out], Mq.under B3.out NN.out.2 fun k e => by have := HS.out; omega⟩
  have HE1 : Hid ((dueR H).1 = 0) := by show _ = _; simp only [dueR]; rw [if_pos HF.out, HG.out, if_neg hn]
  have HE2 : Hid ((dueR H).2 = g) := by show _ = _; simp only [dueR]; rw [if_pos HF.out, HG.out, if_neg hn]
  have p0 := VR3.out.cell 0 rfl
  have f0 := VR3.out.free 0
  have p1 := VR3.out.cell 1 rfl
  have f1 := VR3.out.free 1
  go_wp2_with fail
  have NN : Hid (_ ∧ _) := two VR3.out (.int .i64 0) (.int .i64 g)
  clear p0 f0 p1 f1
  generalize ((w4.setCell ⟨s + 1, 0, none⟩ (.int .i64 0)).setCell ⟨s + 1, 1, none⟩ (.int .i64 g)) = V at *
  have x0 := NN.out.1.cell 0 rfl
  have x1 := NN.out.1.cell 1 rfl
  exact bodyPost_ret (v := .agg #[.int .i64 0, .int .i64 g]) (by simp [results, Tryd.results15, go_sem, x0, x1]) rfl
    ⟨by rw [HE1.out, HE2.out], Mq.under B3.out NN.out.2 fun k e => by have := HS.out; omega⟩

end Go.Proofs.YtaajaikpkcgalaaDoor
