/- GetCsr and PendingOf, of both. -/
import Derived.Test.YtaajaikpkcgalaaDoorHob
namespace Go.Proofs.YtaajaikpkcgalaaDoor
open Go.RowKit
set_option linter.unusedVariables false

set_option maxRecDepth 20000 in
set_option maxHeartbeats 8000000 in
theorem i_getCsr (r c i o : Value) (H : Ht) (k : Int) (b : Nat) (w : World) (h : Hm w b r c i o H) :
    Calls Tryd.prog 13 #[.agg #[r, .int .i64 H.pc, c, .bool H.halted, .bool H.waiting, .bool H.rung, .int .i64 H.done, i, o], .int .i64 k] w fun e w' => e = .returned (.agg #[.int .i64 (getR H k).1, .int .i64 (getR H k).2]) ∧ Below w.heap.size w w' := by
  have HM : Hid (Hm w b r c i o H) := h
  obtain ⟨a0, k0, rfl, _⟩ := h.r.shape
  obtain ⟨a1, k1, rfl, _⟩ := h.c.shape
  obtain ⟨a2, k2, rfl, _⟩ := h.i.shape
  obtain ⟨a3, k3, rfl, _⟩ := h.o.shape
  clear h
  generalize hW : (w.alloc (.cells #[.slice a0 H.regs.length k0, .int .i64 H.pc, .slice a1 H.csr.length k1, .bool H.halted, .bool H.waiting, .bool H.rung, .int .i64 H.done, .slice a2 H.inn.length k2, .slice a3 H.out.length k3] 26)).alloc (.cells #[.int .i64 0, .int .i64 0] 35) = W
  have B0 : Hid (Below w.heap.size w W) := by show Below _ _ _; rw [← hW]; exact al (al (Below.refl _ _) _) _
  obtain ⟨s, hS⟩ : ∃ s, w.heap.size = s := ⟨_, rfl⟩
  have HS : Hid (w.heap.size = s) := hS
  have VA : Hid (Vb W s #[.slice a0 H.regs.length k0, .int .i64 H.pc, .slice a1 H.csr.length k1, .bool H.halted, .bool H.waiting, .bool H.rung, .int .i64 H.done, .slice a2 H.inn.length k2, .slice a3 H.out.length k3] 26) := by
    show Vb _ _ _ _; rw [← hW, ← hS]; exact (Vb.new _ _ _).push _
  have VR : Hid (Vb W (s + 1) #[.int .i64 0, .int .i64 0] 35) := by
    have z1 : s + 1 = (w.alloc (.cells #[.slice a0 H.regs.length k0, .int .i64 H.pc, .slice a1 H.csr.length k1, .bool H.halted, .bool H.waiting, .bool H.rung, .int .i64 H.done, .slice a2 H.inn.length k2, .slice a3 H.out.length k3] 26)).heap.size := by rw [← hS]; simp
    show Vb _ _ _ _; rw [← hW, z1]; exact Vb.new _ _ _
  have q0 := VA.out.cell 0 rfl
  have q1 := VA.out.cell 1 rfl
  have q2 := VA.out.cell 2 rfl
  have q3 := VA.out.cell 3 rfl
  have q4 := VA.out.cell 4 rfl
  have q5 := VA.out.cell 5 rfl
  have q6 := VA.out.cell 6 rfl
  have q7 := VA.out.cell 7 rfl
  have q8 := VA.out.cell 8 rfl
  go_enter Tryd.func13, Tryd.ntmps13
  go_wp2_with fail
  clear hW hS q0 q1 q2 q3 q4 q5 q6 q7 q8
  refine (i_fault _ _ _ _ H _ _ (HM.out.keep B0.out)).mono ?_
  rintro e w1 ⟨rfl, b1⟩
  have B1 : Hid (Below w.heap.size w w1) := on B0.out b1
  have VA1 : Hid (Vb w1 s #[.slice a0 H.regs.length k0, .int .i64 H.pc, .slice a1 H.csr.length k1, .bool H.halted, .bool H.waiting, .bool H.rung, .int .i64 H.done, .slice a2 H.inn.length k2, .slice a3 H.out.length k3] 26) := VA.out.keep b1
  have VR1 : Hid (Vb w1 (s + 1) #[.int .i64 0, .int .i64 0] 35) := VR.out.keep b1
  have M1 : Hid (Hm w1 b _ _ _ _ H) := HM.out.keep B1.out
  clear b1 VA VR
  by_cases hf : hfV H = 0
  case neg =>
    have E1 : (getR H k).1 = hfV H := by simp only [getR, if_neg hf]
    have E2 : (getR H k).2 = 0 := by simp only [getR, if_neg hf]
    have HE1 : Hid ((getR H k).1 = hfV H) := E1
    have HE2 : Hid ((getR H k).2 = 0) := E2
    clear E1 E2
    generalize hfV H = f at *
    have p0 := VR1.out.cell 0 rfl
    have f0 := VR1.out.free 0
    have p1 := VR1.out.cell 1 rfl
    have f1 := VR1.out.free 1
    go_wp2_with fail
    have NN : Hid (_ ∧ _) := two VR1.out (.int .i64 f) (.int .i64 0)
    clear p0 f0 p1 f1
    generalize ((w1.setCell ⟨s + 1, 0, none⟩ (.int .i64 f)).setCell ⟨s + 1, 1, none⟩ (.int .i64 0)) = V at *
    have x0 := NN.out.1.cell 0 rfl
    have x1 := NN.out.1.cell 1 rfl
    exact bodyPost_ret (v := .agg #[.int .i64 f, .int .i64 0]) (by simp [results, Tryd.results13, go_sem, x0, x1]) rfl
      ⟨by rw [HE1.out, HE2.out], Mq.under B1.out NN.out.2 fun k e => by have := HS.out; omega⟩
  have K : Hid (Hok H) := hok_of hf
  have HF : Hid (hfV H = 0) := hf
  rw [hf]
  cases hk : (decide (0 ≤ k) && decide (k ≤ 10))
  case false =>
    have HE1 : Hid ((getR H k).1 = 3) := by show _ = _; simp [getR, hf, hk]
    have HE2 : Hid ((getR H k).2 = 0) := by show _ = _; simp [getR, hf, hk]
    have p0 := VR1.out.cell 0 rfl
    have f0 := VR1.out.free 0
    have p1 := VR1.out.cell 1 rfl
    have f1 := VR1.out.free 1
    go_wp2_with (go_at_call 36; refine (i_isCsr _ _).mono ?_; rintro e x ⟨rfl, hx⟩; rw [hx]; clear hx x; rw [hk])
    have NN : Hid (_ ∧ _) := two VR1.out (.int .i64 3) (.int .i64 0)
    clear p0 f0 p1 f1
    generalize ((w1.setCell ⟨s + 1, 0, none⟩ (.int .i64 3)).setCell ⟨s + 1, 1, none⟩ (.int .i64 0)) = V at *
    have x0 := NN.out.1.cell 0 rfl
    have x1 := NN.out.1.cell 1 rfl
    exact bodyPost_ret (v := .agg #[.int .i64 3, .int .i64 0]) (by simp [results, Tryd.results13, go_sem, x0, x1]) rfl
      ⟨by rw [HE1.out, HE2.out], Mq.under B1.out NN.out.2 fun k e => by have := HS.out; omega⟩
  have HK : Hid (0 ≤ k ∧ k ≤ 10) := by show _ ∧ _; simpa using hk
  have HE1 : Hid ((getR H k).1 = 0) := by show _ = _; simp [getR, hf, hk]
  have HE2 : Hid ((getR H k).2 = getV H k) := by show _ = _; simp [getR, hf, hk]
  have q0 := VA1.out.cell 0 rfl
  have q1 := VA1.out.cell 1 rfl
  have q2 := VA1.out.cell 2 rfl
  have q3 := VA1.out.cell 3 rfl
  have q4 := VA1.out.cell 4 rfl
  have q5 := VA1.out.cell 5 rfl
  have q6 := VA1.out.cell 6 rfl
  have q7 := VA1.out.cell 7 rfl
  have q8 := VA1.out.cell 8 rfl
  go_wp2_with (go_at_call 36; refine (i_isCsr _ _).mono ?_; rintro e x ⟨rfl, hx⟩; rw [hx]; clear hx x; rw [hk])
  clear q0 q1 q2 q3 q4 q5 q6 q7 q8
  refine (i_machine _ _ _ _ H _ _ M1.out K.out.r16 K.out.c11 (by have := K.out.i40; omega) (by have := K.out.o40; omega)).mono ?_
  rintro e w2 ⟨i2, o2, rfl, mi, mo, ap, b2⟩
  obtain ⟨xa, xk, rfl, _⟩ := mi.shape
  obtain ⟨ya, yk, rfl, _⟩ := mo.shape
  generalize hxn : H.inn.length = xn at *
  generalize hyn : H.out.length = yn at *
  have hst := mca_store H xa xn xk ya yn yk w2
  have hsz := mca_size H (.slice xa xn xk) (.slice ya yn yk)
  have MI : Hid (Nums w2 w1.heap.size (.slice xa xn xk) H.inn) := mi
  have B2 : Hid (Below w.heap.size w w2) := on B1.out b2
  have VR2 : Hid (Vb w2 (s + 1) #[.int .i64 0, .int .i64 0] 35) := VR1.out.keep b2
  clear mi mo ap b2 hxn hyn
  go_wp2_with fail
  generalize hW3 : w2.alloc (.cells (mca H (.slice xa xn xk) (.slice ya yn yk)) 56) = W3
  have V3 : Hid (Vb W3 w2.heap.size (mca H (.slice xa xn xk) (.slice ya yn yk)) 56) := by show Vb _ _ _ _; rw [← hW3]; exact Vb.new _ _ _
  have B3 : Hid (Below w.heap.size w W3) := by show Below _ _ _; rw [← hW3]; exact al B2.out _
  have VR3 : Hid (Vb W3 (s + 1) #[.int .i64 0, .int .i64 0] 35) := by show Vb _ _ _ _; rw [← hW3]; exact VR2.out.push _
  have MI3 : Hid (Nums W3 w1.heap.size (.slice xa xn xk) H.inn) := by show Nums _ _ _ _; rw [← hW3]; exact MI.out.keep (al (Below.refl _ _) _)
  clear hst hsz hW3
  refine (i_get _ _ _ H k _ _ V3.out MI3.out HK.out.1 HK.out.2).mono ?_
  rintro e w4 ⟨rfl, rfl⟩
  obtain ⟨g, hg⟩ : ∃ g, getV H k = g := ⟨_, rfl⟩
  rw [hg]
  have HE3 : Hid ((getR H k).2 = g) := HE2.out.trans hg
  clear hg
  have p0 := VR3.out.cell 0 rfl
  have f0 := VR3.out.free 0
  have p1 := VR3.out.cell 1 rfl
  have f1 := VR3.out.free 1
  go_wp2_with fail
  have NN : Hid (_ ∧ _) := two VR3.out (.int .i64 0) (.int .i64 g)
  clear p0 f0 p1 f1
  generalize ((w4.setCell ⟨s + 1, 0, none⟩ (.int .i64 0)).setCell ⟨s + 1, 1, none⟩ (.int .i64 g)) = V at *
  have x0 := NN.out.1.cell 0 rfl
  have x1 := NN.out.1.cell 1 rfl
  exact bodyPost_ret (v := .agg #[.int .i64 0, .int .i64 g]) (by simp [results, Tryd.results13, go_sem, x0, x1]) rfl
    ⟨by rw [HE1.out, HE3.out], Mq.under B3.out NN.out.2 fun k e => by have := HS.out; omega⟩

end Go.Proofs.YtaajaikpkcgalaaDoor
