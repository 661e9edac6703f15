/- Texts of this seat, joined. -/
import Derived.Deep.Cut
import Derived.Test.YtbegbphbcjoglaaGreatDoorQ38
namespace Go.Proofs.YtbegbphbcjoglaaGreatDoor
open Go.RowKit
set_option linter.unusedVariables false

def newR (zs : List Int) : Int × Ht := if 40 < zs.length then (2, voidH) else (if zs.all isW then (0, newV zs) else (3, voidH))
/-- The cells of a new machine. -/
def mnw (a : Option Addr) (n k : Nat) : Array Value := #[.int .i64 0, .int .i64 0, .int .i64 0, .int .i64 0, .int .i64 0, .int .i64 0, .int .i64 0, .int .i64 0, .int .i64 0, .int .i64 0, .int .i64 0, .int .i64 0, .int .i64 0, .int .i64 0, .int .i64 0, .int .i64 0, .int .i64 0, .int .i64 0, .int .i64 0, .int .i64 0, .int .i64 0, .int .i64 0, .int .i64 0, .int .i64 0, .int .i64 0, .int .i64 0, .int .i64 0, .int .i64 0, .bool false, .bool false, .bool false, .int .i64 0, .slice a n k, .slice none 0 0]
theorem mnw_lit (a : Option Addr) (n k : Nat) : #[.int .i64 0, .int .i64 0, .int .i64 0, .int .i64 0, .int .i64 0, .int .i64 0, .int .i64 0, .int .i64 0, .int .i64 0, .int .i64 0, .int .i64 0, .int .i64 0, .int .i64 0, .int .i64 0, .int .i64 0, .int .i64 0, .int .i64 0, .int .i64 0, .int .i64 0, .int .i64 0, .int .i64 0, .int .i64 0, .int .i64 0, .int .i64 0, .int .i64 0, .int .i64 0, .int .i64 0, .int .i64 0, .bool false, .bool false, .bool false, .int .i64 0, .slice a n k, .slice none 0 0] = mnw a n k := rfl
theorem mnw_eq (zs : List Int) (a : Option Addr) (n k : Nat) : mnw a n k = mca (newV zs) (.slice a n k) (.slice none 0 0) := rfl
theorem mnw_size (a : Option Addr) (n k : Nat) : (mnw a n k).size = 34 := rfl
theorem mnw_store (a : Option Addr) (n k : Nat) (w : World) : (storeCells ⟨w.heap.size, 0, none⟩ (mnw a n k).toList 0).run Tryz.prog (w.alloc (.cells #[.int .i64 0, .int .i64 0, .int .i64 0, .int .i64 0, .int .i64 0, .int .i64 0, .int .i64 0, .int .i64 0, .int .i64 0, .int .i64 0, .int .i64 0, .int .i64 0, .int .i64 0, .int .i64 0, .int .i64 0, .int .i64 0, .int .i64 0, .int .i64 0, .int .i64 0, .int .i64 0, .int .i64 0, .int .i64 0, .int .i64 0, .int .i64 0, .int .i64 0, .int .i64 0, .int .i64 0, .int .i64 0, .bool false, .bool false, .bool false, .int .i64 0, .slice none 0 0, .slice none 0 0] 78)) = .ok () (w.alloc (.cells (mnw a n k) 78)) :=
  run_storeCells_new (P := Tryz.prog) w 78 #[.int .i64 0, .int .i64 0, .int .i64 0, .int .i64 0, .int .i64 0, .int .i64 0, .int .i64 0, .int .i64 0, .int .i64 0, .int .i64 0, .int .i64 0, .int .i64 0, .int .i64 0, .int .i64 0, .int .i64 0, .int .i64 0, .int .i64 0, .int .i64 0, .int .i64 0, .int .i64 0, .int .i64 0, .int .i64 0, .int .i64 0, .int .i64 0, .int .i64 0, .int .i64 0, .int .i64 0, .int .i64 0, .bool false, .bool false, .bool false, .int .i64 0, .slice none 0 0, .slice none 0 0] (mnw a n k) (by kernel_rfl) rfl (by simp [mnw, Value.oneCell'])

set_option maxRecDepth 20000 in
set_option maxHeartbeats 8000000 in
theorem i_newHart (v : Value) (zs : List Int) (b : Nat) (w : World) (h : Nums w b v zs) :
    Calls Tryz.prog 29 #[v] w fun e w' => ∃ r' c' i' o', e = .returned (.agg #[.int .i64 (newR zs).1, r', .int .i64 (newR zs).2.pc, c', .bool (newR zs).2.halted, .bool (newR zs).2.waiting, .bool (newR zs).2.rung, .int .i64 (newR zs).2.done, i', o']) ∧ Hm w' w.heap.size r' c' i' o' (newR zs).2 ∧ Ha r' c' i' o' ∧ Below w.heap.size w w' := by
  have HN : Hid (Nums w b v zs) := h
  obtain ⟨a, k, rfl, _⟩ := h.shape
  obtain ⟨n, hn⟩ : ∃ n, zs.length = n := ⟨_, rfl⟩
  have hl : (n : Int) ≤ 9223372036854775807 := by have := h.lens; unfold maxLen at this; omega
  rw [hn] at HN ⊢
  have HL : Hid (zs.length = n) := hn
  clear h hn
  generalize hW : w.alloc (.cells #[.int .i64 0, .slice none 0 0, .int .i64 0, .slice none 0 0, .bool false, .bool false, .bool false, .int .i64 0, .slice none 0 0, .slice none 0 0] 59) = W
  have B0 : Hid (Below w.heap.size w W) := by show Below _ _ _; rw [← hW]; exact al (Below.refl _ _) _
  obtain ⟨s, hS⟩ : ∃ s, w.heap.size = s := ⟨_, rfl⟩
  have HS : Hid (w.heap.size = s) := hS
  have VR : Hid (Vb W s #[.int .i64 0, .slice none 0 0, .int .i64 0, .slice none 0 0, .bool false, .bool false, .bool false, .int .i64 0, .slice none 0 0, .slice none 0 0] 59) := by
    show Vb _ _ _ _; rw [← hW, ← hS]; exact Vb.new _ _ _
  by_cases h40 : 40 < n
  · have hI : (40 : Int) < (n : Int) := by omega
    have HE1 : Hid ((newR zs).1 = 2) := by show _ = _; unfold newR; rw [HL.out, if_pos h40]
    have HE2 : Hid ((newR zs).2 = voidH) := by show _ = _; unfold newR; rw [HL.out, if_pos h40]
    have p0 := VR.out.cell 0 rfl
    have f0 := VR.out.free 0
    have p1 := VR.out.cell 1 rfl
    have f1 := VR.out.free 1
    have p2 := VR.out.cell 2 rfl
    have f2 := VR.out.free 2
    have p3 := VR.out.cell 3 rfl
    have f3 := VR.out.free 3
    have p4 := VR.out.cell 4 rfl
    have f4 := VR.out.free 4
    have p5 := VR.out.cell 5 rfl
    have f5 := VR.out.free 5
    have p6 := VR.out.cell 6 rfl
    have f6 := VR.out.free 6
    have p7 := VR.out.cell 7 rfl
    have f7 := VR.out.free 7
    have p8 := VR.out.cell 8 rfl
    have f8 := VR.out.free 8
    have p9 := VR.out.cell 9 rfl
    have f9 := VR.out.free 9
    go_enter Tryz.func29, Tryz.ntmps29
    go_wp2_with fail
    clear hW hS
    have NN : Hid (_ ∧ _) := ten VR.out (.int .i64 2) (.slice none 0 0) (.int .i64 0) (.slice none 0 0) (.bool false) (.bool false) (.bool false) (.int .i64 0) (.slice none 0 0) (.slice none 0 0)
    clear p0 f0 p1 f1 p2 f2 p3 f3 p4 f4 p5 f5 p6 f6 p7 f7 p8 f8 p9 f9
    generalize ((((((((((W.setCell ⟨s, 0, none⟩ (.int .i64 2)).setCell ⟨s, 1, none⟩ (.slice none 0 0)).setCell ⟨s, 2, none⟩ (.int .i64 0)).setCell ⟨s, 3, none⟩ (.slice none 0 0)).setCell ⟨s, 4, none⟩ (.bool false)).setCell ⟨s, 5, none⟩ (.bool false)).setCell ⟨s, 6, none⟩ (.bool false)).setCell ⟨s, 7, none⟩ (.int .i64 0)).setCell ⟨s, 8, none⟩ (.slice none 0 0)).setCell ⟨s, 9, none⟩ (.slice none 0 0)) = V at *
    have x0 := NN.out.1.cell 0 rfl
    have x1 := NN.out.1.cell 1 rfl
    have x2 := NN.out.1.cell 2 rfl
    have x3 := NN.out.1.cell 3 rfl
    have x4 := NN.out.1.cell 4 rfl
    have x5 := NN.out.1.cell 5 rfl
    have x6 := NN.out.1.cell 6 rfl
    have x7 := NN.out.1.cell 7 rfl
    have x8 := NN.out.1.cell 8 rfl
    have x9 := NN.out.1.cell 9 rfl
    have BV : Below w.heap.size w V := Mq.under B0.out NN.out.2 fun k e => by have := HS.out; omega
    have MV := NN.out.2
    refine bodyPost_ret (v := .agg #[.int .i64 2, .slice none 0 0, .int .i64 0, .slice none 0 0, .bool false, .bool false, .bool false, .int .i64 0, .slice none 0 0, .slice none 0 0]) (by simp [results, Tryz.results29, go_sem, x0, x1, x2, x3, x4, x5, x6, x7, x8, x9]) rfl ?_
    rw [HE1.out, HE2.out]
    exact ⟨_, _, _, _, rfl, void_hm _ _, void_ha, BV⟩
  have hI : ¬ (40 : Int) < (n : Int) := by omega
  cases hw : zs.all isW
  · have HW : Hid (zs.all isW = false) := hw
    have HE1 : Hid ((newR zs).1 = 3) := by show _ = _; unfold newR; rw [HL.out, if_neg h40, hw]; rfl
    have HE2 : Hid ((newR zs).2 = voidH) := by show _ = _; unfold newR; rw [HL.out, if_neg h40, hw]; rfl
    have p0 := VR.out.cell 0 rfl
    have f0 := VR.out.free 0
    have p1 := VR.out.cell 1 rfl
    have f1 := VR.out.free 1
    have p2 := VR.out.cell 2 rfl
    have f2 := VR.out.free 2
    have p3 := VR.out.cell 3 rfl
    have f3 := VR.out.free 3
    have p4 := VR.out.cell 4 rfl
    have f4 := VR.out.free 4
    have p5 := VR.out.cell 5 rfl
    have f5 := VR.out.free 5
    have p6 := VR.out.cell 6 rfl
    have f6 := VR.out.free 6
    have p7 := VR.out.cell 7 rfl
    have f7 := VR.out.free 7
    have p8 := VR.out.cell 8 rfl
    have f8 := VR.out.free 8
    have p9 := VR.out.cell 9 rfl
    have f9 := VR.out.free 9
    go_enter Tryz.func29, Tryz.ntmps29
    go_wp2_with (go_at_call 57; refine (i_words a n k zs _ (HN.out.rn.stay B0.out)).mono ?_; rintro e y ⟨rfl, hy⟩; rw [hy]; clear hy y; rw [hw])
    clear hW hS
    have NN : Hid (_ ∧ _) := ten VR.out (.int .i64 3) (.slice none 0 0) (.int .i64 0) (.slice none 0 0) (.bool false) (.bool false) (.bool false) (.int .i64 0) (.slice none 0 0) (.slice none 0 0)
    clear p0 f0 p1 f1 p2 f2 p3 f3 p4 f4 p5 f5 p6 f6 p7 f7 p8 f8 p9 f9
    generalize ((((((((((W.setCell ⟨s, 0, none⟩ (.int .i64 3)).setCell ⟨s, 1, none⟩ (.slice none 0 0)).setCell ⟨s, 2, none⟩ (.int .i64 0)).setCell ⟨s, 3, none⟩ (.slice none 0 0)).setCell ⟨s, 4, none⟩ (.bool false)).setCell ⟨s, 5, none⟩ (.bool false)).setCell ⟨s, 6, none⟩ (.bool false)).setCell ⟨s, 7, none⟩ (.int .i64 0)).setCell ⟨s, 8, none⟩ (.slice none 0 0)).setCell ⟨s, 9, none⟩ (.slice none 0 0)) = V at *
    have x0 := NN.out.1.cell 0 rfl
    have x1 := NN.out.1.cell 1 rfl
    have x2 := NN.out.1.cell 2 rfl
    have x3 := NN.out.1.cell 3 rfl
    have x4 := NN.out.1.cell 4 rfl
    have x5 := NN.out.1.cell 5 rfl
    have x6 := NN.out.1.cell 6 rfl
    have x7 := NN.out.1.cell 7 rfl
    have x8 := NN.out.1.cell 8 rfl
    have x9 := NN.out.1.cell 9 rfl
    have BV : Below w.heap.size w V := Mq.under B0.out NN.out.2 fun k e => by have := HS.out; omega
    have MV := NN.out.2
    refine bodyPost_ret (v := .agg #[.int .i64 3, .slice none 0 0, .int .i64 0, .slice none 0 0, .bool false, .bool false, .bool false, .int .i64 0, .slice none 0 0, .slice none 0 0]) (by simp [results, Tryz.results29, go_sem, x0, x1, x2, x3, x4, x5, x6, x7, x8, x9]) rfl ?_
    rw [HE1.out, HE2.out]
    exact ⟨_, _, _, _, rfl, void_hm _ _, void_ha, BV⟩
  have HE1 : Hid ((newR zs).1 = 0) := by show _ = _; unfold newR; rw [HL.out, if_neg h40, hw]; rfl
  have HE2 : Hid ((newR zs).2 = newV zs) := by show _ = _; unfold newR; rw [HL.out, if_neg h40, hw]; rfl
  have H40 : Hid (n ≤ 40) := by show _ ≤ _; omega
  have hst := mnw_store a n k W
  go_enter Tryz.func29, Tryz.ntmps29
  go_upto_region 5 with (go_at_call 57; refine (i_words a n k zs _ (HN.out.rn.stay B0.out)).mono ?_; rintro e y ⟨rfl, hy⟩; rw [hy]; clear hy y; rw [hw])
  clear hW hS
  go_step
  go_step
  go_step
  go_step
  go_step
  go_step
  rw [mnw_lit]
  have hsz := mnw_size a n k
  go_wp2_with fail
  generalize hW3 : W.alloc (.cells (mnw a n k) 78) = W3
  obtain ⟨m, hm⟩ : ∃ m, W.heap.size = m := ⟨_, rfl⟩
  have HMm : Hid (W.heap.size = m) := hm
  rw [hm]
  have V3 : Hid (Vb W3 m (mca (newV zs) (.slice a n k) (.slice none 0 0)) 78) := by show Vb _ _ _ _; rw [← hW3, ← hm, ← mnw_eq zs]; exact Vb.new _ _ _
  have B3 : Hid (Below w.heap.size w W3) := by show Below _ _ _; rw [← hW3]; exact al B0.out _
  have VR3 : Hid (Vb W3 s #[.int .i64 0, .slice none 0 0, .int .i64 0, .slice none 0 0, .bool false, .bool false, .bool false, .int .i64 0, .slice none 0 0, .slice none 0 0] 59) := by show Vb _ _ _ _; rw [← hW3]; exact VR.out.push _
  have MI3 : Hid (Nums W3 b (.slice a n k) zs) := by show Nums _ _ _ _; rw [← hW3]; exact (HN.out.keep B0.out).keep (al (Below.refl _ _) _)
  clear hst hsz hW3 hm
  obtain ⟨G, hG⟩ : ∃ G, newV zs = G := ⟨_, rfl⟩
  have HE3 : Hid ((newR zs).2 = G) := HE2.out.trans hG
  have LG : Hid (G.regs.length = 16 ∧ G.csr.length = 11 ∧ G.inn.length ≤ 1000 ∧ G.out.length ≤ 1000) := by
    have k1 := H40.out; have k2 := HL.out
    rw [← hG]
    refine ⟨rfl, rfl, ?_, Nat.zero_le _⟩
    show zs.length ≤ 1000
    omega
  have V4 : Hid (Vb W3 m (mca G (.slice a n k) (.slice none 0 0)) 78) := by show Vb _ _ _ _; rw [← hG]; exact V3.out
  have MI4 : Hid (Nums W3 b (.slice a n k) G.inn) := by show Nums _ _ _ _; rw [← hG]; exact MI3.out
  have MO4 : Hid (Nums W3 b (.slice none 0 0) G.out) := by show Nums _ _ _ _; rw [← hG]; exact Nums.nil _ _
  clear hG
  refine (i_hart m _ _ G _ _ V4.out MI4.out MO4.out LG.out.1 LG.out.2.1 LG.out.2.2.1 LG.out.2.2.2).mono ?_
  rintro e w5 ⟨r5, c5, i5, o5, rfl, m5, A5, b5⟩
  obtain ⟨ja0, jk0, rfl, _⟩ := m5.r.shape
  obtain ⟨ja1, jk1, rfl, _⟩ := m5.c.shape
  obtain ⟨ja2, jk2, rfl, _⟩ := m5.i.shape
  obtain ⟨ja3, jk3, rfl, _⟩ := m5.o.shape
  generalize G.regs.length = g0 at *
  generalize G.csr.length = g1 at *
  generalize G.inn.length = g2 at *
  generalize G.out.length = g3 at *
  have M5 : Hid (Hm w5 W3.heap.size (.slice ja0 g0 jk0) (.slice ja1 g1 jk1) (.slice ja2 g2 jk2) (.slice ja3 g3 jk3) G) := m5
  have HA5 : Hid (Ha (.slice ja0 g0 jk0) (.slice ja1 g1 jk1) (.slice ja2 g2 jk2) (.slice ja3 g3 jk3)) := A5
  have B5 : Hid (Below w.heap.size w w5) := on B3.out b5
  have VR5 : Hid (Vb w5 s #[.int .i64 0, .slice none 0 0, .int .i64 0, .slice none 0 0, .bool false, .bool false, .bool false, .int .i64 0, .slice none 0 0, .slice none 0 0] 59) := VR3.out.keep b5
  have LQ : Hid (s < W3.heap.size) := VR3.out.lt
  clear m5 A5 b5
  have p0 := VR5.out.cell 0 rfl
  have f0 := VR5.out.free 0
  have p1 := VR5.out.cell 1 rfl
  have f1 := VR5.out.free 1
  have p2 := VR5.out.cell 2 rfl
  have f2 := VR5.out.free 2
  have p3 := VR5.out.cell 3 rfl
  have f3 := VR5.out.free 3
  have p4 := VR5.out.cell 4 rfl
  have f4 := VR5.out.free 4
  have p5 := VR5.out.cell 5 rfl
  have f5 := VR5.out.free 5
  have p6 := VR5.out.cell 6 rfl
  have f6 := VR5.out.free 6
  have p7 := VR5.out.cell 7 rfl
  have f7 := VR5.out.free 7
  have p8 := VR5.out.cell 8 rfl
  have f8 := VR5.out.free 8
  have p9 := VR5.out.cell 9 rfl
  have f9 := VR5.out.free 9
  go_wp2_with fail
  have NN : Hid (_ ∧ _) := ten VR5.out (.int .i64 0) (.slice ja0 g0 jk0) (.int .i64 G.pc) (.slice ja1 g1 jk1) (.bool G.halted) (.bool G.waiting) (.bool G.rung) (.int .i64 G.done) (.slice ja2 g2 jk2) (.slice ja3 g3 jk3)
  clear p0 f0 p1 f1 p2 f2 p3 f3 p4 f4 p5 f5 p6 f6 p7 f7 p8 f8 p9 f9
  generalize ((((((((((w5.setCell ⟨s, 0, none⟩ (.int .i64 0)).setCell ⟨s, 1, none⟩ (.slice ja0 g0 jk0)).setCell ⟨s, 2, none⟩ (.int .i64 G.pc)).setCell ⟨s, 3, none⟩ (.slice ja1 g1 jk1)).setCell ⟨s, 4, none⟩ (.bool G.halted)).setCell ⟨s, 5, none⟩ (.bool G.waiting)).setCell ⟨s, 6, none⟩ (.bool G.rung)).setCell ⟨s, 7, none⟩ (.int .i64 G.done)).setCell ⟨s, 8, none⟩ (.slice ja2 g2 jk2)).setCell ⟨s, 9, none⟩ (.slice ja3 g3 jk3)) = V at *
  have x0 := NN.out.1.cell 0 rfl
  have x1 := NN.out.1.cell 1 rfl
  have x2 := NN.out.1.cell 2 rfl
  have x3 := NN.out.1.cell 3 rfl
  have x4 := NN.out.1.cell 4 rfl
  have x5 := NN.out.1.cell 5 rfl
  have x6 := NN.out.1.cell 6 rfl
  have x7 := NN.out.1.cell 7 rfl
  have x8 := NN.out.1.cell 8 rfl
  have x9 := NN.out.1.cell 9 rfl
  have BV : Below w.heap.size w V := Mq.under B5.out NN.out.2 fun k e => by have := HS.out; omega
  have MV := NN.out.2
  refine bodyPost_ret (v := .agg #[.int .i64 0, .slice ja0 g0 jk0, .int .i64 G.pc, .slice ja1 g1 jk1, .bool G.halted, .bool G.waiting, .bool G.rung, .int .i64 G.done, .slice ja2 g2 jk2, .slice ja3 g3 jk3]) (by simp [results, Tryz.results29, go_sem, x0, x1, x2, x3, x4, x5, x6, x7, x8, x9]) rfl ?_
  rw [HE1.out, HE3.out]
  exact ⟨_, _, _, _, rfl, ((MV.hm M5.out fun k e f => by have := (M5.out.own k e).1; have := LQ.out; omega).mono B3.out.size), HA5.out, BV⟩

end Go.Proofs.YtbegbphbcjoglaaGreatDoor
namespace Go.Proofs.YtbegbphbcjoglaaGreatDoor
open Go.RowKit
set_option linter.unusedVariables false

def tenL (qs : List (Int × Int)) (zs : List Int) (k : Nat) : List Value := [.int .i64 (qs.getD k (0, 0)).1, .int .i64 (qs.getD k (0, 0)).2, .int .i64 (zs.getD (k * 8) 0), .int .i64 (zs.getD (k * 8 + 1) 0), .int .i64 (zs.getD (k * 8 + 2) 0), .int .i64 (zs.getD (k * 8 + 3) 0), .int .i64 (zs.getD (k * 8 + 4) 0), .int .i64 (zs.getD (k * 8 + 5) 0), .int .i64 (zs.getD (k * 8 + 6) 0), .int .i64 (zs.getD (k * 8 + 7) 0)]
theorem tenL_len (qs : List (Int × Int)) (zs : List Int) (k : Nat) : (tenL qs zs k).length = 10 := rfl
def tensL (qs : List (Int × Int)) (zs : List Int) : Nat → List Value
  | 0 => []
  | n + 1 => tensL qs zs n ++ tenL qs zs n
theorem tensL_len (qs : List (Int × Int)) (zs : List Int) : ∀ n, (tensL qs zs n).length = n * 10
  | 0 => rfl
  | n + 1 => by rw [tensL, List.length_append, tensL_len qs zs n, tenL_len]; omega
def oplL (H : Ht) (i o : Value) (qs : List (Int × Int)) (zs : List Int) : List Value := (mca H i o).toList ++ tensL qs zs 8
theorem oplL_len (H : Ht) (i o : Value) (qs : List (Int × Int)) (zs : List Int) : (oplL H i o qs zs).length = 114 := by rw [oplL, List.length_append, tensL_len]; rfl
theorem tenL_one (qs : List (Int × Int)) (zs : List Int) (k : Nat) : (tenL qs zs k).toArray.all (·.oneCell') = true := by simp [tenL, Value.oneCell']
theorem oplL_one (H : Ht) (i o : Value) (qs : List (Int × Int)) (zs : List Int) (hi : i.oneCell' = true) (ho : o.oneCell' = true) : (oplL H i o qs zs).toArray.all (·.oneCell') = true := by
  have ht : ∀ n, (tensL qs zs n).all (·.oneCell') = true := by
    intro n
    induction n with
    | zero => rfl
    | succ n ih => rw [tensL, List.all_append, ih]; simp [tenL, Value.oneCell']
  have hm := mca_one H i o hi ho
  rw [← Array.all_toList] at hm
  rw [List.all_toArray, oplL, List.all_append, ht, Bool.and_true]
  exact hm
theorem range_app {w : World} {q o : Nat} {xs ys : List Value} (h : w.rangeAt q o xs) (k : w.rangeAt q (o + xs.length) ys) : w.rangeAt q o (xs ++ ys) := by
  intro j v hv
  by_cases hj : j < xs.length
  · rw [List.getElem?_append_left hj] at hv
    exact h j v hv
  · rw [List.getElem?_append_right (by omega)] at hv
    have := k (j - xs.length) v hv
    rw [show o + j = o + xs.length + (j - xs.length) by omega]
    exact this
theorem range_left {w : World} {q o : Nat} {xs ys : List Value} (h : w.rangeAt q o (xs ++ ys)) : w.rangeAt q o xs := fun j v hv => h j v (by rw [List.getElem?_append_left (List.getElem?_eq_some_iff.1 hv).1]; exact hv)
theorem range_nil (w : World) (q o : Nat) : w.rangeAt q o [] := fun j v hv => by simp at hv
theorem range_keep {w w' : World} {q o : Nat} {xs : List Value} (h : w.rangeAt q o xs) (b : Below w.heap.size w w') : w'.rangeAt q o xs := fun j v hv => cell_keep b (h j v hv)
/-- block q lies behind w: its 114 cells, the machine's first, then so many pages. -/
structure Ko (w : World) (q : Nat) (wr : World) (ma : List Value) (qs : List (Int × Int)) (zs : List Int) (k : Nat) : Prop where
  b : Below w.heap.size w wr
  hq : w.heap.size ≤ q ∧ q < wr.heap.size
  t : wr.there q 0 114
  m : wr.rangeAt q 0 ma
  p : wr.rangeAt q 34 (tensL qs zs k)
theorem there_part {w : World} {b n : Nat} (h : w.there b 0 n) (o m : Nat) (hm : o + m ≤ n) : w.there b o m := fun j hj => by have := h (o + j) (by omega); rw [Nat.zero_add] at this; exact this
theorem there_mq {S : Nat → Prop} {w w' : World} {b n : Nat} (h : w.there b 0 n) (hl : b < w.heap.size) (m : Mq S w w') (hn : ¬ S b) : w'.there b 0 n := by
  have e := m.block b hl hn
  intro j hj
  have := h j hj
  unfold World.cell? World.frozen? at this ⊢
  simp only [e]
  exact this
theorem Ko.step {w wr w' : World} {q k : Nat} {ma : List Value} {qs : List (Int × Int)} {zs : List Int} (h : Ko w q wr ma qs zs k) (b : Below wr.heap.size wr w') : Ko w q w' ma qs zs k :=
  ⟨on h.b b, ⟨h.hq.1, Nat.lt_of_lt_of_le h.hq.2 b.size⟩, there_below h.t h.hq.2 b, range_keep h.m b, range_keep h.p b⟩
theorem Ko.put {w wr : World} {q k : Nat} {ma : List Value} {qs : List (Int × Int)} {zs : List Int} (h : Ko w q wr ma qs zs k) (hm : ma.length = 34) (hk : k < 8) : Ko w q (wr.setCells q (34 + k * 10) (tenL qs zs k)) ma qs zs (k + 1) := by
  have hs : Mq (fun k => k = q) wr (wr.setCells q (34 + k * 10) (tenL qs zs k)) := mq_cells q _ wr _
  refine ⟨Mq.under h.b hs fun k e => by have := h.hq.1; omega, ⟨h.hq.1, Nat.lt_of_lt_of_le h.hq.2 hs.size⟩, World.there_setCells h.t _ _ _, World.rangeAt_setCells_apart h.m _ _ _ (.inr (.inl (by omega))), ?_⟩
  rw [tensL]
  refine range_app (World.rangeAt_setCells_apart h.p _ _ _ (.inr (.inl (by rw [tensL_len]; omega)))) ?_
  rw [tensL_len]
  exact World.rangeAt_setCells_same _ _ _ _ (there_part h.t _ _ (by rw [tenL_len]; omega))
theorem Ko.all {w wr : World} {q : Nat} {H : Ht} {i o : Value} {qs : List (Int × Int)} {zs : List Int} (h : Ko w q wr (mca H i o).toList qs zs 8) : wr.rangeAt q 0 (oplL H i o qs zs) :=
  range_app h.m (by have := h.p; rwa [show 0 + (mca H i o).toList.length = 34 from rfl])
theorem wpList_build {ops : Array Oper} {rest : List Oper} {op : Oper} {a : Act} {w : World} {Q : Exit → Act → World → Prop} (hgd : op.guard = none) (t : TypeId) (parts : Array (Nat × Operand)) (ho : op.op = .build t parts) (cells : Array Value) (hb : Tryz.prog.built t (parts.map fun (i, x) => (i, a.eval x)).toList = some cells)
    (h : wpList Tryz.prog ops Q rest (a.put op.dst (.agg cells)) w) : wpList Tryz.prog ops Q (op :: rest) a w :=
  wpList_plain hgd fun K hK => by
    unfold Oper.wp execOp
    simp only [ho, Sem.run_bind, run_build (P := Tryz.prog) w t _ cells hb, Sem.run_pure, Result.andThen_ok]
    exact hK _ _ h
theorem wpList_take {ops : Array Oper} {rest : List Oper} {op : Oper} {a : Act} {w : World} {Q : Exit → Act → World → Prop} (v : Value) (hy : YieldsIf Tryz.prog ops (fun w' => w' = w) op v a)
    (h : wpList Tryz.prog ops Q rest (a.put op.dst v) w) : wpList Tryz.prog ops Q (op :: rest) a w :=
  wpList_step fun K hK => by
    rcases hy with ⟨hw, hv⟩ | ⟨hw, rfl⟩
    · simp only [hw, if_true, Oper.wp, hv w rfl, Oper.upon]; exact hK _ _ h
    · simp only [hw, Bool.false_eq_true, if_false]; exact hK _ _ h
def pgL (ps : List (Int × Int)) : List Value := [.int .i64 (ps.getD 0 (0, 0)).1, .int .i64 (ps.getD 0 (0, 0)).2, .int .i64 (ps.getD 1 (0, 0)).1, .int .i64 (ps.getD 1 (0, 0)).2, .int .i64 (ps.getD 2 (0, 0)).1, .int .i64 (ps.getD 2 (0, 0)).2, .int .i64 (ps.getD 3 (0, 0)).1, .int .i64 (ps.getD 3 (0, 0)).2, .int .i64 (ps.getD 4 (0, 0)).1, .int .i64 (ps.getD 4 (0, 0)).2, .int .i64 (ps.getD 5 (0, 0)).1, .int .i64 (ps.getD 5 (0, 0)).2, .int .i64 (ps.getD 6 (0, 0)).1, .int .i64 (ps.getD 6 (0, 0)).2, .int .i64 (ps.getD 7 (0, 0)).1, .int .i64 (ps.getD 7 (0, 0)).2]
theorem idx_0 (ps : List (Int × Int)) (w : World) : (Instr.index 89 (.agg (pgL ps).toArray) (.int .i64 ((0 : Nat) : Int))).run Tryz.prog w = .ok (.agg #[.int .i64 (ps.getD 0 (0, 0)).1, .int .i64 (ps.getD 0 (0, 0)).2]) w := by kernel_rfl
theorem idx_1 (ps : List (Int × Int)) (w : World) : (Instr.index 89 (.agg (pgL ps).toArray) (.int .i64 ((1 : Nat) : Int))).run Tryz.prog w = .ok (.agg #[.int .i64 (ps.getD 1 (0, 0)).1, .int .i64 (ps.getD 1 (0, 0)).2]) w := by kernel_rfl
theorem idx_2 (ps : List (Int × Int)) (w : World) : (Instr.index 89 (.agg (pgL ps).toArray) (.int .i64 ((2 : Nat) : Int))).run Tryz.prog w = .ok (.agg #[.int .i64 (ps.getD 2 (0, 0)).1, .int .i64 (ps.getD 2 (0, 0)).2]) w := by kernel_rfl
theorem idx_3 (ps : List (Int × Int)) (w : World) : (Instr.index 89 (.agg (pgL ps).toArray) (.int .i64 ((3 : Nat) : Int))).run Tryz.prog w = .ok (.agg #[.int .i64 (ps.getD 3 (0, 0)).1, .int .i64 (ps.getD 3 (0, 0)).2]) w := by kernel_rfl
theorem idx_4 (ps : List (Int × Int)) (w : World) : (Instr.index 89 (.agg (pgL ps).toArray) (.int .i64 ((4 : Nat) : Int))).run Tryz.prog w = .ok (.agg #[.int .i64 (ps.getD 4 (0, 0)).1, .int .i64 (ps.getD 4 (0, 0)).2]) w := by kernel_rfl
theorem idx_5 (ps : List (Int × Int)) (w : World) : (Instr.index 89 (.agg (pgL ps).toArray) (.int .i64 ((5 : Nat) : Int))).run Tryz.prog w = .ok (.agg #[.int .i64 (ps.getD 5 (0, 0)).1, .int .i64 (ps.getD 5 (0, 0)).2]) w := by kernel_rfl
theorem idx_6 (ps : List (Int × Int)) (w : World) : (Instr.index 89 (.agg (pgL ps).toArray) (.int .i64 ((6 : Nat) : Int))).run Tryz.prog w = .ok (.agg #[.int .i64 (ps.getD 6 (0, 0)).1, .int .i64 (ps.getD 6 (0, 0)).2]) w := by kernel_rfl
theorem idx_7 (ps : List (Int × Int)) (w : World) : (Instr.index 89 (.agg (pgL ps).toArray) (.int .i64 ((7 : Nat) : Int))).run Tryz.prog w = .ok (.agg #[.int .i64 (ps.getD 7 (0, 0)).1, .int .i64 (ps.getD 7 (0, 0)).2]) w := by kernel_rfl
theorem pg_index (ps : List (Int × Int)) (k : Nat) (hk : k < 8) (w : World) : (Instr.index 89 (.agg (pgL ps).toArray) (.int .i64 (k : Int))).run Tryz.prog w = .ok (.agg #[.int .i64 (ps.getD k (0, 0)).1, .int .i64 (ps.getD k (0, 0)).2]) w := by
  match k, hk with
  | 0, _ => exact idx_0 ps w
  | 1, _ => exact idx_1 ps w
  | 2, _ => exact idx_2 ps w
  | 3, _ => exact idx_3 ps w
  | 4, _ => exact idx_4 ps w
  | 5, _ => exact idx_5 ps w
  | 6, _ => exact idx_6 ps w
  | 7, _ => exact idx_7 ps w
theorem mcp_head (H : Ht) (i o : Value) (ps : List (Int × Int)) : ((mcp H i o ps).extract 0 (0 + 34)).toList = (mca H i o).toList := by kernel_rfl
theorem mcp_tail (H : Ht) (i o : Value) (ps : List (Int × Int)) : ((mcp H i o ps).extract 34 (34 + 16)).toList = pgL ps := by kernel_rfl
theorem mcp_range {w : World} {s : Nat} {H : Ht} {i o : Value} {ps : List (Int × Int)} {t : TypeId} (h : Vb w s (mcp H i o ps) t) : w.rangeAt s 0 (mca H i o).toList ∧ w.rangeAt s 34 (pgL ps) := by
  refine ⟨?_, ?_⟩
  · rw [← mcp_head H i o ps]; exact World.rangeAt_of_block h 0 34
  · rw [← mcp_tail H i o ps]; exact World.rangeAt_of_block h 34 16
def own0 (H : Ht) (i o : Value) : Array Value := mca H i o ++ (List.replicate 80 (Value.int .i64 0)).toArray
theorem own0_size (H : Ht) (i o : Value) : (own0 H i o).size = 114 := by kernel_rfl
theorem own0_list (H : Ht) (i o : Value) : (own0 H i o).toList = (mca H i o).toList ++ List.replicate 80 (Value.int .i64 0) := by simp [own0]
theorem own0_one (H : Ht) (i o : Value) (hi : i.oneCell' = true) (ho : o.oneCell' = true) : (own0 H i o).all (·.oneCell') = true := by
  rw [own0, Array.all_append, mca_one H i o hi ho, Bool.true_and, List.all_toArray, List.all_replicate]
  rfl
end Go.Proofs.YtbegbphbcjoglaaGreatDoor
