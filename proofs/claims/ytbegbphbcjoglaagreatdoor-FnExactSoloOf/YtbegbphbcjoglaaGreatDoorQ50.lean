/- Texts of this seat, joined. -/
import Derived.Deep.RegionWith
import Derived.Deep.RegionHeld3
import Derived.Deep.Cut
import Derived.Deep.CutRange
import Derived.Test.YtbegbphbcjoglaaGreatDoorQ33
import Derived.Test.YtbegbphbcjoglaaGreatDoorQ42
import Derived.Test.YtbegbphbcjoglaaGreatDoorQ44
import Derived.Test.YtbegbphbcjoglaaGreatDoorQ47
import Derived.Test.YtbegbphbcjoglaaGreatDoorQ48
namespace Go.Proofs.YtbegbphbcjoglaaGreatDoor
open Go.RowKit
set_option linter.unusedVariables false

theorem mk64o (w : World) : ∃ w', (Instr.makeSlice 28 (.int .i64 64) (.int .i64 64)).run Tryz.prog w = .ok (.slice (some ⟨w.heap.size, 0, none⟩) 64 64) w' ∧ Nums w' w.heap.size (.slice (some ⟨w.heap.size, 0, none⟩) 64 64) (List.replicate 64 0) ∧ w.grownBy w' none := by
  obtain ⟨i, hi, hz0, hz1, hz2⟩ := info_parts info_i64
  obtain ⟨w', h1, h2, h3⟩ := run_makeSlice_full (P := Tryz.prog) (w := w) w.heap.size 28 2 i _ 1 Tryz.underlying28 hi hz0 hz1 .i64 .i64 64 (by decide) (by rw [hz2]; decide) (by unfold maxLen; decide) (Nat.le_refl _)
  refine ⟨w', h1, ?_, h3⟩
  unfold Nums
  rw [List.length_replicate]
  have e : (madeCells (Value.int .i64 0).cells (64 * 1)).toList = (List.replicate 64 (0 : Int)).map (Value.int .i64) := by kernel_rfl
  rw [← e]
  exact h2
theorem s_wrapO (n : Int) (w : World) : Calls Tryz.prog 22 #[.int .i64 n] w fun e w' => e = .returned (.int .i64 (wd n)) ∧ w' = w := by
  go_enter Tryz.func22, Tryz.ntmps22
  go_wp2
  go_ret
  exact ⟨rfl, rfl⟩
theorem apt_lo {a b : Value} {m : Nat} (ha : ∀ k, a.ownBlock = some k → k < m) (hb : b.ownBlock = some m) : Apt a b := by
  cases e : a.ownBlock with
  | none => exact .inl e
  | some k => exact .inr (by rw [e, hb]; have := ha k e; intro f; injection f; omega)
set_option maxRecDepth 20000 in
set_option maxHeartbeats 8000000 in
theorem sso_fault (a0 a1 a2 a3 : Option Addr) (n0 c0 n1 c1 n2 c2 n3 c3 : Nat) (P : Plc) (gu : Int) (ia : Option Addr) (il ic : Nat) (im : List Int) (b1 : Nat) (ja : Option Addr) (jl jc : Nat) (inp : List Int) (b2 : Nat) (w : World) (h : Pl w a0 n0 c0 a1 n1 c1 a2 n2 c2 a3 n3 c3 P) (hi : Nums w b1 (.slice ia il ic) im) (hj : Nums w b2 (.slice ja jl jc) inp) (hv : askV P gu ≠ 0) :
    Calls Tryz.prog 5 #[.agg #[.slice a0 n0 c0, .slice a1 n1 c1, .slice a2 n2 c2, .slice a3 n3 c3], .int .i64 gu, .slice ia il ic, .slice ja jl jc] w fun e w' => ∃ r' c' i' o' l' m', e = .returned (.agg #[.int .i64 (soC P gu im inp), r', .int .i64 (soH P gu im inp).pc, c', .bool (soH P gu im inp).halted, .bool (soH P gu im inp).waiting, .bool (soH P gu im inp).rung, .int .i64 (soH P gu im inp).done, i', o', l', m']) ∧ Sm w' w.heap.size r' c' i' o' l' m' (soH P gu im inp) (soP P gu im inp) (soZ P gu im inp) ∧ Below w.heap.size w w' := by
  have hx : soC P gu im inp = askV P gu := by rw [soC, if_neg hv]
  have hu := so_not P gu im inp (by rw [hx]; exact hv)
  rw [hu.1, hu.2.1, hu.2.2, hx]
  obtain ⟨cx, hcx⟩ : ∃ cx, askV P gu = cx := ⟨_, rfl⟩
  rw [hcx] at hv ⊢
  have HV : Hid (askV P gu = cx) := hcx
  clear hu hx hcx
  generalize hW : (w.alloc (.cells #[.slice a0 n0 c0, .slice a1 n1 c1, .slice a2 n2 c2, .slice a3 n3 c3] 42)).alloc (.cells #[.int .i64 0, .slice none 0 0, .int .i64 0, .slice none 0 0, .bool false, .bool false, .bool false, .int .i64 0, .slice none 0 0, .slice none 0 0, .slice none 0 0, .slice none 0 0] 36) = W
  have B0 : Hid (Below w.heap.size w W) := by show Below _ _ _; rw [← hW]; exact al (al (Below.refl _ _) _) _
  obtain ⟨s, hS⟩ : ∃ s, w.heap.size = s := ⟨_, rfl⟩
  have HSs : Hid (w.heap.size = s) := hS
  have z1 : s + 1 = (w.alloc (.cells #[.slice a0 n0 c0, .slice a1 n1 c1, .slice a2 n2 c2, .slice a3 n3 c3] 42)).heap.size := by rw [← hS]; simp
  have Q : Hid (Vb W s #[.slice a0 n0 c0, .slice a1 n1 c1, .slice a2 n2 c2, .slice a3 n3 c3] 42) := by show Vb _ _ _ _; rw [← hW, ← hS]; exact (Vb.new _ _ _).push _
  have R : Hid (Vb W (s + 1) #[.int .i64 0, .slice none 0 0, .int .i64 0, .slice none 0 0, .bool false, .bool false, .bool false, .int .i64 0, .slice none 0 0, .slice none 0 0, .slice none 0 0, .slice none 0 0] 36) := by show Vb _ _ _ _; rw [← hW, z1]; exact Vb.new _ _ _
  clear z1
  have D : Hid (Pl W a0 n0 c0 a1 n1 c1 a2 n2 c2 a3 n3 c3 P) := h.stay B0.out
  have NI : Hid (Nums W b1 (.slice ia il ic) im ∧ Nums W b2 (.slice ja jl jc) inp) := ⟨hi.keep B0.out, hj.keep B0.out⟩
  clear h hi hj
  have q0 := Q.out.cell 0 rfl
  have q1 := Q.out.cell 1 rfl
  have q2 := Q.out.cell 2 rfl
  have q3 := Q.out.cell 3 rfl
  have PA : Hid (PolAt W s P) := ⟨_, _, _, _, _, _, _, _, _, _, _, _, q0, q1, q2, q3, D.out⟩
  go_enter Tryz.func5, Tryz.ntmps5
  go_wp2_with fail
  clear hW hS q0 q1 q2 q3
  refine (l6_asked s _ P _ PA.out).mono ?_
  rw [HV.out]
  rintro e w1 ⟨rfl, b1'⟩
  have B1 : Hid (Below w.heap.size w w1) := on B0.out b1'
  have E1 : Hid (Below W.heap.size W w1) := b1'
  have R1 : Hid (Vb w1 (s + 1) #[.int .i64 0, .slice none 0 0, .int .i64 0, .slice none 0 0, .bool false, .bool false, .bool false, .int .i64 0, .slice none 0 0, .slice none 0 0, .slice none 0 0, .slice none 0 0] 36) := R.out.keep b1'
  have Q1 : Hid (Vb w1 s #[.slice a0 n0 c0, .slice a1 n1 c1, .slice a2 n2 c2, .slice a3 n3 c3] 42) := Q.out.keep b1'
  clear b1'
  have p0 := R1.out.cell 0 rfl
  have f0 := R1.out.free 0
  have p1 := R1.out.cell 1 rfl
  have f1 := R1.out.free 1
  have p2 := R1.out.cell 2 rfl
  have f2 := R1.out.free 2
  have p3 := R1.out.cell 3 rfl
  have f3 := R1.out.free 3
  have p4 := R1.out.cell 4 rfl
  have f4 := R1.out.free 4
  have p5 := R1.out.cell 5 rfl
  have f5 := R1.out.free 5
  have p6 := R1.out.cell 6 rfl
  have f6 := R1.out.free 6
  have p7 := R1.out.cell 7 rfl
  have f7 := R1.out.free 7
  have p8 := R1.out.cell 8 rfl
  have f8 := R1.out.free 8
  have p9 := R1.out.cell 9 rfl
  have f9 := R1.out.free 9
  have p10 := R1.out.cell 10 rfl
  have f10 := R1.out.free 10
  have p11 := R1.out.cell 11 rfl
  have f11 := R1.out.free 11
  have lt := R1.out.lt
  go_wp2_with fail
  clear lt p0 f0 p1 f1 p2 f2 p3 f3 p4 f4 p5 f5 p6 f6 p7 f7 p8 f8 p9 f9 p10 f10 p11 f11
  have NN : Hid (_ ∧ _) := twelveF R1.out (.int .i64 cx) (.slice none 0 0) (.int .i64 0) (.slice none 0 0) (.bool false) (.bool false) (.bool false) (.int .i64 0) (.slice none 0 0) (.slice none 0 0) (.slice none 0 0) (.slice none 0 0)
  generalize ((((((((((((w1.setCell ⟨s + 1, 0, none⟩ (.int .i64 cx)).setCell ⟨s + 1, 1, none⟩ (.slice none 0 0)).setCell ⟨s + 1, 2, none⟩ (.int .i64 0)).setCell ⟨s + 1, 3, none⟩ (.slice none 0 0)).setCell ⟨s + 1, 4, none⟩ (.bool false)).setCell ⟨s + 1, 5, none⟩ (.bool false)).setCell ⟨s + 1, 6, none⟩ (.bool false)).setCell ⟨s + 1, 7, none⟩ (.int .i64 0)).setCell ⟨s + 1, 8, none⟩ (.slice none 0 0)).setCell ⟨s + 1, 9, none⟩ (.slice none 0 0)).setCell ⟨s + 1, 10, none⟩ (.slice none 0 0)).setCell ⟨s + 1, 11, none⟩ (.slice none 0 0)) = W9 at *
  have x0 := NN.out.1.cell 0 rfl
  have x1 := NN.out.1.cell 1 rfl
  have x2 := NN.out.1.cell 2 rfl
  have x3 := NN.out.1.cell 3 rfl
  have x4 := NN.out.1.cell 4 rfl
  have x5 := NN.out.1.cell 5 rfl
  have x6 := NN.out.1.cell 6 rfl
  have x7 := NN.out.1.cell 7 rfl
  have x8 := NN.out.1.cell 8 rfl
  have x9 := NN.out.1.cell 9 rfl
  have x10 := NN.out.1.cell 10 rfl
  have x11 := NN.out.1.cell 11 rfl
  exact bodyPost_ret (v := .agg #[.int .i64 cx, .slice none 0 0, .int .i64 0, .slice none 0 0, .bool false, .bool false, .bool false, .int .i64 0, .slice none 0 0, .slice none 0 0, .slice none 0 0, .slice none 0 0]) (by simp [results, Tryz.results5, go_sem, x0, x1, x2, x3, x4, x5, x6, x7, x8, x9, x10, x11]) rfl ⟨_, _, _, _, _, _, rfl, sm_voidF _ _, Mq.under B1.out NN.out.2 fun k e => by have := HSs.out; omega⟩
set_option maxRecDepth 20000 in
set_option maxHeartbeats 8000000 in
theorem sso_long (a0 a1 a2 a3 : Option Addr) (n0 c0 n1 c1 n2 c2 n3 c3 : Nat) (P : Plc) (g : Nat) (ia : Option Addr) (il ic : Nat) (im : List Int) (b1 : Nat) (ja : Option Addr) (jl jc : Nat) (inp : List Int) (b2 : Nat) (w : World) (h : Pl w a0 n0 c0 a1 n1 c1 a2 n2 c2 a3 n3 c3 P) (hi : Nums w b1 (.slice ia il ic) im) (hj : Nums w b2 (.slice ja jl jc) inp) (hv : askV P (g : Int) = 0) (hl : (P.own.getD g []).length * 8 < im.length) :
    Calls Tryz.prog 5 #[.agg #[.slice a0 n0 c0, .slice a1 n1 c1, .slice a2 n2 c2, .slice a3 n3 c3], .int .i64 g, .slice ia il ic, .slice ja jl jc] w fun e w' => ∃ r' c' i' o' l' m', e = .returned (.agg #[.int .i64 (soC P g im inp), r', .int .i64 (soH P g im inp).pc, c', .bool (soH P g im inp).halted, .bool (soH P g im inp).waiting, .bool (soH P g im inp).rung, .int .i64 (soH P g im inp).done, i', o', l', m']) ∧ Sm w' w.heap.size r' c' i' o' l' m' (soH P g im inp) (soP P g im inp) (soZ P g im inp) ∧ Below w.heap.size w w' := by
  have hx : soC P (g : Int) im inp = 8 := by rw [soC, if_pos hv, Int.toNat_natCast, if_pos hl]
  have hu := so_not P (g : Int) im inp (by rw [hx]; decide)
  rw [hu.1, hu.2.1, hu.2.2, hx]
  have HV : Hid (askV P (g : Int) = 0) := hv
  have PP : Hid (pfV P = 0) := (ask_ok hv).1
  have GL : Hid (g < P.own.length) := by obtain ⟨_, g', e, h'⟩ := ask_ok hv; show g < _; omega
  have IL : Hid (im.length = il ∧ il ≤ maxLen) := by obtain ⟨_, _, e, h1, h2, _⟩ := hi.shape; cases e; exact ⟨rfl, by omega⟩
  have HL : Hid ((P.own.getD g []).length * 8 < im.length) := hl
  clear hu hx hv hl
  generalize hW : (w.alloc (.cells #[.slice a0 n0 c0, .slice a1 n1 c1, .slice a2 n2 c2, .slice a3 n3 c3] 42)).alloc (.cells #[.int .i64 0, .slice none 0 0, .int .i64 0, .slice none 0 0, .bool false, .bool false, .bool false, .int .i64 0, .slice none 0 0, .slice none 0 0, .slice none 0 0, .slice none 0 0] 36) = W
  have B0 : Hid (Below w.heap.size w W) := by show Below _ _ _; rw [← hW]; exact al (al (Below.refl _ _) _) _
  obtain ⟨s, hS⟩ : ∃ s, w.heap.size = s := ⟨_, rfl⟩
  have HSs : Hid (w.heap.size = s) := hS
  have z1 : s + 1 = (w.alloc (.cells #[.slice a0 n0 c0, .slice a1 n1 c1, .slice a2 n2 c2, .slice a3 n3 c3] 42)).heap.size := by rw [← hS]; simp
  have Q : Hid (Vb W s #[.slice a0 n0 c0, .slice a1 n1 c1, .slice a2 n2 c2, .slice a3 n3 c3] 42) := by show Vb _ _ _ _; rw [← hW, ← hS]; exact (Vb.new _ _ _).push _
  have R : Hid (Vb W (s + 1) #[.int .i64 0, .slice none 0 0, .int .i64 0, .slice none 0 0, .bool false, .bool false, .bool false, .int .i64 0, .slice none 0 0, .slice none 0 0, .slice none 0 0, .slice none 0 0] 36) := by show Vb _ _ _ _; rw [← hW, z1]; exact Vb.new _ _ _
  clear z1
  have D : Hid (Pl W a0 n0 c0 a1 n1 c1 a2 n2 c2 a3 n3 c3 P) := h.stay B0.out
  have NI : Hid (Nums W b1 (.slice ia il ic) im ∧ Nums W b2 (.slice ja jl jc) inp) := ⟨hi.keep B0.out, hj.keep B0.out⟩
  clear h hi hj
  have q0 := Q.out.cell 0 rfl
  have q1 := Q.out.cell 1 rfl
  have q2 := Q.out.cell 2 rfl
  have q3 := Q.out.cell 3 rfl
  have PA : Hid (PolAt W s P) := ⟨_, _, _, _, _, _, _, _, _, _, _, _, q0, q1, q2, q3, D.out⟩
  go_enter Tryz.func5, Tryz.ntmps5
  go_wp2_with fail
  clear hW hS q0 q1 q2 q3
  refine (l6_asked s _ P _ PA.out).mono ?_
  rw [HV.out]
  rintro e w1 ⟨rfl, b1'⟩
  have B1 : Hid (Below w.heap.size w w1) := on B0.out b1'
  have E1 : Hid (Below W.heap.size W w1) := b1'
  have R1 : Hid (Vb w1 (s + 1) #[.int .i64 0, .slice none 0 0, .int .i64 0, .slice none 0 0, .bool false, .bool false, .bool false, .int .i64 0, .slice none 0 0, .slice none 0 0, .slice none 0 0, .slice none 0 0] 36) := R.out.keep b1'
  have Q1 : Hid (Vb w1 s #[.slice a0 n0 c0, .slice a1 n1 c1, .slice a2 n2 c2, .slice a3 n3 c3] 42) := Q.out.keep b1'
  clear b1'
  have hgn : g < n0 := by have := D.out.own.len; have := GL.out; omega
  have hgI : (g : Int) < (n0 : Int) := by omega
  have hn0 : (n0 : Int) ≤ 9223372036854775807 := by have := D.out.own.cap; unfold maxLen at this; omega
  obtain ⟨x, rb, rl, rc, hx0, k1, k2⟩ := (D.out.own.stay E1.out).at g hgn
  have RLN : Hid (rl = (P.own.getD g []).length) := k2.len
  have RL5 : Hid (rl ≤ 5) := by have := (pf_own P PP.out g GL.out).2.1; rw [k2.len]; exact this
  clear k2
  subst hx0
  have hil : (il : Int) ≤ 9223372036854775807 := by have := IL.out.2; unfold maxLen at this; omega
  have hr5 : (rl : Int) ≤ 5 := by have := RL5.out; omega
  have hlt : (rl : Int) * 8 < (il : Int) := by have := HL.out; have := IL.out.1; have := RLN.out; omega
  have q0 := Q1.out.cell 0 rfl
  have p0 := R1.out.cell 0 rfl
  have f0 := R1.out.free 0
  have p1 := R1.out.cell 1 rfl
  have f1 := R1.out.free 1
  have p2 := R1.out.cell 2 rfl
  have f2 := R1.out.free 2
  have p3 := R1.out.cell 3 rfl
  have f3 := R1.out.free 3
  have p4 := R1.out.cell 4 rfl
  have f4 := R1.out.free 4
  have p5 := R1.out.cell 5 rfl
  have f5 := R1.out.free 5
  have p6 := R1.out.cell 6 rfl
  have f6 := R1.out.free 6
  have p7 := R1.out.cell 7 rfl
  have f7 := R1.out.free 7
  have p8 := R1.out.cell 8 rfl
  have f8 := R1.out.free 8
  have p9 := R1.out.cell 9 rfl
  have f9 := R1.out.free 9
  have p10 := R1.out.cell 10 rfl
  have f10 := R1.out.free 10
  have p11 := R1.out.cell 11 rfl
  have f11 := R1.out.free 11
  have lt := R1.out.lt
  go_wp2_with fail
  clear lt p0 f0 p1 f1 p2 f2 p3 f3 p4 f4 p5 f5 p6 f6 p7 f7 p8 f8 p9 f9 p10 f10 p11 f11
  have NN : Hid (_ ∧ _) := twelveF R1.out (.int .i64 8) (.slice none 0 0) (.int .i64 0) (.slice none 0 0) (.bool false) (.bool false) (.bool false) (.int .i64 0) (.slice none 0 0) (.slice none 0 0) (.slice none 0 0) (.slice none 0 0)
  generalize ((((((((((((w1.setCell ⟨s + 1, 0, none⟩ (.int .i64 8)).setCell ⟨s + 1, 1, none⟩ (.slice none 0 0)).setCell ⟨s + 1, 2, none⟩ (.int .i64 0)).setCell ⟨s + 1, 3, none⟩ (.slice none 0 0)).setCell ⟨s + 1, 4, none⟩ (.bool false)).setCell ⟨s + 1, 5, none⟩ (.bool false)).setCell ⟨s + 1, 6, none⟩ (.bool false)).setCell ⟨s + 1, 7, none⟩ (.int .i64 0)).setCell ⟨s + 1, 8, none⟩ (.slice none 0 0)).setCell ⟨s + 1, 9, none⟩ (.slice none 0 0)).setCell ⟨s + 1, 10, none⟩ (.slice none 0 0)).setCell ⟨s + 1, 11, none⟩ (.slice none 0 0)) = W9 at *
  have x0 := NN.out.1.cell 0 rfl
  have x1 := NN.out.1.cell 1 rfl
  have x2 := NN.out.1.cell 2 rfl
  have x3 := NN.out.1.cell 3 rfl
  have x4 := NN.out.1.cell 4 rfl
  have x5 := NN.out.1.cell 5 rfl
  have x6 := NN.out.1.cell 6 rfl
  have x7 := NN.out.1.cell 7 rfl
  have x8 := NN.out.1.cell 8 rfl
  have x9 := NN.out.1.cell 9 rfl
  have x10 := NN.out.1.cell 10 rfl
  have x11 := NN.out.1.cell 11 rfl
  exact bodyPost_ret (v := .agg #[.int .i64 8, .slice none 0 0, .int .i64 0, .slice none 0 0, .bool false, .bool false, .bool false, .int .i64 0, .slice none 0 0, .slice none 0 0, .slice none 0 0, .slice none 0 0]) (by simp [results, Tryz.results5, go_sem, x0, x1, x2, x3, x4, x5, x6, x7, x8, x9, x10, x11]) rfl ⟨_, _, _, _, _, _, rfl, sm_voidF _ _, Mq.under B1.out NN.out.2 fun k e => by have := HSs.out; omega⟩
set_option maxRecDepth 20000 in
set_option maxHeartbeats 8000000 in
theorem sso_mach (a0 a1 a2 a3 : Option Addr) (n0 c0 n1 c1 n2 c2 n3 c3 : Nat) (P : Plc) (g : Nat) (ia : Option Addr) (il ic : Nat) (im : List Int) (b1 : Nat) (ja : Option Addr) (jl jc : Nat) (inp : List Int) (b2 : Nat) (w : World) (h : Pl w a0 n0 c0 a1 n1 c1 a2 n2 c2 a3 n3 c3 P) (hi : Nums w b1 (.slice ia il ic) im) (hj : Nums w b2 (.slice ja jl jc) inp) (hv : askV P (g : Int) = 0) (hl : ¬ (P.own.getD g []).length * 8 < im.length) (hn : (newR inp).1 ≠ 0) :
    Calls Tryz.prog 5 #[.agg #[.slice a0 n0 c0, .slice a1 n1 c1, .slice a2 n2 c2, .slice a3 n3 c3], .int .i64 g, .slice ia il ic, .slice ja jl jc] w fun e w' => ∃ r' c' i' o' l' m', e = .returned (.agg #[.int .i64 (soC P g im inp), r', .int .i64 (soH P g im inp).pc, c', .bool (soH P g im inp).halted, .bool (soH P g im inp).waiting, .bool (soH P g im inp).rung, .int .i64 (soH P g im inp).done, i', o', l', m']) ∧ Sm w' w.heap.size r' c' i' o' l' m' (soH P g im inp) (soP P g im inp) (soZ P g im inp) ∧ Below w.heap.size w w' := by
  have hx : soC P (g : Int) im inp = (newR inp).1 := by rw [soC, if_pos hv, Int.toNat_natCast, if_neg hl]
  have hu := so_not P (g : Int) im inp (by rw [hx]; exact hn)
  rw [hu.1, hu.2.1, hu.2.2, hx]
  obtain ⟨cx, hcx⟩ : ∃ cx, (newR inp).1 = cx := ⟨_, rfl⟩
  rw [hcx] at hn ⊢
  have HN : Hid ((newR inp).1 = cx) := hcx
  have HV : Hid (askV P (g : Int) = 0) := hv
  have PP : Hid (pfV P = 0) := (ask_ok hv).1
  have GL : Hid (g < P.own.length) := by obtain ⟨_, g', e, h'⟩ := ask_ok hv; show g < _; omega
  have IL : Hid (im.length = il ∧ il ≤ maxLen) := by obtain ⟨_, _, e, h1, h2, _⟩ := hi.shape; cases e; exact ⟨rfl, by omega⟩
  have HL : Hid (¬ (P.own.getD g []).length * 8 < im.length) := hl
  clear hu hx hv hl hcx
  generalize hW : (w.alloc (.cells #[.slice a0 n0 c0, .slice a1 n1 c1, .slice a2 n2 c2, .slice a3 n3 c3] 42)).alloc (.cells #[.int .i64 0, .slice none 0 0, .int .i64 0, .slice none 0 0, .bool false, .bool false, .bool false, .int .i64 0, .slice none 0 0, .slice none 0 0, .slice none 0 0, .slice none 0 0] 36) = W
  have B0 : Hid (Below w.heap.size w W) := by show Below _ _ _; rw [← hW]; exact al (al (Below.refl _ _) _) _
  obtain ⟨s, hS⟩ : ∃ s, w.heap.size = s := ⟨_, rfl⟩
  have HSs : Hid (w.heap.size = s) := hS
  have z1 : s + 1 = (w.alloc (.cells #[.slice a0 n0 c0, .slice a1 n1 c1, .slice a2 n2 c2, .slice a3 n3 c3] 42)).heap.size := by rw [← hS]; simp
  have Q : Hid (Vb W s #[.slice a0 n0 c0, .slice a1 n1 c1, .slice a2 n2 c2, .slice a3 n3 c3] 42) := by show Vb _ _ _ _; rw [← hW, ← hS]; exact (Vb.new _ _ _).push _
  have R : Hid (Vb W (s + 1) #[.int .i64 0, .slice none 0 0, .int .i64 0, .slice none 0 0, .bool false, .bool false, .bool false, .int .i64 0, .slice none 0 0, .slice none 0 0, .slice none 0 0, .slice none 0 0] 36) := by show Vb _ _ _ _; rw [← hW, z1]; exact Vb.new _ _ _
  clear z1
  have D : Hid (Pl W a0 n0 c0 a1 n1 c1 a2 n2 c2 a3 n3 c3 P) := h.stay B0.out
  have NI : Hid (Nums W b1 (.slice ia il ic) im ∧ Nums W b2 (.slice ja jl jc) inp) := ⟨hi.keep B0.out, hj.keep B0.out⟩
  clear h hi hj
  have q0 := Q.out.cell 0 rfl
  have q1 := Q.out.cell 1 rfl
  have q2 := Q.out.cell 2 rfl
  have q3 := Q.out.cell 3 rfl
  have PA : Hid (PolAt W s P) := ⟨_, _, _, _, _, _, _, _, _, _, _, _, q0, q1, q2, q3, D.out⟩
  go_enter Tryz.func5, Tryz.ntmps5
  go_wp2_with fail
  clear hW hS q0 q1 q2 q3
  refine (l6_asked s _ P _ PA.out).mono ?_
  rw [HV.out]
  rintro e w1 ⟨rfl, b1'⟩
  have B1 : Hid (Below w.heap.size w w1) := on B0.out b1'
  have E1 : Hid (Below W.heap.size W w1) := b1'
  have R1 : Hid (Vb w1 (s + 1) #[.int .i64 0, .slice none 0 0, .int .i64 0, .slice none 0 0, .bool false, .bool false, .bool false, .int .i64 0, .slice none 0 0, .slice none 0 0, .slice none 0 0, .slice none 0 0] 36) := R.out.keep b1'
  have Q1 : Hid (Vb w1 s #[.slice a0 n0 c0, .slice a1 n1 c1, .slice a2 n2 c2, .slice a3 n3 c3] 42) := Q.out.keep b1'
  clear b1'
  have hgn : g < n0 := by have := D.out.own.len; have := GL.out; omega
  have hgI : (g : Int) < (n0 : Int) := by omega
  have hn0 : (n0 : Int) ≤ 9223372036854775807 := by have := D.out.own.cap; unfold maxLen at this; omega
  obtain ⟨x, rb, rl, rc, hx0, k1, k2⟩ := (D.out.own.stay E1.out).at g hgn
  have RLN : Hid (rl = (P.own.getD g []).length) := k2.len
  have RL5 : Hid (rl ≤ 5) := by have := (pf_own P PP.out g GL.out).2.1; rw [k2.len]; exact this
  clear k2
  subst hx0
  have hil : (il : Int) ≤ 9223372036854775807 := by have := IL.out.2; unfold maxLen at this; omega
  have hr5 : (rl : Int) ≤ 5 := by have := RL5.out; omega
  have hlt : ¬ (rl : Int) * 8 < (il : Int) := by have := HL.out; have := IL.out.1; have := RLN.out; omega
  have q0 := Q1.out.cell 0 rfl
  go_wp2_with fail
  clear q0 k1
  refine (s_newHart8 _ inp b2 _ (NI.out.2.keep E1.out)).mono ?_
  rintro e w2 ⟨rv, cv, iv, ov, rfl, hm, ha, b2'⟩
  rw [HN.out]
  have AL : Hid (Below w2.heap.size w2 (w2.alloc (.cells #[.int .i64 cx, rv, .int .i64 (newR inp).2.pc, cv, .bool (newR inp).2.halted, .bool (newR inp).2.waiting, .bool (newR inp).2.rung, .int .i64 (newR inp).2.done, iv, ov] 59))) := al (Below.refl _ _) _
  have B2 : Hid (Below w.heap.size w (w2.alloc (.cells #[.int .i64 cx, rv, .int .i64 (newR inp).2.pc, cv, .bool (newR inp).2.halted, .bool (newR inp).2.waiting, .bool (newR inp).2.rung, .int .i64 (newR inp).2.done, iv, ov] 59))) := al (on B1.out b2') _
  have R2 : Hid (Vb (w2.alloc (.cells #[.int .i64 cx, rv, .int .i64 (newR inp).2.pc, cv, .bool (newR inp).2.halted, .bool (newR inp).2.waiting, .bool (newR inp).2.rung, .int .i64 (newR inp).2.done, iv, ov] 59)) (s + 1) #[.int .i64 0, .slice none 0 0, .int .i64 0, .slice none 0 0, .bool false, .bool false, .bool false, .int .i64 0, .slice none 0 0, .slice none 0 0, .slice none 0 0, .slice none 0 0] 36) := (R1.out.keep b2').keep AL.out
  have V2 : Hid (Vb (w2.alloc (.cells #[.int .i64 cx, rv, .int .i64 (newR inp).2.pc, cv, .bool (newR inp).2.halted, .bool (newR inp).2.waiting, .bool (newR inp).2.rung, .int .i64 (newR inp).2.done, iv, ov] 59)) w2.heap.size #[.int .i64 cx, rv, .int .i64 (newR inp).2.pc, cv, .bool (newR inp).2.halted, .bool (newR inp).2.waiting, .bool (newR inp).2.rung, .int .i64 (newR inp).2.done, iv, ov] 59) := Vb.new _ _ _
  have LTs : Hid (s + 1 < w2.heap.size) := (R1.out.keep b2').lt
  obtain ⟨da, dk, e0, _⟩ := hm.r.shape
  obtain ⟨db, dl, e1, _⟩ := hm.c.shape
  obtain ⟨dc, dm, e2, _⟩ := hm.i.shape
  obtain ⟨dd, dn, e3, _⟩ := hm.o.shape
  subst e0 e1 e2 e3
  clear hm ha b2' AL
  go_upto_region 7 with fail
  generalize w2.alloc (.cells #[.int .i64 cx, .slice da (newR inp).2.regs.length dk, .int .i64 (newR inp).2.pc, .slice db (newR inp).2.csr.length dl, .bool (newR inp).2.halted, .bool (newR inp).2.waiting, .bool (newR inp).2.rung, .int .i64 (newR inp).2.done, .slice dc (newR inp).2.inn.length dm, .slice dd (newR inp).2.out.length dn] 59) = W2 at *
  generalize w2.heap.size = t2 at *
  have v0 := V2.out.cell 0 rfl
  have p0 := R2.out.cell 0 rfl
  have f0 := R2.out.free 0
  have p1 := R2.out.cell 1 rfl
  have f1 := R2.out.free 1
  have p2 := R2.out.cell 2 rfl
  have f2 := R2.out.free 2
  have p3 := R2.out.cell 3 rfl
  have f3 := R2.out.free 3
  have p4 := R2.out.cell 4 rfl
  have f4 := R2.out.free 4
  have p5 := R2.out.cell 5 rfl
  have f5 := R2.out.free 5
  have p6 := R2.out.cell 6 rfl
  have f6 := R2.out.free 6
  have p7 := R2.out.cell 7 rfl
  have f7 := R2.out.free 7
  have p8 := R2.out.cell 8 rfl
  have f8 := R2.out.free 8
  have p9 := R2.out.cell 9 rfl
  have f9 := R2.out.free 9
  have p10 := R2.out.cell 10 rfl
  have f10 := R2.out.free 10
  have p11 := R2.out.cell 11 rfl
  have f11 := R2.out.free 11
  have lt := R2.out.lt
  go_wp2_with fail
  clear lt p0 f0 p1 f1 p2 f2 p3 f3 p4 f4 p5 f5 p6 f6 p7 f7 p8 f8 p9 f9 p10 f10 p11 f11
  have NN : Hid (_ ∧ _) := twelveF R2.out (.int .i64 cx) (.slice none 0 0) (.int .i64 0) (.slice none 0 0) (.bool false) (.bool false) (.bool false) (.int .i64 0) (.slice none 0 0) (.slice none 0 0) (.slice none 0 0) (.slice none 0 0)
  generalize ((((((((((((W2.setCell ⟨s + 1, 0, none⟩ (.int .i64 cx)).setCell ⟨s + 1, 1, none⟩ (.slice none 0 0)).setCell ⟨s + 1, 2, none⟩ (.int .i64 0)).setCell ⟨s + 1, 3, none⟩ (.slice none 0 0)).setCell ⟨s + 1, 4, none⟩ (.bool false)).setCell ⟨s + 1, 5, none⟩ (.bool false)).setCell ⟨s + 1, 6, none⟩ (.bool false)).setCell ⟨s + 1, 7, none⟩ (.int .i64 0)).setCell ⟨s + 1, 8, none⟩ (.slice none 0 0)).setCell ⟨s + 1, 9, none⟩ (.slice none 0 0)).setCell ⟨s + 1, 10, none⟩ (.slice none 0 0)).setCell ⟨s + 1, 11, none⟩ (.slice none 0 0)) = W9 at *
  have x0 := NN.out.1.cell 0 rfl
  have x1 := NN.out.1.cell 1 rfl
  have x2 := NN.out.1.cell 2 rfl
  have x3 := NN.out.1.cell 3 rfl
  have x4 := NN.out.1.cell 4 rfl
  have x5 := NN.out.1.cell 5 rfl
  have x6 := NN.out.1.cell 6 rfl
  have x7 := NN.out.1.cell 7 rfl
  have x8 := NN.out.1.cell 8 rfl
  have x9 := NN.out.1.cell 9 rfl
  have x10 := NN.out.1.cell 10 rfl
  have x11 := NN.out.1.cell 11 rfl
  exact bodyPost_ret (v := .agg #[.int .i64 cx, .slice none 0 0, .int .i64 0, .slice none 0 0, .bool false, .bool false, .bool false, .int .i64 0, .slice none 0 0, .slice none 0 0, .slice none 0 0, .slice none 0 0]) (by simp [results, Tryz.results5, go_sem, x0, x1, x2, x3, x4, x5, x6, x7, x8, x9, x10, x11]) rfl ⟨_, _, _, _, _, _, rfl, sm_voidF _ _, Mq.under B2.out NN.out.2 fun k e => by have := HSs.out; omega⟩
set_option maxRecDepth 20000 in
set_option maxHeartbeats 8000000 in
theorem sso_good (a0 a1 a2 a3 : Option Addr) (n0 c0 n1 c1 n2 c2 n3 c3 : Nat) (P : Plc) (g : Nat) (ia : Option Addr) (il ic : Nat) (im : List Int) (b1 : Nat) (ja : Option Addr) (jl jc : Nat) (inp : List Int) (b2 : Nat) (w : World) (h : Pl w a0 n0 c0 a1 n1 c1 a2 n2 c2 a3 n3 c3 P) (hi : Nums w b1 (.slice ia il ic) im) (hj : Nums w b2 (.slice ja jl jc) inp) (hv : askV P (g : Int) = 0) (hl : ¬ (P.own.getD g []).length * 8 < im.length) (hn : (newR inp).1 = 0) :
    Calls Tryz.prog 5 #[.agg #[.slice a0 n0 c0, .slice a1 n1 c1, .slice a2 n2 c2, .slice a3 n3 c3], .int .i64 g, .slice ia il ic, .slice ja jl jc] w fun e w' => ∃ r' c' i' o' l' m', e = .returned (.agg #[.int .i64 (soC P g im inp), r', .int .i64 (soH P g im inp).pc, c', .bool (soH P g im inp).halted, .bool (soH P g im inp).waiting, .bool (soH P g im inp).rung, .int .i64 (soH P g im inp).done, i', o', l', m']) ∧ Sm w' w.heap.size r' c' i' o' l' m' (soH P g im inp) (soP P g im inp) (soZ P g im inp) ∧ Below w.heap.size w w' := by
  have hx : soC P (g : Int) im inp = 0 := by rw [soC, if_pos hv, Int.toNat_natCast, if_neg hl, hn]
  have hu := so_yes P (g : Int) im inp hx
  obtain ⟨nh, ok⟩ := newR_ok hn
  rw [hu.1, hu.2.1, hu.2.2, hx, Int.toNat_natCast, nh]
  obtain ⟨H, hH⟩ : ∃ H, newV inp = H := ⟨_, rfl⟩
  rw [hH] at nh ok ⊢
  have HN : Hid ((newR inp).1 = 0 ∧ (newR inp).2 = H) := ⟨hn, nh⟩
  have HOK : Hid (Hok H) := ok
  obtain ⟨PS, hPS⟩ : ∃ PS, (pforL (P.own.getD g []) P.lanes (g : Int) 8) = PS := ⟨_, rfl⟩
  have HPS : Hid ((pforL (P.own.getD g []) P.lanes (g : Int) 8) = PS) := hPS
  rw [hPS]
  have HV : Hid (askV P (g : Int) = 0) := hv
  have PP : Hid (pfV P = 0) := (ask_ok hv).1
  have GL : Hid (g < P.own.length) := by obtain ⟨_, g', e, h'⟩ := ask_ok hv; show g < _; omega
  have IL : Hid (im.length = il ∧ il ≤ maxLen) := by obtain ⟨_, _, e, h1, h2, _⟩ := hi.shape; cases e; exact ⟨rfl, by omega⟩
  have HL : Hid (¬ (P.own.getD g []).length * 8 < im.length) := hl
  have I40 : Hid (im.length ≤ 40) := by obtain ⟨_, g', e, _, _, h40, _⟩ := so_len P (g : Int) im inp hx; exact h40
  obtain ⟨ZZ, hZZ⟩ : ∃ ZZ, (putN (List.replicate 64 0) 0 im im.length) = ZZ := ⟨_, rfl⟩
  have ZL : Hid (ZZ.length = 64) := by show _ = _; rw [← hZZ, putN_length, List.length_replicate]
  have HZZ : Hid ((putN (List.replicate 64 0) 0 im im.length) = ZZ) := hZZ
  rw [hZZ]
  clear hu hx hv hl hn nh ok hPS hH hZZ
  generalize hW : (w.alloc (.cells #[.slice a0 n0 c0, .slice a1 n1 c1, .slice a2 n2 c2, .slice a3 n3 c3] 42)).alloc (.cells #[.int .i64 0, .slice none 0 0, .int .i64 0, .slice none 0 0, .bool false, .bool false, .bool false, .int .i64 0, .slice none 0 0, .slice none 0 0, .slice none 0 0, .slice none 0 0] 36) = W
  have B0 : Hid (Below w.heap.size w W) := by show Below _ _ _; rw [← hW]; exact al (al (Below.refl _ _) _) _
  obtain ⟨s, hS⟩ : ∃ s, w.heap.size = s := ⟨_, rfl⟩
  have HSs : Hid (w.heap.size = s) := hS
  have z1 : s + 1 = (w.alloc (.cells #[.slice a0 n0 c0, .slice a1 n1 c1, .slice a2 n2 c2, .slice a3 n3 c3] 42)).heap.size := by rw [← hS]; simp
  have Q : Hid (Vb W s #[.slice a0 n0 c0, .slice a1 n1 c1, .slice a2 n2 c2, .slice a3 n3 c3] 42) := by show Vb _ _ _ _; rw [← hW, ← hS]; exact (Vb.new _ _ _).push _
  have R : Hid (Vb W (s + 1) #[.int .i64 0, .slice none 0 0, .int .i64 0, .slice none 0 0, .bool false, .bool false, .bool false, .int .i64 0, .slice none 0 0, .slice none 0 0, .slice none 0 0, .slice none 0 0] 36) := by show Vb _ _ _ _; rw [← hW, z1]; exact Vb.new _ _ _
  clear z1
  have D : Hid (Pl W a0 n0 c0 a1 n1 c1 a2 n2 c2 a3 n3 c3 P) := h.stay B0.out
  have NI : Hid (Nums W b1 (.slice ia il ic) im ∧ Nums W b2 (.slice ja jl jc) inp) := ⟨hi.keep B0.out, hj.keep B0.out⟩
  clear h hi hj
  have q0 := Q.out.cell 0 rfl
  have q1 := Q.out.cell 1 rfl
  have q2 := Q.out.cell 2 rfl
  have q3 := Q.out.cell 3 rfl
  have PA : Hid (PolAt W s P) := ⟨_, _, _, _, _, _, _, _, _, _, _, _, q0, q1, q2, q3, D.out⟩
  go_enter Tryz.func5, Tryz.ntmps5
  go_wp2_with fail
  clear hW hS q0 q1 q2 q3
  refine (l6_asked s _ P _ PA.out).mono ?_
  rw [HV.out]
  rintro e w1 ⟨rfl, b1'⟩
  have B1 : Hid (Below w.heap.size w w1) := on B0.out b1'
  have E1 : Hid (Below W.heap.size W w1) := b1'
  have R1 : Hid (Vb w1 (s + 1) #[.int .i64 0, .slice none 0 0, .int .i64 0, .slice none 0 0, .bool false, .bool false, .bool false, .int .i64 0, .slice none 0 0, .slice none 0 0, .slice none 0 0, .slice none 0 0] 36) := R.out.keep b1'
  have Q1 : Hid (Vb w1 s #[.slice a0 n0 c0, .slice a1 n1 c1, .slice a2 n2 c2, .slice a3 n3 c3] 42) := Q.out.keep b1'
  clear b1'
  have hgn : g < n0 := by have := D.out.own.len; have := GL.out; omega
  have hgI : (g : Int) < (n0 : Int) := by omega
  have hn0 : (n0 : Int) ≤ 9223372036854775807 := by have := D.out.own.cap; unfold maxLen at this; omega
  obtain ⟨x, rb, rl, rc, hx0, k1, k2⟩ := (D.out.own.stay E1.out).at g hgn
  have RLN : Hid (rl = (P.own.getD g []).length) := k2.len
  have RL5 : Hid (rl ≤ 5) := by have := (pf_own P PP.out g GL.out).2.1; rw [k2.len]; exact this
  clear k2
  subst hx0
  have hil : (il : Int) ≤ 9223372036854775807 := by have := IL.out.2; unfold maxLen at this; omega
  have hr5 : (rl : Int) ≤ 5 := by have := RL5.out; omega
  have hlt : ¬ (rl : Int) * 8 < (il : Int) := by have := HL.out; have := IL.out.1; have := RLN.out; omega
  have q0 := Q1.out.cell 0 rfl
  go_wp2_with fail
  clear q0 k1 hil hr5 hlt
  refine (s_newHart8 _ inp b2 _ (NI.out.2.keep E1.out)).mono ?_
  rintro e w2 ⟨rv, cv, iv, ov, rfl, hm, ha, b2'⟩
  rw [HN.out.1, HN.out.2] at *
  obtain ⟨da, dk, e0, _⟩ := hm.r.shape
  obtain ⟨db, dl, e1, _⟩ := hm.c.shape
  obtain ⟨dc, dm, e2, _⟩ := hm.i.shape
  obtain ⟨dd, dn, e3, _⟩ := hm.o.shape
  subst e0 e1 e2 e3
  obtain ⟨d0, hd0⟩ : ∃ n, H.regs.length = n := ⟨_, rfl⟩
  obtain ⟨d1, hd1⟩ : ∃ n, H.csr.length = n := ⟨_, rfl⟩
  obtain ⟨d2, hd2⟩ : ∃ n, H.inn.length = n := ⟨_, rfl⟩
  obtain ⟨d3, hd3⟩ : ∃ n, H.out.length = n := ⟨_, rfl⟩
  rw [hd0, hd1, hd2, hd3] at hm ha ⊢
  clear hd0 hd1 hd2 hd3
  have AL : Hid (Below w2.heap.size w2 (w2.alloc (.cells #[.int .i64 0, .slice da d0 dk, .int .i64 H.pc, .slice db d1 dl, .bool H.halted, .bool H.waiting, .bool H.rung, .int .i64 H.done, .slice dc d2 dm, .slice dd d3 dn] 59))) := al (Below.refl _ _) _
  have B2 : Hid (Below w.heap.size w (w2.alloc (.cells #[.int .i64 0, .slice da d0 dk, .int .i64 H.pc, .slice db d1 dl, .bool H.halted, .bool H.waiting, .bool H.rung, .int .i64 H.done, .slice dc d2 dm, .slice dd d3 dn] 59))) := al (on B1.out b2') _
  have E2 : Hid (Below W.heap.size W (w2.alloc (.cells #[.int .i64 0, .slice da d0 dk, .int .i64 H.pc, .slice db d1 dl, .bool H.halted, .bool H.waiting, .bool H.rung, .int .i64 H.done, .slice dc d2 dm, .slice dd d3 dn] 59))) := al (on E1.out b2') _
  have R2 : Hid (Vb (w2.alloc (.cells #[.int .i64 0, .slice da d0 dk, .int .i64 H.pc, .slice db d1 dl, .bool H.halted, .bool H.waiting, .bool H.rung, .int .i64 H.done, .slice dc d2 dm, .slice dd d3 dn] 59)) (s + 1) #[.int .i64 0, .slice none 0 0, .int .i64 0, .slice none 0 0, .bool false, .bool false, .bool false, .int .i64 0, .slice none 0 0, .slice none 0 0, .slice none 0 0, .slice none 0 0] 36) := (R1.out.keep b2').keep AL.out
  have Q2 : Hid (Vb (w2.alloc (.cells #[.int .i64 0, .slice da d0 dk, .int .i64 H.pc, .slice db d1 dl, .bool H.halted, .bool H.waiting, .bool H.rung, .int .i64 H.done, .slice dc d2 dm, .slice dd d3 dn] 59)) s #[.slice (some x) n0 c0, .slice a1 n1 c1, .slice a2 n2 c2, .slice a3 n3 c3] 42) := (Q1.out.keep b2').keep AL.out
  have V2 : Hid (Vb (w2.alloc (.cells #[.int .i64 0, .slice da d0 dk, .int .i64 H.pc, .slice db d1 dl, .bool H.halted, .bool H.waiting, .bool H.rung, .int .i64 H.done, .slice dc d2 dm, .slice dd d3 dn] 59)) w2.heap.size #[.int .i64 0, .slice da d0 dk, .int .i64 H.pc, .slice db d1 dl, .bool H.halted, .bool H.waiting, .bool H.rung, .int .i64 H.done, .slice dc d2 dm, .slice dd d3 dn] 59) := Vb.new _ _ _
  have HM2 : Hid (Hm (w2.alloc (.cells #[.int .i64 0, .slice da d0 dk, .int .i64 H.pc, .slice db d1 dl, .bool H.halted, .bool H.waiting, .bool H.rung, .int .i64 H.done, .slice dc d2 dm, .slice dd d3 dn] 59)) w1.heap.size (.slice da d0 dk) (.slice db d1 dl) (.slice dc d2 dm) (.slice dd d3 dn) H ∧ Ha (.slice da d0 dk) (.slice db d1 dl) (.slice dc d2 dm) (.slice dd d3 dn)) := ⟨hm.keep AL.out, ha⟩
  have LTs : Hid (s + 1 < w1.heap.size ∧ w1.heap.size ≤ w2.heap.size ∧ w2.heap.size + 1 = (w2.alloc (.cells #[.int .i64 0, .slice da d0 dk, .int .i64 H.pc, .slice db d1 dl, .bool H.halted, .bool H.waiting, .bool H.rung, .int .i64 H.done, .slice dc d2 dm, .slice dd d3 dn] 59)).heap.size) := ⟨R1.out.lt, b2'.size, by simp⟩
  clear hm ha b2' AL
  go_upto_region 7 with fail
  generalize w2.alloc (.cells #[.int .i64 0, .slice da d0 dk, .int .i64 H.pc, .slice db d1 dl, .bool H.halted, .bool H.waiting, .bool H.rung, .int .i64 H.done, .slice dc d2 dm, .slice dd d3 dn] 59) = W2 at *
  obtain ⟨t2, ht2⟩ : ∃ t, w2.heap.size = t := ⟨_, rfl⟩
  rw [ht2] at V2 LTs ⊢
  clear ht2
  have v0 := V2.out.cell 0 rfl
  obtain ⟨W3, MK, nz, gz⟩ := mk64o W2
  have E3 : Hid (Below W2.heap.size W2 W3) := (Below.refl _ _).grown gz (Nat.le_refl _) (by simp)
  obtain ⟨mg, hmg⟩ : ∃ g, W2.heap.size = g := ⟨_, rfl⟩
  have MG : Hid (W2.heap.size = mg) := hmg
  rw [hmg] at MK nz
  have N3 : Hid (Nums W3 mg (.slice (some ⟨mg, 0, none⟩) 64 64) (List.replicate 64 0)) := nz
  clear nz gz hmg
  have iln : (il : Int) ≤ 40 := by have := I40.out; have := IL.out.1; omega
  go_wp2_with fail
  clear v0 MK
  go_loopw [12] (fun c wr => ∃ k : Nat, k ≤ il ∧ c = .int .i64 (k : Int) ∧ Nums wr mg (.slice (some ⟨mg, 0, none⟩) 64 64) (putN (List.replicate 64 0) 0 im k) ∧ Below W2.heap.size W2 wr) (fun c _ => il - (intOf c).toNat)
  case atStart => exact ⟨0, Nat.zero_le _, rfl, N3.out, E3.out⟩
  case round =>
    obtain ⟨k, hk, rfl, hN, hB⟩ := hrel
    have HNk : Hid (Nums wr mg (.slice (some ⟨mg, 0, none⟩) 64 64) (putN (List.replicate 64 0) 0 im k)) := hN
    have HB : Hid (Below W2.heap.size W2 wr) := hB
    by_cases hlt : k < il
    · have hI : (k : Int) < (il : Int) := by omega
      have hk0 : (k : Int) < 64 := by omega
      have HLT : Hid (k < il) := hlt
      have NIk : Hid (Nums wr b1 (.slice ia il ic) im) := (NI.out.1.keep E2.out).keep hB
      obtain ⟨gi, hgi⟩ : ∃ gi, ia = some ⟨gi, 0, none⟩ := by
        obtain ⟨_, _, e, _, _, hg⟩ := NIk.out.shape
        cases e
        exact hg (by have := HLT.out; have := IL.out.1; omega)
      subst hgi
      have ci := NIk.out.cell IL.out.1.symm k hlt
      have PL : Hid ((putN (List.replicate 64 0) 0 im k).length = 64) := by show _ = _; rw [putN_length, List.length_replicate]
      have cm := hN.cell PL.out.symm k (by omega)
      have fm := hN.free PL.out.symm k
      have lt := block_of_cell cm
      have ST : Hid (Nums (wr.setCell ⟨mg, k, none⟩ (.int .i64 (wd (im.getD k 0)))) mg (.slice (some ⟨mg, 0, none⟩) 64 64) (putN (List.replicate 64 0) 0 im (k + 1))) := by
        have := (hN.store k (wd (im.getD k 0))).1
        show Nums _ _ _ _
        rw [putN, Nat.zero_add]
        exact this
      generalize im.getD k 0 = zz at *
      generalize (putN (List.replicate 64 0) 0 im k).getD k 0 = yy at *
      clear hlt hN hB
      go_wp2_with (go_at_call 22; refine (s_wrapO _ _).mono ?_; rintro e y ⟨rfl, hy⟩; rw [hy]; clear hy y)
      go_roundw
      case rel => exact ⟨k + 1, by have := HLT.out; omega, by go_num, ST.out, HB.out.setCell (by have := MG.out; show W2.heap.size ≤ mg; omega) _⟩
      case measure => have := HLT.out; simp [intOf]; omega
    · have hJ : ¬ (k : Int) < (il : Int) := by omega
      obtain rfl : k = il := by omega
      have M4 : Hid (Nums wr mg (.slice (some ⟨mg, 0, none⟩) 64 64) ZZ) := by
        have := HNk.out
        rw [← IL.out.1, HZZ.out] at this
        exact this
      clear hlt hN hB HNk hk
      have E4 : Hid (Below W2.heap.size W2 wr) := HB.out
      have B4 : Hid (Below w.heap.size w wr) := on B2.out E4.out
      have R4 : Hid (Vb wr (s + 1) #[.int .i64 0, .slice none 0 0, .int .i64 0, .slice none 0 0, .bool false, .bool false, .bool false, .int .i64 0, .slice none 0 0, .slice none 0 0, .slice none 0 0, .slice none 0 0] 36) := R2.out.keep E4.out
      have Q4 : Hid (Vb wr s #[.slice (some x) n0 c0, .slice a1 n1 c1, .slice a2 n2 c2, .slice a3 n3 c3] 42) := Q2.out.keep E4.out
      have V4' : Hid (Vb wr t2 #[.int .i64 0, .slice da d0 dk, .int .i64 H.pc, .slice db d1 dl, .bool H.halted, .bool H.waiting, .bool H.rung, .int .i64 H.done, .slice dc d2 dm, .slice dd d3 dn] 59) := V2.out.keep E4.out
      have LT : Hid (s + 1 < wr.heap.size ∧ s + 1 < t2) := ⟨R4.out.lt, by have := LTs.out; omega⟩
      have QS : Hid (∀ w', SvN 12 wr (s + 1) w' → Vb w' s #[.slice (some x) n0 c0, .slice a1 n1 c1, .slice a2 n2 c2, .slice a3 n3 c3] 42 ∧ Vb w' t2 #[.int .i64 0, .slice da d0 dk, .int .i64 H.pc, .slice db d1 dl, .bool H.halted, .bool H.waiting, .bool H.rung, .int .i64 H.done, .slice dc d2 dm, .slice dd d3 dn] 59) := fun w' hs => ⟨hs.1.vb Q4.out (by omega), hs.1.vb V4'.out (by have := LT.out; omega)⟩
      have BS : Hid (∀ w', SvN 12 wr (s + 1) w' → Below w.heap.size w w') := fun w' hs => Mq.under B4.out hs.1 fun k e => by have := HSs.out; omega
      have Sv0 : Hid (SvN 12 wr (s + 1) wr.drew) := SvN.step ⟨Mq.refl _ _, R4.out.there 12 (by decide)⟩ LT.out.1 (Below.refl _ _).drew
      have E0 : Hid (Below wr.heap.size wr wr.drew) := (Below.refl _ _).drew
      go_upto_region 14 with fail
      refine wp_region_held (S := fun w' => SvN 12 wr (s + 1) w') (by kernel_rfl) ?_
      change wpAnyH _ _ _ _ _ _ _ _ (World.drew _)
      generalize wr.drew = u0 at *
      refine wpAnyH_take (i := 0) (v := (.pointer (some ⟨t2, 1, none⟩))) rfl (by kernel_rfl) (by kernel_rfl) (by kernel_rfl) (fun _ _ _ h => h) (Or.inl ⟨by rfl, fun w' hs => by go_simp⟩) Sv0.out ?_
      change wpAnyH _ _ _ _ _ _ _ (Act.put _ (some 53) _) _
      simp only [Act.put, List.setIfInBounds_toArray, List.set_cons_zero, List.set_cons_succ]
      refine wpAnyH_take (i := 1) (v := (.agg #[.slice da d0 dk, .int .i64 H.pc, .slice db d1 dl, .bool H.halted, .bool H.waiting, .bool H.rung, .int .i64 H.done, .slice dc d2 dm, .slice dd d3 dn])) rfl (by kernel_rfl) (by kernel_rfl) (by kernel_rfl) (fun _ _ _ h => h) (Or.inl ⟨by rfl, fun w' hs => by have qv := (QS.out w' hs).2; have y1 := qv.cell 1 rfl; have y2 := qv.cell 2 rfl; have y3 := qv.cell 3 rfl; have y4 := qv.cell 4 rfl; have y5 := qv.cell 5 rfl; have y6 := qv.cell 6 rfl; have y7 := qv.cell 7 rfl; have y8 := qv.cell 8 rfl; have y9 := qv.cell 9 rfl; go_simp⟩) Sv0.out ?_
      change wpAnyH _ _ _ _ _ _ _ (Act.put _ (some 54) _) _
      simp only [Act.put, List.setIfInBounds_toArray, List.set_cons_zero, List.set_cons_succ]
      refine wpAnyH_take (i := 2) (v := (.int .i64 (g : Int))) rfl (by kernel_rfl) (by kernel_rfl) (by kernel_rfl) (fun _ _ _ h => h) (Or.inl ⟨by rfl, fun w' hs => by go_simp⟩) Sv0.out ?_
      change wpAnyH _ _ _ _ _ _ _ (Act.put _ (some 55) _) _
      simp only [Act.put, List.setIfInBounds_toArray, List.set_cons_zero, List.set_cons_succ]
      refine wpAnyH_take (i := 4) (v := (.slice (some ⟨mg, 0, none⟩) 64 64)) rfl (by kernel_rfl) (by kernel_rfl) (by kernel_rfl) (fun _ _ _ h => h) (Or.inl ⟨by rfl, fun w' hs => by go_simp⟩) Sv0.out ?_
      change wpAnyH _ _ _ _ _ _ _ (Act.put _ (some 57) _) _
      simp only [Act.put, List.setIfInBounds_toArray, List.set_cons_zero, List.set_cons_succ]
      refine wpAnyH_ready (rs := [3]) (by kernel_rfl) (by simp) ?_
      refine AllReadyH.cons rfl (fun K hK => ?_) AllReadyH.nil
      rw [if_pos (by rfl)]
      go_simp
      have PA' : Hid (PolAt u0 s P) := by
        have qq := (QS.out _ Sv0.out).1
        exact ⟨_, _, _, _, _, _, _, _, _, _, _, _, qq.cell 0 rfl, qq.cell 1 rfl, qq.cell 2 rfl, qq.cell 3 rfl, (((D.out.stay E2.out).stay E4.out).stay E0.out)⟩
      refine (s_pages11 s (g : Int) P _ PA'.out (by have := GL.out; exact ⟨by omega, by omega⟩) PP.out (by rw [Int.toNat_natCast]; exact pg_each PP.out GL.out)).mono ?_
      rw [Int.toNat_natCast, HPS.out]
      rintro e u4 ⟨lv, rfl, pr, b5⟩
      obtain ⟨v4, k4', f4, _⟩ := pr.shape
      subst f4
      obtain ⟨e4, he4⟩ : ∃ n, (aloL PS).length = n := ⟨_, rfl⟩
      rw [he4] at pr ⊢
      have Sv4 : Hid (SvN 12 wr (s + 1) u4) := Sv0.out.step LT.out.1 b5
      have Z3 : Hid (s + 1 < w1.heap.size ∧ w.heap.size ≤ w1.heap.size) := ⟨LTs.out.1, B1.out.size⟩
      have V4 : Hid (Sm u4 w1.heap.size (.slice da d0 dk) (.slice db d1 dl) (.slice dc d2 dm) (.slice dd d3 dn) (.slice v4 e4 k4') (.slice (some ⟨mg, 0, none⟩) 64 64) H (aloL PS) ZZ) := by
        have hm4 := ((HM2.out.1.keep E4.out).keep E0.out).keep b5
        have mm4 := ((M4.out.keep E0.out).keep b5).mono (show w1.heap.size ≤ mg by have := LTs.out; have := MG.out; omega)
        have lo : ∀ k, Own4 (.slice da d0 dk) (.slice db d1 dl) (.slice dc d2 dm) (.slice dd d3 dn) k → k < mg := fun k e => by have := (HM2.out.1.own k e).2; have := MG.out; omega
        exact ⟨hm4, HM2.out.2, prs_mono (pr.keep (Below.refl _ _)) (by have := (BS.out _ Sv0.out).size; have := E0.out.size; have := E4.out.size; have := LTs.out; omega), mm4, apt_lo (fun k e => lo k (.inl e)) rfl, apt_lo (fun k e => lo k (.inr (.inl e))) rfl, apt_lo (fun k e => lo k (.inr (.inr (.inl e)))) rfl, apt_lo (fun k e => lo k (.inr (.inr (.inr e)))) rfl⟩
      clear pr b5 he4
      refine hK.out _ _ Sv4.out (fun _ => ?_)
      clear hK K
      refine wpAnyH_take (i := 5) (v := (.agg #[.slice da d0 dk, .int .i64 H.pc, .slice db d1 dl, .bool H.halted, .bool H.waiting, .bool H.rung, .int .i64 H.done, .slice dc d2 dm, .slice dd d3 dn, .slice v4 e4 k4', .slice (some ⟨mg, 0, none⟩) 64 64])) rfl (by kernel_rfl) (by kernel_rfl) (by kernel_rfl) (fun _ _ _ h => h) (Or.inl ⟨by rfl, fun w' hs => by go_simp⟩) Sv4.out ?_
      change wpAnyH _ _ _ _ _ _ _ (Act.put _ (some 58) _) _
      simp only [Act.put, List.setIfInBounds_toArray, List.set_cons_zero, List.set_cons_succ]
      refine wpAnyH_take (i := 6) (v := (.agg #[.int .i64 0, .slice da d0 dk, .int .i64 H.pc, .slice db d1 dl, .bool H.halted, .bool H.waiting, .bool H.rung, .int .i64 H.done, .slice dc d2 dm, .slice dd d3 dn, .slice v4 e4 k4', .slice (some ⟨mg, 0, none⟩) 64 64])) rfl (by kernel_rfl) (by kernel_rfl) (by kernel_rfl) (fun _ _ _ h => h) (Or.inl ⟨by rfl, fun w' hs => by go_simp⟩) Sv4.out ?_
      change wpAnyH _ _ _ _ _ _ _ (Act.put _ (some 59) _) _
      simp only [Act.put, List.setIfInBounds_toArray, List.set_cons_zero, List.set_cons_succ]
      refine wpAnyH_ready (rs := [7]) (by kernel_rfl) (by simp) ?_
      refine AllReadyH.cons rfl (fun K hK => ?_) AllReadyH.nil
      rw [if_pos (by rfl)]
      refine wp_store_mid 36 (.tmp 8) (.tmp 59) rfl (s + 1) 0 #[.int .i64 0, .slice da d0 dk, .int .i64 H.pc, .slice db d1 dl, .bool H.halted, .bool H.waiting, .bool H.rung, .int .i64 H.done, .slice dc d2 dm, .slice dd d3 dn, .slice v4 e4 k4', .slice (some ⟨mg, 0, none⟩) 64 64] rfl rfl Sv4.out.2 (by kernel_rfl) (by simp [Value.oneCell']) ?_
      change K (Act.put _ none undef) _
      simp only [Act.put]
      have S6 : Hid (SvN 12 wr (s + 1) (u4.setCells (s + 1) 0 #[.int .i64 0, .slice da d0 dk, .int .i64 H.pc, .slice db d1 dl, .bool H.halted, .bool H.waiting, .bool H.rung, .int .i64 H.done, .slice dc d2 dm, .slice dd d3 dn, .slice v4 e4 k4', .slice (some ⟨mg, 0, none⟩) 64 64].toList)) := Sv4.out.set _
      have R6 : Hid ((u4.setCells (s + 1) 0 #[.int .i64 0, .slice da d0 dk, .int .i64 H.pc, .slice db d1 dl, .bool H.halted, .bool H.waiting, .bool H.rung, .int .i64 H.done, .slice dc d2 dm, .slice dd d3 dn, .slice v4 e4 k4', .slice (some ⟨mg, 0, none⟩) 64 64].toList).rangeAt (s + 1) 0 #[.int .i64 0, .slice da d0 dk, .int .i64 H.pc, .slice db d1 dl, .bool H.halted, .bool H.waiting, .bool H.rung, .int .i64 H.done, .slice dc d2 dm, .slice dd d3 dn, .slice v4 e4 k4', .slice (some ⟨mg, 0, none⟩) 64 64].toList) := World.rangeAt_setCells_same _ _ _ _ Sv4.out.2
      have Q6 : Hid (Mq (fun k => k = s + 1) u4 (u4.setCells (s + 1) 0 #[.int .i64 0, .slice da d0 dk, .int .i64 H.pc, .slice db d1 dl, .bool H.halted, .bool H.waiting, .bool H.rung, .int .i64 H.done, .slice dc d2 dm, .slice dd d3 dn, .slice v4 e4 k4', .slice (some ⟨mg, 0, none⟩) 64 64].toList)) := mq_cells (s + 1) _ u4 0
      generalize u4.setCells (s + 1) 0 #[.int .i64 0, .slice da d0 dk, .int .i64 H.pc, .slice db d1 dl, .bool H.halted, .bool H.waiting, .bool H.rung, .int .i64 H.done, .slice dc d2 dm, .slice dd d3 dn, .slice v4 e4 k4', .slice (some ⟨mg, 0, none⟩) 64 64].toList = u6 at *
      refine hK.out _ _ S6.out (fun _ => ?_)
      clear hK K
      refine wpAnyH_done (by kernel_rfl) ?_ _
      have O6 : Ho (s + 2) u4 u6 := Q6.out.ho fun k e => by omega
      have NE : ∀ k, (Value.slice v4 e4 k4').ownBlock = some k → ¬ k = s + 1 := fun k e f => by have := (V4.out.pl.lt k e).1; have := Z3.out; omega
      have F : Hid (Sm u6 w.heap.size (.slice da d0 dk) (.slice db d1 dl) (.slice dc d2 dm) (.slice dd d3 dn) (.slice v4 e4 k4') (.slice (some ⟨mg, 0, none⟩) 64 64) H (aloL PS) ZZ) := ⟨((V4.out.h.mono (by have := Z3.out; omega)).ho O6).mono (by have := HSs.out; omega), V4.out.a, prs_mono (prs_mq V4.out.pl Q6.out NE) Z3.out.2, ((V4.out.mm.mono (by have := Z3.out; omega)).ho O6).mono (by have := HSs.out; omega), V4.out.rm, V4.out.cm, V4.out.im, V4.out.om⟩
      have B6 : Hid (Below w.heap.size w u6) := BS.out _ S6.out
      have LD := run_loadVar_mid (P := Tryz.prog) u6 (s + 1) 0 36 #[.int .i64 0, .slice da d0 dk, .int .i64 H.pc, .slice db d1 dl, .bool H.halted, .bool H.waiting, .bool H.rung, .int .i64 H.done, .slice dc d2 dm, .slice dd d3 dn, .slice v4 e4 k4', .slice (some ⟨mg, 0, none⟩) 64 64].toList _ R6.out Tryz.underlying36 rfl (by kernel_rfl)
      go_wp2_with fail
      exact bodyPost_ret (v := .agg #[.int .i64 0, .slice da d0 dk, .int .i64 H.pc, .slice db d1 dl, .bool H.halted, .bool H.waiting, .bool H.rung, .int .i64 H.done, .slice dc d2 dm, .slice dd d3 dn, .slice v4 e4 k4', .slice (some ⟨mg, 0, none⟩) 64 64]) (by simp [results, Tryz.results5, asAddr]; rw [LD]) rfl ⟨_, _, _, _, _, _, rfl, F.out, B6.out⟩
theorem s_soloOf (a0 a1 a2 a3 : Option Addr) (n0 c0 n1 c1 n2 c2 n3 c3 : Nat) (P : Plc) (gu : Int) (ia : Option Addr) (il ic : Nat) (im : List Int) (b1 : Nat) (ja : Option Addr) (jl jc : Nat) (inp : List Int) (b2 : Nat) (w : World) (h : Pl w a0 n0 c0 a1 n1 c1 a2 n2 c2 a3 n3 c3 P) (hi : Nums w b1 (.slice ia il ic) im) (hj : Nums w b2 (.slice ja jl jc) inp) :
    Calls Tryz.prog 5 #[.agg #[.slice a0 n0 c0, .slice a1 n1 c1, .slice a2 n2 c2, .slice a3 n3 c3], .int .i64 gu, .slice ia il ic, .slice ja jl jc] w fun e w' => ∃ r' c' i' o' l' m', e = .returned (.agg #[.int .i64 (soC P gu im inp), r', .int .i64 (soH P gu im inp).pc, c', .bool (soH P gu im inp).halted, .bool (soH P gu im inp).waiting, .bool (soH P gu im inp).rung, .int .i64 (soH P gu im inp).done, i', o', l', m']) ∧ Sm w' w.heap.size r' c' i' o' l' m' (soH P gu im inp) (soP P gu im inp) (soZ P gu im inp) ∧ Below w.heap.size w w' := by
  by_cases hv : askV P gu = 0
  · obtain ⟨_, g, rfl, _⟩ := ask_ok hv
    by_cases hl : (P.own.getD g []).length * 8 < im.length
    · exact sso_long _ _ _ _ _ _ _ _ _ _ _ _ P g _ _ _ im b1 _ _ _ inp b2 w h hi hj hv hl
    · by_cases hn : (newR inp).1 = 0
      · exact sso_good _ _ _ _ _ _ _ _ _ _ _ _ P g _ _ _ im b1 _ _ _ inp b2 w h hi hj hv hl hn
      · exact sso_mach _ _ _ _ _ _ _ _ _ _ _ _ P g _ _ _ im b1 _ _ _ inp b2 w h hi hj hv hl hn
  · exact sso_fault _ _ _ _ _ _ _ _ _ _ _ _ P gu _ _ _ im b1 _ _ _ inp b2 w h hi hj hv
end Go.Proofs.YtbegbphbcjoglaaGreatDoor
