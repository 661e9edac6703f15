/- Texts of this seat, joined. -/
import Derived.Deep.RegionWith
import Derived.Deep.RegionHeld3
import Derived.Deep.Cut
import Derived.Deep.CutRange
import Derived.Test.YtggejbphdadckaaGreatDoorQ47
namespace Go.Proofs.YtggejbphdadckaaGreatDoor
open Go.RowKit
set_option linter.unusedVariables false
set_option maxRecDepth 20000 in
set_option maxHeartbeats 8000000 in
theorem sfh_fault (a0 a1 a2 a3 : Option Addr) (n0 c0 n1 c1 n2 c2 n3 c3 : Nat) (am : Option Addr) (lm cm : Nat) (ah : Option Addr) (lh ch : Nat) (X : Hst) (gu : Int) (ya : Option Addr) (yn yk : Nat) (ys : List Int) (b : Nat) (w : World) (d : Oj w b a0 n0 c0 a1 n1 c1 a2 n2 c2 a3 n3 c3 (.slice am lm cm) (.slice ah lh ch) X) (sm : Small n0 n1 n2 n3 X.pol) (hy : Rn w ya yn yk ys) (hyn : yn ≤ 1048576) (hv : hoV X ≠ 0) :
    Calls Tryz.prog 5 #[.agg #[.slice a0 n0 c0, .slice a1 n1 c1, .slice a2 n2 c2, .slice a3 n3 c3, .slice am lm cm, .slice ah lh ch, .int .i64 X.slot, .int .i64 X.left, .int .i64 X.clock], .int .i64 gu, .slice ya yn yk] w fun e w' => ∃ v0 v1 v2 v3 v4 v5, e = .returned (.agg #[.int .i64 (fhC X gu ys), v0, v1, v2, v3, v4, v5, .int .i64 (fhX X gu ys).slot, .int .i64 (fhX X gu ys).left, .int .i64 (fhX X gu ys).clock]) ∧ Oq w' w.heap.size v0 v1 v2 v3 v4 v5 (fhX X gu ys) ∧ Below w.heap.size w w' := by
  have hx : fhC X gu ys = hoV X := fh_host X gu ys hv
  rw [fh_not X gu ys (by rw [hx]; exact hv), hx]
  obtain ⟨cx, hcx⟩ : ∃ cx, hoV X = cx := ⟨_, rfl⟩
  rw [hcx] at hv ⊢
  have HV : Hid (hoV X = cx) := hcx
  clear hx hcx
  generalize hW : (w.alloc (.cells #[.slice a0 n0 c0, .slice a1 n1 c1, .slice a2 n2 c2, .slice a3 n3 c3, .slice am lm cm, .slice ah lh ch, .int .i64 X.slot, .int .i64 X.left, .int .i64 X.clock] 40)).alloc (.cells #[.int .i64 0, .slice none 0 0, .slice none 0 0, .slice none 0 0, .slice none 0 0, .slice none 0 0, .slice none 0 0, .int .i64 0, .int .i64 0, .int .i64 0] 42) = W
  have B0 : Hid (Below w.heap.size w W) := by show Below _ _ _; rw [← hW]; exact al (al (Below.refl _ _) _) _
  obtain ⟨s, hS⟩ : ∃ s, w.heap.size = s := ⟨_, rfl⟩
  have HSs : Hid (w.heap.size = s) := hS
  have z1 : s + 1 = (w.alloc (.cells #[.slice a0 n0 c0, .slice a1 n1 c1, .slice a2 n2 c2, .slice a3 n3 c3, .slice am lm cm, .slice ah lh ch, .int .i64 X.slot, .int .i64 X.left, .int .i64 X.clock] 40)).heap.size := by rw [← hS]; simp
  have Q : Hid (Vb W s #[.slice a0 n0 c0, .slice a1 n1 c1, .slice a2 n2 c2, .slice a3 n3 c3, .slice am lm cm, .slice ah lh ch, .int .i64 X.slot, .int .i64 X.left, .int .i64 X.clock] 40) := by show Vb _ _ _ _; rw [← hW, ← hS]; exact (Vb.new _ _ _).push _
  have R : Hid (Vb W (s + 1) #[.int .i64 0, .slice none 0 0, .slice none 0 0, .slice none 0 0, .slice none 0 0, .slice none 0 0, .slice none 0 0, .int .i64 0, .int .i64 0, .int .i64 0] 42) := by show Vb _ _ _ _; rw [← hW, z1]; exact Vb.new _ _ _
  have ZW : Hid (s + 2 = W.heap.size) := by show _ = _; rw [← hW, ← hS]; simp
  clear z1
  have D : Hid (Oj W b a0 n0 c0 a1 n1 c1 a2 n2 c2 a3 n3 c3 (.slice am lm cm) (.slice ah lh ch) X) := d.keep B0.out
  have SMP : Hid (Small n0 n1 n2 n3 X.pol) := sm
  have HY : Hid (Rn W ya yn yk ys ∧ yn ≤ 1048576) := ⟨hy.stay B0.out, hyn⟩
  have N0 : Hid (n0 = X.pol.own.length) := d.pol.own.len
  have LH : Hid (lh = X.harts.length) := by obtain ⟨_, _, e, _⟩ := d.harts.shape; simp at e; exact e.2.1
  clear d sm hy hyn
  have q0 := Q.out.cell 0 rfl
  have q1 := Q.out.cell 1 rfl
  have q2 := Q.out.cell 2 rfl
  have q3 := Q.out.cell 3 rfl
  have q4 := Q.out.cell 4 rfl
  have q5 := Q.out.cell 5 rfl
  have q6 := Q.out.cell 6 rfl
  have q7 := Q.out.cell 7 rfl
  have q8 := Q.out.cell 8 rfl
  go_enter Tryz.func5, Tryz.ntmps5
  go_wp2_with fail
  clear hW hS q0 q1 q2 q3 q4 q5 q6 q7 q8
  refine (s_fault12 s _ _ _ _ _ _ _ _ _ _ _ _ _ _ X b _ D.out Q.out).mono ?_
  rw [HV.out]
  rintro e w1 ⟨rfl, b1'⟩
  have B1 : Hid (Below w.heap.size w w1) := on B0.out b1'
  have E1 : Hid (Below W.heap.size W w1) := b1'
  have R1 : Hid (Vb w1 (s + 1) #[.int .i64 0, .slice none 0 0, .slice none 0 0, .slice none 0 0, .slice none 0 0, .slice none 0 0, .slice none 0 0, .int .i64 0, .int .i64 0, .int .i64 0] 42) := R.out.keep b1'
  have Q1 : Hid (Vb w1 s #[.slice a0 n0 c0, .slice a1 n1 c1, .slice a2 n2 c2, .slice a3 n3 c3, .slice am lm cm, .slice ah lh ch, .int .i64 X.slot, .int .i64 X.left, .int .i64 X.clock] 40) := Q.out.keep b1'
  clear b1'
  have p0 := R1.out.cell 0 rfl
  have f0 := R1.out.free 0
  have p1 := R1.out.cell 1 rfl
  have f1 := R1.out.free 1
  have p2 := R1.out.cell 2 rfl
  have f2 := R1.out.free 2
  have p3 := R1.out.cell 3 rfl
  have f3 := R1.out.free 3
  have p4 := R1.out.cell 4 rfl
  have f4 := R1.out.free 4
  have p5 := R1.out.cell 5 rfl
  have f5 := R1.out.free 5
  have p6 := R1.out.cell 6 rfl
  have f6 := R1.out.free 6
  have p7 := R1.out.cell 7 rfl
  have f7 := R1.out.free 7
  have p8 := R1.out.cell 8 rfl
  have f8 := R1.out.free 8
  have p9 := R1.out.cell 9 rfl
  have f9 := R1.out.free 9
  have lt := R1.out.lt
  go_wp2_with fail
  clear lt p0 f0 p1 f1 p2 f2 p3 f3 p4 f4 p5 f5 p6 f6 p7 f7 p8 f8 p9 f9
  have NN : Hid (_ ∧ _) := ten R1.out (.int .i64 cx) (.slice none 0 0) (.slice none 0 0) (.slice none 0 0) (.slice none 0 0) (.slice none 0 0) (.slice none 0 0) (.int .i64 0) (.int .i64 0) (.int .i64 0)
  generalize ((((((((((w1.setCell ⟨s + 1, 0, none⟩ (.int .i64 cx)).setCell ⟨s + 1, 1, none⟩ (.slice none 0 0)).setCell ⟨s + 1, 2, none⟩ (.slice none 0 0)).setCell ⟨s + 1, 3, none⟩ (.slice none 0 0)).setCell ⟨s + 1, 4, none⟩ (.slice none 0 0)).setCell ⟨s + 1, 5, none⟩ (.slice none 0 0)).setCell ⟨s + 1, 6, none⟩ (.slice none 0 0)).setCell ⟨s + 1, 7, none⟩ (.int .i64 0)).setCell ⟨s + 1, 8, none⟩ (.int .i64 0)).setCell ⟨s + 1, 9, none⟩ (.int .i64 0)) = W9 at *
  have x0 := NN.out.1.cell 0 rfl
  have x1 := NN.out.1.cell 1 rfl
  have x2 := NN.out.1.cell 2 rfl
  have x3 := NN.out.1.cell 3 rfl
  have x4 := NN.out.1.cell 4 rfl
  have x5 := NN.out.1.cell 5 rfl
  have x6 := NN.out.1.cell 6 rfl
  have x7 := NN.out.1.cell 7 rfl
  have x8 := NN.out.1.cell 8 rfl
  have x9 := NN.out.1.cell 9 rfl
  exact bodyPost_ret (v := .agg #[.int .i64 cx, .slice none 0 0, .slice none 0 0, .slice none 0 0, .slice none 0 0, .slice none 0 0, .slice none 0 0, .int .i64 0, .int .i64 0, .int .i64 0]) (by simp [results, Tryz.results5, go_sem, x0, x1, x2, x3, x4, x5, x6, x7, x8, x9]) rfl ⟨_, _, _, _, _, _, rfl, (ow_void _ _).oq, Mq.under B1.out NN.out.2 fun k e => by have := HSs.out; omega⟩
set_option maxRecDepth 20000 in
set_option maxHeartbeats 8000000 in
theorem sfh_guest (a0 a1 a2 a3 : Option Addr) (n0 c0 n1 c1 n2 c2 n3 c3 : Nat) (am : Option Addr) (lm cm : Nat) (ah : Option Addr) (lh ch : Nat) (X : Hst) (gu : Int) (ya : Option Addr) (yn yk : Nat) (ys : List Int) (b : Nat) (w : World) (d : Oj w b a0 n0 c0 a1 n1 c1 a2 n2 c2 a3 n3 c3 (.slice am lm cm) (.slice ah lh ch) X) (sm : Small n0 n1 n2 n3 X.pol) (hy : Rn w ya yn yk ys) (hyn : yn ≤ 1048576) (hv : hoV X = 0) (hn : isG X.pol.own.length gu = false) :
    Calls Tryz.prog 5 #[.agg #[.slice a0 n0 c0, .slice a1 n1 c1, .slice a2 n2 c2, .slice a3 n3 c3, .slice am lm cm, .slice ah lh ch, .int .i64 X.slot, .int .i64 X.left, .int .i64 X.clock], .int .i64 gu, .slice ya yn yk] w fun e w' => ∃ v0 v1 v2 v3 v4 v5, e = .returned (.agg #[.int .i64 (fhC X gu ys), v0, v1, v2, v3, v4, v5, .int .i64 (fhX X gu ys).slot, .int .i64 (fhX X gu ys).left, .int .i64 (fhX X gu ys).clock]) ∧ Oq w' w.heap.size v0 v1 v2 v3 v4 v5 (fhX X gu ys) ∧ Below w.heap.size w w' := by
  have hx : fhC X gu ys = 4 := fh_guest X gu ys hv hn
  rw [fh_not X gu ys (by rw [hx]; decide), hx]
  have HV : Hid (hoV X = 0) := hv
  have HN : Hid (isG X.pol.own.length gu = false) := hn
  clear hx hv hn
  generalize hW : (w.alloc (.cells #[.slice a0 n0 c0, .slice a1 n1 c1, .slice a2 n2 c2, .slice a3 n3 c3, .slice am lm cm, .slice ah lh ch, .int .i64 X.slot, .int .i64 X.left, .int .i64 X.clock] 40)).alloc (.cells #[.int .i64 0, .slice none 0 0, .slice none 0 0, .slice none 0 0, .slice none 0 0, .slice none 0 0, .slice none 0 0, .int .i64 0, .int .i64 0, .int .i64 0] 42) = W
  have B0 : Hid (Below w.heap.size w W) := by show Below _ _ _; rw [← hW]; exact al (al (Below.refl _ _) _) _
  obtain ⟨s, hS⟩ : ∃ s, w.heap.size = s := ⟨_, rfl⟩
  have HSs : Hid (w.heap.size = s) := hS
  have z1 : s + 1 = (w.alloc (.cells #[.slice a0 n0 c0, .slice a1 n1 c1, .slice a2 n2 c2, .slice a3 n3 c3, .slice am lm cm, .slice ah lh ch, .int .i64 X.slot, .int .i64 X.left, .int .i64 X.clock] 40)).heap.size := by rw [← hS]; simp
  have Q : Hid (Vb W s #[.slice a0 n0 c0, .slice a1 n1 c1, .slice a2 n2 c2, .slice a3 n3 c3, .slice am lm cm, .slice ah lh ch, .int .i64 X.slot, .int .i64 X.left, .int .i64 X.clock] 40) := by show Vb _ _ _ _; rw [← hW, ← hS]; exact (Vb.new _ _ _).push _
  have R : Hid (Vb W (s + 1) #[.int .i64 0, .slice none 0 0, .slice none 0 0, .slice none 0 0, .slice none 0 0, .slice none 0 0, .slice none 0 0, .int .i64 0, .int .i64 0, .int .i64 0] 42) := by show Vb _ _ _ _; rw [← hW, z1]; exact Vb.new _ _ _
  have ZW : Hid (s + 2 = W.heap.size) := by show _ = _; rw [← hW, ← hS]; simp
  clear z1
  have D : Hid (Oj W b a0 n0 c0 a1 n1 c1 a2 n2 c2 a3 n3 c3 (.slice am lm cm) (.slice ah lh ch) X) := d.keep B0.out
  have SMP : Hid (Small n0 n1 n2 n3 X.pol) := sm
  have HY : Hid (Rn W ya yn yk ys ∧ yn ≤ 1048576) := ⟨hy.stay B0.out, hyn⟩
  have N0 : Hid (n0 = X.pol.own.length) := d.pol.own.len
  have LH : Hid (lh = X.harts.length) := by obtain ⟨_, _, e, _⟩ := d.harts.shape; simp at e; exact e.2.1
  clear d sm hy hyn
  have q0 := Q.out.cell 0 rfl
  have q1 := Q.out.cell 1 rfl
  have q2 := Q.out.cell 2 rfl
  have q3 := Q.out.cell 3 rfl
  have q4 := Q.out.cell 4 rfl
  have q5 := Q.out.cell 5 rfl
  have q6 := Q.out.cell 6 rfl
  have q7 := Q.out.cell 7 rfl
  have q8 := Q.out.cell 8 rfl
  go_enter Tryz.func5, Tryz.ntmps5
  go_wp2_with fail
  clear hW hS q0 q1 q2 q3 q4 q5 q6 q7 q8
  refine (s_fault12 s _ _ _ _ _ _ _ _ _ _ _ _ _ _ X b _ D.out Q.out).mono ?_
  rw [HV.out]
  rintro e w1 ⟨rfl, b1'⟩
  have B1 : Hid (Below w.heap.size w w1) := on B0.out b1'
  have E1 : Hid (Below W.heap.size W w1) := b1'
  have R1 : Hid (Vb w1 (s + 1) #[.int .i64 0, .slice none 0 0, .slice none 0 0, .slice none 0 0, .slice none 0 0, .slice none 0 0, .slice none 0 0, .int .i64 0, .int .i64 0, .int .i64 0] 42) := R.out.keep b1'
  have Q1 : Hid (Vb w1 s #[.slice a0 n0 c0, .slice a1 n1 c1, .slice a2 n2 c2, .slice a3 n3 c3, .slice am lm cm, .slice ah lh ch, .int .i64 X.slot, .int .i64 X.left, .int .i64 X.clock] 40) := Q.out.keep b1'
  clear b1'
  have HG1 : Hid (isG X.pol.own.length gu = false) := HN.out
  have q0 := Q1.out.cell 0 rfl
  have q1 := Q1.out.cell 1 rfl
  have q2 := Q1.out.cell 2 rfl
  have q3 := Q1.out.cell 3 rfl
  go_wp2_with fail
  clear q0 q1 q2 q3
  refine (l6_guest s gu X.pol _ ⟨_, _, _, _, _, _, _, _, _, _, _, _, Q1.out.cell 0 rfl, Q1.out.cell 1 rfl, Q1.out.cell 2 rfl, Q1.out.cell 3 rfl, (D.out.keep E1.out).pol⟩).mono ?_
  rw [HG1.out]
  rintro e w2 ⟨rfl, e2⟩
  have b2 : Below w1.heap.size w1 w2 := by rw [e2]; exact Below.refl _ _
  clear e2
  have B2 : Hid (Below w.heap.size w w2) := on B1.out b2
  have E2 : Hid (Below W.heap.size W w2) := on E1.out b2
  have R2 : Hid (Vb w2 (s + 1) #[.int .i64 0, .slice none 0 0, .slice none 0 0, .slice none 0 0, .slice none 0 0, .slice none 0 0, .slice none 0 0, .int .i64 0, .int .i64 0, .int .i64 0] 42) := R1.out.keep b2
  have Q2 : Hid (Vb w2 s #[.slice a0 n0 c0, .slice a1 n1 c1, .slice a2 n2 c2, .slice a3 n3 c3, .slice am lm cm, .slice ah lh ch, .int .i64 X.slot, .int .i64 X.left, .int .i64 X.clock] 40) := Q1.out.keep b2
  clear b2
  have p0 := R2.out.cell 0 rfl
  have f0 := R2.out.free 0
  have p1 := R2.out.cell 1 rfl
  have f1 := R2.out.free 1
  have p2 := R2.out.cell 2 rfl
  have f2 := R2.out.free 2
  have p3 := R2.out.cell 3 rfl
  have f3 := R2.out.free 3
  have p4 := R2.out.cell 4 rfl
  have f4 := R2.out.free 4
  have p5 := R2.out.cell 5 rfl
  have f5 := R2.out.free 5
  have p6 := R2.out.cell 6 rfl
  have f6 := R2.out.free 6
  have p7 := R2.out.cell 7 rfl
  have f7 := R2.out.free 7
  have p8 := R2.out.cell 8 rfl
  have f8 := R2.out.free 8
  have p9 := R2.out.cell 9 rfl
  have f9 := R2.out.free 9
  have lt := R2.out.lt
  go_wp2_with fail
  clear lt p0 f0 p1 f1 p2 f2 p3 f3 p4 f4 p5 f5 p6 f6 p7 f7 p8 f8 p9 f9
  have NN : Hid (_ ∧ _) := ten R2.out (.int .i64 4) (.slice none 0 0) (.slice none 0 0) (.slice none 0 0) (.slice none 0 0) (.slice none 0 0) (.slice none 0 0) (.int .i64 0) (.int .i64 0) (.int .i64 0)
  generalize ((((((((((w2.setCell ⟨s + 1, 0, none⟩ (.int .i64 4)).setCell ⟨s + 1, 1, none⟩ (.slice none 0 0)).setCell ⟨s + 1, 2, none⟩ (.slice none 0 0)).setCell ⟨s + 1, 3, none⟩ (.slice none 0 0)).setCell ⟨s + 1, 4, none⟩ (.slice none 0 0)).setCell ⟨s + 1, 5, none⟩ (.slice none 0 0)).setCell ⟨s + 1, 6, none⟩ (.slice none 0 0)).setCell ⟨s + 1, 7, none⟩ (.int .i64 0)).setCell ⟨s + 1, 8, none⟩ (.int .i64 0)).setCell ⟨s + 1, 9, none⟩ (.int .i64 0)) = W9 at *
  have x0 := NN.out.1.cell 0 rfl
  have x1 := NN.out.1.cell 1 rfl
  have x2 := NN.out.1.cell 2 rfl
  have x3 := NN.out.1.cell 3 rfl
  have x4 := NN.out.1.cell 4 rfl
  have x5 := NN.out.1.cell 5 rfl
  have x6 := NN.out.1.cell 6 rfl
  have x7 := NN.out.1.cell 7 rfl
  have x8 := NN.out.1.cell 8 rfl
  have x9 := NN.out.1.cell 9 rfl
  exact bodyPost_ret (v := .agg #[.int .i64 4, .slice none 0 0, .slice none 0 0, .slice none 0 0, .slice none 0 0, .slice none 0 0, .slice none 0 0, .int .i64 0, .int .i64 0, .int .i64 0]) (by simp [results, Tryz.results5, go_sem, x0, x1, x2, x3, x4, x5, x6, x7, x8, x9]) rfl ⟨_, _, _, _, _, _, rfl, (ow_void _ _).oq, Mq.under B2.out NN.out.2 fun k e => by have := HSs.out; omega⟩
set_option maxRecDepth 20000 in
set_option maxHeartbeats 8000000 in
theorem sfh_fed (a0 a1 a2 a3 : Option Addr) (n0 c0 n1 c1 n2 c2 n3 c3 : Nat) (am : Option Addr) (lm cm : Nat) (ah : Option Addr) (lh ch : Nat) (X : Hst) (k : Nat) (ya : Option Addr) (yn yk : Nat) (ys : List Int) (b : Nat) (w : World) (d : Oj w b a0 n0 c0 a1 n1 c1 a2 n2 c2 a3 n3 c3 (.slice am lm cm) (.slice ah lh ch) X) (sm : Small n0 n1 n2 n3 X.pol) (hy : Rn w ya yn yk ys) (hyn : yn ≤ 1048576) (hv : hoV X = 0) (hn : isG X.pol.own.length (k : Int) = true) (hf : (feedR (X.harts.getD k voidH) ys).1 ≠ 0) :
    Calls Tryz.prog 5 #[.agg #[.slice a0 n0 c0, .slice a1 n1 c1, .slice a2 n2 c2, .slice a3 n3 c3, .slice am lm cm, .slice ah lh ch, .int .i64 X.slot, .int .i64 X.left, .int .i64 X.clock], .int .i64 (k : Int), .slice ya yn yk] w fun e w' => ∃ v0 v1 v2 v3 v4 v5, e = .returned (.agg #[.int .i64 (fhC X (k : Int) ys), v0, v1, v2, v3, v4, v5, .int .i64 (fhX X (k : Int) ys).slot, .int .i64 (fhX X (k : Int) ys).left, .int .i64 (fhX X (k : Int) ys).clock]) ∧ Oq w' w.heap.size v0 v1 v2 v3 v4 v5 (fhX X (k : Int) ys) ∧ Below w.heap.size w w' := by
  have hx : fhC X (k : Int) ys = (feedR (X.harts.getD k voidH) ys).1 := fh_fed X (k : Int) ys hv hn
  rw [fh_not X (k : Int) ys (by rw [hx]; exact hf), hx]
  have HV : Hid (hoV X = 0) := hv
  have HN : Hid (isG X.pol.own.length (k : Int) = true) := hn
  have HZ : Hid (Hoz X) := hoz_of hv
  have KH : Hid (k < X.harts.length) := by show _ < _; have := (isG_iff _ _).1 hn; have := (hoz_of hv).hl; omega
  obtain ⟨cx, hcx⟩ : ∃ cx, (feedR (X.harts.getD k voidH) ys).1 = cx := ⟨_, rfl⟩
  rw [hcx] at hf ⊢
  have HF : Hid ((feedR (X.harts.getD k voidH) ys).1 = cx) := hcx
  clear hx hv hn hcx
  generalize hW : (w.alloc (.cells #[.slice a0 n0 c0, .slice a1 n1 c1, .slice a2 n2 c2, .slice a3 n3 c3, .slice am lm cm, .slice ah lh ch, .int .i64 X.slot, .int .i64 X.left, .int .i64 X.clock] 40)).alloc (.cells #[.int .i64 0, .slice none 0 0, .slice none 0 0, .slice none 0 0, .slice none 0 0, .slice none 0 0, .slice none 0 0, .int .i64 0, .int .i64 0, .int .i64 0] 42) = W
  have B0 : Hid (Below w.heap.size w W) := by show Below _ _ _; rw [← hW]; exact al (al (Below.refl _ _) _) _
  obtain ⟨s, hS⟩ : ∃ s, w.heap.size = s := ⟨_, rfl⟩
  have HSs : Hid (w.heap.size = s) := hS
  have z1 : s + 1 = (w.alloc (.cells #[.slice a0 n0 c0, .slice a1 n1 c1, .slice a2 n2 c2, .slice a3 n3 c3, .slice am lm cm, .slice ah lh ch, .int .i64 X.slot, .int .i64 X.left, .int .i64 X.clock] 40)).heap.size := by rw [← hS]; simp
  have Q : Hid (Vb W s #[.slice a0 n0 c0, .slice a1 n1 c1, .slice a2 n2 c2, .slice a3 n3 c3, .slice am lm cm, .slice ah lh ch, .int .i64 X.slot, .int .i64 X.left, .int .i64 X.clock] 40) := by show Vb _ _ _ _; rw [← hW, ← hS]; exact (Vb.new _ _ _).push _
  have R : Hid (Vb W (s + 1) #[.int .i64 0, .slice none 0 0, .slice none 0 0, .slice none 0 0, .slice none 0 0, .slice none 0 0, .slice none 0 0, .int .i64 0, .int .i64 0, .int .i64 0] 42) := by show Vb _ _ _ _; rw [← hW, z1]; exact Vb.new _ _ _
  have ZW : Hid (s + 2 = W.heap.size) := by show _ = _; rw [← hW, ← hS]; simp
  clear z1
  have D : Hid (Oj W b a0 n0 c0 a1 n1 c1 a2 n2 c2 a3 n3 c3 (.slice am lm cm) (.slice ah lh ch) X) := d.keep B0.out
  have SMP : Hid (Small n0 n1 n2 n3 X.pol) := sm
  have HY : Hid (Rn W ya yn yk ys ∧ yn ≤ 1048576) := ⟨hy.stay B0.out, hyn⟩
  have N0 : Hid (n0 = X.pol.own.length) := d.pol.own.len
  have LH : Hid (lh = X.harts.length) := by obtain ⟨_, _, e, _⟩ := d.harts.shape; simp at e; exact e.2.1
  clear d sm hy hyn
  have q0 := Q.out.cell 0 rfl
  have q1 := Q.out.cell 1 rfl
  have q2 := Q.out.cell 2 rfl
  have q3 := Q.out.cell 3 rfl
  have q4 := Q.out.cell 4 rfl
  have q5 := Q.out.cell 5 rfl
  have q6 := Q.out.cell 6 rfl
  have q7 := Q.out.cell 7 rfl
  have q8 := Q.out.cell 8 rfl
  go_enter Tryz.func5, Tryz.ntmps5
  go_wp2_with fail
  clear hW hS q0 q1 q2 q3 q4 q5 q6 q7 q8
  refine (s_fault12 s _ _ _ _ _ _ _ _ _ _ _ _ _ _ X b _ D.out Q.out).mono ?_
  rw [HV.out]
  rintro e w1 ⟨rfl, b1'⟩
  have B1 : Hid (Below w.heap.size w w1) := on B0.out b1'
  have E1 : Hid (Below W.heap.size W w1) := b1'
  have R1 : Hid (Vb w1 (s + 1) #[.int .i64 0, .slice none 0 0, .slice none 0 0, .slice none 0 0, .slice none 0 0, .slice none 0 0, .slice none 0 0, .int .i64 0, .int .i64 0, .int .i64 0] 42) := R.out.keep b1'
  have Q1 : Hid (Vb w1 s #[.slice a0 n0 c0, .slice a1 n1 c1, .slice a2 n2 c2, .slice a3 n3 c3, .slice am lm cm, .slice ah lh ch, .int .i64 X.slot, .int .i64 X.left, .int .i64 X.clock] 40) := Q.out.keep b1'
  clear b1'
  have HG1 : Hid (isG X.pol.own.length (k : Int) = true) := HN.out
  have q0 := Q1.out.cell 0 rfl
  have q1 := Q1.out.cell 1 rfl
  have q2 := Q1.out.cell 2 rfl
  have q3 := Q1.out.cell 3 rfl
  go_wp2_with fail
  clear q0 q1 q2 q3
  refine (l6_guest s (k : Int) X.pol _ ⟨_, _, _, _, _, _, _, _, _, _, _, _, Q1.out.cell 0 rfl, Q1.out.cell 1 rfl, Q1.out.cell 2 rfl, Q1.out.cell 3 rfl, (D.out.keep E1.out).pol⟩).mono ?_
  rw [HG1.out]
  rintro e w2 ⟨rfl, e2⟩
  have b2 : Below w1.heap.size w1 w2 := by rw [e2]; exact Below.refl _ _
  clear e2
  have B2 : Hid (Below w.heap.size w w2) := on B1.out b2
  have E2 : Hid (Below W.heap.size W w2) := on E1.out b2
  have R2 : Hid (Vb w2 (s + 1) #[.int .i64 0, .slice none 0 0, .slice none 0 0, .slice none 0 0, .slice none 0 0, .slice none 0 0, .slice none 0 0, .int .i64 0, .int .i64 0, .int .i64 0] 42) := R1.out.keep b2
  have Q2 : Hid (Vb w2 s #[.slice a0 n0 c0, .slice a1 n1 c1, .slice a2 n2 c2, .slice a3 n3 c3, .slice am lm cm, .slice ah lh ch, .int .i64 X.slot, .int .i64 X.left, .int .i64 X.clock] 40) := Q1.out.keep b2
  clear b2
  have KL : Hid (k < lh) := by show _ < _; have := LH.out; have := KH.out; omega
  have kI : (k : Int) < (lh : Int) := by have := KL.out; omega
  obtain ⟨gh, hgh⟩ : ∃ g, ah = some ⟨g, 0, none⟩ := by
    obtain ⟨_, _, e, _, _, hg⟩ := D.out.harts.shape
    simp at e
    obtain ⟨e1, e2, _⟩ := e
    obtain ⟨g, eg⟩ := hg (by have := KH.out; omega)
    exact ⟨g, by rw [e1, eg]⟩
  subst hgh
  obtain ⟨r, c, i, o, y1, y2, _⟩ := ((D.out.harts.keep E2.out).at k KH.out)
  obtain ⟨H, hH⟩ : ∃ H, X.harts.getD k voidH = H := ⟨_, rfl⟩
  have HHE : Hid (X.harts.getD k voidH = H) := hH
  rw [hH] at y1 y2
  obtain ⟨xr, kr, e0, _⟩ := y2.r.shape
  obtain ⟨xc, kc, e1, _⟩ := y2.c.shape
  obtain ⟨xi, ki, e2, _⟩ := y2.i.shape
  obtain ⟨xo, ko, e3, _⟩ := y2.o.shape
  subst e0 e1 e2 e3
  obtain ⟨lr, hlr⟩ : ∃ n, H.regs.length = n := ⟨_, rfl⟩
  obtain ⟨lc, hlc⟩ : ∃ n, H.csr.length = n := ⟨_, rfl⟩
  obtain ⟨li, hli⟩ : ∃ n, H.inn.length = n := ⟨_, rfl⟩
  obtain ⟨lo, hlo⟩ : ∃ n, H.out.length = n := ⟨_, rfl⟩
  rw [hlr, hlc, hli, hlo] at y1 y2
  have k0 := y1.c0
  have k1 := y1.c1
  have k2 := y1.c2
  have k3 := y1.c3
  have k4 := y1.c4
  have k5 := y1.c5
  have k6 := y1.c6
  have k7 := y1.c7
  have k8 := y1.c8
  have Y2 : Hid (Hm w2 b (.slice xr lr kr) (.slice xc lc kc) (.slice xi li ki) (.slice xo lo ko) H) := y2
  have LHM : (lh : Int) ≤ 9223372036854775807 := by have := LH.out; have hc := D.out.harts.shape; obtain ⟨_, _, e, h1, h2, _⟩ := hc; unfold maxLen at h2; omega
  clear y1 y2 hH hlr hlc hli hlo
  have q5 := Q2.out.cell 5 rfl
  go_wp2_with fail
  clear k0 k1 k2 k3 k4 k5 k6 k7 k8 q5
  refine (s_feedHart _ _ _ _ H _ _ _ ys b _ (Y2.out) (HY.out.1.stay E2.out) HY.out.2).mono ?_
  rintro e w3 ⟨_, _, _, _, rfl, hm, b3⟩
  obtain ⟨da, dk, e0, _⟩ := hm.r.shape
  obtain ⟨db, dl, e1, _⟩ := hm.c.shape
  obtain ⟨dc, dm, e2, _⟩ := hm.i.shape
  obtain ⟨dd, dn, e3, _⟩ := hm.o.shape
  subst e0 e1 e2 e3
  obtain ⟨CX, hCX⟩ : ∃ c, (feedR H ys).1 = c := ⟨_, rfl⟩
  obtain ⟨G, hG⟩ : ∃ c, (feedR H ys).2 = c := ⟨_, rfl⟩
  rw [hCX, hG]
  rw [hG] at hm
  obtain ⟨d0, hd0⟩ : ∃ n, G.regs.length = n := ⟨_, rfl⟩
  obtain ⟨d1, hd1⟩ : ∃ n, G.csr.length = n := ⟨_, rfl⟩
  obtain ⟨d2, hd2⟩ : ∃ n, G.inn.length = n := ⟨_, rfl⟩
  obtain ⟨d3, hd3⟩ : ∃ n, G.out.length = n := ⟨_, rfl⟩
  rw [hd0, hd1, hd2, hd3] at hm ⊢
  have HCH : Hid ((feedR H ys).1 = CX ∧ (feedR H ys).2 = G) := ⟨hCX, hG⟩
  clear hd0 hd1 hd2 hd3 hCX hG
  have AL : Hid (Below w3.heap.size w3 (w3.alloc (.cells #[.int .i64 CX, .slice da d0 dk, .int .i64 G.pc, .slice db d1 dl, .bool G.halted, .bool G.waiting, .bool G.rung, .int .i64 G.done, .slice dc d2 dm, .slice dd d3 dn] 62))) := al (Below.refl _ _) _
  have E3 : Hid (Below W.heap.size W (w3.alloc (.cells #[.int .i64 CX, .slice da d0 dk, .int .i64 G.pc, .slice db d1 dl, .bool G.halted, .bool G.waiting, .bool G.rung, .int .i64 G.done, .slice dc d2 dm, .slice dd d3 dn] 62))) := al (on E2.out b3) _
  have B3 : Hid (Below w.heap.size w (w3.alloc (.cells #[.int .i64 CX, .slice da d0 dk, .int .i64 G.pc, .slice db d1 dl, .bool G.halted, .bool G.waiting, .bool G.rung, .int .i64 G.done, .slice dc d2 dm, .slice dd d3 dn] 62))) := on B0.out E3.out
  have R3 : Hid (Vb (w3.alloc (.cells #[.int .i64 CX, .slice da d0 dk, .int .i64 G.pc, .slice db d1 dl, .bool G.halted, .bool G.waiting, .bool G.rung, .int .i64 G.done, .slice dc d2 dm, .slice dd d3 dn] 62)) (s + 1) #[.int .i64 0, .slice none 0 0, .slice none 0 0, .slice none 0 0, .slice none 0 0, .slice none 0 0, .slice none 0 0, .int .i64 0, .int .i64 0, .int .i64 0] 42) := R.out.keep E3.out
  have Q3 : Hid (Vb (w3.alloc (.cells #[.int .i64 CX, .slice da d0 dk, .int .i64 G.pc, .slice db d1 dl, .bool G.halted, .bool G.waiting, .bool G.rung, .int .i64 G.done, .slice dc d2 dm, .slice dd d3 dn] 62)) s #[.slice a0 n0 c0, .slice a1 n1 c1, .slice a2 n2 c2, .slice a3 n3 c3, .slice am lm cm, .slice (some ⟨gh, 0, none⟩) lh ch, .int .i64 X.slot, .int .i64 X.left, .int .i64 X.clock] 40) := Q.out.keep E3.out
  have V3 : Hid (Vb (w3.alloc (.cells #[.int .i64 CX, .slice da d0 dk, .int .i64 G.pc, .slice db d1 dl, .bool G.halted, .bool G.waiting, .bool G.rung, .int .i64 G.done, .slice dc d2 dm, .slice dd d3 dn] 62)) w3.heap.size #[.int .i64 CX, .slice da d0 dk, .int .i64 G.pc, .slice db d1 dl, .bool G.halted, .bool G.waiting, .bool G.rung, .int .i64 G.done, .slice dc d2 dm, .slice dd d3 dn] 62) := Vb.new _ _ _
  have HM3 : Hid (Hm (w3.alloc (.cells #[.int .i64 CX, .slice da d0 dk, .int .i64 G.pc, .slice db d1 dl, .bool G.halted, .bool G.waiting, .bool G.rung, .int .i64 G.done, .slice dc d2 dm, .slice dd d3 dn] 62)) w2.heap.size (.slice da d0 dk) (.slice db d1 dl) (.slice dc d2 dm) (.slice dd d3 dn) G) := hm.keep AL.out
  have Z3 : Hid (w2.heap.size ≤ w3.heap.size ∧ w3.heap.size < (w3.alloc (.cells #[.int .i64 CX, .slice da d0 dk, .int .i64 G.pc, .slice db d1 dl, .bool G.halted, .bool G.waiting, .bool G.rung, .int .i64 G.done, .slice dc d2 dm, .slice dd d3 dn] 62)).heap.size ∧ s + 2 ≤ w2.heap.size) := ⟨b3.size, by simp, by have := ZW.out; have := E2.out.size; omega⟩
  clear hm b3 AL
  go_upto_region 7 with fail
  generalize (w3.alloc (.cells #[.int .i64 CX, .slice da d0 dk, .int .i64 G.pc, .slice db d1 dl, .bool G.halted, .bool G.waiting, .bool G.rung, .int .i64 G.done, .slice dc d2 dm, .slice dd d3 dn] 62)) = W3 at *
  obtain ⟨t3, ht3⟩ : ∃ t, w3.heap.size = t := ⟨_, rfl⟩
  rw [ht3] at V3 Z3 ⊢
  clear ht3
  have x0 := V3.out.cell 0 rfl
  have ECX : CX = cx := by rw [← HCH.out.1, ← HHE.out]; exact HF.out
  subst ECX
  have p0 := R3.out.cell 0 rfl
  have f0 := R3.out.free 0
  have p1 := R3.out.cell 1 rfl
  have f1 := R3.out.free 1
  have p2 := R3.out.cell 2 rfl
  have f2 := R3.out.free 2
  have p3 := R3.out.cell 3 rfl
  have f3 := R3.out.free 3
  have p4 := R3.out.cell 4 rfl
  have f4 := R3.out.free 4
  have p5 := R3.out.cell 5 rfl
  have f5 := R3.out.free 5
  have p6 := R3.out.cell 6 rfl
  have f6 := R3.out.free 6
  have p7 := R3.out.cell 7 rfl
  have f7 := R3.out.free 7
  have p8 := R3.out.cell 8 rfl
  have f8 := R3.out.free 8
  have p9 := R3.out.cell 9 rfl
  have f9 := R3.out.free 9
  have lt := R3.out.lt
  go_wp2_with fail
  clear lt p0 f0 p1 f1 p2 f2 p3 f3 p4 f4 p5 f5 p6 f6 p7 f7 p8 f8 p9 f9
  have NN : Hid (_ ∧ _) := ten R3.out (.int .i64 CX) (.slice none 0 0) (.slice none 0 0) (.slice none 0 0) (.slice none 0 0) (.slice none 0 0) (.slice none 0 0) (.int .i64 0) (.int .i64 0) (.int .i64 0)
  generalize ((((((((((W3.setCell ⟨s + 1, 0, none⟩ (.int .i64 CX)).setCell ⟨s + 1, 1, none⟩ (.slice none 0 0)).setCell ⟨s + 1, 2, none⟩ (.slice none 0 0)).setCell ⟨s + 1, 3, none⟩ (.slice none 0 0)).setCell ⟨s + 1, 4, none⟩ (.slice none 0 0)).setCell ⟨s + 1, 5, none⟩ (.slice none 0 0)).setCell ⟨s + 1, 6, none⟩ (.slice none 0 0)).setCell ⟨s + 1, 7, none⟩ (.int .i64 0)).setCell ⟨s + 1, 8, none⟩ (.int .i64 0)).setCell ⟨s + 1, 9, none⟩ (.int .i64 0)) = W9 at *
  have x0 := NN.out.1.cell 0 rfl
  have x1 := NN.out.1.cell 1 rfl
  have x2 := NN.out.1.cell 2 rfl
  have x3 := NN.out.1.cell 3 rfl
  have x4 := NN.out.1.cell 4 rfl
  have x5 := NN.out.1.cell 5 rfl
  have x6 := NN.out.1.cell 6 rfl
  have x7 := NN.out.1.cell 7 rfl
  have x8 := NN.out.1.cell 8 rfl
  have x9 := NN.out.1.cell 9 rfl
  exact bodyPost_ret (v := .agg #[.int .i64 CX, .slice none 0 0, .slice none 0 0, .slice none 0 0, .slice none 0 0, .slice none 0 0, .slice none 0 0, .int .i64 0, .int .i64 0, .int .i64 0]) (by simp [results, Tryz.results5, go_sem, x0, x1, x2, x3, x4, x5, x6, x7, x8, x9]) rfl ⟨_, _, _, _, _, _, rfl, (ow_void _ _).oq, Mq.under B3.out NN.out.2 fun k e => by have := HSs.out; omega⟩
set_option maxRecDepth 20000 in
set_option maxHeartbeats 8000000 in
theorem sfh_good (a0 a1 a2 a3 : Option Addr) (n0 c0 n1 c1 n2 c2 n3 c3 : Nat) (am : Option Addr) (lm cm : Nat) (ah : Option Addr) (lh ch : Nat) (X : Hst) (k : Nat) (ya : Option Addr) (yn yk : Nat) (ys : List Int) (b : Nat) (w : World) (d : Oj w b a0 n0 c0 a1 n1 c1 a2 n2 c2 a3 n3 c3 (.slice am lm cm) (.slice ah lh ch) X) (sm : Small n0 n1 n2 n3 X.pol) (hy : Rn w ya yn yk ys) (hyn : yn ≤ 1048576) (hv : hoV X = 0) (hn : isG X.pol.own.length (k : Int) = true) (hf : (feedR (X.harts.getD k voidH) ys).1 = 0) :
    Calls Tryz.prog 5 #[.agg #[.slice a0 n0 c0, .slice a1 n1 c1, .slice a2 n2 c2, .slice a3 n3 c3, .slice am lm cm, .slice ah lh ch, .int .i64 X.slot, .int .i64 X.left, .int .i64 X.clock], .int .i64 (k : Int), .slice ya yn yk] w fun e w' => ∃ v0 v1 v2 v3 v4 v5, e = .returned (.agg #[.int .i64 (fhC X (k : Int) ys), v0, v1, v2, v3, v4, v5, .int .i64 (fhX X (k : Int) ys).slot, .int .i64 (fhX X (k : Int) ys).left, .int .i64 (fhX X (k : Int) ys).clock]) ∧ Oq w' w.heap.size v0 v1 v2 v3 v4 v5 (fhX X (k : Int) ys) ∧ Below w.heap.size w w' := by
  have hx : fhC X (k : Int) ys = 0 := by rw [fh_fed X (k : Int) ys hv hn]; exact hf
  have hX : fhX X (k : Int) ys = { X with harts := X.harts.set k (feedR (X.harts.getD k voidH) ys).2 } := fh_yes X (k : Int) ys hx
  rw [hX, hx]
  have HV : Hid (hoV X = 0) := hv
  have HN : Hid (isG X.pol.own.length (k : Int) = true) := hn
  have HZ : Hid (Hoz X) := hoz_of hv
  have KH : Hid (k < X.harts.length) := by show _ < _; have := (isG_iff _ _).1 hn; have := (hoz_of hv).hl; omega
  have HF : Hid ((feedR (X.harts.getD k voidH) ys).1 = 0) := hf
  obtain ⟨GX, hGX⟩ : ∃ z, (feedR (X.harts.getD k voidH) ys).2 = z := ⟨_, rfl⟩
  have HGX : Hid ((feedR (X.harts.getD k voidH) ys).2 = GX) := hGX
  rw [hGX]
  clear hx hX hv hn hf hGX
  generalize hW : (w.alloc (.cells #[.slice a0 n0 c0, .slice a1 n1 c1, .slice a2 n2 c2, .slice a3 n3 c3, .slice am lm cm, .slice ah lh ch, .int .i64 X.slot, .int .i64 X.left, .int .i64 X.clock] 40)).alloc (.cells #[.int .i64 0, .slice none 0 0, .slice none 0 0, .slice none 0 0, .slice none 0 0, .slice none 0 0, .slice none 0 0, .int .i64 0, .int .i64 0, .int .i64 0] 42) = W
  have B0 : Hid (Below w.heap.size w W) := by show Below _ _ _; rw [← hW]; exact al (al (Below.refl _ _) _) _
  obtain ⟨s, hS⟩ : ∃ s, w.heap.size = s := ⟨_, rfl⟩
  have HSs : Hid (w.heap.size = s) := hS
  have z1 : s + 1 = (w.alloc (.cells #[.slice a0 n0 c0, .slice a1 n1 c1, .slice a2 n2 c2, .slice a3 n3 c3, .slice am lm cm, .slice ah lh ch, .int .i64 X.slot, .int .i64 X.left, .int .i64 X.clock] 40)).heap.size := by rw [← hS]; simp
  have Q : Hid (Vb W s #[.slice a0 n0 c0, .slice a1 n1 c1, .slice a2 n2 c2, .slice a3 n3 c3, .slice am lm cm, .slice ah lh ch, .int .i64 X.slot, .int .i64 X.left, .int .i64 X.clock] 40) := by show Vb _ _ _ _; rw [← hW, ← hS]; exact (Vb.new _ _ _).push _
  have R : Hid (Vb W (s + 1) #[.int .i64 0, .slice none 0 0, .slice none 0 0, .slice none 0 0, .slice none 0 0, .slice none 0 0, .slice none 0 0, .int .i64 0, .int .i64 0, .int .i64 0] 42) := by show Vb _ _ _ _; rw [← hW, z1]; exact Vb.new _ _ _
  have ZW : Hid (s + 2 = W.heap.size) := by show _ = _; rw [← hW, ← hS]; simp
  clear z1
  have D : Hid (Oj W b a0 n0 c0 a1 n1 c1 a2 n2 c2 a3 n3 c3 (.slice am lm cm) (.slice ah lh ch) X) := d.keep B0.out
  have SMP : Hid (Small n0 n1 n2 n3 X.pol) := sm
  have HY : Hid (Rn W ya yn yk ys ∧ yn ≤ 1048576) := ⟨hy.stay B0.out, hyn⟩
  have N0 : Hid (n0 = X.pol.own.length) := d.pol.own.len
  have LH : Hid (lh = X.harts.length) := by obtain ⟨_, _, e, _⟩ := d.harts.shape; simp at e; exact e.2.1
  clear d sm hy hyn
  have q0 := Q.out.cell 0 rfl
  have q1 := Q.out.cell 1 rfl
  have q2 := Q.out.cell 2 rfl
  have q3 := Q.out.cell 3 rfl
  have q4 := Q.out.cell 4 rfl
  have q5 := Q.out.cell 5 rfl
  have q6 := Q.out.cell 6 rfl
  have q7 := Q.out.cell 7 rfl
  have q8 := Q.out.cell 8 rfl
  go_enter Tryz.func5, Tryz.ntmps5
  go_wp2_with fail
  clear hW hS q0 q1 q2 q3 q4 q5 q6 q7 q8
  refine (s_fault12 s _ _ _ _ _ _ _ _ _ _ _ _ _ _ X b _ D.out Q.out).mono ?_
  rw [HV.out]
  rintro e w1 ⟨rfl, b1'⟩
  have B1 : Hid (Below w.heap.size w w1) := on B0.out b1'
  have E1 : Hid (Below W.heap.size W w1) := b1'
  have R1 : Hid (Vb w1 (s + 1) #[.int .i64 0, .slice none 0 0, .slice none 0 0, .slice none 0 0, .slice none 0 0, .slice none 0 0, .slice none 0 0, .int .i64 0, .int .i64 0, .int .i64 0] 42) := R.out.keep b1'
  have Q1 : Hid (Vb w1 s #[.slice a0 n0 c0, .slice a1 n1 c1, .slice a2 n2 c2, .slice a3 n3 c3, .slice am lm cm, .slice ah lh ch, .int .i64 X.slot, .int .i64 X.left, .int .i64 X.clock] 40) := Q.out.keep b1'
  clear b1'
  have HG1 : Hid (isG X.pol.own.length (k : Int) = true) := HN.out
  have q0 := Q1.out.cell 0 rfl
  have q1 := Q1.out.cell 1 rfl
  have q2 := Q1.out.cell 2 rfl
  have q3 := Q1.out.cell 3 rfl
  go_wp2_with fail
  clear q0 q1 q2 q3
  refine (l6_guest s (k : Int) X.pol _ ⟨_, _, _, _, _, _, _, _, _, _, _, _, Q1.out.cell 0 rfl, Q1.out.cell 1 rfl, Q1.out.cell 2 rfl, Q1.out.cell 3 rfl, (D.out.keep E1.out).pol⟩).mono ?_
  rw [HG1.out]
  rintro e w2 ⟨rfl, e2⟩
  have b2 : Below w1.heap.size w1 w2 := by rw [e2]; exact Below.refl _ _
  clear e2
  have B2 : Hid (Below w.heap.size w w2) := on B1.out b2
  have E2 : Hid (Below W.heap.size W w2) := on E1.out b2
  have R2 : Hid (Vb w2 (s + 1) #[.int .i64 0, .slice none 0 0, .slice none 0 0, .slice none 0 0, .slice none 0 0, .slice none 0 0, .slice none 0 0, .int .i64 0, .int .i64 0, .int .i64 0] 42) := R1.out.keep b2
  have Q2 : Hid (Vb w2 s #[.slice a0 n0 c0, .slice a1 n1 c1, .slice a2 n2 c2, .slice a3 n3 c3, .slice am lm cm, .slice ah lh ch, .int .i64 X.slot, .int .i64 X.left, .int .i64 X.clock] 40) := Q1.out.keep b2
  clear b2
  have KL : Hid (k < lh) := by show _ < _; have := LH.out; have := KH.out; omega
  have kI : (k : Int) < (lh : Int) := by have := KL.out; omega
  obtain ⟨gh, hgh⟩ : ∃ g, ah = some ⟨g, 0, none⟩ := by
    obtain ⟨_, _, e, _, _, hg⟩ := D.out.harts.shape
    simp at e
    obtain ⟨e1, e2, _⟩ := e
    obtain ⟨g, eg⟩ := hg (by have := KH.out; omega)
    exact ⟨g, by rw [e1, eg]⟩
  subst hgh
  obtain ⟨r, c, i, o, y1, y2, _⟩ := ((D.out.harts.keep E2.out).at k KH.out)
  obtain ⟨H, hH⟩ : ∃ H, X.harts.getD k voidH = H := ⟨_, rfl⟩
  have HHE : Hid (X.harts.getD k voidH = H) := hH
  rw [hH] at y1 y2
  obtain ⟨xr, kr, e0, _⟩ := y2.r.shape
  obtain ⟨xc, kc, e1, _⟩ := y2.c.shape
  obtain ⟨xi, ki, e2, _⟩ := y2.i.shape
  obtain ⟨xo, ko, e3, _⟩ := y2.o.shape
  subst e0 e1 e2 e3
  obtain ⟨lr, hlr⟩ : ∃ n, H.regs.length = n := ⟨_, rfl⟩
  obtain ⟨lc, hlc⟩ : ∃ n, H.csr.length = n := ⟨_, rfl⟩
  obtain ⟨li, hli⟩ : ∃ n, H.inn.length = n := ⟨_, rfl⟩
  obtain ⟨lo, hlo⟩ : ∃ n, H.out.length = n := ⟨_, rfl⟩
  rw [hlr, hlc, hli, hlo] at y1 y2
  have k0 := y1.c0
  have k1 := y1.c1
  have k2 := y1.c2
  have k3 := y1.c3
  have k4 := y1.c4
  have k5 := y1.c5
  have k6 := y1.c6
  have k7 := y1.c7
  have k8 := y1.c8
  have Y2 : Hid (Hm w2 b (.slice xr lr kr) (.slice xc lc kc) (.slice xi li ki) (.slice xo lo ko) H) := y2
  have LHM : (lh : Int) ≤ 9223372036854775807 := by have := LH.out; have hc := D.out.harts.shape; obtain ⟨_, _, e, h1, h2, _⟩ := hc; unfold maxLen at h2; omega
  clear y1 y2 hH hlr hlc hli hlo
  have q5 := Q2.out.cell 5 rfl
  go_wp2_with fail
  clear k0 k1 k2 k3 k4 k5 k6 k7 k8 q5
  refine (s_feedHart _ _ _ _ H _ _ _ ys b _ (Y2.out) (HY.out.1.stay E2.out) HY.out.2).mono ?_
  rintro e w3 ⟨_, _, _, _, rfl, hm, b3⟩
  obtain ⟨da, dk, e0, _⟩ := hm.r.shape
  obtain ⟨db, dl, e1, _⟩ := hm.c.shape
  obtain ⟨dc, dm, e2, _⟩ := hm.i.shape
  obtain ⟨dd, dn, e3, _⟩ := hm.o.shape
  subst e0 e1 e2 e3
  obtain ⟨CX, hCX⟩ : ∃ c, (feedR H ys).1 = c := ⟨_, rfl⟩
  obtain ⟨G, hG⟩ : ∃ c, (feedR H ys).2 = c := ⟨_, rfl⟩
  rw [hCX, hG]
  rw [hG] at hm
  obtain ⟨d0, hd0⟩ : ∃ n, G.regs.length = n := ⟨_, rfl⟩
  obtain ⟨d1, hd1⟩ : ∃ n, G.csr.length = n := ⟨_, rfl⟩
  obtain ⟨d2, hd2⟩ : ∃ n, G.inn.length = n := ⟨_, rfl⟩
  obtain ⟨d3, hd3⟩ : ∃ n, G.out.length = n := ⟨_, rfl⟩
  rw [hd0, hd1, hd2, hd3] at hm ⊢
  have HCH : Hid ((feedR H ys).1 = CX ∧ (feedR H ys).2 = G) := ⟨hCX, hG⟩
  clear hd0 hd1 hd2 hd3 hCX hG
  have AL : Hid (Below w3.heap.size w3 (w3.alloc (.cells #[.int .i64 CX, .slice da d0 dk, .int .i64 G.pc, .slice db d1 dl, .bool G.halted, .bool G.waiting, .bool G.rung, .int .i64 G.done, .slice dc d2 dm, .slice dd d3 dn] 62))) := al (Below.refl _ _) _
  have E3 : Hid (Below W.heap.size W (w3.alloc (.cells #[.int .i64 CX, .slice da d0 dk, .int .i64 G.pc, .slice db d1 dl, .bool G.halted, .bool G.waiting, .bool G.rung, .int .i64 G.done, .slice dc d2 dm, .slice dd d3 dn] 62))) := al (on E2.out b3) _
  have B3 : Hid (Below w.heap.size w (w3.alloc (.cells #[.int .i64 CX, .slice da d0 dk, .int .i64 G.pc, .slice db d1 dl, .bool G.halted, .bool G.waiting, .bool G.rung, .int .i64 G.done, .slice dc d2 dm, .slice dd d3 dn] 62))) := on B0.out E3.out
  have R3 : Hid (Vb (w3.alloc (.cells #[.int .i64 CX, .slice da d0 dk, .int .i64 G.pc, .slice db d1 dl, .bool G.halted, .bool G.waiting, .bool G.rung, .int .i64 G.done, .slice dc d2 dm, .slice dd d3 dn] 62)) (s + 1) #[.int .i64 0, .slice none 0 0, .slice none 0 0, .slice none 0 0, .slice none 0 0, .slice none 0 0, .slice none 0 0, .int .i64 0, .int .i64 0, .int .i64 0] 42) := R.out.keep E3.out
  have Q3 : Hid (Vb (w3.alloc (.cells #[.int .i64 CX, .slice da d0 dk, .int .i64 G.pc, .slice db d1 dl, .bool G.halted, .bool G.waiting, .bool G.rung, .int .i64 G.done, .slice dc d2 dm, .slice dd d3 dn] 62)) s #[.slice a0 n0 c0, .slice a1 n1 c1, .slice a2 n2 c2, .slice a3 n3 c3, .slice am lm cm, .slice (some ⟨gh, 0, none⟩) lh ch, .int .i64 X.slot, .int .i64 X.left, .int .i64 X.clock] 40) := Q.out.keep E3.out
  have V3 : Hid (Vb (w3.alloc (.cells #[.int .i64 CX, .slice da d0 dk, .int .i64 G.pc, .slice db d1 dl, .bool G.halted, .bool G.waiting, .bool G.rung, .int .i64 G.done, .slice dc d2 dm, .slice dd d3 dn] 62)) w3.heap.size #[.int .i64 CX, .slice da d0 dk, .int .i64 G.pc, .slice db d1 dl, .bool G.halted, .bool G.waiting, .bool G.rung, .int .i64 G.done, .slice dc d2 dm, .slice dd d3 dn] 62) := Vb.new _ _ _
  have HM3 : Hid (Hm (w3.alloc (.cells #[.int .i64 CX, .slice da d0 dk, .int .i64 G.pc, .slice db d1 dl, .bool G.halted, .bool G.waiting, .bool G.rung, .int .i64 G.done, .slice dc d2 dm, .slice dd d3 dn] 62)) w2.heap.size (.slice da d0 dk) (.slice db d1 dl) (.slice dc d2 dm) (.slice dd d3 dn) G) := hm.keep AL.out
  have Z3 : Hid (w2.heap.size ≤ w3.heap.size ∧ w3.heap.size < (w3.alloc (.cells #[.int .i64 CX, .slice da d0 dk, .int .i64 G.pc, .slice db d1 dl, .bool G.halted, .bool G.waiting, .bool G.rung, .int .i64 G.done, .slice dc d2 dm, .slice dd d3 dn] 62)).heap.size ∧ s + 2 ≤ w2.heap.size) := ⟨b3.size, by simp, by have := ZW.out; have := E2.out.size; omega⟩
  clear hm b3 AL
  go_upto_region 7 with fail
  generalize (w3.alloc (.cells #[.int .i64 CX, .slice da d0 dk, .int .i64 G.pc, .slice db d1 dl, .bool G.halted, .bool G.waiting, .bool G.rung, .int .i64 G.done, .slice dc d2 dm, .slice dd d3 dn] 62)) = W3 at *
  obtain ⟨t3, ht3⟩ : ∃ t, w3.heap.size = t := ⟨_, rfl⟩
  rw [ht3] at V3 Z3 ⊢
  clear ht3
  have x0 := V3.out.cell 0 rfl
  have ECX : CX = 0 := by rw [← HCH.out.1, ← HHE.out]; exact HF.out
  subst ECX
  have EGX : G = GX := by rw [← HCH.out.2, ← HHE.out]; exact HGX.out
  subst EGX
  have LM : Hid (lm = 192) := by obtain ⟨_, _, e, _⟩ := D.out.mem.shape; simp at e; have := HZ.out.ml; show _ = _; omega
  obtain ⟨gm, hgm⟩ : ∃ g, am = some ⟨g, 0, none⟩ := by
    obtain ⟨_, _, e, _, _, hg⟩ := D.out.mem.shape
    simp at e
    obtain ⟨g, eg⟩ := hg (by rw [HZ.out.ml]; decide)
    exact ⟨g, by rw [e.1, eg]⟩
  subst hgm
  have q0 := Q3.out.cell 0 rfl
  have q1 := Q3.out.cell 1 rfl
  have q2 := Q3.out.cell 2 rfl
  have q3 := Q3.out.cell 3 rfl
  have q4 := Q3.out.cell 4 rfl
  have q5 := Q3.out.cell 5 rfl
  have q6 := Q3.out.cell 6 rfl
  have q7 := Q3.out.cell 7 rfl
  have q8 := Q3.out.cell 8 rfl
  go_wp2_with fail
  clear x0 q0 q1 q2 q3 q4 q5 q6 q7 q8
  refine (s_copy12 _ _ _ _ _ _ _ _ _ _ _ _ gm lm cm _ _ _ X b _ (D.out.keep E3.out) SMP.out (by have := LM.out; omega) HZ.out.ok (by have := LH.out; have := HZ.out.hl; have := HZ.out.own; omega)).mono ?_
  rintro e w4 ⟨_, _, _, _, _, _, rfl, ow, b4⟩
  obtain ⟨v0, v1, v2, v3, v4, v5, k0, k1, k2, k3, k4, k5, m0, m1, m2, m3, m4, m5, e0, e1, e2, e3, e4, e5⟩ := oq_shapes ow
  subst e0 e1 e2 e3 e4 e5
  have OW : Hid (Oq (w4.alloc (.cells #[.slice v0 m0 k0, .slice v1 m1 k1, .slice v2 m2 k2, .slice v3 m3 k3, .slice v4 m4 k4, .slice v5 m5 k5, .int .i64 X.slot, .int .i64 X.left, .int .i64 X.clock] 40)) W3.heap.size (.slice v0 m0 k0) (.slice v1 m1 k1) (.slice v2 m2 k2) (.slice v3 m3 k3) (.slice v4 m4 k4) (.slice v5 m5 k5) X) := ow.keep (al (Below.refl _ _) _)
  have AL : Hid (Below W3.heap.size W3 (w4.alloc (.cells #[.slice v0 m0 k0, .slice v1 m1 k1, .slice v2 m2 k2, .slice v3 m3 k3, .slice v4 m4 k4, .slice v5 m5 k5, .int .i64 X.slot, .int .i64 X.left, .int .i64 X.clock] 40))) := al b4 _
  have VB4 : Hid (Vb (w4.alloc (.cells #[.slice v0 m0 k0, .slice v1 m1 k1, .slice v2 m2 k2, .slice v3 m3 k3, .slice v4 m4 k4, .slice v5 m5 k5, .int .i64 X.slot, .int .i64 X.left, .int .i64 X.clock] 40)) w4.heap.size #[.slice v0 m0 k0, .slice v1 m1 k1, .slice v2 m2 k2, .slice v3 m3 k3, .slice v4 m4 k4, .slice v5 m5 k5, .int .i64 X.slot, .int .i64 X.left, .int .i64 X.clock] 40) := Vb.new _ _ _
  have Z4 : Hid (W3.heap.size ≤ w4.heap.size) := b4.size
  clear ow b4
  go_upto_region 10 with fail
  generalize (w4.alloc (.cells #[.slice v0 m0 k0, .slice v1 m1 k1, .slice v2 m2 k2, .slice v3 m3 k3, .slice v4 m4 k4, .slice v5 m5 k5, .int .i64 X.slot, .int .i64 X.left, .int .i64 X.clock] 40)) = W4 at *
  obtain ⟨t4, ht4⟩ : ∃ t, w4.heap.size = t := ⟨_, rfl⟩
  rw [ht4] at VB4 Z4 ⊢
  clear ht4
  obtain ⟨g5, hg5, hm5⟩ : ∃ g, v5 = some ⟨g, 0, none⟩ ∧ m5 = X.harts.length := by
    obtain ⟨qs, h1, h2, _⟩ := OW.out.harts
    have hq : qs.length = X.harts.length := by rw [← h2, List.length_map]
    obtain ⟨_, ⟨_, e⟩ | ⟨g, _, _, e, _⟩⟩ := h1
    · have := KH.out; omega
    · simp at e; exact ⟨g, e.1, by omega⟩
  subst hg5
  have M5 : Hid (m5 = X.harts.length) := hm5
  have kM : (k : Int) < (m5 : Int) := by have := KH.out; omega
  have m5I : (m5 : Int) ≤ 9223372036854775807 := by have := HZ.out.hl; have := HZ.out.own; omega
  clear hm5
  obtain ⟨qs, hrow, hqs, hml⟩ := OW.out.harts
  have hql : qs.length = X.harts.length := by rw [← hqs, List.length_map]
  have hrow' : W4.ownsRow W3.heap.size 60 9 (.slice (some ⟨g5, 0, none⟩) m5 k5) m5 (flat9 qs) := by have := M5.out; rw [show m5 = qs.length by omega]; exact (by have e : qs.length = m5 := (by omega); rw [e] at hrow ⊢; exact hrow)
  have HC := row_hc hrow' (by have := M5.out; omega) k (by have := KH.out; omega)
  have GB : Hid (W3.heap.size ≤ g5) := (World.ownsRow.lt hrow' g5 rfl).1
  have lg := (World.ownsRow.lt hrow' g5 rfl).2
  have TG : Hid (t4 ≠ g5) := fun e => row_ne_vb hrow' VB4.out (by decide) (by rw [e]; rfl)
  have c0 := HC.c0
  have f0 := World.ownsRow.frozenAt hrow' (k * 9)
  have c1 := HC.c1
  have f1 := World.ownsRow.frozenAt hrow' (k * 9 + 1)
  have c2 := HC.c2
  have f2 := World.ownsRow.frozenAt hrow' (k * 9 + 2)
  have c3 := HC.c3
  have f3 := World.ownsRow.frozenAt hrow' (k * 9 + 3)
  have c4 := HC.c4
  have f4 := World.ownsRow.frozenAt hrow' (k * 9 + 4)
  have c5 := HC.c5
  have f5 := World.ownsRow.frozenAt hrow' (k * 9 + 5)
  have c6 := HC.c6
  have f6 := World.ownsRow.frozenAt hrow' (k * 9 + 6)
  have c7 := HC.c7
  have f7 := World.ownsRow.frozenAt hrow' (k * 9 + 7)
  have c8 := HC.c8
  have f8 := World.ownsRow.frozenAt hrow' (k * 9 + 8)
  obtain ⟨oq, hoq⟩ : ∃ z, qs.getD k (v4z, voidH) = z := ⟨_, rfl⟩
  rw [hoq] at c0 c1 c2 c3 c4 c5 c6 c7 c8
  clear HC hrow hrow' hoq
  have V3' : Hid (Vb W4 t3 #[.int .i64 0, .slice da d0 dk, .int .i64 G.pc, .slice db d1 dl, .bool G.halted, .bool G.waiting, .bool G.rung, .int .i64 G.done, .slice dc d2 dm, .slice dd d3 dn] 62) := V3.out.keep AL.out
  have HM4 : Hid (Hm W4 w2.heap.size (.slice da d0 dk) (.slice db d1 dl) (.slice dc d2 dm) (.slice dd d3 dn) G) := HM3.out.keep AL.out
  have y5 := VB4.out.cell 5 rfl
  have z1 := V3'.out.cell 1 rfl
  have z2 := V3'.out.cell 2 rfl
  have z3 := V3'.out.cell 3 rfl
  have z4 := V3'.out.cell 4 rfl
  have z5 := V3'.out.cell 5 rfl
  have z6 := V3'.out.cell 6 rfl
  have z7 := V3'.out.cell 7 rfl
  have z8 := V3'.out.cell 8 rfl
  have z9 := V3'.out.cell 9 rfl
  go_upto_region 11 with fail
  clear y5 z1 z2 z3 z4 z5 z6 z7 z8 z9 c0 f0 c1 f1 c2 f2 c3 f3 c4 f4 c5 f5 c6 f6 c7 f7 c8 f8 lg
  obtain ⟨ox, gr, gb⟩ := Oq.setH (k := k) (OW.out.mono (base' := w2.heap.size) (by have := Z3.out; omega)) KH.out HM4.out
  have OX : Hid (Oq (((((((((W4.setCell ⟨g5, k * 9, none⟩ (.slice da d0 dk)).setCell ⟨g5, k * 9 + 1, none⟩ (.int .i64 G.pc)).setCell ⟨g5, k * 9 + 2, none⟩ (.slice db d1 dl)).setCell ⟨g5, k * 9 + 3, none⟩ (.bool G.halted)).setCell ⟨g5, k * 9 + 4, none⟩ (.bool G.waiting)).setCell ⟨g5, k * 9 + 5, none⟩ (.bool G.rung)).setCell ⟨g5, k * 9 + 6, none⟩ (.int .i64 G.done)).setCell ⟨g5, k * 9 + 7, none⟩ (.slice dc d2 dm)).setCell ⟨g5, k * 9 + 8, none⟩ (.slice dd d3 dn)) w2.heap.size (.slice v0 m0 k0) (.slice v1 m1 k1) (.slice v2 m2 k2) (.slice v3 m3 k3) (.slice v4 m4 k4) (.slice (some ⟨g5, 0, none⟩) m5 k5) ({ X with harts := X.harts.set k G } : Hst)) := ox
  have GR : Hid (W4.grownBy (((((((((W4.setCell ⟨g5, k * 9, none⟩ (.slice da d0 dk)).setCell ⟨g5, k * 9 + 1, none⟩ (.int .i64 G.pc)).setCell ⟨g5, k * 9 + 2, none⟩ (.slice db d1 dl)).setCell ⟨g5, k * 9 + 3, none⟩ (.bool G.halted)).setCell ⟨g5, k * 9 + 4, none⟩ (.bool G.waiting)).setCell ⟨g5, k * 9 + 5, none⟩ (.bool G.rung)).setCell ⟨g5, k * 9 + 6, none⟩ (.int .i64 G.done)).setCell ⟨g5, k * 9 + 7, none⟩ (.slice dc d2 dm)).setCell ⟨g5, k * 9 + 8, none⟩ (.slice dd d3 dn)) (some g5)) := gr
  clear ox gr gb
  have V5 : Hid (Vb (((((((((W4.setCell ⟨g5, k * 9, none⟩ (.slice da d0 dk)).setCell ⟨g5, k * 9 + 1, none⟩ (.int .i64 G.pc)).setCell ⟨g5, k * 9 + 2, none⟩ (.slice db d1 dl)).setCell ⟨g5, k * 9 + 3, none⟩ (.bool G.halted)).setCell ⟨g5, k * 9 + 4, none⟩ (.bool G.waiting)).setCell ⟨g5, k * 9 + 5, none⟩ (.bool G.rung)).setCell ⟨g5, k * 9 + 6, none⟩ (.int .i64 G.done)).setCell ⟨g5, k * 9 + 7, none⟩ (.slice dc d2 dm)).setCell ⟨g5, k * 9 + 8, none⟩ (.slice dd d3 dn)) t4 #[.slice v0 m0 k0, .slice v1 m1 k1, .slice v2 m2 k2, .slice v3 m3 k3, .slice v4 m4 k4, .slice (some ⟨g5, 0, none⟩) m5 k5, .int .i64 X.slot, .int .i64 X.left, .int .i64 X.clock] 40 ∧ Vb (((((((((W4.setCell ⟨g5, k * 9, none⟩ (.slice da d0 dk)).setCell ⟨g5, k * 9 + 1, none⟩ (.int .i64 G.pc)).setCell ⟨g5, k * 9 + 2, none⟩ (.slice db d1 dl)).setCell ⟨g5, k * 9 + 3, none⟩ (.bool G.halted)).setCell ⟨g5, k * 9 + 4, none⟩ (.bool G.waiting)).setCell ⟨g5, k * 9 + 5, none⟩ (.bool G.rung)).setCell ⟨g5, k * 9 + 6, none⟩ (.int .i64 G.done)).setCell ⟨g5, k * 9 + 7, none⟩ (.slice dc d2 dm)).setCell ⟨g5, k * 9 + 8, none⟩ (.slice dd d3 dn)) (s + 1) #[.int .i64 0, .slice none 0 0, .slice none 0 0, .slice none 0 0, .slice none 0 0, .slice none 0 0, .slice none 0 0, .int .i64 0, .int .i64 0, .int .i64 0] 42) := ⟨(VB4.out.gr GR.out (by intro e; have e : t4 = g5 := (by simpa using e); exact TG.out e)), ((R3.out.keep AL.out).gr GR.out (by intro e; have e : s + 1 = g5 := (by simpa using e); have := GB.out; have := Z3.out; omega))⟩
  have B5 : Hid (Below w.heap.size w (((((((((W4.setCell ⟨g5, k * 9, none⟩ (.slice da d0 dk)).setCell ⟨g5, k * 9 + 1, none⟩ (.int .i64 G.pc)).setCell ⟨g5, k * 9 + 2, none⟩ (.slice db d1 dl)).setCell ⟨g5, k * 9 + 3, none⟩ (.bool G.halted)).setCell ⟨g5, k * 9 + 4, none⟩ (.bool G.waiting)).setCell ⟨g5, k * 9 + 5, none⟩ (.bool G.rung)).setCell ⟨g5, k * 9 + 6, none⟩ (.int .i64 G.done)).setCell ⟨g5, k * 9 + 7, none⟩ (.slice dc d2 dm)).setCell ⟨g5, k * 9 + 8, none⟩ (.slice dd d3 dn))) := (on B3.out AL.out).grown GR.out (on B3.out AL.out).size (fun j e => by have e : g5 = j := (by simpa using e); have := GB.out; have := B3.out.size; omega)
  have S5 : Hid (s + 2 ≤ w2.heap.size) := Z3.out.2.2
  generalize (((((((((W4.setCell ⟨g5, k * 9, none⟩ (.slice da d0 dk)).setCell ⟨g5, k * 9 + 1, none⟩ (.int .i64 G.pc)).setCell ⟨g5, k * 9 + 2, none⟩ (.slice db d1 dl)).setCell ⟨g5, k * 9 + 3, none⟩ (.bool G.halted)).setCell ⟨g5, k * 9 + 4, none⟩ (.bool G.waiting)).setCell ⟨g5, k * 9 + 5, none⟩ (.bool G.rung)).setCell ⟨g5, k * 9 + 6, none⟩ (.int .i64 G.done)).setCell ⟨g5, k * 9 + 7, none⟩ (.slice dc d2 dm)).setCell ⟨g5, k * 9 + 8, none⟩ (.slice dd d3 dn)) = W5 at *
  have y0 := V5.out.1.cell 0 rfl
  have y1 := V5.out.1.cell 1 rfl
  have y2 := V5.out.1.cell 2 rfl
  have y3 := V5.out.1.cell 3 rfl
  have y4 := V5.out.1.cell 4 rfl
  have y5 := V5.out.1.cell 5 rfl
  have y6 := V5.out.1.cell 6 rfl
  have y7 := V5.out.1.cell 7 rfl
  have y8 := V5.out.1.cell 8 rfl
  have p0 := V5.out.2.cell 0 rfl
  have f0 := V5.out.2.free 0
  have p1 := V5.out.2.cell 1 rfl
  have f1 := V5.out.2.free 1
  have p2 := V5.out.2.cell 2 rfl
  have f2 := V5.out.2.free 2
  have p3 := V5.out.2.cell 3 rfl
  have f3 := V5.out.2.free 3
  have p4 := V5.out.2.cell 4 rfl
  have f4 := V5.out.2.free 4
  have p5 := V5.out.2.cell 5 rfl
  have f5 := V5.out.2.free 5
  have p6 := V5.out.2.cell 6 rfl
  have f6 := V5.out.2.free 6
  have p7 := V5.out.2.cell 7 rfl
  have f7 := V5.out.2.free 7
  have p8 := V5.out.2.cell 8 rfl
  have f8 := V5.out.2.free 8
  have p9 := V5.out.2.cell 9 rfl
  have f9 := V5.out.2.free 9
  have lt := V5.out.2.lt
  go_wp2_with fail
  clear lt y0 y1 y2 y3 y4 y5 y6 y7 y8 p0 f0 p1 f1 p2 f2 p3 f3 p4 f4 p5 f5 p6 f6 p7 f7 p8 f8 p9 f9
  have NN : Hid (_ ∧ _) := ten V5.out.2 (.int .i64 0) (.slice v0 m0 k0) (.slice v1 m1 k1) (.slice v2 m2 k2) (.slice v3 m3 k3) (.slice v4 m4 k4) (.slice (some ⟨g5, 0, none⟩) m5 k5) (.int .i64 X.slot) (.int .i64 X.left) (.int .i64 X.clock)
  have O9 : Hid (Ho (s + 2) W5 ((((((((((W5.setCell ⟨s + 1, 0, none⟩ (.int .i64 0)).setCell ⟨s + 1, 1, none⟩ (.slice v0 m0 k0)).setCell ⟨s + 1, 2, none⟩ (.slice v1 m1 k1)).setCell ⟨s + 1, 3, none⟩ (.slice v2 m2 k2)).setCell ⟨s + 1, 4, none⟩ (.slice v3 m3 k3)).setCell ⟨s + 1, 5, none⟩ (.slice v4 m4 k4)).setCell ⟨s + 1, 6, none⟩ (.slice (some ⟨g5, 0, none⟩) m5 k5)).setCell ⟨s + 1, 7, none⟩ (.int .i64 X.slot)).setCell ⟨s + 1, 8, none⟩ (.int .i64 X.left)).setCell ⟨s + 1, 9, none⟩ (.int .i64 X.clock))) := NN.out.2.ho fun j e => by omega
  generalize ((((((((((W5.setCell ⟨s + 1, 0, none⟩ (.int .i64 0)).setCell ⟨s + 1, 1, none⟩ (.slice v0 m0 k0)).setCell ⟨s + 1, 2, none⟩ (.slice v1 m1 k1)).setCell ⟨s + 1, 3, none⟩ (.slice v2 m2 k2)).setCell ⟨s + 1, 4, none⟩ (.slice v3 m3 k3)).setCell ⟨s + 1, 5, none⟩ (.slice v4 m4 k4)).setCell ⟨s + 1, 6, none⟩ (.slice (some ⟨g5, 0, none⟩) m5 k5)).setCell ⟨s + 1, 7, none⟩ (.int .i64 X.slot)).setCell ⟨s + 1, 8, none⟩ (.int .i64 X.left)).setCell ⟨s + 1, 9, none⟩ (.int .i64 X.clock)) = W9 at *
  have x0 := NN.out.1.cell 0 rfl
  have x1 := NN.out.1.cell 1 rfl
  have x2 := NN.out.1.cell 2 rfl
  have x3 := NN.out.1.cell 3 rfl
  have x4 := NN.out.1.cell 4 rfl
  have x5 := NN.out.1.cell 5 rfl
  have x6 := NN.out.1.cell 6 rfl
  have x7 := NN.out.1.cell 7 rfl
  have x8 := NN.out.1.cell 8 rfl
  have x9 := NN.out.1.cell 9 rfl
  have F : Hid (Oq W9 w.heap.size (.slice v0 m0 k0) (.slice v1 m1 k1) (.slice v2 m2 k2) (.slice v3 m3 k3) (.slice v4 m4 k4) (.slice (some ⟨g5, 0, none⟩) m5 k5) ({ X with harts := X.harts.set k G } : Hst)) := ((OX.out.mono S5.out).ho O9.out).mono (by have := HSs.out; omega)
  exact bodyPost_ret (v := .agg #[.int .i64 0, .slice v0 m0 k0, .slice v1 m1 k1, .slice v2 m2 k2, .slice v3 m3 k3, .slice v4 m4 k4, .slice (some ⟨g5, 0, none⟩) m5 k5, .int .i64 X.slot, .int .i64 X.left, .int .i64 X.clock]) (by simp [results, Tryz.results5, go_sem, x0, x1, x2, x3, x4, x5, x6, x7, x8, x9]) rfl ⟨_, _, _, _, _, _, rfl, F.out, Mq.under B5.out NN.out.2 fun j e => by have := HSs.out; omega⟩
theorem s_feedHost12 (a0 a1 a2 a3 : Option Addr) (n0 c0 n1 c1 n2 c2 n3 c3 : Nat) (am : Option Addr) (lm cm : Nat) (ah : Option Addr) (lh ch : Nat) (X : Hst) (gu : Int) (ya : Option Addr) (yn yk : Nat) (ys : List Int) (b : Nat) (w : World) (d : Oj w b a0 n0 c0 a1 n1 c1 a2 n2 c2 a3 n3 c3 (.slice am lm cm) (.slice ah lh ch) X) (sm : Small n0 n1 n2 n3 X.pol) (hy : Rn w ya yn yk ys) (hyn : yn ≤ 1048576) :
    Calls Tryz.prog 5 #[.agg #[.slice a0 n0 c0, .slice a1 n1 c1, .slice a2 n2 c2, .slice a3 n3 c3, .slice am lm cm, .slice ah lh ch, .int .i64 X.slot, .int .i64 X.left, .int .i64 X.clock], .int .i64 gu, .slice ya yn yk] w fun e w' => ∃ v0 v1 v2 v3 v4 v5, e = .returned (.agg #[.int .i64 (fhC X gu ys), v0, v1, v2, v3, v4, v5, .int .i64 (fhX X gu ys).slot, .int .i64 (fhX X gu ys).left, .int .i64 (fhX X gu ys).clock]) ∧ Oq w' w.heap.size v0 v1 v2 v3 v4 v5 (fhX X gu ys) ∧ Below w.heap.size w w' := by
  by_cases hv : hoV X = 0
  · cases hn : isG X.pol.own.length gu with
    | false => exact sfh_guest _ _ _ _ _ _ _ _ _ _ _ _ _ _ _ _ _ _ X gu _ _ _ ys b w d sm hy hyn hv hn
    | true =>
      obtain ⟨h0, _⟩ := (isG_iff _ _).1 hn
      obtain ⟨k, rfl⟩ := Int.eq_ofNat_of_zero_le h0
      by_cases hf : (feedR (X.harts.getD k voidH) ys).1 = 0
      · exact sfh_good _ _ _ _ _ _ _ _ _ _ _ _ _ _ _ _ _ _ X k _ _ _ ys b w d sm hy hyn hv hn hf
      · exact sfh_fed _ _ _ _ _ _ _ _ _ _ _ _ _ _ _ _ _ _ X k _ _ _ ys b w d sm hy hyn hv hn hf
  · exact sfh_fault _ _ _ _ _ _ _ _ _ _ _ _ _ _ _ _ _ _ X gu _ _ _ ys b w d sm hy hyn hv
theorem s_feedHostQ (a0 a1 a2 a3 : Option Addr) (n0 c0 n1 c1 n2 c2 n3 c3 : Nat) (am : Option Addr) (lm cm : Nat) (ah : Option Addr) (lh ch : Nat) (X : Hst) (gu : Int) (ya : Option Addr) (yn yk : Nat) (ys : List Int) (b : Nat) (w : World) (d : Oj w b a0 n0 c0 a1 n1 c1 a2 n2 c2 a3 n3 c3 (.slice am lm cm) (.slice ah lh ch) X) (sm : Small n0 n1 n2 n3 X.pol) (hy : Rn w ya yn yk ys) (hyn : yn ≤ 1048576) :
    Calls Tryz.prog 5 #[.agg #[.slice a0 n0 c0, .slice a1 n1 c1, .slice a2 n2 c2, .slice a3 n3 c3, .slice am lm cm, .slice ah lh ch, .int .i64 X.slot, .int .i64 X.left, .int .i64 X.clock], .int .i64 gu, .slice ya yn yk] w fun e w' => ∃ v0 v1 v2 v3 v4 v5, e = .returned (.agg #[.int .i64 (fhC X gu ys), v0, v1, v2, v3, v4, v5, .int .i64 (fhX X gu ys).slot, .int .i64 (fhX X gu ys).left, .int .i64 (fhX X gu ys).clock]) ∧ Hq w' w.heap.size v0 v1 v2 v3 v4 v5 (fhX X gu ys) ∧ Below w.heap.size w w' :=
  (s_feedHost12 _ _ _ _ _ _ _ _ _ _ _ _ _ _ _ _ _ _ X gu _ _ _ ys b w d sm hy hyn).mono fun e w' ⟨v0, v1, v2, v3, v4, v5, k1, k2, k3⟩ => ⟨v0, v1, v2, v3, v4, v5, k1, k2.hq, k3⟩
end Go.Proofs.YtggejbphdadckaaGreatDoor
