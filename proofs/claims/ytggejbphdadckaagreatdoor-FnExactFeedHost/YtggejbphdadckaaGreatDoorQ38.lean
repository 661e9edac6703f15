/- Texts of this seat, joined. -/
import Derived.Test.YtggejbphdadckaaGreatDoorQ37
namespace Go.Proofs.YtggejbphdadckaaGreatDoor
open Go.RowKit
set_option linter.unusedVariables false
set_option maxHeartbeats 4000000 in
theorem mx_hostR (a0 a1 a2 a3 a4 a5 : Option Addr) (n0 n1 n2 n3 n4 n5 c0 c1 c2 c3 c4 c5 g0 g1 g2 g3 g4 g5 : Nat) (d x y z : Int) (R : List (Nat × Nat)) (S : Nat → Hsx) (k : Int) (w : World) (h : Og w a0 a1 a2 a3 a4 a5 n0 n1 n2 n3 n4 n5 g0 g1 g2 g3 g4 g5 R S) (hk : 0 ≤ k) (hz : k ≤ 1048576) :
    Calls Tryz.prog 14 #[.agg #[.int .i64 d, .slice a0 n0 c0, .slice a1 n1 c1, .slice a2 n2 c2, .slice a3 n3 c3, .slice a4 n4 c4, .slice a5 n5 c5, .int .i64 x, .int .i64 y, .int .i64 z], .int .i64 k] w fun e w' => e = .returned (.int .i64 (k + (oN g1 g2 g3 g4 g5 n1 n2 n3 n4 n5 R S).length)) ∧ Mx (oN g1 g2 g3 g4 g5 n1 n2 n3 n4 n5 R S) k w w' := by
  generalize hW : (w.alloc (.cells #[.int .i64 d, .slice a0 n0 c0, .slice a1 n1 c1, .slice a2 n2 c2, .slice a3 n3 c3, .slice a4 n4 c4, .slice a5 n5 c5, .int .i64 x, .int .i64 y, .int .i64 z] 42)) = W
  have MW : Hid (Mx [] k w W) := by show Mx _ _ _ _; rw [← hW]; exact (Mx.refl _ _).alloc _
  obtain ⟨s, hS⟩ : ∃ s, w.heap.size = s := ⟨_, rfl⟩
  have q1 : W.cell? ⟨s, 1, none⟩ = some (.slice a0 n0 c0) := by rw [← hW, ← hS]; exact cell_new rfl
  have q2 : W.cell? ⟨s, 2, none⟩ = some (.slice a1 n1 c1) := by rw [← hW, ← hS]; exact cell_new rfl
  have q3 : W.cell? ⟨s, 3, none⟩ = some (.slice a2 n2 c2) := by rw [← hW, ← hS]; exact cell_new rfl
  have q4 : W.cell? ⟨s, 4, none⟩ = some (.slice a3 n3 c3) := by rw [← hW, ← hS]; exact cell_new rfl
  have q5 : W.cell? ⟨s, 5, none⟩ = some (.slice a4 n4 c4) := by rw [← hW, ← hS]; exact cell_new rfl
  have q6 : W.cell? ⟨s, 6, none⟩ = some (.slice a5 n5 c5) := by rw [← hW, ← hS]; exact cell_new rfl
  have q7 : W.cell? ⟨s, 7, none⟩ = some (.int .i64 x) := by rw [← hW, ← hS]; exact cell_new rfl
  have q8 : W.cell? ⟨s, 8, none⟩ = some (.int .i64 y) := by rw [← hW, ← hS]; exact cell_new rfl
  have q9 : W.cell? ⟨s, 9, none⟩ = some (.int .i64 z) := by rw [← hW, ← hS]; exact cell_new rfl
  have HM : Hid (Og W a0 a1 a2 a3 a4 a5 n0 n1 n2 n3 n4 n5 g0 g1 g2 g3 g4 g5 R S) := by show Og ..; rw [← hW]; exact h.alloc _
  have KZ : Hid (0 ≤ k ∧ k ≤ 1048576) := ⟨hk, hz⟩
  clear h
  go_enter Tryz.func14, Tryz.ntmps14
  go_wp2_with fail
  clear hW hS q1 q2 q3 q4 q5 q6 q7 q8 q9
  refine (mx_host _ _ _ _ _ _ _ _ _ _ _ _ _ _ _ _ _ _ g0 g1 g2 g3 g4 g5 _ _ _ R S _ _ HM.out KZ.out.1 KZ.out.2).mono ?_
  rintro e w1 ⟨rfl, m1⟩
  have M1 : Hid (Mx (oN g1 g2 g3 g4 g5 n1 n2 n3 n4 n5 R S) k w w1) := MW.out.pre m1
  obtain ⟨r0, hr0⟩ : ∃ r0, k + ((oN g1 g2 g3 g4 g5 n1 n2 n3 n4 n5 R S).length : Int) = r0 := ⟨_, rfl⟩
  have R0 : Hid (k + ((oN g1 g2 g3 g4 g5 n1 n2 n3 n4 n5 R S).length : Int) = r0) := hr0
  rw [hr0]
  clear m1 hr0
  go_wp2_with fail
  go_ret
  exact ⟨by rw [R0.out]; rfl, M1.out⟩
set_option maxHeartbeats 4000000 in
theorem hx_hostR (a0 a1 a2 a3 a4 a5 : Option Addr) (n0 n1 n2 n3 n4 n5 c0 c1 c2 c3 c4 c5 g0 g1 g2 g3 g4 g5 : Nat) (d x y z : Int) (R : List (Nat × Nat)) (S : Nat → Hsx) (k : Int) (w : World) (h : Oh w a0 a1 a2 a3 a4 a5 n0 n1 n2 n3 n4 n5 g0 g1 g2 g3 g4 g5 R S) (hx : Hx (oN g1 g2 g3 g4 g5 n1 n2 n3 n4 n5 R S) k w) (hk : 0 ≤ k) (hz : k ≤ 1048576) :
    Calls Tryz.prog 15 #[.agg #[.int .i64 d, .slice a0 n0 c0, .slice a1 n1 c1, .slice a2 n2 c2, .slice a3 n3 c3, .slice a4 n4 c4, .slice a5 n5 c5, .int .i64 x, .int .i64 y, .int .i64 z], .int .i64 k] w fun e w' => e = .returned (.int .i64 (k + (oN g1 g2 g3 g4 g5 n1 n2 n3 n4 n5 R S).length)) ∧ Below w.heap.size w w' := by
  generalize hW : (w.alloc (.cells #[.int .i64 d, .slice a0 n0 c0, .slice a1 n1 c1, .slice a2 n2 c2, .slice a3 n3 c3, .slice a4 n4 c4, .slice a5 n5 c5, .int .i64 x, .int .i64 y, .int .i64 z] 42)) = W
  have BW : Hid (Below w.heap.size w W) := by show Below _ _ _; rw [← hW]; exact al (Below.refl _ _) _
  obtain ⟨s, hS⟩ : ∃ s, w.heap.size = s := ⟨_, rfl⟩
  have q1 : W.cell? ⟨s, 1, none⟩ = some (.slice a0 n0 c0) := by rw [← hW, ← hS]; exact cell_new rfl
  have q2 : W.cell? ⟨s, 2, none⟩ = some (.slice a1 n1 c1) := by rw [← hW, ← hS]; exact cell_new rfl
  have q3 : W.cell? ⟨s, 3, none⟩ = some (.slice a2 n2 c2) := by rw [← hW, ← hS]; exact cell_new rfl
  have q4 : W.cell? ⟨s, 4, none⟩ = some (.slice a3 n3 c3) := by rw [← hW, ← hS]; exact cell_new rfl
  have q5 : W.cell? ⟨s, 5, none⟩ = some (.slice a4 n4 c4) := by rw [← hW, ← hS]; exact cell_new rfl
  have q6 : W.cell? ⟨s, 6, none⟩ = some (.slice a5 n5 c5) := by rw [← hW, ← hS]; exact cell_new rfl
  have q7 : W.cell? ⟨s, 7, none⟩ = some (.int .i64 x) := by rw [← hW, ← hS]; exact cell_new rfl
  have q8 : W.cell? ⟨s, 8, none⟩ = some (.int .i64 y) := by rw [← hW, ← hS]; exact cell_new rfl
  have q9 : W.cell? ⟨s, 9, none⟩ = some (.int .i64 z) := by rw [← hW, ← hS]; exact cell_new rfl
  have HM : Hid (Oh W a0 a1 a2 a3 a4 a5 n0 n1 n2 n3 n4 n5 g0 g1 g2 g3 g4 g5 R S) := h.keep BW.out
  have HX : Hid (Hx (oN g1 g2 g3 g4 g5 n1 n2 n3 n4 n5 R S) k W) := hx.keep BW.out
  have KZ : Hid (0 ≤ k ∧ k ≤ 1048576) := ⟨hk, hz⟩
  clear h hx
  go_enter Tryz.func15, Tryz.ntmps15
  go_wp2_with fail
  clear hW hS q1 q2 q3 q4 q5 q6 q7 q8 q9
  refine (hx_host _ _ _ _ _ _ _ _ _ _ _ _ _ _ _ _ _ _ g0 g1 g2 g3 g4 g5 _ _ _ R S _ _ HM.out HX.out KZ.out.1 KZ.out.2).mono ?_
  rintro e w1 ⟨rfl, b1⟩
  have C1 : Hid (Below W.heap.size W w1) := b1
  obtain ⟨r0, hr0⟩ : ∃ r0, k + ((oN g1 g2 g3 g4 g5 n1 n2 n3 n4 n5 R S).length : Int) = r0 := ⟨_, rfl⟩
  have R0 : Hid (k + ((oN g1 g2 g3 g4 g5 n1 n2 n3 n4 n5 R S).length : Int) = r0) := hr0
  have p0 : 0 ≤ r0 := by have := KZ.out; omega
  rw [hr0]
  clear b1 hr0
  go_wp2_with fail
  go_ret
  exact ⟨by rw [R0.out]; rfl, on BW.out C1.out⟩
end Go.Proofs.YtggejbphdadckaaGreatDoor
