/- Two views compared, by the program. -/
import Derived.Test.YtldfcojmcdpdgaaVsv
import Derived.Laws.ByValue
namespace Go.Proofs.Ytldfcojmcdpdgaa
open Go.RowKit
set_option linter.unusedVariables false

set_option maxRecDepth 20000 in
set_option maxHeartbeats 8000000 in
theorem i_plainOf (ha0 ha1 ha2 ha3 ha4 ha5 : Option Addr) (n0 hk0 n1 hk1 n2 hk2 n3 hk3 n4 hk4 n5 hk5 : Nat) (H : Ht) (w : World) :
    Calls Try.prog 24 #[.agg #[.slice ha0 n0 hk0, .int .i64 H.pc, .slice ha1 n1 hk1, .bool H.halted, .bool H.waiting, .bool H.rung, .int .i64 H.done, .slice ha2 n2 hk2, .slice ha3 n3 hk3, .slice ha4 n4 hk4, .slice ha5 n5 hk5]] w fun e w' => e = .returned (.agg #[.int .i64 H.pc, .bool H.halted, .bool H.waiting, .bool H.rung, .int .i64 H.done]) ∧ Below w.heap.size w w' := by
  generalize hW : (w.alloc (.cells #[.slice ha0 n0 hk0, .int .i64 H.pc, .slice ha1 n1 hk1, .bool H.halted, .bool H.waiting, .bool H.rung, .int .i64 H.done, .slice ha2 n2 hk2, .slice ha3 n3 hk3, .slice ha4 n4 hk4, .slice ha5 n5 hk5] 31)).alloc (.cells #[.int .i64 0, .bool false, .bool false, .bool false, .int .i64 0] 48) = W
  have B0 : Hid (Below w.heap.size w W) := by show Below _ _ _; rw [← hW]; exact al (al (Below.refl _ _) _) _
  obtain ⟨s, hS⟩ : ∃ s, w.heap.size = s := ⟨_, rfl⟩
  have HSs : Hid (w.heap.size = s) := hS
  have z1 : s + 1 = (w.alloc (.cells #[.slice ha0 n0 hk0, .int .i64 H.pc, .slice ha1 n1 hk1, .bool H.halted, .bool H.waiting, .bool H.rung, .int .i64 H.done, .slice ha2 n2 hk2, .slice ha3 n3 hk3, .slice ha4 n4 hk4, .slice ha5 n5 hk5] 31)).heap.size := by rw [← hS]; simp
  have Q : Hid (Vb W s #[.slice ha0 n0 hk0, .int .i64 H.pc, .slice ha1 n1 hk1, .bool H.halted, .bool H.waiting, .bool H.rung, .int .i64 H.done, .slice ha2 n2 hk2, .slice ha3 n3 hk3, .slice ha4 n4 hk4, .slice ha5 n5 hk5] 31) := by show Vb _ _ _ _; rw [← hW, ← hS]; exact (Vb.new _ _ _).push _
  have R : Hid (Vb W (s + 1) #[.int .i64 0, .bool false, .bool false, .bool false, .int .i64 0] 48) := by show Vb _ _ _ _; rw [← hW, z1]; exact Vb.new _ _ _
  clear z1
  have q0 := Q.out.cell 0 rfl
  have q1 := Q.out.cell 1 rfl
  have q2 := Q.out.cell 2 rfl
  have q3 := Q.out.cell 3 rfl
  have q4 := Q.out.cell 4 rfl
  have q5 := Q.out.cell 5 rfl
  have q6 := Q.out.cell 6 rfl
  have q7 := Q.out.cell 7 rfl
  have q8 := Q.out.cell 8 rfl
  go_enter Try.func24, Try.ntmps24
  go_upto_region 2 with fail
  clear hW hS
  generalize hW2 : W.alloc (.cells #[.slice ha0 n0 hk0, .int .i64 H.pc, .slice ha1 n1 hk1, .bool H.halted, .bool H.waiting, .bool H.rung, .int .i64 H.done, .slice ha2 n2 hk2, .slice ha3 n3 hk3] 29) = W2
  have B2 : Hid (Below W.heap.size W W2) := by show Below _ _ _; rw [← hW2]; exact al (Below.refl _ _) _
  have V2 : Hid (Vb W2 W.heap.size #[.slice ha0 n0 hk0, .int .i64 H.pc, .slice ha1 n1 hk1, .bool H.halted, .bool H.waiting, .bool H.rung, .int .i64 H.done, .slice ha2 n2 hk2, .slice ha3 n3 hk3] 29) := by show Vb _ _ _ _; rw [← hW2]; exact Vb.new _ _ _
  have R2 : Hid (Vb W2 (s + 1) #[.int .i64 0, .bool false, .bool false, .bool false, .int .i64 0] 48) := R.out.keep B2.out
  clear hW2 q0 q1 q2 q3 q4 q5 q6 q7 q8
  have BB : Hid (Below w.heap.size w W2) := on B0.out B2.out
  generalize W.heap.size = s2 at *
  have v1 := V2.out.cell 1 rfl
  have v3 := V2.out.cell 3 rfl
  have v4 := V2.out.cell 4 rfl
  have v5 := V2.out.cell 5 rfl
  have v6 := V2.out.cell 6 rfl
  have p0 := R2.out.cell 0 rfl
  have f0 := R2.out.free 0
  have p1 := R2.out.cell 1 rfl
  have f1 := R2.out.free 1
  have p2 := R2.out.cell 2 rfl
  have f2 := R2.out.free 2
  have p3 := R2.out.cell 3 rfl
  have f3 := R2.out.free 3
  have p4 := R2.out.cell 4 rfl
  have f4 := R2.out.free 4
  go_wp2_with fail
  exact bodyPost_ret (v := .agg #[.int .i64 H.pc, .bool H.halted, .bool H.waiting, .bool H.rung, .int .i64 H.done]) (by simp [results, Try.results24, go_sem, p0, p1, p2, p3, p4]) rfl ⟨rfl, ((((BB.out.setCell (by have := HSs.out; show w.heap.size ≤ s + 1; omega) _).setCell (by have := HSs.out; show w.heap.size ≤ s + 1; omega) _).setCell (by have := HSs.out; show w.heap.size ≤ s + 1; omega) _).setCell (by have := HSs.out; show w.heap.size ≤ s + 1; omega) _).setCell (by have := HSs.out; show w.heap.size ≤ s + 1; omega) _⟩
set_option maxRecDepth 20000 in
set_option maxHeartbeats 8000000 in
theorem i_listsIn (ha0 ha1 ha2 ha3 ha4 ha5 : Option Addr) (n0 hk0 n1 hk1 n2 hk2 n3 hk3 n4 hk4 n5 hk5 : Nat) (H : Ht) (w : World) :
    Calls Try.prog 25 #[.agg #[.slice ha0 n0 hk0, .int .i64 H.pc, .slice ha1 n1 hk1, .bool H.halted, .bool H.waiting, .bool H.rung, .int .i64 H.done, .slice ha2 n2 hk2, .slice ha3 n3 hk3, .slice ha4 n4 hk4, .slice ha5 n5 hk5]] w fun e w' => ∃ g, e = .returned (.slice (some ⟨g, 0, none⟩) 6 6) ∧ Vb w' g #[.slice ha0 n0 hk0, .slice ha1 n1 hk1, .slice ha2 n2 hk2, .slice ha3 n3 hk3, .slice ha4 n4 hk4, .slice ha5 n5 hk5] 22 ∧ Below w.heap.size w w' := by
  generalize hW : w.alloc (.cells #[.slice ha0 n0 hk0, .int .i64 H.pc, .slice ha1 n1 hk1, .bool H.halted, .bool H.waiting, .bool H.rung, .int .i64 H.done, .slice ha2 n2 hk2, .slice ha3 n3 hk3, .slice ha4 n4 hk4, .slice ha5 n5 hk5] 31) = W
  have B0 : Hid (Below w.heap.size w W) := by show Below _ _ _; rw [← hW]; exact al (Below.refl _ _) _
  obtain ⟨s, hS⟩ : ∃ s, w.heap.size = s := ⟨_, rfl⟩
  have Q : Hid (Vb W s #[.slice ha0 n0 hk0, .int .i64 H.pc, .slice ha1 n1 hk1, .bool H.halted, .bool H.waiting, .bool H.rung, .int .i64 H.done, .slice ha2 n2 hk2, .slice ha3 n3 hk3, .slice ha4 n4 hk4, .slice ha5 n5 hk5] 31) := by show Vb _ _ _ _; rw [← hW, ← hS]; exact Vb.new _ _ _
  have q0 := Q.out.cell 0 rfl
  have q1 := Q.out.cell 1 rfl
  have q2 := Q.out.cell 2 rfl
  have q3 := Q.out.cell 3 rfl
  have q4 := Q.out.cell 4 rfl
  have q5 := Q.out.cell 5 rfl
  have q6 := Q.out.cell 6 rfl
  have q7 := Q.out.cell 7 rfl
  have q8 := Q.out.cell 8 rfl
  go_enter Try.func25, Try.ntmps25
  go_upto_region 2 with fail
  clear hW hS
  generalize hW2 : W.alloc (.cells #[.slice ha0 n0 hk0, .int .i64 H.pc, .slice ha1 n1 hk1, .bool H.halted, .bool H.waiting, .bool H.rung, .int .i64 H.done, .slice ha2 n2 hk2, .slice ha3 n3 hk3] 29) = W2
  have B2 : Hid (Below W.heap.size W W2) := by show Below _ _ _; rw [← hW2]; exact al (Below.refl _ _) _
  have V2 : Hid (Vb W2 W.heap.size #[.slice ha0 n0 hk0, .int .i64 H.pc, .slice ha1 n1 hk1, .bool H.halted, .bool H.waiting, .bool H.rung, .int .i64 H.done, .slice ha2 n2 hk2, .slice ha3 n3 hk3] 29) := by show Vb _ _ _ _; rw [← hW2]; exact Vb.new _ _ _
  have Q2 : Hid (Vb W2 s #[.slice ha0 n0 hk0, .int .i64 H.pc, .slice ha1 n1 hk1, .bool H.halted, .bool H.waiting, .bool H.rung, .int .i64 H.done, .slice ha2 n2 hk2, .slice ha3 n3 hk3, .slice ha4 n4 hk4, .slice ha5 n5 hk5] 31) := Q.out.keep B2.out
  clear hW2 q0 q1 q2 q3 q4 q5 q6 q7 q8
  have BB : Hid (Below w.heap.size w W2) := on B0.out B2.out
  generalize W.heap.size = s2 at *
  have v0 := V2.out.cell 0 rfl
  have v2 := V2.out.cell 2 rfl
  have v7 := V2.out.cell 7 rfl
  have v8 := V2.out.cell 8 rfl
  have q9 := Q2.out.cell 9 rfl
  have q10 := Q2.out.cell 10 rfl
  have LQ : s < W2.heap.size := Q2.out.lt
  have LV : s2 < W2.heap.size := V2.out.lt
  go_wp2_with fail
  go_ret
  exact ⟨_, rfl, Vb.new _ _ _, al BB.out _⟩
theorem neq_plain (a e a' e' : Int) (b c d b' c' d' : Bool) (w : World) : (binOp .neq 48 (.agg #[.int .i64 a, .bool b, .bool c, .bool d, .int .i64 e]) (.agg #[.int .i64 a', .bool b', .bool c', .bool d', .int .i64 e'])).run Try.prog w = .ok (.bool (!(decide (a = a') && (b == b') && (c == c') && (d == d') && decide (e = e')))) w := by
  go_simp
  by_cases h1 : a = a'
  case neg => simp [h1]
  by_cases h2 : b = b'
  case neg => simp [h1, h2]
  by_cases h3 : c = c'
  case neg => simp [h1, h2, h3]
  by_cases h4 : d = d'
  case neg => simp [h1, h2, h3, h4]
  by_cases h5 : e = e'
  case neg => simp [h1, h2, h3, h4, h5]
  simp [h1, h2, h3, h4, h5]
end Go.Proofs.Ytldfcojmcdpdgaa
