/- Two regions meet, by program and model. -/
import Derived.Test.YtedjnokeknmbaaaReg
namespace Go.Proofs.Ytedjnokeknmbaaa
open Go.RowKit
set_option linter.unusedVariables false

def crossB (a b c d : Int) : Bool := decide (0 < b ∧ 0 < d ∧ a < c + d ∧ c < a + b)

set_option maxHeartbeats 1000000 in
theorem spec_cross (a b c d : Int) (w : World) (h1 : regB a b = true) (h2 : regB c d = true) :
    Calls Try.prog 66 #[.agg #[.int .i64 a, .int .i64 b], .agg #[.int .i64 c, .int .i64 d]] w fun e w' => e = .returned (.bool (crossB a b c d)) ∧ Below w.heap.size w w' := by
  obtain ⟨p1, p2, p3, p4, p5⟩ := regB_true h1
  obtain ⟨q1, q2, q3, q4, q5⟩ := regB_true h2
  clear h1 h2
  by_cases k1 : 0 < b
  case neg =>
    have hr : crossB a b c d = false := by simp [crossB, k1]
    rw [hr]
    clear hr
    go_enter Try.func66, Try.ntmps66
    go_wp2_with fail
    go_ret
    exact ⟨by simp, al (al (Below.refl _ _) _) _⟩
  by_cases k2 : 0 < d
  case neg =>
    have hr : crossB a b c d = false := by simp [crossB, k2]
    rw [hr]
    clear hr
    go_enter Try.func66, Try.ntmps66
    go_wp2_with fail
    go_ret
    exact ⟨by simp, al (al (Below.refl _ _) _) _⟩
  by_cases k3 : a < c + d
  case neg =>
    have hr : crossB a b c d = false := by simp [crossB, k3]
    rw [hr]
    clear hr
    go_enter Try.func66, Try.ntmps66
    go_wp2_with fail
    go_ret
    exact ⟨by simp, al (al (Below.refl _ _) _) _⟩
  have hr : crossB a b c d = decide (c < a + b) := by simp [crossB, k1, k2, k3]
  rw [hr]
  clear hr
  go_enter Try.func66, Try.ntmps66
  go_wp2_with fail
  go_ret
  exact ⟨rfl, al (al (Below.refl _ _) _) _⟩

set_option maxHeartbeats 1000000 in
theorem impl_common (a b c d : Int) (w : World) (h1 : regB a b = true) (h2 : regB c d = true) :
    Calls Try.prog 67 #[.agg #[.int .i64 a, .int .i64 b], .agg #[.int .i64 c, .int .i64 d]] w fun e w' => ∃ x y, e = .returned (.agg #[.int .i64 x, .int .i64 y]) ∧ (crossB a b c d = decide (0 < y)) ∧ (0 < y ∨ (x = 0 ∧ y = 0)) ∧ Below w.heap.size w w' := by
  obtain ⟨p1, p2, p3, p4, p5⟩ := regB_true h1
  obtain ⟨q1, q2, q3, q4, q5⟩ := regB_true h2
  clear h1 h2
  by_cases x1 : a < c <;> by_cases x2 : c + d < a + b
  · by_cases x3 : c < c + d
    · go_enter Try.func67, Try.ntmps67
      go_wp2_with fail
      exact bodyPost_ret (v := .agg #[.int .i64 c, .int .i64 (c + d - c)]) (by simp [results, Try.results67, go_sem]) rfl ⟨c, c + d - c, rfl, by simp only [crossB, decide_eq_decide]; omega, by omega, al (al (al (Below.refl _ _) _) _) _⟩
    · go_enter Try.func67, Try.ntmps67
      go_wp2_with fail
      exact bodyPost_ret (v := .agg #[.int .i64 0, .int .i64 0]) (by simp [results, Try.results67, go_sem]) rfl ⟨0, 0, rfl, by simp only [crossB, decide_eq_decide]; omega, by omega, al (al (al (Below.refl _ _) _) _) _⟩
  · by_cases x3 : c < a + b
    · go_enter Try.func67, Try.ntmps67
      go_wp2_with fail
      exact bodyPost_ret (v := .agg #[.int .i64 c, .int .i64 (a + b - c)]) (by simp [results, Try.results67, go_sem]) rfl ⟨c, a + b - c, rfl, by simp only [crossB, decide_eq_decide]; omega, by omega, al (al (al (Below.refl _ _) _) _) _⟩
    · go_enter Try.func67, Try.ntmps67
      go_wp2_with fail
      exact bodyPost_ret (v := .agg #[.int .i64 0, .int .i64 0]) (by simp [results, Try.results67, go_sem]) rfl ⟨0, 0, rfl, by simp only [crossB, decide_eq_decide]; omega, by omega, al (al (al (Below.refl _ _) _) _) _⟩
  · by_cases x3 : a < c + d
    · go_enter Try.func67, Try.ntmps67
      go_wp2_with fail
      exact bodyPost_ret (v := .agg #[.int .i64 a, .int .i64 (c + d - a)]) (by simp [results, Try.results67, go_sem]) rfl ⟨a, c + d - a, rfl, by simp only [crossB, decide_eq_decide]; omega, by omega, al (al (al (Below.refl _ _) _) _) _⟩
    · go_enter Try.func67, Try.ntmps67
      go_wp2_with fail
      exact bodyPost_ret (v := .agg #[.int .i64 0, .int .i64 0]) (by simp [results, Try.results67, go_sem]) rfl ⟨0, 0, rfl, by simp only [crossB, decide_eq_decide]; omega, by omega, al (al (al (Below.refl _ _) _) _) _⟩
  · by_cases x3 : a < a + b
    · go_enter Try.func67, Try.ntmps67
      go_wp2_with fail
      exact bodyPost_ret (v := .agg #[.int .i64 a, .int .i64 (a + b - a)]) (by simp [results, Try.results67, go_sem]) rfl ⟨a, a + b - a, rfl, by simp only [crossB, decide_eq_decide]; omega, by omega, al (al (al (Below.refl _ _) _) _) _⟩
    · go_enter Try.func67, Try.ntmps67
      go_wp2_with fail
      exact bodyPost_ret (v := .agg #[.int .i64 0, .int .i64 0]) (by simp [results, Try.results67, go_sem]) rfl ⟨0, 0, rfl, by simp only [crossB, decide_eq_decide]; omega, by omega, al (al (al (Below.refl _ _) _) _) _⟩

theorem meet_out (a b c d : Int) : meetB a b c d = (regB a b && regB c d && crossB a b c d) := rfl

set_option maxHeartbeats 1000000 in
theorem spec_meet (a b c d : Int) (w : World) :
    Calls Try.prog 38 #[.agg #[.int .i64 a, .int .i64 b], .agg #[.int .i64 c, .int .i64 d]] w fun e w' => e = .returned (.bool (meetB a b c d)) ∧ Below w.heap.size w w' := by
  have f1 := fun w => spec_regFault a b w
  have f2 := fun w => spec_regFault c d w
  have f3 := fun w h1 h2 => spec_cross a b c d w h1 h2
  rw [meet_out]
  cases h1 : regB a b
  · rw [regV_false h1] at f1
    clear f2 f3
    go_enter Try.func38, Try.ntmps38
    go_wp2_with fail
    refine (f1 _).mono ?_
    rintro e w1 ⟨rfl, b1⟩
    go_wp2_with fail
    go_ret
    exact ⟨rfl, on (al (al (Below.refl _ _) _) _) b1⟩
  cases h2 : regB c d
  · rw [regV_true h1] at f1
    rw [regV_false h2] at f2
    clear f3
    go_enter Try.func38, Try.ntmps38
    go_wp2_with fail
    refine (f1 _).mono ?_
    rintro e w1 ⟨rfl, b1⟩
    obtain ⟨c1, z1⟩ := bcell b1
    go_wp2_with fail
    refine (f2 _).mono ?_
    rintro e w2 ⟨rfl, b2⟩
    go_wp2_with fail
    go_ret
    exact ⟨rfl, on (on (al (al (Below.refl _ _) _) _) b1) b2⟩
  · rw [regV_true h1] at f1
    rw [regV_true h2] at f2
    have f4 := fun w => f3 w h1 h2
    clear f3 h1 h2
    go_enter Try.func38, Try.ntmps38
    go_wp2_with fail
    refine (f1 _).mono ?_
    rintro e w1 ⟨rfl, b1⟩
    obtain ⟨c1, z1⟩ := bcell b1
    have s1 : w.heap.size < w1.heap.size ∧ w.heap.size + 1 < w1.heap.size := by have := b1.size; simp at this; omega
    obtain ⟨s1, s1'⟩ := s1
    go_wp2_with fail
    refine (f2 _).mono ?_
    rintro e w2 ⟨rfl, b2⟩
    obtain ⟨c2, z2⟩ := bcell b2
    go_wp2_with fail
    refine (f4 _).mono ?_
    rintro e w3 ⟨rfl, b3⟩
    go_wp2_with fail
    go_ret
    exact ⟨rfl, on (on (on (al (al (Below.refl _ _) _) _) b1) b2) b3⟩

set_option maxHeartbeats 1000000 in
theorem impl_meet (a b c d : Int) (w : World) :
    Calls Try.prog 39 #[.agg #[.int .i64 a, .int .i64 b], .agg #[.int .i64 c, .int .i64 d]] w fun e w' => e = .returned (.bool (meetB a b c d)) ∧ Below w.heap.size w w' := by
  have f1 := fun w => impl_regFault a b w
  have f2 := fun w => impl_regFault c d w
  have f3 := fun w h1 h2 => impl_common a b c d w h1 h2
  rw [meet_out]
  cases h1 : regB a b
  · rw [regV_false h1] at f1
    clear f2 f3
    go_enter Try.func39, Try.ntmps39
    go_wp2_with fail
    refine (f1 _).mono ?_
    rintro e w1 ⟨rfl, b1⟩
    go_wp2_with fail
    go_ret
    exact ⟨rfl, on (al (al (Below.refl _ _) _) _) b1⟩
  cases h2 : regB c d
  · rw [regV_true h1] at f1
    rw [regV_false h2] at f2
    clear f3
    go_enter Try.func39, Try.ntmps39
    go_wp2_with fail
    refine (f1 _).mono ?_
    rintro e w1 ⟨rfl, b1⟩
    obtain ⟨c1, z1⟩ := bcell b1
    go_wp2_with fail
    refine (f2 _).mono ?_
    rintro e w2 ⟨rfl, b2⟩
    go_wp2_with fail
    go_ret
    exact ⟨rfl, on (on (al (al (Below.refl _ _) _) _) b1) b2⟩
  · rw [regV_true h1] at f1
    rw [regV_true h2] at f2
    have f4 := fun w => f3 w h1 h2
    clear f3 h1 h2
    go_enter Try.func39, Try.ntmps39
    go_wp2_with fail
    refine (f1 _).mono ?_
    rintro e w1 ⟨rfl, b1⟩
    obtain ⟨c1, z1⟩ := bcell b1
    have s1 : w.heap.size < w1.heap.size ∧ w.heap.size + 1 < w1.heap.size := by have := b1.size; simp at this; omega
    obtain ⟨s1, s1'⟩ := s1
    go_wp2_with fail
    refine (f2 _).mono ?_
    rintro e w2 ⟨rfl, b2⟩
    obtain ⟨c2, z2⟩ := bcell b2
    go_wp2_with fail
    refine (f4 _).mono ?_
    rintro e w3 ⟨x, y, rfl, hx, hy, b3⟩
    have HX : Hid (crossB a b c d = decide (0 < y)) := hx
    have B3 : Hid (Below _ w w3) := on (on (on (al (al (Below.refl _ _) _) _) b1) b2) b3
    clear hx b1 b2 b3 c1 z1 c2 z2
    rcases hy with hy | ⟨rfl, rfl⟩
    · have hne : (y == 0) = false := by simp; omega
      go_wp2_with fail
      go_ret
      exact ⟨by rw [HX.out]; simp [hy], B3.out⟩
    · go_wp2_with fail
      go_ret
      exact ⟨by rw [HX.out]; simp, B3.out⟩
end Go.Proofs.Ytedjnokeknmbaaa
