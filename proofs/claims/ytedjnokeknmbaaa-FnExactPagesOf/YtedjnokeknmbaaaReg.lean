/- Regions: when one has a fault, and when two meet, by program and model. -/
import Derived.Test.YtedjnokeknmbaaaMem
namespace Go.Proofs.Ytedjnokeknmbaaa
open Go.RowKit
set_option linter.unusedVariables false

def regB (f s : Int) : Bool := decide (0 ≤ f ∧ f ≤ 192 ∧ 0 ≤ s ∧ s ≤ 192 ∧ f + s ≤ 192)
def regV (f s : Int) : Int := if regB f s then 0 else 3
def meetB (a b c d : Int) : Bool := regB a b && regB c d && decide (0 < b ∧ 0 < d ∧ a < c + d ∧ c < a + b)

theorem regB_true {f s : Int} (h : regB f s = true) : 0 ≤ f ∧ f ≤ 192 ∧ 0 ≤ s ∧ s ≤ 192 ∧ f + s ≤ 192 := of_decide_eq_true h
theorem regV_true {f s : Int} (h : regB f s = true) : regV f s = 0 := by simp [regV, h]
theorem regV_false {f s : Int} (h : regB f s = false) : regV f s = 3 := by simp [regV, h]

theorem to_region (f s : Int) (w : World) : Calls Try.prog 36 #[.agg #[.int .i64 f, .int .i64 s]] w fun e w' => e = .returned (.agg #[.int .i64 f, .int .i64 s]) ∧ Below w.heap.size w w' := by
  go_enter Try.func36, Try.ntmps36
  go_wp2_with fail
  exact bodyPost_ret (v := .agg #[.int .i64 f, .int .i64 s]) (by simp [results, Try.results36, go_sem]) rfl ⟨rfl, al (al (al (Below.refl _ _) _) _) _⟩

set_option maxHeartbeats 1000000 in
theorem spec_regFault (f s : Int) (w : World) : Calls Try.prog 35 #[.agg #[.int .i64 f, .int .i64 s]] w fun e w' => e = .returned (.int .i64 (regV f s)) ∧ Below w.heap.size w w' := by
  by_cases h1 : (decide (0 ≤ f) && decide (f ≤ 192)) = true
  case neg =>
    rw [Bool.not_eq_true] at h1
    have hr : regV f s = 3 := regV_false (by simp [regB]; simp at h1; omega)
    rw [hr]
    go_enter Try.func35, Try.ntmps35
    go_wp2_with (go_at_call 63; refine (spec_in _ _ _ _).mono ?_; rintro e x ⟨rfl, rfl⟩; rw [h1])
    go_ret
    exact ⟨rfl, al (Below.refl _ _) _⟩
  by_cases h2 : (decide (0 ≤ s) && decide (s ≤ 192)) = true
  case neg =>
    rw [Bool.not_eq_true] at h2
    have hr : regV f s = 3 := regV_false (by simp [regB]; simp at h2; omega)
    rw [hr]
    go_enter Try.func35, Try.ntmps35
    go_wp2_with (go_at_call 63; refine (spec_in _ _ _ _).mono ?_; rintro e x ⟨rfl, rfl⟩; first | rw [h1] | rw [h2])
    go_ret
    exact ⟨rfl, al (Below.refl _ _) _⟩
  have b1 : 0 ≤ f ∧ f ≤ 192 := by simpa using h1
  have b2 : 0 ≤ s ∧ s ≤ 192 := by simpa using h2
  obtain ⟨p1, p2⟩ := b1
  obtain ⟨p3, p4⟩ := b2
  by_cases h3 : 192 < f + s
  · have hr : regV f s = 3 := regV_false (by simp [regB]; omega)
    rw [hr]
    clear hr
    go_enter Try.func35, Try.ntmps35
    go_wp2_with (go_at_call 63; refine (spec_in _ _ _ _).mono ?_; rintro e x ⟨rfl, rfl⟩; first | rw [h1] | rw [h2])
    go_ret
    exact ⟨rfl, al (Below.refl _ _) _⟩
  · have hr : regV f s = 0 := regV_true (by simp [regB]; omega)
    rw [hr]
    clear hr
    go_enter Try.func35, Try.ntmps35
    go_wp2_with (go_at_call 63; refine (spec_in _ _ _ _).mono ?_; rintro e x ⟨rfl, rfl⟩; first | rw [h1] | rw [h2])
    go_ret
    exact ⟨rfl, al (Below.refl _ _) _⟩

set_option maxHeartbeats 1000000 in
theorem impl_regFault (f s : Int) (w : World) : Calls Try.prog 37 #[.agg #[.int .i64 f, .int .i64 s]] w fun e w' => e = .returned (.int .i64 (regV f s)) ∧ Below w.heap.size w w' := by
  by_cases h1 : f < 0
  case pos =>
    have hr : regV f s = 3 := regV_false (by simp [regB]; omega)
    rw [hr]
    clear hr
    go_enter Try.func37, Try.ntmps37
    go_wp2_with fail
    go_ret
    exact ⟨rfl, al (Below.refl _ _) _⟩
  by_cases h2 : 192 < f
  case pos =>
    have hr : regV f s = 3 := regV_false (by simp [regB]; omega)
    rw [hr]
    clear hr
    go_enter Try.func37, Try.ntmps37
    go_wp2_with fail
    go_ret
    exact ⟨rfl, al (Below.refl _ _) _⟩
  by_cases h3 : s < 0
  case pos =>
    have hr : regV f s = 3 := regV_false (by simp [regB]; omega)
    rw [hr]
    clear hr
    go_enter Try.func37, Try.ntmps37
    go_wp2_with fail
    go_ret
    exact ⟨rfl, al (Below.refl _ _) _⟩
  by_cases h4 : 192 < s
  case pos =>
    have hr : regV f s = 3 := regV_false (by simp [regB]; omega)
    rw [hr]
    clear hr
    go_enter Try.func37, Try.ntmps37
    go_wp2_with fail
    go_ret
    exact ⟨rfl, al (Below.refl _ _) _⟩
  have p1 : 0 ≤ f := by omega
  have p2 : f ≤ 192 := by omega
  have p3 : 0 ≤ s := by omega
  have p4 : s ≤ 192 := by omega
  by_cases h5 : 192 < f + s
  case pos =>
    have hr : regV f s = 3 := regV_false (by simp [regB]; omega)
    rw [hr]
    clear hr
    go_enter Try.func37, Try.ntmps37
    go_wp2_with fail
    go_ret
    exact ⟨rfl, al (Below.refl _ _) _⟩
  have hr : regV f s = 0 := regV_true (by simp [regB]; omega)
  rw [hr]
  clear hr
  go_enter Try.func37, Try.ntmps37
  go_wp2_with fail
  go_ret
  exact ⟨rfl, al (Below.refl _ _) _⟩
end Go.Proofs.Ytedjnokeknmbaaa
