/- AluOf of the model, op by op. -/
import Derived.Test.YtppchckdkdpmaaaAlui
import Derived.Test.YtppchckdkdpmaaaIsb
namespace Go.Proofs.Ytppchckdkdpmaaa
open Go.RowKit

theorem spec_l2Alu1 (a b : Int) (w : World) : Calls Try.prog 35 #[.int .i64 1, .int .i64 a, .int .i64 b] w fun e w' => e = .returned (.int .i64 (addV a b)) ∧ Below w.heap.size w w' := by
  go_enter Try.func35, Try.ntmps35
  go_wp2_with (go_at_call 50; refine (spec_add _ _ _).mono ?_; rintro e w1 ⟨rfl, rfl⟩)
  go_ret
  exact ⟨rfl, Below.refl _ _⟩
theorem spec_l2Alu2 (a b : Int) (w : World) : Calls Try.prog 35 #[.int .i64 2, .int .i64 a, .int .i64 b] w fun e w' => e = .returned (.int .i64 ((a - b) % 4294967296)) ∧ Below w.heap.size w w' := by
  go_enter Try.func35, Try.ntmps35
  go_wp2_with fail
  go_ret
  exact ⟨ret_i64 (by first | rfl | simp | exact sub_eq a b), Below.refl _ _⟩
theorem spec_l2Alu3 (a b : Int) (w : World) : Calls Try.prog 35 #[.int .i64 3, .int .i64 a, .int .i64 b] w fun e w' => e = .returned (.int .i64 (mulV a b)) ∧ Below w.heap.size w w' := by
  go_enter Try.func35, Try.ntmps35
  go_wp2_with (go_at_call 51; refine (spec_mul _ _ _).mono ?_; rintro e w1 ⟨rfl, rfl⟩)
  go_ret
  exact ⟨rfl, Below.refl _ _⟩
theorem spec_l2Alu4 (a b : Int) (w : World) : Calls Try.prog 35 #[.int .i64 4, .int .i64 a, .int .i64 b] w fun e w' => e = .returned (.int .i64 (divV a b)) ∧ Below w.heap.size w w' := by
  go_enter Try.func35, Try.ntmps35
  go_wp2_with (go_at_call 52; refine (spec_div _ _ _).mono ?_; rintro e w1 ⟨rfl, rfl⟩)
  go_ret
  exact ⟨rfl, Below.refl _ _⟩
theorem spec_l2Alu5 (a b : Int) (w : World) : Calls Try.prog 35 #[.int .i64 5, .int .i64 a, .int .i64 b] w fun e w' => e = .returned (.int .i64 (remV a b)) ∧ Below w.heap.size w w' := by
  go_enter Try.func35, Try.ntmps35
  go_wp2_with (go_at_call 53; refine (spec_rem _ _ _).mono ?_; rintro e w1 ⟨rfl, rfl⟩)
  go_ret
  exact ⟨rfl, Below.refl _ _⟩
theorem spec_l2Alu6 (a b : Int) (w : World) : Calls Try.prog 35 #[.int .i64 6, .int .i64 a, .int .i64 b] w fun e w' => e = .returned (.int .i64 (bitV 1 a b)) ∧ Below w.heap.size w w' := by
  have hf := field_value
  go_enter Try.func35, Try.ntmps35
  go_wp2_with (go_at_call 54; refine (spec_bit _ _ _ _).mono ?_; rintro e w1 ⟨rfl, hb⟩)
  go_ret
  exact ⟨rfl, hb⟩
theorem spec_l2Alu7 (a b : Int) (w : World) : Calls Try.prog 35 #[.int .i64 7, .int .i64 a, .int .i64 b] w fun e w' => e = .returned (.int .i64 (bitV 2 a b)) ∧ Below w.heap.size w w' := by
  have hf := field_value
  go_enter Try.func35, Try.ntmps35
  go_wp2_with (go_at_call 54; refine (spec_bit _ _ _ _).mono ?_; rintro e w1 ⟨rfl, hb⟩)
  go_ret
  exact ⟨rfl, hb⟩
theorem spec_l2Alu8 (a b : Int) (w : World) : Calls Try.prog 35 #[.int .i64 8, .int .i64 a, .int .i64 b] w fun e w' => e = .returned (.int .i64 (bitV 3 a b)) ∧ Below w.heap.size w w' := by
  have hf := field_value
  go_enter Try.func35, Try.ntmps35
  go_wp2_with (go_at_call 54; refine (spec_bit _ _ _ _).mono ?_; rintro e w1 ⟨rfl, hb⟩)
  go_ret
  exact ⟨rfl, hb⟩
theorem spec_l2Alu9 (a b : Int) (w : World) : Calls Try.prog 35 #[.int .i64 9, .int .i64 a, .int .i64 b] w fun e w' => e = .returned (.int .i64 (shlV a b)) ∧ Below w.heap.size w w' := by
  go_enter Try.func35, Try.ntmps35
  go_wp2_with (go_at_call 55; refine (spec_shl _ _ _).mono ?_; rintro e w1 ⟨rfl, rfl⟩)
  go_ret
  exact ⟨rfl, Below.refl _ _⟩
theorem spec_l2Alu10 (a b : Int) (w : World) : Calls Try.prog 35 #[.int .i64 10, .int .i64 a, .int .i64 b] w fun e w' => e = .returned (.int .i64 (shrV a b)) ∧ Below w.heap.size w w' := by
  go_enter Try.func35, Try.ntmps35
  go_wp2_with (go_at_call 55; refine (spec_shr _ _ _).mono ?_; rintro e w1 ⟨rfl, rfl⟩)
  go_ret
  exact ⟨rfl, Below.refl _ _⟩
theorem spec_l2Alu11 (a b : Int) (w : World) : Calls Try.prog 35 #[.int .i64 11, .int .i64 a, .int .i64 b] w fun e w' => e = .returned (.int .i64 (if sgn a < sgn b then 1 else 0)) ∧ Below w.heap.size w w' := by
  by_cases h : sgn a < sgn b
  all_goals
    first | rw [if_pos h] | rw [if_neg h]
    go_enter Try.func35, Try.ntmps35
    go_wp2_with (go_at_call 56; refine (spec_signed _ _).mono ?_; rintro e w1 ⟨rfl, rfl⟩)
    go_ret
    exact ⟨rfl, Below.refl _ _⟩

theorem spec_l2Alu (op a b : Int) (w : World) (h : 1 ≤ op ∧ op ≤ 11) : Calls Try.prog 35 #[.int .i64 op, .int .i64 a, .int .i64 b] w fun e w' => e = .returned (.int .i64 (aluV op a b)) ∧ Below w.heap.size w w' := by
  rcases (by omega : op = 1 ∨ op = 2 ∨ op = 3 ∨ op = 4 ∨ op = 5 ∨ op = 6 ∨ op = 7 ∨ op = 8 ∨ op = 9 ∨ op = 10 ∨ op = 11) with rfl | rfl | rfl | rfl | rfl | rfl | rfl | rfl | rfl | rfl | rfl
  · rw [aluV1]; exact spec_l2Alu1 a b w
  · rw [aluV2]; exact spec_l2Alu2 a b w
  · rw [aluV3]; exact spec_l2Alu3 a b w
  · rw [aluV4]; exact spec_l2Alu4 a b w
  · rw [aluV5]; exact spec_l2Alu5 a b w
  · rw [aluV6]; exact spec_l2Alu6 a b w
  · rw [aluV7]; exact spec_l2Alu7 a b w
  · rw [aluV8]; exact spec_l2Alu8 a b w
  · rw [aluV9]; exact spec_l2Alu9 a b w
  · rw [aluV10]; exact spec_l2Alu10 a b w
  · rw [aluV11]; exact spec_l2Alu11 a b w

theorem spec_alu (op a b : Int) (w : World) : Calls Try.prog 19 #[.int .i64 op, .int .i64 a, .int .i64 b] w fun e w' => e = .returned (.agg #[.int .i64 (aluC op), .int .i64 (if 1 ≤ op ∧ op ≤ 11 then aluV op a b else 0)]) ∧ Below w.heap.size w w' := by
  by_cases h : 1 ≤ op ∧ op ≤ 11
  · rw [aluC, if_pos h, if_pos h]
    have hi : inB op 1 11 = true := inB_true h
    have hl := fun w => spec_l2Alu op a b w h
    clear h
    generalize aluV op a b = v at *
    go_enter Try.func19, Try.ntmps19
    go_wp2_with (first | (go_at_call 28; refine (spec_in _ _ _ _).mono ?_; rintro e w1 ⟨rfl, rfl⟩) | (go_at_call 35; refine (hl _).mono ?_; rintro e w1 ⟨rfl, hb⟩; obtain ⟨hc, hz⟩ := bcell hb))
    have k0 := cell_keep hb (cell_new (i := 0) rfl)
    have k1 := cell_keep hb (cell_new (i := 1) rfl)
    clear hc hz
    exact bodyPost_ret (v := .agg #[.int .i64 0, .int .i64 v]) (by simp [results, Try.results19, go_sem, k0, k1]) rfl ⟨rfl, ((on (al (Below.refl _ _) _) hb).setCell (by simp) _).setCell (by simp) _⟩
  · rw [aluC, if_neg h, if_neg h]
    have hi : inB op 1 11 = false := inB_false h
    clear h
    go_enter Try.func19, Try.ntmps19
    go_wp2_with (go_at_call 28; refine (spec_in _ _ _ _).mono ?_; rintro e w1 ⟨rfl, rfl⟩)
    exact bodyPost_ret (v := .agg #[.int .i64 3, .int .i64 0]) (by simp [results, Try.results19, go_sem]) rfl ⟨rfl, al (Below.refl _ _) _⟩
end Go.Proofs.Ytppchckdkdpmaaa
