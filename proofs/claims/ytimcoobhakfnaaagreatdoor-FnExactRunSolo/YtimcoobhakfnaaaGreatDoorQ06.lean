/- Texts of this seat, joined. -/
import Derived.Laws.EntriesVeiled
import Derived.Test.YtimcoobhakfnaaaGreatDoorQ03
import Derived.Test.YtimcoobhakfnaaaGreatDoorQ04
namespace Go.Proofs.YtimcoobhakfnaaaGreatDoor
open Go.RowKit

theorem spec_add (a b : Int) (w : World) : Calls Tryz.prog 65 #[.int .i64 a, .int .i64 b] w fun e w' => e = .returned (.int .i64 (addV a b)) ∧ w' = w := by
  go_enter Tryz.func65, Tryz.ntmps65
  go_wp2
  go_ret
  exact ⟨ret_i64 (by unfold addV; simp), rfl⟩
theorem spec_mul (a b : Int) (w : World) : Calls Tryz.prog 96 #[.int .i64 a, .int .i64 b] w fun e w' => e = .returned (.int .i64 (mulV a b)) ∧ w' = w := by
  go_enter Tryz.func96, Tryz.ntmps96
  go_wp2
  go_ret
  exact ⟨ret_i64 (by unfold mulV; rfl), rfl⟩
theorem spec_div (a b : Int) (w : World) : Calls Tryz.prog 97 #[.int .i64 a, .int .i64 b] w fun e w' => e = .returned (.int .i64 (divV a b)) ∧ w' = w := by
  by_cases h : b % 4294967296 = 0
  · have h2 : (b % 4294967296 == 0) = true := by rw [beq_iff_eq]; exact h
    have e : divV a b = 4294967295 := by unfold divV; rw [if_pos h]
    rw [e]
    clear h e
    go_enter Tryz.func97, Tryz.ntmps97
    go_wp2
    go_ret
    exact ⟨rfl, rfl⟩
  · have h2 : (b % 4294967296 == 0) = false := by rw [beq_eq_false_iff_ne]; exact h
    have h3 : ¬ wrap64 (wrap32 (b % 4294967296)) = 0 := fun e => h ((sgn_zero b).1 e)
    have e : divV a b = wrap64 ((sgn a).tdiv (sgn b)) % 4294967296 := by unfold divV; rw [if_neg h]
    rw [e]
    clear h e
    go_enter Tryz.func97, Tryz.ntmps97
    go_wp2
    go_ret
    exact ⟨ret_i64 (by unfold sgn; rfl), rfl⟩
theorem spec_rem (a b : Int) (w : World) : Calls Tryz.prog 98 #[.int .i64 a, .int .i64 b] w fun e w' => e = .returned (.int .i64 (remV a b)) ∧ w' = w := by
  by_cases h : b % 4294967296 = 0
  · have h2 : (b % 4294967296 == 0) = true := by rw [beq_iff_eq]; exact h
    have e : remV a b = a % 4294967296 := by unfold remV; rw [if_pos h]
    rw [e]
    clear h e
    go_enter Tryz.func98, Tryz.ntmps98
    go_wp2
    go_ret
    exact ⟨rfl, rfl⟩
  · have h2 : (b % 4294967296 == 0) = false := by rw [beq_eq_false_iff_ne]; exact h
    have h3 : ¬ wrap64 (wrap32 (b % 4294967296)) = 0 := fun e => h ((sgn_zero b).1 e)
    have e : remV a b = (sgn a).tmod (sgn b) % 4294967296 := by unfold remV; rw [if_neg h]
    rw [e]
    clear h e
    go_enter Tryz.func98, Tryz.ntmps98
    go_wp2
    go_ret
    exact ⟨ret_i64 (by unfold sgn; rfl), rfl⟩
theorem spec_shr (a k : Int) (w : World) : Calls Tryz.prog 100 #[.int .i64 a, .int .i64 k, .bool false] w fun e w' => e = .returned (.int .i64 (shrV a k)) ∧ w' = w := by
  go_enter Tryz.func100, Tryz.ntmps100
  go_wp2
  go_ret
  exact ⟨ret_i64 (by unfold shrV; simp), rfl⟩

/-- What an op does. -/
def aluV (op a b : Int) : Int :=
  if op = 1 then addV a b else if op = 2 then (a - b) % 4294967296 else if op = 3 then mulV a b else if op = 4 then divV a b else if op = 5 then remV a b else if op = 6 then bitV 1 a b else if op = 7 then bitV 2 a b else if op = 8 then bitV 3 a b else if op = 9 then shlV a b else if op = 10 then shrV a b else if sgn a < sgn b then 1 else 0

theorem sub_eq (a b : Int) : (a % 4294967296 - b % 4294967296) % 4294967296 = (a - b) % 4294967296 := by omega
theorem impl_sub (a b : Int) (w : World) : Calls Tryz.prog 126 #[.int .i64 a, .int .i64 b] w fun e w' => e = .returned (.int .i64 ((a - b) % 4294967296)) ∧ w' = w := by
  go_enter Tryz.func126, Tryz.ntmps126
  go_wp2
  go_ret
  exact ⟨ret_i64 (by first | rfl | simp | exact sub_eq a b), rfl⟩
theorem impl_less (a b : Int) (w : World) : Calls Tryz.prog 137 #[.int .i64 a, .int .i64 b] w fun e w' => e = .returned (.int .i64 (if sgn a < sgn b then 1 else 0)) ∧ w' = w := by
  by_cases h : sgn a < sgn b
  all_goals
    first | rw [if_pos h] | rw [if_neg h]
    go_enter Tryz.func137, Tryz.ntmps137
    go_wp2_with (go_at_call 113; refine (impl_signed _ _).mono ?_; rintro e w1 ⟨rfl, rfl⟩)
    go_ret
    exact ⟨rfl, rfl⟩
theorem impl_clos1 (a b : Int) (w : World) : Calls Tryz.prog 130 #[.int .i64 a, .int .i64 b] w fun e w' => e = .returned (.int .i64 (bitV 1 a b)) ∧ Below w.heap.size w w' := by
  have hf := field_value
  go_enter Tryz.func130, Tryz.ntmps130
  go_wp2_with (go_at_call 131; refine (impl_bit _ _ _ _).mono ?_; rintro e w1 ⟨rfl, hb⟩)
  go_ret
  exact ⟨rfl, hb⟩
theorem impl_clos2 (a b : Int) (w : World) : Calls Tryz.prog 132 #[.int .i64 a, .int .i64 b] w fun e w' => e = .returned (.int .i64 (bitV 2 a b)) ∧ Below w.heap.size w w' := by
  have hf := field_value
  go_enter Tryz.func132, Tryz.ntmps132
  go_wp2_with (go_at_call 131; refine (impl_bit _ _ _ _).mono ?_; rintro e w1 ⟨rfl, hb⟩)
  go_ret
  exact ⟨rfl, hb⟩
theorem impl_clos3 (a b : Int) (w : World) : Calls Tryz.prog 133 #[.int .i64 a, .int .i64 b] w fun e w' => e = .returned (.int .i64 (bitV 3 a b)) ∧ Below w.heap.size w w' := by
  have hf := field_value
  go_enter Tryz.func133, Tryz.ntmps133
  go_wp2_with (go_at_call 131; refine (impl_bit _ _ _ _).mono ?_; rintro e w1 ⟨rfl, hb⟩)
  go_ret
  exact ⟨rfl, hb⟩
theorem impl_clos4 (a b : Int) (w : World) : Calls Tryz.prog 134 #[.int .i64 a, .int .i64 b] w fun e w' => e = .returned (.int .i64 (shlV a b)) ∧ w' = w := by
  go_enter Tryz.func134, Tryz.ntmps134
  go_wp2_with (go_at_call 135; refine (impl_shl _ _ _).mono ?_; rintro e w1 ⟨rfl, rfl⟩)
  go_ret
  exact ⟨rfl, rfl⟩
theorem impl_clos5 (a b : Int) (w : World) : Calls Tryz.prog 136 #[.int .i64 a, .int .i64 b] w fun e w' => e = .returned (.int .i64 (shrV a b)) ∧ w' = w := by
  go_enter Tryz.func136, Tryz.ntmps136
  go_wp2_with (go_at_call 135; refine (impl_shr _ _ _).mono ?_; rintro e w1 ⟨rfl, rfl⟩)
  go_ret
  exact ⟨rfl, rfl⟩
theorem aluV1 (a b : Int) : aluV 1 a b = (addV a b) := by simp [aluV]
theorem aluV2 (a b : Int) : aluV 2 a b = ((a - b) % 4294967296) := by simp [aluV]
theorem aluV3 (a b : Int) : aluV 3 a b = (mulV a b) := by simp [aluV]
theorem aluV4 (a b : Int) : aluV 4 a b = (divV a b) := by simp [aluV]
theorem aluV5 (a b : Int) : aluV 5 a b = (remV a b) := by simp [aluV]
theorem aluV6 (a b : Int) : aluV 6 a b = (bitV 1 a b) := by simp [aluV]
theorem aluV7 (a b : Int) : aluV 7 a b = (bitV 2 a b) := by simp [aluV]
theorem aluV8 (a b : Int) : aluV 8 a b = (bitV 3 a b) := by simp [aluV]
theorem aluV9 (a b : Int) : aluV 9 a b = (shlV a b) := by simp [aluV]
theorem aluV10 (a b : Int) : aluV 10 a b = (shrV a b) := by simp [aluV]
theorem aluV11 (a b : Int) : aluV 11 a b = (if sgn a < sgn b then 1 else 0) := by simp [aluV]
end Go.Proofs.YtimcoobhakfnaaaGreatDoor
