/- Texts of this seat, joined. -/
import Derived.Laws.EntriesVeiled
import Derived.Test.YtcbcbgomafeccaaGreatDoorQ01
import Derived.Test.YtcbcbgomafeccaaGreatDoorQ03
import Derived.Test.YtcbcbgomafeccaaGreatDoorQ04
namespace Go.Proofs.YtcbcbgomafeccaaGreatDoor
open Go.RowKit

/-- The code of an instruction's fault. -/
def insC (op d a imm : Int) : Int :=
  if 1 ≤ op ∧ op ≤ 26 ∧ 0 ≤ d ∧ d ≤ 15 ∧ 0 ≤ a ∧ a ≤ 15 ∧ 0 ≤ imm ∧ imm ≤ 65535 then
    if (op ≠ 13 ∧ op ≠ 19 ∧ op ≠ 21 ∨ a = 0) ∧ (op ≠ 22 ∨ d = 0) ∧ (op < 23 ∨ d = 0 ∧ a = 0 ∧ imm = 0) ∧ (11 < op ∨ imm ≤ 15) ∧ (op ≠ 21 ∧ op ≠ 22 ∨ imm ≤ 10) then 0 else 1
  else 3
theorem insC_3 {op d a imm : Int} (h : ¬ (1 ≤ op ∧ op ≤ 26 ∧ 0 ≤ d ∧ d ≤ 15 ∧ 0 ≤ a ∧ a ≤ 15 ∧ 0 ≤ imm ∧ imm ≤ 65535)) : insC op d a imm = 3 := if_neg h
theorem insC_zero {op d a imm : Int} (h : 1 ≤ op ∧ op ≤ 26 ∧ 0 ≤ d ∧ d ≤ 15 ∧ 0 ≤ a ∧ a ≤ 15 ∧ 0 ≤ imm ∧ imm ≤ 65535) :
    insC op d a imm = 0 ↔ (op ≠ 13 ∧ op ≠ 19 ∧ op ≠ 21 ∨ a = 0) ∧ (op ≠ 22 ∨ d = 0) ∧ (op < 23 ∨ d = 0 ∧ a = 0 ∧ imm = 0) ∧ (11 < op ∨ imm ≤ 15) ∧ (op ≠ 21 ∧ op ≠ 22 ∨ imm ≤ 10) := by
  rw [insC, if_pos h]
  split
  · rename_i g; exact ⟨fun _ => g, fun _ => rfl⟩
  · rename_i g; exact ⟨fun e => by omega, fun e => absurd e g⟩

/-- The ops in classes, as the tests ask them. -/
theorem op_class {op : Int} (h : 1 ≤ op ∧ op ≤ 26) : op = 13 ∨ op = 19 ∨ op = 21 ∨ op = 22 ∨ op = 23 ∨ op = 24 ∨ op = 25 ∨ op = 26 ∨
    ((op == 13) = false ∧ (op == 19) = false ∧ (op == 21) = false ∧ (op == 22) = false ∧ (op == 23) = false ∧ (op == 24) = false ∧ (op == 25) = false ∧ (op == 26) = false ∧ Hid (op ≠ 13 ∧ op ≠ 19 ∧ op ≠ 21 ∧ op < 22 ∧ 1 ≤ op)) := by
  simp only [beq_eq_false_iff_ne, Hid]
  omega

set_option maxHeartbeats 2000000 in
theorem impl_hasForm (op d a imm : Int) (w : World) (h : 1 ≤ op ∧ op ≤ 26 ∧ 0 ≤ d ∧ d ≤ 15 ∧ 0 ≤ a ∧ a ≤ 15 ∧ 0 ≤ imm ∧ imm ≤ 65535) :
    Calls Tryz.prog 149 #[.agg #[.int .i64 op, .int .i64 d, .int .i64 a, .int .i64 imm]] w fun e w' => e = .returned (.bool (insC op d a imm == 0)) ∧ Below w.heap.size w w' := by
  have hi : Hid (_ ↔ _) := insC_zero h
  have hh : Hid _ := h
  obtain hcl := op_class (op := op) ⟨h.1, h.2.1⟩
  clear h
  generalize hc : insC op d a imm = c at hi
  clear hc
  rcases hcl with rfl | rfl | rfl | rfl | rfl | rfl | rfl | rfl | ⟨g1, g2, g3, g4, g5, g6, g7, g8, g9⟩
  all_goals
    go_enter Tryz.func149, Tryz.ntmps149
    go_wp2
  all_goals go_ret
  all_goals refine ⟨congrArg (fun b => Ending.returned (Value.bool b)) ?_, ((Below.refl _ _).alloc (Nat.le_refl _) _)⟩
  all_goals have hi := hi.out
  all_goals have hh := hh.out
  all_goals rw [Bool.eq_iff_iff]
  all_goals simp only [beq_iff_eq, Bool.false_eq_true, decide_eq_true_eq, hi]
  all_goals first | omega | (simp; done) | (simp; omega) | (have g9 := g9.out; omega) | (have g9 := g9.out; simp; omega) | skip

set_option maxHeartbeats 2000000 in
theorem impl_insFault (op d a imm : Int) (w : World) :
    Calls Tryz.prog 140 #[.agg #[.int .i64 op, .int .i64 d, .int .i64 a, .int .i64 imm]] w fun e w' => e = .returned (.int .i64 (insC op d a imm)) ∧ Below w.heap.size w w' := by
  by_cases h : 1 ≤ op ∧ op ≤ 26 ∧ 0 ≤ d ∧ d ≤ 15 ∧ 0 ≤ a ∧ a ≤ 15 ∧ 0 ≤ imm ∧ imm ≤ 65535
  · have h3 : insC op d a imm = 0 ∨ insC op d a imm = 1 := by rw [insC, if_pos h]; split <;> simp
    have hf := fun w => impl_hasForm op d a imm w h
    obtain ⟨h1, h2, h3, h4, h5, h6, h7, h8⟩ := h
    generalize insC op d a imm = c at *
    rcases h3 with rfl | rfl
    all_goals
      go_enter Tryz.func140, Tryz.ntmps140
      go_wp2_with (first | (go_at_call 149; refine (hf _).mono ?_; rintro e w1 ⟨rfl, hb⟩) | go_in)
    all_goals go_ret
    all_goals exact ⟨rfl, ((Below.refl _ _).alloc (Nat.le_refl _) _).trans (hb.mono (by simp))⟩
  · rw [insC_3 h]
    go_enter Tryz.func140, Tryz.ntmps140
    go_wp2_with (first | (go_at_call 149; exfalso; omega) | go_in)
    all_goals go_ret
    all_goals exact ⟨rfl, ((Below.refl _ _).alloc (Nat.le_refl _) _)⟩

end Go.Proofs.YtcbcbgomafeccaaGreatDoor
namespace Go.Proofs.YtcbcbgomafeccaaGreatDoor
open Go.RowKit

theorem spec_add (a b : Int) (w : World) : Calls Tryz.prog 70 #[.int .i64 a, .int .i64 b] w fun e w' => e = .returned (.int .i64 (addV a b)) ∧ w' = w := by
  go_enter Tryz.func70, Tryz.ntmps70
  go_wp2
  go_ret
  exact ⟨ret_i64 (by unfold addV; simp), rfl⟩
theorem spec_mul (a b : Int) (w : World) : Calls Tryz.prog 107 #[.int .i64 a, .int .i64 b] w fun e w' => e = .returned (.int .i64 (mulV a b)) ∧ w' = w := by
  go_enter Tryz.func107, Tryz.ntmps107
  go_wp2
  go_ret
  exact ⟨ret_i64 (by unfold mulV; rfl), rfl⟩
theorem spec_div (a b : Int) (w : World) : Calls Tryz.prog 108 #[.int .i64 a, .int .i64 b] w fun e w' => e = .returned (.int .i64 (divV a b)) ∧ w' = w := by
  by_cases h : b % 4294967296 = 0
  · have h2 : (b % 4294967296 == 0) = true := by rw [beq_iff_eq]; exact h
    have e : divV a b = 4294967295 := by unfold divV; rw [if_pos h]
    rw [e]
    clear h e
    go_enter Tryz.func108, Tryz.ntmps108
    go_wp2
    go_ret
    exact ⟨rfl, rfl⟩
  · have h2 : (b % 4294967296 == 0) = false := by rw [beq_eq_false_iff_ne]; exact h
    have h3 : ¬ wrap64 (wrap32 (b % 4294967296)) = 0 := fun e => h ((sgn_zero b).1 e)
    have e : divV a b = wrap64 ((sgn a).tdiv (sgn b)) % 4294967296 := by unfold divV; rw [if_neg h]
    rw [e]
    clear h e
    go_enter Tryz.func108, Tryz.ntmps108
    go_wp2
    go_ret
    exact ⟨ret_i64 (by unfold sgn; rfl), rfl⟩
theorem spec_rem (a b : Int) (w : World) : Calls Tryz.prog 109 #[.int .i64 a, .int .i64 b] w fun e w' => e = .returned (.int .i64 (remV a b)) ∧ w' = w := by
  by_cases h : b % 4294967296 = 0
  · have h2 : (b % 4294967296 == 0) = true := by rw [beq_iff_eq]; exact h
    have e : remV a b = a % 4294967296 := by unfold remV; rw [if_pos h]
    rw [e]
    clear h e
    go_enter Tryz.func109, Tryz.ntmps109
    go_wp2
    go_ret
    exact ⟨rfl, rfl⟩
  · have h2 : (b % 4294967296 == 0) = false := by rw [beq_eq_false_iff_ne]; exact h
    have h3 : ¬ wrap64 (wrap32 (b % 4294967296)) = 0 := fun e => h ((sgn_zero b).1 e)
    have e : remV a b = (sgn a).tmod (sgn b) % 4294967296 := by unfold remV; rw [if_neg h]
    rw [e]
    clear h e
    go_enter Tryz.func109, Tryz.ntmps109
    go_wp2
    go_ret
    exact ⟨ret_i64 (by unfold sgn; rfl), rfl⟩
theorem spec_shr (a k : Int) (w : World) : Calls Tryz.prog 111 #[.int .i64 a, .int .i64 k, .bool false] w fun e w' => e = .returned (.int .i64 (shrV a k)) ∧ w' = w := by
  go_enter Tryz.func111, Tryz.ntmps111
  go_wp2
  go_ret
  exact ⟨ret_i64 (by unfold shrV; simp), rfl⟩

/-- What an op does. -/
def aluV (op a b : Int) : Int :=
  if op = 1 then addV a b else if op = 2 then (a - b) % 4294967296 else if op = 3 then mulV a b else if op = 4 then divV a b else if op = 5 then remV a b else if op = 6 then bitV 1 a b else if op = 7 then bitV 2 a b else if op = 8 then bitV 3 a b else if op = 9 then shlV a b else if op = 10 then shrV a b else if sgn a < sgn b then 1 else 0

theorem sub_eq (a b : Int) : (a % 4294967296 - b % 4294967296) % 4294967296 = (a - b) % 4294967296 := by omega
theorem impl_sub (a b : Int) (w : World) : Calls Tryz.prog 117 #[.int .i64 a, .int .i64 b] w fun e w' => e = .returned (.int .i64 ((a - b) % 4294967296)) ∧ w' = w := by
  go_enter Tryz.func117, Tryz.ntmps117
  go_wp2
  go_ret
  exact ⟨ret_i64 (by first | rfl | simp | exact sub_eq a b), rfl⟩
theorem impl_less (a b : Int) (w : World) : Calls Tryz.prog 128 #[.int .i64 a, .int .i64 b] w fun e w' => e = .returned (.int .i64 (if sgn a < sgn b then 1 else 0)) ∧ w' = w := by
  by_cases h : sgn a < sgn b
  all_goals
    first | rw [if_pos h] | rw [if_neg h]
    go_enter Tryz.func128, Tryz.ntmps128
    go_wp2_with (go_at_call 93; refine (impl_signed _ _).mono ?_; rintro e w1 ⟨rfl, rfl⟩)
    go_ret
    exact ⟨rfl, rfl⟩
theorem impl_clos1 (a b : Int) (w : World) : Calls Tryz.prog 121 #[.int .i64 a, .int .i64 b] w fun e w' => e = .returned (.int .i64 (bitV 1 a b)) ∧ Below w.heap.size w w' := by
  have hf := field_value
  go_enter Tryz.func121, Tryz.ntmps121
  go_wp2_with (go_at_call 122; refine (impl_bit _ _ _ _).mono ?_; rintro e w1 ⟨rfl, hb⟩)
  go_ret
  exact ⟨rfl, hb⟩
theorem impl_clos2 (a b : Int) (w : World) : Calls Tryz.prog 123 #[.int .i64 a, .int .i64 b] w fun e w' => e = .returned (.int .i64 (bitV 2 a b)) ∧ Below w.heap.size w w' := by
  have hf := field_value
  go_enter Tryz.func123, Tryz.ntmps123
  go_wp2_with (go_at_call 122; refine (impl_bit _ _ _ _).mono ?_; rintro e w1 ⟨rfl, hb⟩)
  go_ret
  exact ⟨rfl, hb⟩
theorem impl_clos3 (a b : Int) (w : World) : Calls Tryz.prog 124 #[.int .i64 a, .int .i64 b] w fun e w' => e = .returned (.int .i64 (bitV 3 a b)) ∧ Below w.heap.size w w' := by
  have hf := field_value
  go_enter Tryz.func124, Tryz.ntmps124
  go_wp2_with (go_at_call 122; refine (impl_bit _ _ _ _).mono ?_; rintro e w1 ⟨rfl, hb⟩)
  go_ret
  exact ⟨rfl, hb⟩
theorem impl_clos4 (a b : Int) (w : World) : Calls Tryz.prog 125 #[.int .i64 a, .int .i64 b] w fun e w' => e = .returned (.int .i64 (shlV a b)) ∧ w' = w := by
  go_enter Tryz.func125, Tryz.ntmps125
  go_wp2_with (go_at_call 126; refine (impl_shl _ _ _).mono ?_; rintro e w1 ⟨rfl, rfl⟩)
  go_ret
  exact ⟨rfl, rfl⟩
theorem impl_clos5 (a b : Int) (w : World) : Calls Tryz.prog 127 #[.int .i64 a, .int .i64 b] w fun e w' => e = .returned (.int .i64 (shrV a b)) ∧ w' = w := by
  go_enter Tryz.func127, Tryz.ntmps127
  go_wp2_with (go_at_call 126; refine (impl_shr _ _ _).mono ?_; rintro e w1 ⟨rfl, rfl⟩)
  go_ret
  exact ⟨rfl, rfl⟩
theorem aluV1 (a b : Int) : aluV 1 a b = (addV a b) := by simp [aluV]
theorem aluV2 (a b : Int) : aluV 2 a b = ((a - b) % 4294967296) := by simp [aluV]
theorem aluV3 (a b : Int) : aluV 3 a b = (mulV a b) := by simp [aluV]
theorem aluV4 (a b : Int) : aluV 4 a b = (divV a b) := by simp [aluV]
theorem aluV5 (a b : Int) : aluV 5 a b = (remV a b) := by simp [aluV]
theorem aluV6 (a b : Int) : aluV 6 a b = (bitV 1 a b) := by simp [aluV]
theorem aluV7 (a b : Int) : aluV 7 a b = (bitV 2 a b) := by simp [aluV]
theorem aluV8 (a b : Int) : aluV 8 a b = (bitV 3 a b) := by simp [aluV]
theorem aluV9 (a b : Int) : aluV 9 a b = (shlV a b) := by simp [aluV]
theorem aluV10 (a b : Int) : aluV 10 a b = (shrV a b) := by simp [aluV]
theorem aluV11 (a b : Int) : aluV 11 a b = (if sgn a < sgn b then 1 else 0) := by simp [aluV]
end Go.Proofs.YtcbcbgomafeccaaGreatDoor
