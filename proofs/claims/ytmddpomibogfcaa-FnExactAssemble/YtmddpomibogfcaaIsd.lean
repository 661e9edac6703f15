/- Chapter 2's words: an instruction as its word. -/
import Derived.Test.YtmddpomibogfcaaIsc
namespace Go.Proofs.Ytmddpomibogfcaa
open Go.RowKit

/-- The word of an instruction, 0 where it has a fault. -/
def encV (op d a imm : Int) : Int := if insC op d a imm = 0 then op * 16777216 + d * 1048576 + a * 65536 + imm else 0

theorem insC_bounds {op d a imm : Int} (h : insC op d a imm = 0) : 1 ≤ op ∧ op ≤ 26 ∧ 0 ≤ d ∧ d ≤ 15 ∧ 0 ≤ a ∧ a ≤ 15 ∧ 0 ≤ imm ∧ imm ≤ 65535 := by
  by_cases g : 1 ≤ op ∧ op ≤ 26 ∧ 0 ≤ d ∧ d ≤ 15 ∧ 0 ≤ a ∧ a ≤ 15 ∧ 0 ≤ imm ∧ imm ≤ 65535
  · exact g
  · rw [insC_3 g] at h; omega

theorem w64 (n : Int) (h : -9223372036854775808 ≤ n ∧ n ≤ 9223372036854775807) : wrap64 n = n := by unfold wrap64; omega
theorem enc_wrap {op d a imm : Int} (h : 1 ≤ op ∧ op ≤ 26 ∧ 0 ≤ d ∧ d ≤ 15 ∧ 0 ≤ a ∧ a ≤ 15 ∧ 0 ≤ imm ∧ imm ≤ 65535) :
    wrap64 (wrap64 (wrap64 (wrap64 (op * 16777216) + wrap64 (d * 1048576)) + wrap64 (a * 65536)) + imm) = op * 16777216 + d * 1048576 + a * 65536 + imm := by
  rw [w64 (op * 16777216) (by omega), w64 (d * 1048576) (by omega), w64 (a * 65536) (by omega), w64 (op * 16777216 + d * 1048576) (by omega), w64 (op * 16777216 + d * 1048576 + a * 65536) (by omega), w64 _ (by omega)]

set_option maxHeartbeats 2000000 in
theorem impl_encode (op d a imm : Int) (w : World) :
    Calls Try.prog 34 #[.agg #[.int .i64 op, .int .i64 d, .int .i64 a, .int .i64 imm]] w fun e w' => e = .returned (.agg #[.int .i64 (insC op d a imm), .int .i64 (encV op d a imm)]) ∧ Below w.heap.size w w' := by
  have hf := fun w => impl_insFault op d a imm w
  by_cases h : insC op d a imm = 0
  · have e : encV op d a imm = op * 16777216 + d * 1048576 + a * 65536 + imm := if_pos h
    have ew := enc_wrap (insC_bounds h)
    rw [e]
    clear e
    generalize insC op d a imm = c at *
    subst h
    generalize op * 16777216 + d * 1048576 + a * 65536 + imm = v at *
    go_enter Try.func34, Try.ntmps34
    go_wp2_with (go_at_call 49; refine (hf _).mono ?_; rintro e w1 ⟨rfl, hb⟩; obtain ⟨hc, hz⟩ := bcell hb)
    exact bodyPost_ret (v := .agg #[.int .i64 0, .int .i64 v]) (by simp [results, Try.results34, go_sem, hc, ew]) rfl ⟨rfl, (((((Below.refl _ _).alloc (Nat.le_refl _) _).alloc (by simp) _).trans (hb.mono (by simp; omega))).setCell (by simp) _).setCell (by simp) _⟩
  · have g : (insC op d a imm == 0) = false := beq_eq_false_iff_ne.2 h
    have e : encV op d a imm = 0 := if_neg h
    rw [e]
    clear e h
    generalize insC op d a imm = c at *
    go_enter Try.func34, Try.ntmps34
    go_wp2_with (go_at_call 49; refine (hf _).mono ?_; rintro e w1 ⟨rfl, hb⟩; obtain ⟨hc, hz⟩ := bcell hb)
    exact bodyPost_ret (v := .agg #[.int .i64 c, .int .i64 0]) (by simp [results, Try.results34, go_sem, hc]) rfl ⟨rfl, (((((Below.refl _ _).alloc (Nat.le_refl _) _).alloc (by simp) _).trans (hb.mono (by simp; omega))).setCell (by simp) _).setCell (by simp) _⟩

set_option maxHeartbeats 2000000 in
theorem spec_encode (op d a imm : Int) (w : World) :
    Calls Try.prog 25 #[.agg #[.int .i64 op, .int .i64 d, .int .i64 a, .int .i64 imm]] w fun e w' => e = .returned (.agg #[.int .i64 (insC op d a imm), .int .i64 (encV op d a imm)]) ∧ Below w.heap.size w w' := by
  have hf := fun w => spec_insFault op d a imm w
  by_cases h : insC op d a imm = 0
  · have e : encV op d a imm = op * 16777216 + d * 1048576 + a * 65536 + imm := if_pos h
    have ew := enc_wrap (insC_bounds h)
    rw [e]
    clear e
    generalize insC op d a imm = c at *
    subst h
    generalize op * 16777216 + d * 1048576 + a * 65536 + imm = v at *
    go_enter Try.func25, Try.ntmps25
    go_wp2_with (go_at_call 39; refine (hf _).mono ?_; rintro e w1 ⟨rfl, hb⟩; obtain ⟨hc, hz⟩ := bcell hb)
    exact bodyPost_ret (v := .agg #[.int .i64 0, .int .i64 v]) (by simp [results, Try.results25, go_sem, hc, ew]) rfl ⟨rfl, (((((Below.refl _ _).alloc (Nat.le_refl _) _).alloc (by simp) _).trans (hb.mono (by simp; omega))).setCell (by simp) _).setCell (by simp) _⟩
  · have g : (insC op d a imm == 0) = false := beq_eq_false_iff_ne.2 h
    have e : encV op d a imm = 0 := if_neg h
    rw [e]
    clear e h
    generalize insC op d a imm = c at *
    go_enter Try.func25, Try.ntmps25
    go_wp2_with (go_at_call 39; refine (hf _).mono ?_; rintro e w1 ⟨rfl, hb⟩; obtain ⟨hc, hz⟩ := bcell hb)
    exact bodyPost_ret (v := .agg #[.int .i64 c, .int .i64 0]) (by simp [results, Try.results25, go_sem, hc]) rfl ⟨rfl, (((((Below.refl _ _).alloc (Nat.le_refl _) _).alloc (by simp) _).trans (hb.mono (by simp; omega))).setCell (by simp) _).setCell (by simp) _⟩
end Go.Proofs.Ytmddpomibogfcaa
