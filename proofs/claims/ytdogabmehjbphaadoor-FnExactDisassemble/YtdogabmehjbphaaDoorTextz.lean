/- What InsText answers, of the model and of the program. -/
import Derived.Test.YtdogabmehjbphaaDoorTextttt
import Derived.Test.YtdogabmehjbphaaDoorTextftf
import Derived.Test.YtdogabmehjbphaaDoorTexttff
import Derived.Test.YtdogabmehjbphaaDoorTextfff
import Derived.Test.YtdogabmehjbphaaDoorTextl
import Derived.Test.YtdogabmehjbphaaDoorTextn
namespace Go.Proofs.YtdogabmehjbphaaDoor
open Go.RowKit
set_option linter.unusedVariables false

theorem spec_insText_in (k d a i : Nat) (w : World) (h : insC k d a i = 0) :
    Calls Tryd.prog 11 #[.agg #[.int .i64 k, .int .i64 d, .int .i64 a, .int .i64 i]] w fun e w' => e = .returned (.agg #[.int .i64 0, .string (insT k d a i)]) ∧ Below w.heap.size w w' := by
  have hr := insC_bounds h
  have hf := fun w => spec_insFault k d a i w
  rw [h] at hf
  have hb := fun w => spec_bare k w ⟨hr.1, hr.2.1⟩
  have i1 : (0 : Int) ≤ (k : Int) := by omega
  have i2 : (k : Int) < 27 := by omega
  have i4 : k < 27 := by omega
  have hD := fun w => spec_digits d (by omega) w
  have hA := fun w => spec_digits a (by omega) w
  have hI := fun w => spec_digits i (by omega) w
  have s0 := nm_len k i4
  have s1 := decB_len d (by omega)
  have s2 := decB_len a (by omega)
  have s3 := decB_len i (by omega)
  have hn : ∀ w : World, Calls Tryd.prog 20 #[] w fun e w' => e = .returned (.slice (some ⟨w.heap.size, 0, none⟩) 27 27) ∧ Below w.heap.size w w' ∧ w'.cell? ⟨w.heap.size, k, none⟩ = some (.string (nm k)) := fun w => (spec_names w).mono fun e w' ⟨h1, h2, h3⟩ => ⟨h1, h2, h3 k i4⟩
  unfold insT told
  rcases bare_cases k with ⟨e1, e2, e3⟩ | ⟨e1, e2, e3⟩ | ⟨e1, e2, e3⟩ | ⟨e1, e2, e3⟩
  all_goals
    simp only [e1, e2, e3] at hb
    simp only [e1, e2, e3, if_true, if_false, Bool.false_eq_true]
  · exact spec_text_fff k d a i (nm k) (decB d) (decB a) (decB i) s0 s1 s2 s3 w i1 i2 hf hb hn hD hA hI
  · exact spec_text_ftf k d a i (nm k) (decB d) (decB a) (decB i) s0 s1 s2 s3 w i1 i2 hf hb hn hD hA hI
  · exact spec_text_tff k d a i (nm k) (decB d) (decB a) (decB i) s0 s1 s2 s3 w i1 i2 hf hb hn hD hA hI
  · exact spec_text_ttt k d a i (nm k) (decB d) (decB a) (decB i) s0 s1 s2 s3 w i1 i2 hf hb hn hD hA hI

theorem join3 (t0 x y z : ByteArray) : (⟨(Lib.join ([t0, x, y, z].map (·.data.toList)) [32]).toArray⟩ : ByteArray) = t0 ++ ⟨#[32]⟩ ++ x ++ ⟨#[32]⟩ ++ y ++ ⟨#[32]⟩ ++ z := by
  apply ByteArray.ext
  apply Array.toList_inj.1
  simp [Lib.join_cons, Lib.joinTail, ByteArray.data_append]
theorem join2 (t0 x y : ByteArray) : (⟨(Lib.join ([t0, x, y].map (·.data.toList)) [32]).toArray⟩ : ByteArray) = t0 ++ ⟨#[32]⟩ ++ x ++ ⟨#[32]⟩ ++ y := by
  apply ByteArray.ext
  apply Array.toList_inj.1
  simp [Lib.join_cons, Lib.joinTail, ByteArray.data_append]
theorem join_len (xs : List ByteArray) (h : ∀ x ∈ xs, x.size ≤ 5) (hl : xs.length ≤ 4) : (Lib.join (xs.map (·.data.toList)) [32]).length ≤ 140737488355328 := by
  match xs, h, hl with
  | [], _, _ => simp [Lib.join_nil]
  | [a], h, _ => have := h a (by simp); simp [Lib.join_cons, Lib.joinTail]; omega
  | [a, b], h, _ => have := h a (by simp); have := h b (by simp); simp [Lib.join_cons, Lib.joinTail]; omega
  | [a, b, c], h, _ => have := h a (by simp); have := h b (by simp); have := h c (by simp); simp [Lib.join_cons, Lib.joinTail]; omega
  | [a, b, c, d], h, _ => have := h a (by simp); have := h b (by simp); have := h c (by simp); have := h d (by simp); simp [Lib.join_cons, Lib.joinTail]; omega
  | a :: b :: c :: d :: e :: r, _, hl => simp at hl

theorem impl_insText_in (k d a i : Nat) (w : World) (h : insC k d a i = 0) (htab : Lib.TabIs Tryd.prog w "internal/strconv.uint64pow10" .u64 Lib.pow10Tab) :
    Calls Tryd.prog 27 #[.agg #[.int .i64 k, .int .i64 d, .int .i64 a, .int .i64 i]] w fun e w' => e = .returned (.agg #[.int .i64 0, .string (insT k d a i)]) ∧ Below w.heap.size w w' := by
  have hr := insC_bounds h
  have hf := fun w => impl_insFault k d a i w
  rw [h] at hf
  have hO := fun w => impl_opName_in k (by omega) (by omega) w
  have s0 := nm_len k (by omega)
  have s1 := decB_len d (by omega)
  have s2 := decB_len a (by omega)
  have s3 := decB_len i (by omega)
  by_cases c1 : (k : Int) = 13 ∨ (k : Int) = 19 ∨ (k : Int) = 21
  · have eD : bareD k = false := decide_eq_false (by omega)
    have eA : bareA k = true := decide_eq_true (by omega)
    have eI : bareI k = false := decide_eq_false (by omega)
    have hx := impl_text_some k d a i [d, i] (by simp; omega) (by simp) (nm k) w htab hf hO (fun w => impl_told_di k d a i w c1) (join_len _ (by simp [s0, s1, s3]) (by simp))
    simp only [List.map_cons, List.map_nil] at hx
    rw [show insT k d a i = nm k ++ ⟨#[32]⟩ ++ decB d ++ ⟨#[32]⟩ ++ decB i by simp [insT, told, eD, eA, eI], ← join2]
    exact hx
  by_cases c2 : (k : Int) = 22
  · have eD : bareD k = true := decide_eq_true (by omega)
    have eA : bareA k = false := decide_eq_false (by omega)
    have eI : bareI k = false := decide_eq_false (by omega)
    have hx := impl_text_some k d a i [a, i] (by simp; omega) (by simp) (nm k) w htab hf hO (fun w => by rw [c2]; exact impl_told_ai d a i w) (join_len _ (by simp [s0, s2, s3]) (by simp))
    simp only [List.map_cons, List.map_nil] at hx
    rw [show insT k d a i = nm k ++ ⟨#[32]⟩ ++ decB a ++ ⟨#[32]⟩ ++ decB i by simp [insT, told, eD, eA, eI], ← join2]
    exact hx
  by_cases c3 : 23 ≤ (k : Int)
  · have eD : bareD k = true := decide_eq_true (by omega)
    have eA : bareA k = true := decide_eq_true (by omega)
    have eI : bareI k = true := decide_eq_true (by omega)
    have hx := impl_text_none k d a i (nm k) s0 w hf hO (fun w => impl_told_none k d a i w (by omega))
    rw [show insT k d a i = nm k by simp [insT, told, eD, eA, eI]]
    exact hx
  · have eD : bareD k = false := decide_eq_false (by omega)
    have eA : bareA k = false := decide_eq_false (by omega)
    have eI : bareI k = false := decide_eq_false (by omega)
    have hx := impl_text_some k d a i [d, a, i] (by simp; omega) (by simp) (nm k) w htab hf hO (fun w => impl_told_dai k d a i w (by omega) (by omega)) (join_len _ (by simp [s0, s1, s2, s3]) (by simp))
    simp only [List.map_cons, List.map_nil] at hx
    rw [show insT k d a i = nm k ++ ⟨#[32]⟩ ++ decB d ++ ⟨#[32]⟩ ++ decB a ++ ⟨#[32]⟩ ++ decB i by simp [insT, told, eD, eA, eI], ← join3]
    exact hx

/-- What InsText answers. -/
def insS (op d a imm : Int) : ByteArray := if insC op d a imm = 0 then insT op.toNat d.toNat a.toNat imm.toNat else ⟨#[]⟩
set_option maxHeartbeats 1000000 in
theorem spec_insText (op d a imm : Int) (w : World) :
    Calls Tryd.prog 11 #[.agg #[.int .i64 op, .int .i64 d, .int .i64 a, .int .i64 imm]] w fun e w' => e = .returned (.agg #[.int .i64 (insC op d a imm), .string (insS op d a imm)]) ∧ Below w.heap.size w w' := by
  by_cases h : insC op d a imm = 0
  · have hr := insC_bounds h
    obtain ⟨k, rfl⟩ : ∃ k : Nat, op = k := ⟨op.toNat, by omega⟩
    obtain ⟨x, rfl⟩ : ∃ k : Nat, d = k := ⟨d.toNat, by omega⟩
    obtain ⟨y, rfl⟩ : ∃ k : Nat, a = k := ⟨a.toNat, by omega⟩
    obtain ⟨z, rfl⟩ : ∃ k : Nat, imm = k := ⟨imm.toNat, by omega⟩
    rw [insS, if_pos h, h]
    exact spec_insText_in k x y z w h
  · rw [insS, if_neg h]
    have hf := fun w => spec_insFault op d a imm w
    have g : (insC op d a imm == 0) = false := beq_eq_false_iff_ne.2 h
    clear h
    generalize insC op d a imm = c at *
    go_enter Tryd.func11, Tryd.ntmps11
    go_wp2_with (go_at_call 19; refine (hf _).mono ?_; rintro e w1 ⟨rfl, hb⟩; obtain ⟨hc, hz⟩ := bcell hb)
    exact bodyPost_ret (v := .agg #[.int .i64 c, .string ⟨#[]⟩]) (by simp [results, Tryd.results11, go_sem, hc]) rfl ⟨rfl, ((on (al (al (Below.refl _ _) _) _) hb).setCell (by simp) _).setCell (by simp) _⟩

set_option maxHeartbeats 1000000 in
theorem impl_insText (op d a imm : Int) (w : World) (htab : Lib.TabIs Tryd.prog w "internal/strconv.uint64pow10" .u64 Lib.pow10Tab) :
    Calls Tryd.prog 27 #[.agg #[.int .i64 op, .int .i64 d, .int .i64 a, .int .i64 imm]] w fun e w' => e = .returned (.agg #[.int .i64 (insC op d a imm), .string (insS op d a imm)]) ∧ Below w.heap.size w w' := by
  by_cases h : insC op d a imm = 0
  · have hr := insC_bounds h
    obtain ⟨k, rfl⟩ : ∃ k : Nat, op = k := ⟨op.toNat, by omega⟩
    obtain ⟨x, rfl⟩ : ∃ k : Nat, d = k := ⟨d.toNat, by omega⟩
    obtain ⟨y, rfl⟩ : ∃ k : Nat, a = k := ⟨a.toNat, by omega⟩
    obtain ⟨z, rfl⟩ : ∃ k : Nat, imm = k := ⟨imm.toNat, by omega⟩
    rw [insS, if_pos h, h]
    exact impl_insText_in k x y z w h htab
  · rw [insS, if_neg h]
    have hf := fun w => impl_insFault op d a imm w
    have g : (insC op d a imm == 0) = false := beq_eq_false_iff_ne.2 h
    clear h htab
    generalize insC op d a imm = c at *
    go_enter Tryd.func27, Tryd.ntmps27
    go_wp2_with (go_at_call 32; refine (hf _).mono ?_; rintro e w1 ⟨rfl, hb⟩; obtain ⟨hc, hz⟩ := bcell hb)
    exact bodyPost_ret (v := .agg #[.int .i64 c, .string ⟨#[]⟩]) (by simp [results, Tryd.results27, go_sem, hc]) rfl ⟨rfl, ((on (al (al (Below.refl _ _) _) _) hb).setCell (by simp) _).setCell (by simp) _⟩
end Go.Proofs.YtdogabmehjbphaaDoor
