/- The program's text of an instruction that tells no number. -/
import Derived.Test.YtdogabmehjbphaaDoorTexti
namespace Go.Proofs.YtdogabmehjbphaaDoor
open Go.RowKit
set_option linter.unusedVariables false

set_option maxRecDepth 10000 in
set_option maxHeartbeats 4000000 in
theorem impl_text_none (k d a i : Nat) (t0 : ByteArray) (s0 : t0.size ≤ 5) (w : World)
    (hf : ∀ w : World, Calls Tryd.prog 32 #[.agg #[.int .i64 k, .int .i64 d, .int .i64 a, .int .i64 i]] w fun e w' => e = .returned (.int .i64 0) ∧ Below w.heap.size w w')
    (hO : ∀ w : World, Calls Tryd.prog 33 #[.int .i64 k] w fun e w' => e = .returned (.agg #[.int .i64 0, .string t0]) ∧ Below w.heap.size w w')
    (hT : ∀ w : World, Calls Tryd.prog 34 #[.agg #[.int .i64 k, .int .i64 d, .int .i64 a, .int .i64 i]] w fun e w' => e = .returned (.slice none 0 0) ∧ Below w.heap.size w w') :
    Calls Tryd.prog 27 #[.agg #[.int .i64 k, .int .i64 d, .int .i64 a, .int .i64 i]] w fun e w' => e = .returned (.agg #[.int .i64 0, .string t0]) ∧ Below w.heap.size w w' := by
  have hfield := field_text
  have S0 : Hid (t0.size ≤ 5) := s0
  clear s0
  go_enter Tryd.func27, Tryd.ntmps27
  go_wp2_with fail
  refine (hf _).mono ?_
  rintro e w1 ⟨rfl, b1⟩
  obtain ⟨c1, z1⟩ := bcell b1
  go_wp2_with fail
  refine (hO _).mono ?_
  rintro e w2 ⟨rfl, b2⟩
  have b12 := on b1 b2
  clear c1 z1
  obtain ⟨c1, z1⟩ := bcell b12
  have s2 : w.heap.size + 2 ≤ w2.heap.size := by have := b12.size; simp at this; omega
  have s3 : w.heap.size < w2.heap.size := by omega
  have s4 : w.heap.size + 1 < w2.heap.size := by omega
  go_wp2_with fail
  refine (hT _).mono ?_
  rintro e w3 ⟨rfl, b3⟩
  have b13 := on (al b12 _) b3
  clear c1 z1
  obtain ⟨c1, z1⟩ := bcell b13
  go_wp2_with fail
  have B0 : Hid (Below w.heap.size w w3) := on (al (al (Below.refl _ _) _) _) b13
  have P0 : Hid (w3.cell? ⟨w2.heap.size, 0, none⟩ = some (.string t0)) := cell_keep b3 (cell_new rfl)
  have K0 : Hid (w3.cell? ⟨w.heap.size + 1, 0, none⟩ = some (.int .i64 0)) := cell_keep b13 (by simp)
  have K1 : Hid (w3.cell? ⟨w.heap.size + 1, 1, none⟩ = some (.string ⟨#[]⟩)) := cell_keep b13 (by simp)
  have F0 : Hid (w3.frozen? ⟨w.heap.size + 1, 0, none⟩ = false) := by show _ = _; rw [z1 _ _ (by simp)]; simp
  have F1 : Hid (w3.frozen? ⟨w.heap.size + 1, 1, none⟩ = false) := by show _ = _; rw [z1 _ _ (by simp)]; simp
  clear c1 z1 b1 b2 b12 b3 b13 hf hO hT
  go_loopw [4, 21] (fun v c wr => c = .int .i64 0 ∧ v = .slice (some ⟨w2.heap.size, 0, none⟩) 1 1 ∧ wr = w3)
    (fun _ _ _ => 0)
  case atStart => exact ⟨rfl, rfl, rfl⟩
  case round =>
    obtain ⟨rfl, rfl, rfl⟩ := hrel
    have hbk := block_of_cell P0.out
    have hJoin := Tryd.strings_Join w2.heap.size 0 1 [t0] ⟨#[32]⟩ wr (by
      intro m x hx
      have hm : m = 0 := by have := (List.getElem?_eq_some_iff.1 hx).1; simpa using this
      subst hm
      obtain rfl : t0 = x := by simpa using hx
      exact P0.out) hbk (by simp) (by simp) (by simp only [List.map_cons, List.map_nil]; rw [Lib.join_one, Array.length_toList]; exact Nat.le_trans S0.out (by decide))
    have e1 : (⟨(Lib.join ([t0].map (·.data.toList)) (⟨#[32]⟩ : ByteArray).data.toList).toArray⟩ : ByteArray) = t0 := by simp only [List.map_cons, List.map_nil]; rw [Lib.join_one]
    rw [e1] at hJoin
    clear e1
    have k0 := K0.out
    have k1 := K1.out
    have f0 := F0.out
    have f1 := F1.out
    go_wp2_with fail
    refine hJoin.mono ?_
    rintro e w7 ⟨rfl, b7⟩
    have m0 := cell_keep b7 k0
    have m1 := cell_keep b7 k1
    have n0 : w7.frozen? ⟨w.heap.size + 1, 0, none⟩ = false := by rw [b7.frozen (block_of_cell k0)]; exact f0
    have n1 : w7.frozen? ⟨w.heap.size + 1, 1, none⟩ = false := by rw [b7.frozen (block_of_cell k1)]; exact f1
    clear k0 k1 f0 f1 hJoin
    go_wp2_with fail
    exact bodyPost_ret (v := .agg #[.int .i64 0, .string t0]) (by simp [results, Tryd.results27, go_sem, m0, m1]) rfl ⟨rfl, ((on B0.out b7).setCell (by simp) _).setCell (by simp) _⟩
end Go.Proofs.YtdogabmehjbphaaDoor
