/- Texts of this seat, joined. -/
import Derived.Test.YtgjpfmcokcjegaaQ21
namespace Go.Proofs.Ytgjpfmcokcjegaa
open Go.RowKit
set_option linter.unusedVariables false
def forP (to k : Int) : Int × Int := if k = 0 then (-1, 0) else (to, k)
theorem impl_pageFor (to k : Int) (w : World) : Calls Try.prog 55 #[.int .i64 to, .int .i64 k] w fun e w' => e = .returned (.agg #[.int .i64 (forP to k).1, .int .i64 (forP to k).2]) ∧ Below w.heap.size w w' := by
  by_cases h : k = 0
  · subst h
    rw [forP, if_pos rfl]
    go_enter Try.func55, Try.ntmps55
    go_wp2_with fail
    exact bodyPost_ret (v := .agg #[.int .i64 (-1), .int .i64 0]) (by simp [results, Try.results55, go_sem]) rfl ⟨rfl, al (Below.refl _ _) _⟩
  · rw [forP, if_neg h]
    have g : (k == 0) = false := beq_eq_false_iff_ne.2 h
    go_enter Try.func55, Try.ntmps55
    go_wp2_with fail
    exact bodyPost_ret (v := .agg #[.int .i64 to, .int .i64 k]) (by simp [results, Try.results55, go_sem]) rfl ⟨rfl, al (Below.refl _ _) _⟩
theorem spec_none (w : World) : Calls Try.prog 72 #[] w fun e w' => e = .returned (.agg #[.int .i64 (-1), .int .i64 0]) ∧ Below w.heap.size w w' := by
  go_enter Try.func72, Try.ntmps72
  go_wp2_with fail
  exact bodyPost_ret (v := .agg #[.int .i64 (-1), .int .i64 0]) (by simp [results, Try.results72, go_sem]) rfl ⟨rfl, al (Below.refl _ _) _⟩
def entP (z : Int) : Int × Int := if z % 8 = 0 ∨ 8 ≤ z / 8 then (-1, 0) else (z / 8, z % 8)
def entC (z : Int) : Int := if isW z then 0 else 3
def entE (z : Int) : Int × Int := if isW z then entP z else (0, 0)
theorem isW_true {z : Int} (h : isW z = true) : 0 ≤ z ∧ z ≤ 4294967295 := by simpa [isW] using h
theorem spec_entry (z : Int) (w : World) (h0 : 0 ≤ z) (h1 : z ≤ 4294967295) : Calls Try.prog 69 #[.int .i64 z] w fun e w' => e = .returned (.agg #[.int .i64 (entP z).1, .int .i64 (entP z).2]) ∧ Below w.heap.size w w' := by
  by_cases h : z % 8 = 0
  · rw [entP, if_pos (.inl h)]
    have g : (z % 8 == 0) = true := by simpa using h
    go_enter Try.func69, Try.ntmps69
    go_wp2_with fail
    refine (spec_none _).mono ?_
    rintro e w1 ⟨rfl, b1⟩
    have k0 : w1.cell? ⟨w.heap.size, 0, none⟩ = some (.int .i64 0) := cell_keep b1 (by simp)
    have k1 : w1.cell? ⟨w.heap.size, 1, none⟩ = some (.int .i64 0) := cell_keep b1 (by simp)
    have f0 : w1.frozen? ⟨w.heap.size, 0, none⟩ = false := by rw [(bcell b1).2 _ _ (by simp; omega)]; simp
    have f1 : w1.frozen? ⟨w.heap.size, 1, none⟩ = false := by rw [(bcell b1).2 _ _ (by simp; omega)]; simp
    go_wp2_with fail
    exact bodyPost_ret (v := .agg #[.int .i64 (-1), .int .i64 0]) (by simp [results, Try.results69, go_sem, k0, k1]) rfl ⟨rfl, ((on (al (al (Below.refl _ _) _) _) b1).setCell (by simp) _).setCell (by simp) _⟩
  have g : (z % 8 == 0) = false := by simpa using h
  by_cases k : 8 ≤ z / 8
  · rw [entP, if_pos (.inr k)]
    go_enter Try.func69, Try.ntmps69
    go_wp2_with fail
    refine (spec_none _).mono ?_
    rintro e w1 ⟨rfl, b1⟩
    have k0 : w1.cell? ⟨w.heap.size, 0, none⟩ = some (.int .i64 0) := cell_keep b1 (by simp)
    have k1 : w1.cell? ⟨w.heap.size, 1, none⟩ = some (.int .i64 0) := cell_keep b1 (by simp)
    have f0 : w1.frozen? ⟨w.heap.size, 0, none⟩ = false := by rw [(bcell b1).2 _ _ (by simp; omega)]; simp
    have f1 : w1.frozen? ⟨w.heap.size, 1, none⟩ = false := by rw [(bcell b1).2 _ _ (by simp; omega)]; simp
    go_wp2_with fail
    exact bodyPost_ret (v := .agg #[.int .i64 (-1), .int .i64 0]) (by simp [results, Try.results69, go_sem, k0, k1]) rfl ⟨rfl, ((on (al (al (Below.refl _ _) _) _) b1).setCell (by simp) _).setCell (by simp) _⟩
  · rw [entP, if_neg (by omega)]
    go_enter Try.func69, Try.ntmps69
    go_wp2_with fail
    exact bodyPost_ret (v := .agg #[.int .i64 (z / 8), .int .i64 (z % 8)]) (by simp [results, Try.results69, go_sem]) rfl ⟨rfl, al (al (Below.refl _ _) _) _⟩
theorem impl_entryOf (z : Int) (w : World) : Calls Try.prog 66 #[.int .i64 z] w fun e w' => e = .returned (.agg #[.int .i64 (entC z), .int .i64 (entE z).1, .int .i64 (entE z).2]) ∧ Below w.heap.size w w' := by
  cases h : isW z
  · rw [show entC z = 3 by simp [entC, h], show entE z = (0, 0) by simp [entE, h]]
    go_enter Try.func66, Try.ntmps66
    go_wp2_with (go_at_call 64; refine (impl_isWord _ _).mono ?_; rintro e x ⟨rfl, rfl⟩; rw [h])
    exact bodyPost_ret (v := .agg #[.int .i64 3, .int .i64 0, .int .i64 0]) (by simp [results, Try.results66, go_sem]) rfl ⟨rfl, al (Below.refl _ _) _⟩
  · rw [show entC z = 0 by simp [entC, h], show entE z = entP z by simp [entE, h]]
    obtain ⟨h0, h1⟩ := isW_true h
    by_cases k : 8 ≤ z / 8
    · rw [entP, if_pos (.inr k)]
      go_enter Try.func66, Try.ntmps66
      go_wp2_with (go_at_call 64; refine (impl_isWord _ _).mono ?_; rintro e x ⟨rfl, rfl⟩; rw [h])
      exact bodyPost_ret (v := .agg #[.int .i64 0, .int .i64 (-1), .int .i64 0]) (by simp [results, Try.results66, go_sem]) rfl ⟨rfl, al (Below.refl _ _) _⟩
    · have hF := fun w => impl_pageFor (z / 8) (z % 8) w
      have e : entP z = forP (z / 8) (z % 8) := by
        unfold entP forP
        by_cases h8 : z % 8 = 0
        · rw [if_pos (.inl h8), if_pos h8]
        · rw [if_neg (by omega), if_neg h8]
      rw [e]
      generalize (forP (z / 8) (z % 8)).1 = p at *
      generalize (forP (z / 8) (z % 8)).2 = q at *
      clear e
      go_enter Try.func66, Try.ntmps66
      go_wp2_with (go_at_call 64; refine (impl_isWord _ _).mono ?_; rintro e x ⟨rfl, rfl⟩; rw [h])
      refine (hF _).mono ?_
      rintro e w1 ⟨rfl, b1⟩
      obtain ⟨c1, z1⟩ := bcell b1
      go_wp2_with fail
      exact bodyPost_ret (v := .agg #[.int .i64 0, .int .i64 p, .int .i64 q]) (by simp [results, Try.results66, go_sem, c1]) rfl ⟨rfl, (((on (al (Below.refl _ _) _) b1).setCell (by simp) _).setCell (by simp) _).setCell (by simp) _⟩
end Go.Proofs.Ytgjpfmcokcjegaa
