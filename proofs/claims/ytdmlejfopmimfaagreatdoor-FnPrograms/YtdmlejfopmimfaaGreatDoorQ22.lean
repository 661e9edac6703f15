/- Texts of this seat, joined. -/
import Derived.Test.YtdmlejfopmimfaaGreatDoorQ18
namespace Go.Proofs.YtdmlejfopmimfaaGreatDoor
open Go.RowKit
set_option linter.unusedVariables false

set_option maxHeartbeats 4000000 in
theorem spec_text_ttt (k d a i : Nat) (t0 td ta ti : ByteArray) (s0 : t0.size ≤ 5) (s1 : td.size ≤ 5) (s2 : ta.size ≤ 5) (s3 : ti.size ≤ 5) (w : World) (i1 : (0 : Int) ≤ (k : Int)) (i2 : (k : Int) < 27)
    (hf : ∀ w : World, Calls Tryz.prog 62 #[.agg #[.int .i64 k, .int .i64 d, .int .i64 a, .int .i64 i]] w fun e w' => e = .returned (.int .i64 0) ∧ Below w.heap.size w w')
    (hb : ∀ w : World, Calls Tryz.prog 59 #[.int .i64 k] w fun e w' => e = .returned (.tuple #[.bool true, .bool true, .bool true]) ∧ w' = w)
    (hn : ∀ w : World, Calls Tryz.prog 63 #[] w fun e w' => e = .returned (.slice (some ⟨w.heap.size, 0, none⟩) 27 27) ∧ Below w.heap.size w w' ∧ w'.cell? ⟨w.heap.size, k, none⟩ = some (.string t0))
    (hD : ∀ w : World, Calls Tryz.prog 42 #[.int .i64 d] w fun e w' => e = .returned (.string td) ∧ Below w.heap.size w w') (hA : ∀ w : World, Calls Tryz.prog 42 #[.int .i64 a] w fun e w' => e = .returned (.string ta) ∧ Below w.heap.size w w')
    (hI : ∀ w : World, Calls Tryz.prog 42 #[.int .i64 i] w fun e w' => e = .returned (.string ti) ∧ Below w.heap.size w w') :
    Calls Tryz.prog 32 #[.agg #[.int .i64 k, .int .i64 d, .int .i64 a, .int .i64 i]] w fun e w' => e = .returned (.agg #[.int .i64 0, .string (t0)]) ∧ Below w.heap.size w w' := by
  go_enter Tryz.func32, Tryz.ntmps32
  go_upto_region 4 with (go_at_call 62; refine (hf _).mono ?_; rintro e w1 ⟨rfl, b1⟩)
  have q0 : w1.cell? ⟨w.heap.size, 0, none⟩ = some (.int .i64 k) := cell_keep b1 (cell_push _ (cell_new rfl))
  go_region_with (go_at_call 63; refine (hn _).mono ?_; rintro e w2 ⟨rfl, b2, k2⟩; have k3 : w2.cell? ⟨w1.heap.size, k, none⟩ = some (.string t0) := k2; clear k2; have q2 := cell_keep b2 q0; first | have b12 := on b1 b2 | have b12 := on b1.drew b2 | have b12 := on b1.drew.drew b2)
  all_goals clear q0 b2 k3 q2 hf hn
  all_goals obtain ⟨c2, z2⟩ := bcell b12
  all_goals clear b1
  all_goals go_wp2_with (go_at_call 59; refine (hb _).mono ?_; rintro e w3 ⟨rfl, rfl⟩)
  all_goals have k0 := cell_keep b12 (cell_new (i := 0) rfl)
  all_goals have k1 := cell_keep b12 (cell_new (i := 1) rfl)
  all_goals simp only [World.size_alloc] at k0 k1
  all_goals clear c2 z2
  all_goals exact bodyPost_ret (v := .agg #[.int .i64 0, .string (t0)]) (by simp [results, Tryz.results32, go_sem, k0, k1]) rfl ⟨rfl, ((on (al (al (Below.refl _ _) _) _) b12).setCell (by simp) _).setCell (by simp) _⟩
end Go.Proofs.YtdmlejfopmimfaaGreatDoor
namespace Go.Proofs.YtdmlejfopmimfaaGreatDoor
open Go.RowKit
set_option linter.unusedVariables false

set_option maxHeartbeats 4000000 in
theorem spec_text_ftf (k d a i : Nat) (t0 td ta ti : ByteArray) (s0 : t0.size ≤ 5) (s1 : td.size ≤ 5) (s2 : ta.size ≤ 5) (s3 : ti.size ≤ 5) (w : World) (i1 : (0 : Int) ≤ (k : Int)) (i2 : (k : Int) < 27)
    (hf : ∀ w : World, Calls Tryz.prog 62 #[.agg #[.int .i64 k, .int .i64 d, .int .i64 a, .int .i64 i]] w fun e w' => e = .returned (.int .i64 0) ∧ Below w.heap.size w w')
    (hb : ∀ w : World, Calls Tryz.prog 59 #[.int .i64 k] w fun e w' => e = .returned (.tuple #[.bool false, .bool true, .bool false]) ∧ w' = w)
    (hn : ∀ w : World, Calls Tryz.prog 63 #[] w fun e w' => e = .returned (.slice (some ⟨w.heap.size, 0, none⟩) 27 27) ∧ Below w.heap.size w w' ∧ w'.cell? ⟨w.heap.size, k, none⟩ = some (.string t0))
    (hD : ∀ w : World, Calls Tryz.prog 42 #[.int .i64 d] w fun e w' => e = .returned (.string td) ∧ Below w.heap.size w w') (hA : ∀ w : World, Calls Tryz.prog 42 #[.int .i64 a] w fun e w' => e = .returned (.string ta) ∧ Below w.heap.size w w')
    (hI : ∀ w : World, Calls Tryz.prog 42 #[.int .i64 i] w fun e w' => e = .returned (.string ti) ∧ Below w.heap.size w w') :
    Calls Tryz.prog 32 #[.agg #[.int .i64 k, .int .i64 d, .int .i64 a, .int .i64 i]] w fun e w' => e = .returned (.agg #[.int .i64 0, .string (t0 ++ ⟨#[32]⟩ ++ td ++ ⟨#[32]⟩ ++ ti)]) ∧ Below w.heap.size w w' := by
  go_enter Tryz.func32, Tryz.ntmps32
  go_upto_region 4 with (go_at_call 62; refine (hf _).mono ?_; rintro e w1 ⟨rfl, b1⟩)
  have q0 : w1.cell? ⟨w.heap.size, 0, none⟩ = some (.int .i64 k) := cell_keep b1 (cell_push _ (cell_new rfl))
  go_region_with (go_at_call 63; refine (hn _).mono ?_; rintro e w2 ⟨rfl, b2, k2⟩; have k3 : w2.cell? ⟨w1.heap.size, k, none⟩ = some (.string t0) := k2; clear k2; have q2 := cell_keep b2 q0; first | have b12 := on b1 b2 | have b12 := on b1.drew b2 | have b12 := on b1.drew.drew b2)
  all_goals clear q0 b2 k3 q2 hf hn
  all_goals obtain ⟨c2, z2⟩ := bcell b12
  all_goals clear b1
  all_goals go_wp2_with (go_at_call 59; refine (hb _).mono ?_; rintro e w3 ⟨rfl, rfl⟩)
  all_goals refine (hD _).mono ?_
  all_goals rintro e y0 ⟨rfl, d0⟩
  all_goals have f0 := on b12 d0
  all_goals clear c2 z2
  all_goals obtain ⟨c2, z2⟩ := bcell f0
  all_goals go_wp2_with fail
  all_goals refine (hI _).mono ?_
  all_goals rintro e y1 ⟨rfl, d1⟩
  all_goals have f1 := on f0 d1
  all_goals clear c2 z2
  all_goals obtain ⟨c2, z2⟩ := bcell f1
  all_goals go_wp2_with fail
  all_goals have k0 := cell_keep f1 (cell_new (i := 0) rfl)
  all_goals have k1 := cell_keep f1 (cell_new (i := 1) rfl)
  all_goals simp only [World.size_alloc] at k0 k1
  all_goals clear c2 z2
  all_goals exact bodyPost_ret (v := .agg #[.int .i64 0, .string (t0 ++ ⟨#[32]⟩ ++ td ++ ⟨#[32]⟩ ++ ti)]) (by simp [results, Tryz.results32, go_sem, k0, k1]) rfl ⟨rfl, ((on (al (al (Below.refl _ _) _) _) f1).setCell (by simp) _).setCell (by simp) _⟩
end Go.Proofs.YtdmlejfopmimfaaGreatDoor
namespace Go.Proofs.YtdmlejfopmimfaaGreatDoor
open Go.RowKit
set_option linter.unusedVariables false

set_option maxHeartbeats 4000000 in
theorem spec_text_tff (k d a i : Nat) (t0 td ta ti : ByteArray) (s0 : t0.size ≤ 5) (s1 : td.size ≤ 5) (s2 : ta.size ≤ 5) (s3 : ti.size ≤ 5) (w : World) (i1 : (0 : Int) ≤ (k : Int)) (i2 : (k : Int) < 27)
    (hf : ∀ w : World, Calls Tryz.prog 62 #[.agg #[.int .i64 k, .int .i64 d, .int .i64 a, .int .i64 i]] w fun e w' => e = .returned (.int .i64 0) ∧ Below w.heap.size w w')
    (hb : ∀ w : World, Calls Tryz.prog 59 #[.int .i64 k] w fun e w' => e = .returned (.tuple #[.bool true, .bool false, .bool false]) ∧ w' = w)
    (hn : ∀ w : World, Calls Tryz.prog 63 #[] w fun e w' => e = .returned (.slice (some ⟨w.heap.size, 0, none⟩) 27 27) ∧ Below w.heap.size w w' ∧ w'.cell? ⟨w.heap.size, k, none⟩ = some (.string t0))
    (hD : ∀ w : World, Calls Tryz.prog 42 #[.int .i64 d] w fun e w' => e = .returned (.string td) ∧ Below w.heap.size w w') (hA : ∀ w : World, Calls Tryz.prog 42 #[.int .i64 a] w fun e w' => e = .returned (.string ta) ∧ Below w.heap.size w w')
    (hI : ∀ w : World, Calls Tryz.prog 42 #[.int .i64 i] w fun e w' => e = .returned (.string ti) ∧ Below w.heap.size w w') :
    Calls Tryz.prog 32 #[.agg #[.int .i64 k, .int .i64 d, .int .i64 a, .int .i64 i]] w fun e w' => e = .returned (.agg #[.int .i64 0, .string (t0 ++ ⟨#[32]⟩ ++ ta ++ ⟨#[32]⟩ ++ ti)]) ∧ Below w.heap.size w w' := by
  go_enter Tryz.func32, Tryz.ntmps32
  go_upto_region 4 with (go_at_call 62; refine (hf _).mono ?_; rintro e w1 ⟨rfl, b1⟩)
  have q0 : w1.cell? ⟨w.heap.size, 0, none⟩ = some (.int .i64 k) := cell_keep b1 (cell_push _ (cell_new rfl))
  go_region_with (go_at_call 63; refine (hn _).mono ?_; rintro e w2 ⟨rfl, b2, k2⟩; have k3 : w2.cell? ⟨w1.heap.size, k, none⟩ = some (.string t0) := k2; clear k2; have q2 := cell_keep b2 q0; first | have b12 := on b1 b2 | have b12 := on b1.drew b2 | have b12 := on b1.drew.drew b2)
  all_goals clear q0 b2 k3 q2 hf hn
  all_goals obtain ⟨c2, z2⟩ := bcell b12
  all_goals clear b1
  all_goals go_wp2_with (go_at_call 59; refine (hb _).mono ?_; rintro e w3 ⟨rfl, rfl⟩)
  all_goals refine (hA _).mono ?_
  all_goals rintro e y0 ⟨rfl, d0⟩
  all_goals have f0 := on b12 d0
  all_goals clear c2 z2
  all_goals obtain ⟨c2, z2⟩ := bcell f0
  all_goals go_wp2_with fail
  all_goals refine (hI _).mono ?_
  all_goals rintro e y1 ⟨rfl, d1⟩
  all_goals have f1 := on f0 d1
  all_goals clear c2 z2
  all_goals obtain ⟨c2, z2⟩ := bcell f1
  all_goals go_wp2_with fail
  all_goals have k0 := cell_keep f1 (cell_new (i := 0) rfl)
  all_goals have k1 := cell_keep f1 (cell_new (i := 1) rfl)
  all_goals simp only [World.size_alloc] at k0 k1
  all_goals clear c2 z2
  all_goals exact bodyPost_ret (v := .agg #[.int .i64 0, .string (t0 ++ ⟨#[32]⟩ ++ ta ++ ⟨#[32]⟩ ++ ti)]) (by simp [results, Tryz.results32, go_sem, k0, k1]) rfl ⟨rfl, ((on (al (al (Below.refl _ _) _) _) f1).setCell (by simp) _).setCell (by simp) _⟩
end Go.Proofs.YtdmlejfopmimfaaGreatDoor
namespace Go.Proofs.YtdmlejfopmimfaaGreatDoor
open Go.RowKit
set_option linter.unusedVariables false

set_option maxHeartbeats 4000000 in
theorem spec_text_fff (k d a i : Nat) (t0 td ta ti : ByteArray) (s0 : t0.size ≤ 5) (s1 : td.size ≤ 5) (s2 : ta.size ≤ 5) (s3 : ti.size ≤ 5) (w : World) (i1 : (0 : Int) ≤ (k : Int)) (i2 : (k : Int) < 27)
    (hf : ∀ w : World, Calls Tryz.prog 62 #[.agg #[.int .i64 k, .int .i64 d, .int .i64 a, .int .i64 i]] w fun e w' => e = .returned (.int .i64 0) ∧ Below w.heap.size w w')
    (hb : ∀ w : World, Calls Tryz.prog 59 #[.int .i64 k] w fun e w' => e = .returned (.tuple #[.bool false, .bool false, .bool false]) ∧ w' = w)
    (hn : ∀ w : World, Calls Tryz.prog 63 #[] w fun e w' => e = .returned (.slice (some ⟨w.heap.size, 0, none⟩) 27 27) ∧ Below w.heap.size w w' ∧ w'.cell? ⟨w.heap.size, k, none⟩ = some (.string t0))
    (hD : ∀ w : World, Calls Tryz.prog 42 #[.int .i64 d] w fun e w' => e = .returned (.string td) ∧ Below w.heap.size w w') (hA : ∀ w : World, Calls Tryz.prog 42 #[.int .i64 a] w fun e w' => e = .returned (.string ta) ∧ Below w.heap.size w w')
    (hI : ∀ w : World, Calls Tryz.prog 42 #[.int .i64 i] w fun e w' => e = .returned (.string ti) ∧ Below w.heap.size w w') :
    Calls Tryz.prog 32 #[.agg #[.int .i64 k, .int .i64 d, .int .i64 a, .int .i64 i]] w fun e w' => e = .returned (.agg #[.int .i64 0, .string (t0 ++ ⟨#[32]⟩ ++ td ++ ⟨#[32]⟩ ++ ta ++ ⟨#[32]⟩ ++ ti)]) ∧ Below w.heap.size w w' := by
  go_enter Tryz.func32, Tryz.ntmps32
  go_upto_region 4 with (go_at_call 62; refine (hf _).mono ?_; rintro e w1 ⟨rfl, b1⟩)
  have q0 : w1.cell? ⟨w.heap.size, 0, none⟩ = some (.int .i64 k) := cell_keep b1 (cell_push _ (cell_new rfl))
  go_region_with (go_at_call 63; refine (hn _).mono ?_; rintro e w2 ⟨rfl, b2, k2⟩; have k3 : w2.cell? ⟨w1.heap.size, k, none⟩ = some (.string t0) := k2; clear k2; have q2 := cell_keep b2 q0; first | have b12 := on b1 b2 | have b12 := on b1.drew b2 | have b12 := on b1.drew.drew b2)
  all_goals clear q0 b2 k3 q2 hf hn
  all_goals obtain ⟨c2, z2⟩ := bcell b12
  all_goals clear b1
  all_goals go_wp2_with (go_at_call 59; refine (hb _).mono ?_; rintro e w3 ⟨rfl, rfl⟩)
  all_goals refine (hD _).mono ?_
  all_goals rintro e y0 ⟨rfl, d0⟩
  all_goals have f0 := on b12 d0
  all_goals clear c2 z2
  all_goals obtain ⟨c2, z2⟩ := bcell f0
  all_goals go_wp2_with fail
  all_goals have q1 : (t0 ++ ⟨#[32]⟩ ++ td ++ ⟨#[32]⟩ : ByteArray).size ≤ 12 := by simp [ByteArray.size_append]; have e : (⟨#[32]⟩ : ByteArray).size = 1 := rfl; omega
  all_goals generalize hr1 : (t0 ++ ⟨#[32]⟩ ++ td ++ ⟨#[32]⟩ : ByteArray) = r1 at *
  all_goals refine (hA _).mono ?_
  all_goals rintro e y1 ⟨rfl, d1⟩
  all_goals have f1 := on f0 d1
  all_goals clear c2 z2
  all_goals obtain ⟨c2, z2⟩ := bcell f1
  all_goals go_wp2_with fail
  all_goals have q2 : (r1 ++ ta ++ ⟨#[32]⟩ : ByteArray).size ≤ 18 := by simp [ByteArray.size_append]; have e : (⟨#[32]⟩ : ByteArray).size = 1 := rfl; omega
  all_goals generalize hr2 : (r1 ++ ta ++ ⟨#[32]⟩ : ByteArray) = r2 at *
  all_goals refine (hI _).mono ?_
  all_goals rintro e y2 ⟨rfl, d2⟩
  all_goals have f2 := on f1 d2
  all_goals clear c2 z2
  all_goals obtain ⟨c2, z2⟩ := bcell f2
  all_goals go_wp2_with fail
  all_goals have k0 := cell_keep f2 (cell_new (i := 0) rfl)
  all_goals have k1 := cell_keep f2 (cell_new (i := 1) rfl)
  all_goals simp only [World.size_alloc] at k0 k1
  all_goals clear c2 z2
  all_goals exact bodyPost_ret (v := .agg #[.int .i64 0, .string (r2 ++ ti)]) (by simp [results, Tryz.results32, go_sem, k0, k1]) rfl ⟨by subst hr2; subst hr1; rfl, ((on (al (al (Below.refl _ _) _) _) f2).setCell (by simp) _).setCell (by simp) _⟩
end Go.Proofs.YtdmlejfopmimfaaGreatDoor
