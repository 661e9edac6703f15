/- Answers of labels: compared. -/
import Derived.Test.YtnoljlljnepheaaLno
import Derived.Deep.RegionWith
namespace Go.Proofs.Ytnoljlljnepheaa
open Go.RowKit
set_option linter.unusedVariables false

theorem eq_label (a : Wb) (b : Int) (w : World) : Calls Try.prog 23 #[.agg #[.string (bq a), .int .i64 b], .agg #[.string (bq a), .int .i64 b]] w fun e w' => e = .returned (.bool true) ∧ Below w.heap.size w w' := by
  generalize bq a = s
  go_enter Try.func23, Try.ntmps23
  go_wp2_with fail
  go_ret
  exact ⟨rfl, al (al (Below.refl _ _) _) _⟩
set_option maxHeartbeats 1000000 in
theorem eq_labels (v u : Value) (rs : List Lbl) (b c : Nat) (w : World) (h : Lb w b v rs) (k : Lb w c u rs) :
    Calls Try.prog 14 #[v, u] w fun e w' => e = .returned (.bool true) ∧ Below w.heap.size w w' := by
  obtain ⟨a, cap, rfl, l1, l2, hg⟩ := h.shape
  obtain ⟨a', cap', rfl, m1, m2, hg'⟩ := k.shape
  have HZ : Hid (Lb w b _ rs) := h
  have KZ : Hid (Lb w c _ rs) := k
  have hl : (rs.length : Int) ≤ 9223372036854775807 := by unfold maxLen at l2; omega
  clear h k
  obtain ⟨n, hn⟩ : ∃ n, rs.length = n := ⟨_, rfl⟩
  rw [hn] at HZ KZ hl l1 m1 hg hg' ⊢
  have HN : Hid (rs.length = n) := hn
  clear hn l1 m1 l2 m2
  go_enter Try.func14, Try.ntmps14
  go_wp2_with fail
  go_loopw [5] (fun i wr => ∃ j : Nat, j ≤ n ∧ i = .int .i64 j ∧ Below w.heap.size w wr) (fun i _ => n - (intOf i).toNat)
  case atStart => exact ⟨0, Nat.zero_le _, rfl, Below.refl _ _⟩
  case round =>
    obtain ⟨j, hj, rfl, hB⟩ := hrel
    have HB : Hid (Below _ _ _) := hB
    by_cases hlt : j < n
    · obtain ⟨g, rfl⟩ := hg (by omega)
      obtain ⟨g', rfl⟩ := hg' (by omega)
      have c1 := cell_keep hB (HZ.out.cell HN.out.symm j hlt).1
      have c2 := cell_keep hB (HZ.out.cell HN.out.symm j hlt).2
      have d1 := cell_keep hB (KZ.out.cell HN.out.symm j hlt).1
      have d2 := cell_keep hB (KZ.out.cell HN.out.symm j hlt).2
      have hI : (j : Int) < (n : Int) := by omega
      have HL : Hid (j < n) := hlt
      generalize (rs.getD j ([], 0)).1 = p at *
      generalize (rs.getD j ([], 0)).2 = q at *
      clear hB hlt hg hg'
      go_wp2_with fail
      go_region_with (go_at_call 23; refine (eq_label _ _ _).mono ?_; rintro e y ⟨rfl, hb⟩; first | have BB := on HB.out hb | have BB := on HB.out.drew hb | have BB := on HB.out.drew.drew hb | have BB := on HB.out.drew.drew.drew hb)
      all_goals clear c1 c2 d1 d2
      all_goals go_wp2_with fail
      all_goals go_roundw
      all_goals first
        | (show ∃ _, _; exact ⟨j + 1, by have := HL.out; omega, by go_num, by first | exact BB | exact BB.drew⟩)
        | (have := HL.out; simp [intOf]; omega)
    · have hI : ¬ (j : Int) < (n : Int) := by omega
      clear hB
      go_wp2_with fail
      go_ret
      exact ⟨rfl, HB.out⟩
theorem eq_lres (c p : Int) (v u : Value) (zs : List Lbl) (b b' : Nat) (w : World) (h : Lb w b v zs) (k : Lb w b' u zs) :
    Calls Try.prog 6 #[.agg #[.int .i64 c, .int .i64 p, v], .agg #[.int .i64 c, .int .i64 p, u]] w fun e w' => e = .returned (.bool true) ∧ Below w.heap.size w w' := by
  obtain ⟨a, cap, rfl, _, _, _⟩ := h.shape
  obtain ⟨a', cap', rfl, _, _, _⟩ := k.shape
  have H : Hid (Lb w b _ zs) := h
  have K : Hid (Lb w b' _ zs) := k
  clear h k
  go_enter Try.func6, Try.ntmps6
  go_wp2_with fail
  refine (eq_labels _ _ _ _ _ _ (H.out.keep (al (al (Below.refl _ _) _) _)) (K.out.keep (al (al (Below.refl _ _) _) _))).mono ?_
  rintro e w1 ⟨rfl, b1⟩
  go_wp2_with fail
  go_ret
  exact ⟨rfl, on (al (al (Below.refl _ _) _) _) b1⟩
end Go.Proofs.Ytnoljlljnepheaa
