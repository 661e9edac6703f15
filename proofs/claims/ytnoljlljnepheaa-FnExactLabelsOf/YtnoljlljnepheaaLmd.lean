/- LabelsOf by the program. -/
import Derived.Test.YtnoljlljnepheaaLmc
namespace Go.Proofs.Ytnoljlljnepheaa
open Go.RowKit
set_option linter.unusedVariables false

theorem i_source_all (tx : Wb) (w : World) (hl : tx.length ≤ 1048576) :
    Calls Try.prog 13 #[.string (bq tx)] w fun e w' => ∃ lv v mv, e = .returned (.tuple #[.agg #[lv, v, mv], .int .i64 (labV tx).1, .int .i64 (labV tx).2.1]) ∧ Rsd w w' (cutT tx) lv v mv (labV tx) := by
  by_cases h : 1500 < tx.length
  · have e : labV tx = (2, 0, []) := by unfold labV; rw [if_pos (.inl h)]
    rw [e]
    refine (i_source_long tx w hl h).mono ?_
    rintro e w' ⟨rfl, b⟩
    exact ⟨_, _, _, rfl, rsd_bad rfl (by decide) b⟩
  · exact i_source tx w (by omega)
theorem put3 {w : World} {s : Nat} {v : Value} {Z : List Lbl} (h : Lb w (s + 1) v Z) (x y z : Value) : Lb (((w.setCell ⟨s, 0, none⟩ x).setCell ⟨s, 1, none⟩ y).setCell ⟨s, 2, none⟩ z) (s + 1) v Z := by
  have sl : ∀ (u : World) (i : Nat) (x : Value), Lb u (s + 1) v Z → Lb (u.setCell ⟨s, i, none⟩ x) (s + 1) v Z := fun u i x h2 => h2.put _ _ (fun e => by have h9 : s + 1 ≤ s := (h2.lt _ e).1; omega)
  exact sl _ _ _ (sl _ _ _ (sl _ _ _ h))
set_option maxHeartbeats 2000000 in
theorem i_labels (tx : Wb) (w : World) (hl : tx.length ≤ 1048576) :
    Calls Try.prog 5 #[.string (bq tx)] w fun e w' => ∃ v, e = .returned (.agg #[.int .i64 (labV tx).1, .int .i64 (labV tx).2.1, v]) ∧ Lb w' w.heap.size v (labV tx).2.2 ∧ Below w.heap.size w w' := by
  have hs := fun w => i_source_all tx w hl
  generalize cutT tx = W at *
  generalize labV tx = T at *
  obtain ⟨C, A, Z⟩ := T
  obtain ⟨s, hS⟩ : ∃ s, w.heap.size = s := ⟨_, rfl⟩
  have HS : Hid (w.heap.size = s) := hS
  generalize hw0 : w.alloc (.cells #[.int .i64 0, .int .i64 0, .slice none 0 0] 24) = w0
  have V0 : Hid (Vq w0 s #[.int .i64 0, .int .i64 0, .slice none 0 0] 24) := by show Vq _ _ _ _; rw [← hw0, ← hS]; exact Vq.new _ _ _
  have B0 : Hid (Below w.heap.size w w0) := by show Below _ _ _; rw [← hw0]; exact al (Below.refl _ _) _
  have Z0 : Hid (w0.heap.size = s + 1) := by show _ = _; rw [← hw0, ← hS]; simp
  go_enter Try.func5, Try.ntmps5
  go_wp2_with fail
  refine (hs _).mono ?_
  rintro e w1 ⟨lv, v, mv, rfl, R⟩
  clear hs hw0
  obtain ⟨av, cv, rfl, _⟩ := R.l.shape
  obtain ⟨al_, ml_, cl_, om_, rfl, rfl⟩ := R.sh
  have V1 : Hid (Vq w1 s #[.int .i64 0, .int .i64 0, .slice none 0 0] 24) := V0.out.keep R.b
  have L1 : Hid (Lb w1 (s + 1) (.slice av Z.length cv) Z) := by have h := R.l; rw [Z0.out] at h; exact h
  have B1 : Hid (Below w.heap.size w w1) := on B0.out R.b
  have k0 := V1.out.cell 0 rfl
  have k1 := V1.out.cell 1 rfl
  have k2 := V1.out.cell 2 rfl
  have f0 := V1.out.free 0
  have f1 := V1.out.free 1
  have f2 := V1.out.free 2
  have ls := V1.out.lt
  have NN : Hid (Vq (World.alloc _ (.cells #[.slice al_ ml_ cl_, .slice av Z.length cv, .map om_] 37)) s #[.int .i64 C, .int .i64 A, .slice av Z.length cv] 24) := (three3 V1.out (.int .i64 C) (.int .i64 A) (.slice av Z.length cv)).keep (al (Below.refl _ _) _)
  have BN : Below w.heap.size w (World.alloc _ (.cells #[.slice al_ ml_ cl_, .slice av Z.length cv, .map om_] 37)) := al (below3 B1.out (show w.heap.size ≤ s by have := HS.out; omega) (.int .i64 C) (.int .i64 A) (.slice av Z.length cv)) _
  have LN : Hid (Lb (World.alloc _ (.cells #[.slice al_ ml_ cl_, .slice av Z.length cv, .map om_] 37)) w.heap.size (.slice av Z.length cv) Z) := ((put3 L1.out (.int .i64 C) (.int .i64 A) (.slice av Z.length cv)).mono (by have := HS.out; omega)).keep (al (Below.refl _ _) _)
  clear V0 B0 Z0 R V1
  generalize Z.length = lz at *
  go_wp2_with fail
  generalize World.alloc _ (.cells #[.slice al_ ml_ cl_, .slice av lz cv, .map om_] 37) = V at *
  have x0 := NN.out.cell 0 rfl
  have x1 := NN.out.cell 1 rfl
  have x2 := NN.out.cell 2 rfl
  exact bodyPost_ret (v := .agg #[.int .i64 C, .int .i64 A, .slice av lz cv]) (by simp [results, Try.results5, go_sem, x0, x1, x2]) rfl ⟨_, rfl, LN.out, BN⟩
end Go.Proofs.Ytnoljlljnepheaa
