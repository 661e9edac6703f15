/- The law FnExactNewMemory answers true at every input, and each argument reads behind the call as it read ahead of it; no condition. -/
import Derived.Test.YtedjnokeknmbaaaBase
import Derived.Test.YtedjnokeknmbaaaNew
namespace Go.Proofs.Ytedjnokeknmbaaa.fnExactNewMemoryDone
open Go.ChangeShapes Go.WideShapes Go.ChangeAt Go.RowKit
open Go.ChangeMaps (open_string shut_string)
set_option linter.unusedVariables false

set_option maxHeartbeats 2000000 in
theorem walk (p : Int) (w0 : (Lit.int .i64 p).wf = true) (w : World) :
    Calls Try.prog 5 #[.int .i64 p] w fun e w' => e = .returned (.bool true) ∧ Below w.heap.size w w' := by
  clear w0
  have fi := fun w => impl_new p w
  have fs := fun w => spec_new p w
  have hlen := newZ_len p
  generalize newC p = c at *
  generalize newZ p = Z at *
  have HLEN : Hid (1 + (Z.length : Int) ≤ 4611686018427387904) := by show _ ≤ _; omega
  have hlI : (Z.length : Int) ≤ 192 := by omega
  clear hlen
  go_enter Try.func5, Try.ntmps5
  go_wp2_with fail
  refine (fs _).mono ?_
  rintro e w1 ⟨v0, rfl, n0, b1⟩
  have N0 : Hid (Nums w1 _ v0 Z) := n0
  have B1 : Hid (Below _ w w1) := b1
  clear n0 b1
  obtain ⟨a0, cap0, rfl, _, _, _⟩ := N0.out.shape
  go_wp2_with fail
  refine (fi _).mono ?_
  rintro e w2 ⟨v1, rfl, n1, b2⟩
  obtain ⟨a1, cap1, rfl, _, _, _⟩ := n1.shape
  have qa0 := cell_keep b2 (cell_new (i := 0) rfl)
  have qa1 := cell_keep b2 (cell_new (i := 1) rfl)
  have N1 : Hid (Nums w2 _ _ Z) := n1
  have N0a : Hid (Nums w2 _ _ Z) := N0.out.keep (on (al (Below.refl _ _) _) b2)
  have B2 : Hid (Below _ w w2) := on (al B1.out _) b2
  have S12 : Hid (w1.heap.size < w2.heap.size) := by show _ < _; have := b2.size; simp at this; omega
  have s12 : w1.heap.size < w2.heap.size := S12.out
  clear n1 b2
  go_wp2_with fail
  refine (eq_mem _ _ _ _ _ _ _ (N1.out.keep (al (Below.refl _ _) _)) (N0a.out.keep (al (Below.refl _ _) _))).mono ?_
  rintro e w3 ⟨rfl, b3⟩
  have qb0 := cell_keep b3 (cell_new (i := 0) rfl)
  have qb1 := cell_keep b3 (cell_new (i := 1) rfl)
  have qc0 := cell_keep (on (al (Below.refl _ _) _) b3) qa0
  have qc1 := cell_keep (on (al (Below.refl _ _) _) b3) qa1
  have N1b : Hid (Nums w3 _ _ Z) := N1.out.keep (on (al (Below.refl _ _) _) b3)
  have N0b : Hid (Nums w3 _ _ Z) := N0a.out.keep (on (al (Below.refl _ _) _) b3)
  have B3 : Hid (Below _ w w3) := on (al B2.out _) b3
  clear qa0 qa1 b3
  go_wp2_with fail
  refine (mark_mem _ _ _ 1 _ _ N1b.out (by decide) HLEN.out).mono ?_
  rintro e w4 ⟨rfl, n4, g4⟩
  have qd0 := cell_grown g4 qc0 (own_not N1.out _ (.inl (by simp)))
  have qd1 := cell_grown g4 qc1 (own_not N1.out _ (.inl (by simp)))
  have qe0 := cell_grown g4 qb0 (own_not N1.out _ (.inr (Nat.le_refl _)))
  have qe1 := cell_grown g4 qb1 (own_not N1.out _ (.inr (Nat.le_refl _)))
  have N1c : Hid (Nums w4 _ _ (marks 1 Z.length)) := n4
  have N0c : Hid (Nums w4 _ _ Z) := N0b.out.kept g4 (own_ne N0.out N1.out (by simp))
  have B4 : Hid (Below _ w w4) := below_of_grown B3.out g4 N1b.out (by have := B1.out.size; simp; omega)
  clear qb0 qb1 qc0 qc1 n4 g4
  go_wp2_with fail
  refine (held_mem _ _ 1 Z.length _ _ N1c.out (by decide) HLEN.out).mono ?_
  rintro e w5 ⟨rfl, b5⟩
  have qf0 := cell_keep b5 qd0
  have qf1 := cell_keep b5 qd1
  have qg0 := cell_keep b5 qe0
  have qg1 := cell_keep b5 qe1
  have N1d : Hid (Nums w5 _ _ (marks 1 Z.length)) := N1c.out.keep b5
  have N0d : Hid (Nums w5 _ _ Z) := N0c.out.keep b5
  have B5 : Hid (Below _ w w5) := on B4.out b5
  clear qd0 qd1 qe0 qe1 b5
  go_wp2_with fail
  refine (fi _).mono ?_
  rintro e w6 ⟨v2, rfl, n6, b6⟩
  obtain ⟨a2, cap2, rfl, _, _, _⟩ := n6.shape
  have qh0 := cell_keep b6 qf0
  have qh1 := cell_keep b6 qf1
  have qi0 := cell_keep b6 qg0
  have qi1 := cell_keep b6 qg1
  have N1e : Hid (Nums w6 _ _ (marks 1 Z.length)) := N1d.out.keep b6
  have N0e : Hid (Nums w6 _ _ Z) := N0d.out.keep b6
  have N2 : Hid (Nums w6 _ _ Z) := n6
  have B6 : Hid (Below _ w w6) := on B5.out b6
  have s16 : w1.heap.size < w6.heap.size := block_of_cell qh0
  have s26 : w2.heap.size < w6.heap.size := block_of_cell qi0
  clear qf0 qf1 qg0 qg1 b6 n6
  go_wp2_with fail
  refine (eq_mem _ _ _ _ _ _ _ (N2.out.keep (al (Below.refl _ _) _)) (N0e.out.keep (al (Below.refl _ _) _))).mono ?_
  rintro e w7 ⟨rfl, b7⟩
  have qj0 := cell_keep b7 (cell_push _ qi0)
  have qj1 := cell_keep b7 (cell_push _ qi1)
  have N1f : Hid (Nums w7 _ _ (marks 1 Z.length)) := N1e.out.keep (on (al (Below.refl _ _) _) b7)
  have B7 : Hid (Below _ w w7) := on (al B6.out _) b7
  clear qi0 qi1 qh0 qh1 b7
  go_wp2_with fail
  refine (held_mem _ _ 1 Z.length _ _ N1f.out (by decide) HLEN.out).mono ?_
  rintro e w8 ⟨rfl, b8⟩
  go_wp2_with fail
  go_ret
  exact ⟨rfl, on B7.out b8⟩

set_option maxRecDepth 100000 in
theorem lifted (os : Os) (started : os.Started) (H : Type) (enc : TypeId × Value → H) :
    ReturnsInHanded {} Try.checked os 5 .any (Rows.fnExactNewMemorySpec.pre6 enc Try.prog Try.f5 Rows.fnExactNewMemoryRow.domain false) (Rows.fnExactNewMemorySpec.post enc Try.prog Try.f5 false true false false) := by
  refine returnsInHanded_of_change (C := Try.checked) own started (by kernel_rfl) Try.func5
    (ChangeSpec.witness6 (enc := enc) (C := Try.checked) false ⟨#[], #[.int .i64 0], []⟩ 8 (by kernel_rfl) (by kernel_rfl) (by kernel_rfl) (by kernel_rfl)) ?_
  intro W base args ds gs before hval0 hW hcnd _
  have hval : ∀ (j : Nat) t v, Try.f5.params[j]? = some t → args[j]? = some v → Value.okWide Try.prog W .any base t v := hval0
  have hW' := hW
  obtain ⟨p, q, hA0, hV, rfl, hfz, hnd⟩ := hW
  have hA : DataW.TrodAll enc Try.prog W 0 (fun _ => true) true Try.f5.params.toList args.toList ds p := hA0
  rw [Try.params5] at hA hval
  obtain ⟨v0, vs0, d0, ds0, p0, q0, hargs, rfl, rfl, h0, r0⟩ := trodAll_cons hA
  obtain ⟨rfl, rfl, rfl⟩ := trodAll_nil r0
  obtain rfl : args = #[v0] := by cases args; simp_all
  obtain ⟨rfl, rfl⟩ := trodVars_none hV
  obtain ⟨a0, rfl, rfl, rfl, w0⟩ := open_int Try.underlying2 (hval 0 2 v0 rfl rfl) h0
  clear hA0 hval0
  refine (walk a0 w0 W).mono fun e W' ⟨he, bel⟩ => ?_
  subst he
  exact ⟨_, rfl, _, _, _, [], [], [], hW', trodAll_mk1 (shut_bool Try.underlying4 _), (trodAll_cons_mk (shut_int Try.underlying2 w0) trodAll_mk0), rfl, bel.frame _, fun h => by cases h⟩

theorem over : Rows.fnExactNewMemoryRow.holds Try.pinned (OpenSpec.ofChange Rows.fnExactNewMemorySpec) :=
  OpenClaim.holds_of_wide 5 Try.f5 rfl rfl rfl rfl rfl rfl rfl ⟨rfl, rfl, rfl, rfl, rfl⟩ rfl rfl rfl rfl rfl (by kernel_rfl) Try.func5 (by kernel_rfl)
    (of_decide_eq_true (by kernel_rfl)) (by unfold Func.isWrapper; first | (rw [if_pos (by decide +kernel)]; kernel_rfl) | (rw [if_neg (by decide +kernel)]; exact ⟨rfl, rfl⟩))
    (fun os started H enc _ => lifted os started H enc)

theorem proved : Rows.FnExactNewMemorySaid := over
end Go.Proofs.Ytedjnokeknmbaaa.fnExactNewMemoryDone
