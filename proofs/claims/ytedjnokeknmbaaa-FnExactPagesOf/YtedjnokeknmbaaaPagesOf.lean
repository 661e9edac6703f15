/- The law FnExactPagesOf answers true at every input, and each argument reads behind the call as it read ahead of it; no condition. -/
import Derived.Test.YtedjnokeknmbaaaBase
import Derived.Lib.SmallJoins
import Derived.Test.YtedjnokeknmbaaaPgs
namespace Go.Proofs.Ytedjnokeknmbaaa.fnExactPagesOfDone
open Go.ChangeShapes Go.WideShapes Go.ChangeAt Go.RowKit
open Go.ChangeMaps (open_string shut_string)
set_option linter.unusedVariables false

set_option maxHeartbeats 2000000 in
theorem walk (f s : Int) (w : World) (w0 : (Lit.int .i64 f).wf = true) (w1 : (Lit.int .i64 s).wf = true) :
    Calls Try.prog 12 #[.agg #[.int .i64 f, .int .i64 s]] w fun e w' => e = .returned (.bool true) ∧ Below w.heap.size w w' := by
  clear w0 w1
  have fi := fun w => impl_pages f s w
  have fs := fun w => spec_pages f s w
  have hlen := pgZ_len f s
  generalize regV f s = c at *
  generalize pgZ f s = Z at *
  have HLEN : Hid (1 + (Z.length : Int) ≤ 4611686018427387904) := by show _ ≤ _; omega
  have hlI : (Z.length : Int) ≤ 192 := by omega
  clear hlen
  go_enter Try.func12, Try.ntmps12
  go_wp2_with fail
  refine (to_region _ _ _).mono ?_
  rintro e u0 ⟨rfl, b0⟩
  have x0 := cell_keep b0 (cell_new (i := 0) rfl)
  have x1 := cell_keep b0 (cell_new (i := 1) rfl)
  go_wp2_with fail
  refine (fs _).mono ?_
  rintro e w1 ⟨v0, rfl, n0, b1⟩
  have N0 : Hid (Nums w1 _ v0 Z) := n0
  have B1 : Hid (Below _ w w1) := on (on (al (Below.refl _ _) _) b0) b1
  have x0 := cell_keep b1 x0
  have x1 := cell_keep b1 x1
  have x0p : w.heap.size < w1.heap.size := block_of_cell x0
  have X0P : Hid (w.heap.size < w1.heap.size) := x0p
  have S0 : Hid (w.heap.size ≤ u0.heap.size) := by show _ ≤ _; have := b0.size; simp at this; omega
  clear n0 b1 b0
  obtain ⟨a0, cap0, rfl, _, _, _⟩ := N0.out.shape
  go_wp2_with fail
  refine (to_region _ _ _).mono ?_
  rintro e u1 ⟨rfl, d1⟩
  go_wp2_with fail
  refine (fi _).mono ?_
  rintro e w2 ⟨v1, rfl, n1, d2⟩
  have b2 := on d1 d2
  have x0 := cell_keep b2 (cell_push _ x0)
  have x1 := cell_keep b2 (cell_push _ x1)
  have x0p : w.heap.size < w2.heap.size := block_of_cell x0
  obtain ⟨a1, cap1, rfl, _, _, _⟩ := n1.shape
  have qa0 := cell_keep b2 (cell_new (i := 0) rfl)
  have qa1 := cell_keep b2 (cell_new (i := 1) rfl)
  have SU : Hid (w1.heap.size < u1.heap.size) := by show _ < _; have := d1.size; simp at this; omega
  have N1 : Hid (Nums w2 _ _ Z) := n1
  have N0a : Hid (Nums w2 _ _ Z) := N0.out.keep (on (al (Below.refl _ _) _) b2)
  have B2 : Hid (Below _ w w2) := on (al B1.out _) b2
  have S12 : Hid (w1.heap.size < w2.heap.size) := by show _ < _; have := b2.size; simp at this; omega
  have s12 : w1.heap.size < w2.heap.size := S12.out
  clear n1 b2 d1 d2
  go_wp2_with fail
  refine (eq_ints _ _ _ _ _ _ _ (N1.out.keep (al (Below.refl _ _) _)) (N0a.out.keep (al (Below.refl _ _) _))).mono ?_
  rintro e w3 ⟨rfl, b3⟩
  have qb0 := cell_keep b3 (cell_new (i := 0) rfl)
  have qb1 := cell_keep b3 (cell_new (i := 1) rfl)
  have qc0 := cell_keep (on (al (Below.refl _ _) _) b3) qa0
  have qc1 := cell_keep (on (al (Below.refl _ _) _) b3) qa1
  have x0 := cell_keep (on (al (Below.refl _ _) _) b3) x0
  have x1 := cell_keep (on (al (Below.refl _ _) _) b3) x1
  have N1b : Hid (Nums w3 _ _ Z) := N1.out.keep (on (al (Below.refl _ _) _) b3)
  have N0b : Hid (Nums w3 _ _ Z) := N0a.out.keep (on (al (Below.refl _ _) _) b3)
  have B3 : Hid (Below _ w w3) := on (al B2.out _) b3
  clear qa0 qa1 b3
  go_wp2_with fail
  refine (mark_ints _ _ _ 1 _ _ N1b.out (by decide) HLEN.out).mono ?_
  rintro e w4 ⟨rfl, n4, g4⟩
  have qd0 := cell_grown g4 qc0 (own_not N1.out _ (.inl SU.out))
  have qd1 := cell_grown g4 qc1 (own_not N1.out _ (.inl SU.out))
  have qe0 := cell_grown g4 qb0 (own_not N1.out _ (.inr (Nat.le_refl _)))
  have qe1 := cell_grown g4 qb1 (own_not N1.out _ (.inr (Nat.le_refl _)))
  have x0 := cell_grown g4 x0 (own_not N1.out _ (.inl (show w.heap.size < u1.heap.size by have := SU.out; have := X0P.out; omega)))
  have x1 := cell_grown g4 x1 (own_not N1.out _ (.inl (show w.heap.size < u1.heap.size by have := SU.out; have := X0P.out; omega)))
  have N1c : Hid (Nums w4 _ _ (marks 1 Z.length)) := n4
  have N0c : Hid (Nums w4 _ _ Z) := N0b.out.kept g4 (own_ne N0.out N1.out (by have := SU.out; omega))
  have B4 : Hid (Below _ w w4) := below_of_grown B3.out g4 N1b.out (by have := B1.out.size; have := SU.out; omega)
  clear qb0 qb1 qc0 qc1 n4 g4
  go_wp2_with fail
  refine (held_ints _ _ 1 Z.length _ _ N1c.out (by decide) HLEN.out).mono ?_
  rintro e w5 ⟨rfl, b5⟩
  have qf0 := cell_keep b5 qd0
  have qf1 := cell_keep b5 qd1
  have qg0 := cell_keep b5 qe0
  have qg1 := cell_keep b5 qe1
  have x0 := cell_keep b5 x0
  have x1 := cell_keep b5 x1
  have N1d : Hid (Nums w5 _ _ (marks 1 Z.length)) := N1c.out.keep b5
  have N0d : Hid (Nums w5 _ _ Z) := N0c.out.keep b5
  have B5 : Hid (Below _ w w5) := on B4.out b5
  clear qd0 qd1 qe0 qe1 b5
  go_wp2_with fail
  refine (to_region _ _ _).mono ?_
  rintro e u5 ⟨rfl, e1⟩
  go_wp2_with fail
  refine (fi _).mono ?_
  rintro e w6 ⟨v2, rfl, n6, e2⟩
  have b6 := on e1 e2
  obtain ⟨a2, cap2, rfl, _, _, _⟩ := n6.shape
  have qh0 := cell_keep b6 qf0
  have qh1 := cell_keep b6 qf1
  have qi0 := cell_keep b6 qg0
  have qi1 := cell_keep b6 qg1
  have N1e : Hid (Nums w6 _ _ (marks 1 Z.length)) := N1d.out.keep b6
  have N0e : Hid (Nums w6 _ _ Z) := N0d.out.keep b6
  have N2 : Hid (Nums w6 _ _ Z) := n6
  have B6 : Hid (Below _ w w6) := on B5.out b6
  have s16 : w1.heap.size < w6.heap.size := block_of_cell qh0
  have s26 : w2.heap.size < w6.heap.size := block_of_cell qi0
  clear qf0 qf1 qg0 qg1 b6 n6 e1 e2
  go_wp2_with fail
  refine (eq_ints _ _ _ _ _ _ _ (N2.out.keep (al (Below.refl _ _) _)) (N0e.out.keep (al (Below.refl _ _) _))).mono ?_
  rintro e w7 ⟨rfl, b7⟩
  have qj0 := cell_keep b7 (cell_push _ qi0)
  have qj1 := cell_keep b7 (cell_push _ qi1)
  have N1f : Hid (Nums w7 _ _ (marks 1 Z.length)) := N1e.out.keep (on (al (Below.refl _ _) _) b7)
  have B7 : Hid (Below _ w w7) := on (al B6.out _) b7
  clear qi0 qi1 qh0 qh1 b7
  go_wp2_with fail
  refine (held_ints _ _ 1 Z.length _ _ N1f.out (by decide) HLEN.out).mono ?_
  rintro e w8 ⟨rfl, b8⟩
  go_wp2_with fail
  go_ret
  exact ⟨rfl, on B7.out b8⟩

set_option maxRecDepth 100000 in
theorem lifted (os : Os) (started : os.Started) (H : Type) (enc : TypeId × Value → H) :
    ReturnsInHanded {} Try.checked os 12 .any (Rows.fnExactPagesOfSpec.pre6 enc Try.prog Try.f12 Rows.fnExactPagesOfRow.domain false) (Rows.fnExactPagesOfSpec.post enc Try.prog Try.f12 false true false false) := by
  refine returnsInHanded_of_change (C := Try.checked) own started (by kernel_rfl) Try.func12
    (ChangeSpec.witness6 (enc := enc) (C := Try.checked) false ⟨#[], #[.agg #[.int .i64 0, .int .i64 0]], []⟩ 8 (by kernel_rfl) (by kernel_rfl) (by kernel_rfl) (by kernel_rfl)) ?_
  intro W base args ds gs before hval0 hW hcnd _
  have hval : ∀ (j : Nat) t v, Try.f12.params[j]? = some t → args[j]? = some v → Value.okWide Try.prog W .any base t v := hval0
  have hW' := hW
  obtain ⟨p, q, hA0, hV, rfl, hfz, hnd⟩ := hW
  have hA : DataW.TrodAll enc Try.prog W 0 (fun _ => true) true Try.f12.params.toList args.toList ds p := hA0
  rw [Try.params12] at hA hval
  obtain ⟨v0, vs0, d0, ds0, p0, q0, hargs, rfl, rfl, h0, r0⟩ := trodAll_cons hA
  obtain ⟨rfl, rfl, rfl⟩ := trodAll_nil r0
  obtain rfl : args = #[v0] := by cases args; simp_all
  obtain ⟨rfl, rfl⟩ := trodVars_none hV
  have k0 := h0
  have lt0 : ∀ x ∈ p0, x.block < W.heap.size := by obtain ⟨m, hm⟩ := k0; exact DataW.trod_lt m _ _ _ hm
  obtain ⟨c0_0, c0_1, y0_0, y0_1, n0, rfl, _, _, e0_0, e0_1⟩ := Go.Joins.open_agg2 Try.underlying49 (by kernel_rfl) (by kernel_rfl) (hval 0 49 v0 rfl rfl) h0
  obtain ⟨a0_0, q0_0, _, w0_0⟩ := DataW.trod_int Try.underlying2 e0_0
  obtain rfl : c0_0 = .int .i64 a0_0 := by simpa using q0_0
  obtain ⟨a0_1, q0_1, _, w0_1⟩ := DataW.trod_int Try.underlying2 e0_1
  obtain rfl : c0_1 = .int .i64 a0_1 := by simpa using q0_1
  clear hA0 hval0
  refine (walk a0_0 a0_1 W w0_0 w0_1).mono fun e W' ⟨he, bel⟩ => ?_
  subst he
  exact ⟨_, rfl, _, _, _, [], _, [], hW', trodAll_mk1 (shut_bool Try.underlying4 _), (trodAll_cons_mk (Below.trod laidOut (by kernel_rfl) (of_decide_eq_true (by kernel_rfl)) k0 bel lt0) trodAll_mk0), rfl, bel.frame _, fun h => by cases h⟩

theorem over : Rows.fnExactPagesOfRow.holds Try.pinned (OpenSpec.ofChange Rows.fnExactPagesOfSpec) :=
  OpenClaim.holds_of_wide 12 Try.f12 rfl rfl rfl rfl rfl rfl rfl ⟨rfl, rfl, rfl, rfl, rfl⟩ rfl rfl rfl rfl rfl (by kernel_rfl) Try.func12 (by kernel_rfl)
    (of_decide_eq_true (by kernel_rfl)) (by unfold Func.isWrapper; first | (rw [if_pos (by decide +kernel)]; kernel_rfl) | (rw [if_neg (by decide +kernel)]; exact ⟨rfl, rfl⟩))
    (fun os started H enc _ => lifted os started H enc)

theorem proved : Rows.FnExactPagesOfSaid := over
end Go.Proofs.Ytedjnokeknmbaaa.fnExactPagesOfDone
