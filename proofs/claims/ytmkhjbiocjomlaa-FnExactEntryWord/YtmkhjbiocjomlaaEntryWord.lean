/- The law FnExactEntryWord answers true at every input, and each argument reads behind the call as it read ahead of it; no condition. -/
import Derived.Test.YtmkhjbiocjomlaaBase
import Derived.Lib.SmallJoins
import Derived.Test.YtmkhjbiocjomlaaPge
namespace Go.Proofs.Ytmkhjbiocjomlaa.fnExactEntryWordDone
open Go.ChangeShapes Go.WideShapes Go.ChangeAt Go.RowKit
open Go.ChangeMaps (open_string shut_string)
set_option linter.unusedVariables false

theorem walk (a b : Int) (w : World) (h0 : (Lit.int .i64 a).wf = true) (h1 : (Lit.int .i64 b).wf = true) :
    Calls Try.prog 7 #[.agg #[.int .i64 a, .int .i64 b]] w fun e w' => e = .returned (.bool true) ∧ Below w.heap.size w w' := by
  clear h0 h1
  have fs := fun w => spec_entryWord a b w
  have fi := fun w => impl_entryWord a b w
  generalize ewC a b = c at *
  generalize ewV a b = v at *
  go_enter Try.func7, Try.ntmps7
  go_wp2_with fail
  refine (to_page _ _ _).mono ?_
  rintro e u0 ⟨rfl, b0⟩
  have x0 := cell_keep b0 (cell_new (i := 0) rfl)
  have x1 := cell_keep b0 (cell_new (i := 1) rfl)
  go_wp2_with fail
  refine (fs _).mono ?_
  rintro e w1 ⟨rfl, b1⟩
  have x0 := cell_keep b1 x0
  have x1 := cell_keep b1 x1
  have s1 : w.heap.size < w1.heap.size := block_of_cell x0
  have B1 : Hid (Below _ w w1) := on (on (al (Below.refl _ _) _) b0) b1
  clear b0 b1
  go_wp2_with fail
  refine (to_page _ _ _).mono ?_
  rintro e u1 ⟨rfl, d1⟩
  have y0 := cell_keep d1 (cell_new (i := 0) rfl)
  have y1 := cell_keep d1 (cell_new (i := 1) rfl)
  go_wp2_with fail
  refine (fi _).mono ?_
  rintro e w2 ⟨rfl, d2⟩
  have y0 := cell_keep d2 y0
  have y1 := cell_keep d2 y1
  have s2 : w1.heap.size < w2.heap.size := block_of_cell y0
  have B2 : Hid (Below _ w w2) := on (on (al B1.out _) d1) d2
  clear d1 d2
  go_wp2_with fail
  refine (eq_same _ _ _).mono ?_
  rintro e w3 ⟨rfl, b3⟩
  go_wp2_with fail
  go_ret
  exact ⟨rfl, on (al B2.out _) b3⟩

set_option maxRecDepth 100000 in
theorem lifted (os : Os) (started : os.Started) (H : Type) (enc : TypeId × Value → H) :
    ReturnsInHanded {} Try.checked os 7 .any (Rows.fnExactEntryWordSpec.pre6 enc Try.prog Try.f7 Rows.fnExactEntryWordRow.domain false) (Rows.fnExactEntryWordSpec.post enc Try.prog Try.f7 false true false false) := by
  refine returnsInHanded_of_change (C := Try.checked) own started (by kernel_rfl) Try.func7
    (ChangeSpec.witness6 (enc := enc) (C := Try.checked) false ⟨#[], #[.agg #[.int .i64 0, .int .i64 0]], []⟩ 8 (by kernel_rfl) (by kernel_rfl) (by kernel_rfl) (by kernel_rfl)) ?_
  intro W base args ds gs before hval0 hW hcnd _
  have hval : ∀ (j : Nat) t v, Try.f7.params[j]? = some t → args[j]? = some v → Value.okWide Try.prog W .any base t v := hval0
  have hW' := hW
  obtain ⟨p, q, hA0, hV, rfl, hfz, hnd⟩ := hW
  have hA : DataW.TrodAll enc Try.prog W 0 (fun _ => true) true Try.f7.params.toList args.toList ds p := hA0
  rw [Try.params7] at hA hval
  obtain ⟨v0, vs0, d0, ds0, p0, q0, hargs, rfl, rfl, h0, r0⟩ := trodAll_cons hA
  obtain ⟨rfl, rfl, rfl⟩ := trodAll_nil r0
  obtain rfl : args = #[v0] := by cases args; simp_all
  obtain ⟨rfl, rfl⟩ := trodVars_none hV
  have k0 := h0
  have lt0 : ∀ x ∈ p0, x.block < W.heap.size := by obtain ⟨m, hm⟩ := k0; exact DataW.trod_lt m _ _ _ hm
  obtain ⟨c0_0, c0_1, y0_0, y0_1, n0, rfl, _, _, e0_0, e0_1⟩ := Go.Joins.open_agg2 Try.underlying50 (by kernel_rfl) (by kernel_rfl) (hval 0 50 v0 rfl rfl) h0
  obtain ⟨a0_0, q0_0, _, w0_0⟩ := DataW.trod_int Try.underlying2 e0_0
  obtain rfl : c0_0 = .int .i64 a0_0 := by simpa using q0_0
  obtain ⟨a0_1, q0_1, _, w0_1⟩ := DataW.trod_int Try.underlying2 e0_1
  obtain rfl : c0_1 = .int .i64 a0_1 := by simpa using q0_1
  clear hA0 hval0
  refine (walk a0_0 a0_1 W w0_0 w0_1).mono fun e W' ⟨he, bel⟩ => ?_
  subst he
  exact ⟨_, rfl, _, _, _, [], _, [], hW', trodAll_mk1 (shut_bool Try.underlying4 _), (trodAll_cons_mk (Below.trod laidOut (by kernel_rfl) (of_decide_eq_true (by kernel_rfl)) k0 bel lt0) trodAll_mk0), rfl, bel.frame _, fun h => by cases h⟩

theorem over : Rows.fnExactEntryWordRow.holds Try.pinned (OpenSpec.ofChange Rows.fnExactEntryWordSpec) :=
  OpenClaim.holds_of_wide 7 Try.f7 rfl rfl rfl rfl rfl rfl rfl ⟨rfl, rfl, rfl, rfl, rfl⟩ rfl rfl rfl rfl rfl (by kernel_rfl) Try.func7 (by kernel_rfl)
    (of_decide_eq_true (by kernel_rfl)) (by unfold Func.isWrapper; first | (rw [if_pos (by decide +kernel)]; kernel_rfl) | (rw [if_neg (by decide +kernel)]; exact ⟨rfl, rfl⟩))
    (fun os started H enc _ => lifted os started H enc)

theorem proved : Rows.FnExactEntryWordSaid := over
end Go.Proofs.Ytmkhjbiocjomlaa.fnExactEntryWordDone
