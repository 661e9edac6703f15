/- The law FnExactRegionsMeet answers true at every input, and each argument reads behind the call as it read ahead of it; no condition. -/
import Derived.Test.YtedjnokeknmbaaaBase
import Derived.Lib.SmallJoins
import Derived.Test.YtedjnokeknmbaaaRegm
import Derived.Deep.RegionWith
import Derived.Deep.Cut
namespace Go.Proofs.Ytedjnokeknmbaaa.fnExactRegionsMeetDone
open Go.ChangeShapes Go.WideShapes Go.ChangeAt Go.RowKit
open Go.ChangeMaps (open_string shut_string)
set_option linter.unusedVariables false

set_option maxHeartbeats 4000000 in
theorem walk (a b c d : Int) (w : World) (w0 : (Lit.int .i64 a).wf = true) (w1 : (Lit.int .i64 b).wf = true) (w2 : (Lit.int .i64 c).wf = true) (w3 : (Lit.int .i64 d).wf = true) :
    Calls Try.prog 10 #[.agg #[.int .i64 a, .int .i64 b], .agg #[.int .i64 c, .int .i64 d]] w fun e w' => e = .returned (.bool true) ∧ Below w.heap.size w w' := by
  clear w0 w1 w2 w3
  have fs := fun w => spec_meet a b c d w
  have fi := fun w => impl_meet a b c d w
  generalize meetB a b c d = m at *
  go_enter Try.func10, Try.ntmps10
  go_upto_region 1 with fail
  have q0 : ((w.alloc (.cells #[.int .i64 a, .int .i64 b] 49)).alloc (.cells #[.int .i64 c, .int .i64 d] 49)).cell? ⟨w.heap.size, 0, none⟩ = some (.int .i64 a) := cell_push _ (cell_new rfl)
  have q1 : ((w.alloc (.cells #[.int .i64 a, .int .i64 b] 49)).alloc (.cells #[.int .i64 c, .int .i64 d] 49)).cell? ⟨w.heap.size, 1, none⟩ = some (.int .i64 b) := cell_push _ (cell_new rfl)
  have q2 : ((w.alloc (.cells #[.int .i64 a, .int .i64 b] 49)).alloc (.cells #[.int .i64 c, .int .i64 d] 49)).cell? ⟨w.heap.size + 1, 0, none⟩ = some (.int .i64 c) := by simp
  have q3 : ((w.alloc (.cells #[.int .i64 a, .int .i64 b] 49)).alloc (.cells #[.int .i64 c, .int .i64 d] 49)).cell? ⟨w.heap.size + 1, 1, none⟩ = some (.int .i64 d) := by simp
  have B : Below w.heap.size w ((w.alloc (.cells #[.int .i64 a, .int .i64 b] 49)).alloc (.cells #[.int .i64 c, .int .i64 d] 49)) := al (al (Below.refl _ _) _) _
  go_region_with (first
    | (go_at_call 36; refine (to_region _ _ _).mono ?_; rintro e y ⟨rfl, hb⟩; have q0 := cell_keep hb q0; have q1 := cell_keep hb q1; have q2 := cell_keep hb q2; have q3 := cell_keep hb q3; first | have B := on B hb | have B := on B.drew hb | have B := on B.drew.drew hb | have B := on B.drew.drew.drew hb)
    | (go_at_call 38; refine (fs _).mono ?_; rintro e y ⟨rfl, hb⟩; have q0 := cell_keep hb q0; have q1 := cell_keep hb q1; have q2 := cell_keep hb q2; have q3 := cell_keep hb q3; first | have B := on B hb | have B := on B.drew hb | have B := on B.drew.drew hb | have B := on B.drew.drew.drew hb))
  all_goals clear fs
  all_goals go_wp2_with fail
  all_goals go_region_with (first
    | (go_at_call 36; refine (to_region _ _ _).mono ?_; rintro e y ⟨rfl, hb⟩; have q0 := cell_keep hb q0; have q1 := cell_keep hb q1; have q2 := cell_keep hb q2; have q3 := cell_keep hb q3; first | have B := on B hb | have B := on B.drew hb | have B := on B.drew.drew hb | have B := on B.drew.drew.drew hb)
    | (go_at_call 39; refine (fi _).mono ?_; rintro e y ⟨rfl, hb⟩; first | have B := on B hb | have B := on B.drew hb | have B := on B.drew.drew hb | have B := on B.drew.drew.drew hb))
  all_goals go_wp2_with fail
  all_goals go_ret
  all_goals first | exact ⟨rfl, B⟩ | exact ⟨rfl, B.drew⟩

set_option maxRecDepth 100000 in
theorem lifted (os : Os) (started : os.Started) (H : Type) (enc : TypeId × Value → H) :
    ReturnsInHanded {} Try.checked os 10 .any (Rows.fnExactRegionsMeetSpec.pre6 enc Try.prog Try.f10 Rows.fnExactRegionsMeetRow.domain false) (Rows.fnExactRegionsMeetSpec.post enc Try.prog Try.f10 false true false false) := by
  refine returnsInHanded_of_change (C := Try.checked) own started (by kernel_rfl) Try.func10
    (ChangeSpec.witness6 (enc := enc) (C := Try.checked) false ⟨#[], #[.agg #[.int .i64 0, .int .i64 0], .agg #[.int .i64 0, .int .i64 0]], []⟩ 8 (by kernel_rfl) (by kernel_rfl) (by kernel_rfl) (by kernel_rfl)) ?_
  intro W base args ds gs before hval0 hW hcnd _
  have hval : ∀ (j : Nat) t v, Try.f10.params[j]? = some t → args[j]? = some v → Value.okWide Try.prog W .any base t v := hval0
  have hW' := hW
  obtain ⟨p, q, hA0, hV, rfl, hfz, hnd⟩ := hW
  have hA : DataW.TrodAll enc Try.prog W 0 (fun _ => true) true Try.f10.params.toList args.toList ds p := hA0
  rw [Try.params10] at hA hval
  obtain ⟨v0, vs0, d0, ds0, p0, q0, hargs, rfl, rfl, h0, r0⟩ := trodAll_cons hA
  obtain ⟨v1, vs1, d1, ds1, p1, q1, rfl, rfl, rfl, h1, r1⟩ := trodAll_cons r0
  obtain ⟨rfl, rfl, rfl⟩ := trodAll_nil r1
  obtain rfl : args = #[v0, v1] := by cases args; simp_all
  obtain ⟨rfl, rfl⟩ := trodVars_none hV
  have k0 := h0
  have lt0 : ∀ x ∈ p0, x.block < W.heap.size := by obtain ⟨m, hm⟩ := k0; exact DataW.trod_lt m _ _ _ hm
  obtain ⟨c0_0, c0_1, y0_0, y0_1, n0, rfl, _, _, e0_0, e0_1⟩ := Go.Joins.open_agg2 Try.underlying49 (by kernel_rfl) (by kernel_rfl) (hval 0 49 v0 rfl rfl) h0
  obtain ⟨a0_0, q0_0, _, w0_0⟩ := DataW.trod_int Try.underlying2 e0_0
  obtain rfl : c0_0 = .int .i64 a0_0 := by simpa using q0_0
  obtain ⟨a0_1, q0_1, _, w0_1⟩ := DataW.trod_int Try.underlying2 e0_1
  obtain rfl : c0_1 = .int .i64 a0_1 := by simpa using q0_1
  have k1 := h1
  have lt1 : ∀ x ∈ p1, x.block < W.heap.size := by obtain ⟨m, hm⟩ := k1; exact DataW.trod_lt m _ _ _ hm
  obtain ⟨c1_0, c1_1, y1_0, y1_1, n1, rfl, _, _, e1_0, e1_1⟩ := Go.Joins.open_agg2 Try.underlying49 (by kernel_rfl) (by kernel_rfl) (hval 1 49 v1 rfl rfl) h1
  obtain ⟨a1_0, q1_0, _, w1_0⟩ := DataW.trod_int Try.underlying2 e1_0
  obtain rfl : c1_0 = .int .i64 a1_0 := by simpa using q1_0
  obtain ⟨a1_1, q1_1, _, w1_1⟩ := DataW.trod_int Try.underlying2 e1_1
  obtain rfl : c1_1 = .int .i64 a1_1 := by simpa using q1_1
  clear hA0 hval0
  refine (walk a0_0 a0_1 a1_0 a1_1 W w0_0 w0_1 w1_0 w1_1).mono fun e W' ⟨he, bel⟩ => ?_
  subst he
  exact ⟨_, rfl, _, _, _, [], _, [], hW', trodAll_mk1 (shut_bool Try.underlying4 _), (trodAll_cons_mk (Below.trod laidOut (by kernel_rfl) (of_decide_eq_true (by kernel_rfl)) k0 bel lt0) (trodAll_cons_mk (Below.trod laidOut (by kernel_rfl) (of_decide_eq_true (by kernel_rfl)) k1 bel lt1) trodAll_mk0)), rfl, bel.frame _, fun h => by cases h⟩

theorem over : Rows.fnExactRegionsMeetRow.holds Try.pinned (OpenSpec.ofChange Rows.fnExactRegionsMeetSpec) :=
  OpenClaim.holds_of_wide 10 Try.f10 rfl rfl rfl rfl rfl rfl rfl ⟨rfl, rfl, rfl, rfl, rfl⟩ rfl rfl rfl rfl rfl (by kernel_rfl) Try.func10 (by kernel_rfl)
    (of_decide_eq_true (by kernel_rfl)) (by unfold Func.isWrapper; first | (rw [if_pos (by decide +kernel)]; kernel_rfl) | (rw [if_neg (by decide +kernel)]; exact ⟨rfl, rfl⟩))
    (fun os started H enc _ => lifted os started H enc)

theorem proved : Rows.FnExactRegionsMeetSaid := over
end Go.Proofs.Ytedjnokeknmbaaa.fnExactRegionsMeetDone
