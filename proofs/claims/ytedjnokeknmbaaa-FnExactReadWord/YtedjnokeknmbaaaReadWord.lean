/- The law FnExactReadWord answers true at every input, and each argument reads behind the call as it read ahead of it; no condition. -/
import Derived.Test.YtedjnokeknmbaaaBase
import Derived.Test.YtedjnokeknmbaaaRead
namespace Go.Proofs.Ytedjnokeknmbaaa.fnExactReadWordDone
open Go.ChangeShapes Go.WideShapes Go.ChangeAt Go.RowKit
open Go.ChangeMaps (open_string shut_string)
set_option linter.unusedVariables false

set_option maxHeartbeats 1000000 in
theorem walk (a0 : Option Addr) (len0 cap0 : Nat) (z0 : List Int) (at_ : Int) (w : World) (w0 : IsRow .i64 w a0 len0 cap0 z0) (w1 : (Lit.int .i64 at_).wf = true) :
    Calls Try.prog 6 #[.slice a0 len0 cap0, .int .i64 at_] w fun e w' => e = .returned (.bool true) ∧ Below w.heap.size w w' := by
  have HR : Hid (IsRow .i64 w a0 len0 cap0 z0) := w0
  have ha := bounds_i64 w1
  have HA : Hid (_ ∧ _) := ha
  clear w0 w1 ha
  by_cases hbig : 1048576 < (len0 : Int)
  · go_enter Try.func6, Try.ntmps6
    go_wp2_with fail
    go_ret
    exact ⟨rfl, Below.refl _ _⟩
  have hb2 : (len0 : Int) ≤ 1048576 := by omega
  clear hbig
  go_enter Try.func6, Try.ntmps6
  go_wp2_with fail
  refine (to_nums _ _ _ _ _ HR.out (by omega)).mono ?_
  rintro e w1 ⟨g1, rfl, n1, b1⟩
  go_wp2_with fail
  refine (spec_read _ _ _ _ _ n1 HA.out.1 HA.out.2).mono ?_
  rintro e w2 ⟨rfl, b2⟩
  have B2 : Hid (Below _ w w2) := on b1 b2
  clear n1 b1 b2
  generalize hc : readC z0 at_ = rc
  generalize hx : readX z0 at_ = rx
  have HC : Hid (_ = rc) := hc
  have HX : Hid (_ = rx) := hx
  clear hc hx
  go_wp2_with fail
  refine (to_nums _ _ _ _ _ (HR.out.stay (al B2.out _)) (by omega)).mono ?_
  rintro e w3 ⟨g3, rfl, n3, b3⟩
  obtain ⟨c3, z3⟩ := bcell b3
  have s3 : w2.heap.size < w3.heap.size := by have := b3.size; simp at this; omega
  have N3 : Hid (Nums w3 _ _ _) := n3
  have B3 : Hid (Below _ w w3) := on (al B2.out _) b3
  clear n3 b3
  go_wp2_with fail
  refine (impl_read _ _ _ _ _ N3.out HA.out.1 HA.out.2).mono ?_
  rw [HC.out, HX.out]
  rintro e w4 ⟨rfl, b4⟩
  obtain ⟨c4, z4⟩ := bcell b4
  have B4 : Hid (Below _ w w4) := on B3.out b4
  have N4 : Hid (Nums w4 _ _ _) := N3.out.keep b4
  have s4 : w2.heap.size < w4.heap.size := by have := b4.size; omega
  clear b4
  go_wp2_with fail
  refine (eq_same _ _ _).mono ?_
  rintro e w5 ⟨rfl, b5⟩
  have B5 : Hid (Below _ w w5) := on (al B4.out _) b5
  have N5 : Hid (Nums w5 _ _ _) := N4.out.keep (on (al (Below.refl _ _) _) b5)
  clear b5 c3 z3 c4 z4
  go_wp2_with fail
  refine (to_nums _ _ _ _ _ (HR.out.stay B5.out) (by omega)).mono ?_
  rintro e w6 ⟨g6, rfl, n6, b6⟩
  go_wp2_with fail
  refine (eq_nums _ _ _ _ _ _ (N5.out.keep b6) n6).mono ?_
  rintro e w7 ⟨rfl, b7⟩
  go_wp2_with fail
  go_ret
  exact ⟨rfl, on (on B5.out b6) b7⟩

set_option maxRecDepth 100000 in
theorem lifted (os : Os) (started : os.Started) (H : Type) (enc : TypeId × Value → H) :
    ReturnsInHanded {} Try.checked os 6 .any (Rows.fnExactReadWordSpec.pre6 enc Try.prog Try.f6 Rows.fnExactReadWordRow.domain false) (Rows.fnExactReadWordSpec.post enc Try.prog Try.f6 false true false false) := by
  refine returnsInHanded_of_change (C := Try.checked) own started (by kernel_rfl) Try.func6
    (ChangeSpec.witness6 (enc := enc) (C := Try.checked) false ⟨#[], #[.slice none 0 0, .int .i64 0], []⟩ 8 (by kernel_rfl) (by kernel_rfl) (by kernel_rfl) (by kernel_rfl)) ?_
  intro W base args ds gs before hval0 hW hcnd _
  have hval : ∀ (j : Nat) t v, Try.f6.params[j]? = some t → args[j]? = some v → Value.okWide Try.prog W .any base t v := hval0
  have hW' := hW
  obtain ⟨p, q, hA0, hV, rfl, hfz, hnd⟩ := hW
  have hA : DataW.TrodAll enc Try.prog W 0 (fun _ => true) true Try.f6.params.toList args.toList ds p := hA0
  rw [Try.params6] at hA hval
  obtain ⟨v0, vs0, d0, ds0, p0, q0, hargs, rfl, rfl, h0, r0⟩ := trodAll_cons hA
  obtain ⟨v1, vs1, d1, ds1, p1, q1, rfl, rfl, rfl, h1, r1⟩ := trodAll_cons r0
  obtain ⟨rfl, rfl, rfl⟩ := trodAll_nil r1
  obtain rfl : args = #[v0, v1] := by cases args; simp_all
  obtain ⟨rfl, rfl⟩ := trodVars_none hV
  obtain ⟨a0, len0, cap0, rfl⟩ := okWide_slice Try.underlying24 (hval 0 24 v0 rfl rfl)
  have k0 := h0
  have lt0 : ∀ x ∈ p0, x.block < W.heap.size := by obtain ⟨m, hm⟩ := k0; exact DataW.trod_lt m _ _ _ hm
  obtain ⟨z0, w0⟩ : ∃ zs, IsRow .i64 W a0 len0 cap0 zs := by
    obtain ⟨fuel, hf⟩ := h0
    rcases open_ints Try.underlying24 Try.underlying2 (by kernel_rfl) hf with ⟨hcs, _⟩ | ⟨x, l, c, zs, hcs, _, hl, hm, hz, _, hcell, hwz⟩
    · simp [Value.cells] at hcs
      obtain ⟨rfl, rfl, rfl⟩ := hcs
      exact ⟨[], .inl ⟨rfl, rfl, rfl, rfl⟩⟩
    · simp [Value.cells] at hcs
      obtain ⟨rfl, rfl, rfl⟩ := hcs
      exact ⟨_, IsRow.of_all hl hm (by simpa using hz) hcell hwz⟩
  obtain ⟨a1, rfl, rfl, rfl, w1⟩ := open_int Try.underlying2 (hval 1 2 v1 rfl rfl) h1
  clear hA0 hval0
  refine (walk a0 len0 cap0 z0 a1 W w0 w1).mono fun e W' ⟨he, bel⟩ => ?_
  subst he
  exact ⟨_, rfl, _, _, _, [], _, [], hW', trodAll_mk1 (shut_bool Try.underlying4 _), (trodAll_cons_mk (Below.trod laidOut (by kernel_rfl) (of_decide_eq_true (by kernel_rfl)) k0 bel lt0) (trodAll_cons_mk (shut_int Try.underlying2 w1) trodAll_mk0)), rfl, bel.frame _, fun h => by cases h⟩

theorem over : Rows.fnExactReadWordRow.holds Try.pinned (OpenSpec.ofChange Rows.fnExactReadWordSpec) :=
  OpenClaim.holds_of_wide 6 Try.f6 rfl rfl rfl rfl rfl rfl rfl ⟨rfl, rfl, rfl, rfl, rfl⟩ rfl rfl rfl rfl rfl (by kernel_rfl) Try.func6 (by kernel_rfl)
    (of_decide_eq_true (by kernel_rfl)) (by unfold Func.isWrapper; first | (rw [if_pos (by decide +kernel)]; kernel_rfl) | (rw [if_neg (by decide +kernel)]; exact ⟨rfl, rfl⟩))
    (fun os started H enc _ => lifted os started H enc)

theorem proved : Rows.FnExactReadWordSaid := over
end Go.Proofs.Ytedjnokeknmbaaa.fnExactReadWordDone
