/- The law FnExactDigestOf answers true at every input, and each argument reads behind the call as it read ahead of it; no condition. -/
import Derived.Test.YtlibaciemhpkbaaBase
import Derived.Test.YtlibaciemhpkbaaDgt
namespace Go.Proofs.Ytlibaciemhpkbaa.fnExactDigestOfDone
open Go.ChangeShapes Go.WideShapes Go.ChangeAt Go.RowKit
open Go.ChangeMaps (open_string shut_string)
set_option linter.unusedVariables false

set_option maxHeartbeats 1000000 in
theorem walk (a0 : Option Addr) (len0 cap0 : Nat) (z0 : List Int) (w : World) (w0 : IsRow .i64 w a0 len0 cap0 z0) :
    Calls Try.prog 3 #[.slice a0 len0 cap0] w fun e w' => e = .returned (.bool true) ∧ Below w.heap.size w w' := by
  have HR : Hid (IsRow .i64 w a0 len0 cap0 z0) := w0
  clear w0
  by_cases hbig : 1048576 < (len0 : Int)
  · go_enter Try.func3, Try.ntmps3
    go_wp2_with fail
    go_ret
    exact ⟨rfl, Below.refl _ _⟩
  have hb2 : (len0 : Int) ≤ 1048576 := by omega
  clear hbig
  go_enter Try.func3, Try.ntmps3
  go_wp2_with fail
  refine (to_nums _ _ _ _ _ HR.out (by omega)).mono ?_
  rintro e w1 ⟨g1, rfl, n1, b1⟩
  go_wp2_with fail
  refine (s_digest _ _ _ _ n1).mono ?_
  rintro e w2 ⟨rfl, b2⟩
  have B2 : Hid (Below _ w w2) := on b1 b2
  clear n1 b1 b2
  generalize hc : dgC z0 = rc
  generalize hx : dgX z0 = rx
  have HC : Hid (_ = rc) := hc
  have HX : Hid (_ = rx) := hx
  clear hc hx
  go_wp2_with fail
  refine (to_nums _ _ _ _ _ (HR.out.stay (al B2.out _)) (by omega)).mono ?_
  rintro e w3 ⟨g3, rfl, n3, b3⟩
  obtain ⟨c3, z3⟩ := bcell b3
  have s3 : w2.heap.size < w3.heap.size := by have := b3.size; simp at this; omega
  have N3 : Hid (Nums w3 _ _ _) := n3
  have B3 : Hid (Below _ w w3) := on (al B2.out _) b3
  clear n3 b3
  go_wp2_with fail
  refine (i_digest _ _ _ _ N3.out).mono ?_
  rw [HC.out, HX.out]
  rintro e w4 ⟨rfl, b4⟩
  obtain ⟨c4, z4⟩ := bcell b4
  have B4 : Hid (Below _ w w4) := on B3.out b4
  have N4 : Hid (Nums w4 _ _ _) := N3.out.keep b4
  have s4 : w2.heap.size < w4.heap.size := by have := b4.size; omega
  clear b4
  go_wp2_with fail
  refine (eq_same _ _ _).mono ?_
  rintro e w5 ⟨rfl, b5⟩
  have B5 : Hid (Below _ w w5) := on (al B4.out _) b5
  have N5 : Hid (Nums w5 _ _ _) := N4.out.keep (on (al (Below.refl _ _) _) b5)
  clear b5 c3 z3 c4 z4
  go_wp2_with fail
  refine (to_nums _ _ _ _ _ (HR.out.stay B5.out) (by omega)).mono ?_
  rintro e w6 ⟨g6, rfl, n6, b6⟩
  go_wp2_with fail
  refine (eq_nums _ _ _ _ _ _ (N5.out.keep b6) n6).mono ?_
  rintro e w7 ⟨rfl, b7⟩
  go_wp2_with fail
  go_ret
  exact ⟨rfl, on (on B5.out b6) b7⟩

set_option maxRecDepth 100000 in
theorem lifted (os : Os) (started : os.Started) (H : Type) (enc : TypeId × Value → H) :
    ReturnsInHanded {} Try.checked os 3 .any (Rows.fnExactDigestOfSpec.pre6 enc Try.prog Try.f3 Rows.fnExactDigestOfRow.domain false) (Rows.fnExactDigestOfSpec.post enc Try.prog Try.f3 false true false false) := by
  refine returnsInHanded_of_change (C := Try.checked) own started (by kernel_rfl) Try.func3
    (ChangeSpec.witness6 (enc := enc) (C := Try.checked) false ⟨#[], #[.slice none 0 0], []⟩ 8 (by kernel_rfl) (by kernel_rfl) (by kernel_rfl) (by kernel_rfl)) ?_
  intro W base args ds gs before hval0 hW hcnd _
  have hval : ∀ (j : Nat) t v, Try.f3.params[j]? = some t → args[j]? = some v → Value.okWide Try.prog W .any base t v := hval0
  have hW' := hW
  obtain ⟨p, q, hA0, hV, rfl, hfz, hnd⟩ := hW
  have hA : DataW.TrodAll enc Try.prog W 0 (fun _ => true) true Try.f3.params.toList args.toList ds p := hA0
  rw [Try.params3] at hA hval
  obtain ⟨v0, vs0, d0, ds0, p0, q0, hargs, rfl, rfl, h0, r0⟩ := trodAll_cons hA
  obtain ⟨rfl, rfl, rfl⟩ := trodAll_nil r0
  obtain rfl : args = #[v0] := by cases args; simp_all
  obtain ⟨rfl, rfl⟩ := trodVars_none hV
  obtain ⟨a0, len0, cap0, rfl⟩ := okWide_slice Try.underlying22 (hval 0 22 v0 rfl rfl)
  have k0 := h0
  have lt0 : ∀ x ∈ p0, x.block < W.heap.size := by obtain ⟨m, hm⟩ := k0; exact DataW.trod_lt m _ _ _ hm
  obtain ⟨z0, w0⟩ : ∃ zs, IsRow .i64 W a0 len0 cap0 zs := by
    obtain ⟨fuel, hf⟩ := h0
    rcases open_ints Try.underlying22 Try.underlying2 (by kernel_rfl) hf with ⟨hcs, _⟩ | ⟨x, l, c, zs, hcs, _, hl, hm, hz, _, hcell, hwz⟩
    · simp [Value.cells] at hcs
      obtain ⟨rfl, rfl, rfl⟩ := hcs
      exact ⟨[], .inl ⟨rfl, rfl, rfl, rfl⟩⟩
    · simp [Value.cells] at hcs
      obtain ⟨rfl, rfl, rfl⟩ := hcs
      exact ⟨_, IsRow.of_all hl hm (by simpa using hz) hcell hwz⟩
  clear hA0 hval0
  refine (walk a0 len0 cap0 z0 W w0).mono fun e W' ⟨he, bel⟩ => ?_
  subst he
  exact ⟨_, rfl, _, _, _, [], _, [], hW', trodAll_mk1 (shut_bool Try.underlying4 _), (trodAll_cons_mk (Below.trod laidOut (by kernel_rfl) (of_decide_eq_true (by kernel_rfl)) k0 bel lt0) trodAll_mk0), rfl, bel.frame _, fun h => by cases h⟩

theorem over : Rows.fnExactDigestOfRow.holds Try.pinned (OpenSpec.ofChange Rows.fnExactDigestOfSpec) :=
  OpenClaim.holds_of_wide 3 Try.f3 rfl rfl rfl rfl rfl rfl rfl ⟨rfl, rfl, rfl, rfl, rfl⟩ rfl rfl rfl rfl rfl (by kernel_rfl) Try.func3 (by kernel_rfl)
    (of_decide_eq_true (by kernel_rfl)) (by unfold Func.isWrapper; first | (rw [if_pos (by decide +kernel)]; kernel_rfl) | (rw [if_neg (by decide +kernel)]; exact ⟨rfl, rfl⟩))
    (fun os started H enc _ => lifted os started H enc)

theorem proved : Rows.FnExactDigestOfSaid := over
end Go.Proofs.Ytlibaciemhpkbaa.fnExactDigestOfDone
