/- The law FnExactCacheFault answers true at every input, and each argument reads behind the call as it read ahead of it; no condition. -/
import Derived.Test.YtighhjkokjpgfaaBase
import Derived.Test.YtighhjkokjpgfaaSpf
import Derived.Test.YtighhjkokjpgfaaQop
import Derived.Test.YtighhjkokjpgfaaQhm
namespace Go.Proofs.Ytighhjkokjpgfaa.fnExactCacheFaultDone
open Go.ChangeShapes Go.WideShapes Go.ChangeAt Go.RowKit
open Go.ChangeMaps (open_string shut_string)
set_option linter.unusedVariables false

set_option maxHeartbeats 1000000 in
theorem walk (a0 : Option Addr) (len0 cap0 : Nat) (rs : List Qd) (w : World) (w0 : IsQuads w a0 len0 cap0 rs) :
    Calls Try.prog 10 #[.slice a0 len0 cap0] w fun e w' => e = .returned (.bool true) ∧ Below w.heap.size w w' := by
  have HR : Hid (IsQuads w a0 len0 cap0 rs) := w0
  have hmax : len0 ≤ 9223372036854775807 := by have := w0.cap; unfold maxLen at this; omega
  have hlen : Hid (len0 = rs.length) := w0.len
  clear w0
  by_cases hbig : (1048576 : Int) - len0 < 0
  · go_enter Try.func10, Try.ntmps10
    go_wp2_with (go_at_call 49; refine (sz_hits _ _ _ _ _ hmax (by decide) (by decide)).mono ?_; rintro e wx ⟨rfl, rfl⟩; rw [if_pos hbig])
    go_ret
    exact ⟨rfl, Below.refl _ _⟩
  have HB2 : Hid (len0 ≤ 1048576) := by show _ ≤ _; omega
  clear hlen
  go_enter Try.func10, Try.ntmps10
  go_wp2_with (go_at_call 49; refine (sz_hits _ _ _ _ _ hmax (by decide) (by decide)).mono ?_; rintro e w ⟨rfl, rfl⟩; rw [if_neg hbig])
  refine (to_hits _ _ _ _ _ HR.out HB2.out).mono ?_
  rintro e w1 ⟨g1, rfl, n1, b1⟩
  go_wp2_with fail
  refine (spec_cacheFault _ _ _ rs _ n1.read).mono ?_
  rintro e w2 ⟨rfl, b2⟩
  have B2 : Hid (Below _ w w2) := on b1 b2
  clear n1 b1 b2
  generalize hm : cfV rs = m
  have HM : Hid (_ = m) := hm
  clear hm
  go_wp2_with fail
  refine (to_hits _ _ _ _ _ (HR.out.stay B2.out) HB2.out).mono ?_
  rintro e w3 ⟨g3, rfl, n3, b3⟩
  have N3 : Hid (Qs _ w3 _ _ _) := n3
  have B3 : Hid (Below _ w w3) := on B2.out b3
  clear n3 b3
  go_wp2_with fail
  refine (impl_cacheFault _ _ _ rs _ N3.out.read).mono ?_
  rw [HM.out]
  rintro e w4 ⟨rfl, b4⟩
  have N4 : Hid (Qs _ w4 _ _ _) := N3.out.keep b4
  have B4 : Hid (Below _ w w4) := on B3.out b4
  clear b4
  go_wp2_with fail
  refine (to_hits _ _ _ _ _ (HR.out.stay B4.out) HB2.out).mono ?_
  rintro e w5 ⟨g5, rfl, n5, b5⟩
  have N5 : Hid (Qs _ w5 _ _ _) := n5
  have N4' : Hid (Qs _ w5 _ _ _) := N4.out.keep b5
  have B5 : Hid (Below _ w w5) := on B4.out b5
  clear n5 b5
  go_wp2_with fail
  refine (eq_hits _ _ _ _ _ _ N4'.out N5.out).mono ?_
  rintro e w6 ⟨rfl, b6⟩
  go_wp2_with fail
  go_ret
  exact ⟨rfl, on B5.out b6⟩

set_option maxRecDepth 100000 in
theorem lifted (os : Os) (started : os.Started) (H : Type) (enc : TypeId × Value → H) :
    ReturnsInHanded {} Try.checked os 10 .any (Rows.fnExactCacheFaultSpec.pre6 enc Try.prog Try.f10 Rows.fnExactCacheFaultRow.domain false) (Rows.fnExactCacheFaultSpec.post enc Try.prog Try.f10 false true false false) := by
  refine returnsInHanded_of_change (C := Try.checked) own started (by kernel_rfl) Try.func10
    (ChangeSpec.witness6 (enc := enc) (C := Try.checked) false ⟨#[], #[.slice none 0 0], []⟩ 8 (by kernel_rfl) (by kernel_rfl) (by kernel_rfl) (by kernel_rfl)) ?_
  intro W base args ds gs before hval0 hW hcnd _
  have hval : ∀ (j : Nat) t v, Try.f10.params[j]? = some t → args[j]? = some v → Value.okWide Try.prog W .any base t v := hval0
  have hW' := hW
  obtain ⟨p, q, hA0, hV, rfl, hfz, hnd⟩ := hW
  have hA : DataW.TrodAll enc Try.prog W 0 (fun _ => true) true Try.f10.params.toList args.toList ds p := hA0
  rw [Try.params10] at hA hval
  obtain ⟨v0, vs0, d0, ds0, p0, q0, hargs, rfl, rfl, h0, r0⟩ := trodAll_cons hA
  obtain ⟨rfl, rfl, rfl⟩ := trodAll_nil r0
  obtain rfl : args = #[v0] := by cases args; simp_all
  obtain ⟨rfl, rfl⟩ := trodVars_none hV
  obtain ⟨a0, len0, cap0, rfl⟩ := okWide_slice Try.underlying67 (hval 0 67 v0 rfl rfl)
  have k0 := h0
  have lt0 : ∀ x ∈ p0, x.block < W.heap.size := by obtain ⟨m, hm⟩ := k0; exact DataW.trod_lt m _ _ _ hm
  obtain ⟨z0, w0⟩ : ∃ rs, IsQuads W a0 len0 cap0 rs := by
    obtain ⟨fuel, hf⟩ := h0
    rcases quads_open Try.underlying67 Try.underlying73 (by kernel_rfl) rfl rfl rfl rfl Try.underlying2 Try.underlying2 Try.underlying2 Try.underlying2 (by kernel_rfl) (by kernel_rfl) (by kernel_rfl) (by kernel_rfl) hf with hcs | ⟨x, l, c, rs, hcs, hq⟩
    · simp [Value.cells] at hcs
      obtain ⟨rfl, rfl, rfl⟩ := hcs
      exact ⟨[], .inl ⟨rfl, rfl, rfl, rfl⟩⟩
    · simp [Value.cells] at hcs
      obtain ⟨rfl, rfl, rfl⟩ := hcs
      exact ⟨rs, hq⟩
  clear hA0 hval0
  refine (walk a0 len0 cap0 z0 W w0).mono fun e W' ⟨he, bel⟩ => ?_
  subst he
  exact ⟨_, rfl, _, _, _, [], _, [], hW', trodAll_mk1 (shut_bool Try.underlying4 _), (trodAll_cons_mk (Below.trod laidOut (by kernel_rfl) (of_decide_eq_true (by kernel_rfl)) k0 bel lt0) trodAll_mk0), rfl, bel.frame _, fun h => by cases h⟩

theorem over : Rows.fnExactCacheFaultRow.holds Try.pinned (OpenSpec.ofChange Rows.fnExactCacheFaultSpec) :=
  OpenClaim.holds_of_wide 10 Try.f10 rfl rfl rfl rfl rfl rfl rfl ⟨rfl, rfl, rfl, rfl, rfl⟩ rfl rfl rfl rfl rfl (by kernel_rfl) Try.func10 (by kernel_rfl)
    (of_decide_eq_true (by kernel_rfl)) (by unfold Func.isWrapper; first | (rw [if_pos (by decide +kernel)]; kernel_rfl) | (rw [if_neg (by decide +kernel)]; exact ⟨rfl, rfl⟩))
    (fun os started H enc _ => lifted os started H enc)

theorem proved : Rows.FnExactCacheFaultSaid := over
end Go.Proofs.Ytighhjkokjpgfaa.fnExactCacheFaultDone
