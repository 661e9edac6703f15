/- The law FnExactCacheFits answers true at every input, and each argument reads behind the call as it read ahead of it; no condition. -/
import Derived.Test.YtighhjkokjpgfaaBase
import Derived.Test.YtighhjkokjpgfaaSpc
import Derived.Test.YtighhjkokjpgfaaQop
import Derived.Test.YtighhjkokjpgfaaQhm
namespace Go.Proofs.Ytighhjkokjpgfaa.fnExactCacheFitsDone
open Go.ChangeShapes Go.WideShapes Go.ChangeAt Go.RowKit
open Go.ChangeMaps (open_string shut_string)
set_option linter.unusedVariables false

set_option maxHeartbeats 1000000 in
theorem walk (a0 : Option Addr) (len0 cap0 : Nat) (rs : List Qd) (t : Int) (a2 : Option Addr) (len2 cap2 : Nat) (ps : List (Int × Int)) (w : World) (w0 : IsQuads w a0 len0 cap0 rs) (wt : (Lit.int .i64 t).wf = true) (w2 : IsPairs w a2 len2 cap2 ps) :
    Calls Try.prog 14 #[.slice a0 len0 cap0, .int .i64 t, .slice a2 len2 cap2] w fun e w' => e = .returned (.bool true) ∧ Below w.heap.size w w' := by
  have HR : Hid (IsQuads w a0 len0 cap0 rs) := w0
  have HP : Hid (IsPairs w a2 len2 cap2 ps) := w2
  have hmax : len0 ≤ 9223372036854775807 := by have := w0.cap; unfold maxLen at this; omega
  have hmax2 : len2 ≤ 9223372036854775807 := by
    rcases w2 with ⟨_, h1, _, _⟩ | ⟨x, _, h1, h2, _⟩
    · omega
    · unfold maxLen at h2; omega
  have hlen2 : Hid (len2 = ps.length) := w2.len
  have HW : Hid (wfI t) := wt
  clear w0 wt w2
  by_cases hbig : (1048576 : Int) - len0 < 0
  · go_enter Try.func14, Try.ntmps14
    go_wp2_with (go_at_call 49; refine (sz_hits _ _ _ _ _ hmax (by decide) (by decide)).mono ?_; rintro e wx ⟨rfl, rfl⟩; rw [if_pos hbig])
    go_ret
    exact ⟨rfl, Below.refl _ _⟩
  have HB1 : Hid (len0 ≤ 1048576) := by show _ ≤ _; omega
  by_cases hbig2 : (1048576 : Int) - len0 - len2 < 0
  · have hx : 0 ≤ (1048576 : Int) - len0 ∧ (1048576 : Int) - len0 ≤ 1048576 := by omega
    go_enter Try.func14, Try.ntmps14
    go_wp2_with (first | (go_at_call 49; refine (sz_hits _ _ _ _ _ hmax (by decide) (by decide)).mono ?_; rintro e wx ⟨rfl, rfl⟩; rw [if_neg hbig]) | (go_at_call 34; refine (sz_pages _ _ _ _ _ hmax2 hx.1 hx.2).mono ?_; rintro e wx ⟨rfl, rfl⟩; rw [if_pos hbig2]))
    go_ret
    exact ⟨rfl, Below.refl _ _⟩
  have HB2 : Hid (len2 ≤ 1048576) := by show _ ≤ _; omega
  have HLE : Hid (ps.length ≤ 1048576) := by show _ ≤ _; have := hlen2.out; have := HB2.out; omega
  have hx : 0 ≤ (1048576 : Int) - len0 ∧ (1048576 : Int) - len0 ≤ 1048576 := by omega
  clear hlen2
  have fs := fun a len cap v b w h k => spec_cacheFits a len cap rs t v ps b w h k HLE.out
  have fi := fun a len cap v b w h k => impl_cacheFits a len cap rs t v ps b w h k HLE.out HW.out
  generalize fitV rs t ps = c at *
  go_enter Try.func14, Try.ntmps14
  go_wp2_with (go_at_call 49; refine (sz_hits _ _ _ _ _ hmax (by decide) (by decide)).mono ?_; rintro e wx ⟨rfl, rfl⟩; rw [if_neg hbig])
  refine (sz_pages _ _ _ _ _ hmax2 hx.1 hx.2).mono ?_
  rintro e w ⟨rfl, rfl⟩
  rw [if_neg (by omega)]
  go_wp2_with fail
  refine (to_hits _ _ _ _ _ HR.out HB1.out).mono ?_
  rintro e w1 ⟨g1, rfl, n1, b1⟩
  have N1 : Hid (Qs _ w1 _ _ _) := n1
  have B1 : Hid (Below _ w w1) := b1
  clear n1 b1
  go_wp2_with fail
  refine (to_pages _ _ _ _ _ (HP.out.stay B1.out) HB2.out).mono ?_
  rintro e w2 ⟨g2, rfl, n2, b2⟩
  have N1 : Hid (Qs _ w2 _ _ _) := N1.out.keep b2
  have N2 : Hid (Prs _ w2 _ _ _) := n2
  have B2 : Hid (Below _ w w2) := on B1.out b2
  clear n2 b2
  go_wp2_with fail
  refine (fs _ _ _ _ _ _ N1.out.read N2.out).mono ?_
  rintro e w3 ⟨rfl, b3⟩
  have B3 : Hid (Below _ w w3) := on B2.out b3
  clear b3 fs
  go_wp2_with fail
  refine (to_hits _ _ _ _ _ (HR.out.stay B3.out) HB1.out).mono ?_
  rintro e w4 ⟨g4, rfl, n4, b4⟩
  have N4 : Hid (Qs _ w4 _ _ _) := n4
  have B4 : Hid (Below _ w w4) := on B3.out b4
  clear n4 b4
  go_wp2_with fail
  refine (to_pages _ _ _ _ _ (HP.out.stay B4.out) HB2.out).mono ?_
  rintro e w5 ⟨g5, rfl, n5, b5⟩
  have N5 : Hid (Prs _ w5 _ _ _) := n5
  have N4 : Hid (Qs _ w5 _ _ _) := N4.out.keep b5
  have B5 : Hid (Below _ w w5) := on B4.out b5
  clear n5 b5
  go_wp2_with fail
  refine (fi _ _ _ _ _ _ N4.out.read N5.out).mono ?_
  rintro e w6 ⟨rfl, b6⟩
  have N5 : Hid (Prs _ w6 _ _ _) := N5.out.keep b6
  have N4 : Hid (Qs _ w6 _ _ _) := N4.out.keep b6
  have B6 : Hid (Below _ w w6) := on B5.out b6
  clear b6 fi
  cases c
  all_goals
    go_wp2_with fail
    refine (to_hits _ _ _ _ _ (HR.out.stay B6.out) HB1.out).mono ?_
    rintro e w7 ⟨g7, rfl, n7, b7⟩
    go_wp2_with fail
    refine (eq_hits _ _ _ _ _ _ (N4.out.keep b7) n7).mono ?_
    rintro e w8 ⟨rfl, b8⟩
    have N8 : Hid (Prs _ w8 _ _ _) := N5.out.keep (on b7 b8)
    have B8 : Hid (Below _ w w8) := on (on B6.out b7) b8
    clear n7 b7 b8
    go_wp2_with fail
    refine (to_pages _ _ _ _ _ (HP.out.stay B8.out) HB2.out).mono ?_
    rintro e w9 ⟨g9, rfl, n9, b9⟩
    go_wp2_with fail
    refine (eq_pages _ _ _ _ _ _ (N8.out.keep b9) n9).mono ?_
    rintro e wA ⟨rfl, bA⟩
    have BA : Hid (Below _ w wA) := on (on B8.out b9) bA
    clear n9 b9 bA
    go_wp2_with fail
    go_ret
    exact ⟨rfl, BA.out⟩

set_option maxRecDepth 100000 in
theorem lifted (os : Os) (started : os.Started) (H : Type) (enc : TypeId × Value → H) :
    ReturnsInHanded {} Try.checked os 14 .any (Rows.fnExactCacheFitsSpec.pre6 enc Try.prog Try.f14 Rows.fnExactCacheFitsRow.domain false) (Rows.fnExactCacheFitsSpec.post enc Try.prog Try.f14 false true false false) := by
  refine returnsInHanded_of_change (C := Try.checked) own started (by kernel_rfl) Try.func14
    (ChangeSpec.witness6 (enc := enc) (C := Try.checked) false ⟨#[], #[.slice none 0 0, .int .i64 0, .slice none 0 0], []⟩ 8 (by kernel_rfl) (by kernel_rfl) (by kernel_rfl) (by kernel_rfl)) ?_
  intro W base args ds gs before hval0 hW hcnd _
  have hval : ∀ (j : Nat) t v, Try.f14.params[j]? = some t → args[j]? = some v → Value.okWide Try.prog W .any base t v := hval0
  have hW' := hW
  obtain ⟨p, q, hA0, hV, rfl, hfz, hnd⟩ := hW
  have hA : DataW.TrodAll enc Try.prog W 0 (fun _ => true) true Try.f14.params.toList args.toList ds p := hA0
  rw [Try.params14] at hA hval
  obtain ⟨v0, vs0, d0, ds0, p0, q0, hargs, rfl, rfl, h0, r0⟩ := trodAll_cons hA
  obtain ⟨v1, vs1, d1, ds1, p1, q1, rfl, rfl, rfl, h1, r1⟩ := trodAll_cons r0
  obtain ⟨v2, vs2, d2, ds2, p2, q2, rfl, rfl, rfl, h2, r2⟩ := trodAll_cons r1
  obtain ⟨rfl, rfl, rfl⟩ := trodAll_nil r2
  obtain rfl : args = #[v0, v1, v2] := by cases args; simp_all
  obtain ⟨rfl, rfl⟩ := trodVars_none hV
  obtain ⟨a0, len0, cap0, rfl⟩ := okWide_slice Try.underlying67 (hval 0 67 v0 rfl rfl)
  have k0 := h0
  have lt0 : ∀ x ∈ p0, x.block < W.heap.size := by obtain ⟨m, hm⟩ := k0; exact DataW.trod_lt m _ _ _ hm
  obtain ⟨z0, w0⟩ : ∃ rs, IsQuads W a0 len0 cap0 rs := by
    obtain ⟨fuel, hf⟩ := h0
    rcases quads_open Try.underlying67 Try.underlying73 (by kernel_rfl) rfl rfl rfl rfl Try.underlying2 Try.underlying2 Try.underlying2 Try.underlying2 (by kernel_rfl) (by kernel_rfl) (by kernel_rfl) (by kernel_rfl) hf with hcs | ⟨x, l, c, rs, hcs, hq⟩
    · simp [Value.cells] at hcs
      obtain ⟨rfl, rfl, rfl⟩ := hcs
      exact ⟨[], .inl ⟨rfl, rfl, rfl, rfl⟩⟩
    · simp [Value.cells] at hcs
      obtain ⟨rfl, rfl, rfl⟩ := hcs
      exact ⟨rs, hq⟩
  obtain ⟨a1, rfl, rfl, rfl, w1⟩ := open_int Try.underlying2 (hval 1 2 v1 rfl rfl) h1
  obtain ⟨a2, len2, cap2, rfl⟩ := okWide_slice Try.underlying50 (hval 2 50 v2 rfl rfl)
  have k2 := h2
  have lt2 : ∀ x ∈ p2, x.block < W.heap.size := by obtain ⟨m, hm⟩ := k2; exact DataW.trod_lt m _ _ _ hm
  obtain ⟨z2, w2⟩ : ∃ rs, IsPairs W a2 len2 cap2 rs := by
    obtain ⟨fuel, hf⟩ := h2
    rcases Go.Deep.open_slice_pairs Try.underlying50 Try.underlying125 (by kernel_rfl) rfl rfl (by kernel_rfl) (by kernel_rfl) hf with ⟨hcs, _⟩ | ⟨x, l, c, m, n, V0, V1, D0, D1, P0, P1, hcs, _, hl, hm, hmm, _, hx⟩
    · simp [Value.cells] at hcs
      obtain ⟨rfl, rfl, rfl⟩ := hcs
      exact ⟨[], .inl ⟨rfl, rfl, rfl, rfl⟩⟩
    · simp [Value.cells] at hcs
      obtain ⟨rfl, rfl, rfl⟩ := hcs
      refine IsPairs.of V0 V1 hl hm fun j hj => ?_
      have hjm : j < m := by rw [hmm]; split <;> omega
      obtain ⟨g0, g1, g2, g3⟩ := hx j hjm
      obtain ⟨b0, y0, _, _⟩ := DataW.trod_int Try.underlying2 g2
      obtain ⟨b1, y1, _, _⟩ := DataW.trod_int Try.underlying2 g3
      exact ⟨g0, g1, ⟨b0, by simpa using y0⟩, ⟨b1, by simpa using y1⟩⟩
  clear hA0 hval0
  refine (walk a0 len0 cap0 z0 a1 a2 len2 cap2 z2 W w0 w1 w2).mono fun e W' ⟨he, bel⟩ => ?_
  subst he
  exact ⟨_, rfl, _, _, _, [], _, [], hW', trodAll_mk1 (shut_bool Try.underlying4 _), (trodAll_cons_mk (Below.trod laidOut (by kernel_rfl) (of_decide_eq_true (by kernel_rfl)) k0 bel lt0) (trodAll_cons_mk (shut_int Try.underlying2 w1) (trodAll_cons_mk (Below.trod laidOut (by kernel_rfl) (of_decide_eq_true (by kernel_rfl)) k2 bel lt2) trodAll_mk0))), rfl, bel.frame _, fun h => by cases h⟩

theorem over : Rows.fnExactCacheFitsRow.holds Try.pinned (OpenSpec.ofChange Rows.fnExactCacheFitsSpec) :=
  OpenClaim.holds_of_wide 14 Try.f14 rfl rfl rfl rfl rfl rfl rfl ⟨rfl, rfl, rfl, rfl, rfl⟩ rfl rfl rfl rfl rfl (by kernel_rfl) Try.func14 (by kernel_rfl)
    (of_decide_eq_true (by kernel_rfl)) (by unfold Func.isWrapper; first | (rw [if_pos (by decide +kernel)]; kernel_rfl) | (rw [if_neg (by decide +kernel)]; exact ⟨rfl, rfl⟩))
    (fun os started H enc _ => lifted os started H enc)

theorem proved : Rows.FnExactCacheFitsSaid := over
end Go.Proofs.Ytighhjkokjpgfaa.fnExactCacheFitsDone
