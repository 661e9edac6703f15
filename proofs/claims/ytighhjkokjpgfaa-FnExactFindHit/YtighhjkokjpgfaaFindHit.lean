/- The law FnExactFindHit answers true at every input, and each argument reads behind the call as it read ahead of it; no condition. -/
import Derived.Test.YtighhjkokjpgfaaBase
import Derived.Test.YtighhjkokjpgfaaSpf
import Derived.Test.YtighhjkokjpgfaaQop
import Derived.Test.YtighhjkokjpgfaaQhm
import Derived.Test.YtighhjkokjpgfaaWords
namespace Go.Proofs.Ytighhjkokjpgfaa.fnExactFindHitDone
open Go.ChangeShapes Go.WideShapes Go.ChangeAt Go.RowKit
open Go.ChangeMaps (open_string shut_string)
set_option linter.unusedVariables false

set_option maxHeartbeats 1000000 in
theorem walk (a0 : Option Addr) (len0 cap0 : Nat) (rs : List Qd) (x k : Int) (w : World) (w0 : IsQuads w a0 len0 cap0 rs) (wx : (Lit.int .i64 x).wf = true) (wk : (Lit.int .i64 k).wf = true) :
    Calls Try.prog 11 #[.slice a0 len0 cap0, .int .i64 x, .int .i64 k] w fun e w' => e = .returned (.bool true) ∧ Below w.heap.size w w' := by
  have HR : Hid (IsQuads w a0 len0 cap0 rs) := w0
  have hmax : len0 ≤ 9223372036854775807 := by have := w0.cap; unfold maxLen at this; omega
  have hlen : Hid (len0 = rs.length) := w0.len
  have HW : Hid (wfI x ∧ wfI k) := ⟨wx, wk⟩
  clear w0 wx wk
  by_cases hbig : (1048576 : Int) - len0 < 0
  · go_enter Try.func11, Try.ntmps11
    go_wp2_with (go_at_call 49; refine (sz_hits _ _ _ _ _ hmax (by decide) (by decide)).mono ?_; rintro e wx ⟨rfl, rfl⟩; rw [if_pos hbig])
    go_ret
    exact ⟨rfl, Below.refl _ _⟩
  have HB2 : Hid (len0 ≤ 1048576) := by show _ ≤ _; omega
  have HLE : Hid (rs.length ≤ 1048576) := by show _ ≤ _; have := hlen.out; omega
  clear hlen
  have fs := fun a len cap w h => spec_findHit a len cap rs x k w h
  have fi := fun a len cap w h => impl_findHit a len cap rs x k w h HW.out.1 HW.out.2
  generalize fhC rs x k = c at *
  generalize fhV rs x k = y at *
  go_enter Try.func11, Try.ntmps11
  go_wp2_with (go_at_call 49; refine (sz_hits _ _ _ _ _ hmax (by decide) (by decide)).mono ?_; rintro e w ⟨rfl, rfl⟩; rw [if_neg hbig])
  refine (to_hits _ _ _ _ _ HR.out HB2.out).mono ?_
  rintro e w1 ⟨g1, rfl, n1, b1⟩
  go_wp2_with fail
  refine (fs _ _ _ _ n1.read).mono ?_
  rintro e w2 ⟨rfl, b2⟩
  have B2 : Hid (Below _ w w2) := on b1 b2
  clear n1 b1 b2 fs
  go_wp2_with fail
  refine (to_hits _ _ _ _ _ (HR.out.stay (al B2.out _)) HB2.out).mono ?_
  rintro e w3 ⟨g3, rfl, n3, b3⟩
  have N3 : Hid (Qs _ w3 _ _ _) := n3
  have x0 := cell_keep b3 (cell_new (i := 0) rfl)
  have x1 := cell_keep b3 (cell_new (i := 1) rfl)
  have B3 : Hid (Below _ w w3) := on (al B2.out _) b3
  clear n3 b3
  go_wp2_with fail
  refine (fi _ _ _ _ N3.out.read).mono ?_
  rintro e w4 ⟨rfl, b4⟩
  have x0 := cell_keep b4 x0
  have x1 := cell_keep b4 x1
  have s4 : w2.heap.size < w4.heap.size := block_of_cell x0
  have N4 : Hid (Qs _ w4 _ _ _) := N3.out.keep b4
  have B4 : Hid (Below _ w w4) := on B3.out b4
  clear b4 fi
  go_wp2_with fail
  refine (eq_same _ _ _).mono ?_
  rintro e w5 ⟨rfl, b5⟩
  have N5 : Hid (Qs _ w5 _ _ _) := N4.out.keep (on (al (Below.refl _ _) _) b5)
  have B5 : Hid (Below _ w w5) := on (al B4.out _) b5
  clear b5
  go_wp2_with fail
  refine (to_hits _ _ _ _ _ (HR.out.stay B5.out) HB2.out).mono ?_
  rintro e w6 ⟨g6, rfl, n6, b6⟩
  go_wp2_with fail
  refine (eq_hits _ _ _ _ _ _ (N5.out.keep b6) n6).mono ?_
  rintro e w7 ⟨rfl, b7⟩
  go_wp2_with fail
  go_ret
  exact ⟨rfl, on (on B5.out b6) b7⟩

set_option maxRecDepth 100000 in
theorem lifted (os : Os) (started : os.Started) (H : Type) (enc : TypeId × Value → H) :
    ReturnsInHanded {} Try.checked os 11 .any (Rows.fnExactFindHitSpec.pre6 enc Try.prog Try.f11 Rows.fnExactFindHitRow.domain false) (Rows.fnExactFindHitSpec.post enc Try.prog Try.f11 false true false false) := by
  refine returnsInHanded_of_change (C := Try.checked) own started (by kernel_rfl) Try.func11
    (ChangeSpec.witness6 (enc := enc) (C := Try.checked) false ⟨#[], #[.slice none 0 0, .int .i64 0, .int .i64 0], []⟩ 8 (by kernel_rfl) (by kernel_rfl) (by kernel_rfl) (by kernel_rfl)) ?_
  intro W base args ds gs before hval0 hW hcnd _
  have hval : ∀ (j : Nat) t v, Try.f11.params[j]? = some t → args[j]? = some v → Value.okWide Try.prog W .any base t v := hval0
  have hW' := hW
  obtain ⟨p, q, hA0, hV, rfl, hfz, hnd⟩ := hW
  have hA : DataW.TrodAll enc Try.prog W 0 (fun _ => true) true Try.f11.params.toList args.toList ds p := hA0
  rw [Try.params11] at hA hval
  obtain ⟨v0, vs0, d0, ds0, p0, q0, hargs, rfl, rfl, h0, r0⟩ := trodAll_cons hA
  obtain ⟨v1, vs1, d1, ds1, p1, q1, rfl, rfl, rfl, h1, r1⟩ := trodAll_cons r0
  obtain ⟨v2, vs2, d2, ds2, p2, q2, rfl, rfl, rfl, h2, r2⟩ := trodAll_cons r1
  obtain ⟨rfl, rfl, rfl⟩ := trodAll_nil r2
  obtain rfl : args = #[v0, v1, v2] := by cases args; simp_all
  obtain ⟨rfl, rfl⟩ := trodVars_none hV
  obtain ⟨a0, len0, cap0, rfl⟩ := okWide_slice Try.underlying67 (hval 0 67 v0 rfl rfl)
  have k0 := h0
  have lt0 : ∀ x ∈ p0, x.block < W.heap.size := by obtain ⟨m, hm⟩ := k0; exact DataW.trod_lt m _ _ _ hm
  obtain ⟨z0, w0⟩ : ∃ rs, IsQuads W a0 len0 cap0 rs := by
    obtain ⟨fuel, hf⟩ := h0
    rcases quads_open Try.underlying67 Try.underlying73 (by kernel_rfl) rfl rfl rfl rfl Try.underlying2 Try.underlying2 Try.underlying2 Try.underlying2 (by kernel_rfl) (by kernel_rfl) (by kernel_rfl) (by kernel_rfl) hf with hcs | ⟨x, l, c, rs, hcs, hq⟩
    · simp [Value.cells] at hcs
      obtain ⟨rfl, rfl, rfl⟩ := hcs
      exact ⟨[], .inl ⟨rfl, rfl, rfl, rfl⟩⟩
    · simp [Value.cells] at hcs
      obtain ⟨rfl, rfl, rfl⟩ := hcs
      exact ⟨rs, hq⟩
  obtain ⟨a1, rfl, rfl, rfl, w1⟩ := open_int Try.underlying2 (hval 1 2 v1 rfl rfl) h1
  obtain ⟨a2, rfl, rfl, rfl, w2⟩ := open_int Try.underlying2 (hval 2 2 v2 rfl rfl) h2
  clear hA0 hval0
  refine (walk a0 len0 cap0 z0 a1 a2 W w0 w1 w2).mono fun e W' ⟨he, bel⟩ => ?_
  subst he
  exact ⟨_, rfl, _, _, _, [], _, [], hW', trodAll_mk1 (shut_bool Try.underlying4 _), (trodAll_cons_mk (Below.trod laidOut (by kernel_rfl) (of_decide_eq_true (by kernel_rfl)) k0 bel lt0) (trodAll_cons_mk (shut_int Try.underlying2 w1) (trodAll_cons_mk (shut_int Try.underlying2 w2) trodAll_mk0))), rfl, bel.frame _, fun h => by cases h⟩

theorem over : Rows.fnExactFindHitRow.holds Try.pinned (OpenSpec.ofChange Rows.fnExactFindHitSpec) :=
  OpenClaim.holds_of_wide 11 Try.f11 rfl rfl rfl rfl rfl rfl rfl ⟨rfl, rfl, rfl, rfl, rfl⟩ rfl rfl rfl rfl rfl (by kernel_rfl) Try.func11 (by kernel_rfl)
    (of_decide_eq_true (by kernel_rfl)) (by unfold Func.isWrapper; first | (rw [if_pos (by decide +kernel)]; kernel_rfl) | (rw [if_neg (by decide +kernel)]; exact ⟨rfl, rfl⟩))
    (fun os started H enc _ => lifted os started H enc)

theorem proved : Rows.FnExactFindHitSaid := over
end Go.Proofs.Ytighhjkokjpgfaa.fnExactFindHitDone
