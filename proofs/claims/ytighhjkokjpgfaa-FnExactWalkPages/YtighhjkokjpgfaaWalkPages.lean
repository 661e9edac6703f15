/- The law FnExactWalkPages answers true at every input, and each argument reads behind the call as it read ahead of it; no condition. -/
import Derived.Test.YtighhjkokjpgfaaBase
import Derived.Test.YtighhjkokjpgfaaPgx
namespace Go.Proofs.Ytighhjkokjpgfaa.fnExactWalkPagesDone
open Go.ChangeShapes Go.WideShapes Go.ChangeAt Go.RowKit
open Go.ChangeMaps (open_string shut_string)
set_option linter.unusedVariables false

set_option maxHeartbeats 1000000 in
theorem walk (a0 : Option Addr) (len0 cap0 : Nat) (rs : List (Int × Int)) (x k : Int) (w : World) (w0 : IsPairs w a0 len0 cap0 rs) (w1 : (Lit.int .i64 x).wf = true) (w2 : (Lit.int .i64 k).wf = true) :
    Calls Try.prog 6 #[.slice a0 len0 cap0, .int .i64 x, .int .i64 k] w fun e w' => e = .returned (.bool true) ∧ Below w.heap.size w w' := by
  have HR : Hid (IsPairs w a0 len0 cap0 rs) := w0
  have hmax : len0 ≤ 9223372036854775807 := by
    rcases w0 with ⟨_, h1, _, _⟩ | ⟨x, _, h1, h2, _⟩
    · omega
    · unfold maxLen at h2; omega
  have hlen : Hid (len0 = rs.length) := w0.len
  clear w0 w1 w2
  by_cases hbig : (1048576 : Int) - len0 < 0
  · go_enter Try.func6, Try.ntmps6
    go_wp2_with (go_at_call 34; refine (sz_pages _ _ _ _ _ hmax (by decide) (by decide)).mono ?_; rintro e wx ⟨rfl, rfl⟩; rw [if_pos hbig])
    go_ret
    exact ⟨rfl, Below.refl _ _⟩
  have HB2 : Hid (len0 ≤ 1048576) := by show _ ≤ _; omega
  have HLE : Hid (rs.length ≤ 1048576) := by show _ ≤ _; have := hlen.out; omega
  clear hlen
  have fs := fun w v b h => spec_walkPages v rs x k b w h HLE.out
  have fi := fun w v b h => impl_walkPages v rs x k b w h HLE.out
  generalize wpC rs x k = c at *
  generalize wpV rs x k = y at *
  go_enter Try.func6, Try.ntmps6
  go_wp2_with (go_at_call 34; refine (sz_pages _ _ _ _ _ hmax (by decide) (by decide)).mono ?_; rintro e w ⟨rfl, rfl⟩; rw [if_neg hbig])
  refine (to_pages _ _ _ _ _ HR.out HB2.out).mono ?_
  rintro e w1 ⟨g1, rfl, n1, b1⟩
  go_wp2_with fail
  refine (fs _ _ _ n1).mono ?_
  rintro e w2 ⟨rfl, b2⟩
  have B2 : Hid (Below _ w w2) := on b1 b2
  clear n1 b1 b2 fs
  go_wp2_with fail
  refine (to_pages _ _ _ _ _ (HR.out.stay (al B2.out _)) HB2.out).mono ?_
  rintro e w3 ⟨g3, rfl, n3, b3⟩
  have N3 : Hid (Prs _ w3 _ _ _) := n3
  have x0 := cell_keep b3 (cell_new (i := 0) rfl)
  have x1 := cell_keep b3 (cell_new (i := 1) rfl)
  have B3 : Hid (Below _ w w3) := on (al B2.out _) b3
  clear n3 b3
  go_wp2_with fail
  refine (fi _ _ _ N3.out).mono ?_
  rintro e w4 ⟨rfl, b4⟩
  have x0 := cell_keep b4 x0
  have x1 := cell_keep b4 x1
  have s4 : w2.heap.size < w4.heap.size := block_of_cell x0
  have N4 : Hid (Prs _ w4 _ _ _) := N3.out.keep b4
  have B4 : Hid (Below _ w w4) := on B3.out b4
  clear b4 fi
  go_wp2_with fail
  refine (eq_same _ _ _).mono ?_
  rintro e w5 ⟨rfl, b5⟩
  have N5 : Hid (Prs _ w5 _ _ _) := N4.out.keep (on (al (Below.refl _ _) _) b5)
  have B5 : Hid (Below _ w w5) := on (al B4.out _) b5
  clear b5
  go_wp2_with fail
  refine (to_pages _ _ _ _ _ (HR.out.stay B5.out) HB2.out).mono ?_
  rintro e w6 ⟨g6, rfl, n6, b6⟩
  go_wp2_with fail
  refine (eq_pages _ _ _ _ _ _ (N5.out.keep b6) n6).mono ?_
  rintro e w7 ⟨rfl, b7⟩
  go_wp2_with fail
  go_ret
  exact ⟨rfl, on (on B5.out b6) b7⟩

set_option maxRecDepth 100000 in
theorem lifted (os : Os) (started : os.Started) (H : Type) (enc : TypeId × Value → H) :
    ReturnsInHanded {} Try.checked os 6 .any (Rows.fnExactWalkPagesSpec.pre6 enc Try.prog Try.f6 Rows.fnExactWalkPagesRow.domain false) (Rows.fnExactWalkPagesSpec.post enc Try.prog Try.f6 false true false false) := by
  refine returnsInHanded_of_change (C := Try.checked) own started (by kernel_rfl) Try.func6
    (ChangeSpec.witness6 (enc := enc) (C := Try.checked) false ⟨#[], #[.slice none 0 0, .int .i64 0, .int .i64 0], []⟩ 8 (by kernel_rfl) (by kernel_rfl) (by kernel_rfl) (by kernel_rfl)) ?_
  intro W base args ds gs before hval0 hW hcnd _
  have hval : ∀ (j : Nat) t v, Try.f6.params[j]? = some t → args[j]? = some v → Value.okWide Try.prog W .any base t v := hval0
  have hW' := hW
  obtain ⟨p, q, hA0, hV, rfl, hfz, hnd⟩ := hW
  have hA : DataW.TrodAll enc Try.prog W 0 (fun _ => true) true Try.f6.params.toList args.toList ds p := hA0
  rw [Try.params6] at hA hval
  obtain ⟨v0, vs0, d0, ds0, p0, q0, hargs, rfl, rfl, h0, r0⟩ := trodAll_cons hA
  obtain ⟨v1, vs1, d1, ds1, p1, q1, rfl, rfl, rfl, h1, r1⟩ := trodAll_cons r0
  obtain ⟨v2, vs2, d2, ds2, p2, q2, rfl, rfl, rfl, h2, r2⟩ := trodAll_cons r1
  obtain ⟨rfl, rfl, rfl⟩ := trodAll_nil r2
  obtain rfl : args = #[v0, v1, v2] := by cases args; simp_all
  obtain ⟨rfl, rfl⟩ := trodVars_none hV
  obtain ⟨a0, len0, cap0, rfl⟩ := okWide_slice Try.underlying50 (hval 0 50 v0 rfl rfl)
  have k0 := h0
  have lt0 : ∀ x ∈ p0, x.block < W.heap.size := by obtain ⟨m, hm⟩ := k0; exact DataW.trod_lt m _ _ _ hm
  obtain ⟨z0, w0⟩ : ∃ rs, IsPairs W a0 len0 cap0 rs := by
    obtain ⟨fuel, hf⟩ := h0
    rcases Go.Deep.open_slice_pairs Try.underlying50 Try.underlying125 (by kernel_rfl) rfl rfl (by kernel_rfl) (by kernel_rfl) hf with ⟨hcs, _⟩ | ⟨x, l, c, m, n, V0, V1, D0, D1, P0, P1, hcs, _, hl, hm, hmm, _, hx⟩
    · simp [Value.cells] at hcs
      obtain ⟨rfl, rfl, rfl⟩ := hcs
      exact ⟨[], .inl ⟨rfl, rfl, rfl, rfl⟩⟩
    · simp [Value.cells] at hcs
      obtain ⟨rfl, rfl, rfl⟩ := hcs
      refine IsPairs.of V0 V1 hl hm fun j hj => ?_
      have hjm : j < m := by rw [hmm]; split <;> omega
      obtain ⟨g0, g1, g2, g3⟩ := hx j hjm
      obtain ⟨b0, y0, _, _⟩ := DataW.trod_int Try.underlying2 g2
      obtain ⟨b1, y1, _, _⟩ := DataW.trod_int Try.underlying2 g3
      exact ⟨g0, g1, ⟨b0, by simpa using y0⟩, ⟨b1, by simpa using y1⟩⟩
  obtain ⟨a1, rfl, rfl, rfl, w1⟩ := open_int Try.underlying2 (hval 1 2 v1 rfl rfl) h1
  obtain ⟨a2, rfl, rfl, rfl, w2⟩ := open_int Try.underlying2 (hval 2 2 v2 rfl rfl) h2
  clear hA0 hval0
  refine (walk a0 len0 cap0 z0 a1 a2 W w0 w1 w2).mono fun e W' ⟨he, bel⟩ => ?_
  subst he
  exact ⟨_, rfl, _, _, _, [], _, [], hW', trodAll_mk1 (shut_bool Try.underlying4 _), (trodAll_cons_mk (Below.trod laidOut (by kernel_rfl) (of_decide_eq_true (by kernel_rfl)) k0 bel lt0) (trodAll_cons_mk (shut_int Try.underlying2 w1) (trodAll_cons_mk (shut_int Try.underlying2 w2) trodAll_mk0))), rfl, bel.frame _, fun h => by cases h⟩

theorem over : Rows.fnExactWalkPagesRow.holds Try.pinned (OpenSpec.ofChange Rows.fnExactWalkPagesSpec) :=
  OpenClaim.holds_of_wide 6 Try.f6 rfl rfl rfl rfl rfl rfl rfl ⟨rfl, rfl, rfl, rfl, rfl⟩ rfl rfl rfl rfl rfl (by kernel_rfl) Try.func6 (by kernel_rfl)
    (of_decide_eq_true (by kernel_rfl)) (by unfold Func.isWrapper; first | (rw [if_pos (by decide +kernel)]; kernel_rfl) | (rw [if_neg (by decide +kernel)]; exact ⟨rfl, rfl⟩))
    (fun os started H enc _ => lifted os started H enc)

theorem proved : Rows.FnExactWalkPagesSaid := over
end Go.Proofs.Ytighhjkokjpgfaa.fnExactWalkPagesDone
