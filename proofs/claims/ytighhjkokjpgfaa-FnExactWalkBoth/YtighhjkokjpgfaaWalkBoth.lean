/- The law FnExactWalkBoth answers true at every input, and each argument reads behind the call as it read ahead of it; no condition. -/
import Derived.Test.YtighhjkokjpgfaaBase
import Derived.Test.YtighhjkokjpgfaaPgy
namespace Go.Proofs.Ytighhjkokjpgfaa.fnExactWalkBothDone
open Go.ChangeShapes Go.WideShapes Go.ChangeAt Go.RowKit
open Go.ChangeMaps (open_string shut_string)
set_option linter.unusedVariables false

set_option maxHeartbeats 1000000 in
theorem walk (a0 : Option Addr) (len0 cap0 : Nat) (rs : List (Int × Int)) (a1 : Option Addr) (len1 cap1 : Nat) (qs : List (Int × Int)) (x k : Int) (w : World) (w0 : IsPairs w a0 len0 cap0 rs) (w1 : IsPairs w a1 len1 cap1 qs) (w2 : (Lit.int .i64 x).wf = true) (w3 : (Lit.int .i64 k).wf = true) :
    Calls Try.prog 7 #[.slice a0 len0 cap0, .slice a1 len1 cap1, .int .i64 x, .int .i64 k] w fun e w' => e = .returned (.bool true) ∧ Below w.heap.size w w' := by
  have HR : Hid (IsPairs w a0 len0 cap0 rs) := w0
  have KR : Hid (IsPairs w a1 len1 cap1 qs) := w1
  have hlen : Hid (len0 = rs.length) := w0.len
  have klen : Hid (len1 = qs.length) := w1.len
  have sz0 := fun w => sz_pages a0 len0 cap0 1048576 w w0.max (by decide) (by decide)
  have kmax : len1 ≤ 9223372036854775807 := w1.max
  clear w0 w1 w2 w3
  by_cases hbig : (1048576 : Int) - len0 < 0
  · rw [if_pos hbig] at sz0
    go_enter Try.func7, Try.ntmps7
    go_wp2_with fail
    refine (sz0 _).mono ?_
    rintro e wx ⟨rfl, rfl⟩
    go_wp2_with fail
    go_ret
    exact ⟨rfl, Below.refl _ _⟩
  rw [if_neg hbig] at sz0
  have l0 : 0 ≤ (1048576 : Int) - len0 := by omega
  have sz1 := fun w => sz_pages a1 len1 cap1 ((1048576 : Int) - len0) w kmax l0 (by omega)
  have HB2 : Hid (len0 ≤ 1048576) := by show _ ≤ _; omega
  have HLE : Hid (rs.length ≤ 1048576) := by show _ ≤ _; have := hlen.out; omega
  have hn0 : ¬ (1048576 : Int) - len0 < 0 := hbig
  clear hlen hbig
  by_cases kbig : (1048576 : Int) - len0 - len1 < 0
  · rw [if_pos kbig] at sz1
    generalize (1048576 : Int) - len0 = z at *
    go_enter Try.func7, Try.ntmps7
    go_wp2_with fail
    refine (sz0 _).mono ?_
    rintro e wx ⟨rfl, rfl⟩
    go_wp2_with fail
    refine (sz1 _).mono ?_
    rintro e wx ⟨rfl, rfl⟩
    go_wp2_with fail
    go_ret
    exact ⟨rfl, Below.refl _ _⟩
  rw [if_neg kbig] at sz1
  have KB2 : Hid (len1 ≤ 1048576) := by show _ ≤ _; omega
  have KLE : Hid (qs.length ≤ 1048576) := by show _ ≤ _; have := klen.out; omega
  generalize (1048576 : Int) - len0 = z at *
  have kn0 : ¬ z - len1 < 0 := kbig
  generalize z - (len1 : Int) = z1 at *
  clear klen kbig
  have fs := fun w v u b b' h h' => spec_walkBoth v u rs qs x k b b' w h h' HLE.out KLE.out
  have fi := fun w v u b b' h h' => impl_walkBoth v u rs qs x k b b' w h h' HLE.out KLE.out
  generalize wbC rs qs x k = c at *
  generalize wbV rs qs x k = y at *
  go_enter Try.func7, Try.ntmps7
  go_wp2_with fail
  refine (sz0 _).mono ?_
  rintro e wx ⟨rfl, rfl⟩
  go_wp2_with fail
  refine (sz1 _).mono ?_
  rintro e wx ⟨rfl, rfl⟩
  go_wp2_with fail
  refine (to_pages _ _ _ _ _ HR.out HB2.out).mono ?_
  rintro e u1 ⟨g1, rfl, n1, d1⟩
  go_wp2_with fail
  refine (to_pages _ _ _ _ _ (KR.out.stay d1) KB2.out).mono ?_
  rintro e w1 ⟨g2, rfl, n2, d2⟩
  go_wp2_with fail
  refine (fs _ _ _ _ _ (n1.keep d2) n2).mono ?_
  rintro e w2 ⟨rfl, b2⟩
  have B2 : Hid (Below wx.heap.size wx w2) := on (on d1 d2) b2
  clear n1 n2 d1 d2 b2 fs sz0 sz1
  go_wp2_with fail
  refine (to_pages _ _ _ _ _ (HR.out.stay (al B2.out _)) HB2.out).mono ?_
  rintro e w3 ⟨g3, rfl, n3, b3⟩
  have N3 : Hid (Prs 86 w3 _ _ rs) := n3
  have x0 := cell_keep b3 (cell_new (i := 0) rfl)
  have x1 := cell_keep b3 (cell_new (i := 1) rfl)
  have B3 : Hid (Below wx.heap.size wx w3) := on (al B2.out _) b3
  clear n3 b3
  go_wp2_with fail
  refine (to_pages _ _ _ _ _ (KR.out.stay B3.out) KB2.out).mono ?_
  rintro e w4 ⟨g4, rfl, n4, b4⟩
  have M4 : Hid (Prs 86 w4 _ _ qs) := n4
  have N4 : Hid (Prs 86 w4 _ _ rs) := N3.out.keep b4
  have x0 := cell_keep b4 x0
  have x1 := cell_keep b4 x1
  have B4 : Hid (Below wx.heap.size wx w4) := on B3.out b4
  clear n4 b4
  go_wp2_with fail
  refine (fi _ _ _ _ _ N4.out M4.out).mono ?_
  rintro e w5 ⟨rfl, b5⟩
  have x0 := cell_keep b5 x0
  have x1 := cell_keep b5 x1
  have s5 : w2.heap.size < w5.heap.size := block_of_cell x0
  have N5 : Hid (Prs 86 w5 _ _ rs) := N4.out.keep b5
  have M5 : Hid (Prs 86 w5 _ _ qs) := M4.out.keep b5
  have B5 : Hid (Below wx.heap.size wx w5) := on B4.out b5
  clear b5 fi
  go_wp2_with fail
  refine (eq_same _ _ _).mono ?_
  rintro e w6 ⟨rfl, b6⟩
  have N6 : Hid (Prs 86 w6 _ _ rs) := N5.out.keep (on (al (Below.refl _ _) _) b6)
  have M6 : Hid (Prs 86 w6 _ _ qs) := M5.out.keep (on (al (Below.refl _ _) _) b6)
  have B6 : Hid (Below wx.heap.size wx w6) := on (al B5.out _) b6
  clear b6
  go_wp2_with fail
  refine (to_pages _ _ _ _ _ (HR.out.stay B6.out) HB2.out).mono ?_
  rintro e w7 ⟨g7, rfl, n7, b7⟩
  go_wp2_with fail
  refine (eq_pages _ _ _ _ _ _ (N6.out.keep b7) n7).mono ?_
  rintro e w8 ⟨rfl, b8⟩
  have M8 : Hid (Prs 86 w8 _ _ qs) := M6.out.keep (on b7 b8)
  have B8 : Hid (Below wx.heap.size wx w8) := on (on B6.out b7) b8
  clear n7 b7 b8
  go_wp2_with fail
  refine (to_pages _ _ _ _ _ (KR.out.stay B8.out) KB2.out).mono ?_
  rintro e w9 ⟨g9, rfl, n9, b9⟩
  go_wp2_with fail
  refine (eq_pages _ _ _ _ _ _ (M8.out.keep b9) n9).mono ?_
  rintro e wa ⟨rfl, ba⟩
  go_wp2_with fail
  go_ret
  exact ⟨rfl, on (on B8.out b9) ba⟩

set_option maxRecDepth 100000 in
theorem lifted (os : Os) (started : os.Started) (H : Type) (enc : TypeId × Value → H) :
    ReturnsInHanded {} Try.checked os 7 .any (Rows.fnExactWalkBothSpec.pre6 enc Try.prog Try.f7 Rows.fnExactWalkBothRow.domain false) (Rows.fnExactWalkBothSpec.post enc Try.prog Try.f7 false true false false) := by
  refine returnsInHanded_of_change (C := Try.checked) own started (by kernel_rfl) Try.func7
    (ChangeSpec.witness6 (enc := enc) (C := Try.checked) false ⟨#[], #[.slice none 0 0, .slice none 0 0, .int .i64 0, .int .i64 0], []⟩ 8 (by kernel_rfl) (by kernel_rfl) (by kernel_rfl) (by kernel_rfl)) ?_
  intro W base args ds gs before hval0 hW hcnd _
  have hval : ∀ (j : Nat) t v, Try.f7.params[j]? = some t → args[j]? = some v → Value.okWide Try.prog W .any base t v := hval0
  have hW' := hW
  obtain ⟨p, q, hA0, hV, rfl, hfz, hnd⟩ := hW
  have hA : DataW.TrodAll enc Try.prog W 0 (fun _ => true) true Try.f7.params.toList args.toList ds p := hA0
  rw [Try.params7] at hA hval
  obtain ⟨v0, vs0, d0, ds0, p0, q0, hargs, rfl, rfl, h0, r0⟩ := trodAll_cons hA
  obtain ⟨v1, vs1, d1, ds1, p1, q1, rfl, rfl, rfl, h1, r1⟩ := trodAll_cons r0
  obtain ⟨v2, vs2, d2, ds2, p2, q2, rfl, rfl, rfl, h2, r2⟩ := trodAll_cons r1
  obtain ⟨v3, vs3, d3, ds3, p3, q3, rfl, rfl, rfl, h3, r3⟩ := trodAll_cons r2
  obtain ⟨rfl, rfl, rfl⟩ := trodAll_nil r3
  obtain rfl : args = #[v0, v1, v2, v3] := by cases args; simp_all
  obtain ⟨rfl, rfl⟩ := trodVars_none hV
  obtain ⟨a0, len0, cap0, rfl⟩ := okWide_slice Try.underlying50 (hval 0 50 v0 rfl rfl)
  have k0 := h0
  have lt0 : ∀ x ∈ p0, x.block < W.heap.size := by obtain ⟨m, hm⟩ := k0; exact DataW.trod_lt m _ _ _ hm
  obtain ⟨z0, w0⟩ : ∃ rs, IsPairs W a0 len0 cap0 rs := by
    obtain ⟨fuel, hf⟩ := h0
    rcases Go.Deep.open_slice_pairs Try.underlying50 Try.underlying125 (by kernel_rfl) rfl rfl (by kernel_rfl) (by kernel_rfl) hf with ⟨hcs, _⟩ | ⟨x, l, c, m, n, V0, V1, D0, D1, P0, P1, hcs, _, hl, hm, hmm, _, hx⟩
    · simp [Value.cells] at hcs
      obtain ⟨rfl, rfl, rfl⟩ := hcs
      exact ⟨[], .inl ⟨rfl, rfl, rfl, rfl⟩⟩
    · simp [Value.cells] at hcs
      obtain ⟨rfl, rfl, rfl⟩ := hcs
      refine IsPairs.of V0 V1 hl hm fun j hj => ?_
      have hjm : j < m := by rw [hmm]; split <;> omega
      obtain ⟨g0, g1, g2, g3⟩ := hx j hjm
      obtain ⟨b0, y0, _, _⟩ := DataW.trod_int Try.underlying2 g2
      obtain ⟨b1, y1, _, _⟩ := DataW.trod_int Try.underlying2 g3
      exact ⟨g0, g1, ⟨b0, by simpa using y0⟩, ⟨b1, by simpa using y1⟩⟩
  obtain ⟨a1, len1, cap1, rfl⟩ := okWide_slice Try.underlying50 (hval 1 50 v1 rfl rfl)
  have k1 := h1
  have lt1 : ∀ x ∈ p1, x.block < W.heap.size := by obtain ⟨m, hm⟩ := k1; exact DataW.trod_lt m _ _ _ hm
  obtain ⟨z1, w1⟩ : ∃ rs, IsPairs W a1 len1 cap1 rs := by
    obtain ⟨fuel, hf⟩ := h1
    rcases Go.Deep.open_slice_pairs Try.underlying50 Try.underlying125 (by kernel_rfl) rfl rfl (by kernel_rfl) (by kernel_rfl) hf with ⟨hcs, _⟩ | ⟨x, l, c, m, n, V0, V1, D0, D1, P0, P1, hcs, _, hl, hm, hmm, _, hx⟩
    · simp [Value.cells] at hcs
      obtain ⟨rfl, rfl, rfl⟩ := hcs
      exact ⟨[], .inl ⟨rfl, rfl, rfl, rfl⟩⟩
    · simp [Value.cells] at hcs
      obtain ⟨rfl, rfl, rfl⟩ := hcs
      refine IsPairs.of V0 V1 hl hm fun j hj => ?_
      have hjm : j < m := by rw [hmm]; split <;> omega
      obtain ⟨g0, g1, g2, g3⟩ := hx j hjm
      obtain ⟨b0, y0, _, _⟩ := DataW.trod_int Try.underlying2 g2
      obtain ⟨b1, y1, _, _⟩ := DataW.trod_int Try.underlying2 g3
      exact ⟨g0, g1, ⟨b0, by simpa using y0⟩, ⟨b1, by simpa using y1⟩⟩
  obtain ⟨a2, rfl, rfl, rfl, w2⟩ := open_int Try.underlying2 (hval 2 2 v2 rfl rfl) h2
  obtain ⟨a3, rfl, rfl, rfl, w3⟩ := open_int Try.underlying2 (hval 3 2 v3 rfl rfl) h3
  clear hA0 hval0
  refine (walk a0 len0 cap0 z0 a1 len1 cap1 z1 a2 a3 W w0 w1 w2 w3).mono fun e W' ⟨he, bel⟩ => ?_
  subst he
  exact ⟨_, rfl, _, _, _, [], _, [], hW', trodAll_mk1 (shut_bool Try.underlying4 _), (trodAll_cons_mk (Below.trod laidOut (by kernel_rfl) (of_decide_eq_true (by kernel_rfl)) k0 bel lt0) (trodAll_cons_mk (Below.trod laidOut (by kernel_rfl) (of_decide_eq_true (by kernel_rfl)) k1 bel lt1) (trodAll_cons_mk (shut_int Try.underlying2 w2) (trodAll_cons_mk (shut_int Try.underlying2 w3) trodAll_mk0)))), rfl, bel.frame _, fun h => by cases h⟩

theorem over : Rows.fnExactWalkBothRow.holds Try.pinned (OpenSpec.ofChange Rows.fnExactWalkBothSpec) :=
  OpenClaim.holds_of_wide 7 Try.f7 rfl rfl rfl rfl rfl rfl rfl ⟨rfl, rfl, rfl, rfl, rfl⟩ rfl rfl rfl rfl rfl (by kernel_rfl) Try.func7 (by kernel_rfl)
    (of_decide_eq_true (by kernel_rfl)) (by unfold Func.isWrapper; first | (rw [if_pos (by decide +kernel)]; kernel_rfl) | (rw [if_neg (by decide +kernel)]; exact ⟨rfl, rfl⟩))
    (fun os started H enc _ => lifted os started H enc)

theorem proved : Rows.FnExactWalkBothSaid := over
end Go.Proofs.Ytighhjkokjpgfaa.fnExactWalkBothDone
