/- The law FnExactFlushCache answers true at every input, and each argument reads behind the call as it read ahead of it; no condition. -/
import Derived.Test.YtighhjkokjpgfaaBase
import Derived.Test.YtighhjkokjpgfaaFlw
import Derived.Test.YtighhjkokjpgfaaQop
namespace Go.Proofs.Ytighhjkokjpgfaa.fnExactFlushCacheDone
open Go.ChangeShapes Go.WideShapes Go.ChangeAt Go.RowKit
open Go.ChangeMaps (open_string shut_string)
set_option linter.unusedVariables false

set_option maxRecDepth 100000 in
set_option maxHeartbeats 4000000 in
theorem walk (a0 : Option Addr) (len0 cap0 : Nat) (rs : List Qd) (t : Int) (w : World) (w0 : IsQuads w a0 len0 cap0 rs) (_ : (Lit.int .i64 t).wf = true) :
    Calls Try.prog 13 #[.slice a0 len0 cap0, .int .i64 t] w fun e w' => e = .returned (.bool true) ∧ Below w.heap.size w w' := by
  have HR : Hid (IsQuads w a0 len0 cap0 rs) := w0
  have hmax : len0 ≤ 9223372036854775807 := by have := w0.cap; unfold maxLen at this; omega
  have HLE : Hid (len0 = rs.length) := w0.len
  clear w0
  by_cases hbig : (1048576 : Int) - len0 < 0
  · go_enter Try.func13, Try.ntmps13
    go_wp2_with (go_at_call 49; refine (sz_hits _ _ _ _ _ hmax (by decide) (by decide)).mono ?_; rintro e wx ⟨rfl, rfl⟩; rw [if_pos hbig])
    go_ret
    exact ⟨rfl, Below.refl _ _⟩
  have HB2 : Hid (len0 ≤ 1048576) := by show _ ≤ _; omega
  have fs := fun a len cap w h => spec_flushCache a len cap rs t w h
  have fi := fun a len cap w h => impl_flushCache a len cap rs t w h
  have hZ := flL_len rs t
  generalize flC rs t = c at *
  generalize flL rs t = Z at *
  have HZ : Hid (1 + ((4 * Z.length : Nat) : Int) ≤ 4611686018427387904) := by show _ ≤ _; omega
  have HRL : Hid (1 + ((4 * rs.length : Nat) : Int) ≤ 4611686018427387904) := by show _ ≤ _; have := HLE.out; have := HB2.out; omega
  have FS : Hid (∀ a len cap w, IsQuads w a len cap rs → Calls Try.prog 59 #[.slice a len cap, .int .i64 t] w fun e w' => ∃ v, e = .returned (.agg #[.int .i64 c, .int .i64 0, .bool false, v]) ∧ Qs 45 w' w.heap.size v Z ∧ Below w.heap.size w w') := fs
  have FI : Hid (∀ a len cap w, IsQuads w a len cap rs → Calls Try.prog 24 #[.slice a len cap, .int .i64 t] w fun e w' => ∃ v, e = .returned (.agg #[.int .i64 c, .int .i64 0, .bool false, v]) ∧ Qs 45 w' w.heap.size v Z ∧ Below w.heap.size w w') := fi
  obtain ⟨mZ, hmZ⟩ : ∃ mZ, 1 + ((4 * Z.length : Nat) : Int) = mZ := ⟨_, rfl⟩
  obtain ⟨mR, hmR⟩ : ∃ mR, 1 + ((4 * rs.length : Nat) : Int) = mR := ⟨_, rfl⟩
  have hlI : (0 : Int) ≤ mZ := by omega
  have hlJ : (0 : Int) ≤ mR := by omega
  have HMZ : Hid (1 + ((4 * Z.length : Nat) : Int) = mZ) := hmZ
  have HMR : Hid (1 + ((4 * rs.length : Nat) : Int) = mR) := hmR
  clear fs fi hZ HLE hmZ hmR
  go_enter Try.func13, Try.ntmps13
  go_wp2_with (go_at_call 49; refine (sz_hits _ _ _ _ _ hmax (by decide) (by decide)).mono ?_; rintro e w ⟨rfl, rfl⟩; rw [if_neg hbig])
  refine (to_hits _ _ _ _ _ HR.out HB2.out).mono ?_
  rintro e u1 ⟨g1, rfl, n1, d1⟩
  go_wp2_with fail
  refine (FS.out _ _ _ _ n1.read).mono ?_
  rintro e u2 ⟨v0, rfl, n0, d2⟩
  have N0 : Hid (Qs 45 u2 u1.heap.size v0 Z) := n0
  have B2 : Hid (Below w.heap.size w u2) := on d1 d2
  obtain ⟨xa, xc, rfl, _, _, _⟩ := n0.shape
  clear n0 n1 d1 d2 FS
  go_wp2_with fail
  refine (to_hits _ _ _ _ _ (HR.out.stay (al B2.out _)) HB2.out).mono ?_
  rintro e u3 ⟨g3, rfl, n3, d3⟩
  have N3 : Hid (Qs 45 u3 _ (.slice (some ⟨g3, 0, none⟩) len0 len0) rs) := n3
  have N03 : Hid (Qs 45 u3 u1.heap.size (.slice xa Z.length xc) Z) := N0.out.keep (on (al (Below.refl _ _) _) d3)
  have RA : Hid (Rd u3 u2.heap.size c 0 false (.slice xa Z.length xc)) := (Rd.new u2 c 0 false (.slice xa Z.length xc)).keep d3
  have B3 : Hid (Below w.heap.size w u3) := on (al B2.out _) d3
  have SZ : Hid (u2.heap.size < u3.heap.size) := RA.out.lt
  clear n3 d3
  go_wp2_with fail
  refine (FI.out _ _ _ _ N3.out.read).mono ?_
  rintro e u4 ⟨v1, rfl, n4, d4⟩
  have EV : Hid (Ev w (u4.alloc (.cells #[.int .i64 c, .int .i64 0, .bool false, v1] 39)) u2.heap.size u4.heap.size (u2.heap.size + 1) u3.heap.size c (.slice xa Z.length xc) v1 (.slice (some ⟨g3, 0, none⟩) len0 len0) Z Z rs u1.heap.size u3.heap.size (u2.heap.size + 1)) := by
    have dd := on d4 (al (Below.refl _ _) (.cells #[.int .i64 c, .int .i64 0, .bool false, v1] 39))
    refine ⟨RA.out.keep dd, Rd.new _ _ _ _ _, N03.out.keep dd, n4.keep (al (Below.refl _ _) _), ?_, on B3.out dd, by have := B2.out.size; omega, by have := SZ.out; omega, by omega, fun k hk => by have := (N0.out.lt k hk).2; omega, Nat.le_refl _, fun k hk => (N3.out.lt k hk).2, Nat.le_refl _, d4.size, fun e => by have := (n4.lt _ e).2; omega⟩
    have := N3.out.keep dd
    rw [World.size_alloc] at this
    exact this
  obtain ⟨ya, yc, rfl, _, _, _⟩ := n4.shape
  clear n4 d4
  obtain ⟨p0, p1, p2, p3⟩ := EV.out.rg
  obtain ⟨s0, s1, s2, s3⟩ := EV.out.ra
  go_wp2_with fail
  refine (eq_cacheR _ _ _ _ _ _ _ _ _ EV.out.n1 EV.out.n0).mono ?_
  rintro e u6 ⟨rfl, d6⟩
  have E6 : Hid (Ev w u6 u2.heap.size u4.heap.size (u2.heap.size + 1) u3.heap.size c (.slice xa Z.length xc) (.slice ya Z.length yc) (.slice (some ⟨g3, 0, none⟩) len0 len0) Z Z rs u1.heap.size u3.heap.size (u2.heap.size + 1)) := EV.out.keep d6
  clear d6 p0 p1 p2 p3 s0 s1 s2 s3 EV SZ RA B3 N03 N3 B2 N0
  generalize u2.heap.size = A at *
  generalize u4.heap.size = G at *
  generalize u1.heap.size = bb0 at *
  generalize u3.heap.size = NN at *
  go_wp2_with fail
  refine (to_hits _ _ _ _ _ (HR.out.stay E6.out.bl) HB2.out).mono ?_
  rintro e u7 ⟨g7, rfl, n7, d7⟩
  go_wp2_with fail
  refine (eq_hits _ _ _ _ _ _ (E6.out.keep d7).nx n7).mono ?_
  rintro e u8 ⟨rfl, d8⟩
  have E8 : Hid (Ev w u8 A G (A + 1) NN c (.slice xa Z.length xc) (.slice ya Z.length yc) (.slice (some ⟨g3, 0, none⟩) len0 len0) Z Z rs bb0 NN (A + 1)) := (E6.out.keep d7).keep d8
  clear d7 d8 n7 E6
  go_wp2_with fail
  refine (mark_hits _ _ _ _ _ E8.out.nx (by decide) HRL.out).mono ?_
  rw [HMR.out]
  rintro e u9 ⟨rfl, n9, d9⟩
  have E9 : Hid (Ev w u9 A G (A + 1) NN c (.slice xa Z.length xc) (.slice ya Z.length yc) (.slice (some ⟨g3, 0, none⟩) len0 len0) Z Z (qmarks 1 rs.length) bb0 NN (A + 1)) := E8.out.markX d9 n9
  clear n9 d9 E8
  obtain ⟨p0, p1, p2, p3⟩ := E9.out.rg
  obtain ⟨s0, s1, s2, s3⟩ := E9.out.ra
  go_wp2_with (go_at_call 55; refine (eq_cacheR _ _ _ _ _ _ _ _ _ E9.out.n1 E9.out.n0).mono ?_; rintro e v1 ⟨rfl, d10⟩; have E10 : Hid (Ev w v1 A G (A + 1) NN c (.slice xa Z.length xc) (.slice ya Z.length yc) (.slice (some ⟨g3, 0, none⟩) len0 len0) Z Z (qmarks 1 rs.length) bb0 NN (A + 1)) := E9.out.keep d10; clear p0 p1 p2 p3 s0 s1 s2 s3; obtain ⟨p0, p1, p2, p3⟩ := E10.out.rg; clear d10)
  clear E9
  refine (mark_cacheR _ _ _ _ _ _ _ _ E10.out.n1 (by decide) HZ.out).mono ?_
  rw [HMZ.out]
  rintro e v2 ⟨rfl, n11, d11⟩
  have E11 : Hid (Ev w v2 A G (A + 1) NN c (.slice xa Z.length xc) (.slice ya Z.length yc) (.slice (some ⟨g3, 0, none⟩) len0 len0) Z (qmarks 1 Z.length) (qmarks 1 rs.length) bb0 NN (A + 1)) := E10.out.mark1 d11 n11
  clear n11 d11 p0 p1 p2 p3 E10
  obtain ⟨p0, p1, p2, p3⟩ := E11.out.rg
  go_wp2_with fail
  refine (held_cacheR _ _ _ _ _ _ _ _ E11.out.n1 (by decide) HZ.out).mono ?_
  rw [HMZ.out]
  rintro e v3 ⟨rfl, d12⟩
  have E12 : Hid (Ev w v3 A G (A + 1) NN c (.slice xa Z.length xc) (.slice ya Z.length yc) (.slice (some ⟨g3, 0, none⟩) len0 len0) Z (qmarks 1 Z.length) (qmarks 1 rs.length) bb0 NN (A + 1)) := E11.out.keep d12
  clear d12 p0 p1 p2 p3 E11
  go_wp2_with fail
  refine (to_hits _ _ _ _ _ (HR.out.stay E12.out.bl) HB2.out).mono ?_
  rintro e v4 ⟨g14, rfl, n14, d14⟩
  go_wp2_with fail
  refine (FI.out _ _ _ _ n14.read).mono ?_
  rintro e v5 ⟨vh, rfl, n15, d15⟩
  have EH : Hid (Ev w (v5.alloc (.cells #[.int .i64 c, .int .i64 0, .bool false, vh] 39)) A G (A + 1) NN c (.slice xa Z.length xc) (.slice ya Z.length yc) (.slice (some ⟨g3, 0, none⟩) len0 len0) Z (qmarks 1 Z.length) (qmarks 1 rs.length) bb0 NN (A + 1)) := ((E12.out.keep d14).keep d15).keep (al (Below.refl _ _) _)
  have RH : Hid (Rd (v5.alloc (.cells #[.int .i64 c, .int .i64 0, .bool false, vh] 39)) v5.heap.size c 0 false vh) := Rd.new _ _ _ _ _
  have NH : Hid (Qs 45 (v5.alloc (.cells #[.int .i64 c, .int .i64 0, .bool false, vh] 39)) v4.heap.size vh Z) := n15.keep (al (Below.refl _ _) _)
  obtain ⟨za, zc, rfl, _, _, _⟩ := n15.shape
  clear n14 d14 n15 d15 E12
  obtain ⟨h0, h1, h2, h3⟩ := RH.out
  obtain ⟨s0, s1, s2, s3⟩ := EH.out.ra
  go_wp2_with fail
  refine (eq_cacheR _ _ _ _ _ _ _ _ _ NH.out EH.out.n0).mono ?_
  rintro e v7 ⟨rfl, d17⟩
  have E17 : Hid (Ev w v7 A G (A + 1) NN c (.slice xa Z.length xc) (.slice ya Z.length yc) (.slice (some ⟨g3, 0, none⟩) len0 len0) Z (qmarks 1 Z.length) (qmarks 1 rs.length) bb0 NN (A + 1)) := EH.out.keep d17
  clear d17 h0 h1 h2 h3 s0 s1 s2 s3 EH
  obtain ⟨p0, p1, p2, p3⟩ := E17.out.rg
  go_wp2_with fail
  refine (held_cacheR _ _ _ _ _ _ _ _ E17.out.n1 (by decide) HZ.out).mono ?_
  rw [HMZ.out]
  rintro e v8 ⟨rfl, d18⟩
  have B18 : Hid (Below w.heap.size w v8) := on E17.out.bl d18
  clear d18 p0 p1 p2 p3
  go_wp2_with fail
  go_ret
  exact ⟨rfl, B18.out⟩

set_option maxRecDepth 100000 in
theorem lifted (os : Os) (started : os.Started) (H : Type) (enc : TypeId × Value → H) :
    ReturnsInHanded {} Try.checked os 13 .any (Rows.fnExactFlushCacheSpec.pre6 enc Try.prog Try.f13 Rows.fnExactFlushCacheRow.domain false) (Rows.fnExactFlushCacheSpec.post enc Try.prog Try.f13 false true false false) := by
  refine returnsInHanded_of_change (C := Try.checked) own started (by kernel_rfl) Try.func13
    (ChangeSpec.witness6 (enc := enc) (C := Try.checked) false ⟨#[], #[.slice none 0 0, .int .i64 0], []⟩ 8 (by kernel_rfl) (by kernel_rfl) (by kernel_rfl) (by kernel_rfl)) ?_
  intro W base args ds gs before hval0 hW hcnd _
  have hval : ∀ (j : Nat) t v, Try.f13.params[j]? = some t → args[j]? = some v → Value.okWide Try.prog W .any base t v := hval0
  have hW' := hW
  obtain ⟨p, q, hA0, hV, rfl, hfz, hnd⟩ := hW
  have hA : DataW.TrodAll enc Try.prog W 0 (fun _ => true) true Try.f13.params.toList args.toList ds p := hA0
  rw [Try.params13] at hA hval
  obtain ⟨v0, vs0, d0, ds0, p0, q0, hargs, rfl, rfl, h0, r0⟩ := trodAll_cons hA
  obtain ⟨v1, vs1, d1, ds1, p1, q1, rfl, rfl, rfl, h1, r1⟩ := trodAll_cons r0
  obtain ⟨rfl, rfl, rfl⟩ := trodAll_nil r1
  obtain rfl : args = #[v0, v1] := by cases args; simp_all
  obtain ⟨rfl, rfl⟩ := trodVars_none hV
  obtain ⟨a0, len0, cap0, rfl⟩ := okWide_slice Try.underlying67 (hval 0 67 v0 rfl rfl)
  have k0 := h0
  have lt0 : ∀ x ∈ p0, x.block < W.heap.size := by obtain ⟨m, hm⟩ := k0; exact DataW.trod_lt m _ _ _ hm
  obtain ⟨z0, w0⟩ : ∃ rs, IsQuads W a0 len0 cap0 rs := by
    obtain ⟨fuel, hf⟩ := h0
    rcases quads_open Try.underlying67 Try.underlying73 (by kernel_rfl) rfl rfl rfl rfl Try.underlying2 Try.underlying2 Try.underlying2 Try.underlying2 (by kernel_rfl) (by kernel_rfl) (by kernel_rfl) (by kernel_rfl) hf with hcs | ⟨x, l, c, rs, hcs, hq⟩
    · simp [Value.cells] at hcs
      obtain ⟨rfl, rfl, rfl⟩ := hcs
      exact ⟨[], .inl ⟨rfl, rfl, rfl, rfl⟩⟩
    · simp [Value.cells] at hcs
      obtain ⟨rfl, rfl, rfl⟩ := hcs
      exact ⟨rs, hq⟩
  obtain ⟨a1, rfl, rfl, rfl, w1⟩ := open_int Try.underlying2 (hval 1 2 v1 rfl rfl) h1
  clear hA0 hval0
  refine (walk a0 len0 cap0 z0 a1 W w0 w1).mono fun e W' ⟨he, bel⟩ => ?_
  subst he
  exact ⟨_, rfl, _, _, _, [], _, [], hW', trodAll_mk1 (shut_bool Try.underlying4 _), (trodAll_cons_mk (Below.trod laidOut (by kernel_rfl) (of_decide_eq_true (by kernel_rfl)) k0 bel lt0) (trodAll_cons_mk (shut_int Try.underlying2 w1) trodAll_mk0)), rfl, bel.frame _, fun h => by cases h⟩

theorem over : Rows.fnExactFlushCacheRow.holds Try.pinned (OpenSpec.ofChange Rows.fnExactFlushCacheSpec) :=
  OpenClaim.holds_of_wide 13 Try.f13 rfl rfl rfl rfl rfl rfl rfl ⟨rfl, rfl, rfl, rfl, rfl⟩ rfl rfl rfl rfl rfl (by kernel_rfl) Try.func13 (by kernel_rfl)
    (of_decide_eq_true (by kernel_rfl)) (by unfold Func.isWrapper; first | (rw [if_pos (by decide +kernel)]; kernel_rfl) | (rw [if_neg (by decide +kernel)]; exact ⟨rfl, rfl⟩))
    (fun os started H enc _ => lifted os started H enc)

theorem proved : Rows.FnExactFlushCacheSaid := over
end Go.Proofs.Ytighhjkokjpgfaa.fnExactFlushCacheDone
