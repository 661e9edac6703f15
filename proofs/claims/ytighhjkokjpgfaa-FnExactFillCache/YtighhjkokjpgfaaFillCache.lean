/- The law FnExactFillCache answers true at every input, and each argument reads behind the call as it read ahead of it; no condition. -/
import Derived.Test.YtighhjkokjpgfaaBase
import Derived.Lib.SmallJoins
import Derived.Test.YtighhjkokjpgfaaFiw
import Derived.Test.YtighhjkokjpgfaaQop
namespace Go.Proofs.Ytighhjkokjpgfaa.fnExactFillCacheDone
open Go.ChangeShapes Go.WideShapes Go.ChangeAt Go.RowKit
open Go.ChangeMaps (open_string shut_string)
set_option linter.unusedVariables false

theorem rd_set4 {w : World} {R : Nat} {c' v' : Int} {f' : Bool} {s' : Value} (h : Rc w R c' v' f' s') (c v : Int) (f : Bool) (s : Value) : Rd ((((w.setCell ⟨R, 0, none⟩ (.int .i64 c)).setCell ⟨R, 1, none⟩ (.int .i64 v)).setCell ⟨R, 2, none⟩ (.bool f)).setCell ⟨R, 3, none⟩ s) R c v f s :=
  ⟨by simp [go_sem, h.r0], by simp [go_sem, h.r1], by simp [go_sem, h.r2], by simp [go_sem, h.r3]⟩
theorem rc_drew {w : World} {R : Nat} {c v : Int} {f : Bool} {s : Value} (h : Rc w R c v f s) : Rc w.drew R c v f s := ⟨h.r0, h.r1, h.r2, h.r3, h.f0, h.f1, h.f2, h.f3⟩

set_option maxRecDepth 100000 in
set_option maxHeartbeats 4000000 in
theorem walk (a0 : Option Addr) (len0 cap0 : Nat) (rs : List Qd) (q0 q1 q2 q3 : Int) (w : World) (w0 : IsQuads w a0 len0 cap0 rs) (_ : (Lit.int .i64 q0).wf = true) (_ : (Lit.int .i64 q1).wf = true) (_ : (Lit.int .i64 q2).wf = true) (_ : (Lit.int .i64 q3).wf = true) :
    Calls Try.prog 12 #[.slice a0 len0 cap0, .agg #[.int .i64 q0, .int .i64 q1, .int .i64 q2, .int .i64 q3]] w fun e w' => e = .returned (.bool true) ∧ Below w.heap.size w w' := by
  have HR : Hid (IsQuads w a0 len0 cap0 rs) := w0
  have hmax : len0 ≤ 9223372036854775807 := by have := w0.cap; unfold maxLen at this; omega
  have HLE : Hid (len0 = rs.length) := w0.len
  clear w0
  by_cases hbig : (1048576 : Int) - len0 < 0
  · go_enter Try.func12, Try.ntmps12
    go_wp2_with (go_at_call 49; refine (sz_hits _ _ _ _ _ hmax (by decide) (by decide)).mono ?_; rintro e wx ⟨rfl, rfl⟩; rw [if_pos hbig])
    go_ret
    exact ⟨rfl, al (Below.refl _ _) _⟩
  have HB2 : Hid (len0 ≤ 1048576) := by show _ ≤ _; omega
  have fs := fun a len cap w h => spec_fillCache a len cap rs ⟨q0, q1, q2, q3⟩ w h
  have fi := fun a len cap w h => impl_fillCache a len cap rs ⟨q0, q1, q2, q3⟩ w h
  have hZ := fcL_len rs ⟨q0, q1, q2, q3⟩
  generalize fcC rs ⟨q0, q1, q2, q3⟩ = c at *
  generalize fcL rs ⟨q0, q1, q2, q3⟩ = Z at *
  unfold Qd.val at fs fi
  simp only at fs fi
  have HZ : Hid (1 + ((4 * Z.length : Nat) : Int) ≤ 4611686018427387904) := by show _ ≤ _; omega
  have HRL : Hid (1 + ((4 * rs.length : Nat) : Int) ≤ 4611686018427387904) := by show _ ≤ _; have := HLE.out; have := HB2.out; omega
  have FS : Hid (∀ a len cap w, IsQuads w a len cap rs → Calls Try.prog 32 #[.slice a len cap, .agg #[.int .i64 q0, .int .i64 q1, .int .i64 q2, .int .i64 q3]] w fun e w' => ∃ v, e = .returned (.agg #[.int .i64 c, .int .i64 0, .bool false, v]) ∧ Qs 45 w' w.heap.size v Z ∧ Below w.heap.size w w') := fs
  have FI : Hid (∀ a len cap w, IsQuads w a len cap rs → Calls Try.prog 31 #[.slice a len cap, .agg #[.int .i64 q0, .int .i64 q1, .int .i64 q2, .int .i64 q3]] w fun e w' => ∃ v, e = .returned (.agg #[.int .i64 c, .int .i64 0, .bool false, v]) ∧ Qs 45 w' w.heap.size v Z ∧ Below w.heap.size w w') := fi
  obtain ⟨mZ, hmZ⟩ : ∃ mZ, 1 + ((4 * Z.length : Nat) : Int) = mZ := ⟨_, rfl⟩
  obtain ⟨mR, hmR⟩ : ∃ mR, 1 + ((4 * rs.length : Nat) : Int) = mR := ⟨_, rfl⟩
  have hlI : (0 : Int) ≤ mZ := by omega
  have hlJ : (0 : Int) ≤ mR := by omega
  have HMZ : Hid (1 + ((4 * Z.length : Nat) : Int) = mZ) := hmZ
  have HMR : Hid (1 + ((4 * rs.length : Nat) : Int) = mR) := hmR
  clear fs fi hZ HLE hmZ hmR
  obtain ⟨W, hW⟩ : ∃ W, w.alloc (.cells #[.int .i64 q0, .int .i64 q1, .int .i64 q2, .int .i64 q3] 73) = W := ⟨_, rfl⟩
  have bW : Below w.heap.size w W := by rw [← hW]; exact al (Below.refl _ _) _
  have hH : Rh W w.heap.size ⟨q0, q1, q2, q3⟩ := by rw [← hW]; exact ⟨cell_new rfl, cell_new rfl, cell_new rfl, cell_new rfl⟩
  have HW : Hid (w.alloc (.cells #[.int .i64 q0, .int .i64 q1, .int .i64 q2, .int .i64 q3] 73) = W) := hW
  have BW : Hid (Below w.heap.size w W) := bW
  have HW4 : Hid (IsQuads W a0 len0 cap0 rs) := HR.out.stay bW
  have HHW : Hid (Rh W w.heap.size ⟨q0, q1, q2, q3⟩) := hH
  clear hW bW hH
  go_enter Try.func12, Try.ntmps12
  go_upto_region 2 with fail
  rw [HW.out]
  generalize hhb : w.heap.size = hb at *
  have HHB : Hid (w.heap.size = hb) := hhb
  clear hhb
  go_wp2_with (go_at_call 49; refine (sz_hits _ _ _ _ _ hmax (by decide) (by decide)).mono ?_; rintro e wx ⟨rfl, rfl⟩; rw [if_neg hbig])
  obtain ⟨k0, k1, k2, k3⟩ := HHW.out
  simp only at k0 k1 k2 k3
  have gk0 : hb < wx.heap.size := block_of_cell k0
  go_cut [6] from 18 to 22 (fun s wy => ∃ (A : Nat) (v0 : Value), s = .pointer (some ⟨A, 0, none⟩) ∧ Rd wy A c 0 false v0 ∧ Qs 45 wy wx.heap.size v0 Z ∧ v0.ownBlock ≠ some A ∧ Below wx.heap.size wx wy)
  case first =>
    go_region_with (first
      | (go_at_call 51; refine (to_hits a0 len0 cap0 rs _ (by first | exact HW4.out.stay (Below.refl _ _).drew | exact HW4.out.stay (al (Below.refl _ _) _).drew) HB2.out).mono ?_; rintro e y1 ⟨g1, rfl, n1, d1⟩
         (first
           | (have RA1 : Hid (Rc y1 wx.heap.size 0 0 false (.slice none 0 0)) := (rc_drew (Rc.made wx)).keep d1; have D1 : Hid (Below wx.heap.size wx y1) := on (al (Below.refl _ _) _).drew d1; obtain ⟨z0, z1, z2, z3, fz0, fz1, fz2, fz3⟩ := RA1.out)
           | (have D1 : Hid (Below wx.heap.size wx y1) := on (Below.refl _ _).drew d1))
         have N1 : Hid (Qs 45 y1 _ (.slice (some ⟨g1, 0, none⟩) len0 len0) rs) := n1
         obtain ⟨k0, k1, k2, k3⟩ := HHW.out.keep D1.out
         have gk : hb < y1.heap.size := block_of_cell k0
         simp only at k0 k1 k2 k3
         clear n1 d1)
      | (go_at_call 54; refine (to_hit _ _ _ _ _).mono ?_; rintro e y2 ⟨rfl, d2⟩
         (first
           | (have RA2 : Hid (Rc y2 wx.heap.size 0 0 false (.slice none 0 0)) := RA1.out.keep d2; have D2 : Hid (Below wx.heap.size wx y2) := on D1.out d2; have N2 := N1.out.keep d2; obtain ⟨z0, z1, z2, z3, fz0, fz1, fz2, fz3⟩ := RA2.out)
           | (have RB2 : Hid (Rc y2 y1.heap.size 0 0 false (.slice none 0 0)) := (Rc.made y1).keep d2; have D2 : Hid (Below wx.heap.size wx y2) := on (al D1.out _) d2; have N2 := N1.out.keep (on (al (Below.refl _ _) _) d2); obtain ⟨z0, z1, z2, z3, fz0, fz1, fz2, fz3⟩ := RB2.out)
           | (have D2 : Hid (Below wx.heap.size wx y2) := on D1.out d2; have N2 := N1.out.keep d2))
         have N2 : Hid (Qs 45 y2 _ (.slice (some ⟨g1, 0, none⟩) len0 len0) rs) := N2
         clear d2)
      | (go_at_call 32; refine (FS.out _ _ _ _ (by first | exact N2.out.read | exact (N2.out.keep (al (Below.refl _ _) _)).read)).mono ?_; rintro e y3 ⟨v0, rfl, n3, d3⟩
         (first
           | (have RX : Hid (Rc y3 wx.heap.size 0 0 false (.slice none 0 0)) := RA2.out.keep d3; have D3 : Hid (Below wx.heap.size wx y3) := on D2.out d3; have SS : Hid (wx.heap.size < y2.heap.size ∧ wx.heap.size ≤ y2.heap.size) := ⟨RA2.out.lt, D2.out.size⟩; have N3 : Hid (Qs 45 y3 y2.heap.size v0 Z) := n3; obtain ⟨z0, z1, z2, z3, fz0, fz1, fz2, fz3⟩ := RX.out)
           | (have RX : Hid (Rc y3 y1.heap.size 0 0 false (.slice none 0 0)) := RB2.out.keep d3; have D3 : Hid (Below wx.heap.size wx y3) := on D2.out d3; have SS : Hid (y1.heap.size < y2.heap.size ∧ wx.heap.size ≤ y1.heap.size) := ⟨RB2.out.lt, D1.out.size⟩; have N3 : Hid (Qs 45 y3 y2.heap.size v0 Z) := n3; obtain ⟨z0, z1, z2, z3, fz0, fz1, fz2, fz3⟩ := RX.out)
           | (have RX : Hid (Rc y3 y2.heap.size 0 0 false (.slice none 0 0)) := (Rc.made y2).keep d3; have D3 : Hid (Below wx.heap.size wx y3) := on (al D2.out _) d3; have SS : Hid (y2.heap.size < y2.heap.size + 1 ∧ wx.heap.size ≤ y2.heap.size) := ⟨Nat.lt_succ_self _, D2.out.size⟩; have N3 : Hid (Qs 45 y3 (y2.heap.size + 1) v0 Z) := (by have := n3; rw [World.size_alloc] at this; exact this); obtain ⟨z0, z1, z2, z3, fz0, fz1, fz2, fz3⟩ := RX.out)
           | (have D3 : Hid (Below wx.heap.size wx y3) := on D2.out d3; have SS : Hid (wx.heap.size ≤ y2.heap.size ∧ True) := ⟨D2.out.size, trivial⟩; have N3 : Hid (Qs 45 y3 y2.heap.size v0 Z) := n3))
         obtain ⟨xa, xc, hx, _, _, _⟩ := n3.shape
         obtain ⟨xn, hxn⟩ : ∃ xn, Z.length = xn := ⟨_, rfl⟩
         rw [hxn] at hx
         subst hx
         clear n3 d3))
    all_goals go_wp2_with fail
    all_goals go_meet
    all_goals first
      | exact ⟨_, _, rfl, Rd.new _ _ _ _ _, (N3.out.keep (al (Below.refl _ _) _)).mono (by have := SS.out.1; omega), fun e => by have := (N3.out.lt _ e).2; omega, al D3.out _⟩
      | exact ⟨_, _, rfl, rd_set4 RX.out _ _ _ _, ((((N3.out.put _ _ (fun e => qown_not N3.out _ (.inl SS.out.1) e.symm)).put _ _ (fun e => qown_not N3.out _ (.inl SS.out.1) e.symm)).put _ _ (fun e => qown_not N3.out _ (.inl SS.out.1) e.symm)).put _ _ (fun e => qown_not N3.out _ (.inl SS.out.1) e.symm)).mono (by have := SS.out.1; have := SS.out.2; omega), fun e => qown_not N3.out _ (.inl SS.out.1) e.symm, (((D3.out.setCell (by simp <;> (have := SS.out.2; omega)) _).setCell (by simp <;> (have := SS.out.2; omega)) _).setCell (by simp <;> (have := SS.out.2; omega)) _).setCell (by simp <;> (have := SS.out.2; omega)) _⟩
  case rest =>
  obtain ⟨A, v0, rfl, hRA, hN0, hne, hB⟩ := hcut
  have RA0 : Hid (Rd wc A c 0 false v0) := hRA
  have N0 : Hid (Qs 45 wc wx.heap.size v0 Z) := hN0
  have HNE : Hid (v0.ownBlock ≠ some A) := hne
  have B2 : Hid (Below wx.heap.size wx wc) := hB
  obtain ⟨xa, xc, rfl, _, _, _⟩ := hN0.shape
  clear hRA hN0 hne hB k0 k1 k2 k3 FS
  go_wp2_with fail
  refine (to_hits _ _ _ _ _ (HW4.out.stay B2.out) HB2.out).mono ?_
  rintro e u3 ⟨g3, rfl, n3, d3⟩
  have N3 : Hid (Qs 45 u3 wc.heap.size (.slice (some ⟨g3, 0, none⟩) len0 len0) rs) := n3
  have N03 : Hid (Qs 45 u3 wx.heap.size (.slice xa Z.length xc) Z) := N0.out.keep d3
  have RA : Hid (Rd u3 A c 0 false (.slice xa Z.length xc)) := RA0.out.keep d3
  have B3 : Hid (Below wx.heap.size wx u3) := on B2.out d3
  have SZ : Hid (wc.heap.size ≤ u3.heap.size) := d3.size
  obtain ⟨k0, k1, k2, k3⟩ := HHW.out.keep B3.out
  simp only at k0 k1 k2 k3
  clear n3 d3
  go_wp2_with fail
  refine (to_hit _ _ _ _ _).mono ?_
  rintro e u35 ⟨rfl, d35⟩
  have N3 : Hid (Qs 45 u35 wc.heap.size (.slice (some ⟨g3, 0, none⟩) len0 len0) rs) := N3.out.keep d35
  have N03 : Hid (Qs 45 u35 wx.heap.size (.slice xa Z.length xc) Z) := N03.out.keep d35
  have RA : Hid (Rd u35 A c 0 false (.slice xa Z.length xc)) := RA.out.keep d35
  have B3 : Hid (Below wx.heap.size wx u35) := on B3.out d35
  have SZ : Hid (wc.heap.size ≤ u35.heap.size) := Nat.le_trans SZ.out d35.size
  clear d35 k0 k1 k2 k3
  go_wp2_with fail
  refine (FI.out _ _ _ _ N3.out.read).mono ?_
  rintro e u4 ⟨v1, rfl, n4, d4⟩
  have EV : Hid (Ev wx (u4.alloc (.cells #[.int .i64 c, .int .i64 0, .bool false, v1] 39)) A u4.heap.size wc.heap.size u35.heap.size c (.slice xa Z.length xc) v1 (.slice (some ⟨g3, 0, none⟩) len0 len0) Z Z rs wx.heap.size u35.heap.size wc.heap.size) := by
    have dd := on d4 (al (Below.refl _ _) (.cells #[.int .i64 c, .int .i64 0, .bool false, v1] 39))
    exact ⟨RA.out.keep dd, Rd.new _ _ _ _ _, N03.out.keep dd, n4.keep (al (Below.refl _ _) _), N3.out.keep dd, on B3.out dd, B2.out.size, SZ.out, RA0.out.lt, fun k hk => (N0.out.lt k hk).2, Nat.le_refl _, fun k hk => (N3.out.lt k hk).2, Nat.le_refl _, d4.size, fun e => by have := (n4.lt _ e).2; omega⟩
  obtain ⟨ya, yc, rfl, _, _, _⟩ := n4.shape
  clear n4 d4
  obtain ⟨p0, p1, p2, p3⟩ := EV.out.rg
  obtain ⟨s0, s1, s2, s3⟩ := EV.out.ra
  go_wp2_with fail
  refine (eq_cacheR _ _ _ _ _ _ _ _ _ EV.out.n1 EV.out.n0).mono ?_
  rintro e u6 ⟨rfl, d6⟩
  have E6 : Hid (Ev wx u6 A u4.heap.size wc.heap.size u35.heap.size c (.slice xa Z.length xc) (.slice ya Z.length yc) (.slice (some ⟨g3, 0, none⟩) len0 len0) Z Z rs wx.heap.size u35.heap.size wc.heap.size) := EV.out.keep d6
  clear d6 p0 p1 p2 p3 s0 s1 s2 s3 EV SZ RA B3 N03 N3 B2 N0 RA0
  generalize u4.heap.size = G at *
  generalize wc.heap.size = MM at *
  generalize u35.heap.size = NN at *
  go_wp2_with fail
  refine (to_hits _ _ _ _ _ (HW4.out.stay E6.out.bl) HB2.out).mono ?_
  rintro e u7 ⟨g7, rfl, n7, d7⟩
  go_wp2_with fail
  refine (eq_hits _ _ _ _ _ _ (E6.out.keep d7).nx n7).mono ?_
  rintro e u8 ⟨rfl, d8⟩
  have E8 : Hid (Ev wx u8 A G MM NN c (.slice xa Z.length xc) (.slice ya Z.length yc) (.slice (some ⟨g3, 0, none⟩) len0 len0) Z Z rs wx.heap.size NN MM) := (E6.out.keep d7).keep d8
  clear d7 d8 n7 E6
  go_wp2_with fail
  refine (mark_hits _ _ _ _ _ E8.out.nx (by decide) HRL.out).mono ?_
  rw [HMR.out]
  rintro e u9 ⟨rfl, n9, d9⟩
  have E9 : Hid (Ev wx u9 A G MM NN c (.slice xa Z.length xc) (.slice ya Z.length yc) (.slice (some ⟨g3, 0, none⟩) len0 len0) Z Z (qmarks 1 rs.length) wx.heap.size NN MM) := E8.out.markX d9 n9
  clear n9 d9 E8
  obtain ⟨p0, p1, p2, p3⟩ := E9.out.rg
  obtain ⟨s0, s1, s2, s3⟩ := E9.out.ra
  go_wp2_with (go_at_call 55; refine (eq_cacheR _ _ _ _ _ _ _ _ _ E9.out.n1 E9.out.n0).mono ?_; rintro e v1 ⟨rfl, d10⟩; have E10 : Hid (Ev wx v1 A G MM NN c (.slice xa Z.length xc) (.slice ya Z.length yc) (.slice (some ⟨g3, 0, none⟩) len0 len0) Z Z (qmarks 1 rs.length) wx.heap.size NN MM) := E9.out.keep d10; clear p0 p1 p2 p3 s0 s1 s2 s3; obtain ⟨p0, p1, p2, p3⟩ := E10.out.rg; clear d10)
  clear E9
  refine (mark_cacheR _ _ _ _ _ _ _ _ E10.out.n1 (by decide) HZ.out).mono ?_
  rw [HMZ.out]
  rintro e v2 ⟨rfl, n11, d11⟩
  have E11 : Hid (Ev wx v2 A G MM NN c (.slice xa Z.length xc) (.slice ya Z.length yc) (.slice (some ⟨g3, 0, none⟩) len0 len0) Z (qmarks 1 Z.length) (qmarks 1 rs.length) wx.heap.size NN MM) := E10.out.mark1 d11 n11
  clear n11 d11 p0 p1 p2 p3 E10
  obtain ⟨p0, p1, p2, p3⟩ := E11.out.rg
  go_wp2_with fail
  refine (held_cacheR _ _ _ _ _ _ _ _ E11.out.n1 (by decide) HZ.out).mono ?_
  rw [HMZ.out]
  rintro e v3 ⟨rfl, d12⟩
  have E12 : Hid (Ev wx v3 A G MM NN c (.slice xa Z.length xc) (.slice ya Z.length yc) (.slice (some ⟨g3, 0, none⟩) len0 len0) Z (qmarks 1 Z.length) (qmarks 1 rs.length) wx.heap.size NN MM) := E11.out.keep d12
  clear d12 p0 p1 p2 p3 E11
  obtain ⟨k0, k1, k2, k3⟩ := HHW.out.keep E12.out.bl
  simp only at k0 k1 k2 k3
  have gk3 : hb < v3.heap.size := block_of_cell k0
  have Q3 : Hid (IsQuads v3 a0 len0 cap0 rs) := HW4.out.stay E12.out.bl
  have H3 : Hid (Rh v3 hb ⟨q0, q1, q2, q3⟩) := HHW.out.keep E12.out.bl
  go_wp2_with fail
  go_cut [12] from 60 to 64 (fun s wy => ∃ (H : Nat) (v0 : Value), s = .pointer (some ⟨H, 0, none⟩) ∧ Rd wy H c 0 false v0 ∧ Qs 45 wy v3.heap.size v0 Z ∧ v0.ownBlock ≠ some H ∧ Below v3.heap.size v3 wy)
  case first =>
    go_region_with (first
      | (go_at_call 51; refine (to_hits a0 len0 cap0 rs _ (by first | exact Q3.out.stay (Below.refl _ _).drew | exact Q3.out.stay (al (Below.refl _ _) _).drew) HB2.out).mono ?_; rintro e y1 ⟨g1, rfl, n1, d1⟩
         (first
           | (have RA1 : Hid (Rc y1 v3.heap.size 0 0 false (.slice none 0 0)) := (rc_drew (Rc.made v3)).keep d1; have D1 : Hid (Below v3.heap.size v3 y1) := on (al (Below.refl _ _) _).drew d1; obtain ⟨z0, z1, z2, z3, fz0, fz1, fz2, fz3⟩ := RA1.out)
           | (have D1 : Hid (Below v3.heap.size v3 y1) := on (Below.refl _ _).drew d1))
         have N1 : Hid (Qs 45 y1 _ (.slice (some ⟨g1, 0, none⟩) len0 len0) rs) := n1
         obtain ⟨k0, k1, k2, k3⟩ := H3.out.keep D1.out
         have gk : hb < y1.heap.size := block_of_cell k0
         simp only at k0 k1 k2 k3
         clear n1 d1)
      | (go_at_call 54; refine (to_hit _ _ _ _ _).mono ?_; rintro e y2 ⟨rfl, d2⟩
         (first
           | (have RA2 : Hid (Rc y2 v3.heap.size 0 0 false (.slice none 0 0)) := RA1.out.keep d2; have D2 : Hid (Below v3.heap.size v3 y2) := on D1.out d2; have N2 := N1.out.keep d2; obtain ⟨z0, z1, z2, z3, fz0, fz1, fz2, fz3⟩ := RA2.out)
           | (have RB2 : Hid (Rc y2 y1.heap.size 0 0 false (.slice none 0 0)) := (Rc.made y1).keep d2; have D2 : Hid (Below v3.heap.size v3 y2) := on (al D1.out _) d2; have N2 := N1.out.keep (on (al (Below.refl _ _) _) d2); obtain ⟨z0, z1, z2, z3, fz0, fz1, fz2, fz3⟩ := RB2.out)
           | (have D2 : Hid (Below v3.heap.size v3 y2) := on D1.out d2; have N2 := N1.out.keep d2))
         have N2 : Hid (Qs 45 y2 _ (.slice (some ⟨g1, 0, none⟩) len0 len0) rs) := N2
         clear d2)
      | (go_at_call 31; refine (FI.out _ _ _ _ (by first | exact N2.out.read | exact (N2.out.keep (al (Below.refl _ _) _)).read)).mono ?_; rintro e y3 ⟨v0, rfl, n3, d3⟩
         (first
           | (have RX : Hid (Rc y3 v3.heap.size 0 0 false (.slice none 0 0)) := RA2.out.keep d3; have D3 : Hid (Below v3.heap.size v3 y3) := on D2.out d3; have SS : Hid (v3.heap.size < y2.heap.size ∧ v3.heap.size ≤ y2.heap.size) := ⟨RA2.out.lt, D2.out.size⟩; have N3 : Hid (Qs 45 y3 y2.heap.size v0 Z) := n3; obtain ⟨z0, z1, z2, z3, fz0, fz1, fz2, fz3⟩ := RX.out)
           | (have RX : Hid (Rc y3 y1.heap.size 0 0 false (.slice none 0 0)) := RB2.out.keep d3; have D3 : Hid (Below v3.heap.size v3 y3) := on D2.out d3; have SS : Hid (y1.heap.size < y2.heap.size ∧ v3.heap.size ≤ y1.heap.size) := ⟨RB2.out.lt, D1.out.size⟩; have N3 : Hid (Qs 45 y3 y2.heap.size v0 Z) := n3; obtain ⟨z0, z1, z2, z3, fz0, fz1, fz2, fz3⟩ := RX.out)
           | (have RX : Hid (Rc y3 y2.heap.size 0 0 false (.slice none 0 0)) := (Rc.made y2).keep d3; have D3 : Hid (Below v3.heap.size v3 y3) := on (al D2.out _) d3; have SS : Hid (y2.heap.size < y2.heap.size + 1 ∧ v3.heap.size ≤ y2.heap.size) := ⟨Nat.lt_succ_self _, D2.out.size⟩; have N3 : Hid (Qs 45 y3 (y2.heap.size + 1) v0 Z) := (by have := n3; rw [World.size_alloc] at this; exact this); obtain ⟨z0, z1, z2, z3, fz0, fz1, fz2, fz3⟩ := RX.out)
           | (have D3 : Hid (Below v3.heap.size v3 y3) := on D2.out d3; have SS : Hid (v3.heap.size ≤ y2.heap.size ∧ True) := ⟨D2.out.size, trivial⟩; have N3 : Hid (Qs 45 y3 y2.heap.size v0 Z) := n3))
         obtain ⟨xa, xc, hx, _, _, _⟩ := n3.shape
         obtain ⟨xn, hxn⟩ : ∃ xn, Z.length = xn := ⟨_, rfl⟩
         rw [hxn] at hx
         subst hx
         clear n3 d3 hxn))
    all_goals go_wp2_with fail
    all_goals go_meet
    all_goals first
      | exact ⟨_, _, rfl, Rd.new _ _ _ _ _, (N3.out.keep (al (Below.refl _ _) _)).mono (by have := SS.out.1; omega), fun e => by have := (N3.out.lt _ e).2; omega, al D3.out _⟩
      | exact ⟨_, _, rfl, rd_set4 RX.out _ _ _ _, ((((N3.out.put _ _ (fun e => qown_not N3.out _ (.inl SS.out.1) e.symm)).put _ _ (fun e => qown_not N3.out _ (.inl SS.out.1) e.symm)).put _ _ (fun e => qown_not N3.out _ (.inl SS.out.1) e.symm)).put _ _ (fun e => qown_not N3.out _ (.inl SS.out.1) e.symm)).mono (by have := SS.out.1; have := SS.out.2; omega), fun e => qown_not N3.out _ (.inl SS.out.1) e.symm, (((D3.out.setCell (by simp <;> (have := SS.out.2; omega)) _).setCell (by simp <;> (have := SS.out.2; omega)) _).setCell (by simp <;> (have := SS.out.2; omega)) _).setCell (by simp <;> (have := SS.out.2; omega)) _⟩
  case rest =>
  obtain ⟨H, vh, rfl, hRH, hNH, _, hBH⟩ := hcut
  have EH : Hid (Ev wx wc A G MM NN c (.slice xa Z.length xc) (.slice ya Z.length yc) (.slice (some ⟨g3, 0, none⟩) len0 len0) Z (qmarks 1 Z.length) (qmarks 1 rs.length) wx.heap.size NN MM) := E12.out.keep hBH
  have RH : Hid (Rd wc H c 0 false vh) := hRH
  have NH : Hid (Qs 45 wc v3.heap.size vh Z) := hNH
  obtain ⟨za, zc, rfl, _, _, _⟩ := hNH.shape
  clear hRH hNH hBH E12 k0 k1 k2 k3
  obtain ⟨h0, h1, h2, h3⟩ := RH.out
  obtain ⟨s0, s1, s2, s3⟩ := EH.out.ra
  go_wp2_with fail
  refine (eq_cacheR _ _ _ _ _ _ _ _ _ NH.out EH.out.n0).mono ?_
  rintro e v7 ⟨rfl, d17⟩
  have E17 : Hid (Ev wx v7 A G MM NN c (.slice xa Z.length xc) (.slice ya Z.length yc) (.slice (some ⟨g3, 0, none⟩) len0 len0) Z (qmarks 1 Z.length) (qmarks 1 rs.length) wx.heap.size NN MM) := EH.out.keep d17
  clear d17 h0 h1 h2 h3 s0 s1 s2 s3 EH
  obtain ⟨p0, p1, p2, p3⟩ := E17.out.rg
  go_wp2_with fail
  refine (held_cacheR _ _ _ _ _ _ _ _ E17.out.n1 (by decide) HZ.out).mono ?_
  rw [HMZ.out]
  rintro e v8 ⟨rfl, d18⟩
  have B18 : Hid (Below hb w v8) := BW.out.trans ((on E17.out.bl d18).mono (Nat.le_of_lt gk0))
  clear d18 p0 p1 p2 p3
  go_wp2_with fail
  go_ret
  exact ⟨rfl, by have := B18.out; rw [← HHB.out] at this; exact this⟩

set_option maxRecDepth 100000 in
theorem lifted (os : Os) (started : os.Started) (H : Type) (enc : TypeId × Value → H) :
    ReturnsInHanded {} Try.checked os 12 .any (Rows.fnExactFillCacheSpec.pre6 enc Try.prog Try.f12 Rows.fnExactFillCacheRow.domain false) (Rows.fnExactFillCacheSpec.post enc Try.prog Try.f12 false true false false) := by
  refine returnsInHanded_of_change (C := Try.checked) own started (by kernel_rfl) Try.func12
    (ChangeSpec.witness6 (enc := enc) (C := Try.checked) false ⟨#[], #[.slice none 0 0, .agg #[.int .i64 0, .int .i64 0, .int .i64 0, .int .i64 0]], []⟩ 8 (by kernel_rfl) (by kernel_rfl) (by kernel_rfl) (by kernel_rfl)) ?_
  intro W base args ds gs before hval0 hW hcnd _
  have hval : ∀ (j : Nat) t v, Try.f12.params[j]? = some t → args[j]? = some v → Value.okWide Try.prog W .any base t v := hval0
  have hW' := hW
  obtain ⟨p, q, hA0, hV, rfl, hfz, hnd⟩ := hW
  have hA : DataW.TrodAll enc Try.prog W 0 (fun _ => true) true Try.f12.params.toList args.toList ds p := hA0
  rw [Try.params12] at hA hval
  obtain ⟨v0, vs0, d0, ds0, p0, q0, hargs, rfl, rfl, h0, r0⟩ := trodAll_cons hA
  obtain ⟨v1, vs1, d1, ds1, p1, q1, rfl, rfl, rfl, h1, r1⟩ := trodAll_cons r0
  obtain ⟨rfl, rfl, rfl⟩ := trodAll_nil r1
  obtain rfl : args = #[v0, v1] := by cases args; simp_all
  obtain ⟨rfl, rfl⟩ := trodVars_none hV
  obtain ⟨a0, len0, cap0, rfl⟩ := okWide_slice Try.underlying67 (hval 0 67 v0 rfl rfl)
  have k0 := h0
  have lt0 : ∀ x ∈ p0, x.block < W.heap.size := by obtain ⟨m, hm⟩ := k0; exact DataW.trod_lt m _ _ _ hm
  obtain ⟨z0, w0⟩ : ∃ rs, IsQuads W a0 len0 cap0 rs := by
    obtain ⟨fuel, hf⟩ := h0
    rcases quads_open Try.underlying67 Try.underlying73 (by kernel_rfl) rfl rfl rfl rfl Try.underlying2 Try.underlying2 Try.underlying2 Try.underlying2 (by kernel_rfl) (by kernel_rfl) (by kernel_rfl) (by kernel_rfl) hf with hcs | ⟨x, l, c, rs, hcs, hq⟩
    · simp [Value.cells] at hcs
      obtain ⟨rfl, rfl, rfl⟩ := hcs
      exact ⟨[], .inl ⟨rfl, rfl, rfl, rfl⟩⟩
    · simp [Value.cells] at hcs
      obtain ⟨rfl, rfl, rfl⟩ := hcs
      exact ⟨rs, hq⟩
  have k1 := h1
  have lt1 : ∀ x ∈ p1, x.block < W.heap.size := by obtain ⟨m, hm⟩ := k1; exact DataW.trod_lt m _ _ _ hm
  obtain ⟨c1_0, c1_1, c1_2, c1_3, y1_0, y1_1, y1_2, y1_3, n1, rfl, _, _, e1_0, e1_1, e1_2, e1_3⟩ := Go.Joins.open_agg4 Try.underlying73 (by kernel_rfl) (by kernel_rfl) (hval 1 73 v1 rfl rfl) h1
  obtain ⟨a1_0, q1_0, _, w1_0⟩ := DataW.trod_int Try.underlying2 e1_0
  obtain rfl : c1_0 = .int .i64 a1_0 := by simpa using q1_0
  obtain ⟨a1_1, q1_1, _, w1_1⟩ := DataW.trod_int Try.underlying2 e1_1
  obtain rfl : c1_1 = .int .i64 a1_1 := by simpa using q1_1
  obtain ⟨a1_2, q1_2, _, w1_2⟩ := DataW.trod_int Try.underlying2 e1_2
  obtain rfl : c1_2 = .int .i64 a1_2 := by simpa using q1_2
  obtain ⟨a1_3, q1_3, _, w1_3⟩ := DataW.trod_int Try.underlying2 e1_3
  obtain rfl : c1_3 = .int .i64 a1_3 := by simpa using q1_3
  clear hA0 hval0
  refine (walk a0 len0 cap0 z0 a1_0 a1_1 a1_2 a1_3 W w0 w1_0 w1_1 w1_2 w1_3).mono fun e W' ⟨he, bel⟩ => ?_
  subst he
  exact ⟨_, rfl, _, _, _, [], _, [], hW', trodAll_mk1 (shut_bool Try.underlying4 _), (trodAll_cons_mk (Below.trod laidOut (by kernel_rfl) (of_decide_eq_true (by kernel_rfl)) k0 bel lt0) (trodAll_cons_mk (Below.trod laidOut (by kernel_rfl) (of_decide_eq_true (by kernel_rfl)) k1 bel lt1) trodAll_mk0)), rfl, bel.frame _, fun h => by cases h⟩

theorem over : Rows.fnExactFillCacheRow.holds Try.pinned (OpenSpec.ofChange Rows.fnExactFillCacheSpec) :=
  OpenClaim.holds_of_wide 12 Try.f12 rfl rfl rfl rfl rfl rfl rfl ⟨rfl, rfl, rfl, rfl, rfl⟩ rfl rfl rfl rfl rfl (by kernel_rfl) Try.func12 (by kernel_rfl)
    (of_decide_eq_true (by kernel_rfl)) (by unfold Func.isWrapper; first | (rw [if_pos (by decide +kernel)]; kernel_rfl) | (rw [if_neg (by decide +kernel)]; exact ⟨rfl, rfl⟩))
    (fun os started H enc _ => lifted os started H enc)

theorem proved : Rows.FnExactFillCacheSaid := over
end Go.Proofs.Ytighhjkokjpgfaa.fnExactFillCacheDone
