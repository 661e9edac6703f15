/- Texts of this seat, joined. -/
import Derived.Deep.RegionHeld3
import Derived.Deep.RegionWith
import Derived.Deep.Cut
import Derived.Deep.CutRange
import Derived.Test.YtdhdfopkcpkbeaaGreatDoorQ26
import Derived.Test.YtdhdfopkcpkbeaaGreatDoorQ49
namespace Go.Proofs.YtdhdfopkcpkbeaaGreatDoor
open Go.RowKit
set_option linter.unusedVariables false

theorem So.mono {w : World} {base base' : Nat} {v : Value} {oss : List (List Int)} (h : So w base v oss) (hb : base' ≤ base) : So w base' v oss := by
  obtain ⟨xs, h0, h1, h2⟩ := h
  exact ⟨xs, h0, row_up h1 hb, fun i hi => (h2 i hi).monoD hb⟩
theorem So.put0 {w : World} {base g n cap : Nat} {u : Value} {rs : List Int} {oss : List (List Int)} (h : So w base (.slice (some ⟨g, 0, none⟩) n cap) oss) (hu : Nums w base u rs) : So (w.setCell ⟨g, 0, none⟩ u) base (.slice (some ⟨g, 0, none⟩) n cap) (oss.set 0 rs) := by
  obtain ⟨xs, h0, h1, h2⟩ := h
  have hn : n = oss.length := by
    obtain ⟨k1, ⟨hv, k3⟩ | ⟨g', c, cur, hv, _⟩⟩ := h1
    · cases hv
    · cases hv; rfl
  subst hn
  have s := (World.ownsRow.stored h1 0 u).1
  refine ⟨xs.set 0 u, by simp [h0], by rw [List.length_set]; exact s, fun i hi => ?_⟩
  rw [List.length_set] at hi
  have hk : ∀ {u' : Value} {rs : List Int}, Nums w base u' rs → Nums (w.setCell ⟨g, 0, none⟩ u) base u' rs := fun hu => hu.kept (grown_set w _ _) (own_types hu h1 (by decide))
  by_cases e : i = 0
  · subst e
    have e1 : (xs.set 0 u).getD 0 (.slice none 0 0) = u := by
      cases xs with
      | nil => simp at h0; omega
      | cons x t => rfl
    have e2 : (oss.set 0 rs).getD 0 [] = rs := by
      cases oss with
      | nil => simp at hi
      | cons x t => rfl
    rw [e1, e2]
    exact hk hu
  · have e1 : (xs.set 0 u).getD i (.slice none 0 0) = xs.getD i (.slice none 0 0) := by rw [List.getD, List.getD, List.getElem?_set_ne (by omega)]
    have e2 : (oss.set 0 rs).getD i [] = oss.getD i [] := by rw [List.getD, List.getD, List.getElem?_set_ne (by omega)]
    rw [e1, e2]
    exact hk (h2 i hi)
theorem so_empty (w : World) (base : Nat) (hb : base ≤ w.heap.size) : So (w.alloc (.cells #[] 32)) base (.slice (some ⟨w.heap.size, 0, none⟩) 0 0) [] :=
  ⟨[], rfl, World.ownsRow_lit w #[] 0 hb (by decide) rfl, fun i hi => absurd hi (Nat.not_lt_zero _)⟩
theorem So.turn {w w' : World} {base b : Nat} {v : Value} {oss : List (List Int)} (h : So w base v oss) (t : Turn b w w') (hb : b < base) : So w' base v oss := by
  have d : Dv w base v (.slice none 0 0) (.slice none 0 0) (.slice none 0 0) ⟨oss, [], [], []⟩ := ⟨h, Ls.nil _ _ _, Prs.nil _ _ _, Prs.nil _ _ _⟩
  exact (d.turn t hb).own
set_option maxRecDepth 20000 in
set_option maxHeartbeats 8000000 in
theorem images_any {w : World} {b k : Nat} {a : Option Addr} {len cap : Nat} {zs : List Int} (s : Src w b k a len cap zs) (hk : k ≤ 20000) (base : Nat) (a0 a1 a2 a3 : Option Addr) (n0 c0 n1 c1 n2 c2 n3 c3 : Nat) (P : Plc) (d : Dv w base (.slice a0 n0 c0) (.slice a1 n1 c1) (.slice a2 n2 c2) (.slice a3 n3 c3) P) (fo : Fo P.own) (hb : b < base) :
    Calls Tryz.prog 17 #[.pointer (some ⟨b, 0, none⟩), .agg #[.slice a0 n0 c0, .slice a1 n1 c1, .slice a2 n2 c2, .slice a3 n3 c3]] w fun e w' => ∃ (v : Value) (iss : List (List Int)) (k' : Nat), e = .returned v ∧ So w' w.heap.size v iss ∧ iss.length ≤ 4 ∧ k' ≤ k + 2500 ∧ Turn b w w' ∧ Src w' b k' a len cap zs := by
  have HS : Hid (Src w b k a len cap zs) := s
  have HD : Hid (Dv w base (.slice a0 n0 c0) (.slice a1 n1 c1) (.slice a2 n2 c2) (.slice a3 n3 c3) P) := d
  have HK : Hid (k ≤ 20000 ∧ b < base ∧ b < w.heap.size) := ⟨hk, hb, s.here⟩
  have FO : Hid (Fo P.own) := fo
  have hl0 : n0 = P.own.length := d.own.read.len
  have hn4 : n0 ≤ 4 := by rw [hl0]; exact fo.1
  have HN : Hid (n0 = P.own.length ∧ n0 ≤ 4) := ⟨hl0, hn4⟩
  obtain ⟨s1, hs1⟩ : ∃ s, w.heap.size = s := ⟨_, rfl⟩
  have SE : Hid (w.heap.size = s1) := hs1
  generalize hW : (w.alloc (.cells #[.slice a0 n0 c0, .slice a1 n1 c1, .slice a2 n2 c2, .slice a3 n3 c3] 29)).alloc (.cells #[] 32) = W
  have T1 : Hid (Turn b w W) := by show Turn _ _ _; rw [← hW]; exact (Turn.alloc _ _ _).trans (Turn.alloc _ _ _)
  have S1 : Hid (Src W b k a len cap zs) := by show Src _ _ _ _ _ _ _; rw [← hW]; exact (s.alloc _).alloc _
  have Q1 : Hid (Bk W s1 #[.slice a0 n0 c0, .slice a1 n1 c1, .slice a2 n2 c2, .slice a3 n3 c3] 29) := by
    show Bk _ _ _ _
    have h := Bk.new w #[.slice a0 n0 c0, .slice a1 n1 c1, .slice a2 n2 c2, .slice a3 n3 c3] 29
    rw [hs1] at h
    rw [← hW]
    exact h.keep (al (Below.refl _ _) _)
  have O1 : Hid (So W w.heap.size (.slice (some ⟨s1 + 1, 0, none⟩) 0 0) []) := by
    show So _ _ _ _
    have h := so_empty (w.alloc (.cells #[.slice a0 n0 c0, .slice a1 n1 c1, .slice a2 n2 c2, .slice a3 n3 c3] 29)) w.heap.size (by simp)
    rw [World.size_alloc, hs1] at h
    rw [← hW, hs1]
    exact h
  clear s d hk hb fo hl0
  go_enter Tryz.func17, Tryz.ntmps17
  go_wp2_with fail
  try rw [hW]
  try rw [hs1]
  clear hW hs1
  go_loopw [5, 6] (fun v c wr => ∃ (j kk : Nat) (oss : List (List Int)), j ≤ n0 ∧ c = .int .i64 j ∧ Hid (So wr w.heap.size v oss) ∧ Hid (oss.length = j) ∧ Hid (kk ≤ k + 600 * j) ∧ Hid (Turn b w wr) ∧ Hid (Src wr b kk a len cap zs) ∧ Hid (Bk wr s1 #[.slice a0 n0 c0, .slice a1 n1 c1, .slice a2 n2 c2, .slice a3 n3 c3] 29)) (fun _ c _ => n0 - (intOf c).toNat)
  case atStart => exact ⟨0, k, [], Nat.zero_le _, rfl, O1.out, rfl, by show _ ≤ _; omega, T1.out, S1.out, Q1.out⟩
  case round =>
    obtain ⟨j, kk, oss, hj, rfl, OB, OL, KK, TB, SB, QB⟩ := hrel
    obtain ⟨va, vc, ev, _, _, _⟩ := OB.out.shape
    rw [OL.out] at ev
    subst ev
    have q0 := QB.out.cell (i := 0) rfl
    by_cases hlt : j < n0
    · have hI : (j : Int) < (n0 : Int) := by omega
      have HL : Hid (j < n0) := hlt
      have DW : Hid (Dv wr base (.slice a0 n0 c0) (.slice a1 n1 c1) (.slice a2 n2 c2) (.slice a3 n3 c3) P) := HD.out.turn TB.out HK.out.2.1
      obtain ⟨xa, ra, rl, rc, ea, k1, k2⟩ := DW.out.own.read.at j hlt
      subst ea
      have RL : Hid (rl ≤ 3) := by show _ ≤ _; rw [k2.len]; exact FO.out.2 j
      clear hlt hj k2
      have hr3 : (rl : Int) ≤ 3 := by have := RL.out; omega
      have w8 : wrap64 ((rl : Int) * 8) = (rl : Int) * 8 := wrap64_id (by omega)
      have w81 : wrap64 ((rl : Int) * 8 + 1) = (rl : Int) * 8 + 1 := wrap64_id (by omega)
      go_wp2_with fail
      clear q0 k1
      refine (next_any SB.out (by have := KK.out; have := HK.out; have := HN.out; have := HL.out; omega) _).mono ?_
      rintro e w2 ⟨x, rfl, hx, -, t2, s2⟩
      obtain ⟨x0, x1⟩ := hx (by omega)
      have HX : Hid (0 ≤ x ∧ x ≤ 24) := ⟨x0, by omega⟩
      have T2 : Hid (Turn b w w2) := TB.out.trans t2
      have S2 : Hid (Src w2 b (kk + 1) a len cap zs) := s2
      have O2 : Hid (So w2 w.heap.size (.slice va j vc) oss) := OB.out.turn t2 HK.out.2.2
      have Q2 : Hid (Bk w2 s1 #[.slice (some xa) n0 c0, .slice a1 n1 c1, .slice a2 n2 c2, .slice a3 n3 c3] 29) := QB.out.turn t2 (by have := HK.out; have := SE.out; omega)
      clear hx x0 x1 t2 s2 w8 w81 hr3
      go_wp2_with fail
      refine (image_any S2.out (by have := KK.out; have := HK.out; have := HN.out; have := HL.out; omega) x (by have := HX.out; omega) (by have := HX.out; omega)).mono ?_
      rintro e w3 ⟨u, xs, k3, rfl, nu, hxl, t3, s3, hk3⟩
      obtain ⟨ua, uc, eu, _, _, _⟩ := nu.shape
      obtain ⟨un, hun⟩ : ∃ n, xs.length = n := ⟨_, rfl⟩
      rw [hun] at eu
      subst eu
      have KK3 : Hid (k3 ≤ kk + 500) := by show _ ≤ _; have := HX.out; omega
      have T3 : Hid (Turn b w w3) := T2.out.trans t3
      have S3 : Hid (Src w3 b k3 a len cap zs) := s3
      have O3 : Hid (So w3 w.heap.size (.slice va j vc) oss) := O2.out.turn t3 HK.out.2.2
      have Q3 : Hid (Bk w3 s1 #[.slice (some xa) n0 c0, .slice a1 n1 c1, .slice a2 n2 c2, .slice a3 n3 c3] 29) := Q2.out.turn t3 (by have := HK.out; have := SE.out; omega)
      have N3 : Hid (Nums w3 w.heap.size (.slice ua un uc) xs) := nu.monoD T2.out.size
      clear t3 s3 nu hxl hk3 hun
      go_wp2_with (at_builtin; refine wp_slo _ rfl _ _ rfl w.heap.size _ oss rfl (O3.out.keep (al (Below.refl _ _) _)) w3.heap.size _ _ _ xs rfl (cell_new rfl) (N3.out.keep (al (Below.refl _ _) _)) (by have := OL.out; have := HN.out; have := HL.out; omega) (by have := T3.out.size; simp; omega) ?_; intro v' w' hN' hG')
      have OX : Hid (So (w3.alloc (.cells #[.slice ua un uc] 32)) w.heap.size (.slice va j vc) oss) := O3.out.keep (al (Below.refl _ _) _)
      have ON : Hid (So w' w.heap.size v' (oss ++ [xs])) := hN'
      have TN : Hid (Turn b w w') := by
        obtain ⟨ys, _, h1, _⟩ := OX.out
        exact (T3.out.trans (Turn.alloc _ _ _)).rowed h1 (Nat.le_refl _) hG'
      have SN : Hid (Src w' b k3 a len cap zs) := by
        obtain ⟨ys, _, h1, _⟩ := OX.out
        exact (S3.out.alloc _).rowed h1 HK.out.2.2 hG'
      have QN : Hid (Bk w' s1 #[.slice (some xa) n0 c0, .slice a1 n1 c1, .slice a2 n2 c2, .slice a3 n3 c3] 29) := by
        obtain ⟨ys, _, h1, _⟩ := OX.out
        have q : Bk (w3.alloc (.cells #[.slice ua un uc] 32)) s1 #[.slice (some xa) n0 c0, .slice a1 n1 c1, .slice a2 n2 c2, .slice a3 n3 c3] 29 := Q3.out.keep (al (Below.refl _ _) _)
        exact q.gr hG' (q.row h1 (by decide)).symm
      clear hN' hG'
      go_wp2_with fail
      go_roundw
      case rel => exact ⟨j + 1, k3, oss ++ [xs], by have := HL.out; omega, by go_num, ON.out, by show _ = _; have := OL.out; simp; omega, by show _ ≤ _; have := KK.out; have := KK3.out; omega, TN.out, SN.out, QN.out⟩
      case measure => have := HL.out; simp [intOf]; omega
    · have hI : ¬ (j : Int) < (n0 : Int) := by omega
      go_wp2_with fail
      go_ret
      have r1 : oss.length ≤ 4 := by have := OL.out; omega
      have r2 : kk ≤ k + 2500 := by have := KK.out; omega
      first | exact ⟨_, oss, kk, rfl, OB.out, r1, r2, TB.out, SB.out⟩ | exact ⟨_, rfl, oss, OB.out, r1, kk, r2, TB.out, SB.out⟩ | go_show
theorem put4 {u : World} {q base : Nat} {v0 v1 v2 v3 v : Value} {P : Plc} {oss : List (List Int)} (b0 : Bk u q #[.slice none 0 0, .slice none 0 0, .slice none 0 0, .slice none 0 0] 29) (d : Dv u base v0 v1 v2 v3 P) (o : So u base v oss) : Bk ((((u.setCell ⟨q, 0, none⟩ v0).setCell ⟨q, 1, none⟩ v1).setCell ⟨q, 2, none⟩ v2).setCell ⟨q, 3, none⟩ v3) q #[v0, v1, v2, v3] 29 ∧ Dv ((((u.setCell ⟨q, 0, none⟩ v0).setCell ⟨q, 1, none⟩ v1).setCell ⟨q, 2, none⟩ v2).setCell ⟨q, 3, none⟩ v3) base v0 v1 v2 v3 P ∧ So ((((u.setCell ⟨q, 0, none⟩ v0).setCell ⟨q, 1, none⟩ v1).setCell ⟨q, 2, none⟩ v2).setCell ⟨q, 3, none⟩ v3) base v oss := by
  have b1 : Bk (u.setCell ⟨q, 0, none⟩ v0) q #[v0, .slice none 0 0, .slice none 0 0, .slice none 0 0] 29 := b0.set 0 _
  have b2 : Bk ((u.setCell ⟨q, 0, none⟩ v0).setCell ⟨q, 1, none⟩ v1) q #[v0, v1, .slice none 0 0, .slice none 0 0] 29 := b1.set 1 _
  have b3 : Bk (((u.setCell ⟨q, 0, none⟩ v0).setCell ⟨q, 1, none⟩ v1).setCell ⟨q, 2, none⟩ v2) q #[v0, v1, v2, .slice none 0 0] 29 := b2.set 2 _
  have e : Dv u base v (.slice none 0 0) (.slice none 0 0) (.slice none 0 0) ⟨oss, [], [], []⟩ := ⟨o, Ls.nil _ _ _, Prs.nil _ _ _, Prs.nil _ _ _⟩
  exact ⟨fourR b0 _ _ _ _, (((d.put b0 _).put b1 _).put b2 _).put b3 _, ((((e.put b0 _).put b1 _).put b2 _).put b3 _).own⟩
theorem So.lt {w : World} {base g n cap : Nat} {oss : List (List Int)} (h : So w base (.slice (some ⟨g, 0, none⟩) n cap) oss) : base ≤ g := by
  obtain ⟨xs, _, h1, _⟩ := h
  exact (World.ownsRow.lt h1 g rfl).1
set_option maxRecDepth 20000 in
set_option maxHeartbeats 8000000 in
theorem drawLoad {w : World} {a : Option Addr} {len cap : Nat} {zs : List Int} (hr : IsRow .u8 w a len cap zs) :
    Calls Tryz.prog 5 #[.slice a len cap] w fun e w' => ∃ v0 v1 v2 v3 P v iss, e = .returned (.tuple #[.agg #[v0, v1, v2, v3], v]) ∧ Dv w' w.heap.size v0 v1 v2 v3 P ∧ So w' w.heap.size v iss ∧ iss.length ≤ 5 ∧ Below w.heap.size w w' := by
  have HDR : Hid (IsRow .u8 w a len cap zs) := hr
  obtain ⟨s0, hs0⟩ : ∃ s, w.heap.size = s := ⟨_, rfl⟩
  have SE : Hid (w.heap.size = s0) := hs0
  clear hr
  go_enter Tryz.func5, Tryz.ntmps5
  go_wp2_with fail
  have A0 : Hid (Below w.heap.size w (w.alloc (.cells #[.slice none 0 0, .slice none 0 0, .slice none 0 0, .slice none 0 0] 29))) := al (Below.refl _ _) _
  have R0 : Hid (Bk (w.alloc (.cells #[.slice none 0 0, .slice none 0 0, .slice none 0 0, .slice none 0 0] 29)) s0 #[.slice none 0 0, .slice none 0 0, .slice none 0 0, .slice none 0 0] 29) := by show Bk _ _ _ _; rw [← hs0]; exact Bk.new _ _ _
  have Z0 : Hid (s0 + 1 = (w.alloc (.cells #[.slice none 0 0, .slice none 0 0, .slice none 0 0, .slice none 0 0] 29)).heap.size) := by show _ = _; simp; omega
  try rw [hs0]
  generalize w.alloc (.cells #[.slice none 0 0, .slice none 0 0, .slice none 0 0, .slice none 0 0] 29) = W at *
  clear hs0
  refine (source_any (HDR.out.below A0.out)).mono ?_
  rintro e w1 ⟨rfl, b1, sr⟩
  obtain ⟨b, hb⟩ : ∃ b, W.heap.size = b := ⟨_, rfl⟩
  have HB : Hid (W.heap.size = b ∧ b < w1.heap.size) := ⟨hb, by rw [← hb]; exact sr.here⟩
  have B1 : Hid (Below W.heap.size W w1) := b1
  rw [hb] at sr ⊢
  clear b1 hb
  go_wp2_with fail
  refine (bentf_any sr (by decide)).mono ?_
  rintro e w2 ⟨_, _, _, _, P, kk, rfl, dv, fo, hkk, t2, s2⟩
  obtain ⟨a0, c0, a1, c1, a2, c2, a3, c3, e0, e1, e2, e3⟩ := dv.shape
  subst e0 e1 e2 e3
  obtain ⟨n0, hn0⟩ : ∃ n, P.own.length = n := ⟨_, rfl⟩
  obtain ⟨n1, hn1⟩ : ∃ n, P.lanes.length = n := ⟨_, rfl⟩
  obtain ⟨n2, hn2⟩ : ∃ n, P.bells.length = n := ⟨_, rfl⟩
  obtain ⟨n3, hn3⟩ : ∃ n, P.plan.length = n := ⟨_, rfl⟩
  rw [hn0, hn1, hn2, hn3] at dv ⊢
  obtain ⟨s5, hs5⟩ : ∃ s, w2.heap.size = s := ⟨_, rfl⟩
  generalize hX : w2.alloc (.cells #[.slice a0 n0 c0, .slice a1 n1 c1, .slice a2 n2 c2, .slice a3 n3 c3] 29) = X
  have AX : Below w2.heap.size w2 X := by rw [← hX]; exact al (Below.refl _ _) _
  have QX : Bk X s5 #[.slice a0 n0 c0, .slice a1 n1 c1, .slice a2 n2 c2, .slice a3 n3 c3] 29 := by rw [← hX, ← hs5]; exact Bk.new _ _ _
  have SX : Hid (Src X b kk a len cap zs) := by show Src _ _ _ _ _ _ _; rw [← hX]; exact s2.alloc _
  have TX : Turn b w1 X := by rw [← hX]; exact t2.trans (Turn.alloc _ _ _)
  have HX0 : Hid (Dv X w1.heap.size (.slice a0 n0 c0) (.slice a1 n1 c1) (.slice a2 n2 c2) (.slice a3 n3 c3) P ∧ Bk X s5 #[.slice a0 n0 c0, .slice a1 n1 c1, .slice a2 n2 c2, .slice a3 n3 c3] 29 ∧ Bk X s0 #[.slice none 0 0, .slice none 0 0, .slice none 0 0, .slice none 0 0] 29 ∧ b < w1.heap.size ∧ w.heap.size ≤ w1.heap.size ∧ s5 ≠ b ∧ s0 ≠ b ∧ Below w.heap.size w X ∧ w.heap.size ≤ b ∧ Fo P.own) :=
    ⟨dv.keep AX, QX, (R0.out.keep B1.out).turn TX (by have := HB.out; have := Z0.out; omega), HB.out.2, by have := B1.out.size; have := HB.out; have := Z0.out; have := SE.out; omega, by have := t2.size; have := HB.out; omega, by have := HB.out; have := Z0.out; omega, (on A0.out B1.out).trans (TX.below (by have := HB.out; have := Z0.out; have := SE.out; omega) (by have := B1.out.size; have := HB.out; have := Z0.out; have := SE.out; omega)), by have := HB.out; have := Z0.out; have := SE.out; omega, fo⟩
  have KK : Hid (kk ≤ 200) := by show _ ≤ _; omega
  clear dv fo hkk t2 s2 sr AX QX TX hn0 hn1 hn2 hn3 B1 A0 R0
  go_upto_region 3 with fail
  try rw [hX]
  try rw [hs5]
  clear hX hs5
  have q0 := HX0.out.2.1.cell (i := 0) rfl
  have q1 := HX0.out.2.1.cell (i := 1) rfl
  have q2 := HX0.out.2.1.cell (i := 2) rfl
  have q3 := HX0.out.2.1.cell (i := 3) rfl
  go_wp2_with fail
  clear q0 q1 q2 q3
  refine (images_any SX.out (by have := KK.out; omega) w1.heap.size _ _ _ _ _ _ _ _ _ _ _ _ P HX0.out.1 HX0.out.2.2.2.2.2.2.2.2.2 HX0.out.2.2.2.1).mono ?_
  rintro e w3 ⟨_, iss, k3, rfl, so, il, hk3, t3, s3⟩
  obtain ⟨ia, ic, ei, _, _, hig⟩ := so.shape
  obtain ⟨ni, hni⟩ : ∃ n, iss.length = n := ⟨_, rfl⟩
  rw [hni] at ei hig il
  subst ei
  have O3 : Hid (So w3 X.heap.size (.slice ia ni ic) iss) := so
  have T3 : Hid (Turn b X w3) := t3
  have S3 : Hid (Src w3 b k3 a len cap zs ∧ k3 ≤ 3000) := ⟨s3, by have := KK.out; omega⟩
  have NI : Hid (iss.length = ni ∧ ni ≤ 4) := ⟨hni, il⟩
  clear so t3 s3 hk3 hni il
  go_wp2_with fail
  refine (next_any S3.out.1 (by have := S3.out.2; omega) _).mono ?_
  rintro e w4 ⟨x, rfl, -, -, t4, s4⟩
  have HBX : Hid (b < X.heap.size) := by show _ < _; exact SX.out.here
  have O4 : Hid (So w4 X.heap.size (.slice ia ni ic) iss) := O3.out.turn t4 HBX.out
  have T4 : Hid (Turn b X w4) := T3.out.trans t4
  have S4 : Hid (Src w4 b (k3 + 1) a len cap zs) := s4
  clear t4 s4
  by_cases x0 : x = 0
  case pos =>
    subst x0
    go_wp2_with (at_builtin; refine wp_slo _ rfl _ _ rfl X.heap.size _ iss rfl (O4.out.keep (al (Below.refl _ _) _)) w4.heap.size none 0 0 [] rfl (cell_new rfl) (Nums.nil _ _) (by have := NI.out; omega) (by have := T4.out.size; simp; omega) ?_; intro vi u hN' hG'; obtain ⟨iz, hiz⟩ : ∃ z, iss ++ [[]] = z := ⟨_, rfl⟩; have LL : Hid (iz.length ≤ 5) := (by show _ ≤ _; rw [← hiz]; have := NI.out; simp; omega); have LO : Hid (So u X.heap.size vi iz) := (by show So _ _ _ _; rw [← hiz]; exact hN'); have LN : Hid (Turn b X u) := (by obtain ⟨ys, _, h1, _⟩ := O4.out.keep (al (Below.refl w4.heap.size w4) (.cells #[.slice none 0 0] 32)); exact (T4.out.trans (Turn.alloc _ _ _)).rowed h1 (Nat.le_refl _) hG'); clear hN' hG' hiz; have DV : Hid (Dv u w.heap.size (.slice a0 n0 c0) (.slice a1 n1 c1) (.slice a2 n2 c2) (.slice a3 n3 c3) P) := (HX0.out.1.turn LN.out HX0.out.2.2.2.1).mono HX0.out.2.2.2.2.1; have Q5 : Hid (Bk u s5 #[.slice a0 n0 c0, .slice a1 n1 c1, .slice a2 n2 c2, .slice a3 n3 c3] 29) := HX0.out.2.1.turn LN.out HX0.out.2.2.2.2.2.1; have RB : Hid (Bk u s0 #[.slice none 0 0, .slice none 0 0, .slice none 0 0, .slice none 0 0] 29) := HX0.out.2.2.1.turn LN.out HX0.out.2.2.2.2.2.2.1; have BX : Hid (Below w.heap.size w u) := HX0.out.2.2.2.2.2.2.2.1.trans (LN.out.below HX0.out.2.2.2.2.2.2.2.2.1 HX0.out.2.2.2.2.2.2.2.1.size); have SO : Hid (So u w.heap.size vi iz) := LO.out.mono HX0.out.2.2.2.2.2.2.2.1.size; have q0 := Q5.out.cell (i := 0) rfl; have q1 := Q5.out.cell (i := 1) rfl; have q2 := Q5.out.cell (i := 2) rfl; have q3 := Q5.out.cell (i := 3) rfl; have p0 := RB.out.cell (i := 0) rfl; have f0 := RB.out.free 0; have p1 := RB.out.cell (i := 1) rfl; have f1 := RB.out.free 1; have p2 := RB.out.cell (i := 2) rfl; have f2 := RB.out.free 2; have p3 := RB.out.cell (i := 3) rfl; have f3 := RB.out.free 3; have lt := RB.out.lt)
    clear lt p0 f0 p1 f1 p2 f2 p3 f3 q0 q1 q2 q3
    obtain ⟨R9, D9, O9⟩ := put4 RB.out DV.out SO.out
    have hle : w.heap.size ≤ s0 := by have := SE.out; omega
    have B9 := (((BX.out.setCell (p := ⟨s0, 0, none⟩) hle (.slice a0 n0 c0)).setCell (p := ⟨s0, 1, none⟩) hle (.slice a1 n1 c1)).setCell (p := ⟨s0, 2, none⟩) hle (.slice a2 n2 c2)).setCell (p := ⟨s0, 3, none⟩) hle (.slice a3 n3 c3)
    have z0 := R9.cell (i := 0) rfl
    have z1 := R9.cell (i := 1) rfl
    have z2 := R9.cell (i := 2) rfl
    have z3 := R9.cell (i := 3) rfl
    exact bodyPost_ret (v := .tuple #[.agg #[.slice a0 n0 c0, .slice a1 n1 c1, .slice a2 n2 c2, .slice a3 n3 c3], vi]) (by simp [results, Tryz.results5, go_sem, z0, z1, z2, z3]) rfl ⟨_, _, _, _, P, _, iz, rfl, D9, O9, LL.out, B9⟩
  have g0 : (x == 0) = false := beq_eq_false_iff_ne.2 x0
  by_cases x1 : x = 1
  case pos =>
    subst x1
    by_cases hn : 0 < ni
    case pos =>
      obtain ⟨g, rfl⟩ := hig hn
      have hI : (0 : Int) < (ni : Int) := by omega
      obtain ⟨ti, hi, hz0, hz1, hz2⟩ := info_parts info_i64
      have HG : Hid (X.heap.size ≤ g) := O4.out.lt
      go_upto_region 13 with (at_make; refine wpList_make_full _ rfl _ _ 32 rfl w4.heap.size 2 ti _ 1 Tryz.underlying32 hi hz0 hz1 _ _ _ _ 41 rfl rfl rfl rfl (by rw [hz2]; omega) (by unfold maxLen; omega) (Nat.le_refl _) ?_; intro p8 hown hgrow; have bl : Below w4.heap.size w4 p8 := (Below.refl _ _).grown hgrow (Nat.le_refl _) (by simp); obtain ⟨g', d1, d2, eg, c8, f8, -⟩ := (O4.out.keep bl).first (by have := NI.out; omega); cases eg)
      have N8 : Nums p8 w4.heap.size (.slice (some ⟨w4.heap.size, 0, none⟩) 41 41) (List.replicate 41 0) := Nums.made hown (by rw [Nat.mul_one, show (Value.int .i64 0).cells = #[.int .i64 0] from rfl, toList_madeCells_one]; simp)
      have O8 : So p8 X.heap.size (.slice (some ⟨g, 0, none⟩) ni ic) iss := O4.out.keep bl
      obtain ⟨u, hu⟩ : ∃ u, p8.setCell ⟨g, 0, none⟩ (.slice (some ⟨w4.heap.size, 0, none⟩) 41 41) = u := ⟨_, rfl⟩
      obtain ⟨iz, hiz⟩ : ∃ z, iss.set 0 (List.replicate 41 0) = z := ⟨_, rfl⟩
      obtain ⟨vi, hvi⟩ : ∃ v, Value.slice (some ⟨g, 0, none⟩) ni ic = v := ⟨_, rfl⟩
      have LL : Hid (iz.length ≤ 5) := by show _ ≤ _; rw [← hiz]; have := NI.out; simp; omega
      have LO : Hid (So u X.heap.size vi iz) := by show So _ _ _ _; rw [← hiz, ← hu, ← hvi]; exact O8.put0 (N8.monoD T4.out.size)
      have LN : Hid (Turn b X u) := by show Turn _ _ _; rw [← hu]; exact (T4.out.trans (Turn.of_below bl)).put _ _ HG.out
      rw [hu]
      clear hu hiz hi hz0 hz1 hz2 bl hown hgrow c8 f8 N8 O8 hI g0
      subst hvi
      have DV : Hid (Dv u w.heap.size (.slice a0 n0 c0) (.slice a1 n1 c1) (.slice a2 n2 c2) (.slice a3 n3 c3) P) := (HX0.out.1.turn LN.out HX0.out.2.2.2.1).mono HX0.out.2.2.2.2.1
      have Q5 : Hid (Bk u s5 #[.slice a0 n0 c0, .slice a1 n1 c1, .slice a2 n2 c2, .slice a3 n3 c3] 29) := HX0.out.2.1.turn LN.out HX0.out.2.2.2.2.2.1
      have RB : Hid (Bk u s0 #[.slice none 0 0, .slice none 0 0, .slice none 0 0, .slice none 0 0] 29) := HX0.out.2.2.1.turn LN.out HX0.out.2.2.2.2.2.2.1
      have BX : Hid (Below w.heap.size w u) := HX0.out.2.2.2.2.2.2.2.1.trans (LN.out.below HX0.out.2.2.2.2.2.2.2.2.1 HX0.out.2.2.2.2.2.2.2.1.size)
      have SO : Hid (So u w.heap.size (.slice (some ⟨g, 0, none⟩) ni ic) iz) := LO.out.mono HX0.out.2.2.2.2.2.2.2.1.size
      have q0 := Q5.out.cell (i := 0) rfl
      have q1 := Q5.out.cell (i := 1) rfl
      have q2 := Q5.out.cell (i := 2) rfl
      have q3 := Q5.out.cell (i := 3) rfl
      have p0 := RB.out.cell (i := 0) rfl; have f0 := RB.out.free 0
      have p1 := RB.out.cell (i := 1) rfl; have f1 := RB.out.free 1
      have p2 := RB.out.cell (i := 2) rfl; have f2 := RB.out.free 2
      have p3 := RB.out.cell (i := 3) rfl; have f3 := RB.out.free 3
      have lt := RB.out.lt
      go_wp2_with fail
      clear lt p0 f0 p1 f1 p2 f2 p3 f3 q0 q1 q2 q3
      obtain ⟨R9, D9, O9⟩ := put4 RB.out DV.out SO.out
      have hle : w.heap.size ≤ s0 := by have := SE.out; omega
      have B9 := (((BX.out.setCell (p := ⟨s0, 0, none⟩) hle (.slice a0 n0 c0)).setCell (p := ⟨s0, 1, none⟩) hle (.slice a1 n1 c1)).setCell (p := ⟨s0, 2, none⟩) hle (.slice a2 n2 c2)).setCell (p := ⟨s0, 3, none⟩) hle (.slice a3 n3 c3)
      have z0 := R9.cell (i := 0) rfl
      have z1 := R9.cell (i := 1) rfl
      have z2 := R9.cell (i := 2) rfl
      have z3 := R9.cell (i := 3) rfl
      exact bodyPost_ret (v := .tuple #[.agg #[.slice a0 n0 c0, .slice a1 n1 c1, .slice a2 n2 c2, .slice a3 n3 c3], (.slice (some ⟨g, 0, none⟩) ni ic)]) (by simp [results, Tryz.results5, go_sem, z0, z1, z2, z3]) rfl ⟨_, _, _, _, P, _, iz, rfl, D9, O9, LL.out, B9⟩
    case neg =>
      have hI : ¬ (0 : Int) < (ni : Int) := by omega
      obtain ⟨u, hu⟩ : ∃ u, u = w4 := ⟨_, rfl⟩
      obtain ⟨vi, hvi⟩ : ∃ v, Value.slice ia ni ic = v := ⟨_, rfl⟩
      obtain ⟨iz, hiz⟩ : ∃ z, iss = z := ⟨_, rfl⟩
      have LL : Hid (iz.length ≤ 5) := by show _ ≤ _; rw [← hiz]; have := NI.out; omega
      have LO : Hid (So u X.heap.size vi iz) := by show So _ _ _ _; rw [← hiz, ← hvi, hu]; exact O4.out
      have LN : Hid (Turn b X u) := by show Turn _ _ _; rw [hu]; exact T4.out
      clear hiz O4 T4 S4
      subst hu
      subst hvi
      have DV : Hid (Dv u w.heap.size (.slice a0 n0 c0) (.slice a1 n1 c1) (.slice a2 n2 c2) (.slice a3 n3 c3) P) := (HX0.out.1.turn LN.out HX0.out.2.2.2.1).mono HX0.out.2.2.2.2.1
      have Q5 : Hid (Bk u s5 #[.slice a0 n0 c0, .slice a1 n1 c1, .slice a2 n2 c2, .slice a3 n3 c3] 29) := HX0.out.2.1.turn LN.out HX0.out.2.2.2.2.2.1
      have RB : Hid (Bk u s0 #[.slice none 0 0, .slice none 0 0, .slice none 0 0, .slice none 0 0] 29) := HX0.out.2.2.1.turn LN.out HX0.out.2.2.2.2.2.2.1
      have BX : Hid (Below w.heap.size w u) := HX0.out.2.2.2.2.2.2.2.1.trans (LN.out.below HX0.out.2.2.2.2.2.2.2.2.1 HX0.out.2.2.2.2.2.2.2.1.size)
      have SO : Hid (So u w.heap.size (.slice ia ni ic) iz) := LO.out.mono HX0.out.2.2.2.2.2.2.2.1.size
      have q0 := Q5.out.cell (i := 0) rfl
      have q1 := Q5.out.cell (i := 1) rfl
      have q2 := Q5.out.cell (i := 2) rfl
      have q3 := Q5.out.cell (i := 3) rfl
      have p0 := RB.out.cell (i := 0) rfl; have f0 := RB.out.free 0
      have p1 := RB.out.cell (i := 1) rfl; have f1 := RB.out.free 1
      have p2 := RB.out.cell (i := 2) rfl; have f2 := RB.out.free 2
      have p3 := RB.out.cell (i := 3) rfl; have f3 := RB.out.free 3
      have lt := RB.out.lt
      go_wp2_with fail
      clear lt p0 f0 p1 f1 p2 f2 p3 f3 q0 q1 q2 q3
      obtain ⟨R9, D9, O9⟩ := put4 RB.out DV.out SO.out
      have hle : w.heap.size ≤ s0 := by have := SE.out; omega
      have B9 := (((BX.out.setCell (p := ⟨s0, 0, none⟩) hle (.slice a0 n0 c0)).setCell (p := ⟨s0, 1, none⟩) hle (.slice a1 n1 c1)).setCell (p := ⟨s0, 2, none⟩) hle (.slice a2 n2 c2)).setCell (p := ⟨s0, 3, none⟩) hle (.slice a3 n3 c3)
      have z0 := R9.cell (i := 0) rfl
      have z1 := R9.cell (i := 1) rfl
      have z2 := R9.cell (i := 2) rfl
      have z3 := R9.cell (i := 3) rfl
      exact bodyPost_ret (v := .tuple #[.agg #[.slice a0 n0 c0, .slice a1 n1 c1, .slice a2 n2 c2, .slice a3 n3 c3], (.slice ia ni ic)]) (by simp [results, Tryz.results5, go_sem, z0, z1, z2, z3]) rfl ⟨_, _, _, _, P, _, iz, rfl, D9, O9, LL.out, B9⟩
  have g1 : (x == 1) = false := beq_eq_false_iff_ne.2 x1
  by_cases x2 : x = 2
  case pos =>
    subst x2
    by_cases hn : 0 < ni
    case pos =>
      obtain ⟨g, rfl⟩ := hig hn
      have hI : (0 : Int) < (ni : Int) := by omega
      have HG : Hid (X.heap.size ≤ g) := O4.out.lt
      go_wp2_with fail
      refine (wide_any S4.out (by have := S3.out.2; omega)).mono ?_
      rintro e w5 ⟨y, rfl, -, t5, s5'⟩
      have O5 : Hid (So w5 X.heap.size (.slice (some ⟨g, 0, none⟩) ni ic) iss) := O4.out.turn t5 HBX.out
      have T5 : Hid (Turn b X w5) := T4.out.trans t5
      clear t5 s5'
      have O8 : So (w5.alloc (.cells #[.int .i64 y] 2)) X.heap.size (.slice (some ⟨g, 0, none⟩) ni ic) iss := O5.out.keep (al (Below.refl _ _) _)
      obtain ⟨g', d1, d2, eg, c8, f8, -⟩ := O8.first (by have := NI.out; omega)
      cases eg
      have N8 : Nums (w5.alloc (.cells #[.int .i64 y] 2)) w5.heap.size (.slice (some ⟨w5.heap.size, 0, none⟩) 1 1) [y] := World.ownsRow_lit w5 #[.int .i64 y] 1 (Nat.le_refl _) (by decide) rfl
      go_upto_region 13 with fail
      obtain ⟨u, hu⟩ : ∃ u, (w5.alloc (.cells #[.int .i64 y] 2)).setCell ⟨g, 0, none⟩ (.slice (some ⟨w5.heap.size, 0, none⟩) 1 1) = u := ⟨_, rfl⟩
      obtain ⟨iz, hiz⟩ : ∃ z, iss.set 0 [y] = z := ⟨_, rfl⟩
      obtain ⟨vi, hvi⟩ : ∃ v, Value.slice (some ⟨g, 0, none⟩) ni ic = v := ⟨_, rfl⟩
      have LL : Hid (iz.length ≤ 5) := by show _ ≤ _; rw [← hiz]; have := NI.out; simp; omega
      have LO : Hid (So u X.heap.size vi iz) := by show So _ _ _ _; rw [← hiz, ← hu, ← hvi]; exact O8.put0 (N8.monoD T5.out.size)
      have LN : Hid (Turn b X u) := by show Turn _ _ _; rw [← hu]; exact (T5.out.trans (Turn.alloc _ _ _)).put _ _ HG.out
      rw [hu]
      clear hu hiz c8 f8 N8 O8 hI
      subst hvi
      have DV : Hid (Dv u w.heap.size (.slice a0 n0 c0) (.slice a1 n1 c1) (.slice a2 n2 c2) (.slice a3 n3 c3) P) := (HX0.out.1.turn LN.out HX0.out.2.2.2.1).mono HX0.out.2.2.2.2.1
      have Q5 : Hid (Bk u s5 #[.slice a0 n0 c0, .slice a1 n1 c1, .slice a2 n2 c2, .slice a3 n3 c3] 29) := HX0.out.2.1.turn LN.out HX0.out.2.2.2.2.2.1
      have RB : Hid (Bk u s0 #[.slice none 0 0, .slice none 0 0, .slice none 0 0, .slice none 0 0] 29) := HX0.out.2.2.1.turn LN.out HX0.out.2.2.2.2.2.2.1
      have BX : Hid (Below w.heap.size w u) := HX0.out.2.2.2.2.2.2.2.1.trans (LN.out.below HX0.out.2.2.2.2.2.2.2.2.1 HX0.out.2.2.2.2.2.2.2.1.size)
      have SO : Hid (So u w.heap.size (.slice (some ⟨g, 0, none⟩) ni ic) iz) := LO.out.mono HX0.out.2.2.2.2.2.2.2.1.size
      have q0 := Q5.out.cell (i := 0) rfl
      have q1 := Q5.out.cell (i := 1) rfl
      have q2 := Q5.out.cell (i := 2) rfl
      have q3 := Q5.out.cell (i := 3) rfl
      have p0 := RB.out.cell (i := 0) rfl; have f0 := RB.out.free 0
      have p1 := RB.out.cell (i := 1) rfl; have f1 := RB.out.free 1
      have p2 := RB.out.cell (i := 2) rfl; have f2 := RB.out.free 2
      have p3 := RB.out.cell (i := 3) rfl; have f3 := RB.out.free 3
      have lt := RB.out.lt
      go_wp2_with fail
      clear lt p0 f0 p1 f1 p2 f2 p3 f3 q0 q1 q2 q3
      obtain ⟨R9, D9, O9⟩ := put4 RB.out DV.out SO.out
      have hle : w.heap.size ≤ s0 := by have := SE.out; omega
      have B9 := (((BX.out.setCell (p := ⟨s0, 0, none⟩) hle (.slice a0 n0 c0)).setCell (p := ⟨s0, 1, none⟩) hle (.slice a1 n1 c1)).setCell (p := ⟨s0, 2, none⟩) hle (.slice a2 n2 c2)).setCell (p := ⟨s0, 3, none⟩) hle (.slice a3 n3 c3)
      have z0 := R9.cell (i := 0) rfl
      have z1 := R9.cell (i := 1) rfl
      have z2 := R9.cell (i := 2) rfl
      have z3 := R9.cell (i := 3) rfl
      exact bodyPost_ret (v := .tuple #[.agg #[.slice a0 n0 c0, .slice a1 n1 c1, .slice a2 n2 c2, .slice a3 n3 c3], (.slice (some ⟨g, 0, none⟩) ni ic)]) (by simp [results, Tryz.results5, go_sem, z0, z1, z2, z3]) rfl ⟨_, _, _, _, P, _, iz, rfl, D9, O9, LL.out, B9⟩
    case neg =>
      have hI : ¬ (0 : Int) < (ni : Int) := by omega
      obtain ⟨u, hu⟩ : ∃ u, u = w4 := ⟨_, rfl⟩
      obtain ⟨vi, hvi⟩ : ∃ v, Value.slice ia ni ic = v := ⟨_, rfl⟩
      obtain ⟨iz, hiz⟩ : ∃ z, iss = z := ⟨_, rfl⟩
      have LL : Hid (iz.length ≤ 5) := by show _ ≤ _; rw [← hiz]; have := NI.out; omega
      have LO : Hid (So u X.heap.size vi iz) := by show So _ _ _ _; rw [← hiz, ← hvi, hu]; exact O4.out
      have LN : Hid (Turn b X u) := by show Turn _ _ _; rw [hu]; exact T4.out
      clear hiz O4 T4 S4
      subst hu
      subst hvi
      have DV : Hid (Dv u w.heap.size (.slice a0 n0 c0) (.slice a1 n1 c1) (.slice a2 n2 c2) (.slice a3 n3 c3) P) := (HX0.out.1.turn LN.out HX0.out.2.2.2.1).mono HX0.out.2.2.2.2.1
      have Q5 : Hid (Bk u s5 #[.slice a0 n0 c0, .slice a1 n1 c1, .slice a2 n2 c2, .slice a3 n3 c3] 29) := HX0.out.2.1.turn LN.out HX0.out.2.2.2.2.2.1
      have RB : Hid (Bk u s0 #[.slice none 0 0, .slice none 0 0, .slice none 0 0, .slice none 0 0] 29) := HX0.out.2.2.1.turn LN.out HX0.out.2.2.2.2.2.2.1
      have BX : Hid (Below w.heap.size w u) := HX0.out.2.2.2.2.2.2.2.1.trans (LN.out.below HX0.out.2.2.2.2.2.2.2.2.1 HX0.out.2.2.2.2.2.2.2.1.size)
      have SO : Hid (So u w.heap.size (.slice ia ni ic) iz) := LO.out.mono HX0.out.2.2.2.2.2.2.2.1.size
      have q0 := Q5.out.cell (i := 0) rfl
      have q1 := Q5.out.cell (i := 1) rfl
      have q2 := Q5.out.cell (i := 2) rfl
      have q3 := Q5.out.cell (i := 3) rfl
      have p0 := RB.out.cell (i := 0) rfl; have f0 := RB.out.free 0
      have p1 := RB.out.cell (i := 1) rfl; have f1 := RB.out.free 1
      have p2 := RB.out.cell (i := 2) rfl; have f2 := RB.out.free 2
      have p3 := RB.out.cell (i := 3) rfl; have f3 := RB.out.free 3
      have lt := RB.out.lt
      go_wp2_with fail
      clear lt p0 f0 p1 f1 p2 f2 p3 f3 q0 q1 q2 q3
      obtain ⟨R9, D9, O9⟩ := put4 RB.out DV.out SO.out
      have hle : w.heap.size ≤ s0 := by have := SE.out; omega
      have B9 := (((BX.out.setCell (p := ⟨s0, 0, none⟩) hle (.slice a0 n0 c0)).setCell (p := ⟨s0, 1, none⟩) hle (.slice a1 n1 c1)).setCell (p := ⟨s0, 2, none⟩) hle (.slice a2 n2 c2)).setCell (p := ⟨s0, 3, none⟩) hle (.slice a3 n3 c3)
      have z0 := R9.cell (i := 0) rfl
      have z1 := R9.cell (i := 1) rfl
      have z2 := R9.cell (i := 2) rfl
      have z3 := R9.cell (i := 3) rfl
      exact bodyPost_ret (v := .tuple #[.agg #[.slice a0 n0 c0, .slice a1 n1 c1, .slice a2 n2 c2, .slice a3 n3 c3], (.slice ia ni ic)]) (by simp [results, Tryz.results5, go_sem, z0, z1, z2, z3]) rfl ⟨_, _, _, _, P, _, iz, rfl, D9, O9, LL.out, B9⟩
  have g2 : (x == 2) = false := beq_eq_false_iff_ne.2 x2
  obtain ⟨u, hu⟩ : ∃ u, u = w4 := ⟨_, rfl⟩
  obtain ⟨vi, hvi⟩ : ∃ v, Value.slice ia ni ic = v := ⟨_, rfl⟩
  obtain ⟨iz, hiz⟩ : ∃ z, iss = z := ⟨_, rfl⟩
  have LL : Hid (iz.length ≤ 5) := by show _ ≤ _; rw [← hiz]; have := NI.out; omega
  have LO : Hid (So u X.heap.size vi iz) := by show So _ _ _ _; rw [← hiz, ← hvi, hu]; exact O4.out
  have LN : Hid (Turn b X u) := by show Turn _ _ _; rw [hu]; exact T4.out
  clear hiz O4 T4 S4
  subst hu
  subst hvi
  have DV : Hid (Dv u w.heap.size (.slice a0 n0 c0) (.slice a1 n1 c1) (.slice a2 n2 c2) (.slice a3 n3 c3) P) := (HX0.out.1.turn LN.out HX0.out.2.2.2.1).mono HX0.out.2.2.2.2.1
  have Q5 : Hid (Bk u s5 #[.slice a0 n0 c0, .slice a1 n1 c1, .slice a2 n2 c2, .slice a3 n3 c3] 29) := HX0.out.2.1.turn LN.out HX0.out.2.2.2.2.2.1
  have RB : Hid (Bk u s0 #[.slice none 0 0, .slice none 0 0, .slice none 0 0, .slice none 0 0] 29) := HX0.out.2.2.1.turn LN.out HX0.out.2.2.2.2.2.2.1
  have BX : Hid (Below w.heap.size w u) := HX0.out.2.2.2.2.2.2.2.1.trans (LN.out.below HX0.out.2.2.2.2.2.2.2.2.1 HX0.out.2.2.2.2.2.2.2.1.size)
  have SO : Hid (So u w.heap.size (.slice ia ni ic) iz) := LO.out.mono HX0.out.2.2.2.2.2.2.2.1.size
  have q0 := Q5.out.cell (i := 0) rfl
  have q1 := Q5.out.cell (i := 1) rfl
  have q2 := Q5.out.cell (i := 2) rfl
  have q3 := Q5.out.cell (i := 3) rfl
  have p0 := RB.out.cell (i := 0) rfl; have f0 := RB.out.free 0
  have p1 := RB.out.cell (i := 1) rfl; have f1 := RB.out.free 1
  have p2 := RB.out.cell (i := 2) rfl; have f2 := RB.out.free 2
  have p3 := RB.out.cell (i := 3) rfl; have f3 := RB.out.free 3
  have lt := RB.out.lt
  go_wp2_with fail
  clear lt p0 f0 p1 f1 p2 f2 p3 f3 q0 q1 q2 q3
  obtain ⟨R9, D9, O9⟩ := put4 RB.out DV.out SO.out
  have hle : w.heap.size ≤ s0 := by have := SE.out; omega
  have B9 := (((BX.out.setCell (p := ⟨s0, 0, none⟩) hle (.slice a0 n0 c0)).setCell (p := ⟨s0, 1, none⟩) hle (.slice a1 n1 c1)).setCell (p := ⟨s0, 2, none⟩) hle (.slice a2 n2 c2)).setCell (p := ⟨s0, 3, none⟩) hle (.slice a3 n3 c3)
  have z0 := R9.cell (i := 0) rfl
  have z1 := R9.cell (i := 1) rfl
  have z2 := R9.cell (i := 2) rfl
  have z3 := R9.cell (i := 3) rfl
  exact bodyPost_ret (v := .tuple #[.agg #[.slice a0 n0 c0, .slice a1 n1 c1, .slice a2 n2 c2, .slice a3 n3 c3], (.slice ia ni ic)]) (by simp [results, Tryz.results5, go_sem, z0, z1, z2, z3]) rfl ⟨_, _, _, _, P, _, iz, rfl, D9, O9, LL.out, B9⟩
end Go.Proofs.YtdhdfopkcpkbeaaGreatDoor
