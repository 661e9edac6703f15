/- The gap between two turns of a guest, by the model. -/
import Derived.Test.YtnhebeehpkecfaaDoorVva
import Derived.Test.YtnhebeehpkecfaaDoorPol
import Derived.Test.YtnhebeehpkecfaaDoorHnm
import Derived.Test.YtnhebeehpkecfaaDoorWords
import Derived.Deep.RegionWith
import Derived.Deep.Cut
import Derived.Deep.CutRange
namespace Go.Proofs.YtnhebeehpkecfaaDoor
open Go.RowKit
set_option linter.unusedVariables false

theorem t_max (x y : Int) (w : World) : Calls Tryd.prog 16 #[.int .i64 x, .int .i64 y] w fun e w' => e = .returned (.int .i64 (max x y)) ∧ w' = w := by
  by_cases h : y < x
  · have e : max x y = x := by omega
    rw [e]
    go_enter Tryd.func16, Tryd.ntmps16
    go_wp2_with fail
    go_ret
    exact ⟨rfl, rfl⟩
  · have e : max x y = y := by omega
    rw [e]
    go_enter Tryd.func16, Tryd.ntmps16
    go_wp2_with fail
    go_ret
    exact ⟨rfl, rfl⟩
set_option maxRecDepth 20000 in
set_option maxHeartbeats 8000000 in
theorem s_gap (a0 a1 a2 a3 : Option Addr) (n0 c0 n1 c1 n2 c2 n3 c3 : Nat) (P : Plc) (gu : Int) (w : World) (h : Pl w a0 n0 c0 a1 n1 c1 a2 n2 c2 a3 n3 c3 P) :
    Calls Tryd.prog 5 #[.agg #[.slice a0 n0 c0, .slice a1 n1 c1, .slice a2 n2 c2, .slice a3 n3 c3], .int .i64 gu] w fun e w' => e = .returned (.agg #[.int .i64 (gpR P gu).1, .int .i64 (gpR P gu).2]) ∧ Below w.heap.size w w' := by
  obtain ⟨U, hU⟩ : ∃ U, gpR P gu = U := ⟨_, rfl⟩
  rw [hU]
  have HU : Hid (gpR P gu = U) := hU
  clear hU
  obtain ⟨U1, U2⟩ := U
  generalize hW : (w.alloc (.cells #[.slice a0 n0 c0, .slice a1 n1 c1, .slice a2 n2 c2, .slice a3 n3 c3] 36)).alloc (.cells #[.int .i64 0, .int .i64 0] 30) = W
  have B0 : Hid (Below w.heap.size w W) := by show Below _ _ _; rw [← hW]; exact al (al (Below.refl _ _) _) _
  obtain ⟨s, hS⟩ : ∃ s, w.heap.size = s := ⟨_, rfl⟩
  have HSs : Hid (w.heap.size = s) := hS
  have Q : Hid (Vb W s #[.slice a0 n0 c0, .slice a1 n1 c1, .slice a2 n2 c2, .slice a3 n3 c3] 36) := by show Vb _ _ _ _; rw [← hW, ← hS]; exact (Vb.new _ _ _).push _
  have R : Hid (Vb W (s + 1) #[.int .i64 0, .int .i64 0] 30) := by
    have z1 : s + 1 = (w.alloc (.cells #[.slice a0 n0 c0, .slice a1 n1 c1, .slice a2 n2 c2, .slice a3 n3 c3] 36)).heap.size := by rw [← hS]; simp
    show Vb _ _ _ _; rw [← hW, z1]; exact Vb.new _ _ _
  have HP : Hid (Pl W a0 n0 c0 a1 n1 c1 a2 n2 c2 a3 n3 c3 P) := h.stay B0.out
  have HA : Hid (PolAt W s P) := ⟨_, _, _, _, _, _, _, _, _, _, _, _, Q.out.cell 0 rfl, Q.out.cell 1 rfl, Q.out.cell 2 rfl, Q.out.cell 3 rfl, HP.out⟩
  clear h
  have fv := field_value
  go_enter Tryd.func5, Tryd.ntmps5
  go_wp2_with fail
  clear hW hS
  refine (l6_asked _ _ P _ HA.out).mono ?_
  rintro e w1 ⟨rfl, b1⟩
  have R1 : Hid (Vb w1 (s + 1) #[.int .i64 0, .int .i64 0] 30) := R.out.keep b1
  have Q1 : Hid (Vb w1 s #[.slice a0 n0 c0, .slice a1 n1 c1, .slice a2 n2 c2, .slice a3 n3 c3] 36) := Q.out.keep b1
  have HP1 : Hid (Pl w1 a0 n0 c0 a1 n1 c1 a2 n2 c2 a3 n3 c3 P) := HP.out.stay b1
  have B1 : Hid (Below w.heap.size w w1) := on B0.out b1
  clear b1
  by_cases hz : askV P gu = 0
  case neg =>
    have EU := HU.out
    rw [gpR, if_neg hz] at EU
    obtain ⟨F1, hF⟩ : ∃ F, askV P gu = F := ⟨_, rfl⟩
    rw [hF] at EU hz ⊢
    obtain ⟨rfl, rfl⟩ : F1 = U1 ∧ (0 : Int) = U2 := by simpa using EU
    clear EU hF
    have r0 := R1.out.cell 0 rfl
    have r1 := R1.out.cell 1 rfl
    have f0 := R1.out.free 0
    have f1 := R1.out.free 1
    go_wp2_with fail
    exact bodyPost_ret (v := .agg #[.int .i64 F1, .int .i64 0]) (by simp [results, Tryd.results5, go_sem, r0, r1]) rfl ⟨rfl, (B1.out.setCell (by have := HSs.out; show w.heap.size ≤ s + 1; omega) _).setCell (by have := HSs.out; show w.heap.size ≤ s + 1; omega) _⟩
  have PZ : Hid (pfV P = 0) := ask_pf P gu hz
  have EF : fR P gu = (0, frV gu P.plan) := by rw [fR, if_pos hz]
  have FR := s_framesOf _ _ _ _ _ _ _ _ _ _ _ _ P gu w1 HP1.out
  rw [EF] at FR
  have EU := HU.out
  rw [gpR, if_pos hz] at EU
  rw [hz]
  obtain ⟨F2, hF⟩ : ∃ F, frV gu P.plan = F := ⟨_, rfl⟩
  rw [hF] at FR EU
  simp only at FR
  have EUH : Hid ((if F2 = 0 then ((10 : Int), (0 : Int)) else (0, (gN P gu (2 * P.plan.length)).1)) = (U1, U2)) := EU
  clear EU hF EF hz
  have q0 := Q1.out.cell 0 rfl
  have q1 := Q1.out.cell 1 rfl
  have q2 := Q1.out.cell 2 rfl
  have q3 := Q1.out.cell 3 rfl
  go_wp2_with fail
  refine FR.mono ?_
  rintro e w2 ⟨rfl, b2⟩
  have R2 : Hid (Vb w2 (s + 1) #[.int .i64 0, .int .i64 0] 30) := R1.out.keep b2
  have Q2 : Hid (Vb w2 s #[.slice a0 n0 c0, .slice a1 n1 c1, .slice a2 n2 c2, .slice a3 n3 c3] 36) := Q1.out.keep b2
  have HPw : Hid (Pl w2 a0 n0 c0 a1 n1 c1 a2 n2 c2 a3 n3 c3 P) := HP1.out.stay b2
  have B2 : Hid (Below w.heap.size w w2) := on B1.out b2
  clear b2 FR q0 q1 q2 q3
  by_cases hf : F2 = 0
  · subst hf
    have EU := EUH.out
    rw [if_pos rfl] at EU
    obtain ⟨rfl, rfl⟩ : (10 : Int) = U1 ∧ (0 : Int) = U2 := by simpa using EU
    clear EU
    have r0 := R2.out.cell 0 rfl
    have r1 := R2.out.cell 1 rfl
    have f0 := R2.out.free 0
    have f1 := R2.out.free 1
    go_wp2_with fail
    exact bodyPost_ret (v := .agg #[.int .i64 10, .int .i64 0]) (by simp [results, Tryd.results5, go_sem, r0, r1]) rfl ⟨rfl, (B2.out.setCell (by have := HSs.out; show w.heap.size ≤ s + 1; omega) _).setCell (by have := HSs.out; show w.heap.size ≤ s + 1; omega) _⟩
  have EU := EUH.out
  rw [if_neg hf] at EU
  obtain ⟨rfl, e3⟩ : (0 : Int) = U1 ∧ (gN P gu (2 * P.plan.length)).1 = U2 := by simpa using EU
  have E3 : Hid ((gN P gu (2 * P.plan.length)).1 = U2) := e3
  clear EU e3 EUH HU
  have hf2 : (F2 == 0) = false := beq_eq_false_iff_ne.2 hf
  have HL3 : Hid (n3 = P.plan.length) := HPw.out.plan.len
  have L8 : Hid (P.plan.length ≤ 8) := (pf_plan P PZ.out).1
  have BD : Hid (∀ n, n ≤ 2 * P.plan.length → (0 ≤ (gN P gu n).1 ∧ (gN P gu n).1 ≤ 50 * n) ∧ (0 ≤ (gN P gu n).2 ∧ (gN P gu n).2 ≤ 50 * n)) := gN_bound P PZ.out gu
  have ST8 : Hid (∀ j, j < P.plan.length → 1 ≤ (P.plan.getD j (0, 0)).2 ∧ (P.plan.getD j (0, 0)).2 ≤ 50) := (pf_plan P PZ.out).2
  have hmax3 : (n3 : Int) ≤ 8 := by have := L8.out; have := HL3.out; omega
  go_wp2_with fail
  go_loopw [6, 7, 8] (fun g6 g7 c wr => ∃ n : Nat, n ≤ 2 * n3 ∧ c = .int .i64 n ∧ g7 = .int .i64 (gN P gu n).2 ∧ g6 = .int .i64 (gN P gu n).1 ∧ Below w2.heap.size w2 wr) (fun _ _ c _ => 2 * n3 - (intOf c).toNat)
  case atStart => exact ⟨0, by omega, rfl, by rw [gN_zero], by rw [gN_zero], Below.refl _ _⟩
  case round =>
    obtain ⟨n, hn, rfl, rfl, rfl, hB⟩ := hrel
    have HB : Hid (Below w2.heap.size w2 wr) := hB
    have q3 := (Q2.out.keep hB).cell 3 rfl
    by_cases hlt : n < 2 * n3
    · have n3p : 0 < n3 := by omega
      obtain ⟨x, rfl, k0, k1⟩ := (HPw.out.plan.stay hB).at (n % n3) (Nat.mod_lt _ n3p)
      have hJ : (n : Int) < 2 * (n3 : Int) := by omega
      have HLT : Hid (n < 2 * n3) := hlt
      have SU : Hid (_ = _) := gN_succ P gu n (by have := HL3.out; omega)
      have bd := BD.out n (by have := HL3.out; omega)
      have st := ST8.out (n % P.plan.length) (Nat.mod_lt _ (by have := HL3.out; omega))
      rw [← HL3.out] at SU st
      obtain ⟨⟨g, t⟩, hL⟩ : ∃ L, P.plan.getD (n % n3) (0, 0) = L := ⟨_, rfl⟩
      rw [hL] at k0 k1 SU st
      simp only at k0 k1 SU st
      obtain ⟨⟨mo, ru⟩, hM⟩ : ∃ M, gN P gu n = M := ⟨_, rfl⟩
      rw [hM] at SU bd ⊢
      simp only at SU bd ⊢
      have b0 : 0 ≤ mo := bd.1.1
      have b1 : mo ≤ 800 := by have := bd.1.2; have := HLT.out; omega
      have b2 : 0 ≤ ru := bd.2.1
      have b3 : ru ≤ 800 := by have := bd.2.2; have := HLT.out; omega
      have s0 : 1 ≤ t := st.1
      have s1 : t ≤ 50 := st.2
      obtain ⟨md, hmd⟩ : ∃ md, n % n3 = md := ⟨_, rfl⟩
      have hmd2 : (n : Int).tmod (n3 : Int) = (md : Int) := by rw [← hmd]; rfl
      have hmd3 : (n : Int) % (n3 : Int) = (md : Int) := by rw [← hmd]; simp
      have hmlt : md < n3 := by rw [← hmd]; exact Nat.mod_lt _ n3p
      have hmI : (md : Int) < (n3 : Int) := by omega
      have hn0 : ¬ (n3 : Int) = 0 := by omega
      have hn1 : ¬ n3 = 0 := by omega
      rw [hmd] at k0 k1
      have xb : x.block < wr.heap.size := by have t := block_of_cell k0; unfold Addr.add at t; split at t <;> exact t
      have k0' := cell_push (.cells #[.int .i64 0, .int .i64 0] 48) k0
      have q3' := cell_push (.cells #[.int .i64 0, .int .i64 0] 48) q3
      have k1' := cell_push (.cells #[.int .i64 0, .int .i64 0] 48) k1
      clear hL hM bd st hlt hB hmd
      go_wp2_with fail
      go_cut [9] from 30 to 38 (fun p wx => ∃ gg, p = .pointer (some ⟨gg, 0, none⟩) ∧ wx.cell? ⟨gg, 0, none⟩ = some (.int .i64 g) ∧ wx.cell? ⟨gg, 1, none⟩ = some (.int .i64 t) ∧ Below wr.heap.size wr wx)
      case first =>
        go_region_with (fail)
        all_goals (go_wp2_with fail; go_meet; exact ⟨_, rfl, by simp, by simp, by first | exact al (Below.refl _ _).drew _ | exact (al (Below.refl _ _) _).drew | exact al (Below.refl _ _) _⟩)
      case rest =>
      obtain ⟨gg, rfl, d0, d1, b3⟩ := hcut
      have HB3 : Hid (Below w2.heap.size w2 wc) := on HB.out b3
      have lg : gg < wc.heap.size := block_of_cell d0
      clear b3 k0 k1 k0' k1' q3' q3 HB
      by_cases he : g = gu
      · have S2 : Hid (gN P gu (n + 1) = (mo, 0)) := by show _ = _; rw [SU.out, gst, if_pos he]
        clear SU
        go_wp2_with fail
        go_roundw
        case rel => exact ⟨n + 1, by have := HLT.out; omega, by go_num, by rw [S2.out], by rw [S2.out], HB3.out⟩
        case measure => have := HLT.out; simp [intOf]; omega
      · have S2 : Hid (gN P gu (n + 1) = (max mo (ru + t), ru + t)) := by show _ = _; rw [SU.out, gst, if_neg he]
        have TM := fun w => t_max mo (ru + t) w
        clear SU
        obtain ⟨mx, hmx⟩ : ∃ mx, max mo (ru + t) = mx := ⟨_, rfl⟩
        rw [hmx] at TM S2
        clear hmx
        go_wp2_with (go_at_call 16; refine (TM _).mono ?_; rintro e wc ⟨rfl, rfl⟩)
        go_roundw
        case rel => exact ⟨n + 1, by have := HLT.out; omega, by go_num, by rw [S2.out]; first | done | go_num, by rw [S2.out], HB3.out⟩
        case measure => have := HLT.out; simp [intOf]; omega
    · have hJ : ¬ (n : Int) < 2 * (n3 : Int) := by omega
      obtain rfl : n = 2 * n3 := by omega
      have EV : (gN P gu (2 * n3)).1 = U2 := by rw [HL3.out]; exact E3.out
      have R3 : Hid (Vb wr (s + 1) #[.int .i64 0, .int .i64 0] 30) := R2.out.keep hB
      have BB : Hid (Below w.heap.size w wr) := on B2.out hB
      have r0 := R3.out.cell 0 rfl
      have r1 := R3.out.cell 1 rfl
      have f0 := R3.out.free 0
      have f1 := R3.out.free 1
      rw [EV]
      have hc2 : ((2 * n3 : Nat) : Int) = 2 * (n3 : Int) := by omega
      clear hlt hB EV
      go_wp2_with fail
      exact bodyPost_ret (v := .agg #[.int .i64 0, .int .i64 U2]) (by simp [results, Tryd.results5, go_sem, r0, r1]) rfl ⟨rfl, (BB.out.setCell (by have := HSs.out; show w.heap.size ≤ s + 1; omega) _).setCell (by have := HSs.out; show w.heap.size ≤ s + 1; omega) _⟩
end Go.Proofs.YtnhebeehpkecfaaDoor
