/- The gap between two turns of a guest, by the program. -/
import Derived.Test.YtnhebeehpkecfaaDoorVva
import Derived.Test.YtnhebeehpkecfaaDoorPol
import Derived.Test.YtnhebeehpkecfaaDoorHnm
import Derived.Deep.RegionWith
import Derived.Deep.Cut
import Derived.Deep.CutRange
namespace Go.Proofs.YtnhebeehpkecfaaDoor
open Go.RowKit
set_option linter.unusedVariables false

set_option maxRecDepth 20000 in
set_option maxHeartbeats 8000000 in
theorem i_gap (a0 a1 a2 a3 : Option Addr) (n0 c0 n1 c1 n2 c2 n3 c3 : Nat) (P : Plc) (gu : Int) (w : World) (h : Pl w a0 n0 c0 a1 n1 c1 a2 n2 c2 a3 n3 c3 P) (hg : w.cell? ⟨0, 0, none⟩ = some (.iface 112 (.agg #[.pointer (some ⟨1, 86, none⟩)]))) :
    Calls Tryd.prog 7 #[.agg #[.slice a0 n0 c0, .slice a1 n1 c1, .slice a2 n2 c2, .slice a3 n3 c3], .int .i64 gu] w fun e w' => e = .returned (.agg #[.int .i64 (gpR P gu).1, .int .i64 (gpR P gu).2]) ∧ Below w.heap.size w w' := by
  obtain ⟨U, hU⟩ : ∃ U, gpR P gu = U := ⟨_, rfl⟩
  rw [hU]
  have HU : Hid (gpR P gu = U) := hU
  clear hU
  obtain ⟨U1, U2⟩ := U
  generalize hW : (w.alloc (.cells #[.slice a0 n0 c0, .slice a1 n1 c1, .slice a2 n2 c2, .slice a3 n3 c3] 36)).alloc (.cells #[.int .i64 0, .int .i64 0] 30) = W
  have B0 : Hid (Below w.heap.size w W) := by show Below _ _ _; rw [← hW]; exact al (al (Below.refl _ _) _) _
  obtain ⟨s, hS⟩ : ∃ s, w.heap.size = s := ⟨_, rfl⟩
  have HSs : Hid (w.heap.size = s) := hS
  have Q : Hid (Vb W s #[.slice a0 n0 c0, .slice a1 n1 c1, .slice a2 n2 c2, .slice a3 n3 c3] 36) := by show Vb _ _ _ _; rw [← hW, ← hS]; exact (Vb.new _ _ _).push _
  have R : Hid (Vb W (s + 1) #[.int .i64 0, .int .i64 0] 30) := by
    have z1 : s + 1 = (w.alloc (.cells #[.slice a0 n0 c0, .slice a1 n1 c1, .slice a2 n2 c2, .slice a3 n3 c3] 36)).heap.size := by rw [← hS]; simp
    show Vb _ _ _ _; rw [← hW, z1]; exact Vb.new _ _ _
  have HP : Hid (Pl W a0 n0 c0 a1 n1 c1 a2 n2 c2 a3 n3 c3 P) := h.stay B0.out
  have HG : Hid (W.cell? ⟨0, 0, none⟩ = some (.iface 112 (.agg #[.pointer (some ⟨1, 86, none⟩)]))) := cell_keep B0.out hg
  clear h hg
  have q0 := Q.out.cell 0 rfl
  have q1 := Q.out.cell 1 rfl
  have q2 := Q.out.cell 2 rfl
  have q3 := Q.out.cell 3 rfl
  go_enter Tryd.func7, Tryd.ntmps7
  go_wp2_with fail
  clear hW hS
  refine (i_framesOf _ _ _ _ _ _ _ _ _ _ _ _ P _ _ HP.out HG.out).mono ?_
  rintro e w1 ⟨rfl, b1⟩
  obtain ⟨F1, hF1⟩ : ∃ F, (fR P gu).1 = F := ⟨_, rfl⟩
  obtain ⟨F2, hF2⟩ : ∃ F, (fR P gu).2 = F := ⟨_, rfl⟩
  rw [hF1, hF2]
  have HF : Hid ((fR P gu).1 = F1 ∧ (fR P gu).2 = F2) := ⟨hF1, hF2⟩
  clear hF1 hF2 q0 q1 q2 q3
  have V1 : Hid (Vb (w1.alloc (.cells #[.int .i64 F1, .int .i64 F2] 30)) w1.heap.size #[.int .i64 F1, .int .i64 F2] 30) := Vb.new _ _ _
  have R1 : Hid (Vb (w1.alloc (.cells #[.int .i64 F1, .int .i64 F2] 30)) (s + 1) #[.int .i64 0, .int .i64 0] 30) := (R.out.keep b1).push _
  have Q1 : Hid (Vb (w1.alloc (.cells #[.int .i64 F1, .int .i64 F2] 30)) s #[.slice a0 n0 c0, .slice a1 n1 c1, .slice a2 n2 c2, .slice a3 n3 c3] 36) := (Q.out.keep b1).push _
  have HPw : Hid (Pl (w1.alloc (.cells #[.int .i64 F1, .int .i64 F2] 30)) a0 n0 c0 a1 n1 c1 a2 n2 c2 a3 n3 c3 P) := HP.out.stay (al b1 _)
  have B1 : Hid (Below w.heap.size w (w1.alloc (.cells #[.int .i64 F1, .int .i64 F2] 30))) := on B0.out (al b1 _)
  clear b1
  go_upto_region 2 with fail
  generalize w1.alloc (.cells #[.int .i64 F1, .int .i64 F2] 30) = W1 at *
  generalize w1.heap.size = s1 at *
  have v0 := V1.out.cell 0 rfl
  have v1 := V1.out.cell 1 rfl
  have r0 := R1.out.cell 0 rfl
  have r1 := R1.out.cell 1 rfl
  have f0 := R1.out.free 0
  have f1 := R1.out.free 1
  by_cases hz : askV P gu = 0
  case neg =>
    have E : askV P gu = F1 := by rw [← HF.out.1, fR, if_neg hz]
    have EU := HU.out
    rw [gpR, if_neg hz, E] at EU
    obtain ⟨rfl, rfl⟩ : F1 = U1 ∧ (0 : Int) = U2 := by simpa using EU
    rw [E] at hz
    clear EU E
    go_wp2_with fail
    exact bodyPost_ret (v := .agg #[.int .i64 F1, .int .i64 0]) (by simp [results, Tryd.results7, go_sem, r0, r1]) rfl ⟨rfl, (B1.out.setCell (by have := HSs.out; show w.heap.size ≤ s + 1; omega) _).setCell (by have := HSs.out; show w.heap.size ≤ s + 1; omega) _⟩
  have PZ : Hid (pfV P = 0) := ask_pf P gu hz
  have e1 : (0 : Int) = F1 := by rw [← HF.out.1, fR, if_pos hz]
  have e2 : frV gu P.plan = F2 := by rw [← HF.out.2, fR, if_pos hz]
  subst e1
  have EU := HU.out
  rw [gpR, if_pos hz, e2] at EU
  have EUH : Hid ((if F2 = 0 then ((10 : Int), (0 : Int)) else (0, (gN P gu (2 * P.plan.length)).1)) = (U1, U2)) := EU
  clear EU e2 hz HF
  by_cases hf : F2 = 0
  · subst hf
    have EU := EUH.out
    rw [if_pos rfl] at EU
    obtain ⟨rfl, rfl⟩ : (10 : Int) = U1 ∧ (0 : Int) = U2 := by simpa using EU
    clear EU
    go_wp2_with fail
    exact bodyPost_ret (v := .agg #[.int .i64 10, .int .i64 0]) (by simp [results, Tryd.results7, go_sem, r0, r1]) rfl ⟨rfl, (B1.out.setCell (by have := HSs.out; show w.heap.size ≤ s + 1; omega) _).setCell (by have := HSs.out; show w.heap.size ≤ s + 1; omega) _⟩
  have EU := EUH.out
  rw [if_neg hf] at EU
  obtain ⟨rfl, e3⟩ : (0 : Int) = U1 ∧ (gN P gu (2 * P.plan.length)).1 = U2 := by simpa using EU
  have E3 : Hid ((gN P gu (2 * P.plan.length)).1 = U2) := e3
  clear EU e3 EUH HU
  have HL3 : Hid (n3 = P.plan.length) := HPw.out.plan.len
  have L8 : Hid (P.plan.length ≤ 8) := (pf_plan P PZ.out).1
  have BD : Hid (∀ n, n ≤ 2 * P.plan.length → (0 ≤ (gN P gu n).1 ∧ (gN P gu n).1 ≤ 50 * n) ∧ (0 ≤ (gN P gu n).2 ∧ (gN P gu n).2 ≤ 50 * n)) := gN_bound P PZ.out gu
  have ST8 : Hid (∀ j, j < P.plan.length → 1 ≤ (P.plan.getD j (0, 0)).2 ∧ (P.plan.getD j (0, 0)).2 ≤ 50) := (pf_plan P PZ.out).2
  have hmax3 : (n3 : Int) ≤ 8 := by have := L8.out; have := HL3.out; omega
  go_wp2_with fail
  clear v0 v1 r0 r1 f0 f1
  go_loopw [6, 7, 23] (fun g6 g7 c wr => ∃ r : Nat, r ≤ 2 ∧ c = .int .i64 r ∧ g6 = .int .i64 (gN P gu (r * n3)).2 ∧ g7 = .int .i64 (gN P gu (r * n3)).1 ∧ Below W1.heap.size W1 wr) (fun _ _ c _ => 2 - (intOf c).toNat)
  case atStart => exact ⟨0, by omega, rfl, by rw [Nat.zero_mul, gN_zero], by rw [Nat.zero_mul, gN_zero], Below.refl _ _⟩
  case round =>
    obtain ⟨r, hr, rfl, rfl, rfl, hB⟩ := hrel
    have HB : Hid (Below W1.heap.size W1 wr) := hB
    have q3 := (Q1.out.keep hB).cell 3 rfl
    by_cases hr2 : r < 2
    · have hR : (r : Int) < 2 := by omega
      have HR2 : Hid (r < 2) := hr2
      clear hB hr2
      go_wp2_with fail
      clear q3
      rename World => wo
      go_loopw [6, 7, 28] (fun g6 g7 c wr => ∃ j : Nat, j ≤ n3 ∧ c = .int .i64 j ∧ g6 = .int .i64 (gN P gu (r * n3 + j)).2 ∧ g7 = .int .i64 (gN P gu (r * n3 + j)).1 ∧ Below W1.heap.size W1 wr) (fun _ _ c _ => n3 - (intOf c).toNat)
      case atStart => exact ⟨0, Nat.zero_le _, rfl, rfl, rfl, HB.out⟩
      case round =>
        clear HB
        obtain ⟨j, hj, rfl, rfl, rfl, hB⟩ := hrel
        have HB : Hid (Below W1.heap.size W1 wr) := hB
        by_cases hlt : j < n3
        · obtain ⟨x, rfl, k0, k1⟩ := (HPw.out.plan.stay hB).at j hlt
          have hJ : (j : Int) < (n3 : Int) := by omega
          have HLT : Hid (j < n3) := hlt
          have MD : (r * n3 + j) % P.plan.length = j := by
            rw [← HL3.out]
            have h2 := HR2.out
            rw [Nat.mul_comm, Nat.mul_add_mod, Nat.mod_eq_of_lt hlt]
          have HLE : Hid (r * n3 + j < 2 * P.plan.length) := by
            show _ < _
            rw [← HL3.out]
            have h2 := HR2.out
            have : r * n3 ≤ 1 * n3 := Nat.mul_le_mul_right _ (by omega)
            omega
          have SU : Hid (_ = _) := gN_succ P gu (r * n3 + j) HLE.out
          rw [MD] at SU
          have bd := BD.out (r * n3 + j) (Nat.le_of_lt HLE.out)
          have st := ST8.out j (by have := HL3.out; omega)
          have l16 : r * n3 + j ≤ 16 := by have := HLE.out; have := L8.out; omega
          obtain ⟨⟨g, t⟩, hL⟩ : ∃ L, P.plan.getD j (0, 0) = L := ⟨_, rfl⟩
          rw [hL] at k0 k1 SU st
          simp only at k0 k1 SU st
          obtain ⟨⟨mo, ru⟩, hM⟩ : ∃ M, gN P gu (r * n3 + j) = M := ⟨_, rfl⟩
          rw [hM] at SU bd ⊢
          simp only at SU bd ⊢
          have b0 : 0 ≤ mo := bd.1.1
          have b1 : mo ≤ 800 := by have := bd.1.2; omega
          have b2 : 0 ≤ ru := bd.2.1
          have b3 : ru ≤ 800 := by have := bd.2.2; omega
          have s0 : 1 ≤ t := st.1
          have s1 : t ≤ 50 := st.2
          have XV : Hid (r * n3 + (j + 1) = r * n3 + j + 1) := by show _ = _; omega
          clear hL hM bd st l16 hlt hB MD
          by_cases he : g = gu
          · have S2 : Hid (gN P gu (r * n3 + (j + 1)) = (mo, 0)) := by show _ = _; rw [XV.out, SU.out, gst, if_pos he]
            clear SU
            by_cases hmm : mo < 0
            · omega
            have hm3 : ¬ mo < 0 := hmm
            go_wp2_with fail
            go_roundw
            case rel => exact ⟨j + 1, by have := HLT.out; omega, by go_num, by rw [S2.out], by rw [S2.out]; first | done | go_num | (congr 1; omega), al HB.out _⟩
            case measure => have := HLT.out; simp [intOf]; omega
          · have S2 : Hid (gN P gu (r * n3 + (j + 1)) = (max mo (ru + t), ru + t)) := by show _ = _; rw [XV.out, SU.out, gst, if_neg he]
            clear SU
            by_cases hmm : mo < ru + t
            · go_wp2_with fail
              go_roundw
              case rel => exact ⟨j + 1, by have := HLT.out; omega, by go_num, by rw [S2.out]; first | done | go_num, by rw [S2.out]; first | done | go_num | (congr 1; omega), al HB.out _⟩
              case measure => have := HLT.out; simp [intOf]; omega
            · have hm3 : ru + t ≤ mo := by omega
              go_wp2_with fail
              go_roundw
              case rel => exact ⟨j + 1, by have := HLT.out; omega, by go_num, by rw [S2.out]; first | done | go_num, by rw [S2.out]; first | done | go_num | (congr 1; omega), al HB.out _⟩
              case measure => have := HLT.out; simp [intOf]; omega
        · have hJ : ¬ (j : Int) < (n3 : Int) := by omega
          have EV : Hid (r * n3 + j = (r + 1) * n3) := by show _ = _; rw [Nat.succ_mul]; omega
          rw [EV.out]
          clear hlt hB
          go_wp2_with fail
          go_roundw
          case rel => exact ⟨r + 1, by have := HR2.out; omega, by go_num, rfl, rfl, HB.out⟩
          case measure => have := HR2.out; simp [intOf]; omega
    · have hR : ¬ (r : Int) < 2 := by omega
      obtain rfl : r = 2 := by omega
      have EV : (gN P gu (2 * n3)).1 = U2 := by rw [HL3.out]; exact E3.out
      have R3 : Hid (Vb wr (s + 1) #[.int .i64 0, .int .i64 0] 30) := R1.out.keep hB
      have BB : Hid (Below w.heap.size w wr) := on B1.out hB
      have r0 := R3.out.cell 0 rfl
      have r1 := R3.out.cell 1 rfl
      have f0 := R3.out.free 0
      have f1 := R3.out.free 1
      rw [EV]
      clear hr2 hB EV q3
      go_wp2_with fail
      exact bodyPost_ret (v := .agg #[.int .i64 0, .int .i64 U2]) (by simp [results, Tryd.results7, go_sem, r0, r1]) rfl ⟨rfl, (BB.out.setCell (by have := HSs.out; show w.heap.size ≤ s + 1; omega) _).setCell (by have := HSs.out; show w.heap.size ≤ s + 1; omega) _⟩
end Go.Proofs.YtnhebeehpkecfaaDoor
