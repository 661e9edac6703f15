/- The law FnGaps answers true at every input, and each argument reads behind the call as it read ahead of it; no condition. -/
import Derived.Test.YtgefcoojnahokaaDoorBase
import Derived.Test.YtgefcoojnahokaaDoorCards
import Derived.Test.YtgefcoojnahokaaDoorTie
import Derived.Deep.DeepHandedRow
import Derived.LaidHandle
import Derived.LaidLaws
import Derived.Lib.LaidTab
import Derived.Stop.LaidErr
import Derived.Test.YtgefcoojnahokaaDoorPoo
import Derived.Test.YtgefcoojnahokaaDoorPlt
import Derived.Test.YtgefcoojnahokaaDoorGpx
import Derived.Test.YtgefcoojnahokaaDoorPol
import Derived.Test.YtgefcoojnahokaaDoorPlt
import Derived.Test.YtgefcoojnahokaaDoorPoo
import Derived.Deep.RegionWith
import Derived.Deep.RegionHeld3
import Derived.Deep.Cut
import Derived.Deep.CutRange
namespace Go.Proofs.YtgefcoojnahokaaDoor.fnGapsDone
open Go.ChangeShapes Go.WideShapes Go.ChangeAt Go.RowKit
open Go.ChangeMaps (open_string shut_string)
set_option linter.unusedVariables false

theorem field_int0 (x0 x1 : Value) (w : World) : (Instr.field 33 (.agg #[x0, x1]) 0).run Tryd.prog w = .ok x0 w := by kernel_rfl
theorem field_int1 (x0 x1 : Value) (w : World) : (Instr.field 33 (.agg #[x0, x1]) 1).run Tryd.prog w = .ok x1 w := by kernel_rfl
theorem field_slr2 (x0 x1 x2 x3 : Value) (w : World) : (Instr.field 39 (.agg #[x0, x1, x2, x3]) 2).run Tryd.prog w = .ok (.agg #[x2, x3]) w := by kernel_rfl
theorem field_slot0 (x0 x1 : Value) (w : World) : (Instr.field 37 (.agg #[x0, x1]) 0).run Tryd.prog w = .ok x0 w := by kernel_rfl
theorem ck_val {P : Plc} {c : Int} (h : pfV P = 0) (h0 : 0 ≤ c) (h1 : c ≤ 1000000) : ckV P c = 0 := by
  rw [ckV, if_pos h, if_neg]
  unfold ckOk
  simp
  omega
theorem tR_val {P : Plc} {c : Int} (h : ckV P c = 0) : tR P c = (0, (tS P c).1, tG P c, (tS P c).2) := by rw [tR, if_pos h]
theorem gp_ok {P : Plc} {g : Int} (h : (gpR P g).1 = 0) : pfV P = 0 ∧ fR P g = (0, frV g P.plan) ∧ 0 < frV g P.plan ∧ (gpR P g).2 = (gN P g (2 * P.plan.length)).1 := by
  unfold gpR at h ⊢
  split at h
  · rename_i h0
    rw [if_pos h0]
    have pf : pfV P = 0 := by
      unfold askV at h0
      split at h0
      · rename_i h1; exact h1
      · rename_i h1; exact absurd h0 h1
    split at h
    · cases h
    · rename_i h1
      rw [if_neg h1]
      have := (fr_le P pf g).1
      exact ⟨pf, by rw [fR, if_pos h0], by omega, rfl⟩
  · rename_i h0
    exact absurd h h0
set_option maxRecDepth 20000 in
set_option maxHeartbeats 16000000 in
theorem walk (a0 : Option Addr) (len0 cap0 : Nat) (z0 : List Int) (w : World) (w0 : IsRow .u8 w a0 len0 cap0 z0) (hg : w.cell? ⟨0, 0, none⟩ = some (.iface 96 (.agg #[.pointer (some ⟨1, 57, none⟩)]))) :
    Calls Tryd.prog 3 #[.slice a0 len0 cap0] w fun e w' => e = .returned (.bool true) ∧ Below w.heap.size w w' := by
  have HR : Hid (IsRow .u8 w a0 len0 cap0 z0) := w0
  have HG : Hid (w.cell? ⟨0, 0, none⟩ = some (.iface 96 (.agg #[.pointer (some ⟨1, 57, none⟩)]))) := hg
  clear w0 hg
  by_cases hbig : 1048576 < (len0 : Int)
  · go_enter Tryd.func3, Tryd.ntmps3
    go_wp2
    go_ret
    exact ⟨rfl, Below.refl _ _⟩
  have hb2 : (len0 : Int) ≤ 1048576 := by omega
  clear hbig
  go_enter Tryd.func3, Tryd.ntmps3
  go_wp2_with (go_at_call 4; go_in)
  refine (drawGapOf HR.out).mono ?_
  rintro e w1 ⟨_, _, _, _, P, gu, rfl, dv, b1⟩
  clear HR
  obtain ⟨a0, c0, a1, c1, a2, c2, a3, c3, e0, e1, e2, e3⟩ := dv.shape
  subst e0 e1 e2 e3
  obtain ⟨n0, hn0⟩ : ∃ n, P.own.length = n := ⟨_, rfl⟩
  obtain ⟨n1, hn1⟩ : ∃ n, P.lanes.length = n := ⟨_, rfl⟩
  obtain ⟨n2, hn2⟩ : ∃ n, P.bells.length = n := ⟨_, rfl⟩
  obtain ⟨n3, hn3⟩ : ∃ n, P.plan.length = n := ⟨_, rfl⟩
  rw [hn0, hn1, hn2, hn3] at dv ⊢
  clear hn0 hn1 hn2 hn3
  go_upto_region 4 with fail
  obtain ⟨q, hq⟩ : ∃ q, w1.heap.size = q := ⟨_, rfl⟩
  have VQ : Hid (Bk (w1.alloc (.cells #[.slice a0 n0 c0, .slice a1 n1 c1, .slice a2 n2 c2, .slice a3 n3 c3] 29)) q #[.slice a0 n0 c0, .slice a1 n1 c1, .slice a2 n2 c2, .slice a3 n3 c3] 29) := by show Bk _ _ _ _; rw [← hq]; exact Bk.new _ _ _
  have B : Hid (Below w.heap.size w (w1.alloc (.cells #[.slice a0 n0 c0, .slice a1 n1 c1, .slice a2 n2 c2, .slice a3 n3 c3] 29))) := al b1 _
  have HP : Hid (Pl (w1.alloc (.cells #[.slice a0 n0 c0, .slice a1 n1 c1, .slice a2 n2 c2, .slice a3 n3 c3] 29)) a0 n0 c0 a1 n1 c1 a2 n2 c2 a3 n3 c3 P) := (dv.keep (al (Below.refl _ _) _)).pl
  try rw [hq]
  generalize w1.alloc (.cells #[.slice a0 n0 c0, .slice a1 n1 c1, .slice a2 n2 c2, .slice a3 n3 c3] 29) = W at *
  clear hq dv b1
  have q0 := VQ.out.cell (i := 0) rfl
  have q1 := VQ.out.cell (i := 1) rfl
  have q2 := VQ.out.cell (i := 2) rfl
  have q3 := VQ.out.cell (i := 3) rfl
  go_wp2_with fail
  clear q0 q1 q2 q3
  refine (i_gap _ _ _ _ _ _ _ _ _ _ _ _ P gu _ HP.out (cell_keep B.out HG.out)).mono ?_
  rintro e w2 ⟨rfl, b2⟩
  obtain ⟨v1, hv1⟩ : ∃ v, (gpR P gu).1 = v := ⟨_, rfl⟩
  obtain ⟨v2, hv2⟩ : ∃ v, (gpR P gu).2 = v := ⟨_, rfl⟩
  rw [hv1, hv2]
  have HV : Hid ((gpR P gu).1 = v1 ∧ (gpR P gu).2 = v2) := ⟨hv1, hv2⟩
  clear hv1 hv2
  have AL : Hid (Below W.heap.size W (w2.alloc (.cells #[.int .i64 v1, .int .i64 v2] 33))) := al b2 _
  obtain ⟨t, ht⟩ : ∃ t, w2.heap.size = t := ⟨_, rfl⟩
  have VT : Hid (Bk (w2.alloc (.cells #[.int .i64 v1, .int .i64 v2] 33)) t #[.int .i64 v1, .int .i64 v2] 33) := by show Bk _ _ _ _; rw [← ht]; exact Bk.new _ _ _
  clear b2
  go_upto_region 5 with fail
  try rw [ht]
  generalize w2.alloc (.cells #[.int .i64 v1, .int .i64 v2] 33) = W2 at *
  clear ht
  replace B : Hid (Below w.heap.size w W2) := on B.out AL.out
  replace HP : Hid (Pl W2 a0 n0 c0 a1 n1 c1 a2 n2 c2 a3 n3 c3 P) := HP.out.stay AL.out
  replace VQ : Hid (Bk W2 q #[.slice a0 n0 c0, .slice a1 n1 c1, .slice a2 n2 c2, .slice a3 n3 c3] 29) := VQ.out.keep AL.out
  clear AL
  have r0 := VT.out.cell (i := 0) rfl
  by_cases hz : v1 = 0
  case neg =>
    go_wp2_with fail
    clear r0
    have SD : Hid (Below W2.heap.size W2 W2.drew) := (Below.refl _ _).drew
    refine wp_region_held (S := fun w' => Below W2.heap.size W2 w') (by kernel_rfl) ?_
    change wpAnyH _ _ _ _ _ _ _ _ (World.drew _)
    generalize W2.drew = u0 at *
    refine wpAnyH_take (i := 0) (v := (.agg #[.slice a0 n0 c0, .slice a1 n1 c1, .slice a2 n2 c2, .slice a3 n3 c3])) rfl (by kernel_rfl) (by kernel_rfl) (by kernel_rfl) (fun _ _ _ h => h) (Or.inl ⟨by rfl, fun w' hs => by have hp := VQ.out.keep hs; have y0 := hp.cell (i := 0) rfl; have y1 := hp.cell (i := 1) rfl; have y2 := hp.cell (i := 2) rfl; have y3 := hp.cell (i := 3) rfl; go_simp⟩) SD.out ?_
    change wpAnyH _ _ _ _ _ _ _ (Act.put _ (some 23) _) _
    simp only [Act.put, List.setIfInBounds_toArray, List.set_cons_zero, List.set_cons_succ]
    refine wpAnyH_take (i := 1) (v := (.int .i64 gu)) rfl (by kernel_rfl) (by kernel_rfl) (by kernel_rfl) (fun _ _ _ h => h) (Or.inl ⟨by rfl, fun w' hs => by go_simp⟩) SD.out ?_
    change wpAnyH _ _ _ _ _ _ _ (Act.put _ (some 24) _) _
    simp only [Act.put, List.setIfInBounds_toArray, List.set_cons_zero, List.set_cons_succ]
    refine wpAnyH_take (i := 4) (v := (.pointer (some ⟨t, 0, none⟩))) rfl (by kernel_rfl) (by kernel_rfl) (by kernel_rfl) (fun _ _ _ h => h) (Or.inl ⟨by rfl, fun w' hs => by go_simp⟩) SD.out ?_
    change wpAnyH _ _ _ _ _ _ _ (Act.put _ (some 27) _) _
    simp only [Act.put, List.setIfInBounds_toArray, List.set_cons_zero, List.set_cons_succ]
    refine wpAnyH_take (i := 5) (v := (.int .i64 v1)) rfl (by kernel_rfl) (by kernel_rfl) (by kernel_rfl) (fun _ _ _ h => h) (Or.inl ⟨by rfl, fun w' hs => by have y := (VT.out.keep hs).cell (i := 0) rfl; go_simp⟩) SD.out ?_
    change wpAnyH _ _ _ _ _ _ _ (Act.put _ (some 28) _) _
    simp only [Act.put, List.setIfInBounds_toArray, List.set_cons_zero, List.set_cons_succ]
    refine wpAnyH_ready (rs := [2]) (by kernel_rfl) (by simp) ?_
    refine AllReadyH.cons rfl (fun K hK => ?_) AllReadyH.nil
    rw [if_pos (by rfl)]
    go_simp
    refine (s_gap _ _ _ _ _ _ _ _ _ _ _ _ P gu _ (HP.out.stay SD.out)).mono ?_
    rintro e u1 ⟨rfl, b3⟩
    rw [HV.out.1, HV.out.2]
    replace SD : Hid (Below W2.heap.size W2 u1) := on SD.out b3
    clear b3
    refine hK.out _ _ SD.out (fun _ => ?_)
    clear hK K
    refine wpAnyH_take (i := 3) (v := (.int .i64 v1)) rfl (by kernel_rfl) (by kernel_rfl) (by kernel_rfl) (fun _ _ _ h => h) (Or.inl ⟨by rfl, fun w' hs => by have hf := field_int0; go_simp⟩) SD.out ?_
    change wpAnyH _ _ _ _ _ _ _ (Act.put _ (some 26) _) _
    simp only [Act.put, List.setIfInBounds_toArray, List.set_cons_zero, List.set_cons_succ]
    refine wpAnyH_take (i := 6) (v := (.bool true)) rfl (by kernel_rfl) (by kernel_rfl) (by kernel_rfl) (fun _ _ _ h => h) (Or.inl ⟨by rfl, fun w' hs => by go_simp⟩) SD.out ?_
    change wpAnyH _ _ _ _ _ _ _ (Act.put _ (some 29) _) _
    simp only [Act.put, List.setIfInBounds_toArray, List.set_cons_zero, List.set_cons_succ]
    refine wpAnyH_take (i := 7) (v := (.bool true)) rfl (by kernel_rfl) (by kernel_rfl) (by kernel_rfl) (fun _ _ _ h => h) (Or.inl ⟨by rfl, fun w' hs => by go_simp⟩) SD.out ?_
    change wpAnyH _ _ _ _ _ _ _ (Act.put _ (some 2) _) _
    simp only [Act.put, List.setIfInBounds_toArray, List.set_cons_zero, List.set_cons_succ]
    refine wpAnyH_done (by kernel_rfl) ?_ _
    go_wp2_with fail
    go_ret
    exact ⟨rfl, on B.out SD.out⟩
  subst hz
  obtain ⟨pf, hfr, hfp, hgv⟩ := gp_ok HV.out.1
  have PF : Hid (pfV P = 0) := pf
  have FR : Hid (fR P gu = (0, frV gu P.plan) ∧ 0 < frV gu P.plan) := ⟨hfr, hfp⟩
  have hrd := rd_pos P pf
  obtain ⟨R, hR⟩ : ∃ R : Nat, (R : Int) = rdV P.plan := ⟨(rdV P.plan).toNat, by omega⟩
  have RP : Hid (rR P = (0, (R : Int))) := by show _ = _; rw [rR, if_pos pf, hR]
  have HR2 : Hid ((R : Int) = rdV P.plan ∧ 1 ≤ R ∧ R ≤ 400) := ⟨hR, by omega, by omega⟩
  have GV2 : Hid (v2 = (gC P gu (2 * R)).1) := by show _ = _; rw [gC_two P pf gu R hR, ← hgv]; exact HV.out.2.symm
  clear pf hfr hfp hgv hrd hR
  have q0 := VQ.out.cell (i := 0) rfl
  have q1 := VQ.out.cell (i := 1) rfl
  have q2 := VQ.out.cell (i := 2) rfl
  have q3 := VQ.out.cell (i := 3) rfl
  go_wp2_with fail
  clear r0 q0 q1 q2 q3
  refine (i_roundOf _ _ _ _ _ _ _ _ _ _ _ _ P _ HP.out (cell_keep B.out HG.out)).mono ?_
  rintro e w3 ⟨rfl, b3⟩
  rw [RP.out]
  replace B : Hid (Below w.heap.size w w3) := on B.out b3
  replace HP : Hid (Pl w3 a0 n0 c0 a1 n1 c1 a2 n2 c2 a3 n3 c3 P) := HP.out.stay b3
  replace VQ : Hid (Bk w3 q #[.slice a0 n0 c0, .slice a1 n1 c1, .slice a2 n2 c2, .slice a3 n3 c3] 29) := VQ.out.keep b3
  replace VT : Hid (Bk w3 t #[.int .i64 0, .int .i64 v2] 33) := VT.out.keep b3
  clear b3
  have hf := field_int1
  have wR : IntKind.i64.wrap (2 * (R : Int)) = 2 * (R : Int) := by rw [IntKind.wrap_i64]; have := HR2.out; omega
  go_wp2_with fail
  clear hf
  go_loopw [6, 7, 9] (fun r m c wr => ∃ j : Nat, j ≤ 2 * R ∧ c = .int .i64 (j : Int) ∧ r = .int .i64 (gC P gu j).2 ∧ m = .int .i64 (gC P gu j).1 ∧ Below w3.heap.size w3 wr) (fun _ _ c _ => 2 * R - (intOf c).toNat)
  case atStart => exact ⟨0, Nat.zero_le _, rfl, rfl, rfl, Below.refl _ _⟩
  case round =>
    obtain ⟨j, hj, rfl, rfl, rfl, hB⟩ := hrel
    have HB : Hid (Below w3.heap.size w3 wr) := hB
    have VQ1 : Hid (Bk wr q #[.slice a0 n0 c0, .slice a1 n1 c1, .slice a2 n2 c2, .slice a3 n3 c3] 29) := VQ.out.keep hB
    have VT1 : Hid (Bk wr t #[.int .i64 0, .int .i64 v2] 33) := VT.out.keep hB
    clear hB
    by_cases hlt : j < 2 * R
    · have hI : (j : Int) < 2 * (R : Int) := by omega
      have HLT : Hid (j < 2 * R) := hlt
      have GS : Hid (gC P gu (j + 1) = cst gu (gC P gu j) (tG P (j : Int))) := rfl
      have gb := gC_bound P gu j
      obtain ⟨m, hm⟩ : ∃ m, (gC P gu j).1 = m := ⟨_, rfl⟩
      obtain ⟨r, hr⟩ : ∃ r, (gC P gu j).2 = r := ⟨_, rfl⟩
      have GP : Hid (gC P gu j = (m, r)) := Prod.ext hm hr
      rw [hm, hr] at gb ⊢
      have GB : Hid (0 ≤ r ∧ r ≤ 800) := by have := HR2.out; exact ⟨gb.2.1, by omega⟩
      have wj : IntKind.i64.wrap ((j : Int) + 1) = (j : Int) + 1 := by rw [IntKind.wrap_i64]; have := HLT.out; have := HR2.out; omega
      have wr1 : IntKind.i64.wrap (r + 1) = r + 1 := by rw [IntKind.wrap_i64]; have := GB.out; omega
      clear hlt hj gb hm hr
      have q0 := VQ1.out.cell (i := 0) rfl
      have q1 := VQ1.out.cell (i := 1) rfl
      have q2 := VQ1.out.cell (i := 2) rfl
      have q3 := VQ1.out.cell (i := 3) rfl
      go_wp2_with fail
      clear q0 q1 q2 q3
      refine (i_TurnAt _ _ _ _ _ _ _ _ _ _ _ _ P (j : Int) _ (HP.out.stay HB.out) (cell_keep (on B.out HB.out) HG.out)).mono ?_
      rintro e w5 ⟨rfl, b5⟩
      rw [tR_val (ck_val PF.out (show (0 : Int) ≤ (j : Int) by omega) (by have := HLT.out; have := HR2.out; omega))]
      have B5 : Hid (Below w3.heap.size w3 w5) := on HB.out b5
      clear b5
      obtain ⟨x, hx⟩ : ∃ x, tG P (j : Int) = x := ⟨_, rfl⟩
      generalize (tS P (j : Int)).1 = y1
      generalize (tS P (j : Int)).2 = y2
      have GX : Hid (gC P gu (j + 1) = cst gu (m, r) x) := by show _ = _; rw [GS.out, GP.out, hx]
      rw [hx]
      clear hx GS GP
      have f2 := field_slr2
      have f0 := field_slot0
      by_cases he : x = gu
      · subst he
        have E1 : Hid (gC P x (j + 1) = (m, 0)) := by show _ = _; rw [GX.out, cst, if_pos rfl]
        go_wp2_with fail
        go_roundw
        case rel => exact ⟨j + 1, by have := HLT.out; omega, by go_num, by rw [E1.out], by rw [E1.out], B5.out⟩
        case measure => have := HLT.out; show 2 * R - ((j : Int) + 1).toNat < 2 * R - ((j : Int)).toNat; omega
      · have E1 : Hid (gC P gu (j + 1) = (max m (r + 1), r + 1)) := by show _ = _; rw [GX.out, cst, if_neg he]
        by_cases hw : m < r + 1
        · have E2 : Hid (gC P gu (j + 1) = (r + 1, r + 1)) := by show _ = _; rw [E1.out, Int.max_eq_right (by omega)]
          go_wp2_with fail
          go_roundw
          case rel => exact ⟨j + 1, by have := HLT.out; omega, by go_num, by rw [E2.out], by rw [E2.out], B5.out⟩
          case measure => have := HLT.out; show 2 * R - ((j : Int) + 1).toNat < 2 * R - ((j : Int)).toNat; omega
        · have E2 : Hid (gC P gu (j + 1) = (m, r + 1)) := by show _ = _; rw [E1.out, Int.max_eq_left (by omega)]
          go_wp2_with fail
          go_roundw
          case rel => exact ⟨j + 1, by have := HLT.out; omega, by go_num, by rw [E2.out], by rw [E2.out], B5.out⟩
          case measure => have := HLT.out; show 2 * R - ((j : Int) + 1).toNat < 2 * R - ((j : Int)).toNat; omega
    · have hI : ¬ (j : Int) < 2 * (R : Int) := by omega
      obtain rfl : j = 2 * R := by omega
      clear hlt hj
      rw [← GV2.out]
      have r1 := VT1.out.cell (i := 1) rfl
      have fp : (0 : Int) < frV gu P.plan := FR.out.2
      have hf := field_int1
      have q0 := VQ1.out.cell (i := 0) rfl
      have q1 := VQ1.out.cell (i := 1) rfl
      have q2 := VQ1.out.cell (i := 2) rfl
      have q3 := VQ1.out.cell (i := 3) rfl
      go_wp2_with fail
      clear q0 q1 q2 q3
      refine (i_framesOf _ _ _ _ _ _ _ _ _ _ _ _ P gu _ (HP.out.stay HB.out) (cell_keep (on B.out HB.out) HG.out)).mono ?_
      rintro e w6 ⟨rfl, b6⟩
      rw [FR.out.1]
      go_wp2_with fail
      go_ret
      exact ⟨rfl, on (on B.out HB.out) b6⟩

theorem gEt : Tryd.prog.globalNamed "errors.errorType" = some 0 := by kernel_rfl
theorem gRt : (Tryd.prog.cutTypes.find? (·.1 == "internal/reflectlite.rtype")).map (·.2) = some 96 := by kernel_rfl
theorem gRow : ((List.range 143).filter fun t => Tryd.prog.rowNamed t [101, 114, 114, 111, 114]) = [57] := by kernel_rfl
theorem gSize : Tryd.prog.types.size = 143 := by kernel_rfl
theorem handle {W : World} (h : laidMetH Tryd.prog Rows.fnGapsRow.laid W) : W.cell? ⟨0, 0, none⟩ = some (.iface 96 (.agg #[.pointer (some ⟨1, 57, none⟩)])) := by
  have h' : laidMet Tryd.prog [] W ∧ handlesMet Tryd.prog Rows.fnGapsRow.laid W := h
  obtain ⟨name, u, ty, e1, e2, e3, e4, e5⟩ := h'.2 _ (List.mem_singleton.2 rfl)
  have en : name = [101, 114, 114, 111, 114] := (Option.some.inj e1).symm
  subst en
  obtain rfl := Option.some.inj (gRt.symm.trans e2)
  have hm : ty ∈ (List.range 143).filter fun t => Tryd.prog.rowNamed t [101, 114, 114, 111, 114] := List.mem_filter.2 ⟨List.mem_range.2 (by rw [← gSize]; exact e3), e4⟩
  rw [gRow] at hm
  obtain rfl := List.mem_singleton.1 hm
  have hh : typeHandle Tryd.prog 57 = .pointer (some ⟨1, 57, none⟩) := by kernel_rfl
  rw [hh] at e5
  simpa using World.var?_cell gEt e5 0

set_option maxRecDepth 100000 in
theorem contract (H : Type) (enc : TypeId × Value → H) (W : World) (base : Nat) (args : Array Value) (ds gs : List (DataW H)) (before : List MemPlace)
    (hval0 : ∀ (j : Nat) t v, Tryd.f3.params[j]? = some t → args[j]? = some v → Value.okWide Tryd.prog W .any base t v)
    (hW : DataW.Whole enc Tryd.prog Tryd.f3.params.toList Rows.fnGapsSpec.vars false W args.toList ds gs before) (hL : laidMetH Tryd.prog Rows.fnGapsRow.laid W) :
    Calls Tryd.prog 3 args W fun e W' => ∃ v, e = .returned v ∧ Rows.fnGapsSpec.post enc Tryd.prog Tryd.f3 false true false false W args v W' := by
  have hval : ∀ (j : Nat) t v, Tryd.f3.params[j]? = some t → args[j]? = some v → Value.okWide Tryd.prog W .any base t v := hval0
  have hW' := hW
  obtain ⟨p, q, hA0, hV, rfl, hfz, hnd⟩ := hW
  have hA : DataW.TrodAll enc Tryd.prog W 0 (fun _ => true) true Tryd.f3.params.toList args.toList ds p := hA0
  rw [Tryd.params3] at hA hval
  obtain ⟨v0, vs0, d0, ds0, p0, q0, hargs, rfl, rfl, h0, r0⟩ := trodAll_cons hA
  obtain ⟨rfl, rfl, rfl⟩ := trodAll_nil r0
  obtain rfl : args = #[v0] := by cases args; simp_all
  obtain ⟨rfl, rfl⟩ := trodVars_none hV
  obtain ⟨a0, len0, cap0, rfl⟩ := okWide_slice Tryd.underlying22 (hval 0 22 v0 rfl rfl)
  have k0 := h0
  have lt0 : ∀ x ∈ p0, x.block < W.heap.size := by obtain ⟨m, hm⟩ := k0; exact DataW.trod_lt m _ _ _ hm
  obtain ⟨z0, w0⟩ : ∃ zs, IsRow .u8 W a0 len0 cap0 zs := by
    obtain ⟨fuel, hf⟩ := h0
    rcases open_ints Tryd.underlying22 Tryd.underlying5 (by kernel_rfl) hf with ⟨hcs, _⟩ | ⟨x, l, c, zs, hcs, _, hl, hm, hz, _, hcell, hwz⟩
    · simp [Value.cells] at hcs
      obtain ⟨rfl, rfl, rfl⟩ := hcs
      exact ⟨[], .inl ⟨rfl, rfl, rfl, rfl⟩⟩
    · simp [Value.cells] at hcs
      obtain ⟨rfl, rfl, rfl⟩ := hcs
      exact ⟨_, IsRow.of_all hl hm (by simpa using hz) hcell hwz⟩
  clear hA0 hval0
  refine (walk a0 len0 cap0 z0 W w0 (handle hL)).mono fun e W' ⟨he, bel⟩ => ?_
  subst he
  exact ⟨_, rfl, _, _, _, [], _, [], hW', trodAll_mk1 (shut_bool Tryd.underlying4 _), (trodAll_cons_mk (Below.trod laidOut (by kernel_rfl) (of_decide_eq_true (by kernel_rfl)) k0 bel lt0) trodAll_mk0), rfl, bel.frame _, fun h => by cases h⟩

theorem laid_met (os : Go.Os) : laidMetH Tryd.prog Rows.fnGapsRow.laid (({ World.holding Tryd.prog os ⟨#[], #[], []⟩ with heap := ((World.holding Tryd.prog os ⟨#[], #[], []⟩).heap.modify 0 fun
      | .cells _ t frozen => .cells #[.iface 96 (.agg #[.pointer (some ⟨1, 57, none⟩)])] t frozen
      | o => o) } : World).forCall (fun _ _ => 0) ⟨#[], #[.slice none 0 0], []⟩).memory :=
  laidMetH_of_parts (laidMet_nil _ _) (by kernel_rfl)
theorem reads (os : Go.Os) {H : Type} (enc : TypeId × Value → H) : ∃ places, DataW.whole enc Tryd.prog (({ World.holding Tryd.prog os ⟨#[], #[], []⟩ with heap := ((World.holding Tryd.prog os ⟨#[], #[], []⟩).heap.modify 0 fun
      | .cells _ t frozen => .cells #[.iface 96 (.agg #[.pointer (some ⟨1, 57, none⟩)])] t frozen
      | o => o) } : World).forCall (fun _ _ => 0) ⟨#[], #[.slice none 0 0], []⟩).memory Tryd.f3.params.toList Rows.fnGapsSpec.vars false (#[.slice none 0 0] : Array Value).toList 8 = some ([.nil], [], places) :=
  ⟨[], by kernel_rfl⟩
set_option maxRecDepth 100000 in
theorem lifted (os : Go.Os) (started : os.Started) (H : Type) (enc : TypeId × Value → H) (F : Stop.Interp) :
    ReturnsInHanded {} Tryd.checked os 3 .any ((OpenSpec.ofChange Rows.fnGapsSpec).preRow enc Tryd.prog Tryd.f3 Rows.fnGapsRow.domain false Rows.fnGapsRow.laid) (((OpenSpec.ofChange Rows.fnGapsSpec).at F).post enc Tryd.prog Tryd.f3 false true false false) := by
  obtain ⟨places, hx⟩ := reads os enc
  refine returnsInHanded_of_row (C := Tryd.checked) (s := OpenSpec.ofChange Rows.fnGapsSpec) own started (by kernel_rfl) Tryd.func3
    (witness_row_at (enc := enc) (C := Tryd.checked) false ({ World.holding Tryd.prog os ⟨#[], #[], []⟩ with heap := ((World.holding Tryd.prog os ⟨#[], #[], []⟩).heap.modify 0 fun
      | .cells _ t frozen => .cells #[.iface 96 (.agg #[.pointer (some ⟨1, 57, none⟩)])] t frozen
      | o => o) } : World) #[.slice none 0 0] rfl (by kernel_rfl) (by kernel_rfl) (by kernel_rfl)
      (OpenSpec.preRow_of_cond 8 hx (by kernel_rfl) (fun k hk => by cases hk) (by kernel_rfl) (laid_met os))) ?_
  intro W base args ds gs before hval hW _ _ _ hL _ _
  exact contract H enc W base args ds gs before hval hW hL

theorem said : Rows.FnGapsSaid :=
  OpenClaim.holds_of_cond 3 Tryd.f3 rfl rfl rfl rfl rfl rfl rfl ⟨rfl, rfl, rfl, rfl, rfl⟩ rfl rfl rfl rfl rfl (by kernel_rfl) Tryd.func3 (by kernel_rfl)
    (of_decide_eq_true (by kernel_rfl)) (by unfold Func.isWrapper; first | (rw [if_pos (by decide +kernel)]; kernel_rfl) | (rw [if_neg (by decide +kernel)]; exact ⟨rfl, rfl⟩))
    (fun os started H enc _ F => by rw [OpenClaim.pre_eq_preRow]; exact lifted os started H enc F)
theorem plain (f : FuncId) (fn : Func) (hf : Tryd.pinned.checked.prog.funcNamed "loop.example/g00213/laws.FnGaps" = some f) (hfn : Tryd.pinned.checked.prog.funcs[f]? = some fn) :
    true = Tryd.pinned.checked.prog.looks [] ∧ ∀ (j : Nat) t, fn.params[j]? = some t → Tryd.pinned.checked.prog.wantsStandIn t = false := by
  obtain rfl : f = 3 := Option.some.inj ((show Tryd.prog.funcNamed "loop.example/g00213/laws.FnGaps" = some 3 by kernel_rfl).symm.trans hf) |>.symm
  obtain rfl : fn = Tryd.f3 := (Option.some.inj (Tryd.func3.symm.trans hfn)).symm
  refine ⟨by kernel_rfl, fun j t ht => ?_⟩
  rw [Tryd.params3] at ht
  have hm : t = 22 := by simpa using Array.mem_of_getElem? ht
  rcases hm with rfl
  · exact (show Tryd.prog.wantsStandIn 22 = false by kernel_rfl)
theorem proved : Rows.FnGapsCardSaid :=
  Claim7.holds_tied_plain_at .later [] _ _ _ _ said (fun _ h => by cases h) (by kernel_rfl) (fun _ h => by cases h) fnGaps_row_tie rfl ⟨rfl, rfl⟩ (by kernel_rfl) rfl plain (by kernel_rfl)
end Go.Proofs.YtgefcoojnahokaaDoor.fnGapsDone
