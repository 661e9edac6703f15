/- The walk of a law. -/
import Derived.Test.YtddeaibkdpomlaaGreatDoorBase
import Derived.Test.YtddeaibkdpomlaaGreatDoorCards
import Derived.Test.YtddeaibkdpomlaaGreatDoorTie
import Derived.Deep.DeepHandedRow
import Derived.LaidHandle
import Derived.LaidLaws
import Derived.Lib.LaidTab
import Derived.Stop.LaidErr
import Derived.Test.YtddeaibkdpomlaaGreatDoorPoo
import Derived.Test.YtddeaibkdpomlaaGreatDoorPlt
import Derived.Test.YtddeaibkdpomlaaGreatDoorRdr
import Derived.Test.YtddeaibkdpomlaaGreatDoorRjx
import Derived.Test.YtddeaibkdpomlaaGreatDoorPok
import Derived.Test.YtddeaibkdpomlaaGreatDoorPol
import Derived.Test.YtddeaibkdpomlaaGreatDoorPlt
import Derived.Test.YtddeaibkdpomlaaGreatDoorPoo
import Derived.Deep.RegionWith
import Derived.Deep.Cut
import Derived.Deep.CutRange
namespace Go.Proofs.YtddeaibkdpomlaaGreatDoor.fnReachesDone
open Go.ChangeShapes Go.WideShapes Go.ChangeAt Go.RowKit
open Go.ChangeMaps (open_string shut_string)
set_option linter.unusedVariables false

theorem field_ints0 (x0 x1 : Value) (w : World) : (Instr.field 34 (.agg #[x0, x1]) 0).run Tryz.prog w = .ok x0 w := by kernel_rfl
theorem field_ints1 (x0 x1 : Value) (w : World) : (Instr.field 34 (.agg #[x0, x1]) 1).run Tryz.prog w = .ok x1 w := by kernel_rfl
theorem field_intr1 (x0 x1 : Value) (w : World) : (Instr.field 38 (.agg #[x0, x1]) 1).run Tryz.prog w = .ok x1 w := by kernel_rfl
theorem nsGet {w : World} {a : Option Addr} {n c : Nat} {zs : List Int} (h : IsNs w a n c zs) (j : Nat) (hj : j < n) : ∃ y, a = some y ∧ ∀ w', Below w.heap.size w w' → w'.cell? (y.add j) = some (.int .i64 (zs.getD j 0)) := by
  rcases h with ⟨_, h1, _, _⟩ | ⟨y, rfl, _, _, _, h4⟩
  · omega
  · exact ⟨y, rfl, fun w' b => cell_keep b (h4 j hj)⟩
theorem s2Get {w : World} {a : Option Addr} {n c : Nat} {oss : List (List Int)} (h : IsS2 w a n c oss) (j : Nat) (hj : j < n) : ∃ y b l k, a = some y ∧ (∀ w', Below w.heap.size w w' → w'.cell? (y.add j) = some (.slice b l k)) ∧ IsNs w b l k (oss.getD j []) := by
  rcases h with ⟨_, h1, _, _⟩ | ⟨y, rfl, _, _, _, h4⟩
  · omega
  · obtain ⟨b, l, k, h5, h6⟩ := h4 j hj
    exact ⟨y, b, l, k, rfl, fun w' hb => cell_keep hb h5, h6⟩
set_option maxRecDepth 20000 in
set_option maxHeartbeats 16000000 in
theorem walk (a0 : Option Addr) (len0 cap0 : Nat) (z0 : List Int) (w : World) (w0 : IsRow .u8 w a0 len0 cap0 z0) (hg : w.cell? ⟨0, 0, none⟩ = some (.iface 129 (.agg #[.pointer (some ⟨1, 65, none⟩)]))) :
    Calls Tryz.prog 3 #[.slice a0 len0 cap0] w fun e w' => e = .returned (.bool true) ∧ Below w.heap.size w w' := by
  have HR : Hid (IsRow .u8 w a0 len0 cap0 z0) := w0
  have HG : Hid (w.cell? ⟨0, 0, none⟩ = some (.iface 129 (.agg #[.pointer (some ⟨1, 65, none⟩)]))) := hg
  clear w0 hg
  by_cases hbig : 1048576 < (len0 : Int)
  · go_enter Tryz.func3, Tryz.ntmps3
    go_wp2
    go_ret
    exact ⟨rfl, Below.refl _ _⟩
  have hb2 : (len0 : Int) ≤ 1048576 := by omega
  clear hbig
  go_enter Tryz.func3, Tryz.ntmps3
  go_wp2_with (go_at_call 4; go_in)
  refine (drawReachTo HR.out).mono ?_
  rintro e w1 ⟨_, _, _, _, P, gu, rfl, dv, b1⟩
  clear HR
  obtain ⟨a0, c0, a1, c1, a2, c2, a3, c3, e0, e1, e2, e3⟩ := dv.shape
  subst e0 e1 e2 e3
  obtain ⟨n0, hn0⟩ : ∃ n, P.own.length = n := ⟨_, rfl⟩
  obtain ⟨n1, hn1⟩ : ∃ n, P.lanes.length = n := ⟨_, rfl⟩
  obtain ⟨n2, hn2⟩ : ∃ n, P.bells.length = n := ⟨_, rfl⟩
  obtain ⟨n3, hn3⟩ : ∃ n, P.plan.length = n := ⟨_, rfl⟩
  rw [hn0, hn1, hn2, hn3] at dv ⊢
  have HN : Hid (P.own.length = n0 ∧ P.plan.length = n3) := ⟨hn0, hn3⟩
  clear hn0 hn1 hn2 hn3
  go_upto_region 4 with fail
  obtain ⟨q, hq⟩ : ∃ q, w1.heap.size = q := ⟨_, rfl⟩
  have VQ : Hid (Bk (w1.alloc (.cells #[.slice a0 n0 c0, .slice a1 n1 c1, .slice a2 n2 c2, .slice a3 n3 c3] 29)) q #[.slice a0 n0 c0, .slice a1 n1 c1, .slice a2 n2 c2, .slice a3 n3 c3] 29) := by show Bk _ _ _ _; rw [← hq]; exact Bk.new _ _ _
  have B : Hid (Below w.heap.size w (w1.alloc (.cells #[.slice a0 n0 c0, .slice a1 n1 c1, .slice a2 n2 c2, .slice a3 n3 c3] 29))) := al b1 _
  have HP : Hid (Pl (w1.alloc (.cells #[.slice a0 n0 c0, .slice a1 n1 c1, .slice a2 n2 c2, .slice a3 n3 c3] 29)) a0 n0 c0 a1 n1 c1 a2 n2 c2 a3 n3 c3 P) := (dv.keep (al (Below.refl _ _) _)).pl
  try rw [hq]
  generalize w1.alloc (.cells #[.slice a0 n0 c0, .slice a1 n1 c1, .slice a2 n2 c2, .slice a3 n3 c3] 29) = W at *
  clear hq dv b1
  have q0 := VQ.out.cell (i := 0) rfl
  have q1 := VQ.out.cell (i := 1) rfl
  have q2 := VQ.out.cell (i := 2) rfl
  have q3 := VQ.out.cell (i := 3) rfl
  go_wp2_with fail
  clear q0 q1 q2 q3
  refine (i_reach _ _ _ _ _ _ _ _ _ _ _ _ P gu _ HP.out (cell_keep B.out HG.out)).mono ?_
  rintro e w2 ⟨v, rfl, hnr, b2⟩
  obtain ⟨v1, hv1⟩ : ∃ v, askV P gu = v := ⟨_, rfl⟩
  have HV : Hid (askV P gu = v1) := hv1
  obtain ⟨ra, rc, hv, _, _, _⟩ := hnr.shape
  have RL : Hid ((reachZ P gu).length ≤ 3) := reach_len P gu
  have RN : Hid ((reachZ P gu).length = (reachZ P gu).length) := rfl
  have NR : Hid (Nums w2 W.heap.size v (reachZ P gu)) := hnr
  obtain ⟨rn, hrn⟩ : ∃ n, (reachZ P gu).length = n := ⟨_, rfl⟩
  have RE : Hid ((reachZ P gu).length = rn) := hrn
  rw [hrn] at hv
  subst hv
  have NSR : Hid (IsNs w2 ra rn rc (reachZ P gu)) := NR.out.read
  rw [hv1]
  clear hv1 hrn hnr RN
  have AL : Hid (Below W.heap.size W (w2.alloc (.cells #[.int .i64 v1, .slice ra rn rc] 34))) := al b2 _
  have AL2 : Hid (Below w2.heap.size w2 (w2.alloc (.cells #[.int .i64 v1, .slice ra rn rc] 34))) := al (Below.refl _ _) _
  obtain ⟨t, ht⟩ : ∃ t, w2.heap.size = t := ⟨_, rfl⟩
  have VT : Hid (Bk (w2.alloc (.cells #[.int .i64 v1, .slice ra rn rc] 34)) t #[.int .i64 v1, .slice ra rn rc] 34) := by show Bk _ _ _ _; rw [← ht]; exact Bk.new _ _ _
  clear b2
  go_upto_region 5 with fail
  try rw [ht]
  replace NSR : Hid (IsNs (w2.alloc (.cells #[.int .i64 v1, .slice ra rn rc] 34)) ra rn rc (reachZ P gu)) := NSR.out.stay AL2.out
  clear AL2
  generalize w2.alloc (.cells #[.int .i64 v1, .slice ra rn rc] 34) = W2 at *
  clear ht NR
  replace B : Hid (Below w.heap.size w W2) := on B.out AL.out
  replace HP : Hid (Pl W2 a0 n0 c0 a1 n1 c1 a2 n2 c2 a3 n3 c3 P) := HP.out.stay AL.out
  replace VQ : Hid (Bk W2 q #[.slice a0 n0 c0, .slice a1 n1 c1, .slice a2 n2 c2, .slice a3 n3 c3] 29) := VQ.out.keep AL.out
  clear AL
  have r0 := VT.out.cell (i := 0) rfl
  by_cases hz : v1 = 0
  case neg =>
    go_wp2_with fail
    clear r0
    have SD : Hid (Below W2.heap.size W2 W2.drew) := (Below.refl _ _).drew
    refine wp_region_held (S := fun w' => Below W2.heap.size W2 w') (by kernel_rfl) ?_
    change wpAnyH _ _ _ _ _ _ _ _ (World.drew _)
    generalize W2.drew = u0 at *
    refine wpAnyH_take (i := 0) (v := (.agg #[.slice a0 n0 c0, .slice a1 n1 c1, .slice a2 n2 c2, .slice a3 n3 c3])) rfl (by kernel_rfl) (by kernel_rfl) (by kernel_rfl) (fun _ _ _ h => h) (Or.inl ⟨by rfl, fun w' hs => by have hp := VQ.out.keep hs; have y0 := hp.cell (i := 0) rfl; have y1 := hp.cell (i := 1) rfl; have y2 := hp.cell (i := 2) rfl; have y3 := hp.cell (i := 3) rfl; go_simp⟩) SD.out ?_
    change wpAnyH _ _ _ _ _ _ _ (Act.put _ (some 27) _) _
    simp only [Act.put, List.setIfInBounds_toArray, List.set_cons_zero, List.set_cons_succ]
    refine wpAnyH_take (i := 1) (v := (.int .i64 gu)) rfl (by kernel_rfl) (by kernel_rfl) (by kernel_rfl) (fun _ _ _ h => h) (Or.inl ⟨by rfl, fun w' hs => by go_simp⟩) SD.out ?_
    change wpAnyH _ _ _ _ _ _ _ (Act.put _ (some 28) _) _
    simp only [Act.put, List.setIfInBounds_toArray, List.set_cons_zero, List.set_cons_succ]
    refine wpAnyH_take (i := 4) (v := (.pointer (some ⟨t, 0, none⟩))) rfl (by kernel_rfl) (by kernel_rfl) (by kernel_rfl) (fun _ _ _ h => h) (Or.inl ⟨by rfl, fun w' hs => by go_simp⟩) SD.out ?_
    change wpAnyH _ _ _ _ _ _ _ (Act.put _ (some 31) _) _
    simp only [Act.put, List.setIfInBounds_toArray, List.set_cons_zero, List.set_cons_succ]
    refine wpAnyH_take (i := 5) (v := (.int .i64 v1)) rfl (by kernel_rfl) (by kernel_rfl) (by kernel_rfl) (fun _ _ _ h => h) (Or.inl ⟨by rfl, fun w' hs => by have y := (VT.out.keep hs).cell (i := 0) rfl; go_simp⟩) SD.out ?_
    change wpAnyH _ _ _ _ _ _ _ (Act.put _ (some 32) _) _
    simp only [Act.put, List.setIfInBounds_toArray, List.set_cons_zero, List.set_cons_succ]
    refine wpAnyH_ready (rs := [2]) (by kernel_rfl) (by simp) ?_
    refine AllReadyH.cons rfl (fun K hK => ?_) AllReadyH.nil
    rw [if_pos (by rfl)]
    go_simp
    refine (s_reach _ _ _ _ _ _ _ _ _ _ _ _ P gu _ (HP.out.stay SD.out)).mono ?_
    rintro e u1 ⟨vs, rfl, -, b3⟩
    rw [HV.out]
    replace SD : Hid (Below W2.heap.size W2 u1) := on SD.out b3
    clear b3
    refine hK.out _ _ SD.out (fun _ => ?_)
    clear hK K
    refine wpAnyH_take (i := 3) (v := (.int .i64 v1)) rfl (by kernel_rfl) (by kernel_rfl) (by kernel_rfl) (fun _ _ _ h => h) (Or.inl ⟨by rfl, fun w' hs => by have hf := field_ints0; go_simp⟩) SD.out ?_
    change wpAnyH _ _ _ _ _ _ _ (Act.put _ (some 30) _) _
    simp only [Act.put, List.setIfInBounds_toArray, List.set_cons_zero, List.set_cons_succ]
    refine wpAnyH_take (i := 6) (v := (.bool true)) rfl (by kernel_rfl) (by kernel_rfl) (by kernel_rfl) (fun _ _ _ h => h) (Or.inl ⟨by rfl, fun w' hs => by go_simp⟩) SD.out ?_
    change wpAnyH _ _ _ _ _ _ _ (Act.put _ (some 33) _) _
    simp only [Act.put, List.setIfInBounds_toArray, List.set_cons_zero, List.set_cons_succ]
    refine wpAnyH_take (i := 7) (v := (.bool true)) rfl (by kernel_rfl) (by kernel_rfl) (by kernel_rfl) (fun _ _ _ h => h) (Or.inl ⟨by rfl, fun w' hs => by go_simp⟩) SD.out ?_
    change wpAnyH _ _ _ _ _ _ _ (Act.put _ (some 2) _) _
    simp only [Act.put, List.setIfInBounds_toArray, List.set_cons_zero, List.set_cons_succ]
    refine wpAnyH_done (by kernel_rfl) ?_ _
    go_wp2_with fail
    go_ret
    exact ⟨rfl, on B.out SD.out⟩
  subst hz
  have PF : Hid (pfV P = 0) := ask_pf P gu HV.out
  have ER : Hid (reachZ P gu = rch P gu) := by show _ = _; unfold reachZ; rw [if_pos HV.out]
  rw [ER.out] at NSR RE RL
  clear ER
  have q0 := VQ.out.cell (i := 0) rfl
  have q1 := VQ.out.cell (i := 1) rfl
  have q2 := VQ.out.cell (i := 2) rfl
  have q3 := VQ.out.cell (i := 3) rfl
  go_wp2_with fail
  clear r0 q0 q1 q2 q3
  refine (i_linksTo _ _ _ _ _ _ _ _ _ _ _ _ P gu _ HP.out (cell_keep B.out HG.out)).mono ?_
  rintro e w3 ⟨v, rfl, hnl, b3⟩
  have EL : linksZ P gu = lkV P gu := by unfold linksZ; rw [if_pos HV.out]
  rw [EL] at hnl
  clear EL
  obtain ⟨ka, kc, hv, _, _, _⟩ := hnl.shape
  have NL : Hid (Nums w3 W2.heap.size v (lkV P gu)) := hnl
  obtain ⟨kn, hkn⟩ : ∃ n, (lkV P gu).length = n := ⟨_, rfl⟩
  have KE : Hid ((lkV P gu).length = kn) := hkn
  rw [hkn] at hv
  subst hv
  have NSK : Hid (IsNs w3 ka kn kc (lkV P gu)) := NL.out.read
  have B3 : Hid (Below W2.heap.size W2 w3) := b3
  clear hkn hnl b3 NL
  have hf := field_ints1
  go_wp2_with fail
  clear hf
  have hkn : (kn : Int) ≤ 9223372036854775807 := by have h1 := NSK.out.cap.1; have h2 := NSK.out.cap.2; unfold maxLen at h2; omega
  go_loopw [7] (fun c wr => ∃ j : Nat, j ≤ kn ∧ c = .int .i64 (j : Int) ∧ Below w3.heap.size w3 wr) (fun c _ => kn - (intOf c).toNat)
  case atStart => exact ⟨0, Nat.zero_le _, rfl, Below.refl _ _⟩
  case round =>
    obtain ⟨j, hj, rfl, hB⟩ := hrel
    have HB : Hid (Below w3.heap.size w3 wr) := hB
    clear hB
    by_cases hlt : j < kn
    · have hJ : (j : Int) < (kn : Int) := by omega
      have HLT : Hid (j < kn) := hlt
      obtain ⟨y, hy, cy⟩ := nsGet NSK.out j hlt
      subst hy
      have CY : Hid (∀ w', Below w3.heap.size w3 w' → w'.cell? (y.add j) = some (.int .i64 ((lkV P gu).getD j 0))) := cy
      have MEM : Hid ((lkV P gu).getD j 0 ∈ rch P gu) := rch_first P gu _ (getD_mem (lkV P gu) 0 j (by have := KE.out; omega))
      generalize (lkV P gu).getD j 0 = z at *
      clear cy hlt hj
      go_upto_region 11 with fail
      have SD : Hid (Below w3.heap.size w3 wr.drew) := HB.out.drew
      refine wp_region_held (S := fun w' => Below w3.heap.size w3 w') (by kernel_rfl) ?_
      change wpAnyH _ _ _ _ _ _ _ _ (World.drew _)
      generalize wr.drew = v0 at *
      refine wpAnyH_take (i := 0) (v := (.pointer (some ⟨t, 1, none⟩))) rfl (by kernel_rfl) (by kernel_rfl) (by kernel_rfl) (fun _ _ _ h => h) (Or.inl ⟨by rfl, fun w' hs => by go_simp⟩) SD.out ?_
      change wpAnyH _ _ _ _ _ _ _ (Act.put _ (some 44) _) _
      simp only [Act.put, List.setIfInBounds_toArray, List.set_cons_zero, List.set_cons_succ]
      refine wpAnyH_take (i := 1) (v := (.slice ra rn rc)) rfl (by kernel_rfl) (by kernel_rfl) (by kernel_rfl) (fun _ _ _ h => h) (Or.inl ⟨by rfl, fun w' hs => by have k := (VT.out.keep (on B3.out hs)).cell (i := 1) rfl; go_simp⟩) SD.out ?_
      change wpAnyH _ _ _ _ _ _ _ (Act.put _ (some 45) _) _
      simp only [Act.put, List.setIfInBounds_toArray, List.set_cons_zero, List.set_cons_succ]
      refine wpAnyH_take (i := 2) (v := (.slice (some y) kn kc)) rfl (by kernel_rfl) (by kernel_rfl) (by kernel_rfl) (fun _ _ _ h => h) (Or.inl ⟨by rfl, fun w' hs => by go_simp⟩) SD.out ?_
      change wpAnyH _ _ _ _ _ _ _ (Act.put _ (some 46) _) _
      simp only [Act.put, List.setIfInBounds_toArray, List.set_cons_zero, List.set_cons_succ]
      refine wpAnyH_take (i := 3) (v := (.int .i64 (j : Int))) rfl (by kernel_rfl) (by kernel_rfl) (by kernel_rfl) (fun _ _ _ h => h) (Or.inl ⟨by rfl, fun w' hs => by go_simp⟩) SD.out ?_
      change wpAnyH _ _ _ _ _ _ _ (Act.put _ (some 47) _) _
      simp only [Act.put, List.setIfInBounds_toArray, List.set_cons_zero, List.set_cons_succ]
      refine wpAnyH_take (i := 4) (v := (.pointer (some (y.add j)))) rfl (by kernel_rfl) (by kernel_rfl) (by kernel_rfl) (fun _ _ _ h => h) (Or.inl ⟨by rfl, fun w' hs => by go_simp⟩) SD.out ?_
      change wpAnyH _ _ _ _ _ _ _ (Act.put _ (some 48) _) _
      simp only [Act.put, List.setIfInBounds_toArray, List.set_cons_zero, List.set_cons_succ]
      refine wpAnyH_take (i := 5) (v := (.int .i64 z)) rfl (by kernel_rfl) (by kernel_rfl) (by kernel_rfl) (fun _ _ _ h => h) (Or.inl ⟨by rfl, fun w' hs => by have k := CY.out w' hs; go_simp⟩) SD.out ?_
      change wpAnyH _ _ _ _ _ _ _ (Act.put _ (some 49) _) _
      simp only [Act.put, List.setIfInBounds_toArray, List.set_cons_zero, List.set_cons_succ]
      refine wpAnyH_ready (rs := [6]) (by kernel_rfl) (by simp) ?_
      refine AllReadyH.cons rfl (fun K hK => ?_) AllReadyH.nil
      rw [if_pos (by rfl)]
      go_simp
      refine (lw_has _ _ _ z _ _ (NSR.out.stay (on B3.out SD.out))).mono ?_
      rintro e u1 ⟨rfl, rfl⟩
      rw [decide_eq_true MEM.out]
      refine hK.out _ _ SD.out (fun _ => ?_)
      clear hK K
      refine wpAnyH_take (i := 7) (v := (.bool false)) rfl (by kernel_rfl) (by kernel_rfl) (by kernel_rfl) (fun _ _ _ h => h) (Or.inl ⟨by rfl, fun w' hs => by go_simp⟩) SD.out ?_
      change wpAnyH _ _ _ _ _ _ _ (Act.put _ (some 51) _) _
      simp only [Act.put, List.setIfInBounds_toArray, List.set_cons_zero, List.set_cons_succ]
      refine wpAnyH_done (by kernel_rfl) ?_ _
      go_wp2_with fail
      go_roundw
      case rel => exact ⟨j + 1, by have := HLT.out; omega, by go_num, SD.out⟩
      case measure => have := HLT.out; simp [intOf]; omega
    · have hJ : ¬ (j : Int) < (kn : Int) := by omega
      have JN : kn = j := by omega
      subst JN
      clear hlt hj
      go_wp2_with fail
      have PB : Hid (Below W2.heap.size W2 wr) := on B3.out HB.out
      clear NSK KE B3 HB
      have hrn : (rn : Int) ≤ 9223372036854775807 := by have h1 := NSR.out.cap.1; have h2 := NSR.out.cap.2; unfold maxLen at h2; omega
      go_loopw [8] (fun c wr => ∃ j : Nat, j ≤ rn ∧ c = .int .i64 (j : Int) ∧ Below W2.heap.size W2 wr) (fun c _ => rn - (intOf c).toNat)
      case atStart => exact ⟨0, Nat.zero_le _, rfl, PB.out⟩
      clear PB
      case round =>
        obtain ⟨j, hj, rfl, hB⟩ := hrel
        have HB : Hid (Below W2.heap.size W2 wr) := hB
        have r1 := (VT.out.keep hB).cell (i := 1) rfl
        clear hB
        by_cases hlt : j < rn
        · have hJ : (j : Int) < (rn : Int) := by omega
          have HLT : Hid (j < rn) := hlt
          obtain ⟨y, hy, cy⟩ := nsGet NSR.out j hlt
          subst hy
          have CY : Hid (∀ w', Below W2.heap.size W2 w' → w'.cell? (y.add j) = some (.int .i64 ((rch P gu).getD j 0))) := cy
          have MEM : Hid ((rch P gu).getD j 0 ∈ rch P gu) := getD_mem (rch P gu) 0 j (by have := RE.out; omega)
          generalize (rch P gu).getD j 0 = x at *
          have SUB : Hid (∀ z ∈ reachZ P x, z ∈ rch P gu) := fun z hz => by
            unfold reachZ at hz
            split at hz
            · exact rch_least P x (fun v => v ∈ rch P gu) (rch_closed P PF.out gu x MEM.out) (fun v hv => rch_closed P PF.out gu v hv) z hz
            · exact absurd hz (by simp)
          clear cy hlt hj
          go_upto_region 16 with fail
          clear r1
          have SD : Hid (Below W2.heap.size W2 wr.drew) := HB.out.drew
          refine wp_region_held (S := fun w' => Below W2.heap.size W2 w') (by kernel_rfl) ?_
          change wpAnyH _ _ _ _ _ _ _ _ (World.drew _)
          generalize wr.drew = v0 at *
          refine wpAnyH_take (i := 0) (v := (.agg #[.slice a0 n0 c0, .slice a1 n1 c1, .slice a2 n2 c2, .slice a3 n3 c3])) rfl (by kernel_rfl) (by kernel_rfl) (by kernel_rfl) (fun _ _ _ h => h) (Or.inl ⟨by rfl, fun w' hs => by have hp := VQ.out.keep hs; have y0 := hp.cell (i := 0) rfl; have y1 := hp.cell (i := 1) rfl; have y2 := hp.cell (i := 2) rfl; have y3 := hp.cell (i := 3) rfl; go_simp⟩) SD.out ?_
          change wpAnyH _ _ _ _ _ _ _ (Act.put _ (some 59) _) _
          simp only [Act.put, List.setIfInBounds_toArray, List.set_cons_zero, List.set_cons_succ]
          refine wpAnyH_take (i := 1) (v := (.pointer (some ⟨t, 1, none⟩))) rfl (by kernel_rfl) (by kernel_rfl) (by kernel_rfl) (fun _ _ _ h => h) (Or.inl ⟨by rfl, fun w' hs => by go_simp⟩) SD.out ?_
          change wpAnyH _ _ _ _ _ _ _ (Act.put _ (some 60) _) _
          simp only [Act.put, List.setIfInBounds_toArray, List.set_cons_zero, List.set_cons_succ]
          refine wpAnyH_take (i := 2) (v := (.slice (some y) rn rc)) rfl (by kernel_rfl) (by kernel_rfl) (by kernel_rfl) (fun _ _ _ h => h) (Or.inl ⟨by rfl, fun w' hs => by have k := (VT.out.keep hs).cell (i := 1) rfl; go_simp⟩) SD.out ?_
          change wpAnyH _ _ _ _ _ _ _ (Act.put _ (some 61) _) _
          simp only [Act.put, List.setIfInBounds_toArray, List.set_cons_zero, List.set_cons_succ]
          refine wpAnyH_take (i := 3) (v := (.int .i64 (j : Int))) rfl (by kernel_rfl) (by kernel_rfl) (by kernel_rfl) (fun _ _ _ h => h) (Or.inl ⟨by rfl, fun w' hs => by go_simp⟩) SD.out ?_
          change wpAnyH _ _ _ _ _ _ _ (Act.put _ (some 62) _) _
          simp only [Act.put, List.setIfInBounds_toArray, List.set_cons_zero, List.set_cons_succ]
          refine wpAnyH_take (i := 4) (v := (.pointer (some (y.add j)))) rfl (by kernel_rfl) (by kernel_rfl) (by kernel_rfl) (fun _ _ _ h => h) (Or.inl ⟨by rfl, fun w' hs => by go_simp⟩) SD.out ?_
          change wpAnyH _ _ _ _ _ _ _ (Act.put _ (some 63) _) _
          simp only [Act.put, List.setIfInBounds_toArray, List.set_cons_zero, List.set_cons_succ]
          refine wpAnyH_take (i := 5) (v := (.int .i64 x)) rfl (by kernel_rfl) (by kernel_rfl) (by kernel_rfl) (fun _ _ _ h => h) (Or.inl ⟨by rfl, fun w' hs => by have k := CY.out w' hs; go_simp⟩) SD.out ?_
          change wpAnyH _ _ _ _ _ _ _ (Act.put _ (some 64) _) _
          simp only [Act.put, List.setIfInBounds_toArray, List.set_cons_zero, List.set_cons_succ]
          refine wpAnyH_ready (rs := [6]) (by kernel_rfl) (by simp) ?_
          refine AllReadyH.cons rfl (fun K hK => ?_) AllReadyH.nil
          rw [if_pos (by rfl)]
          go_simp
          refine (i_reach _ _ _ _ _ _ _ _ _ _ _ _ P x _ (HP.out.stay SD.out) (cell_keep (on B.out SD.out) HG.out)).mono ?_
          rintro e u1 ⟨v, rfl, hnl, b4⟩
          obtain ⟨ma, mc, hv, _, _, _⟩ := hnl.shape
          have NL : Hid (Nums u1 v0.heap.size v (reachZ P x)) := hnl
          obtain ⟨mn, hmn⟩ : ∃ n, (reachZ P x).length = n := ⟨_, rfl⟩
          have ME : Hid ((reachZ P x).length = mn) := hmn
          rw [hmn] at hv
          subst hv
          have NSM : Hid (IsNs u1 ma mn mc (reachZ P x)) := NL.out.read
          replace SD : Hid (Below W2.heap.size W2 u1) := on SD.out b4
          generalize askV P x = v9
          clear hmn hnl b4 NL
          refine hK.out _ _ SD.out (fun _ => ?_)
          clear hK K
          refine wpAnyH_take (i := 7) (v := (.slice ma mn mc)) rfl (by kernel_rfl) (by kernel_rfl) (by kernel_rfl) (fun _ _ _ h => h) (Or.inl ⟨by rfl, fun w' hs => by have hf := field_ints1; go_simp⟩) SD.out ?_
          change wpAnyH _ _ _ _ _ _ _ (Act.put _ (some 66) _) _
          simp only [Act.put, List.setIfInBounds_toArray, List.set_cons_zero, List.set_cons_succ]
          refine wpAnyH_take (i := 8) (v := (.slice ma mn mc)) rfl (by kernel_rfl) (by kernel_rfl) (by kernel_rfl) (fun _ _ _ h => h) (Or.inl ⟨by rfl, fun w' hs => by go_simp⟩) SD.out ?_
          change wpAnyH _ _ _ _ _ _ _ (Act.put _ (some 9) _) _
          simp only [Act.put, List.setIfInBounds_toArray, List.set_cons_zero, List.set_cons_succ]
          refine wpAnyH_done (by kernel_rfl) ?_ _
          go_wp2_with fail
          have hmn : (mn : Int) ≤ 9223372036854775807 := by have h1 := NSM.out.cap.1; have h2 := NSM.out.cap.2; unfold maxLen at h2; omega
          go_loopw [10] (fun c wr => ∃ l : Nat, l ≤ mn ∧ c = .int .i64 (l : Int) ∧ Below u1.heap.size u1 wr) (fun c _ => mn - (intOf c).toNat)
          case atStart => exact ⟨0, Nat.zero_le _, rfl, Below.refl _ _⟩
          case round =>
            obtain ⟨l, hl, rfl, hB⟩ := hrel
            have HB : Hid (Below u1.heap.size u1 wr) := hB
            clear hB
            by_cases hlt : l < mn
            · have hJ : (l : Int) < (mn : Int) := by omega
              have HL : Hid (l < mn) := hlt
              obtain ⟨y2, hy, cy⟩ := nsGet NSM.out l hlt
              subst hy
              have CZ : Hid (∀ w', Below u1.heap.size u1 w' → w'.cell? (y2.add l) = some (.int .i64 ((reachZ P x).getD l 0))) := cy
              have MEZ : Hid ((reachZ P x).getD l 0 ∈ rch P gu) := SUB.out _ (getD_mem (reachZ P x) 0 l (by have := ME.out; omega))
              generalize (reachZ P x).getD l 0 = z at *
              clear cy hlt hl
              go_upto_region 20 with fail
              have SE : Hid (Below u1.heap.size u1 wr.drew) := HB.out.drew
              refine wp_region_held (S := fun w' => Below u1.heap.size u1 w') (by kernel_rfl) ?_
              change wpAnyH _ _ _ _ _ _ _ _ (World.drew _)
              generalize wr.drew = v0 at *
              refine wpAnyH_take (i := 0) (v := (.pointer (some ⟨t, 1, none⟩))) rfl (by kernel_rfl) (by kernel_rfl) (by kernel_rfl) (fun _ _ _ h => h) (Or.inl ⟨by rfl, fun w' hs => by go_simp⟩) SE.out ?_
              change wpAnyH _ _ _ _ _ _ _ (Act.put _ (some 73) _) _
              simp only [Act.put, List.setIfInBounds_toArray, List.set_cons_zero, List.set_cons_succ]
              refine wpAnyH_take (i := 1) (v := (.slice (some y) rn rc)) rfl (by kernel_rfl) (by kernel_rfl) (by kernel_rfl) (fun _ _ _ h => h) (Or.inl ⟨by rfl, fun w' hs => by have k := (VT.out.keep (on SD.out hs)).cell (i := 1) rfl; go_simp⟩) SE.out ?_
              change wpAnyH _ _ _ _ _ _ _ (Act.put _ (some 74) _) _
              simp only [Act.put, List.setIfInBounds_toArray, List.set_cons_zero, List.set_cons_succ]
              refine wpAnyH_take (i := 2) (v := (.slice (some y2) mn mc)) rfl (by kernel_rfl) (by kernel_rfl) (by kernel_rfl) (fun _ _ _ h => h) (Or.inl ⟨by rfl, fun w' hs => by go_simp⟩) SE.out ?_
              change wpAnyH _ _ _ _ _ _ _ (Act.put _ (some 75) _) _
              simp only [Act.put, List.setIfInBounds_toArray, List.set_cons_zero, List.set_cons_succ]
              refine wpAnyH_take (i := 3) (v := (.int .i64 (l : Int))) rfl (by kernel_rfl) (by kernel_rfl) (by kernel_rfl) (fun _ _ _ h => h) (Or.inl ⟨by rfl, fun w' hs => by go_simp⟩) SE.out ?_
              change wpAnyH _ _ _ _ _ _ _ (Act.put _ (some 76) _) _
              simp only [Act.put, List.setIfInBounds_toArray, List.set_cons_zero, List.set_cons_succ]
              refine wpAnyH_take (i := 4) (v := (.pointer (some (y2.add l)))) rfl (by kernel_rfl) (by kernel_rfl) (by kernel_rfl) (fun _ _ _ h => h) (Or.inl ⟨by rfl, fun w' hs => by go_simp⟩) SE.out ?_
              change wpAnyH _ _ _ _ _ _ _ (Act.put _ (some 77) _) _
              simp only [Act.put, List.setIfInBounds_toArray, List.set_cons_zero, List.set_cons_succ]
              refine wpAnyH_take (i := 5) (v := (.int .i64 z)) rfl (by kernel_rfl) (by kernel_rfl) (by kernel_rfl) (fun _ _ _ h => h) (Or.inl ⟨by rfl, fun w' hs => by have k := CZ.out w' hs; go_simp⟩) SE.out ?_
              change wpAnyH _ _ _ _ _ _ _ (Act.put _ (some 78) _) _
              simp only [Act.put, List.setIfInBounds_toArray, List.set_cons_zero, List.set_cons_succ]
              refine wpAnyH_ready (rs := [6]) (by kernel_rfl) (by simp) ?_
              refine AllReadyH.cons rfl (fun K hK => ?_) AllReadyH.nil
              rw [if_pos (by rfl)]
              go_simp
              refine (lw_has _ _ _ z _ _ (NSR.out.stay (on SD.out SE.out))).mono ?_
              rintro e u2 ⟨rfl, rfl⟩
              rw [decide_eq_true MEZ.out]
              refine hK.out _ _ SE.out (fun _ => ?_)
              clear hK K
              refine wpAnyH_take (i := 7) (v := (.bool false)) rfl (by kernel_rfl) (by kernel_rfl) (by kernel_rfl) (fun _ _ _ h => h) (Or.inl ⟨by rfl, fun w' hs => by go_simp⟩) SE.out ?_
              change wpAnyH _ _ _ _ _ _ _ (Act.put _ (some 80) _) _
              simp only [Act.put, List.setIfInBounds_toArray, List.set_cons_zero, List.set_cons_succ]
              refine wpAnyH_done (by kernel_rfl) ?_ _
              go_wp2_with fail
              go_roundw
              case rel => exact ⟨l + 1, by have := HL.out; omega, by go_num, SE.out⟩
              case measure => have := HL.out; simp [intOf]; omega
            · have hJ : ¬ (l : Int) < (mn : Int) := by omega
              have LN : mn = l := by omega
              subst LN
              clear hlt hl
              go_wp2_with fail
              go_roundw
              case rel => exact ⟨j + 1, by have := HLT.out; omega, by go_num, on SD.out HB.out⟩
              case measure => have := HLT.out; simp [intOf]; omega
        · have hJ : ¬ (j : Int) < (rn : Int) := by omega
          have JN : rn = j := by omega
          subst JN
          clear hlt hj
          go_wp2_with fail
          clear r1
          have PB : Hid (Below W2.heap.size W2 wr) := HB.out
          have ASK : Hid (∀ g : Nat, g < n0 → askV P (g : Int) = 0) := fun g hg => by
            have hi : isG P.own.length (g : Int) = true := by rw [isG_iff]; have := HN.out.1; omega
            unfold askV
            rw [if_pos PF.out, if_neg (by rw [hi]; decide)]
          have N3 : Hid (n0 ≤ 3) := by have h := (pf_parts P PF.out).1; rw [HN.out.1] at h; exact h
          have SMB : Hid (∀ g : Nat, 0 ≤ sumF P.plan g ∧ sumF P.plan g ≤ 400 * (g : Int)) := fun g => by
            induction g with
            | zero => simp [sumF]
            | succ k ih => have := fr_le P PF.out (k : Int); simp only [sumF]; omega
          clear HB NSR RE RL
          go_loopw [11, 12] (fun s c wr => ∃ g : Nat, g ≤ n0 ∧ c = .int .i64 (g : Int) ∧ s = .int .i64 (sumF P.plan g) ∧ Below W2.heap.size W2 wr) (fun _ c _ => n0 - (intOf c).toNat)
          case atStart => exact ⟨0, Nat.zero_le _, rfl, rfl, PB.out⟩
          clear PB
          case round =>
            obtain ⟨g, hg, rfl, rfl, hB⟩ := hrel
            have HB : Hid (Below W2.heap.size W2 wr) := hB
            have VQ1 : Hid (Bk wr q #[.slice a0 n0 c0, .slice a1 n1 c1, .slice a2 n2 c2, .slice a3 n3 c3] 29) := VQ.out.keep hB
            clear hB
            obtain ⟨sg, hsg⟩ : ∃ z, sumF P.plan g = z := ⟨_, rfl⟩
            have HSG : Hid (sumF P.plan g = sg) := hsg
            have SGB : Hid (0 ≤ sg ∧ sg ≤ 1200) := by have h := SMB.out g; rw [hsg] at h; have := N3.out; show _ ∧ _; omega
            rw [hsg]
            clear hsg
            have hn0 : (n0 : Int) ≤ 3 := by have := N3.out; omega
            have q0 := VQ1.out.cell (i := 0) rfl
            have q1 := VQ1.out.cell (i := 1) rfl
            have q2 := VQ1.out.cell (i := 2) rfl
            have q3 := VQ1.out.cell (i := 3) rfl
            by_cases hlt : g < n0
            · have hI : (g : Int) < (n0 : Int) := by omega
              have HLT : Hid (g < n0) := hlt
              clear hlt hg
              go_wp2_with fail
              clear q0 q1 q2 q3
              refine (i_framesOf _ _ _ _ _ _ _ _ _ _ _ _ P (g : Int) _ (HP.out.stay HB.out) (cell_keep (on B.out HB.out) HG.out)).mono ?_
              rintro e w5 ⟨rfl, b5⟩
              have FE : fR P (g : Int) = (0, frV (g : Int) P.plan) := by unfold fR; rw [if_pos (ASK.out g HLT.out)]
              rw [FE]
              clear FE
              have FB := fr_le P PF.out (g : Int)
              obtain ⟨fv, hfv⟩ : ∃ z, frV (g : Int) P.plan = z := ⟨_, rfl⟩
              have HFV : Hid (frV (g : Int) P.plan = fv) := hfv
              rw [hfv] at FB ⊢
              have w1 : -9223372036854775808 ≤ sg + fv ∧ sg + fv ≤ 9223372036854775807 := by have := SGB.out; omega
              have B5 : Hid (Below W2.heap.size W2 w5) := on HB.out b5
              clear hfv b5 FB
              have hf := field_intr1
              have q0 := (VQ.out.keep B5.out).cell (i := 0) rfl
              obtain ⟨y, b, l, k, hy, cy, hns⟩ := s2Get HP.out.own g HLT.out
              subst hy
              have CY : Hid (∀ w', Below W2.heap.size W2 w' → w'.cell? (y.add g) = some (.slice b l k)) := cy
              have NSO : Hid (IsNs W2 b l k (P.own.getD g [])) := hns
              have LEN : Hid ((P.own.getD g []).length = l) := hns.len.symm
              have yg := cy w5 B5.out
              have hl : (l : Int) ≤ 9223372036854775807 := by have h1 := hns.cap.1; have h2 := hns.cap.2; unfold maxLen at h2; omega
              clear cy hns
              go_wp2_with fail
              clear hf q0 yg
              go_loopw [13] (fun c wr => ∃ j : Nat, j ≤ l ∧ c = .int .i64 (j : Int) ∧ Below W2.heap.size W2 wr) (fun c _ => l - (intOf c).toNat)
              case atStart => exact ⟨0, Nat.zero_le _, rfl, B5.out⟩
              clear VQ1 HB B5
              case round =>
                obtain ⟨j, hj, rfl, hB⟩ := hrel
                have HB : Hid (Below W2.heap.size W2 wr) := hB
                have q0 := (VQ.out.keep hB).cell (i := 0) rfl
                have yg := CY.out wr hB
                clear hB
                by_cases hlt : j < l
                · have hJ : (j : Int) < (l : Int) := by omega
                  have HLJ : Hid (j < l) := hlt
                  obtain ⟨y3, hy, cz⟩ := nsGet NSO.out j hlt
                  subst hy
                  have CZ : Hid (∀ w', Below W2.heap.size W2 w' → w'.cell? (y3.add j) = some (.int .i64 ((P.own.getD g []).getD j 0))) := cz
                  have OW : Hid (oR P ((P.own.getD g []).getD j 0) = (0, (g : Int))) := by
                    have h := pf_owner P PF.out g (by rw [HN.out.1]; exact HLT.out) _ (getD_mem (P.own.getD g []) 0 j (by rw [LEN.out]; exact hlt))
                    show _ = _
                    rw [oR_is P _ PF.out (by rw [h]; omega), h]
                  generalize (P.own.getD g []).getD j 0 = z at *
                  clear cz hlt hj
                  go_upto_region 30 with fail
                  clear q0 yg
                  have SD : Hid (Below W2.heap.size W2 wr.drew) := HB.out.drew
                  refine wp_region_held (S := fun w' => Below W2.heap.size W2 w') (by kernel_rfl) ?_
                  change wpAnyH _ _ _ _ _ _ _ _ (World.drew _)
                  generalize wr.drew = v0 at *
                  refine wpAnyH_take (i := 0) (v := (.agg #[.slice (some y) n0 c0, .slice a1 n1 c1, .slice a2 n2 c2, .slice a3 n3 c3])) rfl (by kernel_rfl) (by kernel_rfl) (by kernel_rfl) (fun _ _ _ h => h) (Or.inl ⟨by rfl, fun w' hs => by have hp := VQ.out.keep hs; have y0 := hp.cell (i := 0) rfl; have y1 := hp.cell (i := 1) rfl; have y2 := hp.cell (i := 2) rfl; have y3 := hp.cell (i := 3) rfl; go_simp⟩) SD.out ?_
                  change wpAnyH _ _ _ _ _ _ _ (Act.put _ (some 104) _) _
                  simp only [Act.put, List.setIfInBounds_toArray, List.set_cons_zero, List.set_cons_succ]
                  refine wpAnyH_take (i := 1) (v := (.pointer (some ⟨q, 0, none⟩))) rfl (by kernel_rfl) (by kernel_rfl) (by kernel_rfl) (fun _ _ _ h => h) (Or.inl ⟨by rfl, fun w' hs => by go_simp⟩) SD.out ?_
                  change wpAnyH _ _ _ _ _ _ _ (Act.put _ (some 105) _) _
                  simp only [Act.put, List.setIfInBounds_toArray, List.set_cons_zero, List.set_cons_succ]
                  refine wpAnyH_take (i := 2) (v := (.slice (some y) n0 c0)) rfl (by kernel_rfl) (by kernel_rfl) (by kernel_rfl) (fun _ _ _ h => h) (Or.inl ⟨by rfl, fun w' hs => by have k := (VQ.out.keep hs).cell (i := 0) rfl; go_simp⟩) SD.out ?_
                  change wpAnyH _ _ _ _ _ _ _ (Act.put _ (some 106) _) _
                  simp only [Act.put, List.setIfInBounds_toArray, List.set_cons_zero, List.set_cons_succ]
                  refine wpAnyH_take (i := 3) (v := (.int .i64 (g : Int))) rfl (by kernel_rfl) (by kernel_rfl) (by kernel_rfl) (fun _ _ _ h => h) (Or.inl ⟨by rfl, fun w' hs => by go_simp⟩) SD.out ?_
                  change wpAnyH _ _ _ _ _ _ _ (Act.put _ (some 107) _) _
                  simp only [Act.put, List.setIfInBounds_toArray, List.set_cons_zero, List.set_cons_succ]
                  refine wpAnyH_take (i := 4) (v := (.pointer (some (y.add g)))) rfl (by kernel_rfl) (by kernel_rfl) (by kernel_rfl) (fun _ _ _ h => h) (Or.inl ⟨by rfl, fun w' hs => by go_simp⟩) SD.out ?_
                  change wpAnyH _ _ _ _ _ _ _ (Act.put _ (some 108) _) _
                  simp only [Act.put, List.setIfInBounds_toArray, List.set_cons_zero, List.set_cons_succ]
                  refine wpAnyH_take (i := 5) (v := (.slice (some y3) l k)) rfl (by kernel_rfl) (by kernel_rfl) (by kernel_rfl) (fun _ _ _ h => h) (Or.inl ⟨by rfl, fun w' hs => by have k := CY.out w' hs; go_simp⟩) SD.out ?_
                  change wpAnyH _ _ _ _ _ _ _ (Act.put _ (some 109) _) _
                  simp only [Act.put, List.setIfInBounds_toArray, List.set_cons_zero, List.set_cons_succ]
                  refine wpAnyH_take (i := 6) (v := (.int .i64 (j : Int))) rfl (by kernel_rfl) (by kernel_rfl) (by kernel_rfl) (fun _ _ _ h => h) (Or.inl ⟨by rfl, fun w' hs => by go_simp⟩) SD.out ?_
                  change wpAnyH _ _ _ _ _ _ _ (Act.put _ (some 110) _) _
                  simp only [Act.put, List.setIfInBounds_toArray, List.set_cons_zero, List.set_cons_succ]
                  refine wpAnyH_take (i := 7) (v := (.pointer (some (y3.add j)))) rfl (by kernel_rfl) (by kernel_rfl) (by kernel_rfl) (fun _ _ _ h => h) (Or.inl ⟨by rfl, fun w' hs => by go_simp⟩) SD.out ?_
                  change wpAnyH _ _ _ _ _ _ _ (Act.put _ (some 111) _) _
                  simp only [Act.put, List.setIfInBounds_toArray, List.set_cons_zero, List.set_cons_succ]
                  refine wpAnyH_take (i := 8) (v := (.int .i64 z)) rfl (by kernel_rfl) (by kernel_rfl) (by kernel_rfl) (fun _ _ _ h => h) (Or.inl ⟨by rfl, fun w' hs => by have k := CZ.out w' hs; go_simp⟩) SD.out ?_
                  change wpAnyH _ _ _ _ _ _ _ (Act.put _ (some 112) _) _
                  simp only [Act.put, List.setIfInBounds_toArray, List.set_cons_zero, List.set_cons_succ]
                  refine wpAnyH_take (i := 11) (v := (.int .i64 (g : Int))) rfl (by kernel_rfl) (by kernel_rfl) (by kernel_rfl) (fun _ _ _ h => h) (Or.inl ⟨by rfl, fun w' hs => by go_simp⟩) SD.out ?_
                  change wpAnyH _ _ _ _ _ _ _ (Act.put _ (some 115) _) _
                  simp only [Act.put, List.setIfInBounds_toArray, List.set_cons_zero, List.set_cons_succ]
                  refine wpAnyH_ready (rs := [9]) (by kernel_rfl) (by simp) ?_
                  refine AllReadyH.cons rfl (fun K hK => ?_) AllReadyH.nil
                  rw [if_pos (by rfl)]
                  go_simp
                  refine (i_ownerOf _ _ _ _ _ _ _ _ _ _ _ _ P z _ (HP.out.stay SD.out) (cell_keep (on B.out SD.out) HG.out)).mono ?_
                  rintro e u1 ⟨rfl, b4⟩
                  rw [OW.out]
                  replace SD : Hid (Below W2.heap.size W2 u1) := on SD.out b4
                  clear b4
                  refine hK.out _ _ SD.out (fun _ => ?_)
                  clear hK K
                  refine wpAnyH_take (i := 10) (v := (.int .i64 (g : Int))) rfl (by kernel_rfl) (by kernel_rfl) (by kernel_rfl) (fun _ _ _ h => h) (Or.inl ⟨by rfl, fun w' hs => by have hf := field_intr1; go_simp⟩) SD.out ?_
                  change wpAnyH _ _ _ _ _ _ _ (Act.put _ (some 114) _) _
                  simp only [Act.put, List.setIfInBounds_toArray, List.set_cons_zero, List.set_cons_succ]
                  refine wpAnyH_take (i := 12) (v := (.bool false)) rfl (by kernel_rfl) (by kernel_rfl) (by kernel_rfl) (fun _ _ _ h => h) (Or.inl ⟨by rfl, fun w' hs => by go_simp⟩) SD.out ?_
                  change wpAnyH _ _ _ _ _ _ _ (Act.put _ (some 116) _) _
                  simp only [Act.put, List.setIfInBounds_toArray, List.set_cons_zero, List.set_cons_succ]
                  refine wpAnyH_done (by kernel_rfl) ?_ _
                  go_wp2_with fail
                  go_roundw
                  case rel => exact ⟨j + 1, by have := HLJ.out; omega, by go_num, SD.out⟩
                  case measure => have := HLJ.out; simp [intOf]; omega
                · have hJ : ¬ (j : Int) < (l : Int) := by omega
                  have LN : l = j := by omega
                  subst LN
                  clear hlt hj
                  go_wp2_with fail
                  go_roundw
                  case rel => exact ⟨g + 1, by have := HLT.out; omega, by go_num, by have h1 := HSG.out; have h2 := HFV.out; simp only [sumF]; rw [h1, h2], HB.out⟩
                  case measure => have := HLT.out; simp [intOf]; omega
            · have hI : ¬ (g : Int) < (n0 : Int) := by omega
              have GN : n0 = g := by omega
              subst GN
              clear hlt hg
              have RS : Hid (rdV P.plan = sg) := by
                have h := (round_all P PF.out).1
                rw [HN.out.1, HSG.out] at h
                exact h.symm
              have RPOS : 0 < sg := by have h := (round_all P PF.out).2; rw [RS.out] at h; exact h
              go_wp2_with fail
              clear q0 q1 q2 q3
              refine (i_roundOf _ _ _ _ _ _ _ _ _ _ _ _ P _ (HP.out.stay HB.out) (cell_keep (on B.out HB.out) HG.out)).mono ?_
              rintro e w5 ⟨rfl, b5⟩
              have RE : rR P = (0, sg) := by unfold rR; rw [if_pos PF.out, RS.out]
              rw [RE]
              clear RE
              have B5 : Hid (Below W2.heap.size W2 w5) := on HB.out b5
              clear b5
              have hf := field_intr1
              go_wp2_with fail
              go_ret
              exact ⟨rfl, on B.out B5.out⟩
end Go.Proofs.YtddeaibkdpomlaaGreatDoor.fnReachesDone
