/- The walk of a law. -/
import Derived.Test.YtdhdfopkcpkbeaaGreatDoorCards
import Derived.Test.YtdhdfopkcpkbeaaGreatDoorTie
import Derived.Deep.DeepHandedRow
import Derived.LaidHandle
import Derived.LaidLaws
import Derived.Lib.LaidTab
import Derived.Stop.LaidErr
import Derived.Deep.RegionWith
import Derived.Deep.RegionHeld3
import Derived.Deep.Cut
import Derived.Deep.CutRange
import Derived.Test.YtdhdfopkcpkbeaaGreatDoorQ01
import Derived.Test.YtdhdfopkcpkbeaaGreatDoorQ12
import Derived.Test.YtdhdfopkcpkbeaaGreatDoorQ21
import Derived.Test.YtdhdfopkcpkbeaaGreatDoorQ23
import Derived.Test.YtdhdfopkcpkbeaaGreatDoorQ29
import Derived.Test.YtdhdfopkcpkbeaaGreatDoorQ43
import Derived.Test.YtdhdfopkcpkbeaaGreatDoorQ50
namespace Go.Proofs.YtdhdfopkcpkbeaaGreatDoor.fnLayoutsDone
open Go.ChangeShapes Go.WideShapes Go.ChangeAt Go.RowKit
open Go.ChangeMaps (open_string shut_string)
set_option linter.unusedVariables false

theorem field_memR0 (x y : Value) (w : World) : (Instr.field 34 (.agg #[x, y]) 0).run Tryz.prog w = .ok x w := by kernel_rfl
theorem field_intsL (x0 x1 : Value) (w : World) : (Instr.field 42 (.agg #[x0, x1]) 1).run Tryz.prog w = .ok x1 w := by kernel_rfl
theorem laynsGet {w : World} {a : Option Addr} {n c : Nat} {zs : List Int} (h : IsNs w a n c zs) (j : Nat) (hj : j < n) : ∃ y, a = some y ∧ ∀ w', Below w.heap.size w w' → w'.cell? (y.add j) = some (.int .i64 (zs.getD j 0)) := by
  rcases h with ⟨_, h1, _, _⟩ | ⟨y, rfl, _, _, _, h4⟩
  · omega
  · exact ⟨y, rfl, fun w' b => cell_keep b (h4 j hj)⟩
set_option maxRecDepth 20000 in
set_option maxHeartbeats 16000000 in
theorem walk (a0 : Option Addr) (len0 cap0 : Nat) (z0 : List Int) (w : World) (w0 : IsRow .u8 w a0 len0 cap0 z0) (hg : w.cell? ⟨0, 0, none⟩ = some (.iface 157 (.agg #[.pointer (some ⟨1, 91, none⟩)]))) :
    Calls Tryz.prog 3 #[.slice a0 len0 cap0] w fun e w' => e = .returned (.bool true) ∧ Below w.heap.size w w' := by
  have HR : Hid (IsRow .u8 w a0 len0 cap0 z0) := w0
  have HG : Hid (w.cell? ⟨0, 0, none⟩ = some (.iface 157 (.agg #[.pointer (some ⟨1, 91, none⟩)]))) := hg
  clear w0 hg
  by_cases hbig : 1048576 < (len0 : Int)
  · go_enter Tryz.func3, Tryz.ntmps3
    go_wp2
    go_ret
    exact ⟨rfl, Below.refl _ _⟩
  have hb2 : (len0 : Int) ≤ 1048576 := by omega
  clear hbig
  go_enter Tryz.func3, Tryz.ntmps3
  go_wp2_with (go_at_call 4; go_in)
  refine (drawLoad HR.out).mono ?_
  rintro e w1 ⟨_, _, _, _, P, _, iss, rfl, dv, so, il, b1⟩
  clear HR
  obtain ⟨a0, c0, a1, c1, a2, c2, a3, c3, e0, e1, e2, e3⟩ := dv.shape
  subst e0 e1 e2 e3
  obtain ⟨ia, ic, ei, _, _, _⟩ := so.shape
  obtain ⟨ni, hni⟩ : ∃ n, iss.length = n := ⟨_, rfl⟩
  rw [hni] at ei il
  subst ei
  obtain ⟨n0, hn0⟩ : ∃ n, P.own.length = n := ⟨_, rfl⟩
  obtain ⟨n1, hn1⟩ : ∃ n, P.lanes.length = n := ⟨_, rfl⟩
  obtain ⟨n2, hn2⟩ : ∃ n, P.bells.length = n := ⟨_, rfl⟩
  obtain ⟨n3, hn3⟩ : ∃ n, P.plan.length = n := ⟨_, rfl⟩
  rw [hn0, hn1, hn2, hn3] at dv ⊢
  have HN : Hid (P.own.length = n0 ∧ iss.length = ni ∧ ni ≤ 5) := ⟨hn0, hni, il⟩
  obtain ⟨p, hp⟩ : ∃ p, w1.heap.size = p := ⟨_, rfl⟩
  generalize hW : w1.alloc (.cells #[.slice a0 n0 c0, .slice a1 n1 c1, .slice a2 n2 c2, .slice a3 n3 c3] 29) = W
  have A0 : Below w1.heap.size w1 W := by rw [← hW]; exact al (Below.refl _ _) _
  have B0 : Hid (Below w.heap.size w W) := on b1 A0
  have KP : Hid (Bk W p #[.slice a0 n0 c0, .slice a1 n1 c1, .slice a2 n2 c2, .slice a3 n3 c3] 29) := by show Bk _ _ _ _; rw [← hW, ← hp]; exact Bk.new _ _ _
  have HP : Hid (Pl W a0 n0 c0 a1 n1 c1 a2 n2 c2 a3 n3 c3 P) := (dv.keep A0).pl
  have IM : Hid (IsS2 W ia ni ic iss) := (so.keep A0).read
  have GE : Hid (W.cell? ⟨0, 0, none⟩ = some (.iface 157 (.agg #[.pointer (some ⟨1, 91, none⟩)]))) := cell_keep B0.out HG.out
  clear hn0 hn1 hn2 hn3 hni dv so b1 A0 HG il
  go_upto_region 4 with fail
  try rw [hW]
  try rw [hp]
  clear hW hp
  have q0 := KP.out.cell (i := 0) rfl
  have q1 := KP.out.cell (i := 1) rfl
  have q2 := KP.out.cell (i := 2) rfl
  have q3 := KP.out.cell (i := 3) rfl
  go_wp2_with fail
  clear q0 q1 q2 q3
  refine (i_load _ _ _ _ _ _ _ _ _ _ _ _ P _ _ _ iss _ HP.out IM.out GE.out).mono ?_
  rintro e w2 ⟨_, rfl, nm, b2⟩
  obtain ⟨ma, mc, em, _, _, hmg⟩ := nm.shape
  subst em
  obtain ⟨C, hC⟩ : ∃ C, loadC P iss = C := ⟨_, rfl⟩
  obtain ⟨M, hM⟩ : ∃ M, loadZ P iss = M := ⟨_, rfl⟩
  have VC : Hid (loadC P iss = C) := hC
  have LDF : Hid (C = 0 → Ldm P iss M) := fun h => by rw [← hM]; exact ld_of (by rw [hC]; exact h)
  rw [hM] at nm hmg ⊢
  rw [hC]
  obtain ⟨mn, hmn⟩ : ∃ n, M.length = n := ⟨_, rfl⟩
  rw [hmn] at nm hmg ⊢
  obtain ⟨t, ht⟩ : ∃ p, w2.heap.size = p := ⟨_, rfl⟩
  generalize hX : w2.alloc (.cells #[.int .i64 C, .slice ma mn mc] 34) = X
  have A2 : Below w2.heap.size w2 X := by rw [← hX]; exact al (Below.refl _ _) _
  have BX : Hid (Below W.heap.size W X) := on b2 A2
  have KT : Hid (Bk X t #[.int .i64 C, .slice ma mn mc] 34) := by show Bk _ _ _ _; rw [← hX, ← ht]; exact Bk.new _ _ _
  have MM : Hid (Nums X W.heap.size (.slice ma mn mc) M) := nm.keep A2
  have MN : Hid (M.length = mn) := hmn
  clear hC hM nm b2 A2 hmn
  go_upto_region 5 with fail
  try rw [hX]
  try rw [ht]
  clear hX ht
  have q0 := (KP.out.keep BX.out).cell (i := 0) rfl
  have q1 := (KP.out.keep BX.out).cell (i := 1) rfl
  have q2 := (KP.out.keep BX.out).cell (i := 2) rfl
  have q3 := (KP.out.keep BX.out).cell (i := 3) rfl
  go_wp2_with fail
  clear q0 q1 q2 q3
  refine (i_maps _ _ _ _ _ _ _ _ _ _ _ _ P _ (HP.out.stay BX.out) (cell_keep BX.out GE.out)).mono ?_
  rintro e w3 ⟨_, rfl, spx, b3⟩
  obtain ⟨sa, sc, es, _, _, hsg⟩ := spx.shape
  subst es
  obtain ⟨F, hF⟩ : ∃ F, pfV P = F := ⟨_, rfl⟩
  have VF : Hid (pfV P = F) := hF
  obtain ⟨sn, hsn⟩ : ∃ n, mapsN P = n := ⟨_, rfl⟩
  have VS : Hid (mapsN P = sn) := hsn
  rw [hF, hsn]
  rw [hsn] at spx hsg
  obtain ⟨m, hm⟩ : ∃ p, w3.heap.size = p := ⟨_, rfl⟩
  generalize hY : w3.alloc (.cells #[.int .i64 F, .slice sa sn sc] 38) = Y
  have A3 : Below w3.heap.size w3 Y := by rw [← hY]; exact al (Below.refl _ _) _
  have BYX : Below X.heap.size X Y := on b3 A3
  have BY : Hid (Below W.heap.size W Y) := on BX.out BYX
  have KM : Hid (Bk Y m #[.int .i64 F, .slice sa sn sc] 38) := by show Bk _ _ _ _; rw [← hY, ← hm]; exact Bk.new _ _ _
  have KPY : Hid (Bk Y p #[.slice a0 n0 c0, .slice a1 n1 c1, .slice a2 n2 c2, .slice a3 n3 c3] 29) := KP.out.keep BY.out
  have KTY : Hid (Bk Y t #[.int .i64 C, .slice ma mn mc] 34) := KT.out.keep BYX
  have SPX : Hid (SpX Y X.heap.size (.slice sa sn sc) sn (mapsL P)) := by
    obtain ⟨B, C, s⟩ := spx
    exact ⟨B, C, s.keep A3⟩
  have MMY : Hid (Nums Y W.heap.size (.slice ma mn mc) M) := MM.out.keep BYX
  clear hF hsn spx b3 A3 BYX KT MM KP BX
  go_upto_region 6 with fail
  try rw [hY]
  try rw [hm]
  clear hY hm
  have y0 := KM.out.cell (i := 0) rfl
  have y1 := KM.out.cell (i := 1) rfl
  have q0 := KPY.out.cell (i := 0) rfl
  have q1 := KPY.out.cell (i := 1) rfl
  have q2 := KPY.out.cell (i := 2) rfl
  have q3 := KPY.out.cell (i := 3) rfl
  by_cases hf : F = 0
  case neg =>
    have hf2 : (F == 0) = false := by simp [hf]
    have hc : ¬ C = 0 := by
      intro h
      have := (LDF.out h).pf
      rw [VF.out] at this
      exact hf this
    go_upto_region 8 with fail
    clear y0 y1 q0 q1 q2 q3 hf2
    have hc2 : (C != 0) = true := by simp [hc]
    have KTu : Hid (Bk Y t #[.int .i64 C, .slice ma mn mc] 34) := KTY.out.keep (Below.refl _ _)
    have KPu : Hid (Bk Y p #[.slice a0 n0 c0, .slice a1 n1 c1, .slice a2 n2 c2, .slice a3 n3 c3] 29) := KPY.out.keep (Below.refl _ _)
    have t0 := KTu.out.cell (i := 0) rfl
    go_upto_region 9 with fail
    clear t0
    have BU : Hid (Below W.heap.size W Y) := on BY.out (Below.refl _ _)
    have SD : Hid (Below Y.heap.size Y Y.drew) := (Below.refl _ _).drew
    refine wp_region_held (S := fun w' => Below Y.heap.size Y w') (by kernel_rfl) ?_
    change wpAnyH _ _ _ _ _ _ _ _ (World.drew _)
    generalize Y.drew = u0 at *
    refine wpAnyH_take (i := 0) (v := (.agg #[.slice a0 n0 c0, .slice a1 n1 c1, .slice a2 n2 c2, .slice a3 n3 c3])) rfl (by kernel_rfl) (by kernel_rfl) (by kernel_rfl) (fun _ _ _ h => h) (Or.inl ⟨by rfl, fun w' hs => by have hp := KPu.out.keep hs; have y0 := hp.cell (i := 0) rfl; have y1 := hp.cell (i := 1) rfl; have y2 := hp.cell (i := 2) rfl; have y3 := hp.cell (i := 3) rfl; go_simp⟩) SD.out ?_
    change wpAnyH _ _ _ _ _ _ _ (Act.put _ (some 39) _) _
    simp only [Act.put, List.setIfInBounds_toArray, List.set_cons_zero, List.set_cons_succ]
    refine wpAnyH_take (i := 1) (v := (.slice ia ni ic)) rfl (by kernel_rfl) (by kernel_rfl) (by kernel_rfl) (fun _ _ _ h => h) (Or.inl ⟨by rfl, fun w' hs => by go_simp⟩) SD.out ?_
    change wpAnyH _ _ _ _ _ _ _ (Act.put _ (some 40) _) _
    simp only [Act.put, List.setIfInBounds_toArray, List.set_cons_zero, List.set_cons_succ]
    refine wpAnyH_take (i := 4) (v := (.pointer (some ⟨t, 0, none⟩))) rfl (by kernel_rfl) (by kernel_rfl) (by kernel_rfl) (fun _ _ _ h => h) (Or.inl ⟨by rfl, fun w' hs => by go_simp⟩) SD.out ?_
    change wpAnyH _ _ _ _ _ _ _ (Act.put _ (some 43) _) _
    simp only [Act.put, List.setIfInBounds_toArray, List.set_cons_zero, List.set_cons_succ]
    refine wpAnyH_take (i := 5) (v := (.int .i64 C)) rfl (by kernel_rfl) (by kernel_rfl) (by kernel_rfl) (fun _ _ _ h => h) (Or.inl ⟨by rfl, fun w' hs => by have hp := KTu.out.keep hs; have y0 := hp.cell (i := 0) rfl; have y1 := hp.cell (i := 1) rfl; go_simp⟩) SD.out ?_
    change wpAnyH _ _ _ _ _ _ _ (Act.put _ (some 44) _) _
    simp only [Act.put, List.setIfInBounds_toArray, List.set_cons_zero, List.set_cons_succ]
    refine wpAnyH_ready (rs := [2]) (by kernel_rfl) (by simp) ?_
    refine AllReadyH.cons rfl (fun K hK => ?_) AllReadyH.nil
    rw [if_pos (by rfl)]
    go_simp
    refine (s_load _ _ _ _ _ _ _ _ _ _ _ _ P _ _ _ iss _ (HP.out.stay (on BU.out SD.out)) (IM.out.stay (on BU.out SD.out))).mono ?_
    rintro e u1 ⟨v5, rfl, -, b5⟩
    rw [VC.out]
    replace SD : Hid (Below Y.heap.size Y u1) := on SD.out b5
    clear b5
    refine hK.out _ _ SD.out (fun _ => ?_)
    clear hK K
    refine wpAnyH_take (i := 3) (v := (.int .i64 C)) rfl (by kernel_rfl) (by kernel_rfl) (by kernel_rfl) (fun _ _ _ h => h) (Or.inl ⟨by rfl, fun w' hs => by have hf := field_memR0; go_simp⟩) SD.out ?_
    change wpAnyH _ _ _ _ _ _ _ (Act.put _ (some 42) _) _
    simp only [Act.put, List.setIfInBounds_toArray, List.set_cons_zero, List.set_cons_succ]
    refine wpAnyH_take (i := 6) (v := (.bool true)) rfl (by kernel_rfl) (by kernel_rfl) (by kernel_rfl) (fun _ _ _ h => h) (Or.inl ⟨by rfl, fun w' hs => by first | (go_simp; done) | (go_simp; simp)⟩) SD.out ?_
    change wpAnyH _ _ _ _ _ _ _ (Act.put _ (some 45) _) _
    simp only [Act.put, List.setIfInBounds_toArray, List.set_cons_zero, List.set_cons_succ]
    refine wpAnyH_take (i := 7) (v := (.bool true)) rfl (by kernel_rfl) (by kernel_rfl) (by kernel_rfl) (fun _ _ _ h => h) (Or.inl ⟨by rfl, fun w' hs => by go_simp⟩) SD.out ?_
    change wpAnyH _ _ _ _ _ _ _ (Act.put _ (some 2) _) _
    simp only [Act.put, List.setIfInBounds_toArray, List.set_cons_zero, List.set_cons_succ]
    refine wpAnyH_done (by kernel_rfl) ?_ _
    go_wp2_with fail
    go_ret
    exact ⟨rfl, on B0.out (on BU.out SD.out)⟩
  case pos =>
    subst hf
    have SN : sn = P.own.length := by rw [← VS.out]; unfold mapsN; rw [if_pos VF.out]
    have SNN : Hid (sn = P.own.length) := SN
    have MSF := i_mapsSafe _ _ _ _ _ _ _ _ _ _ _ _ P X.heap.size (.slice sa sn sc) Y (HP.out.stay BY.out) (by rw [← SN]; exact SPX.out) (cell_keep BY.out GE.out) VF.out
    clear SN
    go_wp2_with fail
    clear y0 y1 q0 q1 q2 q3
    refine MSF.mono ?_
    rintro e U ⟨rfl, b4⟩
    have BU0 : Hid (Below Y.heap.size Y U) := b4
    clear b4 MSF
    by_cases hc : C = 0
    case neg =>
      go_upto_region 8 with fail
      have hc2 : (C != 0) = true := by simp [hc]
      have KTu : Hid (Bk U t #[.int .i64 C, .slice ma mn mc] 34) := KTY.out.keep BU0.out
      have KPu : Hid (Bk U p #[.slice a0 n0 c0, .slice a1 n1 c1, .slice a2 n2 c2, .slice a3 n3 c3] 29) := KPY.out.keep BU0.out
      have t0 := KTu.out.cell (i := 0) rfl
      go_upto_region 9 with fail
      clear t0
      have BU : Hid (Below W.heap.size W U) := on BY.out BU0.out
      have SD : Hid (Below U.heap.size U U.drew) := (Below.refl _ _).drew
      refine wp_region_held (S := fun w' => Below U.heap.size U w') (by kernel_rfl) ?_
      change wpAnyH _ _ _ _ _ _ _ _ (World.drew _)
      generalize U.drew = u0 at *
      refine wpAnyH_take (i := 0) (v := (.agg #[.slice a0 n0 c0, .slice a1 n1 c1, .slice a2 n2 c2, .slice a3 n3 c3])) rfl (by kernel_rfl) (by kernel_rfl) (by kernel_rfl) (fun _ _ _ h => h) (Or.inl ⟨by rfl, fun w' hs => by have hp := KPu.out.keep hs; have y0 := hp.cell (i := 0) rfl; have y1 := hp.cell (i := 1) rfl; have y2 := hp.cell (i := 2) rfl; have y3 := hp.cell (i := 3) rfl; go_simp⟩) SD.out ?_
      change wpAnyH _ _ _ _ _ _ _ (Act.put _ (some 39) _) _
      simp only [Act.put, List.setIfInBounds_toArray, List.set_cons_zero, List.set_cons_succ]
      refine wpAnyH_take (i := 1) (v := (.slice ia ni ic)) rfl (by kernel_rfl) (by kernel_rfl) (by kernel_rfl) (fun _ _ _ h => h) (Or.inl ⟨by rfl, fun w' hs => by go_simp⟩) SD.out ?_
      change wpAnyH _ _ _ _ _ _ _ (Act.put _ (some 40) _) _
      simp only [Act.put, List.setIfInBounds_toArray, List.set_cons_zero, List.set_cons_succ]
      refine wpAnyH_take (i := 4) (v := (.pointer (some ⟨t, 0, none⟩))) rfl (by kernel_rfl) (by kernel_rfl) (by kernel_rfl) (fun _ _ _ h => h) (Or.inl ⟨by rfl, fun w' hs => by go_simp⟩) SD.out ?_
      change wpAnyH _ _ _ _ _ _ _ (Act.put _ (some 43) _) _
      simp only [Act.put, List.setIfInBounds_toArray, List.set_cons_zero, List.set_cons_succ]
      refine wpAnyH_take (i := 5) (v := (.int .i64 C)) rfl (by kernel_rfl) (by kernel_rfl) (by kernel_rfl) (fun _ _ _ h => h) (Or.inl ⟨by rfl, fun w' hs => by have hp := KTu.out.keep hs; have y0 := hp.cell (i := 0) rfl; have y1 := hp.cell (i := 1) rfl; go_simp⟩) SD.out ?_
      change wpAnyH _ _ _ _ _ _ _ (Act.put _ (some 44) _) _
      simp only [Act.put, List.setIfInBounds_toArray, List.set_cons_zero, List.set_cons_succ]
      refine wpAnyH_ready (rs := [2]) (by kernel_rfl) (by simp) ?_
      refine AllReadyH.cons rfl (fun K hK => ?_) AllReadyH.nil
      rw [if_pos (by rfl)]
      go_simp
      refine (s_load _ _ _ _ _ _ _ _ _ _ _ _ P _ _ _ iss _ (HP.out.stay (on BU.out SD.out)) (IM.out.stay (on BU.out SD.out))).mono ?_
      rintro e u1 ⟨v5, rfl, -, b5⟩
      rw [VC.out]
      replace SD : Hid (Below U.heap.size U u1) := on SD.out b5
      clear b5
      refine hK.out _ _ SD.out (fun _ => ?_)
      clear hK K
      refine wpAnyH_take (i := 3) (v := (.int .i64 C)) rfl (by kernel_rfl) (by kernel_rfl) (by kernel_rfl) (fun _ _ _ h => h) (Or.inl ⟨by rfl, fun w' hs => by have hf := field_memR0; go_simp⟩) SD.out ?_
      change wpAnyH _ _ _ _ _ _ _ (Act.put _ (some 42) _) _
      simp only [Act.put, List.setIfInBounds_toArray, List.set_cons_zero, List.set_cons_succ]
      refine wpAnyH_take (i := 6) (v := (.bool true)) rfl (by kernel_rfl) (by kernel_rfl) (by kernel_rfl) (fun _ _ _ h => h) (Or.inl ⟨by rfl, fun w' hs => by first | (go_simp; done) | (go_simp; simp)⟩) SD.out ?_
      change wpAnyH _ _ _ _ _ _ _ (Act.put _ (some 45) _) _
      simp only [Act.put, List.setIfInBounds_toArray, List.set_cons_zero, List.set_cons_succ]
      refine wpAnyH_take (i := 7) (v := (.bool true)) rfl (by kernel_rfl) (by kernel_rfl) (by kernel_rfl) (fun _ _ _ h => h) (Or.inl ⟨by rfl, fun w' hs => by go_simp⟩) SD.out ?_
      change wpAnyH _ _ _ _ _ _ _ (Act.put _ (some 2) _) _
      simp only [Act.put, List.setIfInBounds_toArray, List.set_cons_zero, List.set_cons_succ]
      refine wpAnyH_done (by kernel_rfl) ?_ _
      go_wp2_with fail
      go_ret
      exact ⟨rfl, on B0.out (on BU.out SD.out)⟩
    case pos =>
      subst hc
      have LD : Hid (Ldm P iss M) := LDF.out rfl
      have e1 : mn = 192 := by rw [← MN.out]; exact LD.out.m192
      have e2 : n0 = ni := by rw [← HN.out.1, ← HN.out.2.1]; exact LD.out.len.symm
      have e3 : n0 = sn := by rw [SNN.out]; exact HN.out.1.symm
      subst e1 e2 e3
      obtain ⟨gm, rfl⟩ := hmg (by decide)
      obtain ⟨B, C, sp0⟩ := SPX.out
      have BUW : Below W.heap.size W U := on BY.out BU0.out
      have KPu : Hid (Bk U p #[.slice a0 n0 c0, .slice a1 n1 c1, .slice a2 n2 c2, .slice a3 n3 c3] 29) := KPY.out.keep BU0.out
      have KTu : Hid (Bk U t #[.int .i64 0, .slice (some ⟨gm, 0, none⟩) 192 mc] 34) := KTY.out.keep BU0.out
      have KMu : Hid (Bk U m #[.int .i64 0, .slice sa n0 sc] 38) := KM.out.keep BU0.out
      have MMu : Hid (Nums U W.heap.size (.slice (some ⟨gm, 0, none⟩) 192 mc) M) := MMY.out.keep BU0.out
      have SPu : Hid (Sp U X.heap.size (.slice sa n0 sc) n0 B C (mapsL P)) := sp0.keep BU0.out
      have IMu : Hid (IsS2 U ia n0 ic iss) := IM.out.stay BUW
      have HPu : Hid (Pl U a0 n0 c0 a1 n1 c1 a2 n2 c2 a3 n3 c3 P) := HP.out.stay BUW
      have GEu : Hid (U.cell? ⟨0, 0, none⟩ = some (.iface 157 (.agg #[.pointer (some ⟨1, 91, none⟩)]))) := cell_keep BUW GE.out
      have BU : Hid (Below w.heap.size w U) := on B0.out BUW
      have HM : Hid (M.length = 192) := LD.out.m192
      have HL0 : Hid (P.own.length = n0 ∧ iss.length = n0 ∧ n0 ≤ 5) := HN.out
      have hn5 : (n0 : Int) ≤ 5 := by have := HL0.out; omega
      have t0 := KTu.out.cell (i := 0) rfl
      clear sp0 BUW LDF MN VS SNN KPY KTY KM MMY SPX IM HP GE BY BU0 VC VF HN B0 hmg
      go_wp2_with fail
      clear t0
      go_loopw [7, 8, 9, 10] (fun c _ _ _ wr => ∃ j : Nat, j ≤ n0 ∧ c = .int .i64 j ∧ Below U.heap.size U wr) (fun c _ _ _ _ => n0 - (intOf c).toNat)
      case atStart => exact ⟨0, Nat.zero_le _, rfl, Below.refl _ _⟩
      case round =>
        obtain ⟨j, hj, rfl, hB⟩ := hrel
        have HB : Hid (Below U.heap.size U wr) := hB
        clear hB
        by_cases hlt : j < n0
        · have hI : (j : Int) < (n0 : Int) := by omega
          have HL : Hid (j < n0) := hlt
          have t1 := (KTu.out.keep HB.out).cell (i := 1) rfl
          have q0 := (KPu.out.keep HB.out).cell (i := 0) rfl
          have q1 := (KPu.out.keep HB.out).cell (i := 1) rfl
          have q2 := (KPu.out.keep HB.out).cell (i := 2) rfl
          have q3 := (KPu.out.keep HB.out).cell (i := 3) rfl
          clear hlt hj
          go_wp2_with fail
          clear t1 q0 q1 q2 q3
          obtain ⟨lw0, lw1, lw2⟩ := ld_words LD.out j (by have := HL.out; have := HL0.out; omega)
          have LW : Hid (∀ i, i < (iss.getD j []).length → (wordsZ P M (j : Int)).getD i 0 = wd ((iss.getD j []).getD i 0)) := lw2
          refine (i_wordsOf _ _ _ _ _ _ _ _ _ _ _ _ P _ _ _ gm M (j : Int) _ (HPu.out.stay HB.out) (MMu.out.keep HB.out) (cell_keep HB.out GEu.out)).mono ?_
          rintro e w5 ⟨_, rfl, nw, b5⟩
          rw [lw0]
          obtain ⟨wa, wc, ew, _, _, hwg⟩ := nw.shape
          obtain ⟨wn, hwn⟩ : ∃ n, (wordsZ P M (j : Int)).length = n := ⟨_, rfl⟩
          rw [hwn] at ew hwg lw1
          subst ew
          have WN : Hid ((wordsZ P M (j : Int)).length = wn ∧ wn = (P.own.getD j []).length * 8) := ⟨hwn, lw1⟩
          obtain ⟨q8, hq8⟩ : ∃ p, w5.heap.size = p := ⟨_, rfl⟩
          generalize hX8 : w5.alloc (.cells #[.int .i64 0, .slice wa wn wc] 42) = X8
          have A5 : Below w5.heap.size w5 X8 := by rw [← hX8]; exact al (Below.refl _ _) _
          have K8 : Hid (Bk X8 q8 #[.int .i64 0, .slice wa wn wc] 42) := by show Bk _ _ _ _; rw [← hX8, ← hq8]; exact Bk.new _ _ _
          have N8 : Hid (Nums X8 wr.heap.size (.slice wa wn wc) (wordsZ P M (j : Int))) := nw.keep A5
          have B8 : Hid (Below U.heap.size U X8) := on (on HB.out b5) A5
          clear lw0 lw1 lw2 nw b5 A5 hwn
          go_upto_region 14 with fail
          try rw [hX8]
          try rw [hq8]
          clear hX8 hq8
          obtain ⟨xa, ob, ol, oc, ea, ko, ho⟩ := HPu.out.own.at j HL.out
          subst ea
          have OL : Hid (ol = (P.own.getD j []).length ∧ ol ≤ 5) := ⟨ho.len, by rw [ho.len]; exact (pf_own P LD.out.pf j (by have := HL.out; have := HL0.out; omega)).2.1⟩
          have KO : Hid (U.cell? (xa.add j) = some (.slice ob ol oc)) := ko
          have hw8 : IntKind.i64.wrap (8 * (ol : Int)) = 8 * (ol : Int) := by rw [IntKind.wrap_i64]; have := OL.out; omega
          have hwe : (wn : Int) = 8 * (ol : Int) := by have := OL.out; have := WN.out; omega
          have hne : ((wn : Int) != 8 * (ol : Int)) = false := by rw [hwe]; simp
          clear ko ho
          have SD : Hid (Below X8.heap.size X8 X8.drew) := (Below.refl _ _).drew
          refine wp_region_held (S := fun w' => Below X8.heap.size X8 w') (by kernel_rfl) ?_
          change wpAnyH _ _ _ _ _ _ _ _ (World.drew _)
          generalize X8.drew = u0 at *
          refine wpAnyH_take (i := 0) (v := (.pointer (some ⟨q8, 0, none⟩))) rfl (by kernel_rfl) (by kernel_rfl) (by kernel_rfl) (fun _ _ _ h => h) (Or.inl ⟨by rfl, fun w' hs => by go_simp⟩) SD.out ?_
          change wpAnyH _ _ _ _ _ _ _ (Act.put _ (some 57) _) _
          simp only [Act.put, List.setIfInBounds_toArray, List.set_cons_zero, List.set_cons_succ]
          refine wpAnyH_take (i := 1) (v := (.int .i64 (0 : Int))) rfl (by kernel_rfl) (by kernel_rfl) (by kernel_rfl) (fun _ _ _ h => h) (Or.inl ⟨by rfl, fun w' hs => by have y := (K8.out.keep hs).cell (i := 0) rfl; go_simp⟩) SD.out ?_
          change wpAnyH _ _ _ _ _ _ _ (Act.put _ (some 58) _) _
          simp only [Act.put, List.setIfInBounds_toArray, List.set_cons_zero, List.set_cons_succ]
          refine wpAnyH_take (i := 2) (v := (.bool false)) rfl (by kernel_rfl) (by kernel_rfl) (by kernel_rfl) (fun _ _ _ h => h) (Or.inl ⟨by rfl, fun w' hs => by go_simp⟩) SD.out ?_
          change wpAnyH _ _ _ _ _ _ _ (Act.put _ (some 59) _) _
          simp only [Act.put, List.setIfInBounds_toArray, List.set_cons_zero, List.set_cons_succ]
          refine wpAnyH_take (i := 3) (v := (.bool false)) rfl (by kernel_rfl) (by kernel_rfl) (by kernel_rfl) (fun _ _ _ h => h) (Or.inl ⟨by rfl, fun w' hs => by go_simp⟩) SD.out ?_
          change wpAnyH _ _ _ _ _ _ _ (Act.put _ (some 60) _) _
          simp only [Act.put, List.setIfInBounds_toArray, List.set_cons_zero, List.set_cons_succ]
          refine wpAnyH_take (i := 4) (v := (.pointer (some ⟨q8, 1, none⟩))) rfl (by kernel_rfl) (by kernel_rfl) (by kernel_rfl) (fun _ _ _ h => h) (Or.inl ⟨by rfl, fun w' hs => by go_simp⟩) SD.out ?_
          change wpAnyH _ _ _ _ _ _ _ (Act.put _ (some 61) _) _
          simp only [Act.put, List.setIfInBounds_toArray, List.set_cons_zero, List.set_cons_succ]
          refine wpAnyH_take (i := 5) (v := (.slice wa wn wc)) rfl (by kernel_rfl) (by kernel_rfl) (by kernel_rfl) (fun _ _ _ h => h) (Or.inl ⟨by rfl, fun w' hs => by have y := (K8.out.keep hs).cell (i := 1) rfl; go_simp⟩) SD.out ?_
          change wpAnyH _ _ _ _ _ _ _ (Act.put _ (some 62) _) _
          simp only [Act.put, List.setIfInBounds_toArray, List.set_cons_zero, List.set_cons_succ]
          refine wpAnyH_take (i := 6) (v := (.int .i64 (wn : Int))) rfl (by kernel_rfl) (by kernel_rfl) (by kernel_rfl) (fun _ _ _ h => h) (Or.inl ⟨by rfl, fun w' hs => by go_simp⟩) SD.out ?_
          change wpAnyH _ _ _ _ _ _ _ (Act.put _ (some 63) _) _
          simp only [Act.put, List.setIfInBounds_toArray, List.set_cons_zero, List.set_cons_succ]
          refine wpAnyH_take (i := 7) (v := (.pointer (some ⟨p, 0, none⟩))) rfl (by kernel_rfl) (by kernel_rfl) (by kernel_rfl) (fun _ _ _ h => h) (Or.inl ⟨by rfl, fun w' hs => by go_simp⟩) SD.out ?_
          change wpAnyH _ _ _ _ _ _ _ (Act.put _ (some 64) _) _
          simp only [Act.put, List.setIfInBounds_toArray, List.set_cons_zero, List.set_cons_succ]
          refine wpAnyH_take (i := 8) (v := (.slice (some xa) n0 c0)) rfl (by kernel_rfl) (by kernel_rfl) (by kernel_rfl) (fun _ _ _ h => h) (Or.inl ⟨by rfl, fun w' hs => by have y := ((KPu.out.keep B8.out).keep hs).cell (i := 0) rfl; go_simp⟩) SD.out ?_
          change wpAnyH _ _ _ _ _ _ _ (Act.put _ (some 65) _) _
          simp only [Act.put, List.setIfInBounds_toArray, List.set_cons_zero, List.set_cons_succ]
          refine wpAnyH_take (i := 9) (v := (.int .i64 (j : Int))) rfl (by kernel_rfl) (by kernel_rfl) (by kernel_rfl) (fun _ _ _ h => h) (Or.inl ⟨by rfl, fun w' hs => by go_simp⟩) SD.out ?_
          change wpAnyH _ _ _ _ _ _ _ (Act.put _ (some 66) _) _
          simp only [Act.put, List.setIfInBounds_toArray, List.set_cons_zero, List.set_cons_succ]
          refine wpAnyH_take (i := 10) (v := (.pointer (some (xa.add j)))) rfl (by kernel_rfl) (by kernel_rfl) (by kernel_rfl) (fun _ _ _ h => h) (Or.inl ⟨by rfl, fun w' hs => by have l1 := HL.out; go_simp⟩) SD.out ?_
          change wpAnyH _ _ _ _ _ _ _ (Act.put _ (some 67) _) _
          simp only [Act.put, List.setIfInBounds_toArray, List.set_cons_zero, List.set_cons_succ]
          refine wpAnyH_take (i := 11) (v := (.slice ob ol oc)) rfl (by kernel_rfl) (by kernel_rfl) (by kernel_rfl) (fun _ _ _ h => h) (Or.inl ⟨by rfl, fun w' hs => by have y := cell_keep (on B8.out hs) KO.out; go_simp⟩) SD.out ?_
          change wpAnyH _ _ _ _ _ _ _ (Act.put _ (some 68) _) _
          simp only [Act.put, List.setIfInBounds_toArray, List.set_cons_zero, List.set_cons_succ]
          refine wpAnyH_take (i := 12) (v := (.int .i64 (ol : Int))) rfl (by kernel_rfl) (by kernel_rfl) (by kernel_rfl) (fun _ _ _ h => h) (Or.inl ⟨by rfl, fun w' hs => by go_simp⟩) SD.out ?_
          change wpAnyH _ _ _ _ _ _ _ (Act.put _ (some 69) _) _
          simp only [Act.put, List.setIfInBounds_toArray, List.set_cons_zero, List.set_cons_succ]
          refine wpAnyH_take (i := 13) (v := (.int .i64 (8 * (ol : Int) : Int))) rfl (by kernel_rfl) (by kernel_rfl) (by kernel_rfl) (fun _ _ _ h => h) (Or.inl ⟨by rfl, fun w' hs => by first | (go_simp; done) | (go_simp; exact hw8)⟩) SD.out ?_
          change wpAnyH _ _ _ _ _ _ _ (Act.put _ (some 70) _) _
          simp only [Act.put, List.setIfInBounds_toArray, List.set_cons_zero, List.set_cons_succ]
          refine wpAnyH_take (i := 14) (v := (.bool false)) rfl (by kernel_rfl) (by kernel_rfl) (by kernel_rfl) (fun _ _ _ h => h) (Or.inl ⟨by rfl, fun w' hs => by first | (go_simp; done) | (go_simp; exact hne) | (go_simp; simp [hwe])⟩) SD.out ?_
          change wpAnyH _ _ _ _ _ _ _ (Act.put _ (some 71) _) _
          simp only [Act.put, List.setIfInBounds_toArray, List.set_cons_zero, List.set_cons_succ]
          refine wpAnyH_take (i := 15) (v := (.bool false)) rfl (by kernel_rfl) (by kernel_rfl) (by kernel_rfl) (fun _ _ _ h => h) (Or.inl ⟨by rfl, fun w' hs => by go_simp⟩) SD.out ?_
          change wpAnyH _ _ _ _ _ _ _ (Act.put _ (some 72) _) _
          simp only [Act.put, List.setIfInBounds_toArray, List.set_cons_zero, List.set_cons_succ]
          refine wpAnyH_done (by kernel_rfl) ?_ _
          have KQ : Hid (Bk u0 q8 #[.int .i64 0, .slice wa wn wc] 42) := K8.out.keep SD.out
          have NQ : Hid (Nums u0 wr.heap.size (.slice wa wn wc) (wordsZ P M (j : Int))) := N8.out.keep SD.out
          have BQ : Hid (Below U.heap.size U u0) := on B8.out SD.out
          clear SD B8 N8 K8 KO hw8 hwe hne HB
          obtain ⟨xi, ib, il, icc, ei, ki, hi⟩ := IMu.out.at j HL.out
          subst ei
          have KI : Hid (U.cell? (xi.add j) = some (.slice ib il icc)) := ki
          have NI : Hid (IsNs U ib il icc (iss.getD j []) ∧ il = (iss.getD j []).length) := ⟨hi, hi.len⟩
          have IL : Hid (il ≤ ol * 8) := by
            show _ ≤ _
            have h1 := LD.out.size j (by have := HL.out; have := HL0.out; omega)
            have h2 := OL.out.1
            have h3 := NI.out.2
            omega
          have hilI : (il : Int) ≤ 40 := by have := IL.out; have := OL.out; omega
          clear ki hi
          go_wp2_with fail
          go_loopw [9, 10] (fun c _ wr => ∃ k : Nat, k ≤ il ∧ c = .int .i64 k ∧ Below u0.heap.size u0 wr) (fun c _ _ => il - (intOf c).toNat)
          case atStart => exact ⟨0, Nat.zero_le _, rfl, Below.refl _ _⟩
          case round =>
            obtain ⟨k, hk, rfl, hB2⟩ := hrel
            have HB2 : Hid (Below u0.heap.size u0 wr) := hB2
            have BR : Hid (Below U.heap.size U wr) := on BQ.out hB2
            have i0 := cell_keep BR.out KI.out
            have l1 := HL.out
            clear hB2
            by_cases hkt : k < il
            · have hKI : (k : Int) < (il : Int) := by omega
              have HK : Hid (k < il) := hkt
              have PF := LD.out.pf
              have hoj : j < P.own.length := by have := HL0.out; omega
              have hko : k < (P.own.getD j []).length * 8 := by have := IL.out; have := OL.out; omega
              obtain ⟨mw0, mw1⟩ := map_walk PF j k hoj hko
              have LWD := LD.out.word j k (by have := HL0.out; omega) (by have := NI.out.2; omega)
              have LWW := LW.out k (by have := NI.out.2; omega)
              have PB : posL (P.own.getD j []) k < 192 := by have := pos_fact PF hoj hko; unfold posL; omega
              obtain ⟨pos, hpos⟩ : ∃ n, posL (P.own.getD j []) k = n := ⟨_, rfl⟩
              rw [hpos] at mw1 LWD PB
              obtain ⟨yi, hyi, hyc⟩ := laynsGet NI.out.1 k hkt
              subst hyi
              obtain ⟨xv, hxv⟩ : ∃ x, (iss.getD j []).getD k 0 = x := ⟨_, rfl⟩
              rw [hxv] at hyc LWD LWW
              have YC : Hid (∀ w', Below U.heap.size U w' → w'.cell? (yi.add k) = some (.int .i64 xv)) := hyc
              obtain ⟨sg, hsg2⟩ := hsg (by omega)
              subst hsg2
              obtain ⟨wg, hwg2⟩ := hwg (by have := WN.out.2; omega)
              subst hwg2
              have MC : Hid (∀ w', Below U.heap.size U w' → w'.cell? ⟨gm, pos, none⟩ = some (.int .i64 (wd xv))) := fun w' b => by
                have := (MMu.out.keep b).cell HM.out.symm pos PB
                rw [LWD] at this
                exact this
              have WC : Hid (∀ w', Below u0.heap.size u0 w' → w'.cell? ⟨wg, k, none⟩ = some (.int .i64 (wd xv))) := fun w' b => by
                have := (NQ.out.keep b).cell WN.out.1.symm k (by have := WN.out.2; omega)
                rw [LWW] at this
                exact this
              have PBH : Hid (pos < 192 ∧ k < wn) := ⟨PB, by have := WN.out.2; omega⟩
              have m1 := (KMu.out.keep BR.out).cell (i := 1) rfl
              have s1 := (SPu.out.keep BR.out).cell j HL.out
              clear hkt hk PF hoj hko LWD LWW PB hpos hyc hxv
              go_wp2_with fail
              clear i0 m1 s1 l1
              refine (impl_walkPages _ (mapsL P j) (k : Int) 4 X.heap.size _ ((SPu.out.keep BR.out).inn j HL.out) (by have := SPu.out.len8 j HL.out; omega)).mono ?_
              rintro e w6 ⟨rfl, b6⟩
              rw [mw0, mw1]
              obtain ⟨qa, hqa⟩ : ∃ p, w6.heap.size = p := ⟨_, rfl⟩
              generalize hXA : w6.alloc (.cells #[.int .i64 0, .int .i64 (pos : Int)] 45) = XA
              have A6 : Below w6.heap.size w6 XA := by rw [← hXA]; exact al (Below.refl _ _) _
              have KA : Hid (Bk XA qa #[.int .i64 0, .int .i64 (pos : Int)] 45) := by show Bk _ _ _ _; rw [← hXA, ← hqa]; exact Bk.new _ _ _
              have BA : Hid (Below u0.heap.size u0 XA) := on (on HB2.out b6) A6
              have BAU : Hid (Below U.heap.size U XA) := on BQ.out BA.out
              clear b6 A6 mw0 mw1
              go_upto_region 20 with fail
              try rw [hXA]
              try rw [hqa]
              clear hXA hqa
              have SD : Hid (Below XA.heap.size XA XA.drew) := (Below.refl _ _).drew
              refine wp_region_held (S := fun w' => Below XA.heap.size XA w') (by kernel_rfl) ?_
              change wpAnyH _ _ _ _ _ _ _ _ (World.drew _)
              generalize XA.drew = u0 at *
              refine wpAnyH_take (i := 0) (v := (.pointer (some ⟨qa, 0, none⟩))) rfl (by kernel_rfl) (by kernel_rfl) (by kernel_rfl) (fun _ _ _ h => h) (Or.inl ⟨by rfl, fun w' hs => by go_simp⟩) SD.out ?_
              change wpAnyH _ _ _ _ _ _ _ (Act.put _ (some 89) _) _
              simp only [Act.put, List.setIfInBounds_toArray, List.set_cons_zero, List.set_cons_succ]
              refine wpAnyH_take (i := 1) (v := (.int .i64 (0 : Int))) rfl (by kernel_rfl) (by kernel_rfl) (by kernel_rfl) (fun _ _ _ h => h) (Or.inl ⟨by rfl, fun w' hs => by have y := (KA.out.keep hs).cell (i := 0) rfl; go_simp⟩) SD.out ?_
              change wpAnyH _ _ _ _ _ _ _ (Act.put _ (some 90) _) _
              simp only [Act.put, List.setIfInBounds_toArray, List.set_cons_zero, List.set_cons_succ]
              refine wpAnyH_take (i := 2) (v := (.bool false)) rfl (by kernel_rfl) (by kernel_rfl) (by kernel_rfl) (fun _ _ _ h => h) (Or.inl ⟨by rfl, fun w' hs => by go_simp⟩) SD.out ?_
              change wpAnyH _ _ _ _ _ _ _ (Act.put _ (some 91) _) _
              simp only [Act.put, List.setIfInBounds_toArray, List.set_cons_zero, List.set_cons_succ]
              refine wpAnyH_take (i := 3) (v := (.bool false)) rfl (by kernel_rfl) (by kernel_rfl) (by kernel_rfl) (fun _ _ _ h => h) (Or.inl ⟨by rfl, fun w' hs => by go_simp⟩) SD.out ?_
              change wpAnyH _ _ _ _ _ _ _ (Act.put _ (some 92) _) _
              simp only [Act.put, List.setIfInBounds_toArray, List.set_cons_zero, List.set_cons_succ]
              refine wpAnyH_take (i := 4) (v := (.pointer (some ⟨t, 1, none⟩))) rfl (by kernel_rfl) (by kernel_rfl) (by kernel_rfl) (fun _ _ _ h => h) (Or.inl ⟨by rfl, fun w' hs => by go_simp⟩) SD.out ?_
              change wpAnyH _ _ _ _ _ _ _ (Act.put _ (some 93) _) _
              simp only [Act.put, List.setIfInBounds_toArray, List.set_cons_zero, List.set_cons_succ]
              refine wpAnyH_take (i := 5) (v := (.slice (some ⟨gm, 0, none⟩) 192 mc)) rfl (by kernel_rfl) (by kernel_rfl) (by kernel_rfl) (fun _ _ _ h => h) (Or.inl ⟨by rfl, fun w' hs => by have y := (KTu.out.keep (on BAU.out hs)).cell (i := 1) rfl; go_simp⟩) SD.out ?_
              change wpAnyH _ _ _ _ _ _ _ (Act.put _ (some 94) _) _
              simp only [Act.put, List.setIfInBounds_toArray, List.set_cons_zero, List.set_cons_succ]
              refine wpAnyH_take (i := 6) (v := (.pointer (some ⟨qa, 1, none⟩))) rfl (by kernel_rfl) (by kernel_rfl) (by kernel_rfl) (fun _ _ _ h => h) (Or.inl ⟨by rfl, fun w' hs => by go_simp⟩) SD.out ?_
              change wpAnyH _ _ _ _ _ _ _ (Act.put _ (some 95) _) _
              simp only [Act.put, List.setIfInBounds_toArray, List.set_cons_zero, List.set_cons_succ]
              refine wpAnyH_take (i := 7) (v := (.int .i64 (pos : Int))) rfl (by kernel_rfl) (by kernel_rfl) (by kernel_rfl) (fun _ _ _ h => h) (Or.inl ⟨by rfl, fun w' hs => by have y := (KA.out.keep hs).cell (i := 1) rfl; go_simp⟩) SD.out ?_
              change wpAnyH _ _ _ _ _ _ _ (Act.put _ (some 96) _) _
              simp only [Act.put, List.setIfInBounds_toArray, List.set_cons_zero, List.set_cons_succ]
              refine wpAnyH_take (i := 8) (v := (.pointer (some ⟨gm, pos, none⟩))) rfl (by kernel_rfl) (by kernel_rfl) (by kernel_rfl) (fun _ _ _ h => h) (Or.inl ⟨by rfl, fun w' hs => by have l1 := PBH.out.1; have l2 : ¬ (192 : Int) ≤ (pos : Int) := (by omega); first | (go_simp; done) | (go_simp; intro l3; exact absurd l3 l2) | (go_simp; omega)⟩) SD.out ?_
              change wpAnyH _ _ _ _ _ _ _ (Act.put _ (some 97) _) _
              simp only [Act.put, List.setIfInBounds_toArray, List.set_cons_zero, List.set_cons_succ]
              refine wpAnyH_take (i := 9) (v := (.int .i64 (wd xv))) rfl (by kernel_rfl) (by kernel_rfl) (by kernel_rfl) (fun _ _ _ h => h) (Or.inl ⟨by rfl, fun w' hs => by have y := MC.out _ (on BAU.out hs); go_simp⟩) SD.out ?_
              change wpAnyH _ _ _ _ _ _ _ (Act.put _ (some 98) _) _
              simp only [Act.put, List.setIfInBounds_toArray, List.set_cons_zero, List.set_cons_succ]
              refine wpAnyH_take (i := 10) (v := (.slice (some xi) n0 ic)) rfl (by kernel_rfl) (by kernel_rfl) (by kernel_rfl) (fun _ _ _ h => h) (Or.inl ⟨by rfl, fun w' hs => by go_simp⟩) SD.out ?_
              change wpAnyH _ _ _ _ _ _ _ (Act.put _ (some 99) _) _
              simp only [Act.put, List.setIfInBounds_toArray, List.set_cons_zero, List.set_cons_succ]
              refine wpAnyH_take (i := 11) (v := (.int .i64 (j : Int))) rfl (by kernel_rfl) (by kernel_rfl) (by kernel_rfl) (fun _ _ _ h => h) (Or.inl ⟨by rfl, fun w' hs => by go_simp⟩) SD.out ?_
              change wpAnyH _ _ _ _ _ _ _ (Act.put _ (some 100) _) _
              simp only [Act.put, List.setIfInBounds_toArray, List.set_cons_zero, List.set_cons_succ]
              refine wpAnyH_take (i := 12) (v := (.pointer (some (xi.add j)))) rfl (by kernel_rfl) (by kernel_rfl) (by kernel_rfl) (fun _ _ _ h => h) (Or.inl ⟨by rfl, fun w' hs => by have l1 := HL.out; go_simp⟩) SD.out ?_
              change wpAnyH _ _ _ _ _ _ _ (Act.put _ (some 101) _) _
              simp only [Act.put, List.setIfInBounds_toArray, List.set_cons_zero, List.set_cons_succ]
              refine wpAnyH_take (i := 13) (v := (.slice (some yi) il icc)) rfl (by kernel_rfl) (by kernel_rfl) (by kernel_rfl) (fun _ _ _ h => h) (Or.inl ⟨by rfl, fun w' hs => by have y := cell_keep (on BAU.out hs) KI.out; go_simp⟩) SD.out ?_
              change wpAnyH _ _ _ _ _ _ _ (Act.put _ (some 102) _) _
              simp only [Act.put, List.setIfInBounds_toArray, List.set_cons_zero, List.set_cons_succ]
              refine wpAnyH_take (i := 14) (v := (.int .i64 (k : Int))) rfl (by kernel_rfl) (by kernel_rfl) (by kernel_rfl) (fun _ _ _ h => h) (Or.inl ⟨by rfl, fun w' hs => by go_simp⟩) SD.out ?_
              change wpAnyH _ _ _ _ _ _ _ (Act.put _ (some 103) _) _
              simp only [Act.put, List.setIfInBounds_toArray, List.set_cons_zero, List.set_cons_succ]
              refine wpAnyH_take (i := 15) (v := (.pointer (some (yi.add k)))) rfl (by kernel_rfl) (by kernel_rfl) (by kernel_rfl) (fun _ _ _ h => h) (Or.inl ⟨by rfl, fun w' hs => by have l1 := HK.out; go_simp⟩) SD.out ?_
              change wpAnyH _ _ _ _ _ _ _ (Act.put _ (some 104) _) _
              simp only [Act.put, List.setIfInBounds_toArray, List.set_cons_zero, List.set_cons_succ]
              refine wpAnyH_take (i := 16) (v := (.int .i64 xv)) rfl (by kernel_rfl) (by kernel_rfl) (by kernel_rfl) (fun _ _ _ h => h) (Or.inl ⟨by rfl, fun w' hs => by have y := YC.out _ (on BAU.out hs); go_simp⟩) SD.out ?_
              change wpAnyH _ _ _ _ _ _ _ (Act.put _ (some 105) _) _
              simp only [Act.put, List.setIfInBounds_toArray, List.set_cons_zero, List.set_cons_succ]
              refine wpAnyH_ready (rs := [17]) (by kernel_rfl) (by simp) ?_
              refine AllReadyH.cons rfl (fun K hK => ?_) AllReadyH.nil
              rw [if_pos (by rfl)]
              go_simp
              refine (impl_wrap xv _).mono ?_
              rintro e u1 ⟨rfl, hu1⟩
              subst hu1
              refine hK.out _ _ SD.out (fun _ => ?_)
              clear hK K
              refine wpAnyH_take (i := 18) (v := (.bool false)) rfl (by kernel_rfl) (by kernel_rfl) (by kernel_rfl) (fun _ _ _ h => h) (Or.inl ⟨by rfl, fun w' hs => by first | (go_simp; done) | (go_simp; simp)⟩) SD.out ?_
              change wpAnyH _ _ _ _ _ _ _ (Act.put _ (some 107) _) _
              simp only [Act.put, List.setIfInBounds_toArray, List.set_cons_zero, List.set_cons_succ]
              refine wpAnyH_take (i := 19) (v := (.bool false)) rfl (by kernel_rfl) (by kernel_rfl) (by kernel_rfl) (fun _ _ _ h => h) (Or.inl ⟨by rfl, fun w' hs => by go_simp⟩) SD.out ?_
              change wpAnyH _ _ _ _ _ _ _ (Act.put _ (some 108) _) _
              simp only [Act.put, List.setIfInBounds_toArray, List.set_cons_zero, List.set_cons_succ]
              refine wpAnyH_take (i := 20) (v := (.bool false)) rfl (by kernel_rfl) (by kernel_rfl) (by kernel_rfl) (fun _ _ _ h => h) (Or.inl ⟨by rfl, fun w' hs => by go_simp⟩) SD.out ?_
              change wpAnyH _ _ _ _ _ _ _ (Act.put _ (some 109) _) _
              simp only [Act.put, List.setIfInBounds_toArray, List.set_cons_zero, List.set_cons_succ]
              refine wpAnyH_take (i := 21) (v := (.pointer (some ⟨q8, 1, none⟩))) rfl (by kernel_rfl) (by kernel_rfl) (by kernel_rfl) (fun _ _ _ h => h) (Or.inl ⟨by rfl, fun w' hs => by go_simp⟩) SD.out ?_
              change wpAnyH _ _ _ _ _ _ _ (Act.put _ (some 110) _) _
              simp only [Act.put, List.setIfInBounds_toArray, List.set_cons_zero, List.set_cons_succ]
              refine wpAnyH_take (i := 22) (v := (.slice (some ⟨wg, 0, none⟩) wn wc)) rfl (by kernel_rfl) (by kernel_rfl) (by kernel_rfl) (fun _ _ _ h => h) (Or.inl ⟨by rfl, fun w' hs => by have y := (KQ.out.keep (on BA.out hs)).cell (i := 1) rfl; go_simp⟩) SD.out ?_
              change wpAnyH _ _ _ _ _ _ _ (Act.put _ (some 111) _) _
              simp only [Act.put, List.setIfInBounds_toArray, List.set_cons_zero, List.set_cons_succ]
              refine wpAnyH_take (i := 23) (v := (.int .i64 (k : Int))) rfl (by kernel_rfl) (by kernel_rfl) (by kernel_rfl) (fun _ _ _ h => h) (Or.inl ⟨by rfl, fun w' hs => by go_simp⟩) SD.out ?_
              change wpAnyH _ _ _ _ _ _ _ (Act.put _ (some 112) _) _
              simp only [Act.put, List.setIfInBounds_toArray, List.set_cons_zero, List.set_cons_succ]
              refine wpAnyH_take (i := 24) (v := (.pointer (some ⟨wg, k, none⟩))) rfl (by kernel_rfl) (by kernel_rfl) (by kernel_rfl) (fun _ _ _ h => h) (Or.inl ⟨by rfl, fun w' hs => by have l1 := PBH.out.2; go_simp⟩) SD.out ?_
              change wpAnyH _ _ _ _ _ _ _ (Act.put _ (some 113) _) _
              simp only [Act.put, List.setIfInBounds_toArray, List.set_cons_zero, List.set_cons_succ]
              refine wpAnyH_take (i := 25) (v := (.int .i64 (wd xv))) rfl (by kernel_rfl) (by kernel_rfl) (by kernel_rfl) (fun _ _ _ h => h) (Or.inl ⟨by rfl, fun w' hs => by have y := WC.out _ (on BA.out hs); go_simp⟩) SD.out ?_
              change wpAnyH _ _ _ _ _ _ _ (Act.put _ (some 114) _) _
              simp only [Act.put, List.setIfInBounds_toArray, List.set_cons_zero, List.set_cons_succ]
              refine wpAnyH_take (i := 26) (v := (.slice (some xi) n0 ic)) rfl (by kernel_rfl) (by kernel_rfl) (by kernel_rfl) (fun _ _ _ h => h) (Or.inl ⟨by rfl, fun w' hs => by go_simp⟩) SD.out ?_
              change wpAnyH _ _ _ _ _ _ _ (Act.put _ (some 115) _) _
              simp only [Act.put, List.setIfInBounds_toArray, List.set_cons_zero, List.set_cons_succ]
              refine wpAnyH_take (i := 27) (v := (.int .i64 (j : Int))) rfl (by kernel_rfl) (by kernel_rfl) (by kernel_rfl) (fun _ _ _ h => h) (Or.inl ⟨by rfl, fun w' hs => by go_simp⟩) SD.out ?_
              change wpAnyH _ _ _ _ _ _ _ (Act.put _ (some 116) _) _
              simp only [Act.put, List.setIfInBounds_toArray, List.set_cons_zero, List.set_cons_succ]
              refine wpAnyH_take (i := 28) (v := (.pointer (some (xi.add j)))) rfl (by kernel_rfl) (by kernel_rfl) (by kernel_rfl) (fun _ _ _ h => h) (Or.inl ⟨by rfl, fun w' hs => by have l1 := HL.out; go_simp⟩) SD.out ?_
              change wpAnyH _ _ _ _ _ _ _ (Act.put _ (some 117) _) _
              simp only [Act.put, List.setIfInBounds_toArray, List.set_cons_zero, List.set_cons_succ]
              refine wpAnyH_take (i := 29) (v := (.slice (some yi) il icc)) rfl (by kernel_rfl) (by kernel_rfl) (by kernel_rfl) (fun _ _ _ h => h) (Or.inl ⟨by rfl, fun w' hs => by have y := cell_keep (on BAU.out hs) KI.out; go_simp⟩) SD.out ?_
              change wpAnyH _ _ _ _ _ _ _ (Act.put _ (some 118) _) _
              simp only [Act.put, List.setIfInBounds_toArray, List.set_cons_zero, List.set_cons_succ]
              refine wpAnyH_take (i := 30) (v := (.int .i64 (k : Int))) rfl (by kernel_rfl) (by kernel_rfl) (by kernel_rfl) (fun _ _ _ h => h) (Or.inl ⟨by rfl, fun w' hs => by go_simp⟩) SD.out ?_
              change wpAnyH _ _ _ _ _ _ _ (Act.put _ (some 119) _) _
              simp only [Act.put, List.setIfInBounds_toArray, List.set_cons_zero, List.set_cons_succ]
              refine wpAnyH_take (i := 31) (v := (.pointer (some (yi.add k)))) rfl (by kernel_rfl) (by kernel_rfl) (by kernel_rfl) (fun _ _ _ h => h) (Or.inl ⟨by rfl, fun w' hs => by have l1 := HK.out; go_simp⟩) SD.out ?_
              change wpAnyH _ _ _ _ _ _ _ (Act.put _ (some 120) _) _
              simp only [Act.put, List.setIfInBounds_toArray, List.set_cons_zero, List.set_cons_succ]
              refine wpAnyH_take (i := 32) (v := (.int .i64 xv)) rfl (by kernel_rfl) (by kernel_rfl) (by kernel_rfl) (fun _ _ _ h => h) (Or.inl ⟨by rfl, fun w' hs => by have y := YC.out _ (on BAU.out hs); go_simp⟩) SD.out ?_
              change wpAnyH _ _ _ _ _ _ _ (Act.put _ (some 121) _) _
              simp only [Act.put, List.setIfInBounds_toArray, List.set_cons_zero, List.set_cons_succ]
              refine wpAnyH_ready (rs := [33]) (by kernel_rfl) (by simp) ?_
              refine AllReadyH.cons rfl (fun K hK => ?_) AllReadyH.nil
              rw [if_pos (by rfl)]
              go_simp
              refine (impl_wrap xv _).mono ?_
              rintro e u1 ⟨rfl, hu1⟩
              subst hu1
              refine hK.out _ _ SD.out (fun _ => ?_)
              clear hK K
              refine wpAnyH_take (i := 34) (v := (.bool false)) rfl (by kernel_rfl) (by kernel_rfl) (by kernel_rfl) (fun _ _ _ h => h) (Or.inl ⟨by rfl, fun w' hs => by first | (go_simp; done) | (go_simp; simp)⟩) SD.out ?_
              change wpAnyH _ _ _ _ _ _ _ (Act.put _ (some 123) _) _
              simp only [Act.put, List.setIfInBounds_toArray, List.set_cons_zero, List.set_cons_succ]
              refine wpAnyH_take (i := 35) (v := (.bool false)) rfl (by kernel_rfl) (by kernel_rfl) (by kernel_rfl) (fun _ _ _ h => h) (Or.inl ⟨by rfl, fun w' hs => by go_simp⟩) SD.out ?_
              change wpAnyH _ _ _ _ _ _ _ (Act.put _ (some 124) _) _
              simp only [Act.put, List.setIfInBounds_toArray, List.set_cons_zero, List.set_cons_succ]
              refine wpAnyH_done (by kernel_rfl) ?_ _
              go_wp2_with fail
              go_roundw
              case rel => exact ⟨k + 1, by have := HK.out; omega, by go_num, on BA.out SD.out⟩
              case measure => have := HK.out; simp [intOf]; omega
            · have hKI : ¬ (k : Int) < (il : Int) := by omega
              clear hkt hk
              go_wp2_with fail
              go_roundw
              case rel => exact ⟨j + 1, by have := HL.out; omega, by go_num, BR.out⟩
              case measure => have := HL.out; simp [intOf]; omega
        · have hI : ¬ (j : Int) < (n0 : Int) := by omega
          have q0 := (KPu.out.keep HB.out).cell (i := 0) rfl
          have q1 := (KPu.out.keep HB.out).cell (i := 1) rfl
          have q2 := (KPu.out.keep HB.out).cell (i := 2) rfl
          have q3 := (KPu.out.keep HB.out).cell (i := 3) rfl
          have hfl := field_intsL
          clear hlt hj
          go_wp2_with fail
          clear q0 q1 q2 q3
          refine (i_free _ _ _ _ _ _ _ _ _ _ _ _ P _ (HPu.out.stay HB.out) (cell_keep HB.out GEu.out)).mono ?_
          rintro e w5 ⟨_, rfl, nf, b5⟩
          obtain ⟨fa, fc, ef, _, _, hfg⟩ := nf.shape
          obtain ⟨fn, hfn⟩ : ∃ n, (freeZ P).length = n := ⟨_, rfl⟩
          have FL : Hid ((freeZ P).length = fn ∧ fn ≤ 24) := ⟨hfn, by rw [← hfn]; exact free_len P⟩
          rw [hfn] at ef hfg
          subst ef
          have B5 : Hid (Below U.heap.size U w5) := on HB.out b5
          have NF : Hid (Nums w5 wr.heap.size (.slice fa fn fc) (freeZ P)) := nf
          have hfI : (fn : Int) ≤ 24 := by have := FL.out; omega
          generalize freeC P = fcd at *
          clear nf b5 hfn
          go_wp2_with fail
          clear hfl
          go_loopw [12, 13] (fun c _ wr => ∃ j : Nat, j ≤ fn ∧ c = .int .i64 j ∧ Below w5.heap.size w5 wr) (fun c _ _ => fn - (intOf c).toNat)
          case atStart => exact ⟨0, Nat.zero_le _, rfl, Below.refl _ _⟩
          case round =>
            obtain ⟨i, hi, rfl, hB3⟩ := hrel
            have HB3 : Hid (Below w5.heap.size w5 wr) := hB3
            clear hB3
            by_cases hlf : i < fn
            · have hFI : (i : Int) < (fn : Int) := by omega
              have HF : Hid (i < fn) := hlf
              obtain ⟨fg, rfl⟩ := hfg (by omega)
              have FF := free_fact ((freeZ P).getD i 0) (getD_mem _ 0 i (by have := FL.out; omega))
              obtain ⟨x, hx⟩ : ∃ x, (freeZ P).getD i 0 = x := ⟨_, rfl⟩
              have XC : Hid (∀ w', Below w5.heap.size w5 w' → w'.cell? ⟨fg, i, none⟩ = some (.int .i64 x)) := fun w' b => by
                have := (NF.out.keep b).cell FL.out.1.symm i hlf
                rw [hx] at this
                exact this
              rw [hx] at FF
              obtain ⟨xn, rfl⟩ := Int.eq_ofNat_of_zero_le FF.2.1
              have XF : Hid (ownerFrom 0 P.own (xn : Int) = -1 ∧ xn < 24) := ⟨FF.1, by have := FF.2.2; omega⟩
              clear FF hx hlf hi
              rename World => w6
              go_wp2_with fail
              go_loopw [13] (fun c wr => ∃ k : Nat, k ≤ 8 ∧ c = .int .i64 k ∧ Below w5.heap.size w5 wr) (fun c _ => 8 - (intOf c).toNat)
              case atStart => exact ⟨0, by decide, rfl, HB3.out⟩
              case round =>
                obtain ⟨k, hk, rfl, hB4⟩ := hrel
                have HB4 : Hid (Below w5.heap.size w5 wr) := hB4
                clear hB4
                by_cases hk8 : k < 8
                · have hKI : (k : Int) < 8 := by omega
                  have HK : Hid (k < 8 ∧ xn * 8 + k < 192) := ⟨hk8, by have := XF.out.2; omega⟩
                  have MZ : Hid (∀ w', Below U.heap.size U w' → w'.cell? ⟨gm, xn * 8 + k, none⟩ = some (.int .i64 0)) := fun w' b => by
                    have h1 := (MMu.out.keep b).cell HM.out.symm (xn * 8 + k) HK.out.2
                    have h2 := LD.out.zero (xn : Int) (by omega) XF.out.1 k hk8
                    rw [Int.toNat_natCast] at h2
                    rw [h2] at h1
                    exact h1
                  have e8 : IntKind.i64.wrap ((xn : Int) * 8) = (xn : Int) * 8 := by rw [IntKind.wrap_i64]; have := XF.out; omega
                  have e9 : IntKind.i64.wrap ((xn : Int) * 8 + (k : Int)) = (xn : Int) * 8 + (k : Int) := by rw [IntKind.wrap_i64]; have := HK.out; omega
                  have ea : 0 ≤ (xn : Int) * 8 + (k : Int) ∧ (xn : Int) * 8 + (k : Int) < 192 := by have := HK.out; omega
                  have eb : ((xn : Int) * 8 + (k : Int)).toNat = xn * 8 + k := by omega
                  clear hk8 hk
                  go_upto_region 29 with fail
                  have SD : Hid (Below wr.heap.size wr wr.drew) := (Below.refl _ _).drew
                  refine wp_region_held (S := fun w' => Below wr.heap.size wr w') (by kernel_rfl) ?_
                  change wpAnyH _ _ _ _ _ _ _ _ (World.drew _)
                  generalize wr.drew = u0 at *
                  refine wpAnyH_take (i := 0) (v := (.pointer (some ⟨t, 1, none⟩))) rfl (by kernel_rfl) (by kernel_rfl) (by kernel_rfl) (fun _ _ _ h => h) (Or.inl ⟨by rfl, fun w' hs => by go_simp⟩) SD.out ?_
                  change wpAnyH _ _ _ _ _ _ _ (Act.put _ (some 138) _) _
                  simp only [Act.put, List.setIfInBounds_toArray, List.set_cons_zero, List.set_cons_succ]
                  refine wpAnyH_take (i := 1) (v := (.slice (some ⟨gm, 0, none⟩) 192 mc)) rfl (by kernel_rfl) (by kernel_rfl) (by kernel_rfl) (fun _ _ _ h => h) (Or.inl ⟨by rfl, fun w' hs => by have y := (KTu.out.keep (on B5.out (on HB4.out hs))).cell (i := 1) rfl; go_simp⟩) SD.out ?_
                  change wpAnyH _ _ _ _ _ _ _ (Act.put _ (some 139) _) _
                  simp only [Act.put, List.setIfInBounds_toArray, List.set_cons_zero, List.set_cons_succ]
                  refine wpAnyH_take (i := 2) (v := (.slice (some ⟨fg, 0, none⟩) fn fc)) rfl (by kernel_rfl) (by kernel_rfl) (by kernel_rfl) (fun _ _ _ h => h) (Or.inl ⟨by rfl, fun w' hs => by go_simp⟩) SD.out ?_
                  change wpAnyH _ _ _ _ _ _ _ (Act.put _ (some 140) _) _
                  simp only [Act.put, List.setIfInBounds_toArray, List.set_cons_zero, List.set_cons_succ]
                  refine wpAnyH_take (i := 3) (v := (.int .i64 (i : Int))) rfl (by kernel_rfl) (by kernel_rfl) (by kernel_rfl) (fun _ _ _ h => h) (Or.inl ⟨by rfl, fun w' hs => by go_simp⟩) SD.out ?_
                  change wpAnyH _ _ _ _ _ _ _ (Act.put _ (some 141) _) _
                  simp only [Act.put, List.setIfInBounds_toArray, List.set_cons_zero, List.set_cons_succ]
                  refine wpAnyH_take (i := 4) (v := (.pointer (some ⟨fg, i, none⟩))) rfl (by kernel_rfl) (by kernel_rfl) (by kernel_rfl) (fun _ _ _ h => h) (Or.inl ⟨by rfl, fun w' hs => by have l1 := HF.out; go_simp⟩) SD.out ?_
                  change wpAnyH _ _ _ _ _ _ _ (Act.put _ (some 142) _) _
                  simp only [Act.put, List.setIfInBounds_toArray, List.set_cons_zero, List.set_cons_succ]
                  refine wpAnyH_take (i := 5) (v := (.int .i64 (xn : Int))) rfl (by kernel_rfl) (by kernel_rfl) (by kernel_rfl) (fun _ _ _ h => h) (Or.inl ⟨by rfl, fun w' hs => by have y := XC.out _ (on HB4.out hs); go_simp⟩) SD.out ?_
                  change wpAnyH _ _ _ _ _ _ _ (Act.put _ (some 143) _) _
                  simp only [Act.put, List.setIfInBounds_toArray, List.set_cons_zero, List.set_cons_succ]
                  refine wpAnyH_take (i := 6) (v := (.int .i64 ((xn : Int) * 8))) rfl (by kernel_rfl) (by kernel_rfl) (by kernel_rfl) (fun _ _ _ h => h) (Or.inl ⟨by rfl, fun w' hs => by first | (go_simp; done) | (go_simp; exact e8)⟩) SD.out ?_
                  change wpAnyH _ _ _ _ _ _ _ (Act.put _ (some 144) _) _
                  simp only [Act.put, List.setIfInBounds_toArray, List.set_cons_zero, List.set_cons_succ]
                  refine wpAnyH_take (i := 7) (v := (.int .i64 (k : Int))) rfl (by kernel_rfl) (by kernel_rfl) (by kernel_rfl) (fun _ _ _ h => h) (Or.inl ⟨by rfl, fun w' hs => by go_simp⟩) SD.out ?_
                  change wpAnyH _ _ _ _ _ _ _ (Act.put _ (some 145) _) _
                  simp only [Act.put, List.setIfInBounds_toArray, List.set_cons_zero, List.set_cons_succ]
                  refine wpAnyH_take (i := 8) (v := (.int .i64 ((xn : Int) * 8 + (k : Int)))) rfl (by kernel_rfl) (by kernel_rfl) (by kernel_rfl) (fun _ _ _ h => h) (Or.inl ⟨by rfl, fun w' hs => by first | (go_simp; done) | (go_simp; exact e9)⟩) SD.out ?_
                  change wpAnyH _ _ _ _ _ _ _ (Act.put _ (some 146) _) _
                  simp only [Act.put, List.setIfInBounds_toArray, List.set_cons_zero, List.set_cons_succ]
                  refine wpAnyH_take (i := 9) (v := (.pointer (some ⟨gm, xn * 8 + k, none⟩))) rfl (by kernel_rfl) (by kernel_rfl) (by kernel_rfl) (fun _ _ _ h => h) (Or.inl ⟨by rfl, fun w' hs => by first | (go_simp; done) | (go_simp; rw [if_pos ea, eb])⟩) SD.out ?_
                  change wpAnyH _ _ _ _ _ _ _ (Act.put _ (some 147) _) _
                  simp only [Act.put, List.setIfInBounds_toArray, List.set_cons_zero, List.set_cons_succ]
                  refine wpAnyH_take (i := 10) (v := (.int .i64 (0 : Int))) rfl (by kernel_rfl) (by kernel_rfl) (by kernel_rfl) (fun _ _ _ h => h) (Or.inl ⟨by rfl, fun w' hs => by have y := MZ.out _ (on B5.out (on HB4.out hs)); go_simp⟩) SD.out ?_
                  change wpAnyH _ _ _ _ _ _ _ (Act.put _ (some 148) _) _
                  simp only [Act.put, List.setIfInBounds_toArray, List.set_cons_zero, List.set_cons_succ]
                  refine wpAnyH_take (i := 11) (v := (.bool false)) rfl (by kernel_rfl) (by kernel_rfl) (by kernel_rfl) (fun _ _ _ h => h) (Or.inl ⟨by rfl, fun w' hs => by first | (go_simp; done) | (go_simp; simp)⟩) SD.out ?_
                  change wpAnyH _ _ _ _ _ _ _ (Act.put _ (some 149) _) _
                  simp only [Act.put, List.setIfInBounds_toArray, List.set_cons_zero, List.set_cons_succ]
                  refine wpAnyH_done (by kernel_rfl) ?_ _
                  go_wp2_with fail
                  go_roundw
                  case rel => exact ⟨k + 1, by have := HK.out; omega, by go_num, on HB4.out SD.out⟩
                  case measure => have := HK.out; simp [intOf]; omega
                · have hKI : ¬ (k : Int) < 8 := by omega
                  clear hk8 hk
                  go_wp2_with fail
                  go_roundw
                  case rel => exact ⟨i + 1, by have := HF.out; omega, by go_num, HB4.out⟩
                  case measure => have := HF.out; simp [intOf]; omega
            · have hFI : ¬ (i : Int) < (fn : Int) := by omega
              have t1 := (KTu.out.keep (on B5.out HB3.out)).cell (i := 1) rfl
              clear hlf hi
              go_wp2_with fail
              clear t1
              refine (impl_memFault _ M W.heap.size _ (MMu.out.keep (on B5.out HB3.out))).mono ?_
              rintro e w9 ⟨rfl, h9⟩
              rw [LD.out.mem]
              subst h9
              go_wp2_with fail
              go_ret
              exact ⟨rfl, on BU.out (on B5.out HB3.out)⟩
end Go.Proofs.YtdhdfopkcpkbeaaGreatDoor.fnLayoutsDone
