/- The walk of a law. -/
import Derived.Test.YtkfcofjmjbkekaaGreatDoorCards
import Derived.Test.YtkfcofjmjbkekaaGreatDoorTie
import Derived.Deep.DeepHandedRow
import Derived.LaidHandle
import Derived.LaidLaws
import Derived.Lib.LaidTab
import Derived.Stop.LaidErr
import Derived.Shelf.Vars
import Derived.OpenVars
import Derived.Deep.RegionWith
import Derived.Deep.RegionHeld3
import Derived.Deep.Cut
import Derived.Deep.CutRange
import Derived.Test.YtkfcofjmjbkekaaGreatDoorQ01
import Derived.Test.YtkfcofjmjbkekaaGreatDoorQ07
import Derived.Test.YtkfcofjmjbkekaaGreatDoorQ10
import Derived.Test.YtkfcofjmjbkekaaGreatDoorQ13
import Derived.Test.YtkfcofjmjbkekaaGreatDoorQ34
import Derived.Test.YtkfcofjmjbkekaaGreatDoorQ42
import Derived.Test.YtkfcofjmjbkekaaGreatDoorQ43
import Derived.Test.YtkfcofjmjbkekaaGreatDoorQ47
import Derived.Test.YtkfcofjmjbkekaaGreatDoorQ50
namespace Go.Proofs.YtkfcofjmjbkekaaGreatDoor.fnPoliciesDone
open Go.ChangeShapes Go.WideShapes Go.ChangeAt Go.RowKit
open Go.ChangeMaps (open_string shut_string)
set_option linter.unusedVariables false

theorem field_textQ (x y : Value) (w : World) : (Instr.field 35 (.agg #[x, y]) 1).run Tryz.prog w = .ok y w := by kernel_rfl
theorem field_pres0 (x0 x1 x2 x3 x4 x5 : Value) (w : World) : (Instr.field 32 (.agg #[x0, x1, x2, x3, x4, x5]) 0).run Tryz.prog w = .ok x0 w := by kernel_rfl
theorem gp_fm {w : World} (g : Gp w) : w.cell? ⟨0, 0, none⟩ = some (.string (bs wdOwn)) ∧ w.cell? ⟨0, 3, none⟩ = some (.string (bs wdLane)) ∧ w.cell? ⟨0, 6, none⟩ = some (.string (bs wdBell)) ∧ w.cell? ⟨0, 9, none⟩ = some (.string (bs wdSlot)) :=
  ⟨(g.form 0 (by decide)).1, (g.form 1 (by decide)).1, (g.form 2 (by decide)).1, (g.form 3 (by decide)).1⟩
set_option maxRecDepth 20000 in
set_option maxHeartbeats 16000000 in
theorem walk (a0 : Option Addr) (len0 cap0 : Nat) (z0 : List Int) (w : World) (w0 : IsRow .u8 w a0 len0 cap0 z0) (gp : Gp w) :
    Calls Tryz.prog 3 #[.slice a0 len0 cap0] w fun e w' => e = .returned (.bool true) ∧ Below w.heap.size w w' := by
  have HR : Hid (IsRow .u8 w a0 len0 cap0 z0) := w0
  have GP : Hid (Gp w) := gp
  clear w0 gp
  by_cases hbig : 1048576 < (len0 : Int)
  · go_enter Tryz.func3, Tryz.ntmps3
    go_wp2
    go_ret
    exact ⟨rfl, Below.refl _ _⟩
  have hb2 : (len0 : Int) ≤ 1048576 := by omega
  clear hbig
  go_enter Tryz.func3, Tryz.ntmps3
  go_wp2_with (go_at_call 4; go_in)
  refine (drawParse HR.out).mono ?_
  rintro e w1 ⟨T, rfl, hT, b1⟩
  obtain ⟨tx, rfl⟩ : ∃ tx, T = bq tx := ⟨_, bq_of T⟩
  have hz : (bq tx).size = tx.length := bq_size tx
  have HB2 : Hid (tx.length ≤ 1048576) := by show _ ≤ _; omega
  have B1 : Hid (Below w.heap.size w w1) := b1
  have SI : Hid (∀ w, Calls Tryz.prog 8 #[.string (bq tx)] w fun e w' => ppO w w' (ppV tx) e ∧ Below w.heap.size w w') := fun w => s_parsePolicy tx HB2.out w
  have II : Hid (∀ w, Gp w → Calls Tryz.prog 6 #[.string (bq tx)] w fun e w' => ppO w w' (ppV tx) e ∧ Below w.heap.size w w') := fun w g => i_parsePolicy tx HB2.out w g
  have ZZ : Hid ((ppV tx).1 = 0 → pfV (ppV tx).2.2 = 0 ∧ bs (fmW (ppV tx).2.2) = bq tx) := fun h => ⟨pp_pf tx h, congrArg bs (fm_pp tx h)⟩
  obtain ⟨V, hV⟩ : ∃ V, ppV tx = V := ⟨_, rfl⟩
  rw [hV] at SI II ZZ
  obtain ⟨C, hC⟩ : ∃ C, V.1 = C := ⟨_, rfl⟩
  obtain ⟨A, hA⟩ : ∃ A : Int, ((V.2.1 : Nat) : Int) = A := ⟨_, rfl⟩
  obtain ⟨P, hP⟩ : ∃ P, V.2.2 = P := ⟨_, rfl⟩
  have VC : Hid (V.1 = C) := hC
  have VA : Hid (((V.2.1 : Nat) : Int) = A) := hA
  have VP : Hid (V.2.2 = P) := hP
  rw [hP, hC] at ZZ
  obtain ⟨dn0, le0⟩ : ∃ n, P.own.length = n := ⟨_, rfl⟩
  obtain ⟨dn1, le1⟩ : ∃ n, P.lanes.length = n := ⟨_, rfl⟩
  obtain ⟨dn2, le2⟩ : ∃ n, P.bells.length = n := ⟨_, rfl⟩
  obtain ⟨dn3, le3⟩ : ∃ n, P.plan.length = n := ⟨_, rfl⟩
  have LY : Hid (P.own.length = dn0 ∧ P.lanes.length = dn1 ∧ P.bells.length = dn2 ∧ P.plan.length = dn3) := ⟨le0, le1, le2, le3⟩
  clear hT hz b1 hV hC hA hP le0 le1 le2 le3
  generalize bq tx = S at *
  go_wp2_with fail
  refine (II.out _ (GP.out.keep B1.out)).mono ?_
  rintro e w2 ⟨⟨_, _, _, _, yxs, rfl, sp⟩, b2⟩
  obtain ⟨da0, da1, da2, da3, dc0, dc1, dc2, dc3, f0, f1, f2, f3⟩ := sp.shape
  subst f0 f1 f2 f3
  simp only [VC.out, VA.out, VP.out] at sp ⊢
  rw [LY.out.1, LY.out.2.1, LY.out.2.2.1, LY.out.2.2.2] at sp ⊢
  have B2 : Hid (Below w.heap.size w w2) := on B1.out b2
  obtain ⟨q, hq⟩ : ∃ q, w2.heap.size = q := ⟨_, rfl⟩
  generalize hW : w2.alloc (.cells #[.int .i64 C, .int .i64 A, .slice da0 dn0 dc0, .slice da1 dn1 dc1, .slice da2 dn2 dc2, .slice da3 dn3 dc3] 32) = W
  have AL : Hid (Below w2.heap.size w2 W) := by show Below _ _ _; rw [← hW]; exact al (Below.refl _ _) _
  have KD : Hid (Kb W q #[.int .i64 C, .int .i64 A, .slice da0 dn0 dc0, .slice da1 dn1 dc1, .slice da2 dn2 dc2, .slice da3 dn3 dc3] 32) := by show Kb _ _ _ _; rw [← hW, ← hq]; exact Kb.new _ _ _
  have PD : Hid (Pl W da0 dn0 dc0 da1 dn1 dc1 da2 dn2 dc2 da3 dn3 dc3 P) := (sp.keep AL.out).pl
  have B : Hid (Below w.heap.size w W) := on B2.out AL.out
  clear sp b2 B2 AL
  go_upto_region 5 with fail
  try rw [hW]
  try rw [hq]
  clear hW hq
  have GW : Hid (Gp W) := GP.out.keep B.out
  have SD : Hid (Below W.heap.size W W.drew) := (Below.refl _ _).drew
  go_cut [37] from 14 to 37 (fun c wx => c = .bool false ∧ Below W.heap.size W wx)
  case first =>
    by_cases hc : C = 0
    case pos =>
      have Z2 := ZZ.out hc
      have FD := fun w3 (b : Below W.heap.size W w3) => i_formatP _ _ _ _ _ _ _ _ _ _ _ _ P w3 (PD.out.stay b) (GW.out.keep b).et (GW.out.keep b).tab (gp_fm (GW.out.keep b))
      rw [fm_ok Z2.1] at FD
      simp only [Z2.2] at FD
      replace FD : Hid _ := FD
      subst hc
      clear Z2
      refine wp_region_held (S := fun w' => Below W.heap.size W w') (by kernel_rfl) ?_
      change wpAnyH _ _ _ _ _ _ _ _ (World.drew _)
      generalize W.drew = u0 at *
      refine wpAnyH_take (i := 0) (v := (.pointer (some ⟨q, 0, none⟩))) rfl (by kernel_rfl) (by kernel_rfl) (by kernel_rfl) (fun _ _ _ h => h) (Or.inl ⟨by rfl, fun w' hs => by go_simp⟩) SD.out ?_
      change wpAnyH _ _ _ _ _ _ _ (Act.put _ (some 14) _) _
      simp only [Act.put, List.setIfInBounds_toArray, List.set_cons_zero, List.set_cons_succ]
      refine wpAnyH_take (i := 1) (v := (.int .i64 0)) rfl (by kernel_rfl) (by kernel_rfl) (by kernel_rfl) (fun _ _ _ h => h) (Or.inl ⟨by rfl, fun w' hs => by have hp := KD.out.keep hs; have y0 := hp.cell (i := 0) rfl; have y1 := hp.cell (i := 1) rfl; have y2 := hp.cell (i := 2) rfl; have y3 := hp.cell (i := 3) rfl; have y4 := hp.cell (i := 4) rfl; have y5 := hp.cell (i := 5) rfl; go_simp⟩) SD.out ?_
      change wpAnyH _ _ _ _ _ _ _ (Act.put _ (some 15) _) _
      simp only [Act.put, List.setIfInBounds_toArray, List.set_cons_zero, List.set_cons_succ]
      refine wpAnyH_take (i := 2) (v := (.bool true)) rfl (by kernel_rfl) (by kernel_rfl) (by kernel_rfl) (fun _ _ _ h => h) (Or.inl ⟨by rfl, fun w' hs => by go_simp⟩) SD.out ?_
      change wpAnyH _ _ _ _ _ _ _ (Act.put _ (some 16) _) _
      simp only [Act.put, List.setIfInBounds_toArray, List.set_cons_zero, List.set_cons_succ]
      refine wpAnyH_take (i := 3) (v := (.bool true)) rfl (by kernel_rfl) (by kernel_rfl) (by kernel_rfl) (fun _ _ _ h => h) (Or.inl ⟨by rfl, fun w' hs => by go_simp⟩) SD.out ?_
      change wpAnyH _ _ _ _ _ _ _ (Act.put _ (some 17) _) _
      simp only [Act.put, List.setIfInBounds_toArray, List.set_cons_zero, List.set_cons_succ]
      refine wpAnyH_take (i := 4) (v := (.pointer (some ⟨q, 2, none⟩))) rfl (by kernel_rfl) (by kernel_rfl) (by kernel_rfl) (fun _ _ _ h => h) (Or.inl ⟨by rfl, fun w' hs => by go_simp⟩) SD.out ?_
      change wpAnyH _ _ _ _ _ _ _ (Act.put _ (some 18) _) _
      simp only [Act.put, List.setIfInBounds_toArray, List.set_cons_zero, List.set_cons_succ]
      refine wpAnyH_take (i := 5) (v := (.agg #[.slice da0 dn0 dc0, .slice da1 dn1 dc1, .slice da2 dn2 dc2, .slice da3 dn3 dc3])) rfl (by kernel_rfl) (by kernel_rfl) (by kernel_rfl) (fun _ _ _ h => h) (Or.inl ⟨by rfl, fun w' hs => by have hp := KD.out.keep hs; have y0 := hp.cell (i := 0) rfl; have y1 := hp.cell (i := 1) rfl; have y2 := hp.cell (i := 2) rfl; have y3 := hp.cell (i := 3) rfl; have y4 := hp.cell (i := 4) rfl; have y5 := hp.cell (i := 5) rfl; go_simp⟩) SD.out ?_
      change wpAnyH _ _ _ _ _ _ _ (Act.put _ (some 19) _) _
      simp only [Act.put, List.setIfInBounds_toArray, List.set_cons_zero, List.set_cons_succ]
      refine wpAnyH_take (i := 8) (v := (.string S)) rfl (by kernel_rfl) (by kernel_rfl) (by kernel_rfl) (fun _ _ _ h => h) (Or.inl ⟨by rfl, fun w' hs => by go_simp⟩) SD.out ?_
      change wpAnyH _ _ _ _ _ _ _ (Act.put _ (some 22) _) _
      simp only [Act.put, List.setIfInBounds_toArray, List.set_cons_zero, List.set_cons_succ]
      refine wpAnyH_ready (rs := [6]) (by kernel_rfl) (by simp) ?_
      refine AllReadyH.cons rfl (fun K hK => ?_) AllReadyH.nil
      rw [if_pos (by rfl)]
      go_simp
      refine (FD.out _ SD.out).mono ?_
      rintro e u1 ⟨rfl, b3⟩
      replace SD : Hid (Below W.heap.size W u1) := on SD.out b3
      clear b3
      refine hK.out _ _ SD.out (fun _ => ?_)
      clear hK K
      refine wpAnyH_take (i := 7) (v := (.string S)) rfl (by kernel_rfl) (by kernel_rfl) (by kernel_rfl) (fun _ _ _ h => h) (Or.inl ⟨by rfl, fun w' hs => by have hf := field_textQ; go_simp⟩) SD.out ?_
      change wpAnyH _ _ _ _ _ _ _ (Act.put _ (some 21) _) _
      simp only [Act.put, List.setIfInBounds_toArray, List.set_cons_zero, List.set_cons_succ]
      refine wpAnyH_take (i := 9) (v := (.bool false)) rfl (by kernel_rfl) (by kernel_rfl) (by kernel_rfl) (fun _ _ _ h => h) (Or.inl ⟨by rfl, fun w' hs => by go_simp⟩) SD.out ?_
      change wpAnyH _ _ _ _ _ _ _ (Act.put _ (some 23) _) _
      simp only [Act.put, List.setIfInBounds_toArray, List.set_cons_zero, List.set_cons_succ]
      refine wpAnyH_take (i := 10) (v := (.bool false)) rfl (by kernel_rfl) (by kernel_rfl) (by kernel_rfl) (fun _ _ _ h => h) (Or.inl ⟨by rfl, fun w' hs => by go_simp⟩) SD.out ?_
      change wpAnyH _ _ _ _ _ _ _ (Act.put _ (some 24) _) _
      simp only [Act.put, List.setIfInBounds_toArray, List.set_cons_zero, List.set_cons_succ]
      refine wpAnyH_take (i := 11) (v := (.bool false)) rfl (by kernel_rfl) (by kernel_rfl) (by kernel_rfl) (fun _ _ _ h => h) (Or.inl ⟨by rfl, fun w' hs => by go_simp⟩) SD.out ?_
      change wpAnyH _ _ _ _ _ _ _ (Act.put _ (some 25) _) _
      simp only [Act.put, List.setIfInBounds_toArray, List.set_cons_zero, List.set_cons_succ]
      refine wpAnyH_take (i := 12) (v := (.pointer (some ⟨q, 0, none⟩))) rfl (by kernel_rfl) (by kernel_rfl) (by kernel_rfl) (fun _ _ _ h => h) (Or.inl ⟨by rfl, fun w' hs => by go_simp⟩) SD.out ?_
      change wpAnyH _ _ _ _ _ _ _ (Act.put _ (some 26) _) _
      simp only [Act.put, List.setIfInBounds_toArray, List.set_cons_zero, List.set_cons_succ]
      refine wpAnyH_take (i := 13) (v := (.int .i64 0)) rfl (by kernel_rfl) (by kernel_rfl) (by kernel_rfl) (fun _ _ _ h => h) (Or.inl ⟨by rfl, fun w' hs => by have hp := KD.out.keep hs; have y0 := hp.cell (i := 0) rfl; have y1 := hp.cell (i := 1) rfl; have y2 := hp.cell (i := 2) rfl; have y3 := hp.cell (i := 3) rfl; have y4 := hp.cell (i := 4) rfl; have y5 := hp.cell (i := 5) rfl; go_simp⟩) SD.out ?_
      change wpAnyH _ _ _ _ _ _ _ (Act.put _ (some 27) _) _
      simp only [Act.put, List.setIfInBounds_toArray, List.set_cons_zero, List.set_cons_succ]
      refine wpAnyH_take (i := 14) (v := (.bool false)) rfl (by kernel_rfl) (by kernel_rfl) (by kernel_rfl) (fun _ _ _ h => h) (Or.inl ⟨by rfl, fun w' hs => by go_simp⟩) SD.out ?_
      change wpAnyH _ _ _ _ _ _ _ (Act.put _ (some 28) _) _
      simp only [Act.put, List.setIfInBounds_toArray, List.set_cons_zero, List.set_cons_succ]
      refine wpAnyH_take (i := 15) (v := (.bool false)) rfl (by kernel_rfl) (by kernel_rfl) (by kernel_rfl) (fun _ _ _ h => h) (Or.inl ⟨by rfl, fun w' hs => by go_simp⟩) SD.out ?_
      change wpAnyH _ _ _ _ _ _ _ (Act.put _ (some 29) _) _
      simp only [Act.put, List.setIfInBounds_toArray, List.set_cons_zero, List.set_cons_succ]
      refine wpAnyH_take (i := 16) (v := undef) rfl (by kernel_rfl) (by kernel_rfl) (by kernel_rfl) (fun _ _ _ h => h) (Or.inr ⟨by rfl, rfl⟩) SD.out ?_
      change wpAnyH _ _ _ _ _ _ _ (Act.put _ (some 30) _) _
      simp only [Act.put, List.setIfInBounds_toArray, List.set_cons_zero, List.set_cons_succ]
      refine wpAnyH_take (i := 17) (v := undef) rfl (by kernel_rfl) (by kernel_rfl) (by kernel_rfl) (fun _ _ _ h => h) (Or.inr ⟨by rfl, rfl⟩) SD.out ?_
      change wpAnyH _ _ _ _ _ _ _ (Act.put _ (some 31) _) _
      simp only [Act.put, List.setIfInBounds_toArray, List.set_cons_zero, List.set_cons_succ]
      refine wpAnyH_take (i := 18) (v := undef) rfl (by kernel_rfl) (by kernel_rfl) (by kernel_rfl) (fun _ _ _ h => h) (Or.inr ⟨by rfl, rfl⟩) SD.out ?_
      change wpAnyH _ _ _ _ _ _ _ (Act.put _ (some 32) _) _
      simp only [Act.put, List.setIfInBounds_toArray, List.set_cons_zero, List.set_cons_succ]
      refine wpAnyH_take (i := 19) (v := undef) rfl (by kernel_rfl) (by kernel_rfl) (by kernel_rfl) (fun _ _ _ h => h) (Or.inr ⟨by rfl, rfl⟩) SD.out ?_
      change wpAnyH _ _ _ _ _ _ _ (Act.put _ (some 33) _) _
      simp only [Act.put, List.setIfInBounds_toArray, List.set_cons_zero, List.set_cons_succ]
      refine wpAnyH_take (i := 20) (v := undef) rfl (by kernel_rfl) (by kernel_rfl) (by kernel_rfl) (fun _ _ _ h => h) (Or.inr ⟨by rfl, rfl⟩) SD.out ?_
      change wpAnyH _ _ _ _ _ _ _ (Act.put _ (some 34) _) _
      simp only [Act.put, List.setIfInBounds_toArray, List.set_cons_zero, List.set_cons_succ]
      refine wpAnyH_take (i := 21) (v := undef) rfl (by kernel_rfl) (by kernel_rfl) (by kernel_rfl) (fun _ _ _ h => h) (Or.inr ⟨by rfl, rfl⟩) SD.out ?_
      change wpAnyH _ _ _ _ _ _ _ (Act.put _ (some 35) _) _
      simp only [Act.put, List.setIfInBounds_toArray, List.set_cons_zero, List.set_cons_succ]
      refine wpAnyH_take (i := 22) (v := (.bool false)) rfl (by kernel_rfl) (by kernel_rfl) (by kernel_rfl) (fun _ _ _ h => h) (Or.inl ⟨by rfl, fun w' hs => by go_simp⟩) SD.out ?_
      change wpAnyH _ _ _ _ _ _ _ (Act.put _ (some 36) _) _
      simp only [Act.put, List.setIfInBounds_toArray, List.set_cons_zero, List.set_cons_succ]
      refine wpAnyH_take (i := 23) (v := (.bool false)) rfl (by kernel_rfl) (by kernel_rfl) (by kernel_rfl) (fun _ _ _ h => h) (Or.inl ⟨by rfl, fun w' hs => by go_simp⟩) SD.out ?_
      change wpAnyH _ _ _ _ _ _ _ (Act.put _ (some 37) _) _
      simp only [Act.put, List.setIfInBounds_toArray, List.set_cons_zero, List.set_cons_succ]
      refine wpAnyH_done (by kernel_rfl) ?_ _
      go_wp2_with fail
      go_meet
      exact ⟨rfl, SD.out⟩
    case neg =>
      have hc2 : (C == 0) = false := by simp [hc]
      have hc3 : (C != 0) = true := by simp [hc]
      refine wp_region_held (S := fun w' => Below W.heap.size W w') (by kernel_rfl) ?_
      change wpAnyH _ _ _ _ _ _ _ _ (World.drew _)
      generalize W.drew = u0 at *
      refine wpAnyH_take (i := 0) (v := (.pointer (some ⟨q, 0, none⟩))) rfl (by kernel_rfl) (by kernel_rfl) (by kernel_rfl) (fun _ _ _ h => h) (Or.inl ⟨by rfl, fun w' hs => by go_simp⟩) SD.out ?_
      change wpAnyH _ _ _ _ _ _ _ (Act.put _ (some 14) _) _
      simp only [Act.put, List.setIfInBounds_toArray, List.set_cons_zero, List.set_cons_succ]
      refine wpAnyH_take (i := 1) (v := (.int .i64 C)) rfl (by kernel_rfl) (by kernel_rfl) (by kernel_rfl) (fun _ _ _ h => h) (Or.inl ⟨by rfl, fun w' hs => by have hp := KD.out.keep hs; have y0 := hp.cell (i := 0) rfl; have y1 := hp.cell (i := 1) rfl; have y2 := hp.cell (i := 2) rfl; have y3 := hp.cell (i := 3) rfl; have y4 := hp.cell (i := 4) rfl; have y5 := hp.cell (i := 5) rfl; go_simp⟩) SD.out ?_
      change wpAnyH _ _ _ _ _ _ _ (Act.put _ (some 15) _) _
      simp only [Act.put, List.setIfInBounds_toArray, List.set_cons_zero, List.set_cons_succ]
      refine wpAnyH_take (i := 2) (v := (.bool false)) rfl (by kernel_rfl) (by kernel_rfl) (by kernel_rfl) (fun _ _ _ h => h) (Or.inl ⟨by rfl, fun w' hs => by first | (go_simp; done) | (go_simp; simp [hc])⟩) SD.out ?_
      change wpAnyH _ _ _ _ _ _ _ (Act.put _ (some 16) _) _
      simp only [Act.put, List.setIfInBounds_toArray, List.set_cons_zero, List.set_cons_succ]
      refine wpAnyH_take (i := 3) (v := (.bool false)) rfl (by kernel_rfl) (by kernel_rfl) (by kernel_rfl) (fun _ _ _ h => h) (Or.inl ⟨by rfl, fun w' hs => by go_simp⟩) SD.out ?_
      change wpAnyH _ _ _ _ _ _ _ (Act.put _ (some 17) _) _
      simp only [Act.put, List.setIfInBounds_toArray, List.set_cons_zero, List.set_cons_succ]
      refine wpAnyH_take (i := 4) (v := undef) rfl (by kernel_rfl) (by kernel_rfl) (by kernel_rfl) (fun _ _ _ h => h) (Or.inr ⟨by rfl, rfl⟩) SD.out ?_
      change wpAnyH _ _ _ _ _ _ _ (Act.put _ (some 18) _) _
      simp only [Act.put, List.setIfInBounds_toArray, List.set_cons_zero, List.set_cons_succ]
      refine wpAnyH_take (i := 5) (v := undef) rfl (by kernel_rfl) (by kernel_rfl) (by kernel_rfl) (fun _ _ _ h => h) (Or.inr ⟨by rfl, rfl⟩) SD.out ?_
      change wpAnyH _ _ _ _ _ _ _ (Act.put _ (some 19) _) _
      simp only [Act.put, List.setIfInBounds_toArray, List.set_cons_zero, List.set_cons_succ]
      refine wpAnyH_take (i := 6) (v := undef) rfl (by kernel_rfl) (by kernel_rfl) (by kernel_rfl) (fun _ _ _ h => h) (Or.inr ⟨by rfl, rfl⟩) SD.out ?_
      change wpAnyH _ _ _ _ _ _ _ (Act.put _ (some 20) _) _
      simp only [Act.put, List.setIfInBounds_toArray, List.set_cons_zero, List.set_cons_succ]
      refine wpAnyH_take (i := 7) (v := undef) rfl (by kernel_rfl) (by kernel_rfl) (by kernel_rfl) (fun _ _ _ h => h) (Or.inr ⟨by rfl, rfl⟩) SD.out ?_
      change wpAnyH _ _ _ _ _ _ _ (Act.put _ (some 21) _) _
      simp only [Act.put, List.setIfInBounds_toArray, List.set_cons_zero, List.set_cons_succ]
      refine wpAnyH_take (i := 8) (v := undef) rfl (by kernel_rfl) (by kernel_rfl) (by kernel_rfl) (fun _ _ _ h => h) (Or.inr ⟨by rfl, rfl⟩) SD.out ?_
      change wpAnyH _ _ _ _ _ _ _ (Act.put _ (some 22) _) _
      simp only [Act.put, List.setIfInBounds_toArray, List.set_cons_zero, List.set_cons_succ]
      refine wpAnyH_take (i := 9) (v := undef) rfl (by kernel_rfl) (by kernel_rfl) (by kernel_rfl) (fun _ _ _ h => h) (Or.inr ⟨by rfl, rfl⟩) SD.out ?_
      change wpAnyH _ _ _ _ _ _ _ (Act.put _ (some 23) _) _
      simp only [Act.put, List.setIfInBounds_toArray, List.set_cons_zero, List.set_cons_succ]
      refine wpAnyH_take (i := 10) (v := (.bool false)) rfl (by kernel_rfl) (by kernel_rfl) (by kernel_rfl) (fun _ _ _ h => h) (Or.inl ⟨by rfl, fun w' hs => by go_simp⟩) SD.out ?_
      change wpAnyH _ _ _ _ _ _ _ (Act.put _ (some 24) _) _
      simp only [Act.put, List.setIfInBounds_toArray, List.set_cons_zero, List.set_cons_succ]
      refine wpAnyH_take (i := 11) (v := (.bool false)) rfl (by kernel_rfl) (by kernel_rfl) (by kernel_rfl) (fun _ _ _ h => h) (Or.inl ⟨by rfl, fun w' hs => by go_simp⟩) SD.out ?_
      change wpAnyH _ _ _ _ _ _ _ (Act.put _ (some 25) _) _
      simp only [Act.put, List.setIfInBounds_toArray, List.set_cons_zero, List.set_cons_succ]
      refine wpAnyH_take (i := 12) (v := (.pointer (some ⟨q, 0, none⟩))) rfl (by kernel_rfl) (by kernel_rfl) (by kernel_rfl) (fun _ _ _ h => h) (Or.inl ⟨by rfl, fun w' hs => by go_simp⟩) SD.out ?_
      change wpAnyH _ _ _ _ _ _ _ (Act.put _ (some 26) _) _
      simp only [Act.put, List.setIfInBounds_toArray, List.set_cons_zero, List.set_cons_succ]
      refine wpAnyH_take (i := 13) (v := (.int .i64 C)) rfl (by kernel_rfl) (by kernel_rfl) (by kernel_rfl) (fun _ _ _ h => h) (Or.inl ⟨by rfl, fun w' hs => by have hp := KD.out.keep hs; have y0 := hp.cell (i := 0) rfl; have y1 := hp.cell (i := 1) rfl; have y2 := hp.cell (i := 2) rfl; have y3 := hp.cell (i := 3) rfl; have y4 := hp.cell (i := 4) rfl; have y5 := hp.cell (i := 5) rfl; go_simp⟩) SD.out ?_
      change wpAnyH _ _ _ _ _ _ _ (Act.put _ (some 27) _) _
      simp only [Act.put, List.setIfInBounds_toArray, List.set_cons_zero, List.set_cons_succ]
      refine wpAnyH_take (i := 14) (v := (.bool true)) rfl (by kernel_rfl) (by kernel_rfl) (by kernel_rfl) (fun _ _ _ h => h) (Or.inl ⟨by rfl, fun w' hs => by first | (go_simp; done) | (go_simp; simp [hc])⟩) SD.out ?_
      change wpAnyH _ _ _ _ _ _ _ (Act.put _ (some 28) _) _
      simp only [Act.put, List.setIfInBounds_toArray, List.set_cons_zero, List.set_cons_succ]
      refine wpAnyH_take (i := 15) (v := (.bool true)) rfl (by kernel_rfl) (by kernel_rfl) (by kernel_rfl) (fun _ _ _ h => h) (Or.inl ⟨by rfl, fun w' hs => by go_simp⟩) SD.out ?_
      change wpAnyH _ _ _ _ _ _ _ (Act.put _ (some 29) _) _
      simp only [Act.put, List.setIfInBounds_toArray, List.set_cons_zero, List.set_cons_succ]
      refine wpAnyH_take (i := 16) (v := (.string S)) rfl (by kernel_rfl) (by kernel_rfl) (by kernel_rfl) (fun _ _ _ h => h) (Or.inl ⟨by rfl, fun w' hs => by go_simp⟩) SD.out ?_
      change wpAnyH _ _ _ _ _ _ _ (Act.put _ (some 30) _) _
      simp only [Act.put, List.setIfInBounds_toArray, List.set_cons_zero, List.set_cons_succ]
      refine wpAnyH_take (i := 19) (v := (.pointer (some ⟨q, 0, none⟩))) rfl (by kernel_rfl) (by kernel_rfl) (by kernel_rfl) (fun _ _ _ h => h) (Or.inl ⟨by rfl, fun w' hs => by go_simp⟩) SD.out ?_
      change wpAnyH _ _ _ _ _ _ _ (Act.put _ (some 33) _) _
      simp only [Act.put, List.setIfInBounds_toArray, List.set_cons_zero, List.set_cons_succ]
      refine wpAnyH_take (i := 20) (v := (.int .i64 C)) rfl (by kernel_rfl) (by kernel_rfl) (by kernel_rfl) (fun _ _ _ h => h) (Or.inl ⟨by rfl, fun w' hs => by have hp := KD.out.keep hs; have y0 := hp.cell (i := 0) rfl; have y1 := hp.cell (i := 1) rfl; have y2 := hp.cell (i := 2) rfl; have y3 := hp.cell (i := 3) rfl; have y4 := hp.cell (i := 4) rfl; have y5 := hp.cell (i := 5) rfl; go_simp⟩) SD.out ?_
      change wpAnyH _ _ _ _ _ _ _ (Act.put _ (some 34) _) _
      simp only [Act.put, List.setIfInBounds_toArray, List.set_cons_zero, List.set_cons_succ]
      refine wpAnyH_ready (rs := [17]) (by kernel_rfl) (by simp) ?_
      refine AllReadyH.cons rfl (fun K hK => ?_) AllReadyH.nil
      rw [if_pos (by rfl)]
      go_simp
      refine (SI.out _).mono ?_
      rintro e u1 ⟨⟨x0, x1, x2, x3, xxs, rfl, -⟩, b3⟩
      simp only [VC.out]
      replace SD : Hid (Below W.heap.size W u1) := on SD.out b3
      clear b3
      refine hK.out _ _ SD.out (fun _ => ?_)
      clear hK K
      refine wpAnyH_take (i := 18) (v := (.int .i64 C)) rfl (by kernel_rfl) (by kernel_rfl) (by kernel_rfl) (fun _ _ _ h => h) (Or.inl ⟨by rfl, fun w' hs => by have hf := field_pres0; go_simp⟩) SD.out ?_
      change wpAnyH _ _ _ _ _ _ _ (Act.put _ (some 32) _) _
      simp only [Act.put, List.setIfInBounds_toArray, List.set_cons_zero, List.set_cons_succ]
      refine wpAnyH_take (i := 21) (v := (.bool false)) rfl (by kernel_rfl) (by kernel_rfl) (by kernel_rfl) (fun _ _ _ h => h) (Or.inl ⟨by rfl, fun w' hs => by first | (go_simp; done) | (go_simp; simp)⟩) SD.out ?_
      change wpAnyH _ _ _ _ _ _ _ (Act.put _ (some 35) _) _
      simp only [Act.put, List.setIfInBounds_toArray, List.set_cons_zero, List.set_cons_succ]
      refine wpAnyH_take (i := 22) (v := (.bool false)) rfl (by kernel_rfl) (by kernel_rfl) (by kernel_rfl) (fun _ _ _ h => h) (Or.inl ⟨by rfl, fun w' hs => by go_simp⟩) SD.out ?_
      change wpAnyH _ _ _ _ _ _ _ (Act.put _ (some 36) _) _
      simp only [Act.put, List.setIfInBounds_toArray, List.set_cons_zero, List.set_cons_succ]
      refine wpAnyH_take (i := 23) (v := (.bool false)) rfl (by kernel_rfl) (by kernel_rfl) (by kernel_rfl) (fun _ _ _ h => h) (Or.inl ⟨by rfl, fun w' hs => by go_simp⟩) SD.out ?_
      change wpAnyH _ _ _ _ _ _ _ (Act.put _ (some 37) _) _
      simp only [Act.put, List.setIfInBounds_toArray, List.set_cons_zero, List.set_cons_succ]
      refine wpAnyH_done (by kernel_rfl) ?_ _
      go_wp2_with fail
      go_meet
      exact ⟨rfl, SD.out⟩
  case rest =>
  obtain ⟨rfl, hB3⟩ := hcut
  have B3 : Hid (Below w.heap.size w wc) := on B.out hB3
  clear hB3 ZZ SI II VC VA VP LY KD PD GW SD B HB2 B1
  go_wp2_with fail
  refine (drawFormat (HR.out.below B3.out)).mono ?_
  rintro e w3 ⟨_, _, _, _, Q, rfl, dv, b3⟩
  obtain ⟨pa0, pc0, pa1, pc1, pa2, pc2, pa3, pc3, e0, e1, e2, e3⟩ := dv.shape
  subst e0 e1 e2 e3
  obtain ⟨pn0, hn0⟩ : ∃ n, Q.own.length = n := ⟨_, rfl⟩
  obtain ⟨pn1, hn1⟩ : ∃ n, Q.lanes.length = n := ⟨_, rfl⟩
  obtain ⟨pn2, hn2⟩ : ∃ n, Q.bells.length = n := ⟨_, rfl⟩
  obtain ⟨pn3, hn3⟩ : ∃ n, Q.plan.length = n := ⟨_, rfl⟩
  rw [hn0, hn1, hn2, hn3] at dv ⊢
  have LQ : Hid (Q.own.length = pn0 ∧ Q.lanes.length = pn1 ∧ Q.bells.length = pn2 ∧ Q.plan.length = pn3) := ⟨hn0, hn1, hn2, hn3⟩
  clear hn0 hn1 hn2 hn3 HR
  have B4 : Hid (Below w.heap.size w w3) := on B3.out b3
  obtain ⟨p, hp⟩ : ∃ p, w3.heap.size = p := ⟨_, rfl⟩
  generalize hW : w3.alloc (.cells #[.slice pa0 pn0 pc0, .slice pa1 pn1 pc1, .slice pa2 pn2 pc2, .slice pa3 pn3 pc3] 30) = X
  have AL : Hid (Below w3.heap.size w3 X) := by show Below _ _ _; rw [← hW]; exact al (Below.refl _ _) _
  have KP : Hid (Kb X p #[.slice pa0 pn0 pc0, .slice pa1 pn1 pc1, .slice pa2 pn2 pc2, .slice pa3 pn3 pc3] 30) := by show Kb _ _ _ _; rw [← hW, ← hp]; exact Kb.new _ _ _
  have PQ : Hid (Pl X pa0 pn0 pc0 pa1 pn1 pc1 pa2 pn2 pc2 pa3 pn3 pc3 Q) := (dv.keep AL.out).pl
  have B5 : Hid (Below w.heap.size w X) := on B4.out AL.out
  clear dv b3 B3 B4 AL
  go_upto_region 8 with fail
  try rw [hW]
  try rw [hp]
  clear hW hp
  have y0 := KP.out.cell (i := 0) rfl
  have y1 := KP.out.cell (i := 1) rfl
  have y2 := KP.out.cell (i := 2) rfl
  have y3 := KP.out.cell (i := 3) rfl
  have GX : Hid (Gp X) := GP.out.keep B5.out
  have FP : Hid (∀ w3, Below X.heap.size X w3 → Calls Tryz.prog 7 #[.agg #[.slice pa0 pn0 pc0, .slice pa1 pn1 pc1, .slice pa2 pn2 pc2, .slice pa3 pn3 pc3]] w3 fun e w' => e = .returned (.agg #[.int .i64 (fmR Q).1, .string (bs (fmR Q).2)]) ∧ Below w3.heap.size w3 w') := fun w3 b => i_formatP _ _ _ _ _ _ _ _ _ _ _ _ Q w3 (PQ.out.stay b) (GX.out.keep b).et (GX.out.keep b).tab (gp_fm (GX.out.keep b))
  by_cases hq : pfV Q = 0
  case neg =>
    rw [fm_no hq] at FP
    have SP : Hid (∀ w3, Below X.heap.size X w3 → Calls Tryz.prog 10 #[.agg #[.slice pa0 pn0 pc0, .slice pa1 pn1 pc1, .slice pa2 pn2 pc2, .slice pa3 pn3 pc3]] w3 fun e w' => e = .returned (.int .i64 (pfV Q)) ∧ Below w3.heap.size w3 w') := fun w3 b => spec_policy _ _ _ _ _ _ _ _ _ _ _ _ Q w3 (PQ.out.stay b)
    obtain ⟨z, hz⟩ : ∃ z, pfV Q = z := ⟨_, rfl⟩
    rw [hz] at FP SP hq
    clear hz
    go_wp2_with fail
    refine (FP.out _ (Below.refl _ _)).mono ?_
    rintro e w4 ⟨rfl, b4⟩
    obtain ⟨t, ht⟩ : ∃ t, w4.heap.size = t := ⟨_, rfl⟩
    generalize hW : w4.alloc (.cells #[.int .i64 z, .string (bs [])] 35) = Y
    have BY : Hid (Below X.heap.size X Y) := by show Below _ _ _; rw [← hW]; exact on b4 (al (Below.refl _ _) _)
    have KT : Hid (Kb Y t #[.int .i64 z, .string (bs [])] 35) := by show Kb _ _ _ _; rw [← hW, ← ht]; exact Kb.new _ _ _
    clear b4 y0 y1 y2 y3
    have hz2 : (z != 0) = true := by simp [hq]
    go_upto_region 9 with fail
    try rw [hW]
    try rw [ht]
    clear hW ht
    have t0 := KT.out.cell (i := 0) rfl
    have KPY : Hid (Kb Y p #[.slice pa0 pn0 pc0, .slice pa1 pn1 pc1, .slice pa2 pn2 pc2, .slice pa3 pn3 pc3] 30) := KP.out.keep BY.out
    go_upto_region 10 with fail
    clear t0
    have SD : Hid (Below Y.heap.size Y Y.drew) := (Below.refl _ _).drew
    refine wp_region_held (S := fun w' => Below Y.heap.size Y w') (by kernel_rfl) ?_
    change wpAnyH _ _ _ _ _ _ _ _ (World.drew _)
    generalize Y.drew = u0 at *
    refine wpAnyH_take (i := 0) (v := (.agg #[.slice pa0 pn0 pc0, .slice pa1 pn1 pc1, .slice pa2 pn2 pc2, .slice pa3 pn3 pc3])) rfl (by kernel_rfl) (by kernel_rfl) (by kernel_rfl) (fun _ _ _ h => h) (Or.inl ⟨by rfl, fun w' hs => by have hp := KPY.out.keep hs; have y0 := hp.cell (i := 0) rfl; have y1 := hp.cell (i := 1) rfl; have y2 := hp.cell (i := 2) rfl; have y3 := hp.cell (i := 3) rfl; go_simp⟩) SD.out ?_
    change wpAnyH _ _ _ _ _ _ _ (Act.put _ (some 45) _) _
    simp only [Act.put, List.setIfInBounds_toArray, List.set_cons_zero, List.set_cons_succ]
    refine wpAnyH_take (i := 2) (v := (.pointer (some ⟨t, 0, none⟩))) rfl (by kernel_rfl) (by kernel_rfl) (by kernel_rfl) (fun _ _ _ h => h) (Or.inl ⟨by rfl, fun w' hs => by go_simp⟩) SD.out ?_
    change wpAnyH _ _ _ _ _ _ _ (Act.put _ (some 47) _) _
    simp only [Act.put, List.setIfInBounds_toArray, List.set_cons_zero, List.set_cons_succ]
    refine wpAnyH_take (i := 3) (v := (.int .i64 z)) rfl (by kernel_rfl) (by kernel_rfl) (by kernel_rfl) (fun _ _ _ h => h) (Or.inl ⟨by rfl, fun w' hs => by have hp := KT.out.keep hs; have y0 := hp.cell (i := 0) rfl; have y1 := hp.cell (i := 1) rfl; go_simp⟩) SD.out ?_
    change wpAnyH _ _ _ _ _ _ _ (Act.put _ (some 48) _) _
    simp only [Act.put, List.setIfInBounds_toArray, List.set_cons_zero, List.set_cons_succ]
    refine wpAnyH_ready (rs := [1]) (by kernel_rfl) (by simp) ?_
    refine AllReadyH.cons rfl (fun K hK => ?_) AllReadyH.nil
    rw [if_pos (by rfl)]
    go_simp
    refine (SP.out _ (on BY.out SD.out)).mono ?_
    rintro e u1 ⟨rfl, b5⟩
    replace SD : Hid (Below Y.heap.size Y u1) := on SD.out b5
    clear b5
    refine hK.out _ _ SD.out (fun _ => ?_)
    clear hK K
    refine wpAnyH_take (i := 4) (v := (.bool true)) rfl (by kernel_rfl) (by kernel_rfl) (by kernel_rfl) (fun _ _ _ h => h) (Or.inl ⟨by rfl, fun w' hs => by first | (go_simp; done) | (go_simp; simp)⟩) SD.out ?_
    change wpAnyH _ _ _ _ _ _ _ (Act.put _ (some 49) _) _
    simp only [Act.put, List.setIfInBounds_toArray, List.set_cons_zero, List.set_cons_succ]
    refine wpAnyH_take (i := 5) (v := (.bool true)) rfl (by kernel_rfl) (by kernel_rfl) (by kernel_rfl) (fun _ _ _ h => h) (Or.inl ⟨by rfl, fun w' hs => by go_simp⟩) SD.out ?_
    change wpAnyH _ _ _ _ _ _ _ (Act.put _ (some 2) _) _
    simp only [Act.put, List.setIfInBounds_toArray, List.set_cons_zero, List.set_cons_succ]
    refine wpAnyH_done (by kernel_rfl) ?_ _
    go_wp2_with fail
    go_ret
    exact ⟨rfl, on B5.out (on BY.out SD.out)⟩
  case pos =>
    rw [fm_ok hq] at FP
    have L1 : (fmW Q).length ≤ 1048576 := by have : (fmW Q).length ≤ 16000 := fm3_len (fm_of hq) _; omega
    have II : Hid (∀ w, Gp w → Calls Tryz.prog 6 #[.string (bs (fmW Q))] w fun e w' => ppO w w' (ppV (fmW Q)) e ∧ Below w.heap.size w w') := fun w g => i_parsePolicy (fmW Q) L1 w g
    have hz : (bs (fmW Q)).size = (fmW Q).length := bs_size _
    obtain ⟨n, hn⟩ : ∃ n, (fmW Q).length = n := ⟨_, rfl⟩
    rw [hn] at hz L1
    have hnI : (n : Int) ≤ 1048576 := by omega
    obtain ⟨V, hV⟩ : ∃ V, ppV (fmW Q) = V := ⟨_, rfl⟩
    have VV : Hid ((1000 < n → V = (2, 0, vdP)) ∧ (n ≤ 1000 → V = (0, 0, Q))) := ⟨fun h => by rw [← hV]; unfold ppV; rw [if_pos (by omega)], fun h => by rw [← hV]; exact pp_fm Q hq (by omega)⟩
    rw [hV] at II
    clear hV hn
    obtain ⟨S2, hS2⟩ : ∃ S, bs (fmW Q) = S := ⟨_, rfl⟩
    have HS2 : Hid (bs (fmW Q) = S2) := hS2
    rw [hS2] at FP II hz
    clear hS2
    go_wp2_with fail
    refine (FP.out _ (Below.refl _ _)).mono ?_
    rintro e w4 ⟨rfl, b4⟩
    obtain ⟨t, ht⟩ : ∃ t, w4.heap.size = t := ⟨_, rfl⟩
    generalize hW : w4.alloc (.cells #[.int .i64 0, .string S2] 35) = Y
    have BY : Hid (Below X.heap.size X Y) := by show Below _ _ _; rw [← hW]; exact on b4 (al (Below.refl _ _) _)
    have KT : Hid (Kb Y t #[.int .i64 0, .string S2] 35) := by show Kb _ _ _ _; rw [← hW, ← ht]; exact Kb.new _ _ _
    clear b4 y0 y1 y2 y3
    go_upto_region 9 with fail
    try rw [hW]
    try rw [ht]
    clear hW ht
    have t0 := KT.out.cell (i := 0) rfl
    have t1 := KT.out.cell (i := 1) rfl
    go_wp2_with fail
    clear t0 t1
    refine (II.out _ (GX.out.keep BY.out)).mono ?_
    rintro e w5 ⟨⟨_, _, _, _, rxs, rfl, sp⟩, b5⟩
    by_cases hb : 1000 < n
    · have e : V = (2, 0, vdP) := VV.out.1 hb
      subst e
      have hI : (1000 : Int) < (n : Int) := by omega
      obtain ⟨r, hr⟩ : ∃ t, w5.heap.size = t := ⟨_, rfl⟩
      obtain ⟨ra0, ra1, ra2, ra3, rc0, rc1, rc2, rc3, f0, f1, f2, f3⟩ := sp.shape
      subst f0 f1 f2 f3
      clear sp
      generalize hW : w5.alloc (.cells #[.int .i64 2, .int .i64 0, .slice ra0 vdP.own.length rc0, .slice ra1 vdP.lanes.length rc1, .slice ra2 vdP.bells.length rc2, .slice ra3 vdP.plan.length rc3] 32) = Z
      have BZ : Hid (Below X.heap.size X Z) := by show Below _ _ _; rw [← hW]; exact on (on BY.out b5) (al (Below.refl _ _) _)
      have BYZ : Hid (Below Y.heap.size Y Z) := by show Below _ _ _; rw [← hW]; exact on b5 (al (Below.refl _ _) _)
      have KR : Hid (Kb Z r #[.int .i64 2, .int .i64 0, .slice ra0 vdP.own.length rc0, .slice ra1 vdP.lanes.length rc1, .slice ra2 vdP.bells.length rc2, .slice ra3 vdP.plan.length rc3] 32) := by show Kb _ _ _ _; rw [← hW, ← hr]; exact Kb.new _ _ _
      clear b5 hnI
      go_upto_region 12 with fail
      try rw [hW]
      try rw [hr]
      clear hW hr
      have t1 := (KT.out.keep BYZ.out).cell (i := 1) rfl
      have r0 := KR.out.cell (i := 0) rfl
      go_wp2_with fail
      go_ret
      exact ⟨rfl, on B5.out BZ.out⟩
    · have e : V = (0, 0, Q) := VV.out.2 (by omega)
      subst e
      have hI : ¬ (1000 : Int) < (n : Int) := by omega
      obtain ⟨r, hr⟩ : ∃ t, w5.heap.size = t := ⟨_, rfl⟩
      obtain ⟨ra0, ra1, ra2, ra3, rc0, rc1, rc2, rc3, f0, f1, f2, f3⟩ := sp.shape
      subst f0 f1 f2 f3
      simp only [LQ.out.1, LQ.out.2.1, LQ.out.2.2.1, LQ.out.2.2.2] at sp ⊢
      have sp2 : Wp w5 Y.heap.size (.slice ra0 pn0 rc0) (.slice ra1 pn1 rc1) (.slice ra2 pn2 rc2) (.slice ra3 pn3 rc3) Q rxs := sp
      clear sp
      generalize hW : w5.alloc (.cells #[.int .i64 0, .int .i64 0, .slice ra0 pn0 rc0, .slice ra1 pn1 rc1, .slice ra2 pn2 rc2, .slice ra3 pn3 rc3] 32) = Z
      have A5 : Hid (Below w5.heap.size w5 Z) := by show Below _ _ _; rw [← hW]; exact al (Below.refl _ _) _
      have BYZ : Hid (Below Y.heap.size Y Z) := on b5 A5.out
      have BZ : Hid (Below X.heap.size X Z) := on BY.out BYZ.out
      have KR : Hid (Kb Z r #[.int .i64 0, .int .i64 0, .slice ra0 pn0 rc0, .slice ra1 pn1 rc1, .slice ra2 pn2 rc2, .slice ra3 pn3 rc3] 32) := by show Kb _ _ _ _; rw [← hW, ← hr]; exact Kb.new _ _ _
      have PR : Hid (Pl Z ra0 pn0 rc0 ra1 pn1 rc1 ra2 pn2 rc2 ra3 pn3 rc3 Q) := (sp2.keep A5.out).pl
      have KTZ : Hid (Kb Z t #[.int .i64 0, .string S2] 35) := KT.out.keep BYZ.out
      have KPZ : Hid (Kb Z p #[.slice pa0 pn0 pc0, .slice pa1 pn1 pc1, .slice pa2 pn2 pc2, .slice pa3 pn3 pc3] 30) := KP.out.keep BZ.out
      clear sp2 b5 hnI A5 BYZ
      go_upto_region 12 with fail
      try rw [hW]
      try rw [hr]
      clear hW hr
      have t1 := KTZ.out.cell (i := 1) rfl
      go_upto_region 14 with fail
      clear t1
      have GZ : Hid (Gp Z) := GX.out.keep BZ.out
      have FR : Hid (∀ w3, Below Z.heap.size Z w3 → Calls Tryz.prog 7 #[.agg #[.slice ra0 pn0 rc0, .slice ra1 pn1 rc1, .slice ra2 pn2 rc2, .slice ra3 pn3 rc3]] w3 fun e w' => e = .returned (.agg #[.int .i64 0, .string S2]) ∧ Below w3.heap.size w3 w') := by
        intro w3 b
        have h := i_formatP _ _ _ _ _ _ _ _ _ _ _ _ Q w3 (PR.out.stay b) (GZ.out.keep b).et (GZ.out.keep b).tab (gp_fm (GZ.out.keep b))
        rw [fm_ok hq, HS2.out] at h
        exact h
      have SD : Hid (Below Z.heap.size Z Z.drew) := (Below.refl _ _).drew
      refine wp_region_held (S := fun w' => Below Z.heap.size Z w') (by kernel_rfl) ?_
      change wpAnyH _ _ _ _ _ _ _ _ (World.drew _)
      generalize Z.drew = u0 at *
      refine wpAnyH_take (i := 0) (v := (.pointer (some ⟨r, 0, none⟩))) rfl (by kernel_rfl) (by kernel_rfl) (by kernel_rfl) (fun _ _ _ h => h) (Or.inl ⟨by rfl, fun w' hs => by go_simp⟩) SD.out ?_
      change wpAnyH _ _ _ _ _ _ _ (Act.put _ (some 60) _) _
      simp only [Act.put, List.setIfInBounds_toArray, List.set_cons_zero, List.set_cons_succ]
      refine wpAnyH_take (i := 1) (v := (.int .i64 (0))) rfl (by kernel_rfl) (by kernel_rfl) (by kernel_rfl) (fun _ _ _ h => h) (Or.inl ⟨by rfl, fun w' hs => by have hp := KR.out.keep hs; have y0 := hp.cell (i := 0) rfl; have y1 := hp.cell (i := 1) rfl; have y2 := hp.cell (i := 2) rfl; have y3 := hp.cell (i := 3) rfl; have y4 := hp.cell (i := 4) rfl; have y5 := hp.cell (i := 5) rfl; go_simp⟩) SD.out ?_
      change wpAnyH _ _ _ _ _ _ _ (Act.put _ (some 61) _) _
      simp only [Act.put, List.setIfInBounds_toArray, List.set_cons_zero, List.set_cons_succ]
      refine wpAnyH_take (i := 2) (v := (.bool true)) rfl (by kernel_rfl) (by kernel_rfl) (by kernel_rfl) (fun _ _ _ h => h) (Or.inl ⟨by rfl, fun w' hs => by go_simp⟩) SD.out ?_
      change wpAnyH _ _ _ _ _ _ _ (Act.put _ (some 62) _) _
      simp only [Act.put, List.setIfInBounds_toArray, List.set_cons_zero, List.set_cons_succ]
      refine wpAnyH_take (i := 3) (v := (.bool true)) rfl (by kernel_rfl) (by kernel_rfl) (by kernel_rfl) (fun _ _ _ h => h) (Or.inl ⟨by rfl, fun w' hs => by go_simp⟩) SD.out ?_
      change wpAnyH _ _ _ _ _ _ _ (Act.put _ (some 63) _) _
      simp only [Act.put, List.setIfInBounds_toArray, List.set_cons_zero, List.set_cons_succ]
      refine wpAnyH_take (i := 4) (v := (.pointer (some ⟨r, 2, none⟩))) rfl (by kernel_rfl) (by kernel_rfl) (by kernel_rfl) (fun _ _ _ h => h) (Or.inl ⟨by rfl, fun w' hs => by go_simp⟩) SD.out ?_
      change wpAnyH _ _ _ _ _ _ _ (Act.put _ (some 64) _) _
      simp only [Act.put, List.setIfInBounds_toArray, List.set_cons_zero, List.set_cons_succ]
      refine wpAnyH_take (i := 5) (v := (.agg #[.slice ra0 pn0 rc0, .slice ra1 pn1 rc1, .slice ra2 pn2 rc2, .slice ra3 pn3 rc3])) rfl (by kernel_rfl) (by kernel_rfl) (by kernel_rfl) (fun _ _ _ h => h) (Or.inl ⟨by rfl, fun w' hs => by have hp := KR.out.keep hs; have y0 := hp.cell (i := 0) rfl; have y1 := hp.cell (i := 1) rfl; have y2 := hp.cell (i := 2) rfl; have y3 := hp.cell (i := 3) rfl; have y4 := hp.cell (i := 4) rfl; have y5 := hp.cell (i := 5) rfl; go_simp⟩) SD.out ?_
      change wpAnyH _ _ _ _ _ _ _ (Act.put _ (some 65) _) _
      simp only [Act.put, List.setIfInBounds_toArray, List.set_cons_zero, List.set_cons_succ]
      refine wpAnyH_take (i := 8) (v := (.pointer (some ⟨t, 1, none⟩))) rfl (by kernel_rfl) (by kernel_rfl) (by kernel_rfl) (fun _ _ _ h => h) (Or.inl ⟨by rfl, fun w' hs => by go_simp⟩) SD.out ?_
      change wpAnyH _ _ _ _ _ _ _ (Act.put _ (some 68) _) _
      simp only [Act.put, List.setIfInBounds_toArray, List.set_cons_zero, List.set_cons_succ]
      refine wpAnyH_take (i := 9) (v := (.string S2)) rfl (by kernel_rfl) (by kernel_rfl) (by kernel_rfl) (fun _ _ _ h => h) (Or.inl ⟨by rfl, fun w' hs => by have hp := KTZ.out.keep hs; have y0 := hp.cell (i := 0) rfl; have y1 := hp.cell (i := 1) rfl; go_simp⟩) SD.out ?_
      change wpAnyH _ _ _ _ _ _ _ (Act.put _ (some 69) _) _
      simp only [Act.put, List.setIfInBounds_toArray, List.set_cons_zero, List.set_cons_succ]
      refine wpAnyH_ready (rs := [6]) (by kernel_rfl) (by simp) ?_
      refine AllReadyH.cons rfl (fun K hK => ?_) AllReadyH.nil
      rw [if_pos (by rfl)]
      go_simp
      refine (FR.out _ SD.out).mono ?_
      rintro e u1 ⟨rfl, b5⟩
      replace SD : Hid (Below Z.heap.size Z u1) := on SD.out b5
      clear b5
      refine hK.out _ _ SD.out (fun _ => ?_)
      clear hK K
      refine wpAnyH_take (i := 7) (v := (.string S2)) rfl (by kernel_rfl) (by kernel_rfl) (by kernel_rfl) (fun _ _ _ h => h) (Or.inl ⟨by rfl, fun w' hs => by have hf := field_textQ; go_simp⟩) SD.out ?_
      change wpAnyH _ _ _ _ _ _ _ (Act.put _ (some 67) _) _
      simp only [Act.put, List.setIfInBounds_toArray, List.set_cons_zero, List.set_cons_succ]
      refine wpAnyH_take (i := 10) (v := (.bool true)) rfl (by kernel_rfl) (by kernel_rfl) (by kernel_rfl) (fun _ _ _ h => h) (Or.inl ⟨by rfl, fun w' hs => by first | (go_simp; done) | (go_simp; simp)⟩) SD.out ?_
      change wpAnyH _ _ _ _ _ _ _ (Act.put _ (some 70) _) _
      simp only [Act.put, List.setIfInBounds_toArray, List.set_cons_zero, List.set_cons_succ]
      refine wpAnyH_take (i := 11) (v := (.bool true)) rfl (by kernel_rfl) (by kernel_rfl) (by kernel_rfl) (fun _ _ _ h => h) (Or.inl ⟨by rfl, fun w' hs => by go_simp⟩) SD.out ?_
      change wpAnyH _ _ _ _ _ _ _ (Act.put _ (some 71) _) _
      simp only [Act.put, List.setIfInBounds_toArray, List.set_cons_zero, List.set_cons_succ]
      refine wpAnyH_take (i := 12) (v := (.bool true)) rfl (by kernel_rfl) (by kernel_rfl) (by kernel_rfl) (fun _ _ _ h => h) (Or.inl ⟨by rfl, fun w' hs => by go_simp⟩) SD.out ?_
      change wpAnyH _ _ _ _ _ _ _ (Act.put _ (some 72) _) _
      simp only [Act.put, List.setIfInBounds_toArray, List.set_cons_zero, List.set_cons_succ]
      refine wpAnyH_take (i := 13) (v := (.pointer (some ⟨r, 2, none⟩))) rfl (by kernel_rfl) (by kernel_rfl) (by kernel_rfl) (fun _ _ _ h => h) (Or.inl ⟨by rfl, fun w' hs => by go_simp⟩) SD.out ?_
      change wpAnyH _ _ _ _ _ _ _ (Act.put _ (some 73) _) _
      simp only [Act.put, List.setIfInBounds_toArray, List.set_cons_zero, List.set_cons_succ]
      refine wpAnyH_take (i := 14) (v := (.pointer (some ⟨r, 2, none⟩))) rfl (by kernel_rfl) (by kernel_rfl) (by kernel_rfl) (fun _ _ _ h => h) (Or.inl ⟨by rfl, fun w' hs => by go_simp⟩) SD.out ?_
      change wpAnyH _ _ _ _ _ _ _ (Act.put _ (some 74) _) _
      simp only [Act.put, List.setIfInBounds_toArray, List.set_cons_zero, List.set_cons_succ]
      refine wpAnyH_take (i := 15) (v := (.slice ra0 pn0 rc0)) rfl (by kernel_rfl) (by kernel_rfl) (by kernel_rfl) (fun _ _ _ h => h) (Or.inl ⟨by rfl, fun w' hs => by have hp := KR.out.keep hs; have y0 := hp.cell (i := 0) rfl; have y1 := hp.cell (i := 1) rfl; have y2 := hp.cell (i := 2) rfl; have y3 := hp.cell (i := 3) rfl; have y4 := hp.cell (i := 4) rfl; have y5 := hp.cell (i := 5) rfl; go_simp⟩) SD.out ?_
      change wpAnyH _ _ _ _ _ _ _ (Act.put _ (some 75) _) _
      simp only [Act.put, List.setIfInBounds_toArray, List.set_cons_zero, List.set_cons_succ]
      refine wpAnyH_take (i := 16) (v := (.int .i64 (pn0 : Int))) rfl (by kernel_rfl) (by kernel_rfl) (by kernel_rfl) (fun _ _ _ h => h) (Or.inl ⟨by rfl, fun w' hs => by go_simp⟩) SD.out ?_
      change wpAnyH _ _ _ _ _ _ _ (Act.put _ (some 76) _) _
      simp only [Act.put, List.setIfInBounds_toArray, List.set_cons_zero, List.set_cons_succ]
      refine wpAnyH_take (i := 17) (v := (.pointer (some ⟨p, 0, none⟩))) rfl (by kernel_rfl) (by kernel_rfl) (by kernel_rfl) (fun _ _ _ h => h) (Or.inl ⟨by rfl, fun w' hs => by go_simp⟩) SD.out ?_
      change wpAnyH _ _ _ _ _ _ _ (Act.put _ (some 77) _) _
      simp only [Act.put, List.setIfInBounds_toArray, List.set_cons_zero, List.set_cons_succ]
      refine wpAnyH_take (i := 18) (v := (.slice pa0 pn0 pc0)) rfl (by kernel_rfl) (by kernel_rfl) (by kernel_rfl) (fun _ _ _ h => h) (Or.inl ⟨by rfl, fun w' hs => by have hp := KPZ.out.keep hs; have y0 := hp.cell (i := 0) rfl; have y1 := hp.cell (i := 1) rfl; have y2 := hp.cell (i := 2) rfl; have y3 := hp.cell (i := 3) rfl; go_simp⟩) SD.out ?_
      change wpAnyH _ _ _ _ _ _ _ (Act.put _ (some 78) _) _
      simp only [Act.put, List.setIfInBounds_toArray, List.set_cons_zero, List.set_cons_succ]
      refine wpAnyH_take (i := 19) (v := (.int .i64 (pn0 : Int))) rfl (by kernel_rfl) (by kernel_rfl) (by kernel_rfl) (fun _ _ _ h => h) (Or.inl ⟨by rfl, fun w' hs => by go_simp⟩) SD.out ?_
      change wpAnyH _ _ _ _ _ _ _ (Act.put _ (some 79) _) _
      simp only [Act.put, List.setIfInBounds_toArray, List.set_cons_zero, List.set_cons_succ]
      refine wpAnyH_take (i := 20) (v := (.bool true)) rfl (by kernel_rfl) (by kernel_rfl) (by kernel_rfl) (fun _ _ _ h => h) (Or.inl ⟨by rfl, fun w' hs => by first | (go_simp; done) | (go_simp; simp)⟩) SD.out ?_
      change wpAnyH _ _ _ _ _ _ _ (Act.put _ (some 80) _) _
      simp only [Act.put, List.setIfInBounds_toArray, List.set_cons_zero, List.set_cons_succ]
      refine wpAnyH_take (i := 21) (v := (.bool true)) rfl (by kernel_rfl) (by kernel_rfl) (by kernel_rfl) (fun _ _ _ h => h) (Or.inl ⟨by rfl, fun w' hs => by go_simp⟩) SD.out ?_
      change wpAnyH _ _ _ _ _ _ _ (Act.put _ (some 81) _) _
      simp only [Act.put, List.setIfInBounds_toArray, List.set_cons_zero, List.set_cons_succ]
      refine wpAnyH_take (i := 22) (v := (.bool true)) rfl (by kernel_rfl) (by kernel_rfl) (by kernel_rfl) (fun _ _ _ h => h) (Or.inl ⟨by rfl, fun w' hs => by go_simp⟩) SD.out ?_
      change wpAnyH _ _ _ _ _ _ _ (Act.put _ (some 82) _) _
      simp only [Act.put, List.setIfInBounds_toArray, List.set_cons_zero, List.set_cons_succ]
      refine wpAnyH_take (i := 23) (v := (.pointer (some ⟨r, 2, none⟩))) rfl (by kernel_rfl) (by kernel_rfl) (by kernel_rfl) (fun _ _ _ h => h) (Or.inl ⟨by rfl, fun w' hs => by go_simp⟩) SD.out ?_
      change wpAnyH _ _ _ _ _ _ _ (Act.put _ (some 83) _) _
      simp only [Act.put, List.setIfInBounds_toArray, List.set_cons_zero, List.set_cons_succ]
      refine wpAnyH_take (i := 24) (v := (.pointer (some ⟨r, 5, none⟩))) rfl (by kernel_rfl) (by kernel_rfl) (by kernel_rfl) (fun _ _ _ h => h) (Or.inl ⟨by rfl, fun w' hs => by go_simp⟩) SD.out ?_
      change wpAnyH _ _ _ _ _ _ _ (Act.put _ (some 84) _) _
      simp only [Act.put, List.setIfInBounds_toArray, List.set_cons_zero, List.set_cons_succ]
      refine wpAnyH_take (i := 25) (v := (.slice ra3 pn3 rc3)) rfl (by kernel_rfl) (by kernel_rfl) (by kernel_rfl) (fun _ _ _ h => h) (Or.inl ⟨by rfl, fun w' hs => by have hp := KR.out.keep hs; have y0 := hp.cell (i := 0) rfl; have y1 := hp.cell (i := 1) rfl; have y2 := hp.cell (i := 2) rfl; have y3 := hp.cell (i := 3) rfl; have y4 := hp.cell (i := 4) rfl; have y5 := hp.cell (i := 5) rfl; go_simp⟩) SD.out ?_
      change wpAnyH _ _ _ _ _ _ _ (Act.put _ (some 85) _) _
      simp only [Act.put, List.setIfInBounds_toArray, List.set_cons_zero, List.set_cons_succ]
      refine wpAnyH_take (i := 26) (v := (.int .i64 (pn3 : Int))) rfl (by kernel_rfl) (by kernel_rfl) (by kernel_rfl) (fun _ _ _ h => h) (Or.inl ⟨by rfl, fun w' hs => by go_simp⟩) SD.out ?_
      change wpAnyH _ _ _ _ _ _ _ (Act.put _ (some 86) _) _
      simp only [Act.put, List.setIfInBounds_toArray, List.set_cons_zero, List.set_cons_succ]
      refine wpAnyH_take (i := 27) (v := (.pointer (some ⟨p, 3, none⟩))) rfl (by kernel_rfl) (by kernel_rfl) (by kernel_rfl) (fun _ _ _ h => h) (Or.inl ⟨by rfl, fun w' hs => by go_simp⟩) SD.out ?_
      change wpAnyH _ _ _ _ _ _ _ (Act.put _ (some 87) _) _
      simp only [Act.put, List.setIfInBounds_toArray, List.set_cons_zero, List.set_cons_succ]
      refine wpAnyH_take (i := 28) (v := (.slice pa3 pn3 pc3)) rfl (by kernel_rfl) (by kernel_rfl) (by kernel_rfl) (fun _ _ _ h => h) (Or.inl ⟨by rfl, fun w' hs => by have hp := KPZ.out.keep hs; have y0 := hp.cell (i := 0) rfl; have y1 := hp.cell (i := 1) rfl; have y2 := hp.cell (i := 2) rfl; have y3 := hp.cell (i := 3) rfl; go_simp⟩) SD.out ?_
      change wpAnyH _ _ _ _ _ _ _ (Act.put _ (some 88) _) _
      simp only [Act.put, List.setIfInBounds_toArray, List.set_cons_zero, List.set_cons_succ]
      refine wpAnyH_take (i := 29) (v := (.int .i64 (pn3 : Int))) rfl (by kernel_rfl) (by kernel_rfl) (by kernel_rfl) (fun _ _ _ h => h) (Or.inl ⟨by rfl, fun w' hs => by go_simp⟩) SD.out ?_
      change wpAnyH _ _ _ _ _ _ _ (Act.put _ (some 89) _) _
      simp only [Act.put, List.setIfInBounds_toArray, List.set_cons_zero, List.set_cons_succ]
      refine wpAnyH_take (i := 30) (v := (.bool true)) rfl (by kernel_rfl) (by kernel_rfl) (by kernel_rfl) (fun _ _ _ h => h) (Or.inl ⟨by rfl, fun w' hs => by first | (go_simp; done) | (go_simp; simp)⟩) SD.out ?_
      change wpAnyH _ _ _ _ _ _ _ (Act.put _ (some 90) _) _
      simp only [Act.put, List.setIfInBounds_toArray, List.set_cons_zero, List.set_cons_succ]
      refine wpAnyH_take (i := 31) (v := (.bool true)) rfl (by kernel_rfl) (by kernel_rfl) (by kernel_rfl) (fun _ _ _ h => h) (Or.inl ⟨by rfl, fun w' hs => by go_simp⟩) SD.out ?_
      change wpAnyH _ _ _ _ _ _ _ (Act.put _ (some 91) _) _
      simp only [Act.put, List.setIfInBounds_toArray, List.set_cons_zero, List.set_cons_succ]
      refine wpAnyH_take (i := 32) (v := (.bool true)) rfl (by kernel_rfl) (by kernel_rfl) (by kernel_rfl) (fun _ _ _ h => h) (Or.inl ⟨by rfl, fun w' hs => by go_simp⟩) SD.out ?_
      change wpAnyH _ _ _ _ _ _ _ (Act.put _ (some 2) _) _
      simp only [Act.put, List.setIfInBounds_toArray, List.set_cons_zero, List.set_cons_succ]
      refine wpAnyH_done (by kernel_rfl) ?_ _
      go_wp2_with fail
      go_ret
      exact ⟨rfl, on B5.out (on BZ.out SD.out)⟩
end Go.Proofs.YtkfcofjmjbkekaaGreatDoor.fnPoliciesDone
