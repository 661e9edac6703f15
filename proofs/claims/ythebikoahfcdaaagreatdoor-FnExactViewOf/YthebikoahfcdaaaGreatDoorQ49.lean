/- Texts of this seat, joined. -/
import Derived.Deep.RegionHeld3
import Derived.Deep.RegionWith
import Derived.Deep.Cut
import Derived.Deep.CutRange
import Derived.Test.YthebikoahfcdaaaGreatDoorQ16
import Derived.Test.YthebikoahfcdaaaGreatDoorQ20
import Derived.Test.YthebikoahfcdaaaGreatDoorQ24
import Derived.Test.YthebikoahfcdaaaGreatDoorQ26
import Derived.Test.YthebikoahfcdaaaGreatDoorQ42
import Derived.Test.YthebikoahfcdaaaGreatDoorQ44
import Derived.Test.YthebikoahfcdaaaGreatDoorQ47
import Derived.Test.YthebikoahfcdaaaGreatDoorQ48
namespace Go.Proofs.YthebikoahfcdaaaGreatDoor
open Go.RowKit
set_option linter.unusedVariables false

set_option maxRecDepth 20000 in
set_option maxHeartbeats 8000000 in
theorem s_fault12 (q : Nat) (a0 a1 a2 a3 : Option Addr) (n0 c0 n1 c1 n2 c2 n3 c3 : Nat) (m h : Value) (X : Hst) (b : Nat) (w : World) (d : Oj w b a0 n0 c0 a1 n1 c1 a2 n2 c2 a3 n3 c3 m h X) (hv : Vb w q #[.slice a0 n0 c0, .slice a1 n1 c1, .slice a2 n2 c2, .slice a3 n3 c3, m, h, .int .i64 X.slot, .int .i64 X.left, .int .i64 X.clock] 47) :
    Calls Tryz.prog 16 #[.pointer (some ⟨q, 0, none⟩)] w fun e w' => e = .returned (.int .i64 (hoV X)) ∧ Below w.heap.size w w' := by
  obtain ⟨am, cm, rfl, _⟩ := d.mem.shape
  obtain ⟨ah, ch, rfl, _, lh2, gh⟩ := d.harts.shape
  obtain ⟨V, hV⟩ : ∃ V, hoV X = V := ⟨_, rfl⟩
  rw [hV]
  have HV : Hid (hoV X = V) := hV
  clear hV
  obtain ⟨lm, hlm⟩ : ∃ n, X.mem.length = n := ⟨_, rfl⟩
  obtain ⟨lh, hlh⟩ : ∃ n, X.harts.length = n := ⟨_, rfl⟩
  rw [hlm, hlh] at d hv
  rw [hlh] at gh
  have HLH : Hid (X.harts.length = lh) := hlh
  have GH : Hid (0 < lh → ∃ g, ah = some ⟨g, 0, none⟩) := gh
  have HL0 : Hid (n0 = X.pol.own.length) := d.pol.own.len
  have HM0 : (n0 : Int) ≤ 9223372036854775807 := by have := d.pol.own.cap; unfold maxLen at this; omega
  have HMH : (lh : Int) ≤ 9223372036854775807 := by obtain ⟨_, _, _, t1, t2, _⟩ := d.harts.shape; rw [hlh] at t1; unfold maxLen at t2; omega
  clear hlm hlh gh lh2
  have Q : Hid (Vb w q #[.slice a0 n0 c0, .slice a1 n1 c1, .slice a2 n2 c2, .slice a3 n3 c3, .slice am lm cm, .slice ah lh ch, .int .i64 X.slot, .int .i64 X.left, .int .i64 X.clock] 47) := hv
  have D : Hid (Oj w b a0 n0 c0 a1 n1 c1 a2 n2 c2 a3 n3 c3 (.slice am lm cm) (.slice ah lh ch) X) := d
  have HA : Hid (PolAt w q X.pol) := ⟨_, _, _, _, _, _, _, _, _, _, _, _, hv.cell 0 rfl, hv.cell 1 rfl, hv.cell 2 rfl, hv.cell 3 rfl, d.pol⟩
  clear d hv
  go_enter Tryz.func16, Tryz.ntmps16
  go_wp2_with fail
  refine (l6_fault _ X.pol _ HA.out).mono ?_
  rintro e w1 ⟨rfl, b1⟩
  have B1 : Hid (Below w.heap.size w w1) := b1
  have Q1 : Hid (Vb w1 q #[.slice a0 n0 c0, .slice a1 n1 c1, .slice a2 n2 c2, .slice a3 n3 c3, .slice am lm cm, .slice ah lh ch, .int .i64 X.slot, .int .i64 X.left, .int .i64 X.clock] 47) := Q.out.keep b1
  clear b1
  by_cases hz : pfV X.pol = 0
  case neg =>
    have E : Hid (pfV X.pol = V) := by show _ = _; rw [← HV.out, hoV, if_neg hz]
    rw [E.out] at hz ⊢
    go_wp2_with fail
    go_ret
    exact ⟨rfl, B1.out⟩
  have PZ : Hid (pfV X.pol = 0) := hz
  rw [hz]
  clear hz
  go_wp2_with fail
  refine wp_region_held (S := fun w' => Below w1.heap.size w1 w') (by kernel_rfl) ?_
  change wpAnyH _ _ _ _ _ _ _ _ (World.drew _)
  have SD : Hid (Below w1.heap.size w1 w1.drew) := (Below.refl _ _).drew
  generalize w1.drew = x0 at *
  refine wpAnyH_take (i := 0) (v := .pointer (some ⟨q, 0, none⟩)) rfl (by kernel_rfl) (by kernel_rfl) (by kernel_rfl) (fun _ _ _ h => h) (Or.inl ⟨by rfl, fun w' hs => by go_simp⟩) SD.out ?_
  change wpAnyH _ _ _ _ _ _ _ (Act.put _ (some 15) _) _
  simp only [Act.put, List.setIfInBounds_toArray, List.set_cons_zero, List.set_cons_succ]
  refine wpAnyH_take (i := 1) (v := .pointer (some ⟨q, 0, none⟩)) rfl (by kernel_rfl) (by kernel_rfl) (by kernel_rfl) (fun _ _ _ h => h) (Or.inl ⟨by rfl, fun w' hs => by go_simp⟩) SD.out ?_
  change wpAnyH _ _ _ _ _ _ _ (Act.put _ (some 16) _) _
  simp only [Act.put, List.setIfInBounds_toArray, List.set_cons_zero, List.set_cons_succ]
  refine wpAnyH_take (i := 2) (v := .pointer (some ⟨q, 4, none⟩)) rfl (by kernel_rfl) (by kernel_rfl) (by kernel_rfl) (fun _ _ _ h => h) (Or.inl ⟨by rfl, fun w' hs => by go_simp⟩) SD.out ?_
  change wpAnyH _ _ _ _ _ _ _ (Act.put _ (some 17) _) _
  simp only [Act.put, List.setIfInBounds_toArray, List.set_cons_zero, List.set_cons_succ]
  refine wpAnyH_take (i := 3) (v := .slice am lm cm) rfl (by kernel_rfl) (by kernel_rfl) (by kernel_rfl) (fun _ _ _ h => h) (Or.inl ⟨by rfl, fun w' hs => by have hq := Q1.out.keep hs; have y4 := hq.cell 4 rfl; go_simp⟩) SD.out ?_
  change wpAnyH _ _ _ _ _ _ _ (Act.put _ (some 18) _) _
  simp only [Act.put, List.setIfInBounds_toArray, List.set_cons_zero, List.set_cons_succ]
  refine wpAnyH_ready (rs := [4]) (by kernel_rfl) (by simp) ?_
  refine AllReadyH.cons rfl (fun K hK => ?_) AllReadyH.nil
  rw [if_pos (by rfl)]
  go_simp
  refine (l7_whole _ X.mem b _ ((D.out.mem.keep B1.out).keep SD.out)).mono ?_
  rintro e x1 ⟨rfl, hx1⟩
  rw [hx1]
  clear hx1 x1
  refine hK.out _ _ SD.out (fun _ => ?_)
  clear hK K
  cases hw : wholeB X.mem
  case false =>
    have E : Hid (1 = V) := by show _ = _; rw [← HV.out, hoV, if_pos PZ.out, if_neg (by rw [hw]; simp)]
    refine wpAnyH_take (i := 5) (v := .bool true) rfl (by kernel_rfl) (by kernel_rfl) (by kernel_rfl) (fun _ _ _ h => h) (Or.inl ⟨by rfl, fun w' hs => by go_simp⟩) SD.out ?_
    change wpAnyH _ _ _ _ _ _ _ (Act.put _ (some 20) _) _
    simp only [Act.put, List.setIfInBounds_toArray, List.set_cons_zero, List.set_cons_succ]
    refine wpAnyH_take (i := 6) (v := .bool true) rfl (by kernel_rfl) (by kernel_rfl) (by kernel_rfl) (fun _ _ _ h => h) (Or.inl ⟨by rfl, fun w' hs => by go_simp⟩) SD.out ?_
    change wpAnyH _ _ _ _ _ _ _ (Act.put _ (some 21) _) _
    simp only [Act.put, List.setIfInBounds_toArray, List.set_cons_zero, List.set_cons_succ]
    refine wpAnyH_take (i := 7) (v := undef) rfl (by kernel_rfl) (by kernel_rfl) (by kernel_rfl) (fun _ _ _ h => h) (Or.inr ⟨by rfl, rfl⟩) SD.out ?_
    change wpAnyH _ _ _ _ _ _ _ (Act.put _ (some 22) _) _
    simp only [Act.put, List.setIfInBounds_toArray, List.set_cons_zero, List.set_cons_succ]
    refine wpAnyH_take (i := 8) (v := undef) rfl (by kernel_rfl) (by kernel_rfl) (by kernel_rfl) (fun _ _ _ h => h) (Or.inr ⟨by rfl, rfl⟩) SD.out ?_
    change wpAnyH _ _ _ _ _ _ _ (Act.put _ (some 23) _) _
    simp only [Act.put, List.setIfInBounds_toArray, List.set_cons_zero, List.set_cons_succ]
    refine wpAnyH_take (i := 9) (v := undef) rfl (by kernel_rfl) (by kernel_rfl) (by kernel_rfl) (fun _ _ _ h => h) (Or.inr ⟨by rfl, rfl⟩) SD.out ?_
    change wpAnyH _ _ _ _ _ _ _ (Act.put _ (some 24) _) _
    simp only [Act.put, List.setIfInBounds_toArray, List.set_cons_zero, List.set_cons_succ]
    refine wpAnyH_take (i := 10) (v := undef) rfl (by kernel_rfl) (by kernel_rfl) (by kernel_rfl) (fun _ _ _ h => h) (Or.inr ⟨by rfl, rfl⟩) SD.out ?_
    change wpAnyH _ _ _ _ _ _ _ (Act.put _ (some 25) _) _
    simp only [Act.put, List.setIfInBounds_toArray, List.set_cons_zero, List.set_cons_succ]
    refine wpAnyH_take (i := 11) (v := undef) rfl (by kernel_rfl) (by kernel_rfl) (by kernel_rfl) (fun _ _ _ h => h) (Or.inr ⟨by rfl, rfl⟩) SD.out ?_
    change wpAnyH _ _ _ _ _ _ _ (Act.put _ (some 26) _) _
    simp only [Act.put, List.setIfInBounds_toArray, List.set_cons_zero, List.set_cons_succ]
    refine wpAnyH_take (i := 12) (v := undef) rfl (by kernel_rfl) (by kernel_rfl) (by kernel_rfl) (fun _ _ _ h => h) (Or.inr ⟨by rfl, rfl⟩) SD.out ?_
    change wpAnyH _ _ _ _ _ _ _ (Act.put _ (some 27) _) _
    simp only [Act.put, List.setIfInBounds_toArray, List.set_cons_zero, List.set_cons_succ]
    refine wpAnyH_take (i := 13) (v := undef) rfl (by kernel_rfl) (by kernel_rfl) (by kernel_rfl) (fun _ _ _ h => h) (Or.inr ⟨by rfl, rfl⟩) SD.out ?_
    change wpAnyH _ _ _ _ _ _ _ (Act.put _ (some 28) _) _
    simp only [Act.put, List.setIfInBounds_toArray, List.set_cons_zero, List.set_cons_succ]
    refine wpAnyH_take (i := 14) (v := undef) rfl (by kernel_rfl) (by kernel_rfl) (by kernel_rfl) (fun _ _ _ h => h) (Or.inr ⟨by rfl, rfl⟩) SD.out ?_
    change wpAnyH _ _ _ _ _ _ _ (Act.put _ (some 29) _) _
    simp only [Act.put, List.setIfInBounds_toArray, List.set_cons_zero, List.set_cons_succ]
    refine wpAnyH_take (i := 15) (v := undef) rfl (by kernel_rfl) (by kernel_rfl) (by kernel_rfl) (fun _ _ _ h => h) (Or.inr ⟨by rfl, rfl⟩) SD.out ?_
    change wpAnyH _ _ _ _ _ _ _ (Act.put _ (some 30) _) _
    simp only [Act.put, List.setIfInBounds_toArray, List.set_cons_zero, List.set_cons_succ]
    refine wpAnyH_take (i := 16) (v := undef) rfl (by kernel_rfl) (by kernel_rfl) (by kernel_rfl) (fun _ _ _ h => h) (Or.inr ⟨by rfl, rfl⟩) SD.out ?_
    change wpAnyH _ _ _ _ _ _ _ (Act.put _ (some 31) _) _
    simp only [Act.put, List.setIfInBounds_toArray, List.set_cons_zero, List.set_cons_succ]
    refine wpAnyH_take (i := 17) (v := undef) rfl (by kernel_rfl) (by kernel_rfl) (by kernel_rfl) (fun _ _ _ h => h) (Or.inr ⟨by rfl, rfl⟩) SD.out ?_
    change wpAnyH _ _ _ _ _ _ _ (Act.put _ (some 32) _) _
    simp only [Act.put, List.setIfInBounds_toArray, List.set_cons_zero, List.set_cons_succ]
    refine wpAnyH_take (i := 18) (v := undef) rfl (by kernel_rfl) (by kernel_rfl) (by kernel_rfl) (fun _ _ _ h => h) (Or.inr ⟨by rfl, rfl⟩) SD.out ?_
    change wpAnyH _ _ _ _ _ _ _ (Act.put _ (some 33) _) _
    simp only [Act.put, List.setIfInBounds_toArray, List.set_cons_zero, List.set_cons_succ]
    refine wpAnyH_take (i := 19) (v := .bool true) rfl (by kernel_rfl) (by kernel_rfl) (by kernel_rfl) (fun _ _ _ h => h) (Or.inl ⟨by rfl, fun w' hs => by go_simp⟩) SD.out ?_
    change wpAnyH _ _ _ _ _ _ _ (Act.put _ (some 34) _) _
    simp only [Act.put, List.setIfInBounds_toArray, List.set_cons_zero, List.set_cons_succ]
    refine wpAnyH_done (by kernel_rfl) ?_ _
    go_wp2_with fail
    go_ret
    exact ⟨ret_i E.out, on B1.out SD.out⟩
  refine wpAnyH_take (i := 5) (v := .bool false) rfl (by kernel_rfl) (by kernel_rfl) (by kernel_rfl) (fun _ _ _ h => h) (Or.inl ⟨by rfl, fun w' hs => by go_simp⟩) SD.out ?_
  change wpAnyH _ _ _ _ _ _ _ (Act.put _ (some 20) _) _
  simp only [Act.put, List.setIfInBounds_toArray, List.set_cons_zero, List.set_cons_succ]
  refine wpAnyH_take (i := 6) (v := .bool false) rfl (by kernel_rfl) (by kernel_rfl) (by kernel_rfl) (fun _ _ _ h => h) (Or.inl ⟨by rfl, fun w' hs => by go_simp⟩) SD.out ?_
  change wpAnyH _ _ _ _ _ _ _ (Act.put _ (some 21) _) _
  simp only [Act.put, List.setIfInBounds_toArray, List.set_cons_zero, List.set_cons_succ]
  refine wpAnyH_take (i := 7) (v := .pointer (some ⟨q, 0, none⟩)) rfl (by kernel_rfl) (by kernel_rfl) (by kernel_rfl) (fun _ _ _ h => h) (Or.inl ⟨by rfl, fun w' hs => by go_simp⟩) SD.out ?_
  change wpAnyH _ _ _ _ _ _ _ (Act.put _ (some 22) _) _
  simp only [Act.put, List.setIfInBounds_toArray, List.set_cons_zero, List.set_cons_succ]
  refine wpAnyH_take (i := 8) (v := .pointer (some ⟨q, 0, none⟩)) rfl (by kernel_rfl) (by kernel_rfl) (by kernel_rfl) (fun _ _ _ h => h) (Or.inl ⟨by rfl, fun w' hs => by go_simp⟩) SD.out ?_
  change wpAnyH _ _ _ _ _ _ _ (Act.put _ (some 23) _) _
  simp only [Act.put, List.setIfInBounds_toArray, List.set_cons_zero, List.set_cons_succ]
  refine wpAnyH_take (i := 9) (v := .pointer (some ⟨q, 5, none⟩)) rfl (by kernel_rfl) (by kernel_rfl) (by kernel_rfl) (fun _ _ _ h => h) (Or.inl ⟨by rfl, fun w' hs => by go_simp⟩) SD.out ?_
  change wpAnyH _ _ _ _ _ _ _ (Act.put _ (some 24) _) _
  simp only [Act.put, List.setIfInBounds_toArray, List.set_cons_zero, List.set_cons_succ]
  refine wpAnyH_take (i := 10) (v := .slice ah lh ch) rfl (by kernel_rfl) (by kernel_rfl) (by kernel_rfl) (fun _ _ _ h => h) (Or.inl ⟨by rfl, fun w' hs => by have hq := Q1.out.keep hs; have y5 := hq.cell 5 rfl; go_simp⟩) SD.out ?_
  change wpAnyH _ _ _ _ _ _ _ (Act.put _ (some 25) _) _
  simp only [Act.put, List.setIfInBounds_toArray, List.set_cons_zero, List.set_cons_succ]
  refine wpAnyH_take (i := 11) (v := .int .i64 (lh : Int)) rfl (by kernel_rfl) (by kernel_rfl) (by kernel_rfl) (fun _ _ _ h => h) (Or.inl ⟨by rfl, fun w' hs => by go_simp⟩) SD.out ?_
  change wpAnyH _ _ _ _ _ _ _ (Act.put _ (some 26) _) _
  simp only [Act.put, List.setIfInBounds_toArray, List.set_cons_zero, List.set_cons_succ]
  refine wpAnyH_take (i := 12) (v := .pointer (some ⟨q, 0, none⟩)) rfl (by kernel_rfl) (by kernel_rfl) (by kernel_rfl) (fun _ _ _ h => h) (Or.inl ⟨by rfl, fun w' hs => by go_simp⟩) SD.out ?_
  change wpAnyH _ _ _ _ _ _ _ (Act.put _ (some 27) _) _
  simp only [Act.put, List.setIfInBounds_toArray, List.set_cons_zero, List.set_cons_succ]
  refine wpAnyH_take (i := 13) (v := .pointer (some ⟨q, 0, none⟩)) rfl (by kernel_rfl) (by kernel_rfl) (by kernel_rfl) (fun _ _ _ h => h) (Or.inl ⟨by rfl, fun w' hs => by go_simp⟩) SD.out ?_
  change wpAnyH _ _ _ _ _ _ _ (Act.put _ (some 28) _) _
  simp only [Act.put, List.setIfInBounds_toArray, List.set_cons_zero, List.set_cons_succ]
  refine wpAnyH_take (i := 14) (v := .pointer (some ⟨q, 0, none⟩)) rfl (by kernel_rfl) (by kernel_rfl) (by kernel_rfl) (fun _ _ _ h => h) (Or.inl ⟨by rfl, fun w' hs => by go_simp⟩) SD.out ?_
  change wpAnyH _ _ _ _ _ _ _ (Act.put _ (some 29) _) _
  simp only [Act.put, List.setIfInBounds_toArray, List.set_cons_zero, List.set_cons_succ]
  refine wpAnyH_take (i := 15) (v := .pointer (some ⟨q, 0, none⟩)) rfl (by kernel_rfl) (by kernel_rfl) (by kernel_rfl) (fun _ _ _ h => h) (Or.inl ⟨by rfl, fun w' hs => by go_simp⟩) SD.out ?_
  change wpAnyH _ _ _ _ _ _ _ (Act.put _ (some 30) _) _
  simp only [Act.put, List.setIfInBounds_toArray, List.set_cons_zero, List.set_cons_succ]
  refine wpAnyH_take (i := 16) (v := .slice a0 n0 c0) rfl (by kernel_rfl) (by kernel_rfl) (by kernel_rfl) (fun _ _ _ h => h) (Or.inl ⟨by rfl, fun w' hs => by have hq := Q1.out.keep hs; have y0 := hq.cell 0 rfl; go_simp⟩) SD.out ?_
  change wpAnyH _ _ _ _ _ _ _ (Act.put _ (some 31) _) _
  simp only [Act.put, List.setIfInBounds_toArray, List.set_cons_zero, List.set_cons_succ]
  refine wpAnyH_take (i := 17) (v := .int .i64 (n0 : Int)) rfl (by kernel_rfl) (by kernel_rfl) (by kernel_rfl) (fun _ _ _ h => h) (Or.inl ⟨by rfl, fun w' hs => by go_simp⟩) SD.out ?_
  change wpAnyH _ _ _ _ _ _ _ (Act.put _ (some 32) _) _
  simp only [Act.put, List.setIfInBounds_toArray, List.set_cons_zero, List.set_cons_succ]
  by_cases hn : lh = n0
  case neg =>
    have E : Hid (1 = V) := by show _ = _; rw [← HV.out, hoV, if_pos PZ.out, if_neg (by rw [HLH.out, ← HL0.out]; exact fun k => hn k.2)]
    have hi : ¬ (lh : Int) = (n0 : Int) := by omega
    refine wpAnyH_take (i := 18) (v := .bool true) rfl (by kernel_rfl) (by kernel_rfl) (by kernel_rfl) (fun _ _ _ h => h) (Or.inl ⟨by rfl, fun w' hs => by go_simp⟩) SD.out ?_
    change wpAnyH _ _ _ _ _ _ _ (Act.put _ (some 33) _) _
    simp only [Act.put, List.setIfInBounds_toArray, List.set_cons_zero, List.set_cons_succ]
    refine wpAnyH_take (i := 19) (v := .bool true) rfl (by kernel_rfl) (by kernel_rfl) (by kernel_rfl) (fun _ _ _ h => h) (Or.inl ⟨by rfl, fun w' hs => by go_simp⟩) SD.out ?_
    change wpAnyH _ _ _ _ _ _ _ (Act.put _ (some 34) _) _
    simp only [Act.put, List.setIfInBounds_toArray, List.set_cons_zero, List.set_cons_succ]
    refine wpAnyH_done (by kernel_rfl) ?_ _
    go_wp2_with fail
    go_ret
    exact ⟨ret_i E.out, on B1.out SD.out⟩
  have ME : Hid (wholeB X.mem = true ∧ X.harts.length = X.pol.own.length) := ⟨hw, by rw [HLH.out, ← HL0.out]; exact hn⟩
  have hi : (lh : Int) = (n0 : Int) := by omega
  clear hn hw
  refine wpAnyH_take (i := 18) (v := .bool false) rfl (by kernel_rfl) (by kernel_rfl) (by kernel_rfl) (fun _ _ _ h => h) (Or.inl ⟨by rfl, fun w' hs => by go_simp⟩) SD.out ?_
  change wpAnyH _ _ _ _ _ _ _ (Act.put _ (some 33) _) _
  simp only [Act.put, List.setIfInBounds_toArray, List.set_cons_zero, List.set_cons_succ]
  refine wpAnyH_take (i := 19) (v := .bool false) rfl (by kernel_rfl) (by kernel_rfl) (by kernel_rfl) (fun _ _ _ h => h) (Or.inl ⟨by rfl, fun w' hs => by go_simp⟩) SD.out ?_
  change wpAnyH _ _ _ _ _ _ _ (Act.put _ (some 34) _) _
  simp only [Act.put, List.setIfInBounds_toArray, List.set_cons_zero, List.set_cons_succ]
  refine wpAnyH_done (by kernel_rfl) ?_ _
  clear hi HM0
  have B2 : Hid (Below w.heap.size w x0) := on B1.out SD.out
  have Q2 : Hid (Vb x0 q #[.slice a0 n0 c0, .slice a1 n1 c1, .slice a2 n2 c2, .slice a3 n3 c3, .slice am lm cm, .slice ah lh ch, .int .i64 X.slot, .int .i64 X.left, .int .i64 X.clock] 47) := Q.out.keep B2.out
  have q5 := Q2.out.cell 5 rfl
  clear SD Q1 B1
  go_wp2_with fail
  go_loop [4] (fun c => ∃ j : Nat, j ≤ lh ∧ c = .int .i64 j ∧ hartsV (X.harts.drop j) = hartsV X.harts) (fun c => lh - (intOf c).toNat)
  case atStart => exact ⟨0, Nat.zero_le _, rfl, rfl⟩
  case round =>
    obtain ⟨j, hj, rfl, hT⟩ := hrel
    have HT : Hid (hartsV (X.harts.drop j) = hartsV X.harts) := hT
    clear hT
    by_cases hlt : j < lh
    · obtain ⟨x1, e1⟩ := GH.out (by omega)
      subst e1
      obtain ⟨r, c, i, o, z1, z2, _⟩ := (D.out.harts.keep B2.out).at j (by rw [HLH.out]; exact hlt)
      have ST := harts_step X.harts j (by rw [HLH.out]; exact hlt)
      obtain ⟨H, hH⟩ : ∃ H, X.harts.getD j voidH = H := ⟨_, rfl⟩
      rw [hH] at z1 z2 ST
      have HST : Hid (_ = _) := ST
      have Z1 : Hid (Hc x0 ⟨x1, j * 9, none⟩ r c i o H) := z1
      have Z2 : Hid (Hm x0 b r c i o H) := z2
      have hI : (j : Int) < (lh : Int) := by omega
      have HL : Hid (j < lh) := hlt
      clear z1 z2 hH hlt ST
      go_wp2_with fail
      refine (s_faultO _ _ _ _ _ _ H b _ Z2.out Z1.out.c0 Z1.out.c1 Z1.out.c2 Z1.out.c6 Z1.out.c7 Z1.out.c8).mono ?_
      rintro e w2 ⟨rfl, hw2⟩
      rw [hw2]
      clear hw2 w2
      by_cases hf : hfV H = 0
      · have HT2 : Hid (hartsV (X.harts.drop (j + 1)) = hartsV X.harts) := by
          have t := HST.out
          rw [if_pos hf, HT.out] at t
          exact t.symm
        rw [hf]
        clear hf
        go_wp2_with fail
        go_round
        case rel => exact ⟨j + 1, by have := HL.out; omega, by go_num, HT2.out⟩
        case measure => have := HL.out; simp [intOf]; omega
      · have HT2 : Hid (hfV H = V) := by
          have t := HST.out
          rw [if_neg hf, HT.out] at t
          show _ = _
          rw [← HV.out, hoV, if_pos PZ.out, if_pos ME.out, if_neg (by rw [t]; exact hf), t]
        rw [HT2.out] at hf ⊢
        go_wp2_with fail
        go_ret
        exact ⟨rfl, B2.out⟩
    · have hJ : ¬ (j : Int) < (lh : Int) := by omega
      have HZ : Hid (hartsV X.harts = 0) := by
        show _ = _
        rw [← HT.out, List.drop_of_length_le (by rw [HLH.out]; omega)]
        rfl
      have q8 := Q2.out.cell 8 rfl
      clear hlt
      cases hk : ckOk X.clock
      case false =>
        have HK : Hid ((decide (0 ≤ X.clock) && decide (X.clock ≤ 1000000)) = false) := hk
        have E : Hid (3 = V) := by show _ = _; rw [← HV.out, hoV, if_pos PZ.out, if_pos ME.out, if_pos HZ.out, if_neg (by rw [hk]; simp)]
        clear hk
        go_wp2_with (go_at_call 44; refine (l1_in _ _ _ _).mono ?_; rintro e w2 ⟨rfl, hw2⟩; rw [hw2]; clear hw2 w2; rw [HK.out])
        go_ret
        exact ⟨ret_i E.out, B2.out⟩
      have HK : Hid ((decide (0 ≤ X.clock) && decide (X.clock ≤ 1000000)) = true) := hk
      have CK : Hid (0 ≤ X.clock ∧ X.clock ≤ 1000000) := by show _ ∧ _; unfold ckOk at hk; simpa using hk
      have E : Hid ((if (tS X.pol X.clock).1 = X.slot ∧ (tS X.pol X.clock).2 = X.left then (0 : Int) else 1) = V) := by show _ = _; rw [← HV.out, hoV, if_pos PZ.out, if_pos ME.out, if_pos HZ.out, if_pos hk]
      clear hk
      go_wp2_with (go_at_call 44; refine (l1_in _ _ _ _).mono ?_; rintro e w2 ⟨rfl, hw2⟩; rw [hw2]; clear hw2 w2; rw [HK.out])
      clear q8 q5
      refine wp_region_held (S := fun w' => Below x0.heap.size x0 w') (by kernel_rfl) ?_
      change wpAnyH _ _ _ _ _ _ _ _ (World.drew _)
      have SD : Hid (Below x0.heap.size x0 x0.drew) := (Below.refl _ _).drew
      generalize x0.drew = x2 at *
      refine wpAnyH_take (i := 0) (v := .pointer (some ⟨q, 0, none⟩)) rfl (by kernel_rfl) (by kernel_rfl) (by kernel_rfl) (fun _ _ _ h => h) (Or.inl ⟨by rfl, fun w' hs => by go_simp⟩) SD.out ?_
      change wpAnyH _ _ _ _ _ _ _ (Act.put _ (some 61) _) _
      simp only [Act.put, List.setIfInBounds_toArray, List.set_cons_zero, List.set_cons_succ]
      refine wpAnyH_take (i := 1) (v := .pointer (some ⟨q, 0, none⟩)) rfl (by kernel_rfl) (by kernel_rfl) (by kernel_rfl) (fun _ _ _ h => h) (Or.inl ⟨by rfl, fun w' hs => by go_simp⟩) SD.out ?_
      change wpAnyH _ _ _ _ _ _ _ (Act.put _ (some 62) _) _
      simp only [Act.put, List.setIfInBounds_toArray, List.set_cons_zero, List.set_cons_succ]
      refine wpAnyH_take (i := 2) (v := .pointer (some ⟨q, 0, none⟩)) rfl (by kernel_rfl) (by kernel_rfl) (by kernel_rfl) (fun _ _ _ h => h) (Or.inl ⟨by rfl, fun w' hs => by go_simp⟩) SD.out ?_
      change wpAnyH _ _ _ _ _ _ _ (Act.put _ (some 63) _) _
      simp only [Act.put, List.setIfInBounds_toArray, List.set_cons_zero, List.set_cons_succ]
      refine wpAnyH_take (i := 3) (v := .pointer (some ⟨q, 0, none⟩)) rfl (by kernel_rfl) (by kernel_rfl) (by kernel_rfl) (fun _ _ _ h => h) (Or.inl ⟨by rfl, fun w' hs => by go_simp⟩) SD.out ?_
      change wpAnyH _ _ _ _ _ _ _ (Act.put _ (some 64) _) _
      simp only [Act.put, List.setIfInBounds_toArray, List.set_cons_zero, List.set_cons_succ]
      refine wpAnyH_take (i := 4) (v := .pointer (some ⟨q, 0, none⟩)) rfl (by kernel_rfl) (by kernel_rfl) (by kernel_rfl) (fun _ _ _ h => h) (Or.inl ⟨by rfl, fun w' hs => by go_simp⟩) SD.out ?_
      change wpAnyH _ _ _ _ _ _ _ (Act.put _ (some 65) _) _
      simp only [Act.put, List.setIfInBounds_toArray, List.set_cons_zero, List.set_cons_succ]
      refine wpAnyH_take (i := 5) (v := .pointer (some ⟨q, 8, none⟩)) rfl (by kernel_rfl) (by kernel_rfl) (by kernel_rfl) (fun _ _ _ h => h) (Or.inl ⟨by rfl, fun w' hs => by go_simp⟩) SD.out ?_
      change wpAnyH _ _ _ _ _ _ _ (Act.put _ (some 66) _) _
      simp only [Act.put, List.setIfInBounds_toArray, List.set_cons_zero, List.set_cons_succ]
      refine wpAnyH_take (i := 6) (v := .int .i64 X.clock) rfl (by kernel_rfl) (by kernel_rfl) (by kernel_rfl) (fun _ _ _ h => h) (Or.inl ⟨by rfl, fun w' hs => by have hq := Q2.out.keep hs; have y8 := hq.cell 8 rfl; go_simp⟩) SD.out ?_
      change wpAnyH _ _ _ _ _ _ _ (Act.put _ (some 67) _) _
      simp only [Act.put, List.setIfInBounds_toArray, List.set_cons_zero, List.set_cons_succ]
      refine wpAnyH_ready (rs := [7]) (by kernel_rfl) (by simp) ?_
      refine AllReadyH.cons rfl (fun K hK => ?_) AllReadyH.nil
      rw [if_pos (by rfl)]
      go_simp
      refine (s_turn _ X.clock X.pol _ ((HA.out.stay B2.out).stay SD.out) PZ.out CK.out.1 CK.out.2).mono ?_
      rintro e w3 ⟨rfl, b3⟩
      have S3 : Hid (Below x0.heap.size x0 w3) := on SD.out b3
      clear b3
      refine hK.out _ _ S3.out (fun _ => ?_)
      clear hK K
      obtain ⟨t1, ht1⟩ : ∃ t, (tS X.pol X.clock).1 = t := ⟨_, rfl⟩
      obtain ⟨t2, ht2⟩ : ∃ t, (tS X.pol X.clock).2 = t := ⟨_, rfl⟩
      rw [ht1, ht2] at E ⊢
      clear ht1 ht2
      refine wpAnyH_take (i := 8) (v := .tuple #[.int .i64 t1, .int .i64 t2]) rfl (by kernel_rfl) (by kernel_rfl) (by kernel_rfl) (fun _ _ _ h => h) (Or.inl ⟨by rfl, fun w' hs => by go_simp⟩) S3.out ?_
      change wpAnyH _ _ _ _ _ _ _ (Act.put _ (some 60) _) _
      simp only [Act.put, List.setIfInBounds_toArray, List.set_cons_zero, List.set_cons_succ]
      refine wpAnyH_take (i := 9) (v := .int .i64 t1) rfl (by kernel_rfl) (by kernel_rfl) (by kernel_rfl) (fun _ _ _ h => h) (Or.inl ⟨by rfl, fun w' hs => by go_simp⟩) S3.out ?_
      change wpAnyH _ _ _ _ _ _ _ (Act.put _ (some 69) _) _
      simp only [Act.put, List.setIfInBounds_toArray, List.set_cons_zero, List.set_cons_succ]
      refine wpAnyH_take (i := 10) (v := .int .i64 t2) rfl (by kernel_rfl) (by kernel_rfl) (by kernel_rfl) (fun _ _ _ h => h) (Or.inl ⟨by rfl, fun w' hs => by go_simp⟩) S3.out ?_
      change wpAnyH _ _ _ _ _ _ _ (Act.put _ (some 70) _) _
      simp only [Act.put, List.setIfInBounds_toArray, List.set_cons_zero, List.set_cons_succ]
      refine wpAnyH_take (i := 11) (v := .int .i64 t1) rfl (by kernel_rfl) (by kernel_rfl) (by kernel_rfl) (fun _ _ _ h => h) (Or.inl ⟨by rfl, fun w' hs => by go_simp⟩) S3.out ?_
      change wpAnyH _ _ _ _ _ _ _ (Act.put _ (some 6) _) _
      simp only [Act.put, List.setIfInBounds_toArray, List.set_cons_zero, List.set_cons_succ]
      refine wpAnyH_take (i := 12) (v := .int .i64 t2) rfl (by kernel_rfl) (by kernel_rfl) (by kernel_rfl) (fun _ _ _ h => h) (Or.inl ⟨by rfl, fun w' hs => by go_simp⟩) S3.out ?_
      change wpAnyH _ _ _ _ _ _ _ (Act.put _ (some 7) _) _
      simp only [Act.put, List.setIfInBounds_toArray, List.set_cons_zero, List.set_cons_succ]
      refine wpAnyH_done (by kernel_rfl) ?_ _
      have B3 : Hid (Below w.heap.size w w3) := on B2.out S3.out
      have Q3 : Hid (Vb w3 q #[.slice a0 n0 c0, .slice a1 n1 c1, .slice a2 n2 c2, .slice a3 n3 c3, .slice am lm cm, .slice ah lh ch, .int .i64 X.slot, .int .i64 X.left, .int .i64 X.clock] 47) := Q.out.keep B3.out
      have q6 := Q3.out.cell 6 rfl
      have q7 := Q3.out.cell 7 rfl
      by_cases h1 : t1 = X.slot
      · by_cases h2 : t2 = X.left
        · have E0 : Hid (0 = V) := by
            have t := E.out
            rw [if_pos ⟨h1, h2⟩] at t
            exact t
          subst h1 h2
          go_wp2_with fail
          go_ret
          exact ⟨ret_i E0.out, B3.out⟩
        · have E0 : Hid (1 = V) := by
            have t := E.out
            rw [if_neg (fun k => h2 k.2)] at t
            exact t
          have h3 : ¬ X.left = t2 := fun k => h2 k.symm
          subst h1
          go_wp2_with fail
          go_ret
          exact ⟨ret_i E0.out, B3.out⟩
      · have E0 : Hid (1 = V) := by
          have t := E.out
          rw [if_neg (fun k => h1 k.1)] at t
          exact t
        have h3 : ¬ X.slot = t1 := fun k => h1 k.symm
        go_wp2_with fail
        go_ret
        exact ⟨ret_i E0.out, B3.out⟩
end Go.Proofs.YthebikoahfcdaaaGreatDoor
namespace Go.Proofs.YthebikoahfcdaaaGreatDoor
open Go.RowKit
set_option linter.unusedVariables false

/-- The worlds behind W in which block q alone may have turned; its 11 cells are there. -/
def Sv11 (W : World) (q : Nat) (w' : World) : Prop := Mq (fun k => k = q) W w' ∧ w'.there q 0 11
theorem Sv11.step {W w w' : World} {q : Nat} (h : Sv11 W q w) (hq : q < W.heap.size) (b : Below w.heap.size w w') : Sv11 W q w' :=
  ⟨h.1.trans (Mq.of (below_grown b none) fun k e => by cases e), there_below h.2 (Nat.lt_of_lt_of_le hq h.1.size) b⟩
theorem Sv11.set {W w : World} {q : Nat} (h : Sv11 W q w) (vs : List Value) : Sv11 W q (w.setCells q 0 vs) := ⟨h.1.trans (mq_cells q vs w 0), World.there_setCells h.2 _ _ _⟩
set_option maxRecDepth 20000 in
set_option maxHeartbeats 8000000 in
theorem s_view13 (q : Nat) (a0 a1 a2 a3 : Option Addr) (n0 c0 n1 c1 n2 c2 n3 c3 : Nat) (m h : Value) (X : Hst) (g : Nat) (b : Nat) (w : World) (d : Oj w b a0 n0 c0 a1 n1 c1 a2 n2 c2 a3 n3 c3 m h X) (hv : Vb w q #[.slice a0 n0 c0, .slice a1 n1 c1, .slice a2 n2 c2, .slice a3 n3 c3, m, h, .int .i64 X.slot, .int .i64 X.left, .int .i64 X.clock] 47) (ok : Vok X g) :
    Calls Tryz.prog 18 #[.pointer (some ⟨q, 0, none⟩), .int .i64 (g : Int)] w fun e w' => ∃ r' c' i' o' l' m', e = .returned (.agg #[r', .int .i64 (X.harts.getD g voidH).pc, c', .bool (X.harts.getD g voidH).halted, .bool (X.harts.getD g voidH).waiting, .bool (X.harts.getD g voidH).rung, .int .i64 (X.harts.getD g voidH).done, i', o', l', m']) ∧ Vm w' w.heap.size r' c' i' o' l' m' (X.harts.getD g voidH) (wordsL X.mem (X.pol.own.getD g [])) (wordsL X.mem (gvL true (g : Int) X.pol.lanes)) ∧ Below w.heap.size w w' := by
  have OK : Hid (Vok X g) := ok
  clear ok
  obtain ⟨am, cm, rfl, _⟩ := d.mem.shape
  obtain ⟨ah, ch, rfl, hlc1, hlc2, gh⟩ := d.harts.shape
  obtain ⟨gm, hgm⟩ := sv_some d.mem (by have := OK.out.ml; omega)
  subst hgm
  obtain ⟨hb, hhb⟩ := gh (by have := OK.out.g0; have := OK.out.hl; omega)
  subst hhb
  clear gh
  have GN : Hid (g < n0 ∧ g < X.harts.length) := by have := d.pol.own.len; have := OK.out.g0; have := OK.out.hl; exact ⟨by omega, by omega⟩
  obtain ⟨x, ob, ol, oc, rfl, ko1, ko2⟩ := d.pol.own.at g GN.out.1
  obtain ⟨r, c, i, o, z1, z2, z3⟩ := d.harts.at g GN.out.2
  obtain ⟨H, hH⟩ : ∃ H, X.harts.getD g voidH = H := ⟨_, rfl⟩
  rw [hH] at z1 z2 ⊢
  have HK : Hid (Hok H) := by show Hok H; rw [← hH]; exact OK.out.hk
  clear hH z3
  obtain ⟨d0, k0, e0, _⟩ := z2.r.shape
  obtain ⟨d1, k1, e1, _⟩ := z2.c.shape
  obtain ⟨d2, k2, e2, _⟩ := z2.i.shape
  obtain ⟨d3, k3, e3, _⟩ := z2.o.shape
  subst e0 e1 e2 e3
  obtain ⟨m0, hm0⟩ : ∃ n, H.regs.length = n := ⟨_, rfl⟩
  obtain ⟨m1, hm1⟩ : ∃ n, H.csr.length = n := ⟨_, rfl⟩
  obtain ⟨m2, hm2⟩ : ∃ n, H.inn.length = n := ⟨_, rfl⟩
  obtain ⟨m3, hm3⟩ : ∃ n, H.out.length = n := ⟨_, rfl⟩
  obtain ⟨lm, hlm⟩ : ∃ n, X.mem.length = n := ⟨_, rfl⟩
  obtain ⟨lh, hlh⟩ : ∃ n, X.harts.length = n := ⟨_, rfl⟩
  rw [hm0, hm1, hm2, hm3] at z1 z2
  rw [hlm, hlh] at d hv
  have hgI : (g : Int) < (n0 : Int) := by have := GN.out.1; omega
  have hgL : (g : Int) < (lh : Int) := by have := GN.out.2; omega
  have hn0 : (n0 : Int) ≤ 9223372036854775807 := by have := d.pol.own.cap; unfold maxLen at this; omega
  have hnl : (lh : Int) ≤ 9223372036854775807 := by rw [hlh] at hlc1; unfold maxLen at hlc2; omega
  have LI : Hid (((g : Int) < (n0 : Int) ∧ (g : Int) < (lh : Int)) ∧ (n0 : Int) ≤ 9223372036854775807 ∧ (lh : Int) ≤ 9223372036854775807) := ⟨⟨hgI, hgL⟩, hn0, hnl⟩
  have ML : Hid (X.mem.length = lm) := hlm
  have D0 : Hid (Oj w b (some x) n0 c0 a1 n1 c1 a2 n2 c2 a3 n3 c3 (.slice (some ⟨gm, 0, none⟩) lm cm) (.slice (some ⟨hb, 0, none⟩) lh ch) X) := d
  have KO : Hid (w.cell? (x.add g) = some (.slice ob ol oc) ∧ IsNs w ob ol oc (X.pol.own.getD g [])) := ⟨ko1, ko2⟩
  have HC : Hid (Hc w ⟨hb, g * 9, none⟩ (.slice d0 m0 k0) (.slice d1 m1 k1) (.slice d2 m2 k2) (.slice d3 m3 k3) H) := z1
  have HM : Hid (Hm w b (.slice d0 m0 k0) (.slice d1 m1 k1) (.slice d2 m2 k2) (.slice d3 m3 k3) H) := z2
  clear hm0 hm1 hm2 hm3 hlm hlh ko1 ko2 z1 z2 hgI hgL hn0 hnl hlc1 hlc2 d
  have QH : Hid (Vb w q #[.slice (some x) n0 c0, .slice a1 n1 c1, .slice a2 n2 c2, .slice a3 n3 c3, .slice (some ⟨gm, 0, none⟩) lm cm, .slice (some ⟨hb, 0, none⟩) lh ch, .int .i64 X.slot, .int .i64 X.left, .int .i64 X.clock] 47) := hv
  clear hv
  generalize hW : w.alloc (.cells #[.slice none 0 0, .int .i64 0, .slice none 0 0, .bool false, .bool false, .bool false, .int .i64 0, .slice none 0 0, .slice none 0 0, .slice none 0 0, .slice none 0 0] 36) = W
  have B0 : Hid (Below w.heap.size w W) := by show Below _ _ _; rw [← hW]; exact al (Below.refl _ _) _
  obtain ⟨s, hS⟩ : ∃ s, w.heap.size = s := ⟨_, rfl⟩
  have HSs : Hid (w.heap.size = s) := hS
  have R : Hid (Vb W s #[.slice none 0 0, .int .i64 0, .slice none 0 0, .bool false, .bool false, .bool false, .int .i64 0, .slice none 0 0, .slice none 0 0, .slice none 0 0, .slice none 0 0] 36) := by show Vb _ _ _ _; rw [← hW, ← hS]; exact Vb.new _ _ _
  have LT : Hid (s < W.heap.size) := R.out.lt
  have BS : Hid (∀ w', Sv11 W s w' → Below w.heap.size w w') := fun w' hs => Mq.under B0.out hs.1 fun k e => by have := HSs.out; omega
  have Sv0 : Hid (Sv11 W s W.drew) := Sv11.step ⟨Mq.refl _ _, R.out.there 11 (by decide)⟩ LT.out (Below.refl _ _).drew
  have E0 : Hid (Below W.heap.size W W.drew) := (Below.refl _ _).drew
  go_enter Tryz.func18, Tryz.ntmps18
  go_upto_region 1 with fail
  clear hW hS
  refine wp_region_held (S := fun w' => Sv11 W s w') (by kernel_rfl) ?_
  change wpAnyH _ _ _ _ _ _ _ _ (World.drew _)
  generalize W.drew = v0 at *
  refine wpAnyH_take (i := 0) (v := (.pointer (some ⟨q, 0, none⟩))) rfl (by kernel_rfl) (by kernel_rfl) (by kernel_rfl) (fun _ _ _ h => h) (Or.inl ⟨by rfl, fun w' hs => by go_simp⟩) Sv0.out ?_
  change wpAnyH _ _ _ _ _ _ _ (Act.put _ (some 5) _) _
  simp only [Act.put, List.setIfInBounds_toArray, List.set_cons_zero, List.set_cons_succ]
  refine wpAnyH_take (i := 1) (v := (.pointer (some ⟨q, 0, none⟩))) rfl (by kernel_rfl) (by kernel_rfl) (by kernel_rfl) (fun _ _ _ h => h) (Or.inl ⟨by rfl, fun w' hs => by have q0 := (QH.out.keep (BS.out w' hs)).cell 0 rfl; go_simp⟩) Sv0.out ?_
  change wpAnyH _ _ _ _ _ _ _ (Act.put _ (some 6) _) _
  simp only [Act.put, List.setIfInBounds_toArray, List.set_cons_zero, List.set_cons_succ]
  refine wpAnyH_take (i := 2) (v := (.pointer (some ⟨q, 5, none⟩))) rfl (by kernel_rfl) (by kernel_rfl) (by kernel_rfl) (fun _ _ _ h => h) (Or.inl ⟨by rfl, fun w' hs => by go_simp⟩) Sv0.out ?_
  change wpAnyH _ _ _ _ _ _ _ (Act.put _ (some 7) _) _
  simp only [Act.put, List.setIfInBounds_toArray, List.set_cons_zero, List.set_cons_succ]
  refine wpAnyH_take (i := 3) (v := (.slice (some ⟨hb, 0, none⟩) lh ch)) rfl (by kernel_rfl) (by kernel_rfl) (by kernel_rfl) (fun _ _ _ h => h) (Or.inl ⟨by rfl, fun w' hs => by have q5 := (QH.out.keep (BS.out w' hs)).cell 5 rfl; go_simp⟩) Sv0.out ?_
  change wpAnyH _ _ _ _ _ _ _ (Act.put _ (some 8) _) _
  simp only [Act.put, List.setIfInBounds_toArray, List.set_cons_zero, List.set_cons_succ]
  refine wpAnyH_take (i := 4) (v := (.int .i64 (g : Int))) rfl (by kernel_rfl) (by kernel_rfl) (by kernel_rfl) (fun _ _ _ h => h) (Or.inl ⟨by rfl, fun w' hs => by go_simp⟩) Sv0.out ?_
  change wpAnyH _ _ _ _ _ _ _ (Act.put _ (some 9) _) _
  simp only [Act.put, List.setIfInBounds_toArray, List.set_cons_zero, List.set_cons_succ]
  refine wpAnyH_take (i := 5) (v := (.pointer (some ⟨hb, g * 9, none⟩))) rfl (by kernel_rfl) (by kernel_rfl) (by kernel_rfl) (fun _ _ _ h => h) (Or.inl ⟨by rfl, fun w' hs => by have i1 := LI.out.1.1; have i2 := LI.out.1.2; have i3 := LI.out.2.1; have i4 := LI.out.2.2; have y0 := (HC.out.stay (BS.out w' hs)).c0; go_simp⟩) Sv0.out ?_
  change wpAnyH _ _ _ _ _ _ _ (Act.put _ (some 10) _) _
  simp only [Act.put, List.setIfInBounds_toArray, List.set_cons_zero, List.set_cons_succ]
  refine wpAnyH_take (i := 6) (v := (.agg #[.slice d0 m0 k0, .int .i64 H.pc, .slice d1 m1 k1, .bool H.halted, .bool H.waiting, .bool H.rung, .int .i64 H.done, .slice d2 m2 k2, .slice d3 m3 k3])) rfl (by kernel_rfl) (by kernel_rfl) (by kernel_rfl) (fun _ _ _ h => h) (Or.inl ⟨by rfl, fun w' hs => by have hq := HC.out.stay (BS.out w' hs); have y0 := hq.c0; have y1 := hq.c1; have y2 := hq.c2; have y3 := hq.c3; have y4 := hq.c4; have y5 := hq.c5; have y6 := hq.c6; have y7 := hq.c7; have y8 := hq.c8; go_simp⟩) Sv0.out ?_
  change wpAnyH _ _ _ _ _ _ _ (Act.put _ (some 11) _) _
  simp only [Act.put, List.setIfInBounds_toArray, List.set_cons_zero, List.set_cons_succ]
  refine wpAnyH_take (i := 8) (v := (.pointer (some ⟨q, 0, none⟩))) rfl (by kernel_rfl) (by kernel_rfl) (by kernel_rfl) (fun _ _ _ h => h) (Or.inl ⟨by rfl, fun w' hs => by go_simp⟩) Sv0.out ?_
  change wpAnyH _ _ _ _ _ _ _ (Act.put _ (some 13) _) _
  simp only [Act.put, List.setIfInBounds_toArray, List.set_cons_zero, List.set_cons_succ]
  refine wpAnyH_take (i := 9) (v := (.pointer (some ⟨q, 0, none⟩))) rfl (by kernel_rfl) (by kernel_rfl) (by kernel_rfl) (fun _ _ _ h => h) (Or.inl ⟨by rfl, fun w' hs => by have q0 := (QH.out.keep (BS.out w' hs)).cell 0 rfl; go_simp⟩) Sv0.out ?_
  change wpAnyH _ _ _ _ _ _ _ (Act.put _ (some 14) _) _
  simp only [Act.put, List.setIfInBounds_toArray, List.set_cons_zero, List.set_cons_succ]
  refine wpAnyH_take (i := 10) (v := (.pointer (some ⟨q, 4, none⟩))) rfl (by kernel_rfl) (by kernel_rfl) (by kernel_rfl) (fun _ _ _ h => h) (Or.inl ⟨by rfl, fun w' hs => by go_simp⟩) Sv0.out ?_
  change wpAnyH _ _ _ _ _ _ _ (Act.put _ (some 15) _) _
  simp only [Act.put, List.setIfInBounds_toArray, List.set_cons_zero, List.set_cons_succ]
  refine wpAnyH_take (i := 11) (v := (.slice (some ⟨gm, 0, none⟩) lm cm)) rfl (by kernel_rfl) (by kernel_rfl) (by kernel_rfl) (fun _ _ _ h => h) (Or.inl ⟨by rfl, fun w' hs => by have q4 := (QH.out.keep (BS.out w' hs)).cell 4 rfl; go_simp⟩) Sv0.out ?_
  change wpAnyH _ _ _ _ _ _ _ (Act.put _ (some 16) _) _
  simp only [Act.put, List.setIfInBounds_toArray, List.set_cons_zero, List.set_cons_succ]
  refine wpAnyH_take (i := 12) (v := (.pointer (some ⟨q, 0, none⟩))) rfl (by kernel_rfl) (by kernel_rfl) (by kernel_rfl) (fun _ _ _ h => h) (Or.inl ⟨by rfl, fun w' hs => by go_simp⟩) Sv0.out ?_
  change wpAnyH _ _ _ _ _ _ _ (Act.put _ (some 17) _) _
  simp only [Act.put, List.setIfInBounds_toArray, List.set_cons_zero, List.set_cons_succ]
  refine wpAnyH_take (i := 13) (v := (.pointer (some ⟨q, 0, none⟩))) rfl (by kernel_rfl) (by kernel_rfl) (by kernel_rfl) (fun _ _ _ h => h) (Or.inl ⟨by rfl, fun w' hs => by have q0 := (QH.out.keep (BS.out w' hs)).cell 0 rfl; go_simp⟩) Sv0.out ?_
  change wpAnyH _ _ _ _ _ _ _ (Act.put _ (some 18) _) _
  simp only [Act.put, List.setIfInBounds_toArray, List.set_cons_zero, List.set_cons_succ]
  refine wpAnyH_take (i := 14) (v := (.pointer (some ⟨q, 0, none⟩))) rfl (by kernel_rfl) (by kernel_rfl) (by kernel_rfl) (fun _ _ _ h => h) (Or.inl ⟨by rfl, fun w' hs => by go_simp⟩) Sv0.out ?_
  change wpAnyH _ _ _ _ _ _ _ (Act.put _ (some 19) _) _
  simp only [Act.put, List.setIfInBounds_toArray, List.set_cons_zero, List.set_cons_succ]
  refine wpAnyH_take (i := 15) (v := (.pointer (some ⟨q, 0, none⟩))) rfl (by kernel_rfl) (by kernel_rfl) (by kernel_rfl) (fun _ _ _ h => h) (Or.inl ⟨by rfl, fun w' hs => by go_simp⟩) Sv0.out ?_
  change wpAnyH _ _ _ _ _ _ _ (Act.put _ (some 20) _) _
  simp only [Act.put, List.setIfInBounds_toArray, List.set_cons_zero, List.set_cons_succ]
  refine wpAnyH_take (i := 16) (v := (.slice (some x) n0 c0)) rfl (by kernel_rfl) (by kernel_rfl) (by kernel_rfl) (fun _ _ _ h => h) (Or.inl ⟨by rfl, fun w' hs => by have q0 := (QH.out.keep (BS.out w' hs)).cell 0 rfl; go_simp⟩) Sv0.out ?_
  change wpAnyH _ _ _ _ _ _ _ (Act.put _ (some 21) _) _
  simp only [Act.put, List.setIfInBounds_toArray, List.set_cons_zero, List.set_cons_succ]
  refine wpAnyH_take (i := 17) (v := (.int .i64 (g : Int))) rfl (by kernel_rfl) (by kernel_rfl) (by kernel_rfl) (fun _ _ _ h => h) (Or.inl ⟨by rfl, fun w' hs => by go_simp⟩) Sv0.out ?_
  change wpAnyH _ _ _ _ _ _ _ (Act.put _ (some 22) _) _
  simp only [Act.put, List.setIfInBounds_toArray, List.set_cons_zero, List.set_cons_succ]
  refine wpAnyH_take (i := 18) (v := (.pointer (some (x.add g)))) rfl (by kernel_rfl) (by kernel_rfl) (by kernel_rfl) (fun _ _ _ h => h) (Or.inl ⟨by rfl, fun w' hs => by have i1 := LI.out.1.1; have i2 := LI.out.1.2; have i3 := LI.out.2.1; have i4 := LI.out.2.2; have y0 := cell_keep (BS.out w' hs) KO.out.1; go_simp⟩) Sv0.out ?_
  change wpAnyH _ _ _ _ _ _ _ (Act.put _ (some 23) _) _
  simp only [Act.put, List.setIfInBounds_toArray, List.set_cons_zero, List.set_cons_succ]
  refine wpAnyH_take (i := 19) (v := (.slice ob ol oc)) rfl (by kernel_rfl) (by kernel_rfl) (by kernel_rfl) (fun _ _ _ h => h) (Or.inl ⟨by rfl, fun w' hs => by have y0 := cell_keep (BS.out w' hs) KO.out.1; go_simp⟩) Sv0.out ?_
  change wpAnyH _ _ _ _ _ _ _ (Act.put _ (some 24) _) _
  simp only [Act.put, List.setIfInBounds_toArray, List.set_cons_zero, List.set_cons_succ]
  refine wpAnyH_take (i := 21) (v := (.pointer (some ⟨q, 0, none⟩))) rfl (by kernel_rfl) (by kernel_rfl) (by kernel_rfl) (fun _ _ _ h => h) (Or.inl ⟨by rfl, fun w' hs => by go_simp⟩) Sv0.out ?_
  change wpAnyH _ _ _ _ _ _ _ (Act.put _ (some 26) _) _
  simp only [Act.put, List.setIfInBounds_toArray, List.set_cons_zero, List.set_cons_succ]
  refine wpAnyH_take (i := 22) (v := (.pointer (some ⟨q, 0, none⟩))) rfl (by kernel_rfl) (by kernel_rfl) (by kernel_rfl) (fun _ _ _ h => h) (Or.inl ⟨by rfl, fun w' hs => by have q0 := (QH.out.keep (BS.out w' hs)).cell 0 rfl; go_simp⟩) Sv0.out ?_
  change wpAnyH _ _ _ _ _ _ _ (Act.put _ (some 27) _) _
  simp only [Act.put, List.setIfInBounds_toArray, List.set_cons_zero, List.set_cons_succ]
  refine wpAnyH_take (i := 23) (v := (.pointer (some ⟨q, 4, none⟩))) rfl (by kernel_rfl) (by kernel_rfl) (by kernel_rfl) (fun _ _ _ h => h) (Or.inl ⟨by rfl, fun w' hs => by go_simp⟩) Sv0.out ?_
  change wpAnyH _ _ _ _ _ _ _ (Act.put _ (some 28) _) _
  simp only [Act.put, List.setIfInBounds_toArray, List.set_cons_zero, List.set_cons_succ]
  refine wpAnyH_take (i := 24) (v := (.slice (some ⟨gm, 0, none⟩) lm cm)) rfl (by kernel_rfl) (by kernel_rfl) (by kernel_rfl) (fun _ _ _ h => h) (Or.inl ⟨by rfl, fun w' hs => by have q4 := (QH.out.keep (BS.out w' hs)).cell 4 rfl; go_simp⟩) Sv0.out ?_
  change wpAnyH _ _ _ _ _ _ _ (Act.put _ (some 29) _) _
  simp only [Act.put, List.setIfInBounds_toArray, List.set_cons_zero, List.set_cons_succ]
  refine wpAnyH_take (i := 25) (v := (.pointer (some ⟨q, 0, none⟩))) rfl (by kernel_rfl) (by kernel_rfl) (by kernel_rfl) (fun _ _ _ h => h) (Or.inl ⟨by rfl, fun w' hs => by go_simp⟩) Sv0.out ?_
  change wpAnyH _ _ _ _ _ _ _ (Act.put _ (some 30) _) _
  simp only [Act.put, List.setIfInBounds_toArray, List.set_cons_zero, List.set_cons_succ]
  refine wpAnyH_take (i := 26) (v := (.pointer (some ⟨q, 0, none⟩))) rfl (by kernel_rfl) (by kernel_rfl) (by kernel_rfl) (fun _ _ _ h => h) (Or.inl ⟨by rfl, fun w' hs => by have q0 := (QH.out.keep (BS.out w' hs)).cell 0 rfl; go_simp⟩) Sv0.out ?_
  change wpAnyH _ _ _ _ _ _ _ (Act.put _ (some 31) _) _
  simp only [Act.put, List.setIfInBounds_toArray, List.set_cons_zero, List.set_cons_succ]
  refine wpAnyH_take (i := 27) (v := (.pointer (some ⟨q, 0, none⟩))) rfl (by kernel_rfl) (by kernel_rfl) (by kernel_rfl) (fun _ _ _ h => h) (Or.inl ⟨by rfl, fun w' hs => by go_simp⟩) Sv0.out ?_
  change wpAnyH _ _ _ _ _ _ _ (Act.put _ (some 32) _) _
  simp only [Act.put, List.setIfInBounds_toArray, List.set_cons_zero, List.set_cons_succ]
  refine wpAnyH_take (i := 28) (v := (.int .i64 (g : Int))) rfl (by kernel_rfl) (by kernel_rfl) (by kernel_rfl) (fun _ _ _ h => h) (Or.inl ⟨by rfl, fun w' hs => by go_simp⟩) Sv0.out ?_
  change wpAnyH _ _ _ _ _ _ _ (Act.put _ (some 33) _) _
  simp only [Act.put, List.setIfInBounds_toArray, List.set_cons_zero, List.set_cons_succ]
  refine wpAnyH_ready (rs := [7]) (by kernel_rfl) (by simp) ?_
  refine AllReadyH.cons rfl (fun K hK => ?_) AllReadyH.nil
  rw [if_pos (by rfl)]
  go_simp
  refine (s_copy _ _ _ _ H b _ ((HM.out.keep B0.out).keep E0.out) (by have := HK.out.r16; omega) (by have := HK.out.c11; omega) (by have := HK.out.i40; omega) (by have := HK.out.o40; omega)).mono ?_
  rintro e v1 ⟨r2, c2, i2, o2, rfl, m2', A2, b2⟩
  obtain ⟨xa0, xk0, x0e, _⟩ := m2'.r.shape
  obtain ⟨xa1, xk1, x1e, _⟩ := m2'.c.shape
  obtain ⟨xa2, xk2, x2e, _⟩ := m2'.i.shape
  obtain ⟨xa3, xk3, x3e, _⟩ := m2'.o.shape
  subst x0e x1e x2e x3e
  obtain ⟨x0, hx0⟩ : ∃ n, H.regs.length = n := ⟨_, rfl⟩
  obtain ⟨x1, hx1⟩ : ∃ n, H.csr.length = n := ⟨_, rfl⟩
  obtain ⟨x2, hx2⟩ : ∃ n, H.inn.length = n := ⟨_, rfl⟩
  obtain ⟨x3, hx3⟩ : ∃ n, H.out.length = n := ⟨_, rfl⟩
  rw [hx0, hx1, hx2, hx3] at m2' A2 ⊢
  have M1 : Hid (Hm v1 v0.heap.size (.slice xa0 x0 xk0) (.slice xa1 x1 xk1) (.slice xa2 x2 xk2) (.slice xa3 x3 xk3) H) := m2'
  have A1 : Hid (Ha (.slice xa0 x0 xk0) (.slice xa1 x1 xk1) (.slice xa2 x2 xk2) (.slice xa3 x3 xk3)) := A2
  have Sv1 : Hid (Sv11 W s v1) := Sv0.out.step LT.out b2
  have D1 : Hid (Below W.heap.size W v1) := on E0.out b2
  clear m2' A2 b2 hx0 hx1 hx2 hx3
  refine hK.out _ _ Sv1.out (fun _ => ?_)
  clear hK K
  refine wpAnyH_ready (rs := [20]) (by kernel_rfl) (by simp) ?_
  refine AllReadyH.cons rfl (fun K hK => ?_) AllReadyH.nil
  rw [if_pos (by rfl)]
  go_simp
  refine (l7_wordsN gm lm cm b X.mem ob ol oc (X.pol.own.getD g []) v1 ((D0.out.mem.keep B0.out).keep D1.out) 24 (by omega) (by omega) OK.out.ml ((KO.out.2.stay B0.out).stay D1.out) OK.out.oo OK.out.o5).mono ?_
  rintro e v2 ⟨u4, rfl, n4, b4⟩
  obtain ⟨xa4, xk4, x4e, _⟩ := n4.shape
  obtain ⟨x4, hx4⟩ : ∃ n, (wordsL X.mem (X.pol.own.getD g [])).length = n := ⟨_, rfl⟩
  rw [hx4] at x4e
  subst x4e
  have M2 : Hid (Hm v2 v0.heap.size (.slice xa0 x0 xk0) (.slice xa1 x1 xk1) (.slice xa2 x2 xk2) (.slice xa3 x3 xk3) H) := M1.out.keep b4
  have N2 : Hid (Nums v2 v1.heap.size (.slice xa4 x4 xk4) (wordsL X.mem (X.pol.own.getD g []))) := n4
  have AL : Hid (Apt (.slice xa0 x0 xk0) (.slice xa4 x4 xk4) ∧ Apt (.slice xa1 x1 xk1) (.slice xa4 x4 xk4) ∧ Apt (.slice xa2 x2 xk2) (.slice xa4 x4 xk4) ∧ Apt (.slice xa3 x3 xk3) (.slice xa4 x4 xk4)) := ⟨M1.out.r.apt n4 (Nat.le_refl _), M1.out.c.apt n4 (Nat.le_refl _), M1.out.i.apt n4 (Nat.le_refl _), M1.out.o.apt n4 (Nat.le_refl _)⟩
  have Sv2 : Hid (Sv11 W s v2) := Sv1.out.step LT.out b4
  have D2 : Hid (Below W.heap.size W v2) := on D1.out b4
  clear n4 b4 hx4
  refine hK.out _ _ Sv2.out (fun _ => ?_)
  clear hK K
  refine wpAnyH_ready (rs := [29]) (by kernel_rfl) (by simp) ?_
  refine AllReadyH.cons rfl (fun K hK => ?_) AllReadyH.nil
  rw [if_pos (by rfl)]
  go_simp
  have PA : Hid (PolAt v2 q X.pol) := by
    have hq := QH.out.keep (on B0.out D2.out)
    exact ⟨_, _, _, _, _, _, _, _, _, _, _, _, hq.cell 0 rfl, hq.cell 1 rfl, hq.cell 2 rfl, hq.cell 3 rfl, (D0.out.pol.stay B0.out).stay D2.out⟩
  refine (s_gives true q (g : Int) X.pol v2 PA.out (by have := OK.out.l4; omega)).mono ?_
  rintro e v3 ⟨u5, rfl, n5, b5⟩
  obtain ⟨ga, gc, hgv, _, _, _⟩ := n5.shape
  obtain ⟨gl, hgl⟩ : ∃ n, (gvL true (g : Int) X.pol.lanes).length = n := ⟨_, rfl⟩
  rw [hgl] at hgv
  subst hgv
  have M3 : Hid (Hm v3 v0.heap.size (.slice xa0 x0 xk0) (.slice xa1 x1 xk1) (.slice xa2 x2 xk2) (.slice xa3 x3 xk3) H) := M2.out.keep b5
  have N3 : Hid (Nums v3 v1.heap.size (.slice xa4 x4 xk4) (wordsL X.mem (X.pol.own.getD g []))) := N2.out.keep b5
  have G3 : Hid (Nums v3 v2.heap.size (.slice ga gl gc) (gvL true (g : Int) X.pol.lanes)) := n5
  have Sv3 : Hid (Sv11 W s v3) := Sv2.out.step LT.out b5
  have D3 : Hid (Below W.heap.size W v3) := on D2.out b5
  clear n5 b5 hgl PA
  refine hK.out _ _ Sv3.out (fun _ => ?_)
  clear hK K
  refine wpAnyH_ready (rs := [30]) (by kernel_rfl) (by simp) ?_
  refine AllReadyH.cons rfl (fun K hK => ?_) AllReadyH.nil
  rw [if_pos (by rfl)]
  go_simp
  refine (l7_wordsN gm lm cm b X.mem ga gl gc (gvL true (g : Int) X.pol.lanes) v3 ((D0.out.mem.keep B0.out).keep D3.out) 24 (by omega) (by omega) OK.out.ml G3.out.read OK.out.gr (by have := OK.out.g4; omega)).mono ?_
  rintro e v4 ⟨u6, rfl, n6, b6⟩
  obtain ⟨xa5, xk5, x5e, _⟩ := n6.shape
  obtain ⟨x5, hx5⟩ : ∃ n, (wordsL X.mem (gvL true (g : Int) X.pol.lanes)).length = n := ⟨_, rfl⟩
  rw [hx5] at x5e
  subst x5e
  have M4 : Hid (Hm v4 v0.heap.size (.slice xa0 x0 xk0) (.slice xa1 x1 xk1) (.slice xa2 x2 xk2) (.slice xa3 x3 xk3) H) := M3.out.keep b6
  have N4 : Hid (Nums v4 v1.heap.size (.slice xa4 x4 xk4) (wordsL X.mem (X.pol.own.getD g [])) ∧ Nums v4 v3.heap.size (.slice xa5 x5 xk5) (wordsL X.mem (gvL true (g : Int) X.pol.lanes))) := ⟨N3.out.keep b6, n6⟩
  have AM : Hid ((Apt (.slice xa0 x0 xk0) (.slice xa5 x5 xk5) ∧ Apt (.slice xa1 x1 xk1) (.slice xa5 x5 xk5) ∧ Apt (.slice xa2 x2 xk2) (.slice xa5 x5 xk5) ∧ Apt (.slice xa3 x3 xk3) (.slice xa5 x5 xk5)) ∧ Apt (.slice xa4 x4 xk4) (.slice xa5 x5 xk5)) := ⟨⟨M3.out.r.apt n6 (Nat.le_refl _), M3.out.c.apt n6 (Nat.le_refl _), M3.out.i.apt n6 (Nat.le_refl _), M3.out.o.apt n6 (Nat.le_refl _)⟩, N3.out.apt n6 (Nat.le_refl _)⟩
  have Sv4 : Hid (Sv11 W s v4) := Sv3.out.step LT.out b6
  have ZZ : Hid (W.heap.size ≤ v0.heap.size ∧ W.heap.size ≤ v1.heap.size ∧ W.heap.size ≤ v3.heap.size) := ⟨E0.out.size, D1.out.size, D3.out.size⟩
  clear n6 b6 hx5
  refine hK.out _ _ Sv4.out (fun _ => ?_)
  clear hK K
  refine wpAnyH_take (i := 31) (v := (.agg #[.slice xa0 x0 xk0, .int .i64 H.pc, .slice xa1 x1 xk1, .bool H.halted, .bool H.waiting, .bool H.rung, .int .i64 H.done, .slice xa2 x2 xk2, .slice xa3 x3 xk3, .slice xa4 x4 xk4, .slice xa5 x5 xk5])) rfl (by kernel_rfl) (by kernel_rfl) (by kernel_rfl) (fun _ _ _ h => h) (Or.inl ⟨by rfl, fun w' hs => by go_simp⟩) Sv4.out ?_
  change wpAnyH _ _ _ _ _ _ _ (Act.put _ (some 36) _) _
  simp only [Act.put, List.setIfInBounds_toArray, List.set_cons_zero, List.set_cons_succ]
  refine wpAnyH_ready (rs := [32]) (by kernel_rfl) (by simp) ?_
  refine AllReadyH.cons rfl (fun K hK => ?_) AllReadyH.nil
  rw [if_pos (by rfl)]
  refine wp_store_mid 36 (.tmp 4) (.tmp 36) rfl s 0 #[.slice xa0 x0 xk0, .int .i64 H.pc, .slice xa1 x1 xk1, .bool H.halted, .bool H.waiting, .bool H.rung, .int .i64 H.done, .slice xa2 x2 xk2, .slice xa3 x3 xk3, .slice xa4 x4 xk4, .slice xa5 x5 xk5] rfl rfl Sv4.out.2 (by kernel_rfl) (by simp [Value.oneCell']) ?_
  change K (Act.put _ none undef) _
  simp only [Act.put]
  have S6 : Hid (Sv11 W s (v4.setCells s 0 #[.slice xa0 x0 xk0, .int .i64 H.pc, .slice xa1 x1 xk1, .bool H.halted, .bool H.waiting, .bool H.rung, .int .i64 H.done, .slice xa2 x2 xk2, .slice xa3 x3 xk3, .slice xa4 x4 xk4, .slice xa5 x5 xk5].toList)) := Sv4.out.set _
  have R6 : Hid ((v4.setCells s 0 #[.slice xa0 x0 xk0, .int .i64 H.pc, .slice xa1 x1 xk1, .bool H.halted, .bool H.waiting, .bool H.rung, .int .i64 H.done, .slice xa2 x2 xk2, .slice xa3 x3 xk3, .slice xa4 x4 xk4, .slice xa5 x5 xk5].toList).rangeAt s 0 #[.slice xa0 x0 xk0, .int .i64 H.pc, .slice xa1 x1 xk1, .bool H.halted, .bool H.waiting, .bool H.rung, .int .i64 H.done, .slice xa2 x2 xk2, .slice xa3 x3 xk3, .slice xa4 x4 xk4, .slice xa5 x5 xk5].toList) := World.rangeAt_setCells_same _ _ _ _ Sv4.out.2
  have Q6 : Hid (Mq (fun k => k = s) v4 (v4.setCells s 0 #[.slice xa0 x0 xk0, .int .i64 H.pc, .slice xa1 x1 xk1, .bool H.halted, .bool H.waiting, .bool H.rung, .int .i64 H.done, .slice xa2 x2 xk2, .slice xa3 x3 xk3, .slice xa4 x4 xk4, .slice xa5 x5 xk5].toList)) := mq_cells s _ v4 0
  generalize v4.setCells s 0 #[.slice xa0 x0 xk0, .int .i64 H.pc, .slice xa1 x1 xk1, .bool H.halted, .bool H.waiting, .bool H.rung, .int .i64 H.done, .slice xa2 x2 xk2, .slice xa3 x3 xk3, .slice xa4 x4 xk4, .slice xa5 x5 xk5].toList = v6 at *
  refine hK.out _ _ S6.out (fun _ => ?_)
  clear hK K
  refine wpAnyH_done (by kernel_rfl) ?_ _
  have z1 : w.heap.size ≤ W.heap.size := B0.out.size
  have z2 := ZZ.out
  have o6 : Ho W.heap.size v4 v6 := Q6.out.ho fun k e => by have := LT.out; omega
  have F : Hid (Vm v6 w.heap.size (.slice xa0 x0 xk0) (.slice xa1 x1 xk1) (.slice xa2 x2 xk2) (.slice xa3 x3 xk3) (.slice xa4 x4 xk4) (.slice xa5 x5 xk5) H (wordsL X.mem (X.pol.own.getD g [])) (wordsL X.mem (gvL true (g : Int) X.pol.lanes))) :=
    ⟨((M4.out.mono z2.1).ho o6).mono z1, A1.out, ((N4.out.1.mono z2.2.1).ho o6).mono z1, ((N4.out.2.mono z2.2.2).ho o6).mono z1, AL.out.1, AL.out.2.1, AL.out.2.2.1, AL.out.2.2.2, AM.out.2, AM.out.1.1, AM.out.1.2.1, AM.out.1.2.2.1, AM.out.1.2.2.2⟩
  have B6 : Hid (Below w.heap.size w v6) := BS.out _ S6.out
  have LD := run_loadVar_mid (P := Tryz.prog) v6 s 0 36 #[.slice xa0 x0 xk0, .int .i64 H.pc, .slice xa1 x1 xk1, .bool H.halted, .bool H.waiting, .bool H.rung, .int .i64 H.done, .slice xa2 x2 xk2, .slice xa3 x3 xk3, .slice xa4 x4 xk4, .slice xa5 x5 xk5].toList _ R6.out Tryz.underlying36 rfl (by kernel_rfl)
  go_wp2_with fail
  exact bodyPost_ret (v := .agg #[.slice xa0 x0 xk0, .int .i64 H.pc, .slice xa1 x1 xk1, .bool H.halted, .bool H.waiting, .bool H.rung, .int .i64 H.done, .slice xa2 x2 xk2, .slice xa3 x3 xk3, .slice xa4 x4 xk4, .slice xa5 x5 xk5]) (by simp [results, Tryz.results18, asAddr]; rw [LD]) rfl ⟨_, _, _, _, _, _, rfl, F.out, B6.out⟩
set_option maxRecDepth 20000 in
set_option maxHeartbeats 8000000 in
theorem svf_fault (a0 a1 a2 a3 : Option Addr) (n0 c0 n1 c1 n2 c2 n3 c3 : Nat) (m h : Value) (X : Hst) (gu : Int) (b : Nat) (w : World) (d : Oj w b a0 n0 c0 a1 n1 c1 a2 n2 c2 a3 n3 c3 m h X) (hv : hoV X ≠ 0) :
    Calls Tryz.prog 5 #[.agg #[.slice a0 n0 c0, .slice a1 n1 c1, .slice a2 n2 c2, .slice a3 n3 c3, m, h, .int .i64 X.slot, .int .i64 X.left, .int .i64 X.clock], .int .i64 gu] w fun e w' => ∃ r' c' i' o' l' m', e = .returned (.agg #[.int .i64 (voC X gu), r', .int .i64 (voH X gu).pc, c', .bool (voH X gu).halted, .bool (voH X gu).waiting, .bool (voH X gu).rung, .int .i64 (voH X gu).done, i', o', l', m']) ∧ Vm w' w.heap.size r' c' i' o' l' m' (voH X gu) (voO X gu) (voG X gu) ∧ Below w.heap.size w w' := by
  have hx : voC X gu = hoV X := by rw [voC, if_neg hv]
  have hu := vo_not X gu (by rw [hx]; exact hv)
  rw [hu.1, hu.2.1, hu.2.2, hx]
  obtain ⟨cx, hcx⟩ : ∃ cx, hoV X = cx := ⟨_, rfl⟩
  rw [hcx] at hv ⊢
  have HV : Hid (hoV X = cx) := hcx
  clear hu hx hcx
  obtain ⟨am, cm, rfl, _⟩ := d.mem.shape
  obtain ⟨ah, ch, rfl, _, _, gh⟩ := d.harts.shape
  obtain ⟨lm, hlm⟩ : ∃ n, X.mem.length = n := ⟨_, rfl⟩
  obtain ⟨lh, hlh⟩ : ∃ n, X.harts.length = n := ⟨_, rfl⟩
  rw [hlm, hlh] at d ⊢
  rw [hlh] at gh
  clear hlm hlh gh
  generalize hW : (w.alloc (.cells #[.slice a0 n0 c0, .slice a1 n1 c1, .slice a2 n2 c2, .slice a3 n3 c3, .slice am lm cm, .slice ah lh ch, .int .i64 X.slot, .int .i64 X.left, .int .i64 X.clock] 47)).alloc (.cells #[.int .i64 0, .slice none 0 0, .int .i64 0, .slice none 0 0, .bool false, .bool false, .bool false, .int .i64 0, .slice none 0 0, .slice none 0 0, .slice none 0 0, .slice none 0 0] 38) = W
  have B0 : Hid (Below w.heap.size w W) := by show Below _ _ _; rw [← hW]; exact al (al (Below.refl _ _) _) _
  obtain ⟨s, hS⟩ : ∃ s, w.heap.size = s := ⟨_, rfl⟩
  have HSs : Hid (w.heap.size = s) := hS
  have z1 : s + 1 = (w.alloc (.cells #[.slice a0 n0 c0, .slice a1 n1 c1, .slice a2 n2 c2, .slice a3 n3 c3, .slice am lm cm, .slice ah lh ch, .int .i64 X.slot, .int .i64 X.left, .int .i64 X.clock] 47)).heap.size := by rw [← hS]; simp
  have Q : Hid (Vb W s #[.slice a0 n0 c0, .slice a1 n1 c1, .slice a2 n2 c2, .slice a3 n3 c3, .slice am lm cm, .slice ah lh ch, .int .i64 X.slot, .int .i64 X.left, .int .i64 X.clock] 47) := by show Vb _ _ _ _; rw [← hW, ← hS]; exact (Vb.new _ _ _).push _
  have R : Hid (Vb W (s + 1) #[.int .i64 0, .slice none 0 0, .int .i64 0, .slice none 0 0, .bool false, .bool false, .bool false, .int .i64 0, .slice none 0 0, .slice none 0 0, .slice none 0 0, .slice none 0 0] 38) := by show Vb _ _ _ _; rw [← hW, z1]; exact Vb.new _ _ _
  clear z1
  have D : Hid (Oj W b a0 n0 c0 a1 n1 c1 a2 n2 c2 a3 n3 c3 (.slice am lm cm) (.slice ah lh ch) X) := d.keep B0.out
  clear d
  go_enter Tryz.func5, Tryz.ntmps5
  go_wp2_with fail
  clear hW hS
  refine (s_fault12 s _ _ _ _ _ _ _ _ _ _ _ _ _ _ X b _ D.out Q.out).mono ?_
  rw [HV.out]
  rintro e wz ⟨rfl, b1⟩
  have B1 : Hid (Below w.heap.size w wz) := on B0.out b1
  have R1 : Hid (Vb wz (s + 1) #[.int .i64 0, .slice none 0 0, .int .i64 0, .slice none 0 0, .bool false, .bool false, .bool false, .int .i64 0, .slice none 0 0, .slice none 0 0, .slice none 0 0, .slice none 0 0] 38) := R.out.keep b1
  clear b1
  have p0 := R1.out.cell 0 rfl
  have f0 := R1.out.free 0
  have p1 := R1.out.cell 1 rfl
  have f1 := R1.out.free 1
  have p2 := R1.out.cell 2 rfl
  have f2 := R1.out.free 2
  have p3 := R1.out.cell 3 rfl
  have f3 := R1.out.free 3
  have p4 := R1.out.cell 4 rfl
  have f4 := R1.out.free 4
  have p5 := R1.out.cell 5 rfl
  have f5 := R1.out.free 5
  have p6 := R1.out.cell 6 rfl
  have f6 := R1.out.free 6
  have p7 := R1.out.cell 7 rfl
  have f7 := R1.out.free 7
  have p8 := R1.out.cell 8 rfl
  have f8 := R1.out.free 8
  have p9 := R1.out.cell 9 rfl
  have f9 := R1.out.free 9
  have p10 := R1.out.cell 10 rfl
  have f10 := R1.out.free 10
  have p11 := R1.out.cell 11 rfl
  have f11 := R1.out.free 11
  have lt := R1.out.lt
  go_wp2_with fail
  clear lt p0 f0 p1 f1 p2 f2 p3 f3 p4 f4 p5 f5 p6 f6 p7 f7 p8 f8 p9 f9 p10 f10 p11 f11
  have NN : Hid (_ ∧ _) := twelveV R1.out (.int .i64 cx) (.slice none 0 0) (.int .i64 0) (.slice none 0 0) (.bool false) (.bool false) (.bool false) (.int .i64 0) (.slice none 0 0) (.slice none 0 0) (.slice none 0 0) (.slice none 0 0)
  generalize ((((((((((((wz.setCell ⟨s + 1, 0, none⟩ (.int .i64 cx)).setCell ⟨s + 1, 1, none⟩ (.slice none 0 0)).setCell ⟨s + 1, 2, none⟩ (.int .i64 0)).setCell ⟨s + 1, 3, none⟩ (.slice none 0 0)).setCell ⟨s + 1, 4, none⟩ (.bool false)).setCell ⟨s + 1, 5, none⟩ (.bool false)).setCell ⟨s + 1, 6, none⟩ (.bool false)).setCell ⟨s + 1, 7, none⟩ (.int .i64 0)).setCell ⟨s + 1, 8, none⟩ (.slice none 0 0)).setCell ⟨s + 1, 9, none⟩ (.slice none 0 0)).setCell ⟨s + 1, 10, none⟩ (.slice none 0 0)).setCell ⟨s + 1, 11, none⟩ (.slice none 0 0)) = W9 at *
  have x0 := NN.out.1.cell 0 rfl
  have x1 := NN.out.1.cell 1 rfl
  have x2 := NN.out.1.cell 2 rfl
  have x3 := NN.out.1.cell 3 rfl
  have x4 := NN.out.1.cell 4 rfl
  have x5 := NN.out.1.cell 5 rfl
  have x6 := NN.out.1.cell 6 rfl
  have x7 := NN.out.1.cell 7 rfl
  have x8 := NN.out.1.cell 8 rfl
  have x9 := NN.out.1.cell 9 rfl
  have x10 := NN.out.1.cell 10 rfl
  have x11 := NN.out.1.cell 11 rfl
  exact bodyPost_ret (v := .agg #[.int .i64 cx, .slice none 0 0, .int .i64 0, .slice none 0 0, .bool false, .bool false, .bool false, .int .i64 0, .slice none 0 0, .slice none 0 0, .slice none 0 0, .slice none 0 0]) (by simp [results, Tryz.results5, go_sem, x0, x1, x2, x3, x4, x5, x6, x7, x8, x9, x10, x11]) rfl ⟨_, _, _, _, _, _, rfl, vm_void _ _, Mq.under B1.out NN.out.2 fun k e => by have := HSs.out; omega⟩
set_option maxRecDepth 20000 in
set_option maxHeartbeats 8000000 in
theorem svf_none (a0 a1 a2 a3 : Option Addr) (n0 c0 n1 c1 n2 c2 n3 c3 : Nat) (m h : Value) (X : Hst) (gu : Int) (b : Nat) (w : World) (d : Oj w b a0 n0 c0 a1 n1 c1 a2 n2 c2 a3 n3 c3 m h X) (hv : hoV X = 0) (hgu : isG X.pol.own.length gu = false) :
    Calls Tryz.prog 5 #[.agg #[.slice a0 n0 c0, .slice a1 n1 c1, .slice a2 n2 c2, .slice a3 n3 c3, m, h, .int .i64 X.slot, .int .i64 X.left, .int .i64 X.clock], .int .i64 gu] w fun e w' => ∃ r' c' i' o' l' m', e = .returned (.agg #[.int .i64 (voC X gu), r', .int .i64 (voH X gu).pc, c', .bool (voH X gu).halted, .bool (voH X gu).waiting, .bool (voH X gu).rung, .int .i64 (voH X gu).done, i', o', l', m']) ∧ Vm w' w.heap.size r' c' i' o' l' m' (voH X gu) (voO X gu) (voG X gu) ∧ Below w.heap.size w w' := by
  have hx : voC X gu = 4 := by rw [voC, if_pos hv, if_neg (by rw [hgu]; decide)]
  have hu := vo_not X gu (by rw [hx]; decide)
  rw [hu.1, hu.2.1, hu.2.2, hx]
  have HV : Hid (hoV X = 0) := hv
  have hG : isG n0 gu = false := by rw [d.pol.own.len]; exact hgu
  have HM0 : (n0 : Int) ≤ 9223372036854775807 := by have := d.pol.own.cap; unfold maxLen at this; omega
  have NG : Hid (isG n0 gu = false ∧ (n0 : Int) ≤ 9223372036854775807) := ⟨hG, HM0⟩
  clear hu hx hv hgu hG HM0
  obtain ⟨am, cm, rfl, _⟩ := d.mem.shape
  obtain ⟨ah, ch, rfl, _, _, gh⟩ := d.harts.shape
  obtain ⟨lm, hlm⟩ : ∃ n, X.mem.length = n := ⟨_, rfl⟩
  obtain ⟨lh, hlh⟩ : ∃ n, X.harts.length = n := ⟨_, rfl⟩
  rw [hlm, hlh] at d ⊢
  rw [hlh] at gh
  clear hlm hlh gh
  generalize hW : (w.alloc (.cells #[.slice a0 n0 c0, .slice a1 n1 c1, .slice a2 n2 c2, .slice a3 n3 c3, .slice am lm cm, .slice ah lh ch, .int .i64 X.slot, .int .i64 X.left, .int .i64 X.clock] 47)).alloc (.cells #[.int .i64 0, .slice none 0 0, .int .i64 0, .slice none 0 0, .bool false, .bool false, .bool false, .int .i64 0, .slice none 0 0, .slice none 0 0, .slice none 0 0, .slice none 0 0] 38) = W
  have B0 : Hid (Below w.heap.size w W) := by show Below _ _ _; rw [← hW]; exact al (al (Below.refl _ _) _) _
  obtain ⟨s, hS⟩ : ∃ s, w.heap.size = s := ⟨_, rfl⟩
  have HSs : Hid (w.heap.size = s) := hS
  have z1 : s + 1 = (w.alloc (.cells #[.slice a0 n0 c0, .slice a1 n1 c1, .slice a2 n2 c2, .slice a3 n3 c3, .slice am lm cm, .slice ah lh ch, .int .i64 X.slot, .int .i64 X.left, .int .i64 X.clock] 47)).heap.size := by rw [← hS]; simp
  have Q : Hid (Vb W s #[.slice a0 n0 c0, .slice a1 n1 c1, .slice a2 n2 c2, .slice a3 n3 c3, .slice am lm cm, .slice ah lh ch, .int .i64 X.slot, .int .i64 X.left, .int .i64 X.clock] 47) := by show Vb _ _ _ _; rw [← hW, ← hS]; exact (Vb.new _ _ _).push _
  have R : Hid (Vb W (s + 1) #[.int .i64 0, .slice none 0 0, .int .i64 0, .slice none 0 0, .bool false, .bool false, .bool false, .int .i64 0, .slice none 0 0, .slice none 0 0, .slice none 0 0, .slice none 0 0] 38) := by show Vb _ _ _ _; rw [← hW, z1]; exact Vb.new _ _ _
  clear z1
  have D : Hid (Oj W b a0 n0 c0 a1 n1 c1 a2 n2 c2 a3 n3 c3 (.slice am lm cm) (.slice ah lh ch) X) := d.keep B0.out
  clear d
  go_enter Tryz.func5, Tryz.ntmps5
  go_wp2_with fail
  clear hW hS
  refine (s_fault12 s _ _ _ _ _ _ _ _ _ _ _ _ _ _ X b _ D.out Q.out).mono ?_
  rw [HV.out]
  rintro e w1 ⟨rfl, b1⟩
  have B1 : Hid (Below w.heap.size w w1) := on B0.out b1
  have R1 : Hid (Vb w1 (s + 1) #[.int .i64 0, .slice none 0 0, .int .i64 0, .slice none 0 0, .bool false, .bool false, .bool false, .int .i64 0, .slice none 0 0, .slice none 0 0, .slice none 0 0, .slice none 0 0] 38) := R.out.keep b1
  have Q1 : Hid (Vb w1 s #[.slice a0 n0 c0, .slice a1 n1 c1, .slice a2 n2 c2, .slice a3 n3 c3, .slice am lm cm, .slice ah lh ch, .int .i64 X.slot, .int .i64 X.left, .int .i64 X.clock] 47) := Q.out.keep b1
  have D1 : Hid (Oj w1 b a0 n0 c0 a1 n1 c1 a2 n2 c2 a3 n3 c3 (.slice am lm cm) (.slice ah lh ch) X) := D.out.keep b1
  clear b1
  have q0 := Q1.out.cell 0 rfl
  have q1 := Q1.out.cell 1 rfl
  have q2 := Q1.out.cell 2 rfl
  have q3 := Q1.out.cell 3 rfl
  have PA : Hid (PolAt w1 s X.pol) := ⟨_, _, _, _, _, _, _, _, _, _, _, _, q0, q1, q2, q3, D1.out.pol⟩
  go_wp2_with fail
  clear q0 q1 q2 q3
  refine (l6_guest s gu X.pol _ PA.out).mono ?_
  rintro e wz ⟨rfl, hwz⟩
  rw [hwz]
  clear hwz wz
  rw [← D1.out.pol.own.len, NG.out.1]
  have p0 := R1.out.cell 0 rfl
  have f0 := R1.out.free 0
  have p1 := R1.out.cell 1 rfl
  have f1 := R1.out.free 1
  have p2 := R1.out.cell 2 rfl
  have f2 := R1.out.free 2
  have p3 := R1.out.cell 3 rfl
  have f3 := R1.out.free 3
  have p4 := R1.out.cell 4 rfl
  have f4 := R1.out.free 4
  have p5 := R1.out.cell 5 rfl
  have f5 := R1.out.free 5
  have p6 := R1.out.cell 6 rfl
  have f6 := R1.out.free 6
  have p7 := R1.out.cell 7 rfl
  have f7 := R1.out.free 7
  have p8 := R1.out.cell 8 rfl
  have f8 := R1.out.free 8
  have p9 := R1.out.cell 9 rfl
  have f9 := R1.out.free 9
  have p10 := R1.out.cell 10 rfl
  have f10 := R1.out.free 10
  have p11 := R1.out.cell 11 rfl
  have f11 := R1.out.free 11
  have lt := R1.out.lt
  go_wp2_with fail
  clear lt p0 f0 p1 f1 p2 f2 p3 f3 p4 f4 p5 f5 p6 f6 p7 f7 p8 f8 p9 f9 p10 f10 p11 f11
  have NN : Hid (_ ∧ _) := twelveV R1.out (.int .i64 4) (.slice none 0 0) (.int .i64 0) (.slice none 0 0) (.bool false) (.bool false) (.bool false) (.int .i64 0) (.slice none 0 0) (.slice none 0 0) (.slice none 0 0) (.slice none 0 0)
  generalize ((((((((((((w1.setCell ⟨s + 1, 0, none⟩ (.int .i64 4)).setCell ⟨s + 1, 1, none⟩ (.slice none 0 0)).setCell ⟨s + 1, 2, none⟩ (.int .i64 0)).setCell ⟨s + 1, 3, none⟩ (.slice none 0 0)).setCell ⟨s + 1, 4, none⟩ (.bool false)).setCell ⟨s + 1, 5, none⟩ (.bool false)).setCell ⟨s + 1, 6, none⟩ (.bool false)).setCell ⟨s + 1, 7, none⟩ (.int .i64 0)).setCell ⟨s + 1, 8, none⟩ (.slice none 0 0)).setCell ⟨s + 1, 9, none⟩ (.slice none 0 0)).setCell ⟨s + 1, 10, none⟩ (.slice none 0 0)).setCell ⟨s + 1, 11, none⟩ (.slice none 0 0)) = W9 at *
  have x0 := NN.out.1.cell 0 rfl
  have x1 := NN.out.1.cell 1 rfl
  have x2 := NN.out.1.cell 2 rfl
  have x3 := NN.out.1.cell 3 rfl
  have x4 := NN.out.1.cell 4 rfl
  have x5 := NN.out.1.cell 5 rfl
  have x6 := NN.out.1.cell 6 rfl
  have x7 := NN.out.1.cell 7 rfl
  have x8 := NN.out.1.cell 8 rfl
  have x9 := NN.out.1.cell 9 rfl
  have x10 := NN.out.1.cell 10 rfl
  have x11 := NN.out.1.cell 11 rfl
  exact bodyPost_ret (v := .agg #[.int .i64 4, .slice none 0 0, .int .i64 0, .slice none 0 0, .bool false, .bool false, .bool false, .int .i64 0, .slice none 0 0, .slice none 0 0, .slice none 0 0, .slice none 0 0]) (by simp [results, Tryz.results5, go_sem, x0, x1, x2, x3, x4, x5, x6, x7, x8, x9, x10, x11]) rfl ⟨_, _, _, _, _, _, rfl, vm_void _ _, Mq.under B1.out NN.out.2 fun k e => by have := HSs.out; omega⟩
set_option maxRecDepth 20000 in
set_option maxHeartbeats 8000000 in
theorem svf_good (a0 a1 a2 a3 : Option Addr) (n0 c0 n1 c1 n2 c2 n3 c3 : Nat) (m h : Value) (X : Hst) (g : Nat) (b : Nat) (w : World) (d : Oj w b a0 n0 c0 a1 n1 c1 a2 n2 c2 a3 n3 c3 m h X) (hv : hoV X = 0) (hgu : isG X.pol.own.length (g : Int) = true) :
    Calls Tryz.prog 5 #[.agg #[.slice a0 n0 c0, .slice a1 n1 c1, .slice a2 n2 c2, .slice a3 n3 c3, m, h, .int .i64 X.slot, .int .i64 X.left, .int .i64 X.clock], .int .i64 (g : Int)] w fun e w' => ∃ r' c' i' o' l' m', e = .returned (.agg #[.int .i64 (voC X (g : Int)), r', .int .i64 (voH X (g : Int)).pc, c', .bool (voH X (g : Int)).halted, .bool (voH X (g : Int)).waiting, .bool (voH X (g : Int)).rung, .int .i64 (voH X (g : Int)).done, i', o', l', m']) ∧ Vm w' w.heap.size r' c' i' o' l' m' (voH X (g : Int)) (voO X (g : Int)) (voG X (g : Int)) ∧ Below w.heap.size w w' := by
  have hx : voC X (g : Int) = 0 := by rw [voC, if_pos hv, if_pos hgu]
  have hu := vo_yes X (g : Int) hx
  rw [hu.1, hu.2.1, hu.2.2, hx, Int.toNat_natCast]
  obtain ⟨H, hH⟩ : ∃ H, X.harts.getD g voidH = H := ⟨_, rfl⟩
  rw [hH]
  have HHE : Hid (X.harts.getD g voidH = H) := hH
  clear hH
  have OK : Hid (Vok X g) := vok_of hv hgu
  have HV : Hid (hoV X = 0) := hv
  have HGU : Hid (isG X.pol.own.length (g : Int) = true) := hgu
  clear hu hx hv hgu
  obtain ⟨am, cm, rfl, _⟩ := d.mem.shape
  obtain ⟨ah, ch, rfl, _, _, gh⟩ := d.harts.shape
  obtain ⟨lm, hlm⟩ : ∃ n, X.mem.length = n := ⟨_, rfl⟩
  obtain ⟨lh, hlh⟩ : ∃ n, X.harts.length = n := ⟨_, rfl⟩
  rw [hlm, hlh] at d ⊢
  rw [hlh] at gh
  clear hlm hlh gh
  generalize hW : (w.alloc (.cells #[.slice a0 n0 c0, .slice a1 n1 c1, .slice a2 n2 c2, .slice a3 n3 c3, .slice am lm cm, .slice ah lh ch, .int .i64 X.slot, .int .i64 X.left, .int .i64 X.clock] 47)).alloc (.cells #[.int .i64 0, .slice none 0 0, .int .i64 0, .slice none 0 0, .bool false, .bool false, .bool false, .int .i64 0, .slice none 0 0, .slice none 0 0, .slice none 0 0, .slice none 0 0] 38) = W
  have B0 : Hid (Below w.heap.size w W) := by show Below _ _ _; rw [← hW]; exact al (al (Below.refl _ _) _) _
  obtain ⟨s, hS⟩ : ∃ s, w.heap.size = s := ⟨_, rfl⟩
  have HSs : Hid (w.heap.size = s) := hS
  have z1 : s + 1 = (w.alloc (.cells #[.slice a0 n0 c0, .slice a1 n1 c1, .slice a2 n2 c2, .slice a3 n3 c3, .slice am lm cm, .slice ah lh ch, .int .i64 X.slot, .int .i64 X.left, .int .i64 X.clock] 47)).heap.size := by rw [← hS]; simp
  have Q : Hid (Vb W s #[.slice a0 n0 c0, .slice a1 n1 c1, .slice a2 n2 c2, .slice a3 n3 c3, .slice am lm cm, .slice ah lh ch, .int .i64 X.slot, .int .i64 X.left, .int .i64 X.clock] 47) := by show Vb _ _ _ _; rw [← hW, ← hS]; exact (Vb.new _ _ _).push _
  have R : Hid (Vb W (s + 1) #[.int .i64 0, .slice none 0 0, .int .i64 0, .slice none 0 0, .bool false, .bool false, .bool false, .int .i64 0, .slice none 0 0, .slice none 0 0, .slice none 0 0, .slice none 0 0] 38) := by show Vb _ _ _ _; rw [← hW, z1]; exact Vb.new _ _ _
  clear z1
  have D : Hid (Oj W b a0 n0 c0 a1 n1 c1 a2 n2 c2 a3 n3 c3 (.slice am lm cm) (.slice ah lh ch) X) := d.keep B0.out
  clear d
  go_enter Tryz.func5, Tryz.ntmps5
  go_wp2_with fail
  clear hW hS
  refine (s_fault12 s _ _ _ _ _ _ _ _ _ _ _ _ _ _ X b _ D.out Q.out).mono ?_
  rw [HV.out]
  rintro e w1 ⟨rfl, b1⟩
  have B1 : Hid (Below w.heap.size w w1) := on B0.out b1
  have R1 : Hid (Vb w1 (s + 1) #[.int .i64 0, .slice none 0 0, .int .i64 0, .slice none 0 0, .bool false, .bool false, .bool false, .int .i64 0, .slice none 0 0, .slice none 0 0, .slice none 0 0, .slice none 0 0] 38) := R.out.keep b1
  have Q1 : Hid (Vb w1 s #[.slice a0 n0 c0, .slice a1 n1 c1, .slice a2 n2 c2, .slice a3 n3 c3, .slice am lm cm, .slice ah lh ch, .int .i64 X.slot, .int .i64 X.left, .int .i64 X.clock] 47) := Q.out.keep b1
  have D1 : Hid (Oj w1 b a0 n0 c0 a1 n1 c1 a2 n2 c2 a3 n3 c3 (.slice am lm cm) (.slice ah lh ch) X) := D.out.keep b1
  clear b1 D
  have q0 := Q1.out.cell 0 rfl
  have q1 := Q1.out.cell 1 rfl
  have q2 := Q1.out.cell 2 rfl
  have q3 := Q1.out.cell 3 rfl
  have PA : Hid (PolAt w1 s X.pol) := ⟨_, _, _, _, _, _, _, _, _, _, _, _, q0, q1, q2, q3, D1.out.pol⟩
  go_wp2_with fail
  clear q0 q1 q2 q3
  refine (l6_guest s (g : Int) X.pol _ PA.out).mono ?_
  rintro e wz ⟨rfl, hwz⟩
  rw [hwz]
  clear hwz wz
  rw [HGU.out]
  go_wp2_with fail
  refine (s_view13 s _ _ _ _ _ _ _ _ _ _ _ _ _ _ X g b _ D1.out Q1.out OK.out).mono ?_
  rintro e w5 ⟨r5, c5, i5, o5, l5, m5', rfl, v5, b5'⟩
  rw [HHE.out] at v5 ⊢
  obtain ⟨xa0, xk0, x0e, _⟩ := v5.h.r.shape
  obtain ⟨xa1, xk1, x1e, _⟩ := v5.h.c.shape
  obtain ⟨xa2, xk2, x2e, _⟩ := v5.h.i.shape
  obtain ⟨xa3, xk3, x3e, _⟩ := v5.h.o.shape
  obtain ⟨xa4, xk4, x4e, _⟩ := v5.pl.shape
  obtain ⟨xa5, xk5, x5e, _⟩ := v5.mm.shape
  subst x0e x1e x2e x3e x4e x5e
  obtain ⟨x0, hx0⟩ : ∃ n, H.regs.length = n := ⟨_, rfl⟩
  obtain ⟨x1, hx1⟩ : ∃ n, H.csr.length = n := ⟨_, rfl⟩
  obtain ⟨x2, hx2⟩ : ∃ n, H.inn.length = n := ⟨_, rfl⟩
  obtain ⟨x3, hx3⟩ : ∃ n, H.out.length = n := ⟨_, rfl⟩
  obtain ⟨x4, hx4⟩ : ∃ n, (wordsL X.mem (X.pol.own.getD g [])).length = n := ⟨_, rfl⟩
  obtain ⟨x5, hx5⟩ : ∃ n, (wordsL X.mem (gvL true (g : Int) X.pol.lanes)).length = n := ⟨_, rfl⟩
  rw [hx0, hx1, hx2, hx3, hx4, hx5] at v5 ⊢
  have V5 : Hid (Vm w5 w1.heap.size (.slice xa0 x0 xk0) (.slice xa1 x1 xk1) (.slice xa2 x2 xk2) (.slice xa3 x3 xk3) (.slice xa4 x4 xk4) (.slice xa5 x5 xk5) H (wordsL X.mem (X.pol.own.getD g [])) (wordsL X.mem (gvL true (g : Int) X.pol.lanes))) := v5
  have B5 : Hid (Below w.heap.size w w5) := on B1.out b5'
  have R5 : Hid (Vb w5 (s + 1) #[.int .i64 0, .slice none 0 0, .int .i64 0, .slice none 0 0, .bool false, .bool false, .bool false, .int .i64 0, .slice none 0 0, .slice none 0 0, .slice none 0 0, .slice none 0 0] 38) := R1.out.keep b5'
  have L5 : Hid (s + 1 < w1.heap.size) := R1.out.lt
  clear v5 b5' hx0 hx1 hx2 hx3 hx4 hx5
  have p0 := R5.out.cell 0 rfl
  have f0 := R5.out.free 0
  have p1 := R5.out.cell 1 rfl
  have f1 := R5.out.free 1
  have p2 := R5.out.cell 2 rfl
  have f2 := R5.out.free 2
  have p3 := R5.out.cell 3 rfl
  have f3 := R5.out.free 3
  have p4 := R5.out.cell 4 rfl
  have f4 := R5.out.free 4
  have p5 := R5.out.cell 5 rfl
  have f5 := R5.out.free 5
  have p6 := R5.out.cell 6 rfl
  have f6 := R5.out.free 6
  have p7 := R5.out.cell 7 rfl
  have f7 := R5.out.free 7
  have p8 := R5.out.cell 8 rfl
  have f8 := R5.out.free 8
  have p9 := R5.out.cell 9 rfl
  have f9 := R5.out.free 9
  have p10 := R5.out.cell 10 rfl
  have f10 := R5.out.free 10
  have p11 := R5.out.cell 11 rfl
  have f11 := R5.out.free 11
  have NN : Hid (_ ∧ _) := twelveV R5.out (.int .i64 0) (.slice xa0 x0 xk0) (.int .i64 H.pc) (.slice xa1 x1 xk1) (.bool H.halted) (.bool H.waiting) (.bool H.rung) (.int .i64 H.done) (.slice xa2 x2 xk2) (.slice xa3 x3 xk3) (.slice xa4 x4 xk4) (.slice xa5 x5 xk5)
  go_wp2_with fail
  clear p0 f0 p1 f1 p2 f2 p3 f3 p4 f4 p5 f5 p6 f6 p7 f7 p8 f8 p9 f9 p10 f10 p11 f11
  generalize ((((((((((((w5.setCell ⟨s + 1, 0, none⟩ (.int .i64 0)).setCell ⟨s + 1, 1, none⟩ (.slice xa0 x0 xk0)).setCell ⟨s + 1, 2, none⟩ (.int .i64 H.pc)).setCell ⟨s + 1, 3, none⟩ (.slice xa1 x1 xk1)).setCell ⟨s + 1, 4, none⟩ (.bool H.halted)).setCell ⟨s + 1, 5, none⟩ (.bool H.waiting)).setCell ⟨s + 1, 6, none⟩ (.bool H.rung)).setCell ⟨s + 1, 7, none⟩ (.int .i64 H.done)).setCell ⟨s + 1, 8, none⟩ (.slice xa2 x2 xk2)).setCell ⟨s + 1, 9, none⟩ (.slice xa3 x3 xk3)).setCell ⟨s + 1, 10, none⟩ (.slice xa4 x4 xk4)).setCell ⟨s + 1, 11, none⟩ (.slice xa5 x5 xk5)) = W9 at *
  have O9 : Ho (s + 2) w5 W9 := NN.out.2.ho fun k e => by omega
  have V9 : Hid (Vm W9 w.heap.size (.slice xa0 x0 xk0) (.slice xa1 x1 xk1) (.slice xa2 x2 xk2) (.slice xa3 x3 xk3) (.slice xa4 x4 xk4) (.slice xa5 x5 xk5) H (wordsL X.mem (X.pol.own.getD g [])) (wordsL X.mem (gvL true (g : Int) X.pol.lanes))) := by
    have v := V5.out
    have hl5 := L5.out
    have hs := HSs.out
    exact ⟨((v.h.mono (by omega)).ho O9).mono (by omega), v.a, ((v.pl.mono (by omega)).ho O9).mono (by omega), ((v.mm.mono (by omega)).ho O9).mono (by omega), v.rl, v.cl, v.il, v.ol, v.lm, v.rm, v.cm, v.im, v.om⟩
  have x0' := NN.out.1.cell 0 rfl
  have x1' := NN.out.1.cell 1 rfl
  have x2' := NN.out.1.cell 2 rfl
  have x3' := NN.out.1.cell 3 rfl
  have x4' := NN.out.1.cell 4 rfl
  have x5' := NN.out.1.cell 5 rfl
  have x6' := NN.out.1.cell 6 rfl
  have x7' := NN.out.1.cell 7 rfl
  have x8' := NN.out.1.cell 8 rfl
  have x9' := NN.out.1.cell 9 rfl
  have x10' := NN.out.1.cell 10 rfl
  have x11' := NN.out.1.cell 11 rfl
  exact bodyPost_ret (v := .agg #[.int .i64 0, .slice xa0 x0 xk0, .int .i64 H.pc, .slice xa1 x1 xk1, .bool H.halted, .bool H.waiting, .bool H.rung, .int .i64 H.done, .slice xa2 x2 xk2, .slice xa3 x3 xk3, .slice xa4 x4 xk4, .slice xa5 x5 xk5]) (by simp [results, Tryz.results5, go_sem, x0', x1', x2', x3', x4', x5', x6', x7', x8', x9', x10', x11']) rfl ⟨_, _, _, _, _, _, rfl, V9.out, Mq.under B5.out NN.out.2 fun k e => by have := HSs.out; omega⟩
theorem s_viewOf (a0 a1 a2 a3 : Option Addr) (n0 c0 n1 c1 n2 c2 n3 c3 : Nat) (m h : Value) (X : Hst) (gu : Int) (b : Nat) (w : World) (d : Oj w b a0 n0 c0 a1 n1 c1 a2 n2 c2 a3 n3 c3 m h X) :
    Calls Tryz.prog 5 #[.agg #[.slice a0 n0 c0, .slice a1 n1 c1, .slice a2 n2 c2, .slice a3 n3 c3, m, h, .int .i64 X.slot, .int .i64 X.left, .int .i64 X.clock], .int .i64 gu] w fun e w' => ∃ r' c' i' o' l' m', e = .returned (.agg #[.int .i64 (voC X gu), r', .int .i64 (voH X gu).pc, c', .bool (voH X gu).halted, .bool (voH X gu).waiting, .bool (voH X gu).rung, .int .i64 (voH X gu).done, i', o', l', m']) ∧ Vm w' w.heap.size r' c' i' o' l' m' (voH X gu) (voO X gu) (voG X gu) ∧ Below w.heap.size w w' := by
  by_cases hv : hoV X = 0
  · cases hgu : isG X.pol.own.length gu
    · exact svf_none _ _ _ _ _ _ _ _ _ _ _ _ m h X gu b w d hv hgu
    · obtain ⟨g, rfl⟩ := Int.eq_ofNat_of_zero_le ((isG_iff _ _).1 hgu).1
      exact svf_good _ _ _ _ _ _ _ _ _ _ _ _ m h X g b w d hv hgu
  · exact svf_fault _ _ _ _ _ _ _ _ _ _ _ _ m h X gu b w d hv
end Go.Proofs.YthebikoahfcdaaaGreatDoor
