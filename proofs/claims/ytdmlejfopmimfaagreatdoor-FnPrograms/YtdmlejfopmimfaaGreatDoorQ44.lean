/- Texts of this seat, joined. -/
import Derived.Deep.RegionHeld3
import Derived.Test.YtdmlejfopmimfaaGreatDoorQ43
namespace Go.Proofs.YtdmlejfopmimfaaGreatDoor
open Go.RowKit
set_option linter.unusedVariables false

theorem quad4 {w : World} {s : Nat} {a b c d : Value} {t : TypeId} (h : Vq w s #[a, b, c, d] t) (x y z u : Value) : Vq ((((w.setCell ⟨s, 0, none⟩ x).setCell ⟨s, 1, none⟩ y).setCell ⟨s, 2, none⟩ z).setCell ⟨s, 3, none⟩ u) s #[x, y, z, u] t :=
  heap_setCell_same _ s 3 _ _ _ (heap_setCell_same _ s 2 _ _ _ (heap_setCell_same _ s 1 _ _ _ (heap_setCell_same _ s 0 _ _ _ h)))
theorem below4 {B s : Nat} {u w : World} (h : Below B u w) (hs : B ≤ s) (x y z t : Value) : Below B u ((((w.setCell ⟨s, 0, none⟩ x).setCell ⟨s, 1, none⟩ y).setCell ⟨s, 2, none⟩ z).setCell ⟨s, 3, none⟩ t) := (((h.setCell hs _).setCell hs _).setCell hs _).setCell hs _
theorem nums_at3 {w : World} {b : Nat} {a : Option Addr} {n c : Nat} {z : List Int} (h : Nums w b (.slice a n c) z) (hn : n = z.length) (h0 : 0 < n) : ∃ g, a = some ⟨g, 0, none⟩ ∧ ∀ i, i < n → w.cell? ⟨g, i, none⟩ = some (.int .i64 (z.getD i 0)) := by
  obtain ⟨a', c', e, _, _, hg⟩ := h.shape
  cases e
  obtain ⟨g, rfl⟩ := hg (by omega)
  exact ⟨g, rfl, fun i hi => h.cell hn i hi⟩
set_option maxRecDepth 20000 in
set_option maxHeartbeats 4000000 in
theorem i_insOf (op : Nat) (a : Option Addr) (c b : Nat) (z : List Int) (w : World) (h1 : 1 ≤ op) (h2 : op ≤ 26) (hz : z.length = wantN op) (hN : Nums w b (.slice a z.length c) z) :
    Calls Tryz.prog 53 #[.int .i64 op, .slice a z.length c] w fun e w' => e = .returned (.agg #[.int .i64 op, .int .i64 (arD op z), .int .i64 (arA op z), .int .i64 (arI op z)]) ∧ Below w.heap.size w w' := by
  have hat := fun h0 => nums_at3 hN rfl h0
  generalize hW : w.alloc (.cells #[.int .i64 0, .int .i64 0, .int .i64 0, .int .i64 0] 72) = W
  have B0 : Hid (Below w.heap.size w W) := by show Below _ _ _; rw [← hW]; exact al (Below.refl _ _) _
  obtain ⟨s, hs⟩ : ∃ s, w.heap.size = s := ⟨_, rfl⟩
  have R : Hid (Vq W s #[.int .i64 0, .int .i64 0, .int .i64 0, .int .i64 0] 72) := by show Vq _ _ _ _; rw [← hW, ← hs]; exact Vq.new _ _ _
  have HSS : Hid (w.heap.size = s) := hs
  have k0 := R.out.cell 0 rfl
  have k1 := R.out.cell 1 rfl
  have k2 := R.out.cell 2 rfl
  have k3 := R.out.cell 3 rfl
  have f0 := R.out.free 0
  have f1 := R.out.free 1
  have f2 := R.out.free 2
  have f3 := R.out.free 3
  have lw := R.out.lt
  clear hN
  rcases want_cases op h1 h2 with ⟨hw, hd, ha, hi, h⟩ | ⟨hw, hd, ha, hi, h⟩ | ⟨hw, hd, ha, hi, h⟩ | ⟨hw, hd, ha, hi, h3, h4, h5, h6⟩
  · rw [hw] at hz
    have e1 : arD op z = z.getD 0 0 := by simp [arD, hd]
    have e2 : arA op z = 0 := by simp [arA, ha]
    have e3 : arI op z = z.getD 1 0 := by simp [arI, hd, ha, hi]
    rw [e1, e2, e3]
    obtain ⟨g, rfl, hc⟩ := hat (by omega)
    have c0 := cell_keep B0.out (hc 0 (by omega))
    have c1 := cell_keep B0.out (hc 1 (by omega))
    rw [hz]
    clear e1 e2 e3 hat hc hd ha hi hw hz
    generalize z.getD 0 0 = z0 at *
    generalize z.getD 1 0 = z1 at *
    clear h1 h2
    rcases h with rfl | rfl | rfl
    · skip
      have NN : Hid (Vq _ s #[.int .i64 13, .int .i64 z0, .int .i64 0, .int .i64 z1] 72) := quad4 R.out (.int .i64 13) (.int .i64 z0) (.int .i64 0) (.int .i64 z1)
      have BN : Hid (Below w.heap.size w _) := below4 B0.out (show w.heap.size ≤ s by have := HSS.out; omega) (.int .i64 13) (.int .i64 z0) (.int .i64 0) (.int .i64 z1)
      go_enter Tryz.func53, Tryz.ntmps53
      go_wp2_with fail
      go_region
      generalize World.setCell _ ⟨s, 3, none⟩ (.int .i64 z1) = V at *
      go_wp2_with fail
      have x0 := NN.out.cell 0 rfl
      have x1 := NN.out.cell 1 rfl
      have x2 := NN.out.cell 2 rfl
      have x3 := NN.out.cell 3 rfl
      exact bodyPost_ret (v := .agg #[.int .i64 13, .int .i64 z0, .int .i64 0, .int .i64 z1]) (by simp [results, Tryz.results53, go_sem, x0, x1, x2, x3]) rfl ⟨rfl, BN.out.drew⟩
    · skip
      have NN : Hid (Vq _ s #[.int .i64 19, .int .i64 z0, .int .i64 0, .int .i64 z1] 72) := quad4 R.out (.int .i64 19) (.int .i64 z0) (.int .i64 0) (.int .i64 z1)
      have BN : Hid (Below w.heap.size w _) := below4 B0.out (show w.heap.size ≤ s by have := HSS.out; omega) (.int .i64 19) (.int .i64 z0) (.int .i64 0) (.int .i64 z1)
      go_enter Tryz.func53, Tryz.ntmps53
      go_wp2_with fail
      go_region
      generalize World.setCell _ ⟨s, 3, none⟩ (.int .i64 z1) = V at *
      go_wp2_with fail
      have x0 := NN.out.cell 0 rfl
      have x1 := NN.out.cell 1 rfl
      have x2 := NN.out.cell 2 rfl
      have x3 := NN.out.cell 3 rfl
      exact bodyPost_ret (v := .agg #[.int .i64 19, .int .i64 z0, .int .i64 0, .int .i64 z1]) (by simp [results, Tryz.results53, go_sem, x0, x1, x2, x3]) rfl ⟨rfl, BN.out.drew⟩
    · skip
      have NN : Hid (Vq _ s #[.int .i64 21, .int .i64 z0, .int .i64 0, .int .i64 z1] 72) := quad4 R.out (.int .i64 21) (.int .i64 z0) (.int .i64 0) (.int .i64 z1)
      have BN : Hid (Below w.heap.size w _) := below4 B0.out (show w.heap.size ≤ s by have := HSS.out; omega) (.int .i64 21) (.int .i64 z0) (.int .i64 0) (.int .i64 z1)
      go_enter Tryz.func53, Tryz.ntmps53
      go_wp2_with fail
      go_region
      generalize World.setCell _ ⟨s, 3, none⟩ (.int .i64 z1) = V at *
      go_wp2_with fail
      have x0 := NN.out.cell 0 rfl
      have x1 := NN.out.cell 1 rfl
      have x2 := NN.out.cell 2 rfl
      have x3 := NN.out.cell 3 rfl
      exact bodyPost_ret (v := .agg #[.int .i64 21, .int .i64 z0, .int .i64 0, .int .i64 z1]) (by simp [results, Tryz.results53, go_sem, x0, x1, x2, x3]) rfl ⟨rfl, BN.out.drew⟩
  · rw [hw] at hz
    have e1 : arD op z = 0 := by simp [arD, hd]
    have e2 : arA op z = z.getD 0 0 := by simp [arA, ha, hd]
    have e3 : arI op z = z.getD 1 0 := by simp [arI, hd, ha, hi]
    rw [e1, e2, e3]
    obtain ⟨g, rfl, hc⟩ := hat (by omega)
    have c0 := cell_keep B0.out (hc 0 (by omega))
    have c1 := cell_keep B0.out (hc 1 (by omega))
    rw [hz]
    clear e1 e2 e3 hat hc hd ha hi hw hz h1 h2
    generalize z.getD 0 0 = z0 at *
    generalize z.getD 1 0 = z1 at *
    subst h
    have NN : Hid (Vq _ s #[.int .i64 22, .int .i64 0, .int .i64 z0, .int .i64 z1] 72) := quad4 R.out (.int .i64 22) (.int .i64 0) (.int .i64 z0) (.int .i64 z1)
    have BN : Hid (Below w.heap.size w _) := below4 B0.out (show w.heap.size ≤ s by have := HSS.out; omega) (.int .i64 22) (.int .i64 0) (.int .i64 z0) (.int .i64 z1)
    go_enter Tryz.func53, Tryz.ntmps53
    go_wp2_with fail
    go_region
    generalize World.setCell _ ⟨s, 3, none⟩ (.int .i64 z1) = V at *
    go_wp2_with fail
    have x0 := NN.out.cell 0 rfl
    have x1 := NN.out.cell 1 rfl
    have x2 := NN.out.cell 2 rfl
    have x3 := NN.out.cell 3 rfl
    exact bodyPost_ret (v := .agg #[.int .i64 22, .int .i64 0, .int .i64 z0, .int .i64 z1]) (by simp [results, Tryz.results53, go_sem, x0, x1, x2, x3]) rfl ⟨rfl, BN.out.drew⟩
  · have e1 : arD op z = 0 := by simp [arD, hd]
    have e2 : arA op z = 0 := by simp [arA, ha]
    have e3 : arI op z = 0 := by simp [arI, hi]
    rw [e1, e2, e3]
    clear e1 e2 e3 hat hd ha hi hw hz h1 h2
    generalize z.length = zl at *
    rcases h with rfl | rfl | rfl | rfl
    · skip
      have NN : Hid (Vq _ s #[.int .i64 23, .int .i64 0, .int .i64 0, .int .i64 0] 72) := quad4 R.out (.int .i64 23) (.int .i64 0) (.int .i64 0) (.int .i64 0)
      have BN : Hid (Below w.heap.size w _) := below4 B0.out (show w.heap.size ≤ s by have := HSS.out; omega) (.int .i64 23) (.int .i64 0) (.int .i64 0) (.int .i64 0)
      go_enter Tryz.func53, Tryz.ntmps53
      go_wp2_with fail
      generalize World.setCell _ ⟨s, 3, none⟩ (.int .i64 0) = V at *
      have x0 := NN.out.cell 0 rfl
      have x1 := NN.out.cell 1 rfl
      have x2 := NN.out.cell 2 rfl
      have x3 := NN.out.cell 3 rfl
      exact bodyPost_ret (v := .agg #[.int .i64 23, .int .i64 0, .int .i64 0, .int .i64 0]) (by simp [results, Tryz.results53, go_sem, x0, x1, x2, x3]) rfl ⟨rfl, BN.out⟩
    · skip
      have NN : Hid (Vq _ s #[.int .i64 24, .int .i64 0, .int .i64 0, .int .i64 0] 72) := quad4 R.out (.int .i64 24) (.int .i64 0) (.int .i64 0) (.int .i64 0)
      have BN : Hid (Below w.heap.size w _) := below4 B0.out (show w.heap.size ≤ s by have := HSS.out; omega) (.int .i64 24) (.int .i64 0) (.int .i64 0) (.int .i64 0)
      go_enter Tryz.func53, Tryz.ntmps53
      go_wp2_with fail
      generalize World.setCell _ ⟨s, 3, none⟩ (.int .i64 0) = V at *
      have x0 := NN.out.cell 0 rfl
      have x1 := NN.out.cell 1 rfl
      have x2 := NN.out.cell 2 rfl
      have x3 := NN.out.cell 3 rfl
      exact bodyPost_ret (v := .agg #[.int .i64 24, .int .i64 0, .int .i64 0, .int .i64 0]) (by simp [results, Tryz.results53, go_sem, x0, x1, x2, x3]) rfl ⟨rfl, BN.out⟩
    · skip
      have NN : Hid (Vq _ s #[.int .i64 25, .int .i64 0, .int .i64 0, .int .i64 0] 72) := quad4 R.out (.int .i64 25) (.int .i64 0) (.int .i64 0) (.int .i64 0)
      have BN : Hid (Below w.heap.size w _) := below4 B0.out (show w.heap.size ≤ s by have := HSS.out; omega) (.int .i64 25) (.int .i64 0) (.int .i64 0) (.int .i64 0)
      go_enter Tryz.func53, Tryz.ntmps53
      go_wp2_with fail
      generalize World.setCell _ ⟨s, 3, none⟩ (.int .i64 0) = V at *
      have x0 := NN.out.cell 0 rfl
      have x1 := NN.out.cell 1 rfl
      have x2 := NN.out.cell 2 rfl
      have x3 := NN.out.cell 3 rfl
      exact bodyPost_ret (v := .agg #[.int .i64 25, .int .i64 0, .int .i64 0, .int .i64 0]) (by simp [results, Tryz.results53, go_sem, x0, x1, x2, x3]) rfl ⟨rfl, BN.out⟩
    · skip
      have NN : Hid (Vq _ s #[.int .i64 26, .int .i64 0, .int .i64 0, .int .i64 0] 72) := quad4 R.out (.int .i64 26) (.int .i64 0) (.int .i64 0) (.int .i64 0)
      have BN : Hid (Below w.heap.size w _) := below4 B0.out (show w.heap.size ≤ s by have := HSS.out; omega) (.int .i64 26) (.int .i64 0) (.int .i64 0) (.int .i64 0)
      go_enter Tryz.func53, Tryz.ntmps53
      go_wp2_with fail
      generalize World.setCell _ ⟨s, 3, none⟩ (.int .i64 0) = V at *
      have x0 := NN.out.cell 0 rfl
      have x1 := NN.out.cell 1 rfl
      have x2 := NN.out.cell 2 rfl
      have x3 := NN.out.cell 3 rfl
      exact bodyPost_ret (v := .agg #[.int .i64 26, .int .i64 0, .int .i64 0, .int .i64 0]) (by simp [results, Tryz.results53, go_sem, x0, x1, x2, x3]) rfl ⟨rfl, BN.out⟩
  · rw [hw] at hz
    have e1 : arD op z = z.getD 0 0 := by simp [arD, hd]
    have e2 : arA op z = z.getD 1 0 := by simp [arA, ha, hd]
    have e3 : arI op z = z.getD 2 0 := by simp [arI, hd, ha, hi]
    rw [e1, e2, e3]
    obtain ⟨g, rfl, hc⟩ := hat (by omega)
    have c0 := cell_keep B0.out (hc 0 (by omega))
    have c1 := cell_keep B0.out (hc 1 (by omega))
    have c2 := cell_keep B0.out (hc 2 (by omega))
    have HC : Hid (w.cell? ⟨g, 0, none⟩ = some (.int .i64 (z.getD 0 0)) ∧ w.cell? ⟨g, 1, none⟩ = some (.int .i64 (z.getD 1 0)) ∧ w.cell? ⟨g, 2, none⟩ = some (.int .i64 (z.getD 2 0))) := ⟨hc 0 (by omega), hc 1 (by omega), hc 2 (by omega)⟩
    rw [hz]
    have g1 : ¬ (op : Int) = 13 := by omega
    have g2 : ¬ (op : Int) = 19 := by omega
    have g3 : ¬ (op : Int) = 21 := by omega
    have g4 : ¬ (op : Int) = 22 := by omega
    have g5 : ¬ (op : Int) = 23 := by omega
    have g6 : ¬ (op : Int) = 24 := by omega
    have g7 : ¬ (op : Int) = 25 := by omega
    have g8 : ¬ (op : Int) = 26 := by omega
    clear e1 e2 e3 hat hc hd ha hi hw hz h1 h2 h3 h4 h5 h6
    generalize z.getD 0 0 = z0 at *
    generalize z.getD 1 0 = z1 at *
    generalize z.getD 2 0 = z2 at *
    have RD : Hid (Vq W.drew s #[.int .i64 0, .int .i64 0, .int .i64 0, .int .i64 0] 72) := R.out
    have BD : Hid (Below w.heap.size w W.drew) := B0.out.drew
    have SD : Hid (W.drew.cell? ⟨g, 0, none⟩ = some (.int .i64 z0) ∧ W.drew.cell? ⟨g, 1, none⟩ = some (.int .i64 z1) ∧ W.drew.cell? ⟨g, 2, none⟩ = some (.int .i64 z2)) := ⟨c0, c1, c2⟩
    clear k0 k1 k2 k3 f0 f1 f2 f3 lw c0 c1 c2
    go_enter Tryz.func53, Tryz.ntmps53
    go_wp2_with fail
    refine wp_region_held (S := fun w' => w'.cell? ⟨g, 0, none⟩ = some (.int .i64 z0) ∧ w'.cell? ⟨g, 1, none⟩ = some (.int .i64 z1) ∧ w'.cell? ⟨g, 2, none⟩ = some (.int .i64 z2)) (by kernel_rfl) ?_
    change wpAnyH _ _ _ _ _ _ _ _ (World.drew _)
    generalize W.drew = x0 at *
    refine wpAnyH_take (i := 0) (v := .int .i64 op) rfl (by kernel_rfl) (by kernel_rfl) (by kernel_rfl) (fun _ _ _ h => h) (Or.inl ⟨by rfl, fun w' hs => by go_simp⟩) SD.out ?_
    change wpAnyH _ _ _ _ _ _ _ (Act.put _ (some 35) _) _
    simp only [Act.put, List.setIfInBounds_toArray, List.set_cons_zero, List.set_cons_succ]
    refine wpAnyH_take (i := 1) (v := .slice (some ⟨g, 0, none⟩) 3 c) rfl (by kernel_rfl) (by kernel_rfl) (by kernel_rfl) (fun _ _ _ h => h) (Or.inl ⟨by rfl, fun w' hs => by go_simp⟩) SD.out ?_
    change wpAnyH _ _ _ _ _ _ _ (Act.put _ (some 36) _) _
    simp only [Act.put, List.setIfInBounds_toArray, List.set_cons_zero, List.set_cons_succ]
    refine wpAnyH_take (i := 2) (v := .pointer (some ⟨g, 0, none⟩)) rfl (by kernel_rfl) (by kernel_rfl) (by kernel_rfl) (fun _ _ _ h => h) (Or.inl ⟨by rfl, fun w' hs => by go_simp⟩) SD.out ?_
    change wpAnyH _ _ _ _ _ _ _ (Act.put _ (some 37) _) _
    simp only [Act.put, List.setIfInBounds_toArray, List.set_cons_zero, List.set_cons_succ]
    refine wpAnyH_take (i := 3) (v := .int .i64 z0) rfl (by kernel_rfl) (by kernel_rfl) (by kernel_rfl) (fun _ _ _ h => h) (Or.inl ⟨by rfl, fun w' hs => by have y0 := hs.1; go_simp⟩) SD.out ?_
    change wpAnyH _ _ _ _ _ _ _ (Act.put _ (some 38) _) _
    simp only [Act.put, List.setIfInBounds_toArray, List.set_cons_zero, List.set_cons_succ]
    refine wpAnyH_take (i := 4) (v := .slice (some ⟨g, 0, none⟩) 3 c) rfl (by kernel_rfl) (by kernel_rfl) (by kernel_rfl) (fun _ _ _ h => h) (Or.inl ⟨by rfl, fun w' hs => by go_simp⟩) SD.out ?_
    change wpAnyH _ _ _ _ _ _ _ (Act.put _ (some 39) _) _
    simp only [Act.put, List.setIfInBounds_toArray, List.set_cons_zero, List.set_cons_succ]
    refine wpAnyH_take (i := 5) (v := .pointer (some ⟨g, 1, none⟩)) rfl (by kernel_rfl) (by kernel_rfl) (by kernel_rfl) (fun _ _ _ h => h) (Or.inl ⟨by rfl, fun w' hs => by go_simp⟩) SD.out ?_
    change wpAnyH _ _ _ _ _ _ _ (Act.put _ (some 40) _) _
    simp only [Act.put, List.setIfInBounds_toArray, List.set_cons_zero, List.set_cons_succ]
    refine wpAnyH_take (i := 6) (v := .int .i64 z1) rfl (by kernel_rfl) (by kernel_rfl) (by kernel_rfl) (fun _ _ _ h => h) (Or.inl ⟨by rfl, fun w' hs => by have y0 := hs.2.1; go_simp⟩) SD.out ?_
    change wpAnyH _ _ _ _ _ _ _ (Act.put _ (some 41) _) _
    simp only [Act.put, List.setIfInBounds_toArray, List.set_cons_zero, List.set_cons_succ]
    refine wpAnyH_take (i := 7) (v := .slice (some ⟨g, 0, none⟩) 3 c) rfl (by kernel_rfl) (by kernel_rfl) (by kernel_rfl) (fun _ _ _ h => h) (Or.inl ⟨by rfl, fun w' hs => by go_simp⟩) SD.out ?_
    change wpAnyH _ _ _ _ _ _ _ (Act.put _ (some 42) _) _
    simp only [Act.put, List.setIfInBounds_toArray, List.set_cons_zero, List.set_cons_succ]
    refine wpAnyH_take (i := 8) (v := .pointer (some ⟨g, 2, none⟩)) rfl (by kernel_rfl) (by kernel_rfl) (by kernel_rfl) (fun _ _ _ h => h) (Or.inl ⟨by rfl, fun w' hs => by go_simp⟩) SD.out ?_
    change wpAnyH _ _ _ _ _ _ _ (Act.put _ (some 43) _) _
    simp only [Act.put, List.setIfInBounds_toArray, List.set_cons_zero, List.set_cons_succ]
    refine wpAnyH_take (i := 9) (v := .int .i64 z2) rfl (by kernel_rfl) (by kernel_rfl) (by kernel_rfl) (fun _ _ _ h => h) (Or.inl ⟨by rfl, fun w' hs => by have y0 := hs.2.2; go_simp⟩) SD.out ?_
    change wpAnyH _ _ _ _ _ _ _ (Act.put _ (some 44) _) _
    simp only [Act.put, List.setIfInBounds_toArray, List.set_cons_zero, List.set_cons_succ]
    refine wpAnyH_take (i := 10) (v := .agg #[.int .i64 op, .int .i64 z0, .int .i64 z1, .int .i64 z2]) rfl (by kernel_rfl) (by kernel_rfl) (by kernel_rfl) (fun _ _ _ h => h) (Or.inl ⟨by rfl, fun w' hs => by go_simp⟩) SD.out ?_
    change wpAnyH _ _ _ _ _ _ _ (Act.put _ (some 45) _) _
    simp only [Act.put, List.setIfInBounds_toArray, List.set_cons_zero, List.set_cons_succ]
    have NN : Hid (Vq _ s #[.int .i64 op, .int .i64 z0, .int .i64 z1, .int .i64 z2] 72) := quad4 RD.out (.int .i64 op) (.int .i64 z0) (.int .i64 z1) (.int .i64 z2)
    have BN : Hid (Below w.heap.size w _) := below4 BD.out (show w.heap.size ≤ s by have := HSS.out; omega) (.int .i64 op) (.int .i64 z0) (.int .i64 z1) (.int .i64 z2)
    have k0 := RD.out.cell 0 rfl
    have k1 := RD.out.cell 1 rfl
    have k2 := RD.out.cell 2 rfl
    have k3 := RD.out.cell 3 rfl
    have f0 := RD.out.free 0
    have f1 := RD.out.free 1
    have f2 := RD.out.free 2
    have f3 := RD.out.free 3
    refine wpAnyH_ready (rs := [11]) (by kernel_rfl) (by simp) ?_
    refine AllReadyH.cons rfl (fun K hK => ?_) AllReadyH.nil
    rw [if_pos (by rfl)]
    go_simp
    refine hK.out _ _ ⟨cell_keep BN.out HC.out.1, cell_keep BN.out HC.out.2.1, cell_keep BN.out HC.out.2.2⟩ (fun _ => ?_)
    clear hK K
    refine wpAnyH_done (by kernel_rfl) ?_ _
    generalize World.setCell _ ⟨s, 3, none⟩ (.int .i64 z2) = V at *
    clear k0 k1 k2 k3 f0 f1 f2 f3
    go_wp2_with fail
    have x0 := NN.out.cell 0 rfl
    have x1 := NN.out.cell 1 rfl
    have x2 := NN.out.cell 2 rfl
    have x3 := NN.out.cell 3 rfl
    exact bodyPost_ret (v := .agg #[.int .i64 op, .int .i64 z0, .int .i64 z1, .int .i64 z2]) (by simp [results, Tryz.results53, go_sem, x0, x1, x2, x3]) rfl ⟨rfl, BN.out⟩
end Go.Proofs.YtdmlejfopmimfaaGreatDoor
