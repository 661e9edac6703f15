/- FeedSolo's program: the closure of lonelyOf. -/
import Derived.Test.YtijajemalokgjaaFsv
import Derived.Test.YtijajemalokgjaaHmo
import Derived.Test.YtijajemalokgjaaCut
import Derived.Test.YtijajemalokgjaaSsc
import Derived.Deep.RegionWith
import Derived.Deep.RegionHeld3
import Derived.Deep.CutRange
namespace Go.Proofs.Ytijajemalokgjaa
open Go.RowKit
set_option linter.unusedVariables false

def SvN (n : Nat) (W : World) (q : Nat) (w' : World) : Prop := Mq (fun k => k = q) W w' ∧ w'.there q 0 n
theorem SvN.step {n : Nat} {W w w' : World} {q : Nat} (h : SvN n W q w) (hq : q < W.heap.size) (b : Below w.heap.size w w') : SvN n W q w' :=
  ⟨h.1.trans (Mq.of (below_grown b none) fun k e => by cases e), there_below h.2 (Nat.lt_of_lt_of_le hq h.1.size) b⟩
theorem SvN.set {n : Nat} {W w : World} {q : Nat} (h : SvN n W q w) (vs : List Value) : SvN n W q (w.setCells q 0 vs) := ⟨h.1.trans (mq_cells q vs w 0), World.there_setCells h.2 _ _ _⟩
set_option maxRecDepth 20000 in
set_option maxHeartbeats 8000000 in
theorem c_own (q g cap : Nat) (zs : List Int) (b k : Nat) (tq kd : Int) (w : World) (hq : w.cell? ⟨q, 0, none⟩ = some (.slice (some ⟨g, 0, none⟩) 8 cap)) (hp : Pags w b (.slice (some ⟨g, 0, none⟩) 8 cap) 8 zs) (hk : k < 8) :
    Calls Try.prog 57 #[.int .i64 (k : Int), .agg #[.int .i64 tq, .int .i64 kd], .pointer (some ⟨q, 0, none⟩)] w fun e w' => e = .returned (.agg #[.int .i64 tq, .int .i64 kd, .int .i64 (zs.getD (k * 8) 0), .int .i64 (zs.getD (k * 8 + 1) 0), .int .i64 (zs.getD (k * 8 + 2) 0), .int .i64 (zs.getD (k * 8 + 3) 0), .int .i64 (zs.getD (k * 8 + 4) 0), .int .i64 (zs.getD (k * 8 + 5) 0), .int .i64 (zs.getD (k * 8 + 6) 0), .int .i64 (zs.getD (k * 8 + 7) 0)]) ∧ Below w.heap.size w w' := by
  obtain ⟨z0, hz0⟩ : ∃ z, zs.getD (k * 8) 0 = z := ⟨_, rfl⟩
  obtain ⟨z1, hz1⟩ : ∃ z, zs.getD (k * 8 + 1) 0 = z := ⟨_, rfl⟩
  obtain ⟨z2, hz2⟩ : ∃ z, zs.getD (k * 8 + 2) 0 = z := ⟨_, rfl⟩
  obtain ⟨z3, hz3⟩ : ∃ z, zs.getD (k * 8 + 3) 0 = z := ⟨_, rfl⟩
  obtain ⟨z4, hz4⟩ : ∃ z, zs.getD (k * 8 + 4) 0 = z := ⟨_, rfl⟩
  obtain ⟨z5, hz5⟩ : ∃ z, zs.getD (k * 8 + 5) 0 = z := ⟨_, rfl⟩
  obtain ⟨z6, hz6⟩ : ∃ z, zs.getD (k * 8 + 6) 0 = z := ⟨_, rfl⟩
  obtain ⟨z7, hz7⟩ : ∃ z, zs.getD (k * 8 + 7) 0 = z := ⟨_, rfl⟩
  have c0 := hp.cell (k * 8) (by omega)
  have c1 := hp.cell (k * 8 + 1) (by omega)
  have c2 := hp.cell (k * 8 + 2) (by omega)
  have c3 := hp.cell (k * 8 + 3) (by omega)
  have c4 := hp.cell (k * 8 + 4) (by omega)
  have c5 := hp.cell (k * 8 + 5) (by omega)
  have c6 := hp.cell (k * 8 + 6) (by omega)
  have c7 := hp.cell (k * 8 + 7) (by omega)
  rw [hz0, hz1, hz2, hz3, hz4, hz5, hz6, hz7]
  rw [hz0] at c0
  rw [hz1] at c1
  rw [hz2] at c2
  rw [hz3] at c3
  rw [hz4] at c4
  rw [hz5] at c5
  rw [hz6] at c6
  rw [hz7] at c7
  have C : Hid (w.cell? ⟨q, 0, none⟩ = some (.slice (some ⟨g, 0, none⟩) 8 cap) ∧ w.cell? ⟨g, k * 8, none⟩ = some (.int .i64 z0) ∧ w.cell? ⟨g, k * 8 + 1, none⟩ = some (.int .i64 z1) ∧ w.cell? ⟨g, k * 8 + 2, none⟩ = some (.int .i64 z2) ∧ w.cell? ⟨g, k * 8 + 3, none⟩ = some (.int .i64 z3) ∧ w.cell? ⟨g, k * 8 + 4, none⟩ = some (.int .i64 z4) ∧ w.cell? ⟨g, k * 8 + 5, none⟩ = some (.int .i64 z5) ∧ w.cell? ⟨g, k * 8 + 6, none⟩ = some (.int .i64 z6) ∧ w.cell? ⟨g, k * 8 + 7, none⟩ = some (.int .i64 z7)) := ⟨hq, c0, c1, c2, c3, c4, c5, c6, c7⟩
  have HK : Hid (k < 8) := hk
  have hI : (k : Int) < 8 := by omega
  clear hq hp hk hz0 c0 hz1 c1 hz2 c2 hz3 c3 hz4 c4 hz5 c5 hz6 c6 hz7 c7
  generalize hW : (w.alloc (.cells #[.int .i64 tq, .int .i64 kd] 74)).alloc (.cells #[.int .i64 0, .int .i64 0, .int .i64 0, .int .i64 0, .int .i64 0, .int .i64 0, .int .i64 0, .int .i64 0, .int .i64 0, .int .i64 0] 78) = W
  have B0 : Hid (Below w.heap.size w W) := by show Below _ _ _; rw [← hW]; exact al (al (Below.refl _ _) _) _
  obtain ⟨s, hS⟩ : ∃ s, w.heap.size = s := ⟨_, rfl⟩
  have HSs : Hid (w.heap.size = s) := hS
  have z1 : s + 1 = (w.alloc (.cells #[.int .i64 tq, .int .i64 kd] 74)).heap.size := by rw [← hS]; simp
  have Q : Hid (Vb W s #[.int .i64 tq, .int .i64 kd] 74) := by show Vb _ _ _ _; rw [← hW, ← hS]; exact (Vb.new _ _ _).push _
  have R : Hid (Vb W (s + 1) #[.int .i64 0, .int .i64 0, .int .i64 0, .int .i64 0, .int .i64 0, .int .i64 0, .int .i64 0, .int .i64 0, .int .i64 0, .int .i64 0] 78) := by show Vb _ _ _ _; rw [← hW, z1]; exact Vb.new _ _ _
  clear z1
  have LT : Hid (s + 1 < W.heap.size) := R.out.lt
  have BS : Hid (∀ w', SvN 10 W (s + 1) w' → Below w.heap.size w w') := fun w' hs => Mq.under B0.out hs.1 fun k e => by have := HSs.out; omega
  have QS : Hid (∀ w', SvN 10 W (s + 1) w' → Vb w' s #[.int .i64 tq, .int .i64 kd] 74) := fun w' hs => hs.1.vb Q.out (by omega)
  have Sv0 : Hid (SvN 10 W (s + 1) W.drew) := SvN.step ⟨Mq.refl _ _, R.out.there 10 (by decide)⟩ LT.out (Below.refl _ _).drew
  go_enter Try.func57, Try.ntmps57
  go_upto_region 1 with fail
  clear hW hS
  refine wp_region_held (S := fun w' => SvN 10 W (s + 1) w') (by kernel_rfl) ?_
  change wpAnyH _ _ _ _ _ _ _ _ (World.drew _)
  generalize W.drew = v0 at *
  refine wpAnyH_take (i := 0) (v := (.agg #[.int .i64 tq, .int .i64 kd])) rfl (by kernel_rfl) (by kernel_rfl) (by kernel_rfl) (fun _ _ _ h => h) (Or.inl ⟨by rfl, fun w' hs => by have hq := QS.out w' hs; have y0 := hq.cell 0 rfl; have y1 := hq.cell 1 rfl; go_simp⟩) Sv0.out ?_
  change wpAnyH _ _ _ _ _ _ _ (Act.put _ (some 6) _) _
  simp only [Act.put, List.setIfInBounds_toArray, List.set_cons_zero, List.set_cons_succ]
  refine wpAnyH_take (i := 1) (v := (.slice (some ⟨g, 0, none⟩) 8 cap)) rfl (by kernel_rfl) (by kernel_rfl) (by kernel_rfl) (fun _ _ _ h => h) (Or.inl ⟨by rfl, fun w' hs => by have y0 := cell_keep (BS.out w' hs) C.out.1; go_simp⟩) Sv0.out ?_
  change wpAnyH _ _ _ _ _ _ _ (Act.put _ (some 7) _) _
  simp only [Act.put, List.setIfInBounds_toArray, List.set_cons_zero, List.set_cons_succ]
  refine wpAnyH_take (i := 2) (v := (.int .i64 (k : Int))) rfl (by kernel_rfl) (by kernel_rfl) (by kernel_rfl) (fun _ _ _ h => h) (Or.inl ⟨by rfl, fun w' hs => by go_simp⟩) Sv0.out ?_
  change wpAnyH _ _ _ _ _ _ _ (Act.put _ (some 8) _) _
  simp only [Act.put, List.setIfInBounds_toArray, List.set_cons_zero, List.set_cons_succ]
  refine wpAnyH_take (i := 3) (v := (.pointer (some ⟨g, k * 8, none⟩))) rfl (by kernel_rfl) (by kernel_rfl) (by kernel_rfl) (fun _ _ _ h => h) (Or.inl ⟨by rfl, fun w' hs => by have y0 := cell_keep (BS.out w' hs) C.out.2.1; go_simp⟩) Sv0.out ?_
  change wpAnyH _ _ _ _ _ _ _ (Act.put _ (some 9) _) _
  simp only [Act.put, List.setIfInBounds_toArray, List.set_cons_zero, List.set_cons_succ]
  refine wpAnyH_take (i := 4) (v := (.agg #[.int .i64 z0, .int .i64 z1, .int .i64 z2, .int .i64 z3, .int .i64 z4, .int .i64 z5, .int .i64 z6, .int .i64 z7])) rfl (by kernel_rfl) (by kernel_rfl) (by kernel_rfl) (fun _ _ _ h => h) (Or.inl ⟨by rfl, fun w' hs => by have y0 := cell_keep (BS.out w' hs) C.out.2.1; have y1 := cell_keep (BS.out w' hs) C.out.2.2.1; have y2 := cell_keep (BS.out w' hs) C.out.2.2.2.1; have y3 := cell_keep (BS.out w' hs) C.out.2.2.2.2.1; have y4 := cell_keep (BS.out w' hs) C.out.2.2.2.2.2.1; have y5 := cell_keep (BS.out w' hs) C.out.2.2.2.2.2.2.1; have y6 := cell_keep (BS.out w' hs) C.out.2.2.2.2.2.2.2.1; have y7 := cell_keep (BS.out w' hs) C.out.2.2.2.2.2.2.2.2; go_simp⟩) Sv0.out ?_
  change wpAnyH _ _ _ _ _ _ _ (Act.put _ (some 10) _) _
  simp only [Act.put, List.setIfInBounds_toArray, List.set_cons_zero, List.set_cons_succ]
  refine wpAnyH_take (i := 5) (v := (.agg #[.int .i64 tq, .int .i64 kd, .int .i64 z0, .int .i64 z1, .int .i64 z2, .int .i64 z3, .int .i64 z4, .int .i64 z5, .int .i64 z6, .int .i64 z7])) rfl (by kernel_rfl) (by kernel_rfl) (by kernel_rfl) (fun _ _ _ h => h) (Or.inl ⟨by rfl, fun w' hs => by go_simp⟩) Sv0.out ?_
  change wpAnyH _ _ _ _ _ _ _ (Act.put _ (some 11) _) _
  simp only [Act.put, List.setIfInBounds_toArray, List.set_cons_zero, List.set_cons_succ]
  refine wpAnyH_ready (rs := [6]) (by kernel_rfl) (by simp) ?_
  refine AllReadyH.cons rfl (fun K hK => ?_) AllReadyH.nil
  rw [if_pos (by rfl)]
  refine wp_store_mid 78 (.tmp 5) (.tmp 11) rfl (s + 1) 0 #[.int .i64 tq, .int .i64 kd, .int .i64 z0, .int .i64 z1, .int .i64 z2, .int .i64 z3, .int .i64 z4, .int .i64 z5, .int .i64 z6, .int .i64 z7] rfl rfl Sv0.out.2 (by kernel_rfl) (by simp [Value.oneCell']) ?_
  change K (Act.put _ none undef) _
  simp only [Act.put]
  have S6 : Hid (SvN 10 W (s + 1) (v0.setCells (s + 1) 0 #[.int .i64 tq, .int .i64 kd, .int .i64 z0, .int .i64 z1, .int .i64 z2, .int .i64 z3, .int .i64 z4, .int .i64 z5, .int .i64 z6, .int .i64 z7].toList)) := Sv0.out.set _
  have R6 : Hid ((v0.setCells (s + 1) 0 #[.int .i64 tq, .int .i64 kd, .int .i64 z0, .int .i64 z1, .int .i64 z2, .int .i64 z3, .int .i64 z4, .int .i64 z5, .int .i64 z6, .int .i64 z7].toList).rangeAt (s + 1) 0 #[.int .i64 tq, .int .i64 kd, .int .i64 z0, .int .i64 z1, .int .i64 z2, .int .i64 z3, .int .i64 z4, .int .i64 z5, .int .i64 z6, .int .i64 z7].toList) := World.rangeAt_setCells_same _ _ _ _ Sv0.out.2
  have Q6 : Hid (Mq (fun k => k = s + 1) v0 (v0.setCells (s + 1) 0 #[.int .i64 tq, .int .i64 kd, .int .i64 z0, .int .i64 z1, .int .i64 z2, .int .i64 z3, .int .i64 z4, .int .i64 z5, .int .i64 z6, .int .i64 z7].toList)) := mq_cells (s + 1) _ v0 0
  generalize v0.setCells (s + 1) 0 #[.int .i64 tq, .int .i64 kd, .int .i64 z0, .int .i64 z1, .int .i64 z2, .int .i64 z3, .int .i64 z4, .int .i64 z5, .int .i64 z6, .int .i64 z7].toList = v6 at *
  refine hK.out _ _ S6.out (fun _ => ?_)
  clear hK K
  refine wpAnyH_done (by kernel_rfl) ?_ _
  have LD := run_loadVar_mid (P := Try.prog) v6 (s + 1) 0 78 #[.int .i64 tq, .int .i64 kd, .int .i64 z0, .int .i64 z1, .int .i64 z2, .int .i64 z3, .int .i64 z4, .int .i64 z5, .int .i64 z6, .int .i64 z7].toList _ R6.out Try.underlying78 rfl (by kernel_rfl)
  go_wp2_with fail
  exact bodyPost_ret (v := .agg #[.int .i64 tq, .int .i64 kd, .int .i64 z0, .int .i64 z1, .int .i64 z2, .int .i64 z3, .int .i64 z4, .int .i64 z5, .int .i64 z6, .int .i64 z7]) (by simp [results, Try.results57, asAddr]; rw [LD]) rfl ⟨rfl, BS.out _ S6.out⟩
end Go.Proofs.Ytijajemalokgjaa
