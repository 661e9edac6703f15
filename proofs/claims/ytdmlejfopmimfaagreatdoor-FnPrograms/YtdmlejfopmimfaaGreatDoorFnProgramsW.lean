/- The walk of a law. -/
import Derived.Test.YtdmlejfopmimfaaGreatDoorCards
import Derived.Test.YtdmlejfopmimfaaGreatDoorTie
import Derived.Deep.DeepHandedRow
import Derived.Lib.LaidTab
import Derived.Stop.LaidErr
import Derived.Deep.RegionWith
import Derived.Deep.RegionHeld3
import Derived.Deep.Cut
import Derived.Deep.CutRange
import Derived.Test.YtdmlejfopmimfaaGreatDoorQ01
import Derived.Test.YtdmlejfopmimfaaGreatDoorQ14
import Derived.Test.YtdmlejfopmimfaaGreatDoorQ33
import Derived.Test.YtdmlejfopmimfaaGreatDoorQ36
import Derived.Test.YtdmlejfopmimfaaGreatDoorQ42
import Derived.Test.YtdmlejfopmimfaaGreatDoorQ50
namespace Go.Proofs.YtdmlejfopmimfaaGreatDoor.fnProgramsDone
open Go.ChangeShapes Go.WideShapes Go.ChangeAt Go.RowKit
open Go.ChangeMaps (open_string shut_string)
set_option linter.unusedVariables false

theorem field_text0 (x y : Value) (w : World) : (Instr.field 27 (.agg #[x, y]) 0).run Tryz.prog w = .ok x w := by kernel_rfl
theorem field_wr0 (x y z : Value) (w : World) : (Instr.field 31 (.agg #[x, y, z]) 0).run Tryz.prog w = .ok x w := by kernel_rfl
theorem field_wr2 (x y z : Value) (w : World) : (Instr.field 31 (.agg #[x, y, z]) 2).run Tryz.prog w = .ok z w := by kernel_rfl
set_option maxRecDepth 20000 in
set_option maxHeartbeats 16000000 in
theorem walk (a0 : Option Addr) (len0 cap0 : Nat) (z0 : List Int) (w : World) (w0 : IsRow .u8 w a0 len0 cap0 z0) (ht : Lib.TabIs Tryz.prog w "internal/strconv.uint64pow10" .u64 Lib.pow10Tab) :
    Calls Tryz.prog 3 #[.slice a0 len0 cap0] w fun e w' => e = .returned (.bool true) ∧ Below w.heap.size w w' := by
  have HR : Hid (IsRow .u8 w a0 len0 cap0 z0) := w0
  have HT : Hid (Lib.TabIs Tryz.prog w "internal/strconv.uint64pow10" .u64 Lib.pow10Tab) := ht
  clear w0 ht
  by_cases hbig : 1048576 < (len0 : Int)
  · go_enter Tryz.func3, Tryz.ntmps3
    go_wp2
    go_ret
    exact ⟨rfl, Below.refl _ _⟩
  have hb2 : (len0 : Int) ≤ 1048576 := by omega
  clear hbig
  go_enter Tryz.func3, Tryz.ntmps3
  go_wp2_with (go_at_call 4; go_in)
  refine (drawDis_any HR.out).mono ?_
  rintro e w1 ⟨v, zs, rfl, n1, hzl, b1⟩
  have B1 : Hid (Below w.heap.size w w1) := b1
  have N1 : Hid (Nums w1 w.heap.size v zs) := n1
  clear b1 n1 hzl
  go_wp2_with fail
  refine (i_dis v zs _ _ N1.out (Lib.tabBelow_of_tabIs HT.out _ B1.out)).mono ?_
  rintro e w2 ⟨rfl, b2⟩
  obtain ⟨t, hs⟩ : ∃ t, w2.heap.size = t := ⟨_, rfl⟩
  obtain ⟨C, hC⟩ : ∃ C, dsC zs = C := ⟨_, rfl⟩
  obtain ⟨X, hX⟩ : ∃ X, bs (dsT zs) = X := ⟨_, rfl⟩
  have HC : Hid (dsC zs = C ∧ bs (dsT zs) = X) := ⟨hC, hX⟩
  rw [hC, hX]
  have AL : Hid (Below w1.heap.size w1 (w2.alloc (.cells #[.int .i64 C, .string X] 27))) := al b2 _
  have VT : Hid (Vq (w2.alloc (.cells #[.int .i64 C, .string X] 27)) t #[.int .i64 C, .string X] 27) := by show Vq _ _ _ _; rw [← hs]; exact Vq.new _ _ _
  clear b2 hC hX
  go_upto_region 5 with fail
  try rw [hs]
  generalize w2.alloc (.cells #[.int .i64 C, .string X] 27) = W2 at *
  clear hs
  replace B1 : Hid (Below w.heap.size w W2) := on B1.out AL.out
  replace N1 : Hid (Nums W2 w.heap.size v zs) := N1.out.keep AL.out
  clear AL
  go_wp2_with fail
  refine (drawAsm_any (HR.out.stay B1.out)).mono ?_
  rintro e w3 ⟨S, rfl, hS, b3⟩
  obtain ⟨tx, rfl⟩ : ∃ tx, S = bq tx := ⟨_, bq_of S⟩
  have HS : Hid (tx.length ≤ 1048576) := by show _ ≤ _; rw [bq_size] at hS; omega
  have B3 : Hid (Below w.heap.size w w3) := on B1.out b3
  have N3 : Hid (Nums w3 w.heap.size v zs) := N1.out.keep b3
  have T3 : Hid (Vq w3 t #[.int .i64 C, .string X] 27) := VT.out.keep b3
  clear b3 hS B1 N1 VT HR
  go_wp2_with fail
  refine (i_assemble tx _ HS.out).mono ?_
  rintro e w4 ⟨u, rfl, n4, b4⟩
  obtain ⟨c, hc⟩ : ∃ c, (asmV tx).1 = c := ⟨_, rfl⟩
  obtain ⟨a, ha⟩ : ∃ a, (asmV tx).2.1 = a := ⟨_, rfl⟩
  obtain ⟨ys, hy⟩ : ∃ ys, (asmV tx).2.2 = ys := ⟨_, rfl⟩
  rw [hc, ha]
  rw [hy] at n4
  obtain ⟨au, cu, hu, _, _, _⟩ := n4.shape
  obtain ⟨L, hL⟩ : ∃ L, ys.length = L := ⟨_, rfl⟩
  rw [hL] at hu
  subst hu
  clear hL
  have HA : Hid ((asmV tx).1 = c ∧ (asmV tx).2.1 = a ∧ (asmV tx).2.2 = ys) := ⟨hc, ha, hy⟩
  obtain ⟨q, hq⟩ : ∃ q, w4.heap.size = q := ⟨_, rfl⟩
  have AL : Hid (Below w3.heap.size w3 (w4.alloc (.cells #[.int .i64 c, .int .i64 (a : Nat), (.slice au L cu)] 31))) := al b4 _
  have VQ : Hid (Vq (w4.alloc (.cells #[.int .i64 c, .int .i64 (a : Nat), (.slice au L cu)] 31)) q #[.int .i64 c, .int .i64 (a : Nat), (.slice au L cu)] 31) := by show Vq _ _ _ _; rw [← hq]; exact Vq.new _ _ _
  have NU : Hid (Nums (w4.alloc (.cells #[.int .i64 c, .int .i64 (a : Nat), (.slice au L cu)] 31)) w3.heap.size (.slice au L cu) ys) := n4.keep (al (Below.refl _ _) _)
  clear b4 n4 hc ha hy
  go_upto_region 7 with fail
  try rw [hq]
  generalize w4.alloc (.cells #[.int .i64 c, .int .i64 (a : Nat), (.slice au L cu)] 31) = W4 at *
  clear hq
  replace B3 : Hid (Below w.heap.size w W4) := on B3.out AL.out
  replace N3 : Hid (Nums W4 w.heap.size v zs) := N3.out.keep AL.out
  replace T3 : Hid (Vq W4 t #[.int .i64 C, .string X] 27) := T3.out.keep AL.out
  clear AL
  -- what is left behind the second text
  have TAIL : Hid (∀ (wz : World), Below w.heap.size w wz → Nums wz w.heap.size v zs → Vq wz t #[.int .i64 C, .string X] 27 → True) := fun _ _ _ _ => trivial
  clear TAIL
  have g0 := VQ.out.cell 0 rfl
  by_cases hz : c = 0
  case neg =>
    go_wp2_with fail
    clear g0
    have SD : Hid (Below W4.heap.size W4 W4.drew) := (Below.refl _ _).drew
    refine wp_region_held (S := fun w' => Below W4.heap.size W4 w') (by kernel_rfl) ?_
    change wpAnyH _ _ _ _ _ _ _ _ (World.drew _)
    generalize W4.drew = u0 at *
    refine wpAnyH_take (i := 0) (v := (.string (bq tx))) rfl (by kernel_rfl) (by kernel_rfl) (by kernel_rfl) (fun _ _ _ h => h) (Or.inl ⟨by rfl, fun w' hs => by go_simp⟩) SD.out ?_
    change wpAnyH _ _ _ _ _ _ _ (Act.put _ (some 37) _) _
    simp only [Act.put, List.setIfInBounds_toArray, List.set_cons_zero, List.set_cons_succ]
    refine wpAnyH_take (i := 3) (v := (.pointer (some ⟨q, 0, none⟩))) rfl (by kernel_rfl) (by kernel_rfl) (by kernel_rfl) (fun _ _ _ h => h) (Or.inl ⟨by rfl, fun w' hs => by go_simp⟩) SD.out ?_
    change wpAnyH _ _ _ _ _ _ _ (Act.put _ (some 40) _) _
    simp only [Act.put, List.setIfInBounds_toArray, List.set_cons_zero, List.set_cons_succ]
    refine wpAnyH_take (i := 4) (v := (.int .i64 c)) rfl (by kernel_rfl) (by kernel_rfl) (by kernel_rfl) (fun _ _ _ h => h) (Or.inl ⟨by rfl, fun w' hs => by have y := (VQ.out.keep hs).cell 0 rfl; go_simp⟩) SD.out ?_
    change wpAnyH _ _ _ _ _ _ _ (Act.put _ (some 41) _) _
    simp only [Act.put, List.setIfInBounds_toArray, List.set_cons_zero, List.set_cons_succ]
    refine wpAnyH_ready (rs := [1]) (by kernel_rfl) (by simp) ?_
    refine AllReadyH.cons rfl (fun K hK => ?_) AllReadyH.nil
    rw [if_pos (by rfl)]
    go_simp
    refine (s_assemble tx _ HS.out).mono ?_
    rintro e u1 ⟨x5, rfl, n5, b5⟩
    rw [HA.out.1]
    generalize ((asmV tx).2.1 : Nat) = a5
    replace SD : Hid (Below W4.heap.size W4 u1) := on SD.out b5
    clear b5 n5
    refine hK.out _ _ SD.out (fun _ => ?_)
    clear hK K
    refine wpAnyH_take (i := 2) (v := (.int .i64 c)) rfl (by kernel_rfl) (by kernel_rfl) (by kernel_rfl) (fun _ _ _ h => h) (Or.inl ⟨by rfl, fun w' hs => by have hf := field_wr0; go_simp⟩) SD.out ?_
    change wpAnyH _ _ _ _ _ _ _ (Act.put _ (some 39) _) _
    simp only [Act.put, List.setIfInBounds_toArray, List.set_cons_zero, List.set_cons_succ]
    refine wpAnyH_take (i := 5) (v := (.bool false)) rfl (by kernel_rfl) (by kernel_rfl) (by kernel_rfl) (fun _ _ _ h => h) (Or.inl ⟨by rfl, fun w' hs => by go_simp⟩) SD.out ?_
    change wpAnyH _ _ _ _ _ _ _ (Act.put _ (some 42) _) _
    simp only [Act.put, List.setIfInBounds_toArray, List.set_cons_zero, List.set_cons_succ]
    refine wpAnyH_done (by kernel_rfl) ?_ _
    go_upto_region 13 with fail
    have B5 : Hid (Below w.heap.size w u1) := on B3.out SD.out
    have N5 : Hid (Nums u1 w.heap.size v zs) := N3.out.keep SD.out
    have T5 : Hid (Vq u1 t #[.int .i64 C, .string X] 27) := T3.out.keep SD.out
    clear SD B3 N3 T3 VQ NU HA HS
    generalize u1 = x1 at *
    have t0 := T5.out.cell 0 rfl
    have t1 := T5.out.cell 1 rfl
    by_cases hC : C = 0
    case neg =>
      go_wp2_with fail
      clear t0 t1
      have SE : Hid (Below x1.heap.size x1 x1.drew) := (Below.refl _ _).drew
      refine wp_region_held (S := fun w' => Below x1.heap.size x1 w') (by kernel_rfl) ?_
      change wpAnyH _ _ _ _ _ _ _ _ (World.drew _)
      generalize x1.drew = y0 at *
      have NE : Hid (∀ w', Below x1.heap.size x1 w' → Nums w' w.heap.size v zs) := fun w' h => N5.out.keep h
      refine wpAnyH_take (i := 0) (v := v) rfl (by kernel_rfl) (by kernel_rfl) (by kernel_rfl) (fun _ _ _ h => h) (Or.inl ⟨by rfl, fun w' hs => by go_simp⟩) SE.out ?_
      change wpAnyH _ _ _ _ _ _ _ (Act.put _ (some 46) _) _
      simp only [Act.put, List.setIfInBounds_toArray, List.set_cons_zero, List.set_cons_succ]
      refine wpAnyH_take (i := 3) (v := (.pointer (some ⟨t, 0, none⟩))) rfl (by kernel_rfl) (by kernel_rfl) (by kernel_rfl) (fun _ _ _ h => h) (Or.inl ⟨by rfl, fun w' hs => by go_simp⟩) SE.out ?_
      change wpAnyH _ _ _ _ _ _ _ (Act.put _ (some 49) _) _
      simp only [Act.put, List.setIfInBounds_toArray, List.set_cons_zero, List.set_cons_succ]
      refine wpAnyH_take (i := 4) (v := (.int .i64 C)) rfl (by kernel_rfl) (by kernel_rfl) (by kernel_rfl) (fun _ _ _ h => h) (Or.inl ⟨by rfl, fun w' hs => by have y := (T5.out.keep hs).cell 0 rfl; go_simp⟩) SE.out ?_
      change wpAnyH _ _ _ _ _ _ _ (Act.put _ (some 50) _) _
      simp only [Act.put, List.setIfInBounds_toArray, List.set_cons_zero, List.set_cons_succ]
      refine wpAnyH_ready (rs := [1]) (by kernel_rfl) (by simp) ?_
      refine AllReadyH.cons rfl (fun K hK => ?_) AllReadyH.nil
      rw [if_pos (by rfl)]
      go_simp
      refine (s_dis v zs _ _ (NE.out _ SE.out)).mono ?_
      rintro e y1 ⟨rfl, b6⟩
      rw [HC.out.1, HC.out.2]
      replace SE : Hid (Below x1.heap.size x1 y1) := on SE.out b6
      clear b6
      refine hK.out _ _ SE.out (fun _ => ?_)
      clear hK K
      refine wpAnyH_take (i := 2) (v := (.int .i64 C)) rfl (by kernel_rfl) (by kernel_rfl) (by kernel_rfl) (fun _ _ _ h => h) (Or.inl ⟨by rfl, fun w' hs => by have hf := field_text0; go_simp⟩) SE.out ?_
      change wpAnyH _ _ _ _ _ _ _ (Act.put _ (some 48) _) _
      simp only [Act.put, List.setIfInBounds_toArray, List.set_cons_zero, List.set_cons_succ]
      refine wpAnyH_take (i := 5) (v := (.bool true)) rfl (by kernel_rfl) (by kernel_rfl) (by kernel_rfl) (fun _ _ _ h => h) (Or.inl ⟨by rfl, fun w' hs => by go_simp⟩) SE.out ?_
      change wpAnyH _ _ _ _ _ _ _ (Act.put _ (some 51) _) _
      simp only [Act.put, List.setIfInBounds_toArray, List.set_cons_zero, List.set_cons_succ]
      refine wpAnyH_take (i := 6) (v := (.bool true)) rfl (by kernel_rfl) (by kernel_rfl) (by kernel_rfl) (fun _ _ _ h => h) (Or.inl ⟨by rfl, fun w' hs => by go_simp⟩) SE.out ?_
      change wpAnyH _ _ _ _ _ _ _ (Act.put _ (some 2) _) _
      simp only [Act.put, List.setIfInBounds_toArray, List.set_cons_zero, List.set_cons_succ]
      refine wpAnyH_done (by kernel_rfl) ?_ _
      go_wp2_with fail
      go_ret
      exact ⟨rfl, on B5.out SE.out⟩
    subst hC
    go_wp2_with fail
    clear t0
    have hl := dsT_len zs
    have hX : Hid (bq (dsT zs) = X) := HC.out.2
    have hXs : X.size = (dsT zs).length := by rw [← hX.out, bq_size]
    have fa := fun W => i_assemble (dsT zs) W (by omega)
    rw [hX.out] at fa
    refine (fa _).mono ?_
    rintro e y1 ⟨u6, rfl, n6, b6⟩
    obtain ⟨au6, cu6, hu6, _, _, _⟩ := n6.shape
    obtain ⟨L6, hL6⟩ : ∃ L, (asmV (dsT zs)).2.2.length = L := ⟨_, rfl⟩
    rw [hL6] at hu6
    subst hu6
    clear hL6
    have B6 : Hid (Below x1.heap.size x1 y1) := b6
    obtain ⟨p6, hp6⟩ : ∃ p, y1.heap.size = p := ⟨_, rfl⟩
    by_cases hlong : 1500 < (dsT zs).length
    · rw [asm_long hlong]
      generalize ((asmV (dsT zs)).2.1 : Nat) = a6
      have hLI : 1500 < (X.size : Int) := by omega
      have V6 : Hid (Vq (y1.alloc (.cells #[.int .i64 2, .int .i64 (a6 : Nat), (.slice au6 L6 cu6)] 31)) p6 #[.int .i64 2, .int .i64 (a6 : Nat), (.slice au6 L6 cu6)] 31) := by show Vq _ _ _ _; rw [← hp6]; exact Vq.new _ _ _
      have A6 : Hid (Below x1.heap.size x1 (y1.alloc (.cells #[.int .i64 2, .int .i64 (a6 : Nat), (.slice au6 L6 cu6)] 31))) := al b6 _
      clear b6 n6 B6
      go_upto_region 16 with fail
      try rw [hp6]
      generalize y1.alloc (.cells #[.int .i64 2, .int .i64 (a6 : Nat), (.slice au6 L6 cu6)] 31) = x2 at *
      have t1 := (T5.out.keep A6.out).cell 1 rfl
      have s0 := V6.out.cell 0 rfl
      go_wp2_with fail
      go_ret
      exact ⟨rfl, on B5.out A6.out⟩
    · have ha6 := asm_ds (zs := zs) HC.out.1 (by omega)
      rw [ha6] at n6 ⊢
      have hLI : ¬ 1500 < (X.size : Int) := by omega
      have V6 : Hid (Vq (y1.alloc (.cells #[.int .i64 0, .int .i64 ((0 : Nat) : Int), (.slice au6 L6 cu6)] 31)) p6 #[.int .i64 0, .int .i64 ((0 : Nat) : Int), (.slice au6 L6 cu6)] 31) := by show Vq _ _ _ _; rw [← hp6]; exact Vq.new _ _ _
      have A6 : Hid (Below x1.heap.size x1 (y1.alloc (.cells #[.int .i64 0, .int .i64 ((0 : Nat) : Int), (.slice au6 L6 cu6)] 31))) := al b6 _
      have N7 : Hid (Nums (y1.alloc (.cells #[.int .i64 0, .int .i64 ((0 : Nat) : Int), (.slice au6 L6 cu6)] 31)) x1.heap.size (.slice au6 L6 cu6) zs) := n6.keep (al (Below.refl _ _) _)
      clear b6 n6 B6 ha6
      go_upto_region 16 with fail
      try rw [hp6]
      generalize y1.alloc (.cells #[.int .i64 0, .int .i64 ((0 : Nat) : Int), (.slice au6 L6 cu6)] 31) = x2 at *
      have t1 := (T5.out.keep A6.out).cell 1 rfl
      have s0 := V6.out.cell 0 rfl
      have s2 := V6.out.cell 2 rfl
      go_wp2_with fail
      refine (lw_numsD (.slice au6 L6 cu6) v zs _ _ _ N7.out (N5.out.keep A6.out)).mono ?_
      rintro e x3 ⟨rfl, nq, rfl⟩
      go_wp2_with fail
      go_ret
      exact ⟨rfl, dr (on B5.out A6.out) nq⟩
  subst hz
  have DS : Hid (dsC ys = 0) := by
    have := ds_asm (tx := tx) HA.out.1
    rw [HA.out.2.2] at this
    exact this
  have g2 := VQ.out.cell 2 rfl
  go_wp2_with fail
  clear g0 g2
  refine (i_dis (.slice au L cu) ys _ _ NU.out (Lib.tabBelow_of_tabIs HT.out _ B3.out)).mono ?_
  rintro e w5 ⟨rfl, b5⟩
  rw [DS.out]
  generalize bs (dsT ys) = Y
  obtain ⟨p, hp⟩ : ∃ p, w5.heap.size = p := ⟨_, rfl⟩
  have AL : Hid (Below W4.heap.size W4 (w5.alloc (.cells #[.int .i64 0, .string Y] 27))) := al b5 _
  have VP : Hid (Vq (w5.alloc (.cells #[.int .i64 0, .string Y] 27)) p #[.int .i64 0, .string Y] 27) := by show Vq _ _ _ _; rw [← hp]; exact Vq.new _ _ _
  clear b5
  go_upto_region 9 with fail
  try rw [hp]
  generalize w5.alloc (.cells #[.int .i64 0, .string Y] 27) = W5 at *
  clear hp
  replace B3 : Hid (Below w.heap.size w W5) := on B3.out AL.out
  replace N3 : Hid (Nums W5 w.heap.size v zs) := N3.out.keep AL.out
  replace T3 : Hid (Vq W5 t #[.int .i64 C, .string X] 27) := T3.out.keep AL.out
  replace VQ : Hid (Vq W5 q #[.int .i64 0, .int .i64 (a : Nat), (.slice au L cu)] 31) := VQ.out.keep AL.out
  replace NU : Hid (Nums W5 w3.heap.size (.slice au L cu) ys) := NU.out.keep AL.out
  clear AL
  have SD : Hid (Below W5.heap.size W5 W5.drew) := (Below.refl _ _).drew
  refine wp_region_held (S := fun w' => Below W5.heap.size W5 w') (by kernel_rfl) ?_
  change wpAnyH _ _ _ _ _ _ _ _ (World.drew _)
  generalize W5.drew = u0 at *
  refine wpAnyH_take (i := 0) (v := (.pointer (some ⟨p, 0, none⟩))) rfl (by kernel_rfl) (by kernel_rfl) (by kernel_rfl) (fun _ _ _ h => h) (Or.inl ⟨by rfl, fun w' hs => by go_simp⟩) SD.out ?_
  change wpAnyH _ _ _ _ _ _ _ (Act.put _ (some 25) _) _
  simp only [Act.put, List.setIfInBounds_toArray, List.set_cons_zero, List.set_cons_succ]
  refine wpAnyH_take (i := 1) (v := (.int .i64 0)) rfl (by kernel_rfl) (by kernel_rfl) (by kernel_rfl) (fun _ _ _ h => h) (Or.inl ⟨by rfl, fun w' hs => by have y := (VP.out.keep hs).cell 0 rfl; go_simp⟩) SD.out ?_
  change wpAnyH _ _ _ _ _ _ _ (Act.put _ (some 26) _) _
  simp only [Act.put, List.setIfInBounds_toArray, List.set_cons_zero, List.set_cons_succ]
  refine wpAnyH_take (i := 2) (v := (.bool false)) rfl (by kernel_rfl) (by kernel_rfl) (by kernel_rfl) (fun _ _ _ h => h) (Or.inl ⟨by rfl, fun w' hs => by go_simp⟩) SD.out ?_
  change wpAnyH _ _ _ _ _ _ _ (Act.put _ (some 27) _) _
  simp only [Act.put, List.setIfInBounds_toArray, List.set_cons_zero, List.set_cons_succ]
  refine wpAnyH_take (i := 3) (v := (.bool false)) rfl (by kernel_rfl) (by kernel_rfl) (by kernel_rfl) (fun _ _ _ h => h) (Or.inl ⟨by rfl, fun w' hs => by go_simp⟩) SD.out ?_
  change wpAnyH _ _ _ _ _ _ _ (Act.put _ (some 28) _) _
  simp only [Act.put, List.setIfInBounds_toArray, List.set_cons_zero, List.set_cons_succ]
  refine wpAnyH_take (i := 4) (v := (.pointer (some ⟨q, 2, none⟩))) rfl (by kernel_rfl) (by kernel_rfl) (by kernel_rfl) (fun _ _ _ h => h) (Or.inl ⟨by rfl, fun w' hs => by go_simp⟩) SD.out ?_
  change wpAnyH _ _ _ _ _ _ _ (Act.put _ (some 29) _) _
  simp only [Act.put, List.setIfInBounds_toArray, List.set_cons_zero, List.set_cons_succ]
  refine wpAnyH_take (i := 5) (v := (.slice au L cu)) rfl (by kernel_rfl) (by kernel_rfl) (by kernel_rfl) (fun _ _ _ h => h) (Or.inl ⟨by rfl, fun w' hs => by have y := (VQ.out.keep hs).cell 2 rfl; go_simp⟩) SD.out ?_
  change wpAnyH _ _ _ _ _ _ _ (Act.put _ (some 30) _) _
  simp only [Act.put, List.setIfInBounds_toArray, List.set_cons_zero, List.set_cons_succ]
  refine wpAnyH_take (i := 6) (v := (.string (bq tx))) rfl (by kernel_rfl) (by kernel_rfl) (by kernel_rfl) (fun _ _ _ h => h) (Or.inl ⟨by rfl, fun w' hs => by go_simp⟩) SD.out ?_
  change wpAnyH _ _ _ _ _ _ _ (Act.put _ (some 31) _) _
  simp only [Act.put, List.setIfInBounds_toArray, List.set_cons_zero, List.set_cons_succ]
  refine wpAnyH_ready (rs := [7]) (by kernel_rfl) (by simp) ?_
  refine AllReadyH.cons rfl (fun K hK => ?_) AllReadyH.nil
  rw [if_pos (by rfl)]
  go_simp
  refine (s_assemble tx _ HS.out).mono ?_
  rintro e u1 ⟨x5, rfl, n5, b5⟩
  rw [HA.out.1]
  rw [HA.out.2.2] at n5
  generalize ((asmV tx).2.1 : Nat) = a5
  replace SD : Hid (Below W5.heap.size W5 u1) := on SD.out b5
  have N6 : Hid (Nums u1 u0.heap.size x5 ys) := n5
  clear b5 n5
  refine hK.out _ _ SD.out (fun _ => ?_)
  clear hK K
  refine wpAnyH_take (i := 8) (v := x5) rfl (by kernel_rfl) (by kernel_rfl) (by kernel_rfl) (fun _ _ _ h => h) (Or.inl ⟨by rfl, fun w' hs => by have hf := field_wr2; go_simp⟩) SD.out ?_
  change wpAnyH _ _ _ _ _ _ _ (Act.put _ (some 33) _) _
  simp only [Act.put, List.setIfInBounds_toArray, List.set_cons_zero, List.set_cons_succ]
  refine wpAnyH_ready (rs := [9]) (by kernel_rfl) (by simp) ?_
  refine AllReadyH.cons rfl (fun K hK => ?_) AllReadyH.nil
  rw [if_pos (by rfl)]
  go_simp
  refine (lw_numsD (.slice au L cu) x5 ys _ _ _ (NU.out.keep SD.out) N6.out).mono ?_
  rintro e u2 ⟨rfl, nq, rfl⟩
  replace SD : Hid (Below W5.heap.size W5 (u1.drewN nq)) := dr SD.out nq
  refine hK.out _ _ SD.out (fun _ => ?_)
  clear hK K
  refine wpAnyH_take (i := 10) (v := (.bool false)) rfl (by kernel_rfl) (by kernel_rfl) (by kernel_rfl) (fun _ _ _ h => h) (Or.inl ⟨by rfl, fun w' hs => by go_simp⟩) SD.out ?_
  change wpAnyH _ _ _ _ _ _ _ (Act.put _ (some 35) _) _
  simp only [Act.put, List.setIfInBounds_toArray, List.set_cons_zero, List.set_cons_succ]
  refine wpAnyH_take (i := 11) (v := (.bool false)) rfl (by kernel_rfl) (by kernel_rfl) (by kernel_rfl) (fun _ _ _ h => h) (Or.inl ⟨by rfl, fun w' hs => by go_simp⟩) SD.out ?_
  change wpAnyH _ _ _ _ _ _ _ (Act.put _ (some 36) _) _
  simp only [Act.put, List.setIfInBounds_toArray, List.set_cons_zero, List.set_cons_succ]
  refine wpAnyH_done (by kernel_rfl) ?_ _
  generalize u1.drewN nq = u5 at *
  go_upto_region 13 with fail
  have B5 : Hid (Below w.heap.size w u5) := on B3.out SD.out
  have N5 : Hid (Nums u5 w.heap.size v zs) := N3.out.keep SD.out
  have T5 : Hid (Vq u5 t #[.int .i64 C, .string X] 27) := T3.out.keep SD.out
  clear SD B3 N3 T3 VQ NU HA HS VP N6
  generalize u5 = x1 at *
  have t0 := T5.out.cell 0 rfl
  have t1 := T5.out.cell 1 rfl
  by_cases hC : C = 0
  case neg =>
    go_wp2_with fail
    clear t0 t1
    have SE : Hid (Below x1.heap.size x1 x1.drew) := (Below.refl _ _).drew
    refine wp_region_held (S := fun w' => Below x1.heap.size x1 w') (by kernel_rfl) ?_
    change wpAnyH _ _ _ _ _ _ _ _ (World.drew _)
    generalize x1.drew = y0 at *
    have NE : Hid (∀ w', Below x1.heap.size x1 w' → Nums w' w.heap.size v zs) := fun w' h => N5.out.keep h
    refine wpAnyH_take (i := 0) (v := v) rfl (by kernel_rfl) (by kernel_rfl) (by kernel_rfl) (fun _ _ _ h => h) (Or.inl ⟨by rfl, fun w' hs => by go_simp⟩) SE.out ?_
    change wpAnyH _ _ _ _ _ _ _ (Act.put _ (some 46) _) _
    simp only [Act.put, List.setIfInBounds_toArray, List.set_cons_zero, List.set_cons_succ]
    refine wpAnyH_take (i := 3) (v := (.pointer (some ⟨t, 0, none⟩))) rfl (by kernel_rfl) (by kernel_rfl) (by kernel_rfl) (fun _ _ _ h => h) (Or.inl ⟨by rfl, fun w' hs => by go_simp⟩) SE.out ?_
    change wpAnyH _ _ _ _ _ _ _ (Act.put _ (some 49) _) _
    simp only [Act.put, List.setIfInBounds_toArray, List.set_cons_zero, List.set_cons_succ]
    refine wpAnyH_take (i := 4) (v := (.int .i64 C)) rfl (by kernel_rfl) (by kernel_rfl) (by kernel_rfl) (fun _ _ _ h => h) (Or.inl ⟨by rfl, fun w' hs => by have y := (T5.out.keep hs).cell 0 rfl; go_simp⟩) SE.out ?_
    change wpAnyH _ _ _ _ _ _ _ (Act.put _ (some 50) _) _
    simp only [Act.put, List.setIfInBounds_toArray, List.set_cons_zero, List.set_cons_succ]
    refine wpAnyH_ready (rs := [1]) (by kernel_rfl) (by simp) ?_
    refine AllReadyH.cons rfl (fun K hK => ?_) AllReadyH.nil
    rw [if_pos (by rfl)]
    go_simp
    refine (s_dis v zs _ _ (NE.out _ SE.out)).mono ?_
    rintro e y1 ⟨rfl, b6⟩
    rw [HC.out.1, HC.out.2]
    replace SE : Hid (Below x1.heap.size x1 y1) := on SE.out b6
    clear b6
    refine hK.out _ _ SE.out (fun _ => ?_)
    clear hK K
    refine wpAnyH_take (i := 2) (v := (.int .i64 C)) rfl (by kernel_rfl) (by kernel_rfl) (by kernel_rfl) (fun _ _ _ h => h) (Or.inl ⟨by rfl, fun w' hs => by have hf := field_text0; go_simp⟩) SE.out ?_
    change wpAnyH _ _ _ _ _ _ _ (Act.put _ (some 48) _) _
    simp only [Act.put, List.setIfInBounds_toArray, List.set_cons_zero, List.set_cons_succ]
    refine wpAnyH_take (i := 5) (v := (.bool true)) rfl (by kernel_rfl) (by kernel_rfl) (by kernel_rfl) (fun _ _ _ h => h) (Or.inl ⟨by rfl, fun w' hs => by go_simp⟩) SE.out ?_
    change wpAnyH _ _ _ _ _ _ _ (Act.put _ (some 51) _) _
    simp only [Act.put, List.setIfInBounds_toArray, List.set_cons_zero, List.set_cons_succ]
    refine wpAnyH_take (i := 6) (v := (.bool true)) rfl (by kernel_rfl) (by kernel_rfl) (by kernel_rfl) (fun _ _ _ h => h) (Or.inl ⟨by rfl, fun w' hs => by go_simp⟩) SE.out ?_
    change wpAnyH _ _ _ _ _ _ _ (Act.put _ (some 2) _) _
    simp only [Act.put, List.setIfInBounds_toArray, List.set_cons_zero, List.set_cons_succ]
    refine wpAnyH_done (by kernel_rfl) ?_ _
    go_wp2_with fail
    go_ret
    exact ⟨rfl, on B5.out SE.out⟩
  subst hC
  go_wp2_with fail
  clear t0
  have hl := dsT_len zs
  have hX : Hid (bq (dsT zs) = X) := HC.out.2
  have hXs : X.size = (dsT zs).length := by rw [← hX.out, bq_size]
  have fa := fun W => i_assemble (dsT zs) W (by omega)
  rw [hX.out] at fa
  refine (fa _).mono ?_
  rintro e y1 ⟨u6, rfl, n6, b6⟩
  obtain ⟨au6, cu6, hu6, _, _, _⟩ := n6.shape
  obtain ⟨L6, hL6⟩ : ∃ L, (asmV (dsT zs)).2.2.length = L := ⟨_, rfl⟩
  rw [hL6] at hu6
  subst hu6
  clear hL6
  have B6 : Hid (Below x1.heap.size x1 y1) := b6
  obtain ⟨p6, hp6⟩ : ∃ p, y1.heap.size = p := ⟨_, rfl⟩
  by_cases hlong : 1500 < (dsT zs).length
  · rw [asm_long hlong]
    generalize ((asmV (dsT zs)).2.1 : Nat) = a6
    have hLI : 1500 < (X.size : Int) := by omega
    have V6 : Hid (Vq (y1.alloc (.cells #[.int .i64 2, .int .i64 (a6 : Nat), (.slice au6 L6 cu6)] 31)) p6 #[.int .i64 2, .int .i64 (a6 : Nat), (.slice au6 L6 cu6)] 31) := by show Vq _ _ _ _; rw [← hp6]; exact Vq.new _ _ _
    have A6 : Hid (Below x1.heap.size x1 (y1.alloc (.cells #[.int .i64 2, .int .i64 (a6 : Nat), (.slice au6 L6 cu6)] 31))) := al b6 _
    clear b6 n6 B6
    go_upto_region 16 with fail
    try rw [hp6]
    generalize y1.alloc (.cells #[.int .i64 2, .int .i64 (a6 : Nat), (.slice au6 L6 cu6)] 31) = x2 at *
    have t1 := (T5.out.keep A6.out).cell 1 rfl
    have s0 := V6.out.cell 0 rfl
    go_wp2_with fail
    go_ret
    exact ⟨rfl, on B5.out A6.out⟩
  · have ha6 := asm_ds (zs := zs) HC.out.1 (by omega)
    rw [ha6] at n6 ⊢
    have hLI : ¬ 1500 < (X.size : Int) := by omega
    have V6 : Hid (Vq (y1.alloc (.cells #[.int .i64 0, .int .i64 ((0 : Nat) : Int), (.slice au6 L6 cu6)] 31)) p6 #[.int .i64 0, .int .i64 ((0 : Nat) : Int), (.slice au6 L6 cu6)] 31) := by show Vq _ _ _ _; rw [← hp6]; exact Vq.new _ _ _
    have A6 : Hid (Below x1.heap.size x1 (y1.alloc (.cells #[.int .i64 0, .int .i64 ((0 : Nat) : Int), (.slice au6 L6 cu6)] 31))) := al b6 _
    have N7 : Hid (Nums (y1.alloc (.cells #[.int .i64 0, .int .i64 ((0 : Nat) : Int), (.slice au6 L6 cu6)] 31)) x1.heap.size (.slice au6 L6 cu6) zs) := n6.keep (al (Below.refl _ _) _)
    clear b6 n6 B6 ha6
    go_upto_region 16 with fail
    try rw [hp6]
    generalize y1.alloc (.cells #[.int .i64 0, .int .i64 ((0 : Nat) : Int), (.slice au6 L6 cu6)] 31) = x2 at *
    have t1 := (T5.out.keep A6.out).cell 1 rfl
    have s0 := V6.out.cell 0 rfl
    have s2 := V6.out.cell 2 rfl
    go_wp2_with fail
    refine (lw_numsD (.slice au6 L6 cu6) v zs _ _ _ N7.out (N5.out.keep A6.out)).mono ?_
    rintro e x3 ⟨rfl, nq, rfl⟩
    go_wp2_with fail
    go_ret
    exact ⟨rfl, dr (on B5.out A6.out) nq⟩
end Go.Proofs.YtdmlejfopmimfaaGreatDoor.fnProgramsDone
