/- SoloText by the model. -/
import Derived.Test.YtcneipilhlcfkaaDoorStw
import Derived.Test.YtcneipilhlcfkaaDoorSfa
import Derived.Test.YtcneipilhlcfkaaDoorStl
import Derived.Deep.RegionHeld3
import Derived.Deep.CutRange
namespace Go.Proofs.YtcneipilhlcfkaaDoor
open Go.RowKit
set_option linter.unusedVariables false

theorem s_bit (b : Bool) (w : World) : Calls Tryd.prog 38 #[.bool b] w fun e w' => e = .returned (.int .i64 (b2 b)) ∧ w' = w := by
  cases b
  · go_enter Tryd.func38, Tryd.ntmps38
    go_wp2_with fail
    go_ret
    exact ⟨rfl, rfl⟩
  · go_enter Tryd.func38, Tryd.ntmps38
    go_wp2_with fail
    go_ret
    exact ⟨rfl, rfl⟩
set_option maxRecDepth 20000 in
set_option maxHeartbeats 8000000 in
theorem s_text (q rg rk : Nat) (c i : Value) (xo : Option Addr) (no ko : Nat) (H : Ht) (b : Nat) (w : World) (h : Hm w b (.slice (some ⟨rg, 0, none⟩) 16 rk) c i (.slice xo no ko) H) (hk : Hok H)
    (v0 : w.cell? ⟨q, 0, none⟩ = some (.slice (some ⟨rg, 0, none⟩) 16 rk)) (v1 : w.cell? ⟨q, 1, none⟩ = some (.int .i64 H.pc)) (v3 : w.cell? ⟨q, 3, none⟩ = some (.bool H.halted)) (v4 : w.cell? ⟨q, 4, none⟩ = some (.bool H.waiting)) (v6 : w.cell? ⟨q, 6, none⟩ = some (.int .i64 H.done)) (v8 : w.cell? ⟨q, 8, none⟩ = some (.slice xo no ko)) :
    Calls Tryd.prog 20 #[.pointer (some ⟨q, 0, none⟩)] w fun e w' => e = .returned (.string (bs (textW H))) ∧ Below w.heap.size w w' := by
  obtain ⟨V, hV⟩ : ∃ V, bs (textW H) = V := ⟨_, rfl⟩
  rw [hV]
  have HK : Hid (Hok H) := hk
  have DW : Hid (isW H.done = true) := done_word hk
  have NO : Hid (no ≤ 40) := by have := h.o.len; have := hk.o40; show _ ≤ _; omega
  obtain ⟨A1, hA1⟩ : ∃ A, nlW [112, 99] [H.pc] = A := ⟨_, rfl⟩
  obtain ⟨A2, hA2⟩ : ∃ A, nlW [100, 111, 110, 101] [H.done] = A := ⟨_, rfl⟩
  obtain ⟨A3, hA3⟩ : ∃ A, nlW [104, 97, 108, 116, 101, 100] [b2 H.halted] = A := ⟨_, rfl⟩
  obtain ⟨A4, hA4⟩ : ∃ A, nlW [119, 97, 105, 116, 105, 110, 103] [b2 H.waiting] = A := ⟨_, rfl⟩
  obtain ⟨A5, hA5⟩ : ∃ A, regsW H.regs = A := ⟨_, rfl⟩
  obtain ⟨A6, hA6⟩ : ∃ A, nlW [111, 117, 116] H.out = A := ⟨_, rfl⟩
  obtain ⟨B2, hB2⟩ : ∃ B, A1 ++ A2 = B := ⟨_, rfl⟩
  obtain ⟨B3, hB3⟩ : ∃ B, B2 ++ A3 = B := ⟨_, rfl⟩
  obtain ⟨B4, hB4⟩ : ∃ B, B3 ++ A4 = B := ⟨_, rfl⟩
  obtain ⟨B5, hB5⟩ : ∃ B, B4 ++ A5 = B := ⟨_, rfl⟩
  obtain ⟨B6, hB6⟩ : ∃ B, B5 ++ A6 = B := ⟨_, rfl⟩
  obtain ⟨R0, hR0⟩ : ∃ R, B4 ++ [114, 101, 103, 115] = R := ⟨_, rfl⟩
  have TX : Hid (∀ X, R0 ++ rgW H.regs 16 = X → bs ((X ++ [10]) ++ A6) = V) := fun X hX => by
    rw [← hV, textW, headW, hA1, hA2, hA3, hA4, hA6, hB2, hB3, hB4, ← hX, ← hR0, regsW]
    congr 1
    simp
  have AL : Hid (A1.length ≤ 500 ∧ A2.length ≤ 500 ∧ A3.length ≤ 500 ∧ A4.length ≤ 500 ∧ A5.length ≤ 500 ∧ A6.length ≤ 500) := by
    refine ⟨?_, ?_, ?_, ?_, ?_, ?_⟩
    · rw [← hA1]; exact nl_len (by simp [HK.out.pw]) (by simp) (by decide)
    · rw [← hA2]; exact nl_len (by simp [DW.out]) (by simp) (by decide)
    · rw [← hA3]; exact nl_len (by simp [b2_word]) (by simp) (by decide)
    · rw [← hA4]; exact nl_len (by simp [b2_word]) (by simp) (by decide)
    · rw [← hA5]
      have := rgW_len HK.out.rw 16 (by decide)
      simp only [regsW, List.length_append, List.length_cons, List.length_nil]
      omega
    · rw [← hA6]; exact nl_len HK.out.ow (by have := HK.out.o40; omega) (by decide)
  have SZ : Hid (∀ l : List UInt8, l.length ≤ 4000 → ∀ m : List UInt8, m.length ≤ 4000 → ¬ 9223372036854775807 < (bs l).size + (bs m).size) := fun l hl m hm => by rw [bs_size, bs_size]; omega
  have HE : Hid (nlW [112, 99] [H.pc] = A1 ∧ nlW [100, 111, 110, 101] [H.done] = A2 ∧ nlW [104, 97, 108, 116, 101, 100] [b2 H.halted] = A3 ∧ nlW [119, 97, 105, 116, 105, 110, 103] [b2 H.waiting] = A4 ∧ regsW H.regs = A5 ∧ nlW [111, 117, 116] H.out = A6) := ⟨hA1, hA2, hA3, hA4, hA5, hA6⟩
  clear hA1 hA2 hA3 hA4 hA5 hA6
  have BQ : Hid ((bs B2 = bs A1 ++ bs A2 ∧ ¬ 9223372036854775807 < (bs A1).size + (bs A2).size) ∧ (bs B3 = bs B2 ++ bs A3 ∧ ¬ 9223372036854775807 < (bs B2).size + (bs A3).size) ∧ (bs B4 = bs B3 ++ bs A4 ∧ ¬ 9223372036854775807 < (bs B3).size + (bs A4).size) ∧ (bs B5 = bs B4 ++ bs A5 ∧ ¬ 9223372036854775807 < (bs B4).size + (bs A5).size) ∧ (bs B6 = bs B5 ++ bs A6 ∧ ¬ 9223372036854775807 < (bs B5).size + (bs A6).size) ∧ True) := by
    have al := AL.out
    have l2 : B2.length ≤ 1000 := by rw [← hB2, List.length_append]; omega
    have l3 : B3.length ≤ 1500 := by rw [← hB3, List.length_append]; omega
    have l4 : B4.length ≤ 2000 := by rw [← hB4, List.length_append]; omega
    have l5 : B5.length ≤ 2500 := by rw [← hB5, List.length_append]; omega
    have l6 : B6.length ≤ 3000 := by rw [← hB6, List.length_append]; omega
    exact ⟨⟨by rw [← hB2, bs_app], by rw [bs_size, bs_size]; omega⟩, ⟨by rw [← hB3, bs_app], by rw [bs_size, bs_size]; omega⟩, ⟨by rw [← hB4, bs_app], by rw [bs_size, bs_size]; omega⟩, ⟨by rw [← hB5, bs_app], by rw [bs_size, bs_size]; omega⟩, ⟨by rw [← hB6, bs_app], by rw [bs_size, bs_size]; omega⟩, trivial⟩
  have RQ : Hid (bs R0 = bs B4 ++ ⟨#[114, 101, 103, 115]⟩ ∧ ¬ 9223372036854775807 < (bs B4).size + 4) := by
    have al := AL.out
    refine ⟨by rw [← hR0, bs_app]; rfl, ?_⟩
    rw [bs_size, ← hB4, ← hB3, ← hB2]
    simp
    omega
  have RL : Hid (R0.length ≤ 2010) := by
    have al := AL.out
    show _ ≤ _
    rw [← hR0, ← hB4, ← hB3, ← hB2]
    simp
    omega
  clear hB2 hB3 hB4 hB5 hB6 hR0
  obtain ⟨W, hW⟩ : ∃ W, w = W := ⟨_, rfl⟩
  have HM : Hid (Hm W b (.slice (some ⟨rg, 0, none⟩) 16 rk) c i (.slice xo no ko) H) := by rw [← hW]; exact h
  have V0 : Hid (W.cell? ⟨q, 0, none⟩ = some (.slice (some ⟨rg, 0, none⟩) 16 rk)) := by rw [← hW]; exact v0
  have V1 : Hid (W.cell? ⟨q, 1, none⟩ = some (.int .i64 H.pc)) := by rw [← hW]; exact v1
  have V3 : Hid (W.cell? ⟨q, 3, none⟩ = some (.bool H.halted)) := by rw [← hW]; exact v3
  have V4 : Hid (W.cell? ⟨q, 4, none⟩ = some (.bool H.waiting)) := by rw [← hW]; exact v4
  have V6 : Hid (W.cell? ⟨q, 6, none⟩ = some (.int .i64 H.done)) := by rw [← hW]; exact v6
  have V8 : Hid (W.cell? ⟨q, 8, none⟩ = some (.slice xo no ko)) := by rw [← hW]; exact v8
  have B0 : Hid (Below w.heap.size w W) := by rw [← hW]; exact Below.refl _ _
  clear hV h hk v0 v1 v3 v4 v6 v8
  go_enter Tryd.func20, Tryd.ntmps20
  go_upto_region 1 with fail
  rw [hW]
  have Sv0 : Hid (Below W.heap.size W W.drew) := (Below.refl _ _).drew
  refine wp_region_held (S := fun w' => Below W.heap.size W w') (by kernel_rfl) ?_
  change wpAnyH _ _ _ _ _ _ _ _ (World.drew _)
  generalize W.drew = v0 at *
  refine wpAnyH_take (i := 0) (v := .pointer (some ⟨q, 0, none⟩)) rfl (by kernel_rfl) (by kernel_rfl) (by kernel_rfl) (fun _ _ _ h => h) (Or.inl ⟨by rfl, fun w' hs => by go_simp⟩) Sv0.out ?_
  change wpAnyH _ _ _ _ _ _ _ (Act.put _ (some 5) _) _
  simp only [Act.put, List.setIfInBounds_toArray, List.set_cons_zero, List.set_cons_succ]
  refine wpAnyH_take (i := 1) (v := .pointer (some ⟨q, 0, none⟩)) rfl (by kernel_rfl) (by kernel_rfl) (by kernel_rfl) (fun _ _ _ h => h) (Or.inl ⟨by rfl, fun w' hs => by go_simp⟩) Sv0.out ?_
  change wpAnyH _ _ _ _ _ _ _ (Act.put _ (some 6) _) _
  simp only [Act.put, List.setIfInBounds_toArray, List.set_cons_zero, List.set_cons_succ]
  refine wpAnyH_take (i := 2) (v := .pointer (some ⟨q, 1, none⟩)) rfl (by kernel_rfl) (by kernel_rfl) (by kernel_rfl) (fun _ _ _ h => h) (Or.inl ⟨by rfl, fun w' hs => by go_simp⟩) Sv0.out ?_
  change wpAnyH _ _ _ _ _ _ _ (Act.put _ (some 7) _) _
  simp only [Act.put, List.setIfInBounds_toArray, List.set_cons_zero, List.set_cons_succ]
  refine wpAnyH_take (i := 3) (v := .int .i64 H.pc) rfl (by kernel_rfl) (by kernel_rfl) (by kernel_rfl) (fun _ _ _ h => h) (Or.inl ⟨by rfl, fun w' hs => by have y1 := cell_keep hs V1.out; go_simp⟩) Sv0.out ?_
  change wpAnyH _ _ _ _ _ _ _ (Act.put _ (some 8) _) _
  simp only [Act.put, List.setIfInBounds_toArray, List.set_cons_zero, List.set_cons_succ]
  refine wpAnyH_take (i := 6) (v := .pointer (some ⟨q, 0, none⟩)) rfl (by kernel_rfl) (by kernel_rfl) (by kernel_rfl) (fun _ _ _ h => h) (Or.inl ⟨by rfl, fun w' hs => by go_simp⟩) Sv0.out ?_
  change wpAnyH _ _ _ _ _ _ _ (Act.put _ (some 11) _) _
  simp only [Act.put, List.setIfInBounds_toArray, List.set_cons_zero, List.set_cons_succ]
  refine wpAnyH_take (i := 7) (v := .pointer (some ⟨q, 0, none⟩)) rfl (by kernel_rfl) (by kernel_rfl) (by kernel_rfl) (fun _ _ _ h => h) (Or.inl ⟨by rfl, fun w' hs => by go_simp⟩) Sv0.out ?_
  change wpAnyH _ _ _ _ _ _ _ (Act.put _ (some 12) _) _
  simp only [Act.put, List.setIfInBounds_toArray, List.set_cons_zero, List.set_cons_succ]
  refine wpAnyH_take (i := 8) (v := .pointer (some ⟨q, 6, none⟩)) rfl (by kernel_rfl) (by kernel_rfl) (by kernel_rfl) (fun _ _ _ h => h) (Or.inl ⟨by rfl, fun w' hs => by go_simp⟩) Sv0.out ?_
  change wpAnyH _ _ _ _ _ _ _ (Act.put _ (some 13) _) _
  simp only [Act.put, List.setIfInBounds_toArray, List.set_cons_zero, List.set_cons_succ]
  refine wpAnyH_take (i := 9) (v := .int .i64 H.done) rfl (by kernel_rfl) (by kernel_rfl) (by kernel_rfl) (fun _ _ _ h => h) (Or.inl ⟨by rfl, fun w' hs => by have y6 := cell_keep hs V6.out; go_simp⟩) Sv0.out ?_
  change wpAnyH _ _ _ _ _ _ _ (Act.put _ (some 14) _) _
  simp only [Act.put, List.setIfInBounds_toArray, List.set_cons_zero, List.set_cons_succ]
  refine wpAnyH_take (i := 13) (v := .pointer (some ⟨q, 0, none⟩)) rfl (by kernel_rfl) (by kernel_rfl) (by kernel_rfl) (fun _ _ _ h => h) (Or.inl ⟨by rfl, fun w' hs => by go_simp⟩) Sv0.out ?_
  change wpAnyH _ _ _ _ _ _ _ (Act.put _ (some 18) _) _
  simp only [Act.put, List.setIfInBounds_toArray, List.set_cons_zero, List.set_cons_succ]
  refine wpAnyH_take (i := 14) (v := .pointer (some ⟨q, 0, none⟩)) rfl (by kernel_rfl) (by kernel_rfl) (by kernel_rfl) (fun _ _ _ h => h) (Or.inl ⟨by rfl, fun w' hs => by go_simp⟩) Sv0.out ?_
  change wpAnyH _ _ _ _ _ _ _ (Act.put _ (some 19) _) _
  simp only [Act.put, List.setIfInBounds_toArray, List.set_cons_zero, List.set_cons_succ]
  refine wpAnyH_take (i := 15) (v := .pointer (some ⟨q, 3, none⟩)) rfl (by kernel_rfl) (by kernel_rfl) (by kernel_rfl) (fun _ _ _ h => h) (Or.inl ⟨by rfl, fun w' hs => by go_simp⟩) Sv0.out ?_
  change wpAnyH _ _ _ _ _ _ _ (Act.put _ (some 20) _) _
  simp only [Act.put, List.setIfInBounds_toArray, List.set_cons_zero, List.set_cons_succ]
  refine wpAnyH_take (i := 16) (v := .bool H.halted) rfl (by kernel_rfl) (by kernel_rfl) (by kernel_rfl) (fun _ _ _ h => h) (Or.inl ⟨by rfl, fun w' hs => by have y3 := cell_keep hs V3.out; go_simp⟩) Sv0.out ?_
  change wpAnyH _ _ _ _ _ _ _ (Act.put _ (some 21) _) _
  simp only [Act.put, List.setIfInBounds_toArray, List.set_cons_zero, List.set_cons_succ]
  refine wpAnyH_take (i := 21) (v := .pointer (some ⟨q, 0, none⟩)) rfl (by kernel_rfl) (by kernel_rfl) (by kernel_rfl) (fun _ _ _ h => h) (Or.inl ⟨by rfl, fun w' hs => by go_simp⟩) Sv0.out ?_
  change wpAnyH _ _ _ _ _ _ _ (Act.put _ (some 26) _) _
  simp only [Act.put, List.setIfInBounds_toArray, List.set_cons_zero, List.set_cons_succ]
  refine wpAnyH_take (i := 22) (v := .pointer (some ⟨q, 0, none⟩)) rfl (by kernel_rfl) (by kernel_rfl) (by kernel_rfl) (fun _ _ _ h => h) (Or.inl ⟨by rfl, fun w' hs => by go_simp⟩) Sv0.out ?_
  change wpAnyH _ _ _ _ _ _ _ (Act.put _ (some 27) _) _
  simp only [Act.put, List.setIfInBounds_toArray, List.set_cons_zero, List.set_cons_succ]
  refine wpAnyH_take (i := 23) (v := .pointer (some ⟨q, 4, none⟩)) rfl (by kernel_rfl) (by kernel_rfl) (by kernel_rfl) (fun _ _ _ h => h) (Or.inl ⟨by rfl, fun w' hs => by go_simp⟩) Sv0.out ?_
  change wpAnyH _ _ _ _ _ _ _ (Act.put _ (some 28) _) _
  simp only [Act.put, List.setIfInBounds_toArray, List.set_cons_zero, List.set_cons_succ]
  refine wpAnyH_take (i := 24) (v := .bool H.waiting) rfl (by kernel_rfl) (by kernel_rfl) (by kernel_rfl) (fun _ _ _ h => h) (Or.inl ⟨by rfl, fun w' hs => by have y4 := cell_keep hs V4.out; go_simp⟩) Sv0.out ?_
  change wpAnyH _ _ _ _ _ _ _ (Act.put _ (some 29) _) _
  simp only [Act.put, List.setIfInBounds_toArray, List.set_cons_zero, List.set_cons_succ]
  refine wpAnyH_ready (rs := [4, 10]) (by kernel_rfl) (by simp) ?_
  refine AllReadyH.cons rfl (fun K hK => ?_) (AllReadyH.cons rfl (fun K hK => ?_) AllReadyH.nil)
  · skip
    rw [if_pos (by rfl)]
    go_simp
    have be : Below v0.heap.size v0 (v0.alloc (.cells #[.int .i64 H.pc] 2)) := al (Below.refl _ _) _
    have RNp : Hid (Rn (v0.alloc (.cells #[.int .i64 H.pc] 2)) (some ⟨v0.heap.size, 0, none⟩) 1 1 [H.pc]) := one_rn v0 H.pc rfl
    have Sv1 : Hid (Below W.heap.size W (v0.alloc (.cells #[.int .i64 H.pc] 2))) := on Sv0.out be
    clear be
    generalize (v0.alloc (.cells #[.int .i64 H.pc] 2)) = v1 at *
    generalize v0.heap.size = gp at *
    refine hK.out _ _ Sv1.out (fun _ => ?_)
    clear hK K
    refine wpAnyH_ready (rs := [5, 10]) (by kernel_rfl) (by simp) ?_
    refine AllReadyH.cons rfl (fun K hK => ?_) (AllReadyH.cons rfl (fun K hK => ?_) AllReadyH.nil)
    · skip
      rw [if_pos (by rfl)]
      go_simp
      refine (s_line [112, 99] _ _ _ [H.pc] v1 RNp.out (by simp [HK.out.pw]) (by decide) (by decide)).mono ?_
      rintro e v2 ⟨rfl, be⟩
      have RNp' : Hid (Rn v2 (some ⟨gp, 0, none⟩) 1 1 [H.pc]) := RNp.out.stay be
      clear RNp
      have RNp := RNp'
      clear RNp'
      have Sv2 : Hid (Below W.heap.size W v2) := on Sv1.out be
      clear be
      refine hK.out _ _ Sv2.out (fun _ => ?_)
      clear hK K
      refine wpAnyH_ready (rs := [10]) (by kernel_rfl) (by simp) ?_
      refine AllReadyH.cons rfl (fun K hK => ?_) AllReadyH.nil
      rw [if_pos (by rfl)]
      go_simp
      have be : Below v2.heap.size v2 (v2.alloc (.cells #[.int .i64 H.done] 2)) := al (Below.refl _ _) _
      have RNd : Hid (Rn (v2.alloc (.cells #[.int .i64 H.done] 2)) (some ⟨v2.heap.size, 0, none⟩) 1 1 [H.done]) := one_rn v2 H.done rfl
      have RNp' : Hid (Rn (v2.alloc (.cells #[.int .i64 H.done] 2)) (some ⟨gp, 0, none⟩) 1 1 [H.pc]) := RNp.out.stay be
      clear RNp
      have RNp := RNp'
      clear RNp'
      have Sv3 : Hid (Below W.heap.size W (v2.alloc (.cells #[.int .i64 H.done] 2))) := on Sv2.out be
      clear be
      generalize (v2.alloc (.cells #[.int .i64 H.done] 2)) = v3 at *
      generalize v2.heap.size = gd at *
      refine hK.out _ _ Sv3.out (fun _ => ?_)
      clear hK K
      refine wpAnyH_ready (rs := [11]) (by kernel_rfl) (by simp) ?_
      refine AllReadyH.cons rfl (fun K hK => ?_) AllReadyH.nil
      rw [if_pos (by rfl)]
      go_simp
      refine (s_line [100, 111, 110, 101] _ _ _ [H.done] v3 RNd.out (by simp [DW.out]) (by decide) (by decide)).mono ?_
      rintro e v4 ⟨rfl, be⟩
      have RNp' : Hid (Rn v4 (some ⟨gp, 0, none⟩) 1 1 [H.pc]) := RNp.out.stay be
      clear RNp
      have RNp := RNp'
      clear RNp'
      have RNd' : Hid (Rn v4 (some ⟨gd, 0, none⟩) 1 1 [H.done]) := RNd.out.stay be
      clear RNd
      have RNd := RNd'
      clear RNd'
      have Sv4 : Hid (Below W.heap.size W v4) := on Sv3.out be
      clear be
      refine hK.out _ _ Sv4.out (fun _ => ?_)
      clear hK K
      rw [HE.out.1, HE.out.2.1]
      refine wpAnyH_take (i := 12) (v := .string (bs B2)) rfl (by kernel_rfl) (by kernel_rfl) (by kernel_rfl) (fun _ _ _ h => h) (Or.inl ⟨by rfl, fun w' hs => by have zz := (BQ.out.1).2; rw [(BQ.out.1).1]; go_simp⟩) Sv4.out ?_
      change wpAnyH _ _ _ _ _ _ _ (Act.put _ (some 17) _) _
      simp only [Act.put, List.setIfInBounds_toArray, List.set_cons_zero, List.set_cons_succ]
      refine wpAnyH_ready (rs := [17]) (by kernel_rfl) (by simp) ?_
      refine AllReadyH.cons rfl (fun K hK => ?_) AllReadyH.nil
      rw [if_pos (by rfl)]
      go_simp
      refine (s_bit H.halted v4).mono ?_
      rintro e y ⟨rfl, hy⟩
      rw [hy]
      clear hy y
      refine hK.out _ _ Sv4.out (fun _ => ?_)
      clear hK K
      refine wpAnyH_ready (rs := [18]) (by kernel_rfl) (by simp) ?_
      refine AllReadyH.cons rfl (fun K hK => ?_) AllReadyH.nil
      rw [if_pos (by rfl)]
      go_simp
      have be : Below v4.heap.size v4 (v4.alloc (.cells #[.int .i64 (b2 H.halted)] 2)) := al (Below.refl _ _) _
      have RNh : Hid (Rn (v4.alloc (.cells #[.int .i64 (b2 H.halted)] 2)) (some ⟨v4.heap.size, 0, none⟩) 1 1 [(b2 H.halted)]) := one_rn v4 (b2 H.halted) rfl
      have RNp' : Hid (Rn (v4.alloc (.cells #[.int .i64 (b2 H.halted)] 2)) (some ⟨gp, 0, none⟩) 1 1 [H.pc]) := RNp.out.stay be
      clear RNp
      have RNp := RNp'
      clear RNp'
      have RNd' : Hid (Rn (v4.alloc (.cells #[.int .i64 (b2 H.halted)] 2)) (some ⟨gd, 0, none⟩) 1 1 [H.done]) := RNd.out.stay be
      clear RNd
      have RNd := RNd'
      clear RNd'
      have Sv5 : Hid (Below W.heap.size W (v4.alloc (.cells #[.int .i64 (b2 H.halted)] 2))) := on Sv4.out be
      clear be
      generalize (v4.alloc (.cells #[.int .i64 (b2 H.halted)] 2)) = v5 at *
      generalize v4.heap.size = gh at *
      refine hK.out _ _ Sv5.out (fun _ => ?_)
      clear hK K
      refine wpAnyH_ready (rs := [19]) (by kernel_rfl) (by simp) ?_
      refine AllReadyH.cons rfl (fun K hK => ?_) AllReadyH.nil
      rw [if_pos (by rfl)]
      go_simp
      refine (s_line [104, 97, 108, 116, 101, 100] _ _ _ [(b2 H.halted)] v5 RNh.out (by simp [b2_word]) (by decide) (by decide)).mono ?_
      rintro e v6 ⟨rfl, be⟩
      have RNp' : Hid (Rn v6 (some ⟨gp, 0, none⟩) 1 1 [H.pc]) := RNp.out.stay be
      clear RNp
      have RNp := RNp'
      clear RNp'
      have RNd' : Hid (Rn v6 (some ⟨gd, 0, none⟩) 1 1 [H.done]) := RNd.out.stay be
      clear RNd
      have RNd := RNd'
      clear RNd'
      have RNh' : Hid (Rn v6 (some ⟨gh, 0, none⟩) 1 1 [(b2 H.halted)]) := RNh.out.stay be
      clear RNh
      have RNh := RNh'
      clear RNh'
      have Sv6 : Hid (Below W.heap.size W v6) := on Sv5.out be
      clear be
      refine hK.out _ _ Sv6.out (fun _ => ?_)
      clear hK K
      rw [HE.out.2.2.1]
      refine wpAnyH_take (i := 20) (v := .string (bs B3)) rfl (by kernel_rfl) (by kernel_rfl) (by kernel_rfl) (fun _ _ _ h => h) (Or.inl ⟨by rfl, fun w' hs => by have zz := (BQ.out.2.1).2; rw [(BQ.out.2.1).1]; go_simp⟩) Sv6.out ?_
      change wpAnyH _ _ _ _ _ _ _ (Act.put _ (some 25) _) _
      simp only [Act.put, List.setIfInBounds_toArray, List.set_cons_zero, List.set_cons_succ]
      refine wpAnyH_ready (rs := [25]) (by kernel_rfl) (by simp) ?_
      refine AllReadyH.cons rfl (fun K hK => ?_) AllReadyH.nil
      rw [if_pos (by rfl)]
      go_simp
      refine (s_bit H.waiting v6).mono ?_
      rintro e y ⟨rfl, hy⟩
      rw [hy]
      clear hy y
      refine hK.out _ _ Sv6.out (fun _ => ?_)
      clear hK K
      refine wpAnyH_ready (rs := [26]) (by kernel_rfl) (by simp) ?_
      refine AllReadyH.cons rfl (fun K hK => ?_) AllReadyH.nil
      rw [if_pos (by rfl)]
      go_simp
      have be : Below v6.heap.size v6 (v6.alloc (.cells #[.int .i64 (b2 H.waiting)] 2)) := al (Below.refl _ _) _
      have RNw : Hid (Rn (v6.alloc (.cells #[.int .i64 (b2 H.waiting)] 2)) (some ⟨v6.heap.size, 0, none⟩) 1 1 [(b2 H.waiting)]) := one_rn v6 (b2 H.waiting) rfl
      have RNp' : Hid (Rn (v6.alloc (.cells #[.int .i64 (b2 H.waiting)] 2)) (some ⟨gp, 0, none⟩) 1 1 [H.pc]) := RNp.out.stay be
      clear RNp
      have RNp := RNp'
      clear RNp'
      have RNd' : Hid (Rn (v6.alloc (.cells #[.int .i64 (b2 H.waiting)] 2)) (some ⟨gd, 0, none⟩) 1 1 [H.done]) := RNd.out.stay be
      clear RNd
      have RNd := RNd'
      clear RNd'
      have RNh' : Hid (Rn (v6.alloc (.cells #[.int .i64 (b2 H.waiting)] 2)) (some ⟨gh, 0, none⟩) 1 1 [(b2 H.halted)]) := RNh.out.stay be
      clear RNh
      have RNh := RNh'
      clear RNh'
      have Sv7 : Hid (Below W.heap.size W (v6.alloc (.cells #[.int .i64 (b2 H.waiting)] 2))) := on Sv6.out be
      clear be
      generalize (v6.alloc (.cells #[.int .i64 (b2 H.waiting)] 2)) = v7 at *
      generalize v6.heap.size = gw at *
      refine hK.out _ _ Sv7.out (fun _ => ?_)
      clear hK K
      refine wpAnyH_ready (rs := [27]) (by kernel_rfl) (by simp) ?_
      refine AllReadyH.cons rfl (fun K hK => ?_) AllReadyH.nil
      rw [if_pos (by rfl)]
      go_simp
      refine (s_line [119, 97, 105, 116, 105, 110, 103] _ _ _ [(b2 H.waiting)] v7 RNw.out (by simp [b2_word]) (by decide) (by decide)).mono ?_
      rintro e v8 ⟨rfl, be⟩
      have RNp' : Hid (Rn v8 (some ⟨gp, 0, none⟩) 1 1 [H.pc]) := RNp.out.stay be
      clear RNp
      have RNp := RNp'
      clear RNp'
      have RNd' : Hid (Rn v8 (some ⟨gd, 0, none⟩) 1 1 [H.done]) := RNd.out.stay be
      clear RNd
      have RNd := RNd'
      clear RNd'
      have RNh' : Hid (Rn v8 (some ⟨gh, 0, none⟩) 1 1 [(b2 H.halted)]) := RNh.out.stay be
      clear RNh
      have RNh := RNh'
      clear RNh'
      have RNw' : Hid (Rn v8 (some ⟨gw, 0, none⟩) 1 1 [(b2 H.waiting)]) := RNw.out.stay be
      clear RNw
      have RNw := RNw'
      clear RNw'
      have Sv8 : Hid (Below W.heap.size W v8) := on Sv7.out be
      clear be
      refine hK.out _ _ Sv8.out (fun _ => ?_)
      clear hK K
      rw [HE.out.2.2.2.1]
      refine wpAnyH_take (i := 28) (v := .string (bs B4)) rfl (by kernel_rfl) (by kernel_rfl) (by kernel_rfl) (fun _ _ _ h => h) (Or.inl ⟨by rfl, fun w' hs => by have zz := (BQ.out.2.2.1).2; rw [(BQ.out.2.2.1).1]; go_simp⟩) Sv8.out ?_
      change wpAnyH _ _ _ _ _ _ _ (Act.put _ (some 33) _) _
      simp only [Act.put, List.setIfInBounds_toArray, List.set_cons_zero, List.set_cons_succ]
      refine wpAnyH_take (i := 29) (v := .string (bs R0)) rfl (by kernel_rfl) (by kernel_rfl) (by kernel_rfl) (fun _ _ _ h => h) (Or.inl ⟨by rfl, fun w' hs => by have zz := RQ.out.2; rw [RQ.out.1]; go_simp⟩) Sv8.out ?_
      change wpAnyH _ _ _ _ _ _ _ (Act.put _ (some 34) _) _
      simp only [Act.put, List.setIfInBounds_toArray, List.set_cons_zero, List.set_cons_succ]
      refine wpAnyH_take (i := 30) (v := .string (bs R0)) rfl (by kernel_rfl) (by kernel_rfl) (by kernel_rfl) (fun _ _ _ h => h) (Or.inl ⟨by rfl, fun w' hs => by go_simp⟩) Sv8.out ?_
      change wpAnyH _ _ _ _ _ _ _ (Act.put _ (some 3) _) _
      simp only [Act.put, List.setIfInBounds_toArray, List.set_cons_zero, List.set_cons_succ]
      refine wpAnyH_done (by kernel_rfl) ?_ _
      have BX : Hid (Below W.heap.size W v8) := Sv8.out
      clear RNp RNd RNh RNw
      go_wp2_with fail
      go_loopw [3, 4] (fun u i wr => ∃ j : Nat, j ≤ 16 ∧ i = .int .i64 j ∧ u = .string (bs (R0 ++ rgW H.regs j)) ∧ Below W.heap.size W wr) (fun _ i _ => 16 - (intOf i).toNat)
      case atStart => exact ⟨0, Nat.zero_le _, rfl, by simp [rgW], BX.out⟩
      case round =>
        obtain ⟨j, hj, rfl, rfl, hB⟩ := hrel
        have HB : Hid (Below W.heap.size W wr) := hB
        have LL : Hid ((R0 ++ rgW H.regs j : List UInt8).length ≤ 2300) := by
          show _ ≤ _
          have h1 := rgW_len HK.out.rw j hj
          have h2 := RL.out
          rw [List.length_append]
          omega
        by_cases hlt : j < 16
        · have hJ : (j : Int) < 16 := by omega
          have HL : Hid (j < 16) := hlt
          have NX : Hid (rgW H.regs (j + 1) = rgW H.regs j ++ rgP H.regs j) := rfl
          obtain ⟨z, hz⟩ : ∃ z, gt H.regs j = z := ⟨_, rfl⟩
          have ZB : Hid (0 ≤ z ∧ z ≤ 4294967295) := by rw [← hz]; exact gt_word HK.out.rw j
          have CX : Hid (wr.cell? ⟨rg, j, none⟩ = some (.int .i64 z)) := by
            show _ = _
            rw [← hz]
            exact cell_keep hB (HM.out.r.cell HK.out.r16.symm j hlt)
          obtain ⟨L, hL⟩ : ∃ L, R0 ++ rgW H.regs j = L := ⟨_, rfl⟩
          have cx := CX.out
          have y0 := cell_keep hB V0.out
          by_cases h0 : z = 0
          · have EN : Hid (bs (R0 ++ rgW H.regs (j + 1)) = bs L) := by
              show _ = _
              rw [NX.out, rgP, hz, if_pos h0, List.append_nil, hL]
            rw [hL] at LL ⊢
            subst h0
            clear hlt hz hL hB hj
            go_wp2_with fail
            go_roundw
            case rel => exact ⟨j + 1, by have := HL.out; omega, by go_num, by rw [EN.out], HB.out⟩
            case measure => have := HL.out; simp [intOf]; omega
          · obtain ⟨D, hD⟩ : ∃ D, Lib.decDigits z.toNat = D := ⟨_, rfl⟩
            obtain ⟨E, hE⟩ : ∃ E, Lib.decDigits j = E := ⟨_, rfl⟩
            obtain ⟨L1, hL1⟩ : ∃ X, L ++ [32] = X := ⟨_, rfl⟩
            obtain ⟨L2, hL2⟩ : ∃ X, L1 ++ E = X := ⟨_, rfl⟩
            obtain ⟨L3, hL3⟩ : ∃ X, L2 ++ [58] = X := ⟨_, rfl⟩
            obtain ⟨L4, hL4⟩ : ∃ X, L3 ++ D = X := ⟨_, rfl⟩
            have EN : Hid (bs (R0 ++ rgW H.regs (j + 1)) = bs L4) := by
              show _ = _
              rw [NX.out, rgP, hz, if_neg h0, ← List.append_assoc, hL, hD, hE, ← hL4, ← hL3, ← hL2, ← hL1]
              congr 1
              simp
            rw [hL] at LL ⊢
            have LQ : Hid ((bs L1 = bs L ++ ⟨#[32]⟩ ∧ ¬ 9223372036854775807 < (bs L).size + 1) ∧ (bs L2 = bs L1 ++ bs E ∧ ¬ 9223372036854775807 < (bs L1).size + (bs E).size) ∧ (bs L3 = bs L2 ++ ⟨#[58]⟩ ∧ ¬ 9223372036854775807 < (bs L2).size + 1) ∧ (bs L4 = bs L3 ++ bs D ∧ ¬ 9223372036854775807 < (bs L3).size + (bs D).size)) := by
              have d1 : D.length ≤ 10 := by rw [← hD]; exact dec_len10 ZB.out.1 ZB.out.2
              have d2 : E.length ≤ 2 := by rw [← hE]; exact dec_len j 1 (by omega)
              have l0 := LL.out
              have l1 : L1.length ≤ 2310 := by rw [← hL1]; simp; omega
              have l2 : L2.length ≤ 2320 := by rw [← hL2, List.length_append]; omega
              have l3 : L3.length ≤ 2330 := by rw [← hL3]; simp; omega
              refine ⟨⟨by rw [← hL1, bs_app]; rfl, by rw [bs_size]; omega⟩, ⟨by rw [← hL2, bs_app], by rw [bs_size, bs_size]; omega⟩, ⟨by rw [← hL3, bs_app]; rfl, by rw [bs_size]; omega⟩, ⟨by rw [← hL4, bs_app], by rw [bs_size, bs_size]; omega⟩⟩
            have FE : Hid (∀ w1, Calls Tryd.prog 39 #[.int .i64 (j : Int)] w1 fun e w' => e = .returned (.string (bs E)) ∧ Below w1.heap.size w1 w') := fun w1 => by
              have t := s_digits (j : Int) (by omega) (by omega) w1
              rw [show ((j : Int)).toNat = j by omega, hE] at t
              exact t
            have FD : Hid (∀ w1, Calls Tryd.prog 39 #[.int .i64 z] w1 fun e w' => e = .returned (.string (bs D)) ∧ Below w1.heap.size w1 w') := fun w1 => by
              have t := s_digits z ZB.out.1 ZB.out.2 w1
              rw [hD] at t
              exact t
            clear hlt hz hL hB hj hD hE hL1 hL2 hL3 hL4
            go_wp2_with fail
            clear cx y0
            refine wp_region_held (S := fun w' => Below wr.heap.size wr w') (by kernel_rfl) ?_
            change wpAnyH _ _ _ _ _ _ _ _ (World.drew _)
            have SD : Hid (Below wr.heap.size wr wr.drew) := (Below.refl _ _).drew
            generalize wr.drew = x0 at *
            refine wpAnyH_take (i := 0) (v := .string (bs L)) rfl (by kernel_rfl) (by kernel_rfl) (by kernel_rfl) (fun _ _ _ h => h) (Or.inl ⟨by rfl, fun w' hs => by go_simp⟩) SD.out ?_
            change wpAnyH _ _ _ _ _ _ _ (Act.put _ (some 47) _) _
            simp only [Act.put, List.setIfInBounds_toArray, List.set_cons_zero, List.set_cons_succ]
            refine wpAnyH_take (i := 1) (v := .string (bs L1)) rfl (by kernel_rfl) (by kernel_rfl) (by kernel_rfl) (fun _ _ _ h => h) (Or.inl ⟨by rfl, fun w' hs => by have zz := LQ.out.1.2; have zy := LQ.out.1.2; rw [LQ.out.1.1]; go_simp⟩) SD.out ?_
            change wpAnyH _ _ _ _ _ _ _ (Act.put _ (some 48) _) _
            simp only [Act.put, List.setIfInBounds_toArray, List.set_cons_zero, List.set_cons_succ]
            refine wpAnyH_take (i := 2) (v := .int .i64 (j : Int)) rfl (by kernel_rfl) (by kernel_rfl) (by kernel_rfl) (fun _ _ _ h => h) (Or.inl ⟨by rfl, fun w' hs => by go_simp⟩) SD.out ?_
            change wpAnyH _ _ _ _ _ _ _ (Act.put _ (some 49) _) _
            simp only [Act.put, List.setIfInBounds_toArray, List.set_cons_zero, List.set_cons_succ]
            refine wpAnyH_take (i := 6) (v := .pointer (some ⟨q, 0, none⟩)) rfl (by kernel_rfl) (by kernel_rfl) (by kernel_rfl) (fun _ _ _ h => h) (Or.inl ⟨by rfl, fun w' hs => by go_simp⟩) SD.out ?_
            change wpAnyH _ _ _ _ _ _ _ (Act.put _ (some 53) _) _
            simp only [Act.put, List.setIfInBounds_toArray, List.set_cons_zero, List.set_cons_succ]
            refine wpAnyH_take (i := 7) (v := .pointer (some ⟨q, 0, none⟩)) rfl (by kernel_rfl) (by kernel_rfl) (by kernel_rfl) (fun _ _ _ h => h) (Or.inl ⟨by rfl, fun w' hs => by go_simp⟩) SD.out ?_
            change wpAnyH _ _ _ _ _ _ _ (Act.put _ (some 54) _) _
            simp only [Act.put, List.setIfInBounds_toArray, List.set_cons_zero, List.set_cons_succ]
            refine wpAnyH_take (i := 8) (v := .pointer (some ⟨q, 0, none⟩)) rfl (by kernel_rfl) (by kernel_rfl) (by kernel_rfl) (fun _ _ _ h => h) (Or.inl ⟨by rfl, fun w' hs => by go_simp⟩) SD.out ?_
            change wpAnyH _ _ _ _ _ _ _ (Act.put _ (some 55) _) _
            simp only [Act.put, List.setIfInBounds_toArray, List.set_cons_zero, List.set_cons_succ]
            refine wpAnyH_take (i := 9) (v := .slice (some ⟨rg, 0, none⟩) 16 rk) rfl (by kernel_rfl) (by kernel_rfl) (by kernel_rfl) (fun _ _ _ h => h) (Or.inl ⟨by rfl, fun w' hs => by have y0 := cell_keep hs (cell_keep HB.out V0.out); go_simp⟩) SD.out ?_
            change wpAnyH _ _ _ _ _ _ _ (Act.put _ (some 56) _) _
            simp only [Act.put, List.setIfInBounds_toArray, List.set_cons_zero, List.set_cons_succ]
            refine wpAnyH_take (i := 10) (v := .int .i64 (j : Int)) rfl (by kernel_rfl) (by kernel_rfl) (by kernel_rfl) (fun _ _ _ h => h) (Or.inl ⟨by rfl, fun w' hs => by go_simp⟩) SD.out ?_
            change wpAnyH _ _ _ _ _ _ _ (Act.put _ (some 57) _) _
            simp only [Act.put, List.setIfInBounds_toArray, List.set_cons_zero, List.set_cons_succ]
            refine wpAnyH_take (i := 11) (v := .pointer (some ⟨rg, j, none⟩)) rfl (by kernel_rfl) (by kernel_rfl) (by kernel_rfl) (fun _ _ _ h => h) (Or.inl ⟨by rfl, fun w' hs => by go_simp⟩) SD.out ?_
            change wpAnyH _ _ _ _ _ _ _ (Act.put _ (some 58) _) _
            simp only [Act.put, List.setIfInBounds_toArray, List.set_cons_zero, List.set_cons_succ]
            refine wpAnyH_take (i := 12) (v := .int .i64 z) rfl (by kernel_rfl) (by kernel_rfl) (by kernel_rfl) (fun _ _ _ h => h) (Or.inl ⟨by rfl, fun w' hs => by have y1 := cell_keep hs CX.out; go_simp⟩) SD.out ?_
            change wpAnyH _ _ _ _ _ _ _ (Act.put _ (some 59) _) _
            simp only [Act.put, List.setIfInBounds_toArray, List.set_cons_zero, List.set_cons_succ]
            refine wpAnyH_ready (rs := [3]) (by kernel_rfl) (by simp) ?_
            refine AllReadyH.cons rfl (fun K hK => ?_) AllReadyH.nil
            rw [if_pos (by rfl)]
            go_simp
            refine (FE.out _).mono ?_
            rintro e x1 ⟨rfl, b1⟩
            have S1 : Hid (Below wr.heap.size wr x1) := on SD.out b1
            clear b1
            refine hK.out _ _ S1.out (fun _ => ?_)
            clear hK K
            refine wpAnyH_take (i := 4) (v := .string (bs L2)) rfl (by kernel_rfl) (by kernel_rfl) (by kernel_rfl) (fun _ _ _ h => h) (Or.inl ⟨by rfl, fun w' hs => by have zz := LQ.out.2.1.2; rw [LQ.out.2.1.1]; go_simp⟩) S1.out ?_
            change wpAnyH _ _ _ _ _ _ _ (Act.put _ (some 51) _) _
            simp only [Act.put, List.setIfInBounds_toArray, List.set_cons_zero, List.set_cons_succ]
            refine wpAnyH_take (i := 5) (v := .string (bs L3)) rfl (by kernel_rfl) (by kernel_rfl) (by kernel_rfl) (fun _ _ _ h => h) (Or.inl ⟨by rfl, fun w' hs => by have zz := LQ.out.2.2.1.2; rw [LQ.out.2.2.1.1]; go_simp⟩) S1.out ?_
            change wpAnyH _ _ _ _ _ _ _ (Act.put _ (some 52) _) _
            simp only [Act.put, List.setIfInBounds_toArray, List.set_cons_zero, List.set_cons_succ]
            refine wpAnyH_ready (rs := [13]) (by kernel_rfl) (by simp) ?_
            refine AllReadyH.cons rfl (fun K hK => ?_) AllReadyH.nil
            rw [if_pos (by rfl)]
            go_simp
            refine (FD.out _).mono ?_
            rintro e x2 ⟨rfl, b2⟩
            have S2 : Hid (Below wr.heap.size wr x2) := on S1.out b2
            clear b2
            refine hK.out _ _ S2.out (fun _ => ?_)
            clear hK K
            refine wpAnyH_take (i := 14) (v := .string (bs L4)) rfl (by kernel_rfl) (by kernel_rfl) (by kernel_rfl) (fun _ _ _ h => h) (Or.inl ⟨by rfl, fun w' hs => by have zz := LQ.out.2.2.2.2; rw [LQ.out.2.2.2.1]; go_simp⟩) S2.out ?_
            change wpAnyH _ _ _ _ _ _ _ (Act.put _ (some 61) _) _
            simp only [Act.put, List.setIfInBounds_toArray, List.set_cons_zero, List.set_cons_succ]
            refine wpAnyH_take (i := 15) (v := .string (bs L4)) rfl (by kernel_rfl) (by kernel_rfl) (by kernel_rfl) (fun _ _ _ h => h) (Or.inl ⟨by rfl, fun w' hs => by go_simp⟩) S2.out ?_
            change wpAnyH _ _ _ _ _ _ _ (Act.put _ (some 3) _) _
            simp only [Act.put, List.setIfInBounds_toArray, List.set_cons_zero, List.set_cons_succ]
            refine wpAnyH_done (by kernel_rfl) ?_ _
            go_wp2_with fail
            go_roundw
            case rel => exact ⟨j + 1, by have := HL.out; omega, by go_num, by rw [EN.out], on HB.out S2.out⟩
            case measure => have := HL.out; simp [intOf]; omega
        · have hJ : ¬ (j : Int) < 16 := by omega
          obtain rfl : j = 16 := by omega
          obtain ⟨X, hX⟩ : ∃ X, R0 ++ rgW H.regs 16 = X := ⟨_, rfl⟩
          have EX := TX.out X hX
          rw [hX] at LL ⊢
          have al := AL.out
          have l0 := LL.out
          rw [bs_app (X ++ [10]) A6, bs_app X [10]] at EX
          have EN : Hid ((bs X ++ ⟨#[10]⟩) ++ bs A6 = V) := EX
          have z1 : ¬ 9223372036854775807 < (bs X).size + 1 := by rw [bs_size]; omega
          have z2 : ¬ 9223372036854775807 ≤ (bs X).size := by rw [bs_size]; omega
          have z3 : ¬ 9223372036854775807 < (bs X ++ (⟨#[10]⟩ : ByteArray)).size + (bs A6).size := by rw [show (⟨#[10]⟩ : ByteArray) = bs [10] from rfl, ← bs_app, bs_size, bs_size]; simp; omega
          have z4 : ¬ 9223372036854775807 < (bs X).size + 1 + (bs A6).size := by rw [bs_size, bs_size]; omega
          have y8 := cell_keep hB V8.out
          have CL := s_line [111, 117, 116] xo no ko H.out wr (HM.out.o.rn.stay hB) HK.out.ow NO.out (by decide)
          rw [HE.out.2.2.2.2.2] at CL
          clear hlt hj hX EX al l0 hB
          generalize bs X = SX at *
          generalize bs A6 = SA at *
          go_wp2_with (go_at_call 32; refine CL.mono ?_; clear CL; rintro e x1 ⟨rfl, b1⟩)
          go_ret
          exact ⟨by rw [← EN.out]; rfl, on B0.out (on HB.out b1)⟩
    · skip
      rw [if_pos (by rfl)]
      go_simp
      have be : Below v1.heap.size v1 (v1.alloc (.cells #[.int .i64 H.done] 2)) := al (Below.refl _ _) _
      have RNd : Hid (Rn (v1.alloc (.cells #[.int .i64 H.done] 2)) (some ⟨v1.heap.size, 0, none⟩) 1 1 [H.done]) := one_rn v1 H.done rfl
      have RNp' : Hid (Rn (v1.alloc (.cells #[.int .i64 H.done] 2)) (some ⟨gp, 0, none⟩) 1 1 [H.pc]) := RNp.out.stay be
      clear RNp
      have RNp := RNp'
      clear RNp'
      have Sv2 : Hid (Below W.heap.size W (v1.alloc (.cells #[.int .i64 H.done] 2))) := on Sv1.out be
      clear be
      generalize (v1.alloc (.cells #[.int .i64 H.done] 2)) = v2 at *
      generalize v1.heap.size = gd at *
      refine hK.out _ _ Sv2.out (fun _ => ?_)
      clear hK K
      refine wpAnyH_ready (rs := [5]) (by kernel_rfl) (by simp) ?_
      refine AllReadyH.cons rfl (fun K hK => ?_) AllReadyH.nil
      rw [if_pos (by rfl)]
      go_simp
      refine (s_line [112, 99] _ _ _ [H.pc] v2 RNp.out (by simp [HK.out.pw]) (by decide) (by decide)).mono ?_
      rintro e v3 ⟨rfl, be⟩
      have RNp' : Hid (Rn v3 (some ⟨gp, 0, none⟩) 1 1 [H.pc]) := RNp.out.stay be
      clear RNp
      have RNp := RNp'
      clear RNp'
      have RNd' : Hid (Rn v3 (some ⟨gd, 0, none⟩) 1 1 [H.done]) := RNd.out.stay be
      clear RNd
      have RNd := RNd'
      clear RNd'
      have Sv3 : Hid (Below W.heap.size W v3) := on Sv2.out be
      clear be
      refine hK.out _ _ Sv3.out (fun _ => ?_)
      clear hK K
      refine wpAnyH_ready (rs := [11]) (by kernel_rfl) (by simp) ?_
      refine AllReadyH.cons rfl (fun K hK => ?_) AllReadyH.nil
      rw [if_pos (by rfl)]
      go_simp
      refine (s_line [100, 111, 110, 101] _ _ _ [H.done] v3 RNd.out (by simp [DW.out]) (by decide) (by decide)).mono ?_
      rintro e v4 ⟨rfl, be⟩
      have RNp' : Hid (Rn v4 (some ⟨gp, 0, none⟩) 1 1 [H.pc]) := RNp.out.stay be
      clear RNp
      have RNp := RNp'
      clear RNp'
      have RNd' : Hid (Rn v4 (some ⟨gd, 0, none⟩) 1 1 [H.done]) := RNd.out.stay be
      clear RNd
      have RNd := RNd'
      clear RNd'
      have Sv4 : Hid (Below W.heap.size W v4) := on Sv3.out be
      clear be
      refine hK.out _ _ Sv4.out (fun _ => ?_)
      clear hK K
      rw [HE.out.1, HE.out.2.1]
      refine wpAnyH_take (i := 12) (v := .string (bs B2)) rfl (by kernel_rfl) (by kernel_rfl) (by kernel_rfl) (fun _ _ _ h => h) (Or.inl ⟨by rfl, fun w' hs => by have zz := (BQ.out.1).2; rw [(BQ.out.1).1]; go_simp⟩) Sv4.out ?_
      change wpAnyH _ _ _ _ _ _ _ (Act.put _ (some 17) _) _
      simp only [Act.put, List.setIfInBounds_toArray, List.set_cons_zero, List.set_cons_succ]
      refine wpAnyH_ready (rs := [17]) (by kernel_rfl) (by simp) ?_
      refine AllReadyH.cons rfl (fun K hK => ?_) AllReadyH.nil
      rw [if_pos (by rfl)]
      go_simp
      refine (s_bit H.halted v4).mono ?_
      rintro e y ⟨rfl, hy⟩
      rw [hy]
      clear hy y
      refine hK.out _ _ Sv4.out (fun _ => ?_)
      clear hK K
      refine wpAnyH_ready (rs := [18]) (by kernel_rfl) (by simp) ?_
      refine AllReadyH.cons rfl (fun K hK => ?_) AllReadyH.nil
      rw [if_pos (by rfl)]
      go_simp
      have be : Below v4.heap.size v4 (v4.alloc (.cells #[.int .i64 (b2 H.halted)] 2)) := al (Below.refl _ _) _
      have RNh : Hid (Rn (v4.alloc (.cells #[.int .i64 (b2 H.halted)] 2)) (some ⟨v4.heap.size, 0, none⟩) 1 1 [(b2 H.halted)]) := one_rn v4 (b2 H.halted) rfl
      have RNp' : Hid (Rn (v4.alloc (.cells #[.int .i64 (b2 H.halted)] 2)) (some ⟨gp, 0, none⟩) 1 1 [H.pc]) := RNp.out.stay be
      clear RNp
      have RNp := RNp'
      clear RNp'
      have RNd' : Hid (Rn (v4.alloc (.cells #[.int .i64 (b2 H.halted)] 2)) (some ⟨gd, 0, none⟩) 1 1 [H.done]) := RNd.out.stay be
      clear RNd
      have RNd := RNd'
      clear RNd'
      have Sv5 : Hid (Below W.heap.size W (v4.alloc (.cells #[.int .i64 (b2 H.halted)] 2))) := on Sv4.out be
      clear be
      generalize (v4.alloc (.cells #[.int .i64 (b2 H.halted)] 2)) = v5 at *
      generalize v4.heap.size = gh at *
      refine hK.out _ _ Sv5.out (fun _ => ?_)
      clear hK K
      refine wpAnyH_ready (rs := [19]) (by kernel_rfl) (by simp) ?_
      refine AllReadyH.cons rfl (fun K hK => ?_) AllReadyH.nil
      rw [if_pos (by rfl)]
      go_simp
      refine (s_line [104, 97, 108, 116, 101, 100] _ _ _ [(b2 H.halted)] v5 RNh.out (by simp [b2_word]) (by decide) (by decide)).mono ?_
      rintro e v6 ⟨rfl, be⟩
      have RNp' : Hid (Rn v6 (some ⟨gp, 0, none⟩) 1 1 [H.pc]) := RNp.out.stay be
      clear RNp
      have RNp := RNp'
      clear RNp'
      have RNd' : Hid (Rn v6 (some ⟨gd, 0, none⟩) 1 1 [H.done]) := RNd.out.stay be
      clear RNd
      have RNd := RNd'
      clear RNd'
      have RNh' : Hid (Rn v6 (some ⟨gh, 0, none⟩) 1 1 [(b2 H.halted)]) := RNh.out.stay be
      clear RNh
      have RNh := RNh'
      clear RNh'
      have Sv6 : Hid (Below W.heap.size W v6) := on Sv5.out be
      clear be
      refine hK.out _ _ Sv6.out (fun _ => ?_)
      clear hK K
      rw [HE.out.2.2.1]
      refine wpAnyH_take (i := 20) (v := .string (bs B3)) rfl (by kernel_rfl) (by kernel_rfl) (by kernel_rfl) (fun _ _ _ h => h) (Or.inl ⟨by rfl, fun w' hs => by have zz := (BQ.out.2.1).2; rw [(BQ.out.2.1).1]; go_simp⟩) Sv6.out ?_
      change wpAnyH _ _ _ _ _ _ _ (Act.put _ (some 25) _) _
      simp only [Act.put, List.setIfInBounds_toArray, List.set_cons_zero, List.set_cons_succ]
      refine wpAnyH_ready (rs := [25]) (by kernel_rfl) (by simp) ?_
      refine AllReadyH.cons rfl (fun K hK => ?_) AllReadyH.nil
      rw [if_pos (by rfl)]
      go_simp
      refine (s_bit H.waiting v6).mono ?_
      rintro e y ⟨rfl, hy⟩
      rw [hy]
      clear hy y
      refine hK.out _ _ Sv6.out (fun _ => ?_)
      clear hK K
      refine wpAnyH_ready (rs := [26]) (by kernel_rfl) (by simp) ?_
      refine AllReadyH.cons rfl (fun K hK => ?_) AllReadyH.nil
      rw [if_pos (by rfl)]
      go_simp
      have be : Below v6.heap.size v6 (v6.alloc (.cells #[.int .i64 (b2 H.waiting)] 2)) := al (Below.refl _ _) _
      have RNw : Hid (Rn (v6.alloc (.cells #[.int .i64 (b2 H.waiting)] 2)) (some ⟨v6.heap.size, 0, none⟩) 1 1 [(b2 H.waiting)]) := one_rn v6 (b2 H.waiting) rfl
      have RNp' : Hid (Rn (v6.alloc (.cells #[.int .i64 (b2 H.waiting)] 2)) (some ⟨gp, 0, none⟩) 1 1 [H.pc]) := RNp.out.stay be
      clear RNp
      have RNp := RNp'
      clear RNp'
      have RNd' : Hid (Rn (v6.alloc (.cells #[.int .i64 (b2 H.waiting)] 2)) (some ⟨gd, 0, none⟩) 1 1 [H.done]) := RNd.out.stay be
      clear RNd
      have RNd := RNd'
      clear RNd'
      have RNh' : Hid (Rn (v6.alloc (.cells #[.int .i64 (b2 H.waiting)] 2)) (some ⟨gh, 0, none⟩) 1 1 [(b2 H.halted)]) := RNh.out.stay be
      clear RNh
      have RNh := RNh'
      clear RNh'
      have Sv7 : Hid (Below W.heap.size W (v6.alloc (.cells #[.int .i64 (b2 H.waiting)] 2))) := on Sv6.out be
      clear be
      generalize (v6.alloc (.cells #[.int .i64 (b2 H.waiting)] 2)) = v7 at *
      generalize v6.heap.size = gw at *
      refine hK.out _ _ Sv7.out (fun _ => ?_)
      clear hK K
      refine wpAnyH_ready (rs := [27]) (by kernel_rfl) (by simp) ?_
      refine AllReadyH.cons rfl (fun K hK => ?_) AllReadyH.nil
      rw [if_pos (by rfl)]
      go_simp
      refine (s_line [119, 97, 105, 116, 105, 110, 103] _ _ _ [(b2 H.waiting)] v7 RNw.out (by simp [b2_word]) (by decide) (by decide)).mono ?_
      rintro e v8 ⟨rfl, be⟩
      have RNp' : Hid (Rn v8 (some ⟨gp, 0, none⟩) 1 1 [H.pc]) := RNp.out.stay be
      clear RNp
      have RNp := RNp'
      clear RNp'
      have RNd' : Hid (Rn v8 (some ⟨gd, 0, none⟩) 1 1 [H.done]) := RNd.out.stay be
      clear RNd
      have RNd := RNd'
      clear RNd'
      have RNh' : Hid (Rn v8 (some ⟨gh, 0, none⟩) 1 1 [(b2 H.halted)]) := RNh.out.stay be
      clear RNh
      have RNh := RNh'
      clear RNh'
      have RNw' : Hid (Rn v8 (some ⟨gw, 0, none⟩) 1 1 [(b2 H.waiting)]) := RNw.out.stay be
      clear RNw
      have RNw := RNw'
      clear RNw'
      have Sv8 : Hid (Below W.heap.size W v8) := on Sv7.out be
      clear be
      refine hK.out _ _ Sv8.out (fun _ => ?_)
      clear hK K
      rw [HE.out.2.2.2.1]
      refine wpAnyH_take (i := 28) (v := .string (bs B4)) rfl (by kernel_rfl) (by kernel_rfl) (by kernel_rfl) (fun _ _ _ h => h) (Or.inl ⟨by rfl, fun w' hs => by have zz := (BQ.out.2.2.1).2; rw [(BQ.out.2.2.1).1]; go_simp⟩) Sv8.out ?_
      change wpAnyH _ _ _ _ _ _ _ (Act.put _ (some 33) _) _
      simp only [Act.put, List.setIfInBounds_toArray, List.set_cons_zero, List.set_cons_succ]
      refine wpAnyH_take (i := 29) (v := .string (bs R0)) rfl (by kernel_rfl) (by kernel_rfl) (by kernel_rfl) (fun _ _ _ h => h) (Or.inl ⟨by rfl, fun w' hs => by have zz := RQ.out.2; rw [RQ.out.1]; go_simp⟩) Sv8.out ?_
      change wpAnyH _ _ _ _ _ _ _ (Act.put _ (some 34) _) _
      simp only [Act.put, List.setIfInBounds_toArray, List.set_cons_zero, List.set_cons_succ]
      refine wpAnyH_take (i := 30) (v := .string (bs R0)) rfl (by kernel_rfl) (by kernel_rfl) (by kernel_rfl) (fun _ _ _ h => h) (Or.inl ⟨by rfl, fun w' hs => by go_simp⟩) Sv8.out ?_
      change wpAnyH _ _ _ _ _ _ _ (Act.put _ (some 3) _) _
      simp only [Act.put, List.setIfInBounds_toArray, List.set_cons_zero, List.set_cons_succ]
      refine wpAnyH_done (by kernel_rfl) ?_ _
      have BX : Hid (Below W.heap.size W v8) := Sv8.out
      clear RNp RNd RNh RNw
      go_wp2_with fail
      go_loopw [3, 4] (fun u i wr => ∃ j : Nat, j ≤ 16 ∧ i = .int .i64 j ∧ u = .string (bs (R0 ++ rgW H.regs j)) ∧ Below W.heap.size W wr) (fun _ i _ => 16 - (intOf i).toNat)
      case atStart => exact ⟨0, Nat.zero_le _, rfl, by simp [rgW], BX.out⟩
      case round =>
        obtain ⟨j, hj, rfl, rfl, hB⟩ := hrel
        have HB : Hid (Below W.heap.size W wr) := hB
        have LL : Hid ((R0 ++ rgW H.regs j : List UInt8).length ≤ 2300) := by
          show _ ≤ _
          have h1 := rgW_len HK.out.rw j hj
          have h2 := RL.out
          rw [List.length_append]
          omega
        by_cases hlt : j < 16
        · have hJ : (j : Int) < 16 := by omega
          have HL : Hid (j < 16) := hlt
          have NX : Hid (rgW H.regs (j + 1) = rgW H.regs j ++ rgP H.regs j) := rfl
          obtain ⟨z, hz⟩ : ∃ z, gt H.regs j = z := ⟨_, rfl⟩
          have ZB : Hid (0 ≤ z ∧ z ≤ 4294967295) := by rw [← hz]; exact gt_word HK.out.rw j
          have CX : Hid (wr.cell? ⟨rg, j, none⟩ = some (.int .i64 z)) := by
            show _ = _
            rw [← hz]
            exact cell_keep hB (HM.out.r.cell HK.out.r16.symm j hlt)
          obtain ⟨L, hL⟩ : ∃ L, R0 ++ rgW H.regs j = L := ⟨_, rfl⟩
          have cx := CX.out
          have y0 := cell_keep hB V0.out
          by_cases h0 : z = 0
          · have EN : Hid (bs (R0 ++ rgW H.regs (j + 1)) = bs L) := by
              show _ = _
              rw [NX.out, rgP, hz, if_pos h0, List.append_nil, hL]
            rw [hL] at LL ⊢
            subst h0
            clear hlt hz hL hB hj
            go_wp2_with fail
            go_roundw
            case rel => exact ⟨j + 1, by have := HL.out; omega, by go_num, by rw [EN.out], HB.out⟩
            case measure => have := HL.out; simp [intOf]; omega
          · obtain ⟨D, hD⟩ : ∃ D, Lib.decDigits z.toNat = D := ⟨_, rfl⟩
            obtain ⟨E, hE⟩ : ∃ E, Lib.decDigits j = E := ⟨_, rfl⟩
            obtain ⟨L1, hL1⟩ : ∃ X, L ++ [32] = X := ⟨_, rfl⟩
            obtain ⟨L2, hL2⟩ : ∃ X, L1 ++ E = X := ⟨_, rfl⟩
            obtain ⟨L3, hL3⟩ : ∃ X, L2 ++ [58] = X := ⟨_, rfl⟩
            obtain ⟨L4, hL4⟩ : ∃ X, L3 ++ D = X := ⟨_, rfl⟩
            have EN : Hid (bs (R0 ++ rgW H.regs (j + 1)) = bs L4) := by
              show _ = _
              rw [NX.out, rgP, hz, if_neg h0, ← List.append_assoc, hL, hD, hE, ← hL4, ← hL3, ← hL2, ← hL1]
              congr 1
              simp
            rw [hL] at LL ⊢
            have LQ : Hid ((bs L1 = bs L ++ ⟨#[32]⟩ ∧ ¬ 9223372036854775807 < (bs L).size + 1) ∧ (bs L2 = bs L1 ++ bs E ∧ ¬ 9223372036854775807 < (bs L1).size + (bs E).size) ∧ (bs L3 = bs L2 ++ ⟨#[58]⟩ ∧ ¬ 9223372036854775807 < (bs L2).size + 1) ∧ (bs L4 = bs L3 ++ bs D ∧ ¬ 9223372036854775807 < (bs L3).size + (bs D).size)) := by
              have d1 : D.length ≤ 10 := by rw [← hD]; exact dec_len10 ZB.out.1 ZB.out.2
              have d2 : E.length ≤ 2 := by rw [← hE]; exact dec_len j 1 (by omega)
              have l0 := LL.out
              have l1 : L1.length ≤ 2310 := by rw [← hL1]; simp; omega
              have l2 : L2.length ≤ 2320 := by rw [← hL2, List.length_append]; omega
              have l3 : L3.length ≤ 2330 := by rw [← hL3]; simp; omega
              refine ⟨⟨by rw [← hL1, bs_app]; rfl, by rw [bs_size]; omega⟩, ⟨by rw [← hL2, bs_app], by rw [bs_size, bs_size]; omega⟩, ⟨by rw [← hL3, bs_app]; rfl, by rw [bs_size]; omega⟩, ⟨by rw [← hL4, bs_app], by rw [bs_size, bs_size]; omega⟩⟩
            have FE : Hid (∀ w1, Calls Tryd.prog 39 #[.int .i64 (j : Int)] w1 fun e w' => e = .returned (.string (bs E)) ∧ Below w1.heap.size w1 w') := fun w1 => by
              have t := s_digits (j : Int) (by omega) (by omega) w1
              rw [show ((j : Int)).toNat = j by omega, hE] at t
              exact t
            have FD : Hid (∀ w1, Calls Tryd.prog 39 #[.int .i64 z] w1 fun e w' => e = .returned (.string (bs D)) ∧ Below w1.heap.size w1 w') := fun w1 => by
              have t := s_digits z ZB.out.1 ZB.out.2 w1
              rw [hD] at t
              exact t
            clear hlt hz hL hB hj hD hE hL1 hL2 hL3 hL4
            go_wp2_with fail
            clear cx y0
            refine wp_region_held (S := fun w' => Below wr.heap.size wr w') (by kernel_rfl) ?_
            change wpAnyH _ _ _ _ _ _ _ _ (World.drew _)
            have SD : Hid (Below wr.heap.size wr wr.drew) := (Below.refl _ _).drew
            generalize wr.drew = x0 at *
            refine wpAnyH_take (i := 0) (v := .string (bs L)) rfl (by kernel_rfl) (by kernel_rfl) (by kernel_rfl) (fun _ _ _ h => h) (Or.inl ⟨by rfl, fun w' hs => by go_simp⟩) SD.out ?_
            change wpAnyH _ _ _ _ _ _ _ (Act.put _ (some 47) _) _
            simp only [Act.put, List.setIfInBounds_toArray, List.set_cons_zero, List.set_cons_succ]
            refine wpAnyH_take (i := 1) (v := .string (bs L1)) rfl (by kernel_rfl) (by kernel_rfl) (by kernel_rfl) (fun _ _ _ h => h) (Or.inl ⟨by rfl, fun w' hs => by have zz := LQ.out.1.2; have zy := LQ.out.1.2; rw [LQ.out.1.1]; go_simp⟩) SD.out ?_
            change wpAnyH _ _ _ _ _ _ _ (Act.put _ (some 48) _) _
            simp only [Act.put, List.setIfInBounds_toArray, List.set_cons_zero, List.set_cons_succ]
            refine wpAnyH_take (i := 2) (v := .int .i64 (j : Int)) rfl (by kernel_rfl) (by kernel_rfl) (by kernel_rfl) (fun _ _ _ h => h) (Or.inl ⟨by rfl, fun w' hs => by go_simp⟩) SD.out ?_
            change wpAnyH _ _ _ _ _ _ _ (Act.put _ (some 49) _) _
            simp only [Act.put, List.setIfInBounds_toArray, List.set_cons_zero, List.set_cons_succ]
            refine wpAnyH_take (i := 6) (v := .pointer (some ⟨q, 0, none⟩)) rfl (by kernel_rfl) (by kernel_rfl) (by kernel_rfl) (fun _ _ _ h => h) (Or.inl ⟨by rfl, fun w' hs => by go_simp⟩) SD.out ?_
            change wpAnyH _ _ _ _ _ _ _ (Act.put _ (some 53) _) _
            simp only [Act.put, List.setIfInBounds_toArray, List.set_cons_zero, List.set_cons_succ]
            refine wpAnyH_take (i := 7) (v := .pointer (some ⟨q, 0, none⟩)) rfl (by kernel_rfl) (by kernel_rfl) (by kernel_rfl) (fun _ _ _ h => h) (Or.inl ⟨by rfl, fun w' hs => by go_simp⟩) SD.out ?_
            change wpAnyH _ _ _ _ _ _ _ (Act.put _ (some 54) _) _
            simp only [Act.put, List.setIfInBounds_toArray, List.set_cons_zero, List.set_cons_succ]
            refine wpAnyH_take (i := 8) (v := .pointer (some ⟨q, 0, none⟩)) rfl (by kernel_rfl) (by kernel_rfl) (by kernel_rfl) (fun _ _ _ h => h) (Or.inl ⟨by rfl, fun w' hs => by go_simp⟩) SD.out ?_
            change wpAnyH _ _ _ _ _ _ _ (Act.put _ (some 55) _) _
            simp only [Act.put, List.setIfInBounds_toArray, List.set_cons_zero, List.set_cons_succ]
            refine wpAnyH_take (i := 9) (v := .slice (some ⟨rg, 0, none⟩) 16 rk) rfl (by kernel_rfl) (by kernel_rfl) (by kernel_rfl) (fun _ _ _ h => h) (Or.inl ⟨by rfl, fun w' hs => by have y0 := cell_keep hs (cell_keep HB.out V0.out); go_simp⟩) SD.out ?_
            change wpAnyH _ _ _ _ _ _ _ (Act.put _ (some 56) _) _
            simp only [Act.put, List.setIfInBounds_toArray, List.set_cons_zero, List.set_cons_succ]
            refine wpAnyH_take (i := 10) (v := .int .i64 (j : Int)) rfl (by kernel_rfl) (by kernel_rfl) (by kernel_rfl) (fun _ _ _ h => h) (Or.inl ⟨by rfl, fun w' hs => by go_simp⟩) SD.out ?_
            change wpAnyH _ _ _ _ _ _ _ (Act.put _ (some 57) _) _
            simp only [Act.put, List.setIfInBounds_toArray, List.set_cons_zero, List.set_cons_succ]
            refine wpAnyH_take (i := 11) (v := .pointer (some ⟨rg, j, none⟩)) rfl (by kernel_rfl) (by kernel_rfl) (by kernel_rfl) (fun _ _ _ h => h) (Or.inl ⟨by rfl, fun w' hs => by go_simp⟩) SD.out ?_
            change wpAnyH _ _ _ _ _ _ _ (Act.put _ (some 58) _) _
            simp only [Act.put, List.setIfInBounds_toArray, List.set_cons_zero, List.set_cons_succ]
            refine wpAnyH_take (i := 12) (v := .int .i64 z) rfl (by kernel_rfl) (by kernel_rfl) (by kernel_rfl) (fun _ _ _ h => h) (Or.inl ⟨by rfl, fun w' hs => by have y1 := cell_keep hs CX.out; go_simp⟩) SD.out ?_
            change wpAnyH _ _ _ _ _ _ _ (Act.put _ (some 59) _) _
            simp only [Act.put, List.setIfInBounds_toArray, List.set_cons_zero, List.set_cons_succ]
            refine wpAnyH_ready (rs := [3]) (by kernel_rfl) (by simp) ?_
            refine AllReadyH.cons rfl (fun K hK => ?_) AllReadyH.nil
            rw [if_pos (by rfl)]
            go_simp
            refine (FE.out _).mono ?_
            rintro e x1 ⟨rfl, b1⟩
            have S1 : Hid (Below wr.heap.size wr x1) := on SD.out b1
            clear b1
            refine hK.out _ _ S1.out (fun _ => ?_)
            clear hK K
            refine wpAnyH_take (i := 4) (v := .string (bs L2)) rfl (by kernel_rfl) (by kernel_rfl) (by kernel_rfl) (fun _ _ _ h => h) (Or.inl ⟨by rfl, fun w' hs => by have zz := LQ.out.2.1.2; rw [LQ.out.2.1.1]; go_simp⟩) S1.out ?_
            change wpAnyH _ _ _ _ _ _ _ (Act.put _ (some 51) _) _
            simp only [Act.put, List.setIfInBounds_toArray, List.set_cons_zero, List.set_cons_succ]
            refine wpAnyH_take (i := 5) (v := .string (bs L3)) rfl (by kernel_rfl) (by kernel_rfl) (by kernel_rfl) (fun _ _ _ h => h) (Or.inl ⟨by rfl, fun w' hs => by have zz := LQ.out.2.2.1.2; rw [LQ.out.2.2.1.1]; go_simp⟩) S1.out ?_
            change wpAnyH _ _ _ _ _ _ _ (Act.put _ (some 52) _) _
            simp only [Act.put, List.setIfInBounds_toArray, List.set_cons_zero, List.set_cons_succ]
            refine wpAnyH_ready (rs := [13]) (by kernel_rfl) (by simp) ?_
            refine AllReadyH.cons rfl (fun K hK => ?_) AllReadyH.nil
            rw [if_pos (by rfl)]
            go_simp
            refine (FD.out _).mono ?_
            rintro e x2 ⟨rfl, b2⟩
            have S2 : Hid (Below wr.heap.size wr x2) := on S1.out b2
            clear b2
            refine hK.out _ _ S2.out (fun _ => ?_)
            clear hK K
            refine wpAnyH_take (i := 14) (v := .string (bs L4)) rfl (by kernel_rfl) (by kernel_rfl) (by kernel_rfl) (fun _ _ _ h => h) (Or.inl ⟨by rfl, fun w' hs => by have zz := LQ.out.2.2.2.2; rw [LQ.out.2.2.2.1]; go_simp⟩) S2.out ?_
            change wpAnyH _ _ _ _ _ _ _ (Act.put _ (some 61) _) _
            simp only [Act.put, List.setIfInBounds_toArray, List.set_cons_zero, List.set_cons_succ]
            refine wpAnyH_take (i := 15) (v := .string (bs L4)) rfl (by kernel_rfl) (by kernel_rfl) (by kernel_rfl) (fun _ _ _ h => h) (Or.inl ⟨by rfl, fun w' hs => by go_simp⟩) S2.out ?_
            change wpAnyH _ _ _ _ _ _ _ (Act.put _ (some 3) _) _
            simp only [Act.put, List.setIfInBounds_toArray, List.set_cons_zero, List.set_cons_succ]
            refine wpAnyH_done (by kernel_rfl) ?_ _
            go_wp2_with fail
            go_roundw
            case rel => exact ⟨j + 1, by have := HL.out; omega, by go_num, by rw [EN.out], on HB.out S2.out⟩
            case measure => have := HL.out; simp [intOf]; omega
        · have hJ : ¬ (j : Int) < 16 := by omega
          obtain rfl : j = 16 := by omega
          obtain ⟨X, hX⟩ : ∃ X, R0 ++ rgW H.regs 16 = X := ⟨_, rfl⟩
          have EX := TX.out X hX
          rw [hX] at LL ⊢
          have al := AL.out
          have l0 := LL.out
          rw [bs_app (X ++ [10]) A6, bs_app X [10]] at EX
          have EN : Hid ((bs X ++ ⟨#[10]⟩) ++ bs A6 = V) := EX
          have z1 : ¬ 9223372036854775807 < (bs X).size + 1 := by rw [bs_size]; omega
          have z2 : ¬ 9223372036854775807 ≤ (bs X).size := by rw [bs_size]; omega
          have z3 : ¬ 9223372036854775807 < (bs X ++ (⟨#[10]⟩ : ByteArray)).size + (bs A6).size := by rw [show (⟨#[10]⟩ : ByteArray) = bs [10] from rfl, ← bs_app, bs_size, bs_size]; simp; omega
          have z4 : ¬ 9223372036854775807 < (bs X).size + 1 + (bs A6).size := by rw [bs_size, bs_size]; omega
          have y8 := cell_keep hB V8.out
          have CL := s_line [111, 117, 116] xo no ko H.out wr (HM.out.o.rn.stay hB) HK.out.ow NO.out (by decide)
          rw [HE.out.2.2.2.2.2] at CL
          clear hlt hj hX EX al l0 hB
          generalize bs X = SX at *
          generalize bs A6 = SA at *
          go_wp2_with (go_at_call 32; refine CL.mono ?_; clear CL; rintro e x1 ⟨rfl, b1⟩)
          go_ret
          exact ⟨by rw [← EN.out]; rfl, on B0.out (on HB.out b1)⟩
  · skip
    rw [if_pos (by rfl)]
    go_simp
    have be : Below v0.heap.size v0 (v0.alloc (.cells #[.int .i64 H.done] 2)) := al (Below.refl _ _) _
    have RNd : Hid (Rn (v0.alloc (.cells #[.int .i64 H.done] 2)) (some ⟨v0.heap.size, 0, none⟩) 1 1 [H.done]) := one_rn v0 H.done rfl
    have Sv1 : Hid (Below W.heap.size W (v0.alloc (.cells #[.int .i64 H.done] 2))) := on Sv0.out be
    clear be
    generalize (v0.alloc (.cells #[.int .i64 H.done] 2)) = v1 at *
    generalize v0.heap.size = gd at *
    refine hK.out _ _ Sv1.out (fun _ => ?_)
    clear hK K
    refine wpAnyH_ready (rs := [4]) (by kernel_rfl) (by simp) ?_
    refine AllReadyH.cons rfl (fun K hK => ?_) AllReadyH.nil
    rw [if_pos (by rfl)]
    go_simp
    have be : Below v1.heap.size v1 (v1.alloc (.cells #[.int .i64 H.pc] 2)) := al (Below.refl _ _) _
    have RNp : Hid (Rn (v1.alloc (.cells #[.int .i64 H.pc] 2)) (some ⟨v1.heap.size, 0, none⟩) 1 1 [H.pc]) := one_rn v1 H.pc rfl
    have RNd' : Hid (Rn (v1.alloc (.cells #[.int .i64 H.pc] 2)) (some ⟨gd, 0, none⟩) 1 1 [H.done]) := RNd.out.stay be
    clear RNd
    have RNd := RNd'
    clear RNd'
    have Sv2 : Hid (Below W.heap.size W (v1.alloc (.cells #[.int .i64 H.pc] 2))) := on Sv1.out be
    clear be
    generalize (v1.alloc (.cells #[.int .i64 H.pc] 2)) = v2 at *
    generalize v1.heap.size = gp at *
    refine hK.out _ _ Sv2.out (fun _ => ?_)
    clear hK K
    refine wpAnyH_ready (rs := [5]) (by kernel_rfl) (by simp) ?_
    refine AllReadyH.cons rfl (fun K hK => ?_) AllReadyH.nil
    rw [if_pos (by rfl)]
    go_simp
    refine (s_line [112, 99] _ _ _ [H.pc] v2 RNp.out (by simp [HK.out.pw]) (by decide) (by decide)).mono ?_
    rintro e v3 ⟨rfl, be⟩
    have RNd' : Hid (Rn v3 (some ⟨gd, 0, none⟩) 1 1 [H.done]) := RNd.out.stay be
    clear RNd
    have RNd := RNd'
    clear RNd'
    have RNp' : Hid (Rn v3 (some ⟨gp, 0, none⟩) 1 1 [H.pc]) := RNp.out.stay be
    clear RNp
    have RNp := RNp'
    clear RNp'
    have Sv3 : Hid (Below W.heap.size W v3) := on Sv2.out be
    clear be
    refine hK.out _ _ Sv3.out (fun _ => ?_)
    clear hK K
    refine wpAnyH_ready (rs := [11]) (by kernel_rfl) (by simp) ?_
    refine AllReadyH.cons rfl (fun K hK => ?_) AllReadyH.nil
    rw [if_pos (by rfl)]
    go_simp
    refine (s_line [100, 111, 110, 101] _ _ _ [H.done] v3 RNd.out (by simp [DW.out]) (by decide) (by decide)).mono ?_
    rintro e v4 ⟨rfl, be⟩
    have RNd' : Hid (Rn v4 (some ⟨gd, 0, none⟩) 1 1 [H.done]) := RNd.out.stay be
    clear RNd
    have RNd := RNd'
    clear RNd'
    have RNp' : Hid (Rn v4 (some ⟨gp, 0, none⟩) 1 1 [H.pc]) := RNp.out.stay be
    clear RNp
    have RNp := RNp'
    clear RNp'
    have Sv4 : Hid (Below W.heap.size W v4) := on Sv3.out be
    clear be
    refine hK.out _ _ Sv4.out (fun _ => ?_)
    clear hK K
    rw [HE.out.1, HE.out.2.1]
    refine wpAnyH_take (i := 12) (v := .string (bs B2)) rfl (by kernel_rfl) (by kernel_rfl) (by kernel_rfl) (fun _ _ _ h => h) (Or.inl ⟨by rfl, fun w' hs => by have zz := (BQ.out.1).2; rw [(BQ.out.1).1]; go_simp⟩) Sv4.out ?_
    change wpAnyH _ _ _ _ _ _ _ (Act.put _ (some 17) _) _
    simp only [Act.put, List.setIfInBounds_toArray, List.set_cons_zero, List.set_cons_succ]
    refine wpAnyH_ready (rs := [17]) (by kernel_rfl) (by simp) ?_
    refine AllReadyH.cons rfl (fun K hK => ?_) AllReadyH.nil
    rw [if_pos (by rfl)]
    go_simp
    refine (s_bit H.halted v4).mono ?_
    rintro e y ⟨rfl, hy⟩
    rw [hy]
    clear hy y
    refine hK.out _ _ Sv4.out (fun _ => ?_)
    clear hK K
    refine wpAnyH_ready (rs := [18]) (by kernel_rfl) (by simp) ?_
    refine AllReadyH.cons rfl (fun K hK => ?_) AllReadyH.nil
    rw [if_pos (by rfl)]
    go_simp
    have be : Below v4.heap.size v4 (v4.alloc (.cells #[.int .i64 (b2 H.halted)] 2)) := al (Below.refl _ _) _
    have RNh : Hid (Rn (v4.alloc (.cells #[.int .i64 (b2 H.halted)] 2)) (some ⟨v4.heap.size, 0, none⟩) 1 1 [(b2 H.halted)]) := one_rn v4 (b2 H.halted) rfl
    have RNd' : Hid (Rn (v4.alloc (.cells #[.int .i64 (b2 H.halted)] 2)) (some ⟨gd, 0, none⟩) 1 1 [H.done]) := RNd.out.stay be
    clear RNd
    have RNd := RNd'
    clear RNd'
    have RNp' : Hid (Rn (v4.alloc (.cells #[.int .i64 (b2 H.halted)] 2)) (some ⟨gp, 0, none⟩) 1 1 [H.pc]) := RNp.out.stay be
    clear RNp
    have RNp := RNp'
    clear RNp'
    have Sv5 : Hid (Below W.heap.size W (v4.alloc (.cells #[.int .i64 (b2 H.halted)] 2))) := on Sv4.out be
    clear be
    generalize (v4.alloc (.cells #[.int .i64 (b2 H.halted)] 2)) = v5 at *
    generalize v4.heap.size = gh at *
    refine hK.out _ _ Sv5.out (fun _ => ?_)
    clear hK K
    refine wpAnyH_ready (rs := [19]) (by kernel_rfl) (by simp) ?_
    refine AllReadyH.cons rfl (fun K hK => ?_) AllReadyH.nil
    rw [if_pos (by rfl)]
    go_simp
    refine (s_line [104, 97, 108, 116, 101, 100] _ _ _ [(b2 H.halted)] v5 RNh.out (by simp [b2_word]) (by decide) (by decide)).mono ?_
    rintro e v6 ⟨rfl, be⟩
    have RNd' : Hid (Rn v6 (some ⟨gd, 0, none⟩) 1 1 [H.done]) := RNd.out.stay be
    clear RNd
    have RNd := RNd'
    clear RNd'
    have RNp' : Hid (Rn v6 (some ⟨gp, 0, none⟩) 1 1 [H.pc]) := RNp.out.stay be
    clear RNp
    have RNp := RNp'
    clear RNp'
    have RNh' : Hid (Rn v6 (some ⟨gh, 0, none⟩) 1 1 [(b2 H.halted)]) := RNh.out.stay be
    clear RNh
    have RNh := RNh'
    clear RNh'
    have Sv6 : Hid (Below W.heap.size W v6) := on Sv5.out be
    clear be
    refine hK.out _ _ Sv6.out (fun _ => ?_)
    clear hK K
    rw [HE.out.2.2.1]
    refine wpAnyH_take (i := 20) (v := .string (bs B3)) rfl (by kernel_rfl) (by kernel_rfl) (by kernel_rfl) (fun _ _ _ h => h) (Or.inl ⟨by rfl, fun w' hs => by have zz := (BQ.out.2.1).2; rw [(BQ.out.2.1).1]; go_simp⟩) Sv6.out ?_
    change wpAnyH _ _ _ _ _ _ _ (Act.put _ (some 25) _) _
    simp only [Act.put, List.setIfInBounds_toArray, List.set_cons_zero, List.set_cons_succ]
    refine wpAnyH_ready (rs := [25]) (by kernel_rfl) (by simp) ?_
    refine AllReadyH.cons rfl (fun K hK => ?_) AllReadyH.nil
    rw [if_pos (by rfl)]
    go_simp
    refine (s_bit H.waiting v6).mono ?_
    rintro e y ⟨rfl, hy⟩
    rw [hy]
    clear hy y
    refine hK.out _ _ Sv6.out (fun _ => ?_)
    clear hK K
    refine wpAnyH_ready (rs := [26]) (by kernel_rfl) (by simp) ?_
    refine AllReadyH.cons rfl (fun K hK => ?_) AllReadyH.nil
    rw [if_pos (by rfl)]
    go_simp
    have be : Below v6.heap.size v6 (v6.alloc (.cells #[.int .i64 (b2 H.waiting)] 2)) := al (Below.refl _ _) _
    have RNw : Hid (Rn (v6.alloc (.cells #[.int .i64 (b2 H.waiting)] 2)) (some ⟨v6.heap.size, 0, none⟩) 1 1 [(b2 H.waiting)]) := one_rn v6 (b2 H.waiting) rfl
    have RNd' : Hid (Rn (v6.alloc (.cells #[.int .i64 (b2 H.waiting)] 2)) (some ⟨gd, 0, none⟩) 1 1 [H.done]) := RNd.out.stay be
    clear RNd
    have RNd := RNd'
    clear RNd'
    have RNp' : Hid (Rn (v6.alloc (.cells #[.int .i64 (b2 H.waiting)] 2)) (some ⟨gp, 0, none⟩) 1 1 [H.pc]) := RNp.out.stay be
    clear RNp
    have RNp := RNp'
    clear RNp'
    have RNh' : Hid (Rn (v6.alloc (.cells #[.int .i64 (b2 H.waiting)] 2)) (some ⟨gh, 0, none⟩) 1 1 [(b2 H.halted)]) := RNh.out.stay be
    clear RNh
    have RNh := RNh'
    clear RNh'
    have Sv7 : Hid (Below W.heap.size W (v6.alloc (.cells #[.int .i64 (b2 H.waiting)] 2))) := on Sv6.out be
    clear be
    generalize (v6.alloc (.cells #[.int .i64 (b2 H.waiting)] 2)) = v7 at *
    generalize v6.heap.size = gw at *
    refine hK.out _ _ Sv7.out (fun _ => ?_)
    clear hK K
    refine wpAnyH_ready (rs := [27]) (by kernel_rfl) (by simp) ?_
    refine AllReadyH.cons rfl (fun K hK => ?_) AllReadyH.nil
    rw [if_pos (by rfl)]
    go_simp
    refine (s_line [119, 97, 105, 116, 105, 110, 103] _ _ _ [(b2 H.waiting)] v7 RNw.out (by simp [b2_word]) (by decide) (by decide)).mono ?_
    rintro e v8 ⟨rfl, be⟩
    have RNd' : Hid (Rn v8 (some ⟨gd, 0, none⟩) 1 1 [H.done]) := RNd.out.stay be
    clear RNd
    have RNd := RNd'
    clear RNd'
    have RNp' : Hid (Rn v8 (some ⟨gp, 0, none⟩) 1 1 [H.pc]) := RNp.out.stay be
    clear RNp
    have RNp := RNp'
    clear RNp'
    have RNh' : Hid (Rn v8 (some ⟨gh, 0, none⟩) 1 1 [(b2 H.halted)]) := RNh.out.stay be
    clear RNh
    have RNh := RNh'
    clear RNh'
    have RNw' : Hid (Rn v8 (some ⟨gw, 0, none⟩) 1 1 [(b2 H.waiting)]) := RNw.out.stay be
    clear RNw
    have RNw := RNw'
    clear RNw'
    have Sv8 : Hid (Below W.heap.size W v8) := on Sv7.out be
    clear be
    refine hK.out _ _ Sv8.out (fun _ => ?_)
    clear hK K
    rw [HE.out.2.2.2.1]
    refine wpAnyH_take (i := 28) (v := .string (bs B4)) rfl (by kernel_rfl) (by kernel_rfl) (by kernel_rfl) (fun _ _ _ h => h) (Or.inl ⟨by rfl, fun w' hs => by have zz := (BQ.out.2.2.1).2; rw [(BQ.out.2.2.1).1]; go_simp⟩) Sv8.out ?_
    change wpAnyH _ _ _ _ _ _ _ (Act.put _ (some 33) _) _
    simp only [Act.put, List.setIfInBounds_toArray, List.set_cons_zero, List.set_cons_succ]
    refine wpAnyH_take (i := 29) (v := .string (bs R0)) rfl (by kernel_rfl) (by kernel_rfl) (by kernel_rfl) (fun _ _ _ h => h) (Or.inl ⟨by rfl, fun w' hs => by have zz := RQ.out.2; rw [RQ.out.1]; go_simp⟩) Sv8.out ?_
    change wpAnyH _ _ _ _ _ _ _ (Act.put _ (some 34) _) _
    simp only [Act.put, List.setIfInBounds_toArray, List.set_cons_zero, List.set_cons_succ]
    refine wpAnyH_take (i := 30) (v := .string (bs R0)) rfl (by kernel_rfl) (by kernel_rfl) (by kernel_rfl) (fun _ _ _ h => h) (Or.inl ⟨by rfl, fun w' hs => by go_simp⟩) Sv8.out ?_
    change wpAnyH _ _ _ _ _ _ _ (Act.put _ (some 3) _) _
    simp only [Act.put, List.setIfInBounds_toArray, List.set_cons_zero, List.set_cons_succ]
    refine wpAnyH_done (by kernel_rfl) ?_ _
    have BX : Hid (Below W.heap.size W v8) := Sv8.out
    clear RNd RNp RNh RNw
    go_wp2_with fail
    go_loopw [3, 4] (fun u i wr => ∃ j : Nat, j ≤ 16 ∧ i = .int .i64 j ∧ u = .string (bs (R0 ++ rgW H.regs j)) ∧ Below W.heap.size W wr) (fun _ i _ => 16 - (intOf i).toNat)
    case atStart => exact ⟨0, Nat.zero_le _, rfl, by simp [rgW], BX.out⟩
    case round =>
      obtain ⟨j, hj, rfl, rfl, hB⟩ := hrel
      have HB : Hid (Below W.heap.size W wr) := hB
      have LL : Hid ((R0 ++ rgW H.regs j : List UInt8).length ≤ 2300) := by
        show _ ≤ _
        have h1 := rgW_len HK.out.rw j hj
        have h2 := RL.out
        rw [List.length_append]
        omega
      by_cases hlt : j < 16
      · have hJ : (j : Int) < 16 := by omega
        have HL : Hid (j < 16) := hlt
        have NX : Hid (rgW H.regs (j + 1) = rgW H.regs j ++ rgP H.regs j) := rfl
        obtain ⟨z, hz⟩ : ∃ z, gt H.regs j = z := ⟨_, rfl⟩
        have ZB : Hid (0 ≤ z ∧ z ≤ 4294967295) := by rw [← hz]; exact gt_word HK.out.rw j
        have CX : Hid (wr.cell? ⟨rg, j, none⟩ = some (.int .i64 z)) := by
          show _ = _
          rw [← hz]
          exact cell_keep hB (HM.out.r.cell HK.out.r16.symm j hlt)
        obtain ⟨L, hL⟩ : ∃ L, R0 ++ rgW H.regs j = L := ⟨_, rfl⟩
        have cx := CX.out
        have y0 := cell_keep hB V0.out
        by_cases h0 : z = 0
        · have EN : Hid (bs (R0 ++ rgW H.regs (j + 1)) = bs L) := by
            show _ = _
            rw [NX.out, rgP, hz, if_pos h0, List.append_nil, hL]
          rw [hL] at LL ⊢
          subst h0
          clear hlt hz hL hB hj
          go_wp2_with fail
          go_roundw
          case rel => exact ⟨j + 1, by have := HL.out; omega, by go_num, by rw [EN.out], HB.out⟩
          case measure => have := HL.out; simp [intOf]; omega
        · obtain ⟨D, hD⟩ : ∃ D, Lib.decDigits z.toNat = D := ⟨_, rfl⟩
          obtain ⟨E, hE⟩ : ∃ E, Lib.decDigits j = E := ⟨_, rfl⟩
          obtain ⟨L1, hL1⟩ : ∃ X, L ++ [32] = X := ⟨_, rfl⟩
          obtain ⟨L2, hL2⟩ : ∃ X, L1 ++ E = X := ⟨_, rfl⟩
          obtain ⟨L3, hL3⟩ : ∃ X, L2 ++ [58] = X := ⟨_, rfl⟩
          obtain ⟨L4, hL4⟩ : ∃ X, L3 ++ D = X := ⟨_, rfl⟩
          have EN : Hid (bs (R0 ++ rgW H.regs (j + 1)) = bs L4) := by
            show _ = _
            rw [NX.out, rgP, hz, if_neg h0, ← List.append_assoc, hL, hD, hE, ← hL4, ← hL3, ← hL2, ← hL1]
            congr 1
            simp
          rw [hL] at LL ⊢
          have LQ : Hid ((bs L1 = bs L ++ ⟨#[32]⟩ ∧ ¬ 9223372036854775807 < (bs L).size + 1) ∧ (bs L2 = bs L1 ++ bs E ∧ ¬ 9223372036854775807 < (bs L1).size + (bs E).size) ∧ (bs L3 = bs L2 ++ ⟨#[58]⟩ ∧ ¬ 9223372036854775807 < (bs L2).size + 1) ∧ (bs L4 = bs L3 ++ bs D ∧ ¬ 9223372036854775807 < (bs L3).size + (bs D).size)) := by
            have d1 : D.length ≤ 10 := by rw [← hD]; exact dec_len10 ZB.out.1 ZB.out.2
            have d2 : E.length ≤ 2 := by rw [← hE]; exact dec_len j 1 (by omega)
            have l0 := LL.out
            have l1 : L1.length ≤ 2310 := by rw [← hL1]; simp; omega
            have l2 : L2.length ≤ 2320 := by rw [← hL2, List.length_append]; omega
            have l3 : L3.length ≤ 2330 := by rw [← hL3]; simp; omega
            refine ⟨⟨by rw [← hL1, bs_app]; rfl, by rw [bs_size]; omega⟩, ⟨by rw [← hL2, bs_app], by rw [bs_size, bs_size]; omega⟩, ⟨by rw [← hL3, bs_app]; rfl, by rw [bs_size]; omega⟩, ⟨by rw [← hL4, bs_app], by rw [bs_size, bs_size]; omega⟩⟩
          have FE : Hid (∀ w1, Calls Tryd.prog 39 #[.int .i64 (j : Int)] w1 fun e w' => e = .returned (.string (bs E)) ∧ Below w1.heap.size w1 w') := fun w1 => by
            have t := s_digits (j : Int) (by omega) (by omega) w1
            rw [show ((j : Int)).toNat = j by omega, hE] at t
            exact t
          have FD : Hid (∀ w1, Calls Tryd.prog 39 #[.int .i64 z] w1 fun e w' => e = .returned (.string (bs D)) ∧ Below w1.heap.size w1 w') := fun w1 => by
            have t := s_digits z ZB.out.1 ZB.out.2 w1
            rw [hD] at t
            exact t
          clear hlt hz hL hB hj hD hE hL1 hL2 hL3 hL4
          go_wp2_with fail
          clear cx y0
          refine wp_region_held (S := fun w' => Below wr.heap.size wr w') (by kernel_rfl) ?_
          change wpAnyH _ _ _ _ _ _ _ _ (World.drew _)
          have SD : Hid (Below wr.heap.size wr wr.drew) := (Below.refl _ _).drew
          generalize wr.drew = x0 at *
          refine wpAnyH_take (i := 0) (v := .string (bs L)) rfl (by kernel_rfl) (by kernel_rfl) (by kernel_rfl) (fun _ _ _ h => h) (Or.inl ⟨by rfl, fun w' hs => by go_simp⟩) SD.out ?_
          change wpAnyH _ _ _ _ _ _ _ (Act.put _ (some 47) _) _
          simp only [Act.put, List.setIfInBounds_toArray, List.set_cons_zero, List.set_cons_succ]
          refine wpAnyH_take (i := 1) (v := .string (bs L1)) rfl (by kernel_rfl) (by kernel_rfl) (by kernel_rfl) (fun _ _ _ h => h) (Or.inl ⟨by rfl, fun w' hs => by have zz := LQ.out.1.2; have zy := LQ.out.1.2; rw [LQ.out.1.1]; go_simp⟩) SD.out ?_
          change wpAnyH _ _ _ _ _ _ _ (Act.put _ (some 48) _) _
          simp only [Act.put, List.setIfInBounds_toArray, List.set_cons_zero, List.set_cons_succ]
          refine wpAnyH_take (i := 2) (v := .int .i64 (j : Int)) rfl (by kernel_rfl) (by kernel_rfl) (by kernel_rfl) (fun _ _ _ h => h) (Or.inl ⟨by rfl, fun w' hs => by go_simp⟩) SD.out ?_
          change wpAnyH _ _ _ _ _ _ _ (Act.put _ (some 49) _) _
          simp only [Act.put, List.setIfInBounds_toArray, List.set_cons_zero, List.set_cons_succ]
          refine wpAnyH_take (i := 6) (v := .pointer (some ⟨q, 0, none⟩)) rfl (by kernel_rfl) (by kernel_rfl) (by kernel_rfl) (fun _ _ _ h => h) (Or.inl ⟨by rfl, fun w' hs => by go_simp⟩) SD.out ?_
          change wpAnyH _ _ _ _ _ _ _ (Act.put _ (some 53) _) _
          simp only [Act.put, List.setIfInBounds_toArray, List.set_cons_zero, List.set_cons_succ]
          refine wpAnyH_take (i := 7) (v := .pointer (some ⟨q, 0, none⟩)) rfl (by kernel_rfl) (by kernel_rfl) (by kernel_rfl) (fun _ _ _ h => h) (Or.inl ⟨by rfl, fun w' hs => by go_simp⟩) SD.out ?_
          change wpAnyH _ _ _ _ _ _ _ (Act.put _ (some 54) _) _
          simp only [Act.put, List.setIfInBounds_toArray, List.set_cons_zero, List.set_cons_succ]
          refine wpAnyH_take (i := 8) (v := .pointer (some ⟨q, 0, none⟩)) rfl (by kernel_rfl) (by kernel_rfl) (by kernel_rfl) (fun _ _ _ h => h) (Or.inl ⟨by rfl, fun w' hs => by go_simp⟩) SD.out ?_
          change wpAnyH _ _ _ _ _ _ _ (Act.put _ (some 55) _) _
          simp only [Act.put, List.setIfInBounds_toArray, List.set_cons_zero, List.set_cons_succ]
          refine wpAnyH_take (i := 9) (v := .slice (some ⟨rg, 0, none⟩) 16 rk) rfl (by kernel_rfl) (by kernel_rfl) (by kernel_rfl) (fun _ _ _ h => h) (Or.inl ⟨by rfl, fun w' hs => by have y0 := cell_keep hs (cell_keep HB.out V0.out); go_simp⟩) SD.out ?_
          change wpAnyH _ _ _ _ _ _ _ (Act.put _ (some 56) _) _
          simp only [Act.put, List.setIfInBounds_toArray, List.set_cons_zero, List.set_cons_succ]
          refine wpAnyH_take (i := 10) (v := .int .i64 (j : Int)) rfl (by kernel_rfl) (by kernel_rfl) (by kernel_rfl) (fun _ _ _ h => h) (Or.inl ⟨by rfl, fun w' hs => by go_simp⟩) SD.out ?_
          change wpAnyH _ _ _ _ _ _ _ (Act.put _ (some 57) _) _
          simp only [Act.put, List.setIfInBounds_toArray, List.set_cons_zero, List.set_cons_succ]
          refine wpAnyH_take (i := 11) (v := .pointer (some ⟨rg, j, none⟩)) rfl (by kernel_rfl) (by kernel_rfl) (by kernel_rfl) (fun _ _ _ h => h) (Or.inl ⟨by rfl, fun w' hs => by go_simp⟩) SD.out ?_
          change wpAnyH _ _ _ _ _ _ _ (Act.put _ (some 58) _) _
          simp only [Act.put, List.setIfInBounds_toArray, List.set_cons_zero, List.set_cons_succ]
          refine wpAnyH_take (i := 12) (v := .int .i64 z) rfl (by kernel_rfl) (by kernel_rfl) (by kernel_rfl) (fun _ _ _ h => h) (Or.inl ⟨by rfl, fun w' hs => by have y1 := cell_keep hs CX.out; go_simp⟩) SD.out ?_
          change wpAnyH _ _ _ _ _ _ _ (Act.put _ (some 59) _) _
          simp only [Act.put, List.setIfInBounds_toArray, List.set_cons_zero, List.set_cons_succ]
          refine wpAnyH_ready (rs := [3]) (by kernel_rfl) (by simp) ?_
          refine AllReadyH.cons rfl (fun K hK => ?_) AllReadyH.nil
          rw [if_pos (by rfl)]
          go_simp
          refine (FE.out _).mono ?_
          rintro e x1 ⟨rfl, b1⟩
          have S1 : Hid (Below wr.heap.size wr x1) := on SD.out b1
          clear b1
          refine hK.out _ _ S1.out (fun _ => ?_)
          clear hK K
          refine wpAnyH_take (i := 4) (v := .string (bs L2)) rfl (by kernel_rfl) (by kernel_rfl) (by kernel_rfl) (fun _ _ _ h => h) (Or.inl ⟨by rfl, fun w' hs => by have zz := LQ.out.2.1.2; rw [LQ.out.2.1.1]; go_simp⟩) S1.out ?_
          change wpAnyH _ _ _ _ _ _ _ (Act.put _ (some 51) _) _
          simp only [Act.put, List.setIfInBounds_toArray, List.set_cons_zero, List.set_cons_succ]
          refine wpAnyH_take (i := 5) (v := .string (bs L3)) rfl (by kernel_rfl) (by kernel_rfl) (by kernel_rfl) (fun _ _ _ h => h) (Or.inl ⟨by rfl, fun w' hs => by have zz := LQ.out.2.2.1.2; rw [LQ.out.2.2.1.1]; go_simp⟩) S1.out ?_
          change wpAnyH _ _ _ _ _ _ _ (Act.put _ (some 52) _) _
          simp only [Act.put, List.setIfInBounds_toArray, List.set_cons_zero, List.set_cons_succ]
          refine wpAnyH_ready (rs := [13]) (by kernel_rfl) (by simp) ?_
          refine AllReadyH.cons rfl (fun K hK => ?_) AllReadyH.nil
          rw [if_pos (by rfl)]
          go_simp
          refine (FD.out _).mono ?_
          rintro e x2 ⟨rfl, b2⟩
          have S2 : Hid (Below wr.heap.size wr x2) := on S1.out b2
          clear b2
          refine hK.out _ _ S2.out (fun _ => ?_)
          clear hK K
          refine wpAnyH_take (i := 14) (v := .string (bs L4)) rfl (by kernel_rfl) (by kernel_rfl) (by kernel_rfl) (fun _ _ _ h => h) (Or.inl ⟨by rfl, fun w' hs => by have zz := LQ.out.2.2.2.2; rw [LQ.out.2.2.2.1]; go_simp⟩) S2.out ?_
          change wpAnyH _ _ _ _ _ _ _ (Act.put _ (some 61) _) _
          simp only [Act.put, List.setIfInBounds_toArray, List.set_cons_zero, List.set_cons_succ]
          refine wpAnyH_take (i := 15) (v := .string (bs L4)) rfl (by kernel_rfl) (by kernel_rfl) (by kernel_rfl) (fun _ _ _ h => h) (Or.inl ⟨by rfl, fun w' hs => by go_simp⟩) S2.out ?_
          change wpAnyH _ _ _ _ _ _ _ (Act.put _ (some 3) _) _
          simp only [Act.put, List.setIfInBounds_toArray, List.set_cons_zero, List.set_cons_succ]
          refine wpAnyH_done (by kernel_rfl) ?_ _
          go_wp2_with fail
          go_roundw
          case rel => exact ⟨j + 1, by have := HL.out; omega, by go_num, by rw [EN.out], on HB.out S2.out⟩
          case measure => have := HL.out; simp [intOf]; omega
      · have hJ : ¬ (j : Int) < 16 := by omega
        obtain rfl : j = 16 := by omega
        obtain ⟨X, hX⟩ : ∃ X, R0 ++ rgW H.regs 16 = X := ⟨_, rfl⟩
        have EX := TX.out X hX
        rw [hX] at LL ⊢
        have al := AL.out
        have l0 := LL.out
        rw [bs_app (X ++ [10]) A6, bs_app X [10]] at EX
        have EN : Hid ((bs X ++ ⟨#[10]⟩) ++ bs A6 = V) := EX
        have z1 : ¬ 9223372036854775807 < (bs X).size + 1 := by rw [bs_size]; omega
        have z2 : ¬ 9223372036854775807 ≤ (bs X).size := by rw [bs_size]; omega
        have z3 : ¬ 9223372036854775807 < (bs X ++ (⟨#[10]⟩ : ByteArray)).size + (bs A6).size := by rw [show (⟨#[10]⟩ : ByteArray) = bs [10] from rfl, ← bs_app, bs_size, bs_size]; simp; omega
        have z4 : ¬ 9223372036854775807 < (bs X).size + 1 + (bs A6).size := by rw [bs_size, bs_size]; omega
        have y8 := cell_keep hB V8.out
        have CL := s_line [111, 117, 116] xo no ko H.out wr (HM.out.o.rn.stay hB) HK.out.ow NO.out (by decide)
        rw [HE.out.2.2.2.2.2] at CL
        clear hlt hj hX EX al l0 hB
        generalize bs X = SX at *
        generalize bs A6 = SA at *
        go_wp2_with (go_at_call 32; refine CL.mono ?_; clear CL; rintro e x1 ⟨rfl, b1⟩)
        go_ret
        exact ⟨by rw [← EN.out]; rfl, on B0.out (on HB.out b1)⟩
end Go.Proofs.YtcneipilhlcfkaaDoor
