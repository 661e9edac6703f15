/- The lines of a machine, by the program. -/
import Derived.Test.YtcneipilhlcfkaaDoorSti
namespace Go.Proofs.YtcneipilhlcfkaaDoor
open Go.RowKit
set_option linter.unusedVariables false

theorem done_word {H : Ht} (k : Hok H) : isW H.done = true := by
  have h0 := k.d0
  have h1 := k.d9
  rw [isW_iff]
  omega
set_option maxRecDepth 20000 in
set_option maxHeartbeats 8000000 in
theorem i_linesM (q : Nat) (H : Ht) (xi : Option Addr) (ni ki : Nat) (xo : Option Addr) (no ko : Nat) (w : World) (hv : Vb w q (mca H (.slice xi ni ki) (.slice xo no ko)) 63) (hk : Hok H) (ho : Rn w xo no ko H.out) (ht : Lib.TabIs Tryd.prog w "internal/strconv.uint64pow10" .u64 Lib.pow10Tab) :
    Calls Tryd.prog 26 #[.pointer (some ⟨q, 0, none⟩)] w fun e w' => e = .returned (.string (bs (textW H))) ∧ Below w.heap.size w w' := by
  obtain ⟨V, hV⟩ : ∃ V, bs (textW H) = V := ⟨_, rfl⟩
  rw [hV]
  have HK : Hid (Hok H) := hk
  have DW : Hid (isW H.done = true) := done_word hk
  have NO : Hid (no ≤ 40) := by have := ho.len; have := hk.o40; show _ ≤ _; omega
  obtain ⟨A1, hA1⟩ : ∃ A, nlW [112, 99] [H.pc] = A := ⟨_, rfl⟩
  obtain ⟨A2, hA2⟩ : ∃ A, nlW [100, 111, 110, 101] [H.done] = A := ⟨_, rfl⟩
  obtain ⟨A3, hA3⟩ : ∃ A, nlW [104, 97, 108, 116, 101, 100] [b2 H.halted] = A := ⟨_, rfl⟩
  obtain ⟨A4, hA4⟩ : ∃ A, nlW [119, 97, 105, 116, 105, 110, 103] [b2 H.waiting] = A := ⟨_, rfl⟩
  obtain ⟨A5, hA5⟩ : ∃ A, regsW H.regs = A := ⟨_, rfl⟩
  obtain ⟨A6, hA6⟩ : ∃ A, nlW [111, 117, 116] H.out = A := ⟨_, rfl⟩
  obtain ⟨B2, hB2⟩ : ∃ B, A1 ++ A2 = B := ⟨_, rfl⟩
  obtain ⟨B3, hB3⟩ : ∃ B, B2 ++ A3 = B := ⟨_, rfl⟩
  obtain ⟨B4, hB4⟩ : ∃ B, B3 ++ A4 = B := ⟨_, rfl⟩
  obtain ⟨B5, hB5⟩ : ∃ B, B4 ++ A5 = B := ⟨_, rfl⟩
  obtain ⟨B6, hB6⟩ : ∃ B, B5 ++ A6 = B := ⟨_, rfl⟩
  have EV : Hid (bs B6 = V) := by show _ = _; rw [← hV, textW, headW, hA1, hA2, hA3, hA4, hA5, hA6, hB2, hB3, hB4, hB5, hB6]
  have AL : Hid (A1.length ≤ 500 ∧ A2.length ≤ 500 ∧ A3.length ≤ 500 ∧ A4.length ≤ 500 ∧ A5.length ≤ 500 ∧ A6.length ≤ 500) := by
    refine ⟨?_, ?_, ?_, ?_, ?_, ?_⟩
    · rw [← hA1]; exact nl_len (by simp [HK.out.pw]) (by simp) (by decide)
    · rw [← hA2]; exact nl_len (by simp [DW.out]) (by simp) (by decide)
    · rw [← hA3]; exact nl_len (by simp [b2_word]) (by simp) (by decide)
    · rw [← hA4]; exact nl_len (by simp [b2_word]) (by simp) (by decide)
    · rw [← hA5]
      have := rgW_len HK.out.rw 16 (by decide)
      simp only [regsW, List.length_append, List.length_cons, List.length_nil]
      omega
    · rw [← hA6]; exact nl_len HK.out.ow (by have := HK.out.o40; omega) (by decide)
  have SZ : Hid (∀ l : List UInt8, l.length ≤ 4000 → ∀ m : List UInt8, m.length ≤ 4000 → ¬ 9223372036854775807 < (bs l).size + (bs m).size) := fun l hl m hm => by rw [bs_size, bs_size]; omega
  have HE : Hid (nlW [112, 99] [H.pc] = A1 ∧ nlW [100, 111, 110, 101] [H.done] = A2 ∧ nlW [104, 97, 108, 116, 101, 100] [b2 H.halted] = A3 ∧ nlW [119, 97, 105, 116, 105, 110, 103] [b2 H.waiting] = A4 ∧ regsW H.regs = A5 ∧ nlW [111, 117, 116] H.out = A6) := ⟨hA1, hA2, hA3, hA4, hA5, hA6⟩
  clear hA1 hA2 hA3 hA4 hA5 hA6
  have BQ : Hid ((bs B2 = bs A1 ++ bs A2 ∧ ¬ 9223372036854775807 < (bs A1).size + (bs A2).size) ∧ (bs B3 = bs B2 ++ bs A3 ∧ ¬ 9223372036854775807 < (bs B2).size + (bs A3).size) ∧ (bs B4 = bs B3 ++ bs A4 ∧ ¬ 9223372036854775807 < (bs B3).size + (bs A4).size) ∧ (bs B5 = bs B4 ++ bs A5 ∧ ¬ 9223372036854775807 < (bs B4).size + (bs A5).size) ∧ (bs B6 = bs B5 ++ bs A6 ∧ ¬ 9223372036854775807 < (bs B5).size + (bs A6).size) ∧ True) := by
    have al := AL.out
    have l2 : B2.length ≤ 1000 := by rw [← hB2, List.length_append]; omega
    have l3 : B3.length ≤ 1500 := by rw [← hB3, List.length_append]; omega
    have l4 : B4.length ≤ 2000 := by rw [← hB4, List.length_append]; omega
    have l5 : B5.length ≤ 2500 := by rw [← hB5, List.length_append]; omega
    have l6 : B6.length ≤ 3000 := by rw [← hB6, List.length_append]; omega
    exact ⟨⟨by rw [← hB2, bs_app], by rw [bs_size, bs_size]; omega⟩, ⟨by rw [← hB3, bs_app], by rw [bs_size, bs_size]; omega⟩, ⟨by rw [← hB4, bs_app], by rw [bs_size, bs_size]; omega⟩, ⟨by rw [← hB5, bs_app], by rw [bs_size, bs_size]; omega⟩, ⟨by rw [← hB6, bs_app], by rw [bs_size, bs_size]; omega⟩, trivial⟩
  clear hB2 hB3 hB4 hB5 hB6
  obtain ⟨W, hW⟩ : ∃ W, w = W := ⟨_, rfl⟩
  have Q : Hid (Vb W q (mca H (.slice xi ni ki) (.slice xo no ko)) 63) := by rw [← hW]; exact hv
  have HO : Hid (Rn W xo no ko H.out) := by rw [← hW]; exact ho
  have HT : Hid (Lib.TabIs Tryd.prog W "internal/strconv.uint64pow10" .u64 Lib.pow10Tab) := by rw [← hW]; exact ht
  have B0 : Hid (Below w.heap.size w W) := by rw [← hW]; exact Below.refl _ _
  clear hV hv hk ho ht
  go_enter Tryd.func26, Tryd.ntmps26
  go_upto_region 1 with fail
  rw [hW]
  have Sv0 : Hid (Below W.heap.size W W.drew) := (Below.refl _ _).drew
  refine wp_region_held (S := fun w' => Below W.heap.size W w') (by kernel_rfl) ?_
  change wpAnyH _ _ _ _ _ _ _ _ (World.drew _)
  generalize W.drew = v0 at *
  refine wpAnyH_take (i := 0) (v := .pointer (some ⟨q, 0, none⟩)) rfl (by kernel_rfl) (by kernel_rfl) (by kernel_rfl) (fun _ _ _ h => h) (Or.inl ⟨by rfl, fun w' hs => by go_simp⟩) Sv0.out ?_
  change wpAnyH _ _ _ _ _ _ _ (Act.put _ (some 3) _) _
  simp only [Act.put, List.setIfInBounds_toArray, List.set_cons_zero, List.set_cons_succ]
  refine wpAnyH_take (i := 1) (v := .pointer (some ⟨q, 0, none⟩)) rfl (by kernel_rfl) (by kernel_rfl) (by kernel_rfl) (fun _ _ _ h => h) (Or.inl ⟨by rfl, fun w' hs => by go_simp⟩) Sv0.out ?_
  change wpAnyH _ _ _ _ _ _ _ (Act.put _ (some 4) _) _
  simp only [Act.put, List.setIfInBounds_toArray, List.set_cons_zero, List.set_cons_succ]
  refine wpAnyH_take (i := 2) (v := .pointer (some ⟨q, 0, none⟩)) rfl (by kernel_rfl) (by kernel_rfl) (by kernel_rfl) (fun _ _ _ h => h) (Or.inl ⟨by rfl, fun w' hs => by go_simp⟩) Sv0.out ?_
  change wpAnyH _ _ _ _ _ _ _ (Act.put _ (some 5) _) _
  simp only [Act.put, List.setIfInBounds_toArray, List.set_cons_zero, List.set_cons_succ]
  refine wpAnyH_take (i := 3) (v := .pointer (some ⟨q, 16, none⟩)) rfl (by kernel_rfl) (by kernel_rfl) (by kernel_rfl) (fun _ _ _ h => h) (Or.inl ⟨by rfl, fun w' hs => by go_simp⟩) Sv0.out ?_
  change wpAnyH _ _ _ _ _ _ _ (Act.put _ (some 6) _) _
  simp only [Act.put, List.setIfInBounds_toArray, List.set_cons_zero, List.set_cons_succ]
  refine wpAnyH_take (i := 4) (v := .int .i64 H.pc) rfl (by kernel_rfl) (by kernel_rfl) (by kernel_rfl) (fun _ _ _ h => h) (Or.inl ⟨by rfl, fun w' hs => by have hq := Q.out.keep hs; have y16 : w'.cell? ⟨q, 16, none⟩ = some (.int .i64 H.pc) := hq.cell 16 rfl; go_simp⟩) Sv0.out ?_
  change wpAnyH _ _ _ _ _ _ _ (Act.put _ (some 7) _) _
  simp only [Act.put, List.setIfInBounds_toArray, List.set_cons_zero, List.set_cons_succ]
  refine wpAnyH_take (i := 7) (v := .pointer (some ⟨q, 0, none⟩)) rfl (by kernel_rfl) (by kernel_rfl) (by kernel_rfl) (fun _ _ _ h => h) (Or.inl ⟨by rfl, fun w' hs => by go_simp⟩) Sv0.out ?_
  change wpAnyH _ _ _ _ _ _ _ (Act.put _ (some 10) _) _
  simp only [Act.put, List.setIfInBounds_toArray, List.set_cons_zero, List.set_cons_succ]
  refine wpAnyH_take (i := 8) (v := .pointer (some ⟨q, 0, none⟩)) rfl (by kernel_rfl) (by kernel_rfl) (by kernel_rfl) (fun _ _ _ h => h) (Or.inl ⟨by rfl, fun w' hs => by go_simp⟩) Sv0.out ?_
  change wpAnyH _ _ _ _ _ _ _ (Act.put _ (some 11) _) _
  simp only [Act.put, List.setIfInBounds_toArray, List.set_cons_zero, List.set_cons_succ]
  refine wpAnyH_take (i := 9) (v := .pointer (some ⟨q, 31, none⟩)) rfl (by kernel_rfl) (by kernel_rfl) (by kernel_rfl) (fun _ _ _ h => h) (Or.inl ⟨by rfl, fun w' hs => by go_simp⟩) Sv0.out ?_
  change wpAnyH _ _ _ _ _ _ _ (Act.put _ (some 12) _) _
  simp only [Act.put, List.setIfInBounds_toArray, List.set_cons_zero, List.set_cons_succ]
  refine wpAnyH_take (i := 10) (v := .int .i64 H.done) rfl (by kernel_rfl) (by kernel_rfl) (by kernel_rfl) (fun _ _ _ h => h) (Or.inl ⟨by rfl, fun w' hs => by have hq := Q.out.keep hs; have y31 : w'.cell? ⟨q, 31, none⟩ = some (.int .i64 H.done) := hq.cell 31 rfl; go_simp⟩) Sv0.out ?_
  change wpAnyH _ _ _ _ _ _ _ (Act.put _ (some 13) _) _
  simp only [Act.put, List.setIfInBounds_toArray, List.set_cons_zero, List.set_cons_succ]
  refine wpAnyH_take (i := 14) (v := .pointer (some ⟨q, 0, none⟩)) rfl (by kernel_rfl) (by kernel_rfl) (by kernel_rfl) (fun _ _ _ h => h) (Or.inl ⟨by rfl, fun w' hs => by go_simp⟩) Sv0.out ?_
  change wpAnyH _ _ _ _ _ _ _ (Act.put _ (some 17) _) _
  simp only [Act.put, List.setIfInBounds_toArray, List.set_cons_zero, List.set_cons_succ]
  refine wpAnyH_take (i := 15) (v := .pointer (some ⟨q, 0, none⟩)) rfl (by kernel_rfl) (by kernel_rfl) (by kernel_rfl) (fun _ _ _ h => h) (Or.inl ⟨by rfl, fun w' hs => by go_simp⟩) Sv0.out ?_
  change wpAnyH _ _ _ _ _ _ _ (Act.put _ (some 18) _) _
  simp only [Act.put, List.setIfInBounds_toArray, List.set_cons_zero, List.set_cons_succ]
  refine wpAnyH_take (i := 16) (v := .pointer (some ⟨q, 28, none⟩)) rfl (by kernel_rfl) (by kernel_rfl) (by kernel_rfl) (fun _ _ _ h => h) (Or.inl ⟨by rfl, fun w' hs => by go_simp⟩) Sv0.out ?_
  change wpAnyH _ _ _ _ _ _ _ (Act.put _ (some 19) _) _
  simp only [Act.put, List.setIfInBounds_toArray, List.set_cons_zero, List.set_cons_succ]
  refine wpAnyH_take (i := 17) (v := .bool H.halted) rfl (by kernel_rfl) (by kernel_rfl) (by kernel_rfl) (fun _ _ _ h => h) (Or.inl ⟨by rfl, fun w' hs => by have hq := Q.out.keep hs; have y28 : w'.cell? ⟨q, 28, none⟩ = some (.bool H.halted) := hq.cell 28 rfl; go_simp⟩) Sv0.out ?_
  change wpAnyH _ _ _ _ _ _ _ (Act.put _ (some 20) _) _
  simp only [Act.put, List.setIfInBounds_toArray, List.set_cons_zero, List.set_cons_succ]
  refine wpAnyH_take (i := 22) (v := .pointer (some ⟨q, 0, none⟩)) rfl (by kernel_rfl) (by kernel_rfl) (by kernel_rfl) (fun _ _ _ h => h) (Or.inl ⟨by rfl, fun w' hs => by go_simp⟩) Sv0.out ?_
  change wpAnyH _ _ _ _ _ _ _ (Act.put _ (some 25) _) _
  simp only [Act.put, List.setIfInBounds_toArray, List.set_cons_zero, List.set_cons_succ]
  refine wpAnyH_take (i := 23) (v := .pointer (some ⟨q, 0, none⟩)) rfl (by kernel_rfl) (by kernel_rfl) (by kernel_rfl) (fun _ _ _ h => h) (Or.inl ⟨by rfl, fun w' hs => by go_simp⟩) Sv0.out ?_
  change wpAnyH _ _ _ _ _ _ _ (Act.put _ (some 26) _) _
  simp only [Act.put, List.setIfInBounds_toArray, List.set_cons_zero, List.set_cons_succ]
  refine wpAnyH_take (i := 24) (v := .pointer (some ⟨q, 29, none⟩)) rfl (by kernel_rfl) (by kernel_rfl) (by kernel_rfl) (fun _ _ _ h => h) (Or.inl ⟨by rfl, fun w' hs => by go_simp⟩) Sv0.out ?_
  change wpAnyH _ _ _ _ _ _ _ (Act.put _ (some 27) _) _
  simp only [Act.put, List.setIfInBounds_toArray, List.set_cons_zero, List.set_cons_succ]
  refine wpAnyH_take (i := 25) (v := .bool H.waiting) rfl (by kernel_rfl) (by kernel_rfl) (by kernel_rfl) (fun _ _ _ h => h) (Or.inl ⟨by rfl, fun w' hs => by have hq := Q.out.keep hs; have y29 : w'.cell? ⟨q, 29, none⟩ = some (.bool H.waiting) := hq.cell 29 rfl; go_simp⟩) Sv0.out ?_
  change wpAnyH _ _ _ _ _ _ _ (Act.put _ (some 28) _) _
  simp only [Act.put, List.setIfInBounds_toArray, List.set_cons_zero, List.set_cons_succ]
  refine wpAnyH_take (i := 30) (v := .pointer (some ⟨q, 0, none⟩)) rfl (by kernel_rfl) (by kernel_rfl) (by kernel_rfl) (fun _ _ _ h => h) (Or.inl ⟨by rfl, fun w' hs => by go_simp⟩) Sv0.out ?_
  change wpAnyH _ _ _ _ _ _ _ (Act.put _ (some 33) _) _
  simp only [Act.put, List.setIfInBounds_toArray, List.set_cons_zero, List.set_cons_succ]
  refine wpAnyH_take (i := 31) (v := .pointer (some ⟨q, 0, none⟩)) rfl (by kernel_rfl) (by kernel_rfl) (by kernel_rfl) (fun _ _ _ h => h) (Or.inl ⟨by rfl, fun w' hs => by go_simp⟩) Sv0.out ?_
  change wpAnyH _ _ _ _ _ _ _ (Act.put _ (some 34) _) _
  simp only [Act.put, List.setIfInBounds_toArray, List.set_cons_zero, List.set_cons_succ]
  refine wpAnyH_take (i := 32) (v := .pointer (some ⟨q, 0, none⟩)) rfl (by kernel_rfl) (by kernel_rfl) (by kernel_rfl) (fun _ _ _ h => h) (Or.inl ⟨by rfl, fun w' hs => by go_simp⟩) Sv0.out ?_
  change wpAnyH _ _ _ _ _ _ _ (Act.put _ (some 35) _) _
  simp only [Act.put, List.setIfInBounds_toArray, List.set_cons_zero, List.set_cons_succ]
  refine wpAnyH_take (i := 35) (v := .pointer (some ⟨q, 0, none⟩)) rfl (by kernel_rfl) (by kernel_rfl) (by kernel_rfl) (fun _ _ _ h => h) (Or.inl ⟨by rfl, fun w' hs => by go_simp⟩) Sv0.out ?_
  change wpAnyH _ _ _ _ _ _ _ (Act.put _ (some 38) _) _
  simp only [Act.put, List.setIfInBounds_toArray, List.set_cons_zero, List.set_cons_succ]
  refine wpAnyH_take (i := 36) (v := .pointer (some ⟨q, 0, none⟩)) rfl (by kernel_rfl) (by kernel_rfl) (by kernel_rfl) (fun _ _ _ h => h) (Or.inl ⟨by rfl, fun w' hs => by go_simp⟩) Sv0.out ?_
  change wpAnyH _ _ _ _ _ _ _ (Act.put _ (some 39) _) _
  simp only [Act.put, List.setIfInBounds_toArray, List.set_cons_zero, List.set_cons_succ]
  refine wpAnyH_take (i := 37) (v := .pointer (some ⟨q, 33, none⟩)) rfl (by kernel_rfl) (by kernel_rfl) (by kernel_rfl) (fun _ _ _ h => h) (Or.inl ⟨by rfl, fun w' hs => by go_simp⟩) Sv0.out ?_
  change wpAnyH _ _ _ _ _ _ _ (Act.put _ (some 40) _) _
  simp only [Act.put, List.setIfInBounds_toArray, List.set_cons_zero, List.set_cons_succ]
  refine wpAnyH_take (i := 38) (v := .slice xo no ko) rfl (by kernel_rfl) (by kernel_rfl) (by kernel_rfl) (fun _ _ _ h => h) (Or.inl ⟨by rfl, fun w' hs => by have hq := Q.out.keep hs; have y33 : w'.cell? ⟨q, 33, none⟩ = some (.slice xo no ko) := hq.cell 33 rfl; go_simp⟩) Sv0.out ?_
  change wpAnyH _ _ _ _ _ _ _ (Act.put _ (some 41) _) _
  simp only [Act.put, List.setIfInBounds_toArray, List.set_cons_zero, List.set_cons_succ]
  refine wpAnyH_ready (rs := [5, 11]) (by kernel_rfl) (by simp) ?_
  refine AllReadyH.cons rfl (fun K hK => ?_) (AllReadyH.cons rfl (fun K hK => ?_) AllReadyH.nil)
  · skip
    rw [if_pos (by rfl)]
    go_simp
    have be : Below v0.heap.size v0 (v0.alloc (.cells #[.int .i64 H.pc] 2)) := al (Below.refl _ _) _
    have RNp : Hid (Rn (v0.alloc (.cells #[.int .i64 H.pc] 2)) (some ⟨v0.heap.size, 0, none⟩) 1 1 [H.pc]) := one_rn v0 H.pc rfl
    have Sv1 : Hid (Below W.heap.size W (v0.alloc (.cells #[.int .i64 H.pc] 2))) := on Sv0.out be
    clear be
    generalize (v0.alloc (.cells #[.int .i64 H.pc] 2)) = v1 at *
    generalize v0.heap.size = gp at *
    refine hK.out _ _ Sv1.out (fun _ => ?_)
    clear hK K
    refine wpAnyH_ready (rs := [6, 11]) (by kernel_rfl) (by simp) ?_
    refine AllReadyH.cons rfl (fun K hK => ?_) (AllReadyH.cons rfl (fun K hK => ?_) AllReadyH.nil)
    · skip
      rw [if_pos (by rfl)]
      go_simp
      refine (i_numbers [112, 99] _ _ _ [H.pc] v1 RNp.out (by simp [HK.out.pw]) (by decide) (by decide) (Lib.tabBelow_of_tabIs HT.out _ Sv1.out)).mono ?_
      rintro e v2 ⟨rfl, be⟩
      have RNp' : Hid (Rn v2 (some ⟨gp, 0, none⟩) 1 1 [H.pc]) := RNp.out.stay be
      clear RNp
      have RNp := RNp'
      clear RNp'
      have Sv2 : Hid (Below W.heap.size W v2) := on Sv1.out be
      clear be
      refine hK.out _ _ Sv2.out (fun _ => ?_)
      clear hK K
      refine wpAnyH_ready (rs := [11]) (by kernel_rfl) (by simp) ?_
      refine AllReadyH.cons rfl (fun K hK => ?_) AllReadyH.nil
      rw [if_pos (by rfl)]
      go_simp
      have be : Below v2.heap.size v2 (v2.alloc (.cells #[.int .i64 H.done] 2)) := al (Below.refl _ _) _
      have RNd : Hid (Rn (v2.alloc (.cells #[.int .i64 H.done] 2)) (some ⟨v2.heap.size, 0, none⟩) 1 1 [H.done]) := one_rn v2 H.done rfl
      have RNp' : Hid (Rn (v2.alloc (.cells #[.int .i64 H.done] 2)) (some ⟨gp, 0, none⟩) 1 1 [H.pc]) := RNp.out.stay be
      clear RNp
      have RNp := RNp'
      clear RNp'
      have Sv3 : Hid (Below W.heap.size W (v2.alloc (.cells #[.int .i64 H.done] 2))) := on Sv2.out be
      clear be
      generalize (v2.alloc (.cells #[.int .i64 H.done] 2)) = v3 at *
      generalize v2.heap.size = gd at *
      refine hK.out _ _ Sv3.out (fun _ => ?_)
      clear hK K
      refine wpAnyH_ready (rs := [12]) (by kernel_rfl) (by simp) ?_
      refine AllReadyH.cons rfl (fun K hK => ?_) AllReadyH.nil
      rw [if_pos (by rfl)]
      go_simp
      refine (i_numbers [100, 111, 110, 101] _ _ _ [H.done] v3 RNd.out (by simp [DW.out]) (by decide) (by decide) (Lib.tabBelow_of_tabIs HT.out _ Sv3.out)).mono ?_
      rintro e v4 ⟨rfl, be⟩
      have RNp' : Hid (Rn v4 (some ⟨gp, 0, none⟩) 1 1 [H.pc]) := RNp.out.stay be
      clear RNp
      have RNp := RNp'
      clear RNp'
      have RNd' : Hid (Rn v4 (some ⟨gd, 0, none⟩) 1 1 [H.done]) := RNd.out.stay be
      clear RNd
      have RNd := RNd'
      clear RNd'
      have Sv4 : Hid (Below W.heap.size W v4) := on Sv3.out be
      clear be
      refine hK.out _ _ Sv4.out (fun _ => ?_)
      clear hK K
      rw [HE.out.1, HE.out.2.1]
      refine wpAnyH_take (i := 13) (v := .string (bs B2)) rfl (by kernel_rfl) (by kernel_rfl) (by kernel_rfl) (fun _ _ _ h => h) (Or.inl ⟨by rfl, fun w' hs => by have zz := (BQ.out.1).2; rw [(BQ.out.1).1]; go_simp⟩) Sv4.out ?_
      change wpAnyH _ _ _ _ _ _ _ (Act.put _ (some 16) _) _
      simp only [Act.put, List.setIfInBounds_toArray, List.set_cons_zero, List.set_cons_succ]
      refine wpAnyH_ready (rs := [18]) (by kernel_rfl) (by simp) ?_
      refine AllReadyH.cons rfl (fun K hK => ?_) AllReadyH.nil
      rw [if_pos (by rfl)]
      go_simp
      refine (i_oneIf H.halted v4).mono ?_
      rintro e y ⟨rfl, hy⟩
      rw [hy]
      clear hy y
      refine hK.out _ _ Sv4.out (fun _ => ?_)
      clear hK K
      refine wpAnyH_ready (rs := [19]) (by kernel_rfl) (by simp) ?_
      refine AllReadyH.cons rfl (fun K hK => ?_) AllReadyH.nil
      rw [if_pos (by rfl)]
      go_simp
      have be : Below v4.heap.size v4 (v4.alloc (.cells #[.int .i64 (b2 H.halted)] 2)) := al (Below.refl _ _) _
      have RNh : Hid (Rn (v4.alloc (.cells #[.int .i64 (b2 H.halted)] 2)) (some ⟨v4.heap.size, 0, none⟩) 1 1 [(b2 H.halted)]) := one_rn v4 (b2 H.halted) rfl
      have RNp' : Hid (Rn (v4.alloc (.cells #[.int .i64 (b2 H.halted)] 2)) (some ⟨gp, 0, none⟩) 1 1 [H.pc]) := RNp.out.stay be
      clear RNp
      have RNp := RNp'
      clear RNp'
      have RNd' : Hid (Rn (v4.alloc (.cells #[.int .i64 (b2 H.halted)] 2)) (some ⟨gd, 0, none⟩) 1 1 [H.done]) := RNd.out.stay be
      clear RNd
      have RNd := RNd'
      clear RNd'
      have Sv5 : Hid (Below W.heap.size W (v4.alloc (.cells #[.int .i64 (b2 H.halted)] 2))) := on Sv4.out be
      clear be
      generalize (v4.alloc (.cells #[.int .i64 (b2 H.halted)] 2)) = v5 at *
      generalize v4.heap.size = gh at *
      refine hK.out _ _ Sv5.out (fun _ => ?_)
      clear hK K
      refine wpAnyH_ready (rs := [20]) (by kernel_rfl) (by simp) ?_
      refine AllReadyH.cons rfl (fun K hK => ?_) AllReadyH.nil
      rw [if_pos (by rfl)]
      go_simp
      refine (i_numbers [104, 97, 108, 116, 101, 100] _ _ _ [(b2 H.halted)] v5 RNh.out (by simp [b2_word]) (by decide) (by decide) (Lib.tabBelow_of_tabIs HT.out _ Sv5.out)).mono ?_
      rintro e v6 ⟨rfl, be⟩
      have RNp' : Hid (Rn v6 (some ⟨gp, 0, none⟩) 1 1 [H.pc]) := RNp.out.stay be
      clear RNp
      have RNp := RNp'
      clear RNp'
      have RNd' : Hid (Rn v6 (some ⟨gd, 0, none⟩) 1 1 [H.done]) := RNd.out.stay be
      clear RNd
      have RNd := RNd'
      clear RNd'
      have RNh' : Hid (Rn v6 (some ⟨gh, 0, none⟩) 1 1 [(b2 H.halted)]) := RNh.out.stay be
      clear RNh
      have RNh := RNh'
      clear RNh'
      have Sv6 : Hid (Below W.heap.size W v6) := on Sv5.out be
      clear be
      refine hK.out _ _ Sv6.out (fun _ => ?_)
      clear hK K
      rw [HE.out.2.2.1]
      refine wpAnyH_take (i := 21) (v := .string (bs B3)) rfl (by kernel_rfl) (by kernel_rfl) (by kernel_rfl) (fun _ _ _ h => h) (Or.inl ⟨by rfl, fun w' hs => by have zz := (BQ.out.2.1).2; rw [(BQ.out.2.1).1]; go_simp⟩) Sv6.out ?_
      change wpAnyH _ _ _ _ _ _ _ (Act.put _ (some 24) _) _
      simp only [Act.put, List.setIfInBounds_toArray, List.set_cons_zero, List.set_cons_succ]
      refine wpAnyH_ready (rs := [26]) (by kernel_rfl) (by simp) ?_
      refine AllReadyH.cons rfl (fun K hK => ?_) AllReadyH.nil
      rw [if_pos (by rfl)]
      go_simp
      refine (i_oneIf H.waiting v6).mono ?_
      rintro e y ⟨rfl, hy⟩
      rw [hy]
      clear hy y
      refine hK.out _ _ Sv6.out (fun _ => ?_)
      clear hK K
      refine wpAnyH_ready (rs := [27]) (by kernel_rfl) (by simp) ?_
      refine AllReadyH.cons rfl (fun K hK => ?_) AllReadyH.nil
      rw [if_pos (by rfl)]
      go_simp
      have be : Below v6.heap.size v6 (v6.alloc (.cells #[.int .i64 (b2 H.waiting)] 2)) := al (Below.refl _ _) _
      have RNw : Hid (Rn (v6.alloc (.cells #[.int .i64 (b2 H.waiting)] 2)) (some ⟨v6.heap.size, 0, none⟩) 1 1 [(b2 H.waiting)]) := one_rn v6 (b2 H.waiting) rfl
      have RNp' : Hid (Rn (v6.alloc (.cells #[.int .i64 (b2 H.waiting)] 2)) (some ⟨gp, 0, none⟩) 1 1 [H.pc]) := RNp.out.stay be
      clear RNp
      have RNp := RNp'
      clear RNp'
      have RNd' : Hid (Rn (v6.alloc (.cells #[.int .i64 (b2 H.waiting)] 2)) (some ⟨gd, 0, none⟩) 1 1 [H.done]) := RNd.out.stay be
      clear RNd
      have RNd := RNd'
      clear RNd'
      have RNh' : Hid (Rn (v6.alloc (.cells #[.int .i64 (b2 H.waiting)] 2)) (some ⟨gh, 0, none⟩) 1 1 [(b2 H.halted)]) := RNh.out.stay be
      clear RNh
      have RNh := RNh'
      clear RNh'
      have Sv7 : Hid (Below W.heap.size W (v6.alloc (.cells #[.int .i64 (b2 H.waiting)] 2))) := on Sv6.out be
      clear be
      generalize (v6.alloc (.cells #[.int .i64 (b2 H.waiting)] 2)) = v7 at *
      generalize v6.heap.size = gw at *
      refine hK.out _ _ Sv7.out (fun _ => ?_)
      clear hK K
      refine wpAnyH_ready (rs := [28]) (by kernel_rfl) (by simp) ?_
      refine AllReadyH.cons rfl (fun K hK => ?_) AllReadyH.nil
      rw [if_pos (by rfl)]
      go_simp
      refine (i_numbers [119, 97, 105, 116, 105, 110, 103] _ _ _ [(b2 H.waiting)] v7 RNw.out (by simp [b2_word]) (by decide) (by decide) (Lib.tabBelow_of_tabIs HT.out _ Sv7.out)).mono ?_
      rintro e v8 ⟨rfl, be⟩
      have RNp' : Hid (Rn v8 (some ⟨gp, 0, none⟩) 1 1 [H.pc]) := RNp.out.stay be
      clear RNp
      have RNp := RNp'
      clear RNp'
      have RNd' : Hid (Rn v8 (some ⟨gd, 0, none⟩) 1 1 [H.done]) := RNd.out.stay be
      clear RNd
      have RNd := RNd'
      clear RNd'
      have RNh' : Hid (Rn v8 (some ⟨gh, 0, none⟩) 1 1 [(b2 H.halted)]) := RNh.out.stay be
      clear RNh
      have RNh := RNh'
      clear RNh'
      have RNw' : Hid (Rn v8 (some ⟨gw, 0, none⟩) 1 1 [(b2 H.waiting)]) := RNw.out.stay be
      clear RNw
      have RNw := RNw'
      clear RNw'
      have Sv8 : Hid (Below W.heap.size W v8) := on Sv7.out be
      clear be
      refine hK.out _ _ Sv8.out (fun _ => ?_)
      clear hK K
      rw [HE.out.2.2.2.1]
      refine wpAnyH_take (i := 29) (v := .string (bs B4)) rfl (by kernel_rfl) (by kernel_rfl) (by kernel_rfl) (fun _ _ _ h => h) (Or.inl ⟨by rfl, fun w' hs => by have zz := (BQ.out.2.2.1).2; rw [(BQ.out.2.2.1).1]; go_simp⟩) Sv8.out ?_
      change wpAnyH _ _ _ _ _ _ _ (Act.put _ (some 32) _) _
      simp only [Act.put, List.setIfInBounds_toArray, List.set_cons_zero, List.set_cons_succ]
      refine wpAnyH_ready (rs := [33]) (by kernel_rfl) (by simp) ?_
      refine AllReadyH.cons rfl (fun K hK => ?_) AllReadyH.nil
      rw [if_pos (by rfl)]
      go_simp
      refine (i_regsLine _ H _ _ v8 (Q.out.keep Sv8.out) HK.out.rw (Lib.tabBelow_of_tabIs HT.out _ Sv8.out)).mono ?_
      rintro e v9 ⟨rfl, be⟩
      have RNp' : Hid (Rn v9 (some ⟨gp, 0, none⟩) 1 1 [H.pc]) := RNp.out.stay be
      clear RNp
      have RNp := RNp'
      clear RNp'
      have RNd' : Hid (Rn v9 (some ⟨gd, 0, none⟩) 1 1 [H.done]) := RNd.out.stay be
      clear RNd
      have RNd := RNd'
      clear RNd'
      have RNh' : Hid (Rn v9 (some ⟨gh, 0, none⟩) 1 1 [(b2 H.halted)]) := RNh.out.stay be
      clear RNh
      have RNh := RNh'
      clear RNh'
      have RNw' : Hid (Rn v9 (some ⟨gw, 0, none⟩) 1 1 [(b2 H.waiting)]) := RNw.out.stay be
      clear RNw
      have RNw := RNw'
      clear RNw'
      have Sv9 : Hid (Below W.heap.size W v9) := on Sv8.out be
      clear be
      refine hK.out _ _ Sv9.out (fun _ => ?_)
      clear hK K
      rw [HE.out.2.2.2.2.1]
      refine wpAnyH_take (i := 34) (v := .string (bs B5)) rfl (by kernel_rfl) (by kernel_rfl) (by kernel_rfl) (fun _ _ _ h => h) (Or.inl ⟨by rfl, fun w' hs => by have zz := (BQ.out.2.2.2.1).2; rw [(BQ.out.2.2.2.1).1]; go_simp⟩) Sv9.out ?_
      change wpAnyH _ _ _ _ _ _ _ (Act.put _ (some 37) _) _
      simp only [Act.put, List.setIfInBounds_toArray, List.set_cons_zero, List.set_cons_succ]
      refine wpAnyH_ready (rs := [39]) (by kernel_rfl) (by simp) ?_
      refine AllReadyH.cons rfl (fun K hK => ?_) AllReadyH.nil
      rw [if_pos (by rfl)]
      go_simp
      refine (i_numbers [111, 117, 116] _ _ _ H.out v9 (HO.out.stay Sv9.out) HK.out.ow NO.out (by decide) (Lib.tabBelow_of_tabIs HT.out _ Sv9.out)).mono ?_
      rintro e v10 ⟨rfl, be⟩
      have RNp' : Hid (Rn v10 (some ⟨gp, 0, none⟩) 1 1 [H.pc]) := RNp.out.stay be
      clear RNp
      have RNp := RNp'
      clear RNp'
      have RNd' : Hid (Rn v10 (some ⟨gd, 0, none⟩) 1 1 [H.done]) := RNd.out.stay be
      clear RNd
      have RNd := RNd'
      clear RNd'
      have RNh' : Hid (Rn v10 (some ⟨gh, 0, none⟩) 1 1 [(b2 H.halted)]) := RNh.out.stay be
      clear RNh
      have RNh := RNh'
      clear RNh'
      have RNw' : Hid (Rn v10 (some ⟨gw, 0, none⟩) 1 1 [(b2 H.waiting)]) := RNw.out.stay be
      clear RNw
      have RNw := RNw'
      clear RNw'
      have Sv10 : Hid (Below W.heap.size W v10) := on Sv9.out be
      clear be
      refine hK.out _ _ Sv10.out (fun _ => ?_)
      clear hK K
      rw [HE.out.2.2.2.2.2]
      refine wpAnyH_take (i := 40) (v := .string (bs B6)) rfl (by kernel_rfl) (by kernel_rfl) (by kernel_rfl) (fun _ _ _ h => h) (Or.inl ⟨by rfl, fun w' hs => by have zz := (BQ.out.2.2.2.2.1).2; rw [(BQ.out.2.2.2.2.1).1]; go_simp⟩) Sv10.out ?_
      change wpAnyH _ _ _ _ _ _ _ (Act.put _ (some 43) _) _
      simp only [Act.put, List.setIfInBounds_toArray, List.set_cons_zero, List.set_cons_succ]
      refine wpAnyH_take (i := 41) (v := .string (bs B6)) rfl (by kernel_rfl) (by kernel_rfl) (by kernel_rfl) (fun _ _ _ h => h) (Or.inl ⟨by rfl, fun w' hs => by go_simp⟩) Sv10.out ?_
      change wpAnyH _ _ _ _ _ _ _ (Act.put _ (some 2) _) _
      simp only [Act.put, List.setIfInBounds_toArray, List.set_cons_zero, List.set_cons_succ]
      refine wpAnyH_done (by kernel_rfl) ?_ _
      go_wp2_with fail
      go_ret
      exact ⟨by rw [EV.out]; rfl, on B0.out Sv10.out⟩
    · skip
      rw [if_pos (by rfl)]
      go_simp
      have be : Below v1.heap.size v1 (v1.alloc (.cells #[.int .i64 H.done] 2)) := al (Below.refl _ _) _
      have RNd : Hid (Rn (v1.alloc (.cells #[.int .i64 H.done] 2)) (some ⟨v1.heap.size, 0, none⟩) 1 1 [H.done]) := one_rn v1 H.done rfl
      have RNp' : Hid (Rn (v1.alloc (.cells #[.int .i64 H.done] 2)) (some ⟨gp, 0, none⟩) 1 1 [H.pc]) := RNp.out.stay be
      clear RNp
      have RNp := RNp'
      clear RNp'
      have Sv2 : Hid (Below W.heap.size W (v1.alloc (.cells #[.int .i64 H.done] 2))) := on Sv1.out be
      clear be
      generalize (v1.alloc (.cells #[.int .i64 H.done] 2)) = v2 at *
      generalize v1.heap.size = gd at *
      refine hK.out _ _ Sv2.out (fun _ => ?_)
      clear hK K
      refine wpAnyH_ready (rs := [6]) (by kernel_rfl) (by simp) ?_
      refine AllReadyH.cons rfl (fun K hK => ?_) AllReadyH.nil
      rw [if_pos (by rfl)]
      go_simp
      refine (i_numbers [112, 99] _ _ _ [H.pc] v2 RNp.out (by simp [HK.out.pw]) (by decide) (by decide) (Lib.tabBelow_of_tabIs HT.out _ Sv2.out)).mono ?_
      rintro e v3 ⟨rfl, be⟩
      have RNp' : Hid (Rn v3 (some ⟨gp, 0, none⟩) 1 1 [H.pc]) := RNp.out.stay be
      clear RNp
      have RNp := RNp'
      clear RNp'
      have RNd' : Hid (Rn v3 (some ⟨gd, 0, none⟩) 1 1 [H.done]) := RNd.out.stay be
      clear RNd
      have RNd := RNd'
      clear RNd'
      have Sv3 : Hid (Below W.heap.size W v3) := on Sv2.out be
      clear be
      refine hK.out _ _ Sv3.out (fun _ => ?_)
      clear hK K
      refine wpAnyH_ready (rs := [12]) (by kernel_rfl) (by simp) ?_
      refine AllReadyH.cons rfl (fun K hK => ?_) AllReadyH.nil
      rw [if_pos (by rfl)]
      go_simp
      refine (i_numbers [100, 111, 110, 101] _ _ _ [H.done] v3 RNd.out (by simp [DW.out]) (by decide) (by decide) (Lib.tabBelow_of_tabIs HT.out _ Sv3.out)).mono ?_
      rintro e v4 ⟨rfl, be⟩
      have RNp' : Hid (Rn v4 (some ⟨gp, 0, none⟩) 1 1 [H.pc]) := RNp.out.stay be
      clear RNp
      have RNp := RNp'
      clear RNp'
      have RNd' : Hid (Rn v4 (some ⟨gd, 0, none⟩) 1 1 [H.done]) := RNd.out.stay be
      clear RNd
      have RNd := RNd'
      clear RNd'
      have Sv4 : Hid (Below W.heap.size W v4) := on Sv3.out be
      clear be
      refine hK.out _ _ Sv4.out (fun _ => ?_)
      clear hK K
      rw [HE.out.1, HE.out.2.1]
      refine wpAnyH_take (i := 13) (v := .string (bs B2)) rfl (by kernel_rfl) (by kernel_rfl) (by kernel_rfl) (fun _ _ _ h => h) (Or.inl ⟨by rfl, fun w' hs => by have zz := (BQ.out.1).2; rw [(BQ.out.1).1]; go_simp⟩) Sv4.out ?_
      change wpAnyH _ _ _ _ _ _ _ (Act.put _ (some 16) _) _
      simp only [Act.put, List.setIfInBounds_toArray, List.set_cons_zero, List.set_cons_succ]
      refine wpAnyH_ready (rs := [18]) (by kernel_rfl) (by simp) ?_
      refine AllReadyH.cons rfl (fun K hK => ?_) AllReadyH.nil
      rw [if_pos (by rfl)]
      go_simp
      refine (i_oneIf H.halted v4).mono ?_
      rintro e y ⟨rfl, hy⟩
      rw [hy]
      clear hy y
      refine hK.out _ _ Sv4.out (fun _ => ?_)
      clear hK K
      refine wpAnyH_ready (rs := [19]) (by kernel_rfl) (by simp) ?_
      refine AllReadyH.cons rfl (fun K hK => ?_) AllReadyH.nil
      rw [if_pos (by rfl)]
      go_simp
      have be : Below v4.heap.size v4 (v4.alloc (.cells #[.int .i64 (b2 H.halted)] 2)) := al (Below.refl _ _) _
      have RNh : Hid (Rn (v4.alloc (.cells #[.int .i64 (b2 H.halted)] 2)) (some ⟨v4.heap.size, 0, none⟩) 1 1 [(b2 H.halted)]) := one_rn v4 (b2 H.halted) rfl
      have RNp' : Hid (Rn (v4.alloc (.cells #[.int .i64 (b2 H.halted)] 2)) (some ⟨gp, 0, none⟩) 1 1 [H.pc]) := RNp.out.stay be
      clear RNp
      have RNp := RNp'
      clear RNp'
      have RNd' : Hid (Rn (v4.alloc (.cells #[.int .i64 (b2 H.halted)] 2)) (some ⟨gd, 0, none⟩) 1 1 [H.done]) := RNd.out.stay be
      clear RNd
      have RNd := RNd'
      clear RNd'
      have Sv5 : Hid (Below W.heap.size W (v4.alloc (.cells #[.int .i64 (b2 H.halted)] 2))) := on Sv4.out be
      clear be
      generalize (v4.alloc (.cells #[.int .i64 (b2 H.halted)] 2)) = v5 at *
      generalize v4.heap.size = gh at *
      refine hK.out _ _ Sv5.out (fun _ => ?_)
      clear hK K
      refine wpAnyH_ready (rs := [20]) (by kernel_rfl) (by simp) ?_
      refine AllReadyH.cons rfl (fun K hK => ?_) AllReadyH.nil
      rw [if_pos (by rfl)]
      go_simp
      refine (i_numbers [104, 97, 108, 116, 101, 100] _ _ _ [(b2 H.halted)] v5 RNh.out (by simp [b2_word]) (by decide) (by decide) (Lib.tabBelow_of_tabIs HT.out _ Sv5.out)).mono ?_
      rintro e v6 ⟨rfl, be⟩
      have RNp' : Hid (Rn v6 (some ⟨gp, 0, none⟩) 1 1 [H.pc]) := RNp.out.stay be
      clear RNp
      have RNp := RNp'
      clear RNp'
      have RNd' : Hid (Rn v6 (some ⟨gd, 0, none⟩) 1 1 [H.done]) := RNd.out.stay be
      clear RNd
      have RNd := RNd'
      clear RNd'
      have RNh' : Hid (Rn v6 (some ⟨gh, 0, none⟩) 1 1 [(b2 H.halted)]) := RNh.out.stay be
      clear RNh
      have RNh := RNh'
      clear RNh'
      have Sv6 : Hid (Below W.heap.size W v6) := on Sv5.out be
      clear be
      refine hK.out _ _ Sv6.out (fun _ => ?_)
      clear hK K
      rw [HE.out.2.2.1]
      refine wpAnyH_take (i := 21) (v := .string (bs B3)) rfl (by kernel_rfl) (by kernel_rfl) (by kernel_rfl) (fun _ _ _ h => h) (Or.inl ⟨by rfl, fun w' hs => by have zz := (BQ.out.2.1).2; rw [(BQ.out.2.1).1]; go_simp⟩) Sv6.out ?_
      change wpAnyH _ _ _ _ _ _ _ (Act.put _ (some 24) _) _
      simp only [Act.put, List.setIfInBounds_toArray, List.set_cons_zero, List.set_cons_succ]
      refine wpAnyH_ready (rs := [26]) (by kernel_rfl) (by simp) ?_
      refine AllReadyH.cons rfl (fun K hK => ?_) AllReadyH.nil
      rw [if_pos (by rfl)]
      go_simp
      refine (i_oneIf H.waiting v6).mono ?_
      rintro e y ⟨rfl, hy⟩
      rw [hy]
      clear hy y
      refine hK.out _ _ Sv6.out (fun _ => ?_)
      clear hK K
      refine wpAnyH_ready (rs := [27]) (by kernel_rfl) (by simp) ?_
      refine AllReadyH.cons rfl (fun K hK => ?_) AllReadyH.nil
      rw [if_pos (by rfl)]
      go_simp
      have be : Below v6.heap.size v6 (v6.alloc (.cells #[.int .i64 (b2 H.waiting)] 2)) := al (Below.refl _ _) _
      have RNw : Hid (Rn (v6.alloc (.cells #[.int .i64 (b2 H.waiting)] 2)) (some ⟨v6.heap.size, 0, none⟩) 1 1 [(b2 H.waiting)]) := one_rn v6 (b2 H.waiting) rfl
      have RNp' : Hid (Rn (v6.alloc (.cells #[.int .i64 (b2 H.waiting)] 2)) (some ⟨gp, 0, none⟩) 1 1 [H.pc]) := RNp.out.stay be
      clear RNp
      have RNp := RNp'
      clear RNp'
      have RNd' : Hid (Rn (v6.alloc (.cells #[.int .i64 (b2 H.waiting)] 2)) (some ⟨gd, 0, none⟩) 1 1 [H.done]) := RNd.out.stay be
      clear RNd
      have RNd := RNd'
      clear RNd'
      have RNh' : Hid (Rn (v6.alloc (.cells #[.int .i64 (b2 H.waiting)] 2)) (some ⟨gh, 0, none⟩) 1 1 [(b2 H.halted)]) := RNh.out.stay be
      clear RNh
      have RNh := RNh'
      clear RNh'
      have Sv7 : Hid (Below W.heap.size W (v6.alloc (.cells #[.int .i64 (b2 H.waiting)] 2))) := on Sv6.out be
      clear be
      generalize (v6.alloc (.cells #[.int .i64 (b2 H.waiting)] 2)) = v7 at *
      generalize v6.heap.size = gw at *
      refine hK.out _ _ Sv7.out (fun _ => ?_)
      clear hK K
      refine wpAnyH_ready (rs := [28]) (by kernel_rfl) (by simp) ?_
      refine AllReadyH.cons rfl (fun K hK => ?_) AllReadyH.nil
      rw [if_pos (by rfl)]
      go_simp
      refine (i_numbers [119, 97, 105, 116, 105, 110, 103] _ _ _ [(b2 H.waiting)] v7 RNw.out (by simp [b2_word]) (by decide) (by decide) (Lib.tabBelow_of_tabIs HT.out _ Sv7.out)).mono ?_
      rintro e v8 ⟨rfl, be⟩
      have RNp' : Hid (Rn v8 (some ⟨gp, 0, none⟩) 1 1 [H.pc]) := RNp.out.stay be
      clear RNp
      have RNp := RNp'
      clear RNp'
      have RNd' : Hid (Rn v8 (some ⟨gd, 0, none⟩) 1 1 [H.done]) := RNd.out.stay be
      clear RNd
      have RNd := RNd'
      clear RNd'
      have RNh' : Hid (Rn v8 (some ⟨gh, 0, none⟩) 1 1 [(b2 H.halted)]) := RNh.out.stay be
      clear RNh
      have RNh := RNh'
      clear RNh'
      have RNw' : Hid (Rn v8 (some ⟨gw, 0, none⟩) 1 1 [(b2 H.waiting)]) := RNw.out.stay be
      clear RNw
      have RNw := RNw'
      clear RNw'
      have Sv8 : Hid (Below W.heap.size W v8) := on Sv7.out be
      clear be
      refine hK.out _ _ Sv8.out (fun _ => ?_)
      clear hK K
      rw [HE.out.2.2.2.1]
      refine wpAnyH_take (i := 29) (v := .string (bs B4)) rfl (by kernel_rfl) (by kernel_rfl) (by kernel_rfl) (fun _ _ _ h => h) (Or.inl ⟨by rfl, fun w' hs => by have zz := (BQ.out.2.2.1).2; rw [(BQ.out.2.2.1).1]; go_simp⟩) Sv8.out ?_
      change wpAnyH _ _ _ _ _ _ _ (Act.put _ (some 32) _) _
      simp only [Act.put, List.setIfInBounds_toArray, List.set_cons_zero, List.set_cons_succ]
      refine wpAnyH_ready (rs := [33]) (by kernel_rfl) (by simp) ?_
      refine AllReadyH.cons rfl (fun K hK => ?_) AllReadyH.nil
      rw [if_pos (by rfl)]
      go_simp
      refine (i_regsLine _ H _ _ v8 (Q.out.keep Sv8.out) HK.out.rw (Lib.tabBelow_of_tabIs HT.out _ Sv8.out)).mono ?_
      rintro e v9 ⟨rfl, be⟩
      have RNp' : Hid (Rn v9 (some ⟨gp, 0, none⟩) 1 1 [H.pc]) := RNp.out.stay be
      clear RNp
      have RNp := RNp'
      clear RNp'
      have RNd' : Hid (Rn v9 (some ⟨gd, 0, none⟩) 1 1 [H.done]) := RNd.out.stay be
      clear RNd
      have RNd := RNd'
      clear RNd'
      have RNh' : Hid (Rn v9 (some ⟨gh, 0, none⟩) 1 1 [(b2 H.halted)]) := RNh.out.stay be
      clear RNh
      have RNh := RNh'
      clear RNh'
      have RNw' : Hid (Rn v9 (some ⟨gw, 0, none⟩) 1 1 [(b2 H.waiting)]) := RNw.out.stay be
      clear RNw
      have RNw := RNw'
      clear RNw'
      have Sv9 : Hid (Below W.heap.size W v9) := on Sv8.out be
      clear be
      refine hK.out _ _ Sv9.out (fun _ => ?_)
      clear hK K
      rw [HE.out.2.2.2.2.1]
      refine wpAnyH_take (i := 34) (v := .string (bs B5)) rfl (by kernel_rfl) (by kernel_rfl) (by kernel_rfl) (fun _ _ _ h => h) (Or.inl ⟨by rfl, fun w' hs => by have zz := (BQ.out.2.2.2.1).2; rw [(BQ.out.2.2.2.1).1]; go_simp⟩) Sv9.out ?_
      change wpAnyH _ _ _ _ _ _ _ (Act.put _ (some 37) _) _
      simp only [Act.put, List.setIfInBounds_toArray, List.set_cons_zero, List.set_cons_succ]
      refine wpAnyH_ready (rs := [39]) (by kernel_rfl) (by simp) ?_
      refine AllReadyH.cons rfl (fun K hK => ?_) AllReadyH.nil
      rw [if_pos (by rfl)]
      go_simp
      refine (i_numbers [111, 117, 116] _ _ _ H.out v9 (HO.out.stay Sv9.out) HK.out.ow NO.out (by decide) (Lib.tabBelow_of_tabIs HT.out _ Sv9.out)).mono ?_
      rintro e v10 ⟨rfl, be⟩
      have RNp' : Hid (Rn v10 (some ⟨gp, 0, none⟩) 1 1 [H.pc]) := RNp.out.stay be
      clear RNp
      have RNp := RNp'
      clear RNp'
      have RNd' : Hid (Rn v10 (some ⟨gd, 0, none⟩) 1 1 [H.done]) := RNd.out.stay be
      clear RNd
      have RNd := RNd'
      clear RNd'
      have RNh' : Hid (Rn v10 (some ⟨gh, 0, none⟩) 1 1 [(b2 H.halted)]) := RNh.out.stay be
      clear RNh
      have RNh := RNh'
      clear RNh'
      have RNw' : Hid (Rn v10 (some ⟨gw, 0, none⟩) 1 1 [(b2 H.waiting)]) := RNw.out.stay be
      clear RNw
      have RNw := RNw'
      clear RNw'
      have Sv10 : Hid (Below W.heap.size W v10) := on Sv9.out be
      clear be
      refine hK.out _ _ Sv10.out (fun _ => ?_)
      clear hK K
      rw [HE.out.2.2.2.2.2]
      refine wpAnyH_take (i := 40) (v := .string (bs B6)) rfl (by kernel_rfl) (by kernel_rfl) (by kernel_rfl) (fun _ _ _ h => h) (Or.inl ⟨by rfl, fun w' hs => by have zz := (BQ.out.2.2.2.2.1).2; rw [(BQ.out.2.2.2.2.1).1]; go_simp⟩) Sv10.out ?_
      change wpAnyH _ _ _ _ _ _ _ (Act.put _ (some 43) _) _
      simp only [Act.put, List.setIfInBounds_toArray, List.set_cons_zero, List.set_cons_succ]
      refine wpAnyH_take (i := 41) (v := .string (bs B6)) rfl (by kernel_rfl) (by kernel_rfl) (by kernel_rfl) (fun _ _ _ h => h) (Or.inl ⟨by rfl, fun w' hs => by go_simp⟩) Sv10.out ?_
      change wpAnyH _ _ _ _ _ _ _ (Act.put _ (some 2) _) _
      simp only [Act.put, List.setIfInBounds_toArray, List.set_cons_zero, List.set_cons_succ]
      refine wpAnyH_done (by kernel_rfl) ?_ _
      go_wp2_with fail
      go_ret
      exact ⟨by rw [EV.out]; rfl, on B0.out Sv10.out⟩
  · skip
    rw [if_pos (by rfl)]
    go_simp
    have be : Below v0.heap.size v0 (v0.alloc (.cells #[.int .i64 H.done] 2)) := al (Below.refl _ _) _
    have RNd : Hid (Rn (v0.alloc (.cells #[.int .i64 H.done] 2)) (some ⟨v0.heap.size, 0, none⟩) 1 1 [H.done]) := one_rn v0 H.done rfl
    have Sv1 : Hid (Below W.heap.size W (v0.alloc (.cells #[.int .i64 H.done] 2))) := on Sv0.out be
    clear be
    generalize (v0.alloc (.cells #[.int .i64 H.done] 2)) = v1 at *
    generalize v0.heap.size = gd at *
    refine hK.out _ _ Sv1.out (fun _ => ?_)
    clear hK K
    refine wpAnyH_ready (rs := [5]) (by kernel_rfl) (by simp) ?_
    refine AllReadyH.cons rfl (fun K hK => ?_) AllReadyH.nil
    rw [if_pos (by rfl)]
    go_simp
    have be : Below v1.heap.size v1 (v1.alloc (.cells #[.int .i64 H.pc] 2)) := al (Below.refl _ _) _
    have RNp : Hid (Rn (v1.alloc (.cells #[.int .i64 H.pc] 2)) (some ⟨v1.heap.size, 0, none⟩) 1 1 [H.pc]) := one_rn v1 H.pc rfl
    have RNd' : Hid (Rn (v1.alloc (.cells #[.int .i64 H.pc] 2)) (some ⟨gd, 0, none⟩) 1 1 [H.done]) := RNd.out.stay be
    clear RNd
    have RNd := RNd'
    clear RNd'
    have Sv2 : Hid (Below W.heap.size W (v1.alloc (.cells #[.int .i64 H.pc] 2))) := on Sv1.out be
    clear be
    generalize (v1.alloc (.cells #[.int .i64 H.pc] 2)) = v2 at *
    generalize v1.heap.size = gp at *
    refine hK.out _ _ Sv2.out (fun _ => ?_)
    clear hK K
    refine wpAnyH_ready (rs := [6]) (by kernel_rfl) (by simp) ?_
    refine AllReadyH.cons rfl (fun K hK => ?_) AllReadyH.nil
    rw [if_pos (by rfl)]
    go_simp
    refine (i_numbers [112, 99] _ _ _ [H.pc] v2 RNp.out (by simp [HK.out.pw]) (by decide) (by decide) (Lib.tabBelow_of_tabIs HT.out _ Sv2.out)).mono ?_
    rintro e v3 ⟨rfl, be⟩
    have RNd' : Hid (Rn v3 (some ⟨gd, 0, none⟩) 1 1 [H.done]) := RNd.out.stay be
    clear RNd
    have RNd := RNd'
    clear RNd'
    have RNp' : Hid (Rn v3 (some ⟨gp, 0, none⟩) 1 1 [H.pc]) := RNp.out.stay be
    clear RNp
    have RNp := RNp'
    clear RNp'
    have Sv3 : Hid (Below W.heap.size W v3) := on Sv2.out be
    clear be
    refine hK.out _ _ Sv3.out (fun _ => ?_)
    clear hK K
    refine wpAnyH_ready (rs := [12]) (by kernel_rfl) (by simp) ?_
    refine AllReadyH.cons rfl (fun K hK => ?_) AllReadyH.nil
    rw [if_pos (by rfl)]
    go_simp
    refine (i_numbers [100, 111, 110, 101] _ _ _ [H.done] v3 RNd.out (by simp [DW.out]) (by decide) (by decide) (Lib.tabBelow_of_tabIs HT.out _ Sv3.out)).mono ?_
    rintro e v4 ⟨rfl, be⟩
    have RNd' : Hid (Rn v4 (some ⟨gd, 0, none⟩) 1 1 [H.done]) := RNd.out.stay be
    clear RNd
    have RNd := RNd'
    clear RNd'
    have RNp' : Hid (Rn v4 (some ⟨gp, 0, none⟩) 1 1 [H.pc]) := RNp.out.stay be
    clear RNp
    have RNp := RNp'
    clear RNp'
    have Sv4 : Hid (Below W.heap.size W v4) := on Sv3.out be
    clear be
    refine hK.out _ _ Sv4.out (fun _ => ?_)
    clear hK K
    rw [HE.out.1, HE.out.2.1]
    refine wpAnyH_take (i := 13) (v := .string (bs B2)) rfl (by kernel_rfl) (by kernel_rfl) (by kernel_rfl) (fun _ _ _ h => h) (Or.inl ⟨by rfl, fun w' hs => by have zz := (BQ.out.1).2; rw [(BQ.out.1).1]; go_simp⟩) Sv4.out ?_
    change wpAnyH _ _ _ _ _ _ _ (Act.put _ (some 16) _) _
    simp only [Act.put, List.setIfInBounds_toArray, List.set_cons_zero, List.set_cons_succ]
    refine wpAnyH_ready (rs := [18]) (by kernel_rfl) (by simp) ?_
    refine AllReadyH.cons rfl (fun K hK => ?_) AllReadyH.nil
    rw [if_pos (by rfl)]
    go_simp
    refine (i_oneIf H.halted v4).mono ?_
    rintro e y ⟨rfl, hy⟩
    rw [hy]
    clear hy y
    refine hK.out _ _ Sv4.out (fun _ => ?_)
    clear hK K
    refine wpAnyH_ready (rs := [19]) (by kernel_rfl) (by simp) ?_
    refine AllReadyH.cons rfl (fun K hK => ?_) AllReadyH.nil
    rw [if_pos (by rfl)]
    go_simp
    have be : Below v4.heap.size v4 (v4.alloc (.cells #[.int .i64 (b2 H.halted)] 2)) := al (Below.refl _ _) _
    have RNh : Hid (Rn (v4.alloc (.cells #[.int .i64 (b2 H.halted)] 2)) (some ⟨v4.heap.size, 0, none⟩) 1 1 [(b2 H.halted)]) := one_rn v4 (b2 H.halted) rfl
    have RNd' : Hid (Rn (v4.alloc (.cells #[.int .i64 (b2 H.halted)] 2)) (some ⟨gd, 0, none⟩) 1 1 [H.done]) := RNd.out.stay be
    clear RNd
    have RNd := RNd'
    clear RNd'
    have RNp' : Hid (Rn (v4.alloc (.cells #[.int .i64 (b2 H.halted)] 2)) (some ⟨gp, 0, none⟩) 1 1 [H.pc]) := RNp.out.stay be
    clear RNp
    have RNp := RNp'
    clear RNp'
    have Sv5 : Hid (Below W.heap.size W (v4.alloc (.cells #[.int .i64 (b2 H.halted)] 2))) := on Sv4.out be
    clear be
    generalize (v4.alloc (.cells #[.int .i64 (b2 H.halted)] 2)) = v5 at *
    generalize v4.heap.size = gh at *
    refine hK.out _ _ Sv5.out (fun _ => ?_)
    clear hK K
    refine wpAnyH_ready (rs := [20]) (by kernel_rfl) (by simp) ?_
    refine AllReadyH.cons rfl (fun K hK => ?_) AllReadyH.nil
    rw [if_pos (by rfl)]
    go_simp
    refine (i_numbers [104, 97, 108, 116, 101, 100] _ _ _ [(b2 H.halted)] v5 RNh.out (by simp [b2_word]) (by decide) (by decide) (Lib.tabBelow_of_tabIs HT.out _ Sv5.out)).mono ?_
    rintro e v6 ⟨rfl, be⟩
    have RNd' : Hid (Rn v6 (some ⟨gd, 0, none⟩) 1 1 [H.done]) := RNd.out.stay be
    clear RNd
    have RNd := RNd'
    clear RNd'
    have RNp' : Hid (Rn v6 (some ⟨gp, 0, none⟩) 1 1 [H.pc]) := RNp.out.stay be
    clear RNp
    have RNp := RNp'
    clear RNp'
    have RNh' : Hid (Rn v6 (some ⟨gh, 0, none⟩) 1 1 [(b2 H.halted)]) := RNh.out.stay be
    clear RNh
    have RNh := RNh'
    clear RNh'
    have Sv6 : Hid (Below W.heap.size W v6) := on Sv5.out be
    clear be
    refine hK.out _ _ Sv6.out (fun _ => ?_)
    clear hK K
    rw [HE.out.2.2.1]
    refine wpAnyH_take (i := 21) (v := .string (bs B3)) rfl (by kernel_rfl) (by kernel_rfl) (by kernel_rfl) (fun _ _ _ h => h) (Or.inl ⟨by rfl, fun w' hs => by have zz := (BQ.out.2.1).2; rw [(BQ.out.2.1).1]; go_simp⟩) Sv6.out ?_
    change wpAnyH _ _ _ _ _ _ _ (Act.put _ (some 24) _) _
    simp only [Act.put, List.setIfInBounds_toArray, List.set_cons_zero, List.set_cons_succ]
    refine wpAnyH_ready (rs := [26]) (by kernel_rfl) (by simp) ?_
    refine AllReadyH.cons rfl (fun K hK => ?_) AllReadyH.nil
    rw [if_pos (by rfl)]
    go_simp
    refine (i_oneIf H.waiting v6).mono ?_
    rintro e y ⟨rfl, hy⟩
    rw [hy]
    clear hy y
    refine hK.out _ _ Sv6.out (fun _ => ?_)
    clear hK K
    refine wpAnyH_ready (rs := [27]) (by kernel_rfl) (by simp) ?_
    refine AllReadyH.cons rfl (fun K hK => ?_) AllReadyH.nil
    rw [if_pos (by rfl)]
    go_simp
    have be : Below v6.heap.size v6 (v6.alloc (.cells #[.int .i64 (b2 H.waiting)] 2)) := al (Below.refl _ _) _
    have RNw : Hid (Rn (v6.alloc (.cells #[.int .i64 (b2 H.waiting)] 2)) (some ⟨v6.heap.size, 0, none⟩) 1 1 [(b2 H.waiting)]) := one_rn v6 (b2 H.waiting) rfl
    have RNd' : Hid (Rn (v6.alloc (.cells #[.int .i64 (b2 H.waiting)] 2)) (some ⟨gd, 0, none⟩) 1 1 [H.done]) := RNd.out.stay be
    clear RNd
    have RNd := RNd'
    clear RNd'
    have RNp' : Hid (Rn (v6.alloc (.cells #[.int .i64 (b2 H.waiting)] 2)) (some ⟨gp, 0, none⟩) 1 1 [H.pc]) := RNp.out.stay be
    clear RNp
    have RNp := RNp'
    clear RNp'
    have RNh' : Hid (Rn (v6.alloc (.cells #[.int .i64 (b2 H.waiting)] 2)) (some ⟨gh, 0, none⟩) 1 1 [(b2 H.halted)]) := RNh.out.stay be
    clear RNh
    have RNh := RNh'
    clear RNh'
    have Sv7 : Hid (Below W.heap.size W (v6.alloc (.cells #[.int .i64 (b2 H.waiting)] 2))) := on Sv6.out be
    clear be
    generalize (v6.alloc (.cells #[.int .i64 (b2 H.waiting)] 2)) = v7 at *
    generalize v6.heap.size = gw at *
    refine hK.out _ _ Sv7.out (fun _ => ?_)
    clear hK K
    refine wpAnyH_ready (rs := [28]) (by kernel_rfl) (by simp) ?_
    refine AllReadyH.cons rfl (fun K hK => ?_) AllReadyH.nil
    rw [if_pos (by rfl)]
    go_simp
    refine (i_numbers [119, 97, 105, 116, 105, 110, 103] _ _ _ [(b2 H.waiting)] v7 RNw.out (by simp [b2_word]) (by decide) (by decide) (Lib.tabBelow_of_tabIs HT.out _ Sv7.out)).mono ?_
    rintro e v8 ⟨rfl, be⟩
    have RNd' : Hid (Rn v8 (some ⟨gd, 0, none⟩) 1 1 [H.done]) := RNd.out.stay be
    clear RNd
    have RNd := RNd'
    clear RNd'
    have RNp' : Hid (Rn v8 (some ⟨gp, 0, none⟩) 1 1 [H.pc]) := RNp.out.stay be
    clear RNp
    have RNp := RNp'
    clear RNp'
    have RNh' : Hid (Rn v8 (some ⟨gh, 0, none⟩) 1 1 [(b2 H.halted)]) := RNh.out.stay be
    clear RNh
    have RNh := RNh'
    clear RNh'
    have RNw' : Hid (Rn v8 (some ⟨gw, 0, none⟩) 1 1 [(b2 H.waiting)]) := RNw.out.stay be
    clear RNw
    have RNw := RNw'
    clear RNw'
    have Sv8 : Hid (Below W.heap.size W v8) := on Sv7.out be
    clear be
    refine hK.out _ _ Sv8.out (fun _ => ?_)
    clear hK K
    rw [HE.out.2.2.2.1]
    refine wpAnyH_take (i := 29) (v := .string (bs B4)) rfl (by kernel_rfl) (by kernel_rfl) (by kernel_rfl) (fun _ _ _ h => h) (Or.inl ⟨by rfl, fun w' hs => by have zz := (BQ.out.2.2.1).2; rw [(BQ.out.2.2.1).1]; go_simp⟩) Sv8.out ?_
    change wpAnyH _ _ _ _ _ _ _ (Act.put _ (some 32) _) _
    simp only [Act.put, List.setIfInBounds_toArray, List.set_cons_zero, List.set_cons_succ]
    refine wpAnyH_ready (rs := [33]) (by kernel_rfl) (by simp) ?_
    refine AllReadyH.cons rfl (fun K hK => ?_) AllReadyH.nil
    rw [if_pos (by rfl)]
    go_simp
    refine (i_regsLine _ H _ _ v8 (Q.out.keep Sv8.out) HK.out.rw (Lib.tabBelow_of_tabIs HT.out _ Sv8.out)).mono ?_
    rintro e v9 ⟨rfl, be⟩
    have RNd' : Hid (Rn v9 (some ⟨gd, 0, none⟩) 1 1 [H.done]) := RNd.out.stay be
    clear RNd
    have RNd := RNd'
    clear RNd'
    have RNp' : Hid (Rn v9 (some ⟨gp, 0, none⟩) 1 1 [H.pc]) := RNp.out.stay be
    clear RNp
    have RNp := RNp'
    clear RNp'
    have RNh' : Hid (Rn v9 (some ⟨gh, 0, none⟩) 1 1 [(b2 H.halted)]) := RNh.out.stay be
    clear RNh
    have RNh := RNh'
    clear RNh'
    have RNw' : Hid (Rn v9 (some ⟨gw, 0, none⟩) 1 1 [(b2 H.waiting)]) := RNw.out.stay be
    clear RNw
    have RNw := RNw'
    clear RNw'
    have Sv9 : Hid (Below W.heap.size W v9) := on Sv8.out be
    clear be
    refine hK.out _ _ Sv9.out (fun _ => ?_)
    clear hK K
    rw [HE.out.2.2.2.2.1]
    refine wpAnyH_take (i := 34) (v := .string (bs B5)) rfl (by kernel_rfl) (by kernel_rfl) (by kernel_rfl) (fun _ _ _ h => h) (Or.inl ⟨by rfl, fun w' hs => by have zz := (BQ.out.2.2.2.1).2; rw [(BQ.out.2.2.2.1).1]; go_simp⟩) Sv9.out ?_
    change wpAnyH _ _ _ _ _ _ _ (Act.put _ (some 37) _) _
    simp only [Act.put, List.setIfInBounds_toArray, List.set_cons_zero, List.set_cons_succ]
    refine wpAnyH_ready (rs := [39]) (by kernel_rfl) (by simp) ?_
    refine AllReadyH.cons rfl (fun K hK => ?_) AllReadyH.nil
    rw [if_pos (by rfl)]
    go_simp
    refine (i_numbers [111, 117, 116] _ _ _ H.out v9 (HO.out.stay Sv9.out) HK.out.ow NO.out (by decide) (Lib.tabBelow_of_tabIs HT.out _ Sv9.out)).mono ?_
    rintro e v10 ⟨rfl, be⟩
    have RNd' : Hid (Rn v10 (some ⟨gd, 0, none⟩) 1 1 [H.done]) := RNd.out.stay be
    clear RNd
    have RNd := RNd'
    clear RNd'
    have RNp' : Hid (Rn v10 (some ⟨gp, 0, none⟩) 1 1 [H.pc]) := RNp.out.stay be
    clear RNp
    have RNp := RNp'
    clear RNp'
    have RNh' : Hid (Rn v10 (some ⟨gh, 0, none⟩) 1 1 [(b2 H.halted)]) := RNh.out.stay be
    clear RNh
    have RNh := RNh'
    clear RNh'
    have RNw' : Hid (Rn v10 (some ⟨gw, 0, none⟩) 1 1 [(b2 H.waiting)]) := RNw.out.stay be
    clear RNw
    have RNw := RNw'
    clear RNw'
    have Sv10 : Hid (Below W.heap.size W v10) := on Sv9.out be
    clear be
    refine hK.out _ _ Sv10.out (fun _ => ?_)
    clear hK K
    rw [HE.out.2.2.2.2.2]
    refine wpAnyH_take (i := 40) (v := .string (bs B6)) rfl (by kernel_rfl) (by kernel_rfl) (by kernel_rfl) (fun _ _ _ h => h) (Or.inl ⟨by rfl, fun w' hs => by have zz := (BQ.out.2.2.2.2.1).2; rw [(BQ.out.2.2.2.2.1).1]; go_simp⟩) Sv10.out ?_
    change wpAnyH _ _ _ _ _ _ _ (Act.put _ (some 43) _) _
    simp only [Act.put, List.setIfInBounds_toArray, List.set_cons_zero, List.set_cons_succ]
    refine wpAnyH_take (i := 41) (v := .string (bs B6)) rfl (by kernel_rfl) (by kernel_rfl) (by kernel_rfl) (fun _ _ _ h => h) (Or.inl ⟨by rfl, fun w' hs => by go_simp⟩) Sv10.out ?_
    change wpAnyH _ _ _ _ _ _ _ (Act.put _ (some 2) _) _
    simp only [Act.put, List.setIfInBounds_toArray, List.set_cons_zero, List.set_cons_succ]
    refine wpAnyH_done (by kernel_rfl) ?_ _
    go_wp2_with fail
    go_ret
    exact ⟨by rw [EV.out]; rfl, on B0.out Sv10.out⟩
end Go.Proofs.YtcneipilhlcfkaaDoor
