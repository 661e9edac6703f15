/- Texts of this seat, joined. -/
import Derived.Deep.RegionHeld3
import Derived.BigQuiet
import Derived.Test.YtkfcofjmjbkekaaGreatDoorQ34
import Derived.Test.YtkfcofjmjbkekaaGreatDoorQ35
import Derived.Test.YtkfcofjmjbkekaaGreatDoorQ49
namespace Go.Proofs.YtkfcofjmjbkekaaGreatDoor
open Go.RowKit
set_option linter.unusedVariables false

theorem field_textP (x y : Value) (w : World) : (Instr.field 35 (.agg #[x, y]) 1).run Tryz.prog w = .ok y w := by kernel_rfl
theorem ext_size (S : ByteArray) (i j : Nat) : (S.extract i j).size ≤ S.size := by rw [ByteArray.size_extract]; omega
theorem app_size (a b : ByteArray) : (a ++ b).size = a.size + b.size := ByteArray.size_append
theorem Turn.drewT {b : Nat} {a w : World} (t : Turn b a w) : Turn b a w.drew := ⟨t.os, t.tape, t.output, t.size, t.block⟩
theorem Turn.drewN {b : Nat} {a w : World} (t : Turn b a w) (n : Nat) : Turn b a (w.drewN n) := ⟨t.os, t.tape, t.output, t.size, t.block⟩
theorem drL2 (w : World) (n : Nat) : Below w.heap.size w (w.drewN n) := ⟨rfl, rfl, rfl, Nat.le_refl _, fun _ _ => rfl⟩
theorem Src.sameX {w w' : World} {b k : Nat} {a : Option Addr} {len cap : Nat} {zs : List Int} (s : Src w b k a len cap zs) (h : Below w.heap.size w w') : Src w' b k a len cap zs := s.turn (Turn.of_below (b := w.heap.size) h) (Nat.le_refl _)
set_option maxRecDepth 20000 in
set_option maxHeartbeats 8000000 in
theorem turn_any {w : World} {b k : Nat} {a : Option Addr} {len cap : Nat} {zs : List Int} (s : Src w b k a len cap zs) (hk : k ≤ 90000) (S : ByteArray) (hS : S.size ≤ 100000) :
    Calls Tryz.prog 15 #[.pointer (some ⟨b, 0, none⟩), .string S] w fun e w' => ∃ (T : ByteArray) (k' : Nat), e = .returned (.string T) ∧ T.size ≤ S.size + 4 ∧ k' ≤ k + 3 ∧ Turn b w w' ∧ Src w' b k' a len cap zs := by
  have HS : Hid (Src w b k a len cap zs) := s
  have HK : Hid (k ≤ 90000) := hk
  have HZ : Hid (S.size ≤ 100000) := hS
  clear s hk
  obtain ⟨n, hn⟩ : ∃ n, S.size = n := ⟨_, rfl⟩
  have HN : Hid (S.size = n ∧ n ≤ 100000) := ⟨hn, by omega⟩
  have hnI : (n : Int) ≤ 100000 := by omega
  by_cases h0 : n = 0
  · have hS0 : S = ⟨#[]⟩ := by
      apply ByteArray.ext
      have : S.data.size = 0 := by have := hn; rw [h0] at this; exact this
      exact Array.eq_empty_of_size_eq_zero this
    subst hS0
    clear hS hn h0 hnI
    have lb := HS.out.here
    go_enter Tryz.func15, Tryz.ntmps15
    go_wp2_with fail
    refine (next_any (HS.out.sameX (al (Below.refl _ _) _)) (by have := HK.out; omega) _).mono ?_
    rintro e w1 ⟨v, rfl, hv, _, t1, s1⟩
    obtain ⟨v0, v1⟩ := hv (by decide)
    have T1 : Hid (Turn b w w1) := (Turn.of_below (al (Below.refl _ _) _)).trans t1
    have hb := t1.block w.heap.size (by simp) (by omega)
    have c : ∀ (i : Nat) (x : Value), #[Value.string ⟨#[]⟩, .string ⟨#[32]⟩, .string ⟨#[10]⟩, .string ⟨#[111, 119, 110]⟩][i]? = some x → w1.cell? ⟨w.heap.size, i, none⟩ = some x := fun i x hx => by
      have := cell_new (w := w) (cs := #[Value.string ⟨#[]⟩, .string ⟨#[32]⟩, .string ⟨#[10]⟩, .string ⟨#[111, 119, 110]⟩]) (t := 9) hx
      unfold World.cell? at this ⊢
      rw [hb]
      exact this
    have c0 := c 0 _ rfl
    have c1 := c 1 _ rfl
    have c2 := c 2 _ rfl
    have c3 := c 3 _ rfl
    have S1 : Hid (Src w1 b (k + 1) a len cap zs) := s1
    clear c hb t1 s1 hv
    by_cases e0 : v = 0
    · subst e0
      go_wp2_with fail
      go_ret
      exact ⟨_, k + 1, rfl, by decide, by omega, T1.out, S1.out⟩
    by_cases e1 : v = 1
    · subst e1
      go_wp2_with fail
      go_ret
      exact ⟨_, k + 1, rfl, by decide, by omega, T1.out, S1.out⟩
    by_cases e2 : v = 2
    · subst e2
      go_wp2_with fail
      go_ret
      exact ⟨_, k + 1, rfl, by decide, by omega, T1.out, S1.out⟩
    obtain rfl : v = 3 := by omega
    go_wp2_with fail
    go_ret
    exact ⟨_, k + 1, rfl, by decide, by omega, T1.out, S1.out⟩
  have es : S.toList.isEmpty = false := by
    rw [ByteArray.toList_eq]
    cases hd : S.data.toList with
    | nil => exact absurd (by rw [← hn]; show S.data.size = 0; rw [← Array.length_toList, hd]; rfl) h0
    | cons c r => rfl
  have hz : S.size = n := hn
  go_enter Tryz.func15, Tryz.ntmps15
  go_wp2_with fail
  refine (next_any HS.out (by have := HK.out; omega) _).mono ?_
  rintro e w1 ⟨i, rfl, hi, _, t1, s1⟩
  obtain ⟨i0, i1⟩ := hi (by omega)
  obtain ⟨j, rfl⟩ : ∃ j : Nat, (j : Int) = i := ⟨i.toNat, by omega⟩
  have HI : Hid (j < n) := by show _ < _; omega
  have T1 : Hid (Turn b w w1) := t1
  have S1 : Hid (Src w1 b (k + 1) a len cap zs) := s1
  clear t1 s1 hi es hn h0 hS
  go_wp2_with fail
  refine (next_any S1.out (by have := HK.out; omega) _).mono ?_
  rintro e w2 ⟨c, rfl, hc, _, t2, s2⟩
  obtain ⟨c0, c1⟩ := hc (by decide)
  have T2 : Hid (Turn b w w2) := T1.out.trans t2
  have S2 : Hid (Src w2 b (k + 2) a len cap zs) := s2
  clear t2 s2 hc T1 S1
  have wj : IntKind.i64.wrap ((j : Int) + 1) = (j : Int) + 1 := by rw [IntKind.wrap_i64]; have := HI.out; have := HN.out; omega
  have hj1 : (j : Int) + 1 ≤ (n : Int) := by have := HI.out; omega
  by_cases e0 : c = 0
  · subst e0
    go_wp2_with fail
    go_quiet (fail)
    go_wp2_with fail
    go_ret
    exact ⟨_, k + 2, rfl, by have := ext_size S 0 j; have := ext_size S (j + 1) S.size; have := HN.out; rw [app_size]; rw [ByteArray.size_extract, ByteArray.size_extract]; omega, by omega, T2.out.drewN _, S2.out.sameX (drL2 _ _)⟩
  by_cases e1 : c = 1
  · subst e1
    go_wp2_with fail
    refine wp_region_held (S := fun w' => Turn b w2 w') (by kernel_rfl) ?_
    change wpAnyH _ _ _ _ _ _ _ _ (World.drew _)
    have SD : Hid (Turn b w2 w2.drew) := (Turn.refl _ _).drewT
    have S3 : Hid (Src w2.drew b (k + 2) a len cap zs) := S2.out.sameX ((Below.refl _ _).drew)
    have lb : b < w2.drew.heap.size := S3.out.here
    have hjn : j ≤ n := by have := HI.out; omega
    generalize w2.drew = u0 at *
    refine wpAnyH_take (i := 0) (v := (.string S)) rfl (by kernel_rfl) (by kernel_rfl) (by kernel_rfl) (fun _ _ _ h => h) (Or.inl ⟨by rfl, fun w' hs => by go_simp⟩) SD.out ?_
    change wpAnyH _ _ _ _ _ _ _ (Act.put _ (some 31) _) _
    simp only [Act.put, List.setIfInBounds_toArray, List.set_cons_zero, List.set_cons_succ]
    refine wpAnyH_take (i := 1) (v := (.int .i64 (j : Int))) rfl (by kernel_rfl) (by kernel_rfl) (by kernel_rfl) (fun _ _ _ h => h) (Or.inl ⟨by rfl, fun w' hs => by go_simp⟩) SD.out ?_
    change wpAnyH _ _ _ _ _ _ _ (Act.put _ (some 32) _) _
    simp only [Act.put, List.setIfInBounds_toArray, List.set_cons_zero, List.set_cons_succ]
    refine wpAnyH_take (i := 2) (v := (.string (S.extract 0 j))) rfl (by kernel_rfl) (by kernel_rfl) (by kernel_rfl) (fun _ _ _ h => h) (Or.inl ⟨by rfl, fun w' hs => by go_simp⟩) SD.out ?_
    change wpAnyH _ _ _ _ _ _ _ (Act.put _ (some 33) _) _
    simp only [Act.put, List.setIfInBounds_toArray, List.set_cons_zero, List.set_cons_succ]
    refine wpAnyH_take (i := 4) (v := (.pointer (some ⟨b, 0, none⟩))) rfl (by kernel_rfl) (by kernel_rfl) (by kernel_rfl) (fun _ _ _ h => h) (Or.inl ⟨by rfl, fun w' hs => by go_simp⟩) SD.out ?_
    change wpAnyH _ _ _ _ _ _ _ (Act.put _ (some 35) _) _
    simp only [Act.put, List.setIfInBounds_toArray, List.set_cons_zero, List.set_cons_succ]
    refine wpAnyH_take (i := 9) (v := (.string S)) rfl (by kernel_rfl) (by kernel_rfl) (by kernel_rfl) (fun _ _ _ h => h) (Or.inl ⟨by rfl, fun w' hs => by go_simp⟩) SD.out ?_
    change wpAnyH _ _ _ _ _ _ _ (Act.put _ (some 40) _) _
    simp only [Act.put, List.setIfInBounds_toArray, List.set_cons_zero, List.set_cons_succ]
    refine wpAnyH_take (i := 10) (v := (.int .i64 (j : Int))) rfl (by kernel_rfl) (by kernel_rfl) (by kernel_rfl) (fun _ _ _ h => h) (Or.inl ⟨by rfl, fun w' hs => by go_simp⟩) SD.out ?_
    change wpAnyH _ _ _ _ _ _ _ (Act.put _ (some 41) _) _
    simp only [Act.put, List.setIfInBounds_toArray, List.set_cons_zero, List.set_cons_succ]
    refine wpAnyH_take (i := 11) (v := (.string (S.extract j n))) rfl (by kernel_rfl) (by kernel_rfl) (by kernel_rfl) (fun _ _ _ h => h) (Or.inl ⟨by rfl, fun w' hs => by go_simp⟩) SD.out ?_
    change wpAnyH _ _ _ _ _ _ _ (Act.put _ (some 42) _) _
    simp only [Act.put, List.setIfInBounds_toArray, List.set_cons_zero, List.set_cons_succ]
    refine wpAnyH_ready (rs := [3, 5]) (by kernel_rfl) (by simp) ?_
    refine AllReadyH.cons rfl (fun K hK => ?_) (AllReadyH.cons rfl (fun K hK => ?_) AllReadyH.nil)
    · rw [if_pos (by rfl)]
      go_simp
      have SA : Hid (Turn b w2 (u0.alloc (.cells #[.string ⟨#[32]⟩, .string ⟨#[10]⟩, .string ⟨#[48]⟩, .string ⟨#[57]⟩, .string ⟨#[120]⟩] 9))) := SD.out.trans (Turn.of_below (al (Below.refl _ _) _))
      refine hK.out _ _ SA.out (fun _ => ?_)
      clear hK K
      refine wpAnyH_ready (rs := [5]) (by kernel_rfl) (by simp) ?_
      refine AllReadyH.cons rfl (fun K hK => ?_) AllReadyH.nil
      rw [if_pos (by rfl)]
      go_simp
      refine (next_any (S3.out.sameX (al (Below.refl _ _) _)) (by have := HK.out; omega) _).mono ?_
      rintro e X ⟨v, rfl, hv, _, t3, s3⟩
      obtain ⟨v0, v1⟩ := hv (by decide)
      have SX : Hid (Turn b w2 X) := SA.out.trans t3
      have hbl := t3.block u0.heap.size (by simp) (by omega)
      have hcell : ∀ (i : Nat) (x : Value), #[.string ⟨#[32]⟩, .string ⟨#[10]⟩, .string ⟨#[48]⟩, .string ⟨#[57]⟩, .string ⟨#[120]⟩][i]? = some x → X.cell? ⟨u0.heap.size, i, none⟩ = some x := fun i x hx => by
        have := cell_new (w := u0) (cs := #[.string ⟨#[32]⟩, .string ⟨#[10]⟩, .string ⟨#[48]⟩, .string ⟨#[57]⟩, .string ⟨#[120]⟩]) (t := 9) hx
        unfold World.cell? at this ⊢
        rw [hbl]
        exact this
      have s4 := s3
      refine hK.out _ _ SX.out (fun _ => ?_)
      clear hK K SA hbl t3 s3 hv
      generalize u0.heap.size = L at *
      have S4 : Hid (Src X b (k + 3) a len cap zs) := s4
      have T4 : Hid (Turn b w X) := T2.out.trans SX.out
      have hc : ∀ (i : Nat) (x : Value), #[.string ⟨#[32]⟩, .string ⟨#[10]⟩, .string ⟨#[48]⟩, .string ⟨#[57]⟩, .string ⟨#[120]⟩][i]? = some x → X.cell? ⟨L, i, none⟩ = some x := hcell
      have q0 := hc 0 _ rfl
      have q1 := hc 1 _ rfl
      have q2 := hc 2 _ rfl
      have q3 := hc 3 _ rfl
      have q4 := hc 4 _ rfl
      clear hc hcell s4
      have hv5 : v = 0 ∨ v = 1 ∨ v = 2 ∨ v = 3 ∨ v = 4 := by omega
      rcases hv5 with rfl | rfl | rfl | rfl | rfl
      · refine wpAnyH_take (i := 6) (v := (.pointer (some ⟨L, 0, none⟩))) rfl (by kernel_rfl) (by kernel_rfl) (by kernel_rfl) (fun _ _ _ h => h) (Or.inl ⟨by rfl, fun w' hs => by go_simp⟩) SX.out ?_
        change wpAnyH _ _ _ _ _ _ _ (Act.put _ (some 37) _) _
        simp only [Act.put, List.setIfInBounds_toArray, List.set_cons_zero, List.set_cons_succ]
        refine wpAnyH_ready (rs := [7]) (by kernel_rfl) (by simp) ?_
        refine AllReadyH.cons rfl (fun K hK => ?_) AllReadyH.nil
        rw [if_pos (by rfl)]
        go_simp
        refine hK.out _ _ SX.out (fun _ => ?_)
        clear hK K
        refine wpAnyH_take (i := 8) (v := (.string (S.extract 0 j ++ ⟨#[32]⟩))) rfl (by kernel_rfl) (by kernel_rfl) (by kernel_rfl) (fun _ _ _ h => h) (Or.inl ⟨by rfl, fun w' hs => by go_simp; have := HN.out; omega⟩) SX.out ?_
        change wpAnyH _ _ _ _ _ _ _ (Act.put _ (some 39) _) _
        simp only [Act.put, List.setIfInBounds_toArray, List.set_cons_zero, List.set_cons_succ]
        refine wpAnyH_take (i := 12) (v := (.string ((S.extract 0 j ++ ⟨#[32]⟩) ++ S.extract j n))) rfl (by kernel_rfl) (by kernel_rfl) (by kernel_rfl) (fun _ _ _ h => h) (Or.inl ⟨by rfl, fun w' hs => by go_simp; have := HN.out; have := HI.out; omega⟩) SX.out ?_
        change wpAnyH _ _ _ _ _ _ _ (Act.put _ (some 43) _) _
        simp only [Act.put, List.setIfInBounds_toArray, List.set_cons_zero, List.set_cons_succ]
        refine wpAnyH_take (i := 13) (v := (.string ((S.extract 0 j ++ ⟨#[32]⟩) ++ S.extract j n))) rfl (by kernel_rfl) (by kernel_rfl) (by kernel_rfl) (fun _ _ _ h => h) (Or.inl ⟨by rfl, fun w' hs => by go_simp⟩) SX.out ?_
        change wpAnyH _ _ _ _ _ _ _ (Act.put _ (some 4) _) _
        simp only [Act.put, List.setIfInBounds_toArray, List.set_cons_zero, List.set_cons_succ]
        refine wpAnyH_done (by kernel_rfl) ?_ _
        go_wp2_with fail
        go_ret
        first | exact ⟨_, k + 3, rfl, by have := HN.out; have := HI.out; rw [app_size, app_size, ByteArray.size_extract, ByteArray.size_extract]; show _ + 1 + _ ≤ _; omega, by omega, T4.out, S4.out⟩ | exact ⟨_, rfl, by have := HN.out; have := HI.out; rw [app_size, app_size, ByteArray.size_extract, ByteArray.size_extract]; show _ + 1 + _ ≤ _; omega, k + 3, by omega, T4.out, S4.out⟩
      · refine wpAnyH_take (i := 6) (v := (.pointer (some ⟨L, 1, none⟩))) rfl (by kernel_rfl) (by kernel_rfl) (by kernel_rfl) (fun _ _ _ h => h) (Or.inl ⟨by rfl, fun w' hs => by go_simp⟩) SX.out ?_
        change wpAnyH _ _ _ _ _ _ _ (Act.put _ (some 37) _) _
        simp only [Act.put, List.setIfInBounds_toArray, List.set_cons_zero, List.set_cons_succ]
        refine wpAnyH_ready (rs := [7]) (by kernel_rfl) (by simp) ?_
        refine AllReadyH.cons rfl (fun K hK => ?_) AllReadyH.nil
        rw [if_pos (by rfl)]
        go_simp
        refine hK.out _ _ SX.out (fun _ => ?_)
        clear hK K
        refine wpAnyH_take (i := 8) (v := (.string (S.extract 0 j ++ ⟨#[10]⟩))) rfl (by kernel_rfl) (by kernel_rfl) (by kernel_rfl) (fun _ _ _ h => h) (Or.inl ⟨by rfl, fun w' hs => by go_simp; have := HN.out; omega⟩) SX.out ?_
        change wpAnyH _ _ _ _ _ _ _ (Act.put _ (some 39) _) _
        simp only [Act.put, List.setIfInBounds_toArray, List.set_cons_zero, List.set_cons_succ]
        refine wpAnyH_take (i := 12) (v := (.string ((S.extract 0 j ++ ⟨#[10]⟩) ++ S.extract j n))) rfl (by kernel_rfl) (by kernel_rfl) (by kernel_rfl) (fun _ _ _ h => h) (Or.inl ⟨by rfl, fun w' hs => by go_simp; have := HN.out; have := HI.out; omega⟩) SX.out ?_
        change wpAnyH _ _ _ _ _ _ _ (Act.put _ (some 43) _) _
        simp only [Act.put, List.setIfInBounds_toArray, List.set_cons_zero, List.set_cons_succ]
        refine wpAnyH_take (i := 13) (v := (.string ((S.extract 0 j ++ ⟨#[10]⟩) ++ S.extract j n))) rfl (by kernel_rfl) (by kernel_rfl) (by kernel_rfl) (fun _ _ _ h => h) (Or.inl ⟨by rfl, fun w' hs => by go_simp⟩) SX.out ?_
        change wpAnyH _ _ _ _ _ _ _ (Act.put _ (some 4) _) _
        simp only [Act.put, List.setIfInBounds_toArray, List.set_cons_zero, List.set_cons_succ]
        refine wpAnyH_done (by kernel_rfl) ?_ _
        go_wp2_with fail
        go_ret
        first | exact ⟨_, k + 3, rfl, by have := HN.out; have := HI.out; rw [app_size, app_size, ByteArray.size_extract, ByteArray.size_extract]; show _ + 1 + _ ≤ _; omega, by omega, T4.out, S4.out⟩ | exact ⟨_, rfl, by have := HN.out; have := HI.out; rw [app_size, app_size, ByteArray.size_extract, ByteArray.size_extract]; show _ + 1 + _ ≤ _; omega, k + 3, by omega, T4.out, S4.out⟩
      · refine wpAnyH_take (i := 6) (v := (.pointer (some ⟨L, 2, none⟩))) rfl (by kernel_rfl) (by kernel_rfl) (by kernel_rfl) (fun _ _ _ h => h) (Or.inl ⟨by rfl, fun w' hs => by go_simp⟩) SX.out ?_
        change wpAnyH _ _ _ _ _ _ _ (Act.put _ (some 37) _) _
        simp only [Act.put, List.setIfInBounds_toArray, List.set_cons_zero, List.set_cons_succ]
        refine wpAnyH_ready (rs := [7]) (by kernel_rfl) (by simp) ?_
        refine AllReadyH.cons rfl (fun K hK => ?_) AllReadyH.nil
        rw [if_pos (by rfl)]
        go_simp
        refine hK.out _ _ SX.out (fun _ => ?_)
        clear hK K
        refine wpAnyH_take (i := 8) (v := (.string (S.extract 0 j ++ ⟨#[48]⟩))) rfl (by kernel_rfl) (by kernel_rfl) (by kernel_rfl) (fun _ _ _ h => h) (Or.inl ⟨by rfl, fun w' hs => by go_simp; have := HN.out; omega⟩) SX.out ?_
        change wpAnyH _ _ _ _ _ _ _ (Act.put _ (some 39) _) _
        simp only [Act.put, List.setIfInBounds_toArray, List.set_cons_zero, List.set_cons_succ]
        refine wpAnyH_take (i := 12) (v := (.string ((S.extract 0 j ++ ⟨#[48]⟩) ++ S.extract j n))) rfl (by kernel_rfl) (by kernel_rfl) (by kernel_rfl) (fun _ _ _ h => h) (Or.inl ⟨by rfl, fun w' hs => by go_simp; have := HN.out; have := HI.out; omega⟩) SX.out ?_
        change wpAnyH _ _ _ _ _ _ _ (Act.put _ (some 43) _) _
        simp only [Act.put, List.setIfInBounds_toArray, List.set_cons_zero, List.set_cons_succ]
        refine wpAnyH_take (i := 13) (v := (.string ((S.extract 0 j ++ ⟨#[48]⟩) ++ S.extract j n))) rfl (by kernel_rfl) (by kernel_rfl) (by kernel_rfl) (fun _ _ _ h => h) (Or.inl ⟨by rfl, fun w' hs => by go_simp⟩) SX.out ?_
        change wpAnyH _ _ _ _ _ _ _ (Act.put _ (some 4) _) _
        simp only [Act.put, List.setIfInBounds_toArray, List.set_cons_zero, List.set_cons_succ]
        refine wpAnyH_done (by kernel_rfl) ?_ _
        go_wp2_with fail
        go_ret
        first | exact ⟨_, k + 3, rfl, by have := HN.out; have := HI.out; rw [app_size, app_size, ByteArray.size_extract, ByteArray.size_extract]; show _ + 1 + _ ≤ _; omega, by omega, T4.out, S4.out⟩ | exact ⟨_, rfl, by have := HN.out; have := HI.out; rw [app_size, app_size, ByteArray.size_extract, ByteArray.size_extract]; show _ + 1 + _ ≤ _; omega, k + 3, by omega, T4.out, S4.out⟩
      · refine wpAnyH_take (i := 6) (v := (.pointer (some ⟨L, 3, none⟩))) rfl (by kernel_rfl) (by kernel_rfl) (by kernel_rfl) (fun _ _ _ h => h) (Or.inl ⟨by rfl, fun w' hs => by go_simp⟩) SX.out ?_
        change wpAnyH _ _ _ _ _ _ _ (Act.put _ (some 37) _) _
        simp only [Act.put, List.setIfInBounds_toArray, List.set_cons_zero, List.set_cons_succ]
        refine wpAnyH_ready (rs := [7]) (by kernel_rfl) (by simp) ?_
        refine AllReadyH.cons rfl (fun K hK => ?_) AllReadyH.nil
        rw [if_pos (by rfl)]
        go_simp
        refine hK.out _ _ SX.out (fun _ => ?_)
        clear hK K
        refine wpAnyH_take (i := 8) (v := (.string (S.extract 0 j ++ ⟨#[57]⟩))) rfl (by kernel_rfl) (by kernel_rfl) (by kernel_rfl) (fun _ _ _ h => h) (Or.inl ⟨by rfl, fun w' hs => by go_simp; have := HN.out; omega⟩) SX.out ?_
        change wpAnyH _ _ _ _ _ _ _ (Act.put _ (some 39) _) _
        simp only [Act.put, List.setIfInBounds_toArray, List.set_cons_zero, List.set_cons_succ]
        refine wpAnyH_take (i := 12) (v := (.string ((S.extract 0 j ++ ⟨#[57]⟩) ++ S.extract j n))) rfl (by kernel_rfl) (by kernel_rfl) (by kernel_rfl) (fun _ _ _ h => h) (Or.inl ⟨by rfl, fun w' hs => by go_simp; have := HN.out; have := HI.out; omega⟩) SX.out ?_
        change wpAnyH _ _ _ _ _ _ _ (Act.put _ (some 43) _) _
        simp only [Act.put, List.setIfInBounds_toArray, List.set_cons_zero, List.set_cons_succ]
        refine wpAnyH_take (i := 13) (v := (.string ((S.extract 0 j ++ ⟨#[57]⟩) ++ S.extract j n))) rfl (by kernel_rfl) (by kernel_rfl) (by kernel_rfl) (fun _ _ _ h => h) (Or.inl ⟨by rfl, fun w' hs => by go_simp⟩) SX.out ?_
        change wpAnyH _ _ _ _ _ _ _ (Act.put _ (some 4) _) _
        simp only [Act.put, List.setIfInBounds_toArray, List.set_cons_zero, List.set_cons_succ]
        refine wpAnyH_done (by kernel_rfl) ?_ _
        go_wp2_with fail
        go_ret
        first | exact ⟨_, k + 3, rfl, by have := HN.out; have := HI.out; rw [app_size, app_size, ByteArray.size_extract, ByteArray.size_extract]; show _ + 1 + _ ≤ _; omega, by omega, T4.out, S4.out⟩ | exact ⟨_, rfl, by have := HN.out; have := HI.out; rw [app_size, app_size, ByteArray.size_extract, ByteArray.size_extract]; show _ + 1 + _ ≤ _; omega, k + 3, by omega, T4.out, S4.out⟩
      · refine wpAnyH_take (i := 6) (v := (.pointer (some ⟨L, 4, none⟩))) rfl (by kernel_rfl) (by kernel_rfl) (by kernel_rfl) (fun _ _ _ h => h) (Or.inl ⟨by rfl, fun w' hs => by go_simp⟩) SX.out ?_
        change wpAnyH _ _ _ _ _ _ _ (Act.put _ (some 37) _) _
        simp only [Act.put, List.setIfInBounds_toArray, List.set_cons_zero, List.set_cons_succ]
        refine wpAnyH_ready (rs := [7]) (by kernel_rfl) (by simp) ?_
        refine AllReadyH.cons rfl (fun K hK => ?_) AllReadyH.nil
        rw [if_pos (by rfl)]
        go_simp
        refine hK.out _ _ SX.out (fun _ => ?_)
        clear hK K
        refine wpAnyH_take (i := 8) (v := (.string (S.extract 0 j ++ ⟨#[120]⟩))) rfl (by kernel_rfl) (by kernel_rfl) (by kernel_rfl) (fun _ _ _ h => h) (Or.inl ⟨by rfl, fun w' hs => by go_simp; have := HN.out; omega⟩) SX.out ?_
        change wpAnyH _ _ _ _ _ _ _ (Act.put _ (some 39) _) _
        simp only [Act.put, List.setIfInBounds_toArray, List.set_cons_zero, List.set_cons_succ]
        refine wpAnyH_take (i := 12) (v := (.string ((S.extract 0 j ++ ⟨#[120]⟩) ++ S.extract j n))) rfl (by kernel_rfl) (by kernel_rfl) (by kernel_rfl) (fun _ _ _ h => h) (Or.inl ⟨by rfl, fun w' hs => by go_simp; have := HN.out; have := HI.out; omega⟩) SX.out ?_
        change wpAnyH _ _ _ _ _ _ _ (Act.put _ (some 43) _) _
        simp only [Act.put, List.setIfInBounds_toArray, List.set_cons_zero, List.set_cons_succ]
        refine wpAnyH_take (i := 13) (v := (.string ((S.extract 0 j ++ ⟨#[120]⟩) ++ S.extract j n))) rfl (by kernel_rfl) (by kernel_rfl) (by kernel_rfl) (fun _ _ _ h => h) (Or.inl ⟨by rfl, fun w' hs => by go_simp⟩) SX.out ?_
        change wpAnyH _ _ _ _ _ _ _ (Act.put _ (some 4) _) _
        simp only [Act.put, List.setIfInBounds_toArray, List.set_cons_zero, List.set_cons_succ]
        refine wpAnyH_done (by kernel_rfl) ?_ _
        go_wp2_with fail
        go_ret
        first | exact ⟨_, k + 3, rfl, by have := HN.out; have := HI.out; rw [app_size, app_size, ByteArray.size_extract, ByteArray.size_extract]; show _ + 1 + _ ≤ _; omega, by omega, T4.out, S4.out⟩ | exact ⟨_, rfl, by have := HN.out; have := HI.out; rw [app_size, app_size, ByteArray.size_extract, ByteArray.size_extract]; show _ + 1 + _ ≤ _; omega, k + 3, by omega, T4.out, S4.out⟩
    · rw [if_pos (by rfl)]
      go_simp
      refine (next_any (S3.out) (by have := HK.out; omega) _).mono ?_
      rintro e X ⟨v, rfl, hv, _, t3, s3⟩
      obtain ⟨v0, v1⟩ := hv (by decide)
      have SA : Hid (Turn b w2 X) := SD.out.trans t3
      have S9 : Hid (Src X b (k + 3) a len cap zs) := s3
      refine hK.out _ _ SA.out (fun _ => ?_)
      clear hK K t3 s3 hv
      refine wpAnyH_ready (rs := [3]) (by kernel_rfl) (by simp) ?_
      refine AllReadyH.cons rfl (fun K hK => ?_) AllReadyH.nil
      rw [if_pos (by rfl)]
      go_simp
      have SX : Hid (Turn b w2 (X.alloc (.cells #[.string ⟨#[32]⟩, .string ⟨#[10]⟩, .string ⟨#[48]⟩, .string ⟨#[57]⟩, .string ⟨#[120]⟩] 9))) := SA.out.trans (Turn.of_below (al (Below.refl _ _) _))
      have hcell : ∀ (i : Nat) (x : Value), #[.string ⟨#[32]⟩, .string ⟨#[10]⟩, .string ⟨#[48]⟩, .string ⟨#[57]⟩, .string ⟨#[120]⟩][i]? = some x → (X.alloc (.cells #[.string ⟨#[32]⟩, .string ⟨#[10]⟩, .string ⟨#[48]⟩, .string ⟨#[57]⟩, .string ⟨#[120]⟩] 9)).cell? ⟨X.heap.size, i, none⟩ = some x := fun i x hx => cell_new hx
      have s4 := S9.out.sameX (al (Below.refl _ _) (.cells #[.string ⟨#[32]⟩, .string ⟨#[10]⟩, .string ⟨#[48]⟩, .string ⟨#[57]⟩, .string ⟨#[120]⟩] 9))
      refine hK.out _ _ SX.out (fun _ => ?_)
      clear hK K SA S9
      generalize X.heap.size = L at *
      generalize X.alloc (.cells #[.string ⟨#[32]⟩, .string ⟨#[10]⟩, .string ⟨#[48]⟩, .string ⟨#[57]⟩, .string ⟨#[120]⟩] 9) = X at *
      have S4 : Hid (Src X b (k + 3) a len cap zs) := s4
      have T4 : Hid (Turn b w X) := T2.out.trans SX.out
      have hc : ∀ (i : Nat) (x : Value), #[.string ⟨#[32]⟩, .string ⟨#[10]⟩, .string ⟨#[48]⟩, .string ⟨#[57]⟩, .string ⟨#[120]⟩][i]? = some x → X.cell? ⟨L, i, none⟩ = some x := hcell
      have q0 := hc 0 _ rfl
      have q1 := hc 1 _ rfl
      have q2 := hc 2 _ rfl
      have q3 := hc 3 _ rfl
      have q4 := hc 4 _ rfl
      clear hc hcell s4
      have hv5 : v = 0 ∨ v = 1 ∨ v = 2 ∨ v = 3 ∨ v = 4 := by omega
      rcases hv5 with rfl | rfl | rfl | rfl | rfl
      · refine wpAnyH_take (i := 6) (v := (.pointer (some ⟨L, 0, none⟩))) rfl (by kernel_rfl) (by kernel_rfl) (by kernel_rfl) (fun _ _ _ h => h) (Or.inl ⟨by rfl, fun w' hs => by go_simp⟩) SX.out ?_
        change wpAnyH _ _ _ _ _ _ _ (Act.put _ (some 37) _) _
        simp only [Act.put, List.setIfInBounds_toArray, List.set_cons_zero, List.set_cons_succ]
        refine wpAnyH_ready (rs := [7]) (by kernel_rfl) (by simp) ?_
        refine AllReadyH.cons rfl (fun K hK => ?_) AllReadyH.nil
        rw [if_pos (by rfl)]
        go_simp
        refine hK.out _ _ SX.out (fun _ => ?_)
        clear hK K
        refine wpAnyH_take (i := 8) (v := (.string (S.extract 0 j ++ ⟨#[32]⟩))) rfl (by kernel_rfl) (by kernel_rfl) (by kernel_rfl) (fun _ _ _ h => h) (Or.inl ⟨by rfl, fun w' hs => by go_simp; have := HN.out; omega⟩) SX.out ?_
        change wpAnyH _ _ _ _ _ _ _ (Act.put _ (some 39) _) _
        simp only [Act.put, List.setIfInBounds_toArray, List.set_cons_zero, List.set_cons_succ]
        refine wpAnyH_take (i := 12) (v := (.string ((S.extract 0 j ++ ⟨#[32]⟩) ++ S.extract j n))) rfl (by kernel_rfl) (by kernel_rfl) (by kernel_rfl) (fun _ _ _ h => h) (Or.inl ⟨by rfl, fun w' hs => by go_simp; have := HN.out; have := HI.out; omega⟩) SX.out ?_
        change wpAnyH _ _ _ _ _ _ _ (Act.put _ (some 43) _) _
        simp only [Act.put, List.setIfInBounds_toArray, List.set_cons_zero, List.set_cons_succ]
        refine wpAnyH_take (i := 13) (v := (.string ((S.extract 0 j ++ ⟨#[32]⟩) ++ S.extract j n))) rfl (by kernel_rfl) (by kernel_rfl) (by kernel_rfl) (fun _ _ _ h => h) (Or.inl ⟨by rfl, fun w' hs => by go_simp⟩) SX.out ?_
        change wpAnyH _ _ _ _ _ _ _ (Act.put _ (some 4) _) _
        simp only [Act.put, List.setIfInBounds_toArray, List.set_cons_zero, List.set_cons_succ]
        refine wpAnyH_done (by kernel_rfl) ?_ _
        go_wp2_with fail
        go_ret
        first | exact ⟨_, k + 3, rfl, by have := HN.out; have := HI.out; rw [app_size, app_size, ByteArray.size_extract, ByteArray.size_extract]; show _ + 1 + _ ≤ _; omega, by omega, T4.out, S4.out⟩ | exact ⟨_, rfl, by have := HN.out; have := HI.out; rw [app_size, app_size, ByteArray.size_extract, ByteArray.size_extract]; show _ + 1 + _ ≤ _; omega, k + 3, by omega, T4.out, S4.out⟩
      · refine wpAnyH_take (i := 6) (v := (.pointer (some ⟨L, 1, none⟩))) rfl (by kernel_rfl) (by kernel_rfl) (by kernel_rfl) (fun _ _ _ h => h) (Or.inl ⟨by rfl, fun w' hs => by go_simp⟩) SX.out ?_
        change wpAnyH _ _ _ _ _ _ _ (Act.put _ (some 37) _) _
        simp only [Act.put, List.setIfInBounds_toArray, List.set_cons_zero, List.set_cons_succ]
        refine wpAnyH_ready (rs := [7]) (by kernel_rfl) (by simp) ?_
        refine AllReadyH.cons rfl (fun K hK => ?_) AllReadyH.nil
        rw [if_pos (by rfl)]
        go_simp
        refine hK.out _ _ SX.out (fun _ => ?_)
        clear hK K
        refine wpAnyH_take (i := 8) (v := (.string (S.extract 0 j ++ ⟨#[10]⟩))) rfl (by kernel_rfl) (by kernel_rfl) (by kernel_rfl) (fun _ _ _ h => h) (Or.inl ⟨by rfl, fun w' hs => by go_simp; have := HN.out; omega⟩) SX.out ?_
        change wpAnyH _ _ _ _ _ _ _ (Act.put _ (some 39) _) _
        simp only [Act.put, List.setIfInBounds_toArray, List.set_cons_zero, List.set_cons_succ]
        refine wpAnyH_take (i := 12) (v := (.string ((S.extract 0 j ++ ⟨#[10]⟩) ++ S.extract j n))) rfl (by kernel_rfl) (by kernel_rfl) (by kernel_rfl) (fun _ _ _ h => h) (Or.inl ⟨by rfl, fun w' hs => by go_simp; have := HN.out; have := HI.out; omega⟩) SX.out ?_
        change wpAnyH _ _ _ _ _ _ _ (Act.put _ (some 43) _) _
        simp only [Act.put, List.setIfInBounds_toArray, List.set_cons_zero, List.set_cons_succ]
        refine wpAnyH_take (i := 13) (v := (.string ((S.extract 0 j ++ ⟨#[10]⟩) ++ S.extract j n))) rfl (by kernel_rfl) (by kernel_rfl) (by kernel_rfl) (fun _ _ _ h => h) (Or.inl ⟨by rfl, fun w' hs => by go_simp⟩) SX.out ?_
        change wpAnyH _ _ _ _ _ _ _ (Act.put _ (some 4) _) _
        simp only [Act.put, List.setIfInBounds_toArray, List.set_cons_zero, List.set_cons_succ]
        refine wpAnyH_done (by kernel_rfl) ?_ _
        go_wp2_with fail
        go_ret
        first | exact ⟨_, k + 3, rfl, by have := HN.out; have := HI.out; rw [app_size, app_size, ByteArray.size_extract, ByteArray.size_extract]; show _ + 1 + _ ≤ _; omega, by omega, T4.out, S4.out⟩ | exact ⟨_, rfl, by have := HN.out; have := HI.out; rw [app_size, app_size, ByteArray.size_extract, ByteArray.size_extract]; show _ + 1 + _ ≤ _; omega, k + 3, by omega, T4.out, S4.out⟩
      · refine wpAnyH_take (i := 6) (v := (.pointer (some ⟨L, 2, none⟩))) rfl (by kernel_rfl) (by kernel_rfl) (by kernel_rfl) (fun _ _ _ h => h) (Or.inl ⟨by rfl, fun w' hs => by go_simp⟩) SX.out ?_
        change wpAnyH _ _ _ _ _ _ _ (Act.put _ (some 37) _) _
        simp only [Act.put, List.setIfInBounds_toArray, List.set_cons_zero, List.set_cons_succ]
        refine wpAnyH_ready (rs := [7]) (by kernel_rfl) (by simp) ?_
        refine AllReadyH.cons rfl (fun K hK => ?_) AllReadyH.nil
        rw [if_pos (by rfl)]
        go_simp
        refine hK.out _ _ SX.out (fun _ => ?_)
        clear hK K
        refine wpAnyH_take (i := 8) (v := (.string (S.extract 0 j ++ ⟨#[48]⟩))) rfl (by kernel_rfl) (by kernel_rfl) (by kernel_rfl) (fun _ _ _ h => h) (Or.inl ⟨by rfl, fun w' hs => by go_simp; have := HN.out; omega⟩) SX.out ?_
        change wpAnyH _ _ _ _ _ _ _ (Act.put _ (some 39) _) _
        simp only [Act.put, List.setIfInBounds_toArray, List.set_cons_zero, List.set_cons_succ]
        refine wpAnyH_take (i := 12) (v := (.string ((S.extract 0 j ++ ⟨#[48]⟩) ++ S.extract j n))) rfl (by kernel_rfl) (by kernel_rfl) (by kernel_rfl) (fun _ _ _ h => h) (Or.inl ⟨by rfl, fun w' hs => by go_simp; have := HN.out; have := HI.out; omega⟩) SX.out ?_
        change wpAnyH _ _ _ _ _ _ _ (Act.put _ (some 43) _) _
        simp only [Act.put, List.setIfInBounds_toArray, List.set_cons_zero, List.set_cons_succ]
        refine wpAnyH_take (i := 13) (v := (.string ((S.extract 0 j ++ ⟨#[48]⟩) ++ S.extract j n))) rfl (by kernel_rfl) (by kernel_rfl) (by kernel_rfl) (fun _ _ _ h => h) (Or.inl ⟨by rfl, fun w' hs => by go_simp⟩) SX.out ?_
        change wpAnyH _ _ _ _ _ _ _ (Act.put _ (some 4) _) _
        simp only [Act.put, List.setIfInBounds_toArray, List.set_cons_zero, List.set_cons_succ]
        refine wpAnyH_done (by kernel_rfl) ?_ _
        go_wp2_with fail
        go_ret
        first | exact ⟨_, k + 3, rfl, by have := HN.out; have := HI.out; rw [app_size, app_size, ByteArray.size_extract, ByteArray.size_extract]; show _ + 1 + _ ≤ _; omega, by omega, T4.out, S4.out⟩ | exact ⟨_, rfl, by have := HN.out; have := HI.out; rw [app_size, app_size, ByteArray.size_extract, ByteArray.size_extract]; show _ + 1 + _ ≤ _; omega, k + 3, by omega, T4.out, S4.out⟩
      · refine wpAnyH_take (i := 6) (v := (.pointer (some ⟨L, 3, none⟩))) rfl (by kernel_rfl) (by kernel_rfl) (by kernel_rfl) (fun _ _ _ h => h) (Or.inl ⟨by rfl, fun w' hs => by go_simp⟩) SX.out ?_
        change wpAnyH _ _ _ _ _ _ _ (Act.put _ (some 37) _) _
        simp only [Act.put, List.setIfInBounds_toArray, List.set_cons_zero, List.set_cons_succ]
        refine wpAnyH_ready (rs := [7]) (by kernel_rfl) (by simp) ?_
        refine AllReadyH.cons rfl (fun K hK => ?_) AllReadyH.nil
        rw [if_pos (by rfl)]
        go_simp
        refine hK.out _ _ SX.out (fun _ => ?_)
        clear hK K
        refine wpAnyH_take (i := 8) (v := (.string (S.extract 0 j ++ ⟨#[57]⟩))) rfl (by kernel_rfl) (by kernel_rfl) (by kernel_rfl) (fun _ _ _ h => h) (Or.inl ⟨by rfl, fun w' hs => by go_simp; have := HN.out; omega⟩) SX.out ?_
        change wpAnyH _ _ _ _ _ _ _ (Act.put _ (some 39) _) _
        simp only [Act.put, List.setIfInBounds_toArray, List.set_cons_zero, List.set_cons_succ]
        refine wpAnyH_take (i := 12) (v := (.string ((S.extract 0 j ++ ⟨#[57]⟩) ++ S.extract j n))) rfl (by kernel_rfl) (by kernel_rfl) (by kernel_rfl) (fun _ _ _ h => h) (Or.inl ⟨by rfl, fun w' hs => by go_simp; have := HN.out; have := HI.out; omega⟩) SX.out ?_
        change wpAnyH _ _ _ _ _ _ _ (Act.put _ (some 43) _) _
        simp only [Act.put, List.setIfInBounds_toArray, List.set_cons_zero, List.set_cons_succ]
        refine wpAnyH_take (i := 13) (v := (.string ((S.extract 0 j ++ ⟨#[57]⟩) ++ S.extract j n))) rfl (by kernel_rfl) (by kernel_rfl) (by kernel_rfl) (fun _ _ _ h => h) (Or.inl ⟨by rfl, fun w' hs => by go_simp⟩) SX.out ?_
        change wpAnyH _ _ _ _ _ _ _ (Act.put _ (some 4) _) _
        simp only [Act.put, List.setIfInBounds_toArray, List.set_cons_zero, List.set_cons_succ]
        refine wpAnyH_done (by kernel_rfl) ?_ _
        go_wp2_with fail
        go_ret
        first | exact ⟨_, k + 3, rfl, by have := HN.out; have := HI.out; rw [app_size, app_size, ByteArray.size_extract, ByteArray.size_extract]; show _ + 1 + _ ≤ _; omega, by omega, T4.out, S4.out⟩ | exact ⟨_, rfl, by have := HN.out; have := HI.out; rw [app_size, app_size, ByteArray.size_extract, ByteArray.size_extract]; show _ + 1 + _ ≤ _; omega, k + 3, by omega, T4.out, S4.out⟩
      · refine wpAnyH_take (i := 6) (v := (.pointer (some ⟨L, 4, none⟩))) rfl (by kernel_rfl) (by kernel_rfl) (by kernel_rfl) (fun _ _ _ h => h) (Or.inl ⟨by rfl, fun w' hs => by go_simp⟩) SX.out ?_
        change wpAnyH _ _ _ _ _ _ _ (Act.put _ (some 37) _) _
        simp only [Act.put, List.setIfInBounds_toArray, List.set_cons_zero, List.set_cons_succ]
        refine wpAnyH_ready (rs := [7]) (by kernel_rfl) (by simp) ?_
        refine AllReadyH.cons rfl (fun K hK => ?_) AllReadyH.nil
        rw [if_pos (by rfl)]
        go_simp
        refine hK.out _ _ SX.out (fun _ => ?_)
        clear hK K
        refine wpAnyH_take (i := 8) (v := (.string (S.extract 0 j ++ ⟨#[120]⟩))) rfl (by kernel_rfl) (by kernel_rfl) (by kernel_rfl) (fun _ _ _ h => h) (Or.inl ⟨by rfl, fun w' hs => by go_simp; have := HN.out; omega⟩) SX.out ?_
        change wpAnyH _ _ _ _ _ _ _ (Act.put _ (some 39) _) _
        simp only [Act.put, List.setIfInBounds_toArray, List.set_cons_zero, List.set_cons_succ]
        refine wpAnyH_take (i := 12) (v := (.string ((S.extract 0 j ++ ⟨#[120]⟩) ++ S.extract j n))) rfl (by kernel_rfl) (by kernel_rfl) (by kernel_rfl) (fun _ _ _ h => h) (Or.inl ⟨by rfl, fun w' hs => by go_simp; have := HN.out; have := HI.out; omega⟩) SX.out ?_
        change wpAnyH _ _ _ _ _ _ _ (Act.put _ (some 43) _) _
        simp only [Act.put, List.setIfInBounds_toArray, List.set_cons_zero, List.set_cons_succ]
        refine wpAnyH_take (i := 13) (v := (.string ((S.extract 0 j ++ ⟨#[120]⟩) ++ S.extract j n))) rfl (by kernel_rfl) (by kernel_rfl) (by kernel_rfl) (fun _ _ _ h => h) (Or.inl ⟨by rfl, fun w' hs => by go_simp⟩) SX.out ?_
        change wpAnyH _ _ _ _ _ _ _ (Act.put _ (some 4) _) _
        simp only [Act.put, List.setIfInBounds_toArray, List.set_cons_zero, List.set_cons_succ]
        refine wpAnyH_done (by kernel_rfl) ?_ _
        go_wp2_with fail
        go_ret
        first | exact ⟨_, k + 3, rfl, by have := HN.out; have := HI.out; rw [app_size, app_size, ByteArray.size_extract, ByteArray.size_extract]; show _ + 1 + _ ≤ _; omega, by omega, T4.out, S4.out⟩ | exact ⟨_, rfl, by have := HN.out; have := HI.out; rw [app_size, app_size, ByteArray.size_extract, ByteArray.size_extract]; show _ + 1 + _ ≤ _; omega, k + 3, by omega, T4.out, S4.out⟩
  obtain rfl : c = 2 := by omega
  go_wp2_with fail
  go_ret
  exact ⟨_, k + 2, rfl, by have := ext_size S 0 j; omega, by omega, T2.out, S2.out⟩
set_option maxRecDepth 20000 in
set_option maxHeartbeats 8000000 in
theorem drawFormat {w : World} {a : Option Addr} {len cap : Nat} {zs : List Int} (hr : IsRow .u8 w a len cap zs) :
    Calls Tryz.prog 9 #[.slice a len cap] w fun e w' => ∃ v0 v1 v2 v3 P, e = .returned (.agg #[v0, v1, v2, v3]) ∧ Dv w' w.heap.size v0 v1 v2 v3 P ∧ Below w.heap.size w w' := by
  have HR : Hid (IsRow .u8 w a len cap zs) := hr
  obtain ⟨s0, hs0⟩ : ∃ s, w.heap.size = s := ⟨_, rfl⟩
  have SE : Hid (w.heap.size = s0) := hs0
  clear hr
  go_enter Tryz.func9, Tryz.ntmps9
  go_wp2_with fail
  have A0 : Hid (Below w.heap.size w (w.alloc (.cells #[.slice none 0 0, .slice none 0 0, .slice none 0 0, .slice none 0 0] 30))) := al (Below.refl _ _) _
  have R0 : Hid (Bk (w.alloc (.cells #[.slice none 0 0, .slice none 0 0, .slice none 0 0, .slice none 0 0] 30)) s0 #[.slice none 0 0, .slice none 0 0, .slice none 0 0, .slice none 0 0] 30) := by show Bk _ _ _ _; rw [← hs0]; exact Bk.new _ _ _
  have Z0 : Hid (s0 + 1 = (w.alloc (.cells #[.slice none 0 0, .slice none 0 0, .slice none 0 0, .slice none 0 0] 30)).heap.size) := by show _ = _; simp; omega
  try rw [hs0]
  generalize w.alloc (.cells #[.slice none 0 0, .slice none 0 0, .slice none 0 0, .slice none 0 0] 30) = W at *
  clear hs0
  refine (source_any (HR.out.below A0.out)).mono ?_
  rintro e w1 ⟨rfl, b1, sr⟩
  have B1 : Hid (Below W.heap.size W w1) := b1
  have SR : Hid (Src w1 W.heap.size 0 a len cap zs) := sr
  have R1 : Hid (Bk w1 s0 #[.slice none 0 0, .slice none 0 0, .slice none 0 0, .slice none 0 0] 30) := R0.out.keep b1
  clear b1 sr
  go_wp2_with fail
  refine (bentp_any SR.out (by decide)).mono ?_
  rintro e w2 ⟨_, _, _, _, P, k, rfl, dv, hk, tn, s2⟩
  obtain ⟨a0, c0, a1, c1, a2, c2, a3, c3, e0, e1, e2, e3⟩ := dv.shape
  subst e0 e1 e2 e3
  obtain ⟨n0, hn0⟩ : ∃ n, P.own.length = n := ⟨_, rfl⟩
  obtain ⟨n1, hn1⟩ : ∃ n, P.lanes.length = n := ⟨_, rfl⟩
  obtain ⟨n2, hn2⟩ : ∃ n, P.bells.length = n := ⟨_, rfl⟩
  obtain ⟨n3, hn3⟩ : ∃ n, P.plan.length = n := ⟨_, rfl⟩
  rw [hn0, hn1, hn2, hn3] at dv ⊢
  clear hn0 hn1 hn2 hn3
  have DV : Hid (Dv w2 w1.heap.size (.slice a0 n0 c0) (.slice a1 n1 c1) (.slice a2 n2 c2) (.slice a3 n3 c3) P) := dv
  have B2 : Hid (Below w.heap.size w w2) := by
    have h1 := SE.out
    have h2 := Z0.out
    have h4 := B1.out.size
    have hx := on A0.out B1.out
    exact hx.trans (tn.below (by omega) hx.size)
  have R2 : Hid (Bk w2 s0 #[.slice none 0 0, .slice none 0 0, .slice none 0 0, .slice none 0 0] 30) := R1.out.turn tn (by have := Z0.out; omega)
  have L1 : Hid (s0 < w1.heap.size) := R1.out.lt
  clear dv tn s2 hk
  have p0 := R2.out.cell (i := 0) rfl
  have p1 := R2.out.cell (i := 1) rfl
  have p2 := R2.out.cell (i := 2) rfl
  have p3 := R2.out.cell (i := 3) rfl
  have f0 := R2.out.free 0
  have f1 := R2.out.free 1
  have f2 := R2.out.free 2
  have f3 := R2.out.free 3
  go_wp2_with fail
  have RF := fourR R2.out (.slice a0 n0 c0) (.slice a1 n1 c1) (.slice a2 n2 c2) (.slice a3 n3 c3)
  have DF := (((DV.out.put R2.out (i := 0) (.slice a0 n0 c0)).put (R2.out.set 0 _) (i := 1) (.slice a1 n1 c1)).put ((R2.out.set 0 _).set 1 _) (i := 2) (.slice a2 n2 c2)).put (((R2.out.set 0 _).set 1 _).set 2 _) (i := 3) (.slice a3 n3 c3)
  have z0 := RF.cell (i := 0) rfl
  have z1 := RF.cell (i := 1) rfl
  have z2 := RF.cell (i := 2) rfl
  have z3 := RF.cell (i := 3) rfl
  have hh : w.heap.size ≤ s0 := by have := SE.out; omega
  exact bodyPost_ret (v := .agg #[.slice a0 n0 c0, .slice a1 n1 c1, .slice a2 n2 c2, .slice a3 n3 c3]) (by simp [results, Tryz.results9, go_sem, z0, z1, z2, z3]) rfl ⟨_, _, _, _, P, rfl, DF.mono (by have := L1.out; have := SE.out; omega), (((B2.out.setCell hh _).setCell hh _).setCell hh _).setCell hh _⟩
set_option maxRecDepth 20000 in
set_option maxHeartbeats 8000000 in
theorem drawParse {w : World} {a : Option Addr} {len cap : Nat} {zs : List Int} (hr : IsRow .u8 w a len cap zs) :
    Calls Tryz.prog 5 #[.slice a len cap] w fun e w' => ∃ T : ByteArray, e = .returned (.string T) ∧ T.size ≤ 30000 ∧ Below w.heap.size w w' := by
  have HR : Hid (IsRow .u8 w a len cap zs) := hr
  clear hr
  go_enter Tryz.func5, Tryz.ntmps5
  go_wp2_with fail
  refine (source_any HR.out).mono ?_
  rintro e w1 ⟨rfl, b1, sr⟩
  have B1 : Hid (Below w.heap.size w w1) := b1
  have SR : Hid (Src w1 w.heap.size 0 a len cap zs) := sr
  clear b1 sr
  go_wp2_with fail
  refine (bentp_any SR.out (by decide)).mono ?_
  rintro e w2 ⟨_, _, _, _, P, k, rfl, dv, hk, tn, s2⟩
  obtain ⟨a0, c0, a1, c1, a2, c2, a3, c3, e0, e1, e2, e3⟩ := dv.shape
  subst e0 e1 e2 e3
  have FP := fun w3 (b : Below w2.heap.size w2 w3) => s_formatP _ _ _ _ _ _ _ _ _ _ _ _ P w3 (dv.pl.stay b)
  obtain ⟨n0, hn0⟩ : ∃ n, P.own.length = n := ⟨_, rfl⟩
  obtain ⟨n1, hn1⟩ : ∃ n, P.lanes.length = n := ⟨_, rfl⟩
  obtain ⟨n2, hn2⟩ : ∃ n, P.bells.length = n := ⟨_, rfl⟩
  obtain ⟨n3, hn3⟩ : ∃ n, P.plan.length = n := ⟨_, rfl⟩
  rw [hn0, hn1, hn2, hn3] at FP ⊢
  have B2 : Hid (Below w.heap.size w w2) := B1.out.trans (tn.below (Nat.le_refl _) B1.out.size)
  have S2 : Hid (Src w2 w.heap.size k a len cap zs ∧ k ≤ 200) := ⟨s2, by omega⟩
  have LT : Hid ((bs (fmR P).2).size ≤ 16000) := by
    show _ ≤ _
    rw [bs_size]
    unfold fmR
    by_cases h : pfV P = 0
    · rw [if_pos h]; exact fm3_len (fm_of h) _
    · rw [if_neg h]; show 0 ≤ _; omega
  clear dv tn s2 hk hn0 hn1 hn2 hn3
  generalize bs (fmR P).2 = T0 at *
  generalize (fmR P).1 = C0 at *
  have hf := field_textP
  go_wp2_with (go_at_call 13; refine (FP _ (al (Below.refl _ _) _)).mono ?_; rintro e w3 ⟨rfl, b3⟩; have B3 : Hid (Below w2.heap.size w2 w3) := on (al (Below.refl _ _) _) b3; have S3 : Hid (Src w3 w.heap.size k a len cap zs) := S2.out.1.sameX B3.out; clear b3)
  refine (chance_any S3.out (by have := S2.out.2; omega) _).mono ?_
  rintro e w4 ⟨v, rfl, t4, s4⟩
  have T4 : Hid (Turn w.heap.size w3 w4) := t4
  have S4 : Hid (Src w4 w.heap.size (k + 1) a len cap zs) := s4
  have B4 : Hid (Below w.heap.size w w4) := (B2.out.trans (B3.out.mono B2.out.size)).trans (t4.below (Nat.le_refl _) (Nat.le_trans B2.out.size B3.out.size))
  clear t4 s4
  cases v with
  | false =>
    go_wp2_with fail
    go_ret
    exact ⟨_, rfl, by have := LT.out; omega, B4.out⟩
  | true =>
    go_wp2_with fail
    refine (turn_any S4.out (by have := S2.out.2; omega) T0 (by have := LT.out; omega)).mono ?_
    rintro e w5 ⟨T, k', rfl, hT, _, t5, s5⟩
    go_wp2_with fail
    go_ret
    exact ⟨_, rfl, by have := LT.out; omega, B4.out.trans (t5.below (Nat.le_refl _) B4.out.size)⟩
end Go.Proofs.YtkfcofjmjbkekaaGreatDoor
