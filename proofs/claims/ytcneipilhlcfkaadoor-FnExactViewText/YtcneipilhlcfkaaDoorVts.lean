/- ViewText by the model. -/
import Derived.Test.YtcneipilhlcfkaaDoorVti
namespace Go.Proofs.YtcneipilhlcfkaaDoor
open Go.RowKit
set_option linter.unusedVariables false

set_option maxRecDepth 20000 in
set_option maxHeartbeats 8000000 in
theorem s_viewText (r c i o l m : Value) (H : Ht) (ps zs : List Int) (b : Nat) (w : World) (h : Vm w b r c i o l m H ps zs) (hl : ps.length ≤ 1048576 ∧ zs.length ≤ 1048576) :
    Calls Tryd.prog 12 #[.agg #[r, .int .i64 H.pc, c, .bool H.halted, .bool H.waiting, .bool H.rung, .int .i64 H.done, i, o, l, m]] w fun e w' => e = .returned (.agg #[.int .i64 (vtR H ps zs).1, .string (bs (vtR H ps zs).2)]) ∧ Below w.heap.size w w' := by
  obtain ⟨U, hU⟩ : ∃ U, (vtR H ps zs).1 = U := ⟨_, rfl⟩
  obtain ⟨T, hT⟩ : ∃ T, bs (vtR H ps zs).2 = T := ⟨_, rfl⟩
  rw [hU, hT]
  have HU : Hid ((vtR H ps zs).1 = U ∧ bs (vtR H ps zs).2 = T) := ⟨hU, hT⟩
  clear hU hT
  obtain ⟨a0, k0, e0, _, _, g0⟩ := h.h.r.shape
  obtain ⟨a1, k1, e1, _⟩ := h.h.c.shape
  obtain ⟨a2, k2, e2, _⟩ := h.h.i.shape
  obtain ⟨a3, k3, e3, _⟩ := h.h.o.shape
  obtain ⟨a4, k4, e4, _⟩ := h.pl.shape
  obtain ⟨a5, k5, e5, _⟩ := h.mm.shape
  subst e0 e1 e2 e3 e4 e5
  obtain ⟨n0, hn0⟩ : ∃ n, H.regs.length = n := ⟨_, rfl⟩
  obtain ⟨n1, hn1⟩ : ∃ n, H.csr.length = n := ⟨_, rfl⟩
  obtain ⟨n2, hn2⟩ : ∃ n, H.inn.length = n := ⟨_, rfl⟩
  obtain ⟨n3, hn3⟩ : ∃ n, H.out.length = n := ⟨_, rfl⟩
  obtain ⟨n4, hn4⟩ : ∃ n, ps.length = n := ⟨_, rfl⟩
  obtain ⟨n5, hn5⟩ : ∃ n, zs.length = n := ⟨_, rfl⟩
  rw [hn0] at g0
  rw [hn0, hn1, hn2, hn3, hn4, hn5] at h ⊢
  have HS : Hid (Vm w b (.slice a0 n0 k0) (.slice a1 n1 k1) (.slice a2 n2 k2) (.slice a3 n3 k3) (.slice a4 n4 k4) (.slice a5 n5 k5) H ps zs) := h
  have HL : Hid (ps.length ≤ 1048576 ∧ zs.length ≤ 1048576 ∧ n4 ≤ 1048576 ∧ n5 ≤ 1048576) := ⟨hl.1, hl.2, by have := hl.1; omega, by have := hl.2; omega⟩
  have G0 : Hid (0 < n0 → ∃ g, a0 = some ⟨g, 0, none⟩) := g0
  have N0 : Hid (H.regs.length = n0 ∧ H.inn.length = n2 ∧ H.out.length = n3) := ⟨hn0, hn2, hn3⟩
  clear h hl g0 hn0 hn1 hn2 hn3 hn4 hn5
  generalize hW : (w.alloc (.cells #[.slice a0 n0 k0, .int .i64 H.pc, .slice a1 n1 k1, .bool H.halted, .bool H.waiting, .bool H.rung, .int .i64 H.done, .slice a2 n2 k2, .slice a3 n3 k3, .slice a4 n4 k4, .slice a5 n5 k5] 45)).alloc (.cells #[.int .i64 0, .string ⟨#[]⟩] 30) = W
  have B0 : Hid (Below w.heap.size w W) := by show Below _ _ _; rw [← hW]; exact al (al (Below.refl _ _) _) _
  obtain ⟨s, hS⟩ : ∃ s, w.heap.size = s := ⟨_, rfl⟩
  have HSs : Hid (w.heap.size = s) := hS
  have Q : Hid (Vb W s #[.slice a0 n0 k0, .int .i64 H.pc, .slice a1 n1 k1, .bool H.halted, .bool H.waiting, .bool H.rung, .int .i64 H.done, .slice a2 n2 k2, .slice a3 n3 k3, .slice a4 n4 k4, .slice a5 n5 k5] 45) := by show Vb _ _ _ _; rw [← hW, ← hS]; exact (Vb.new _ _ _).push _
  have R : Hid (Vb W (s + 1) #[.int .i64 0, .string ⟨#[]⟩] 30) := by
    have z1 : s + 1 = (w.alloc (.cells #[.slice a0 n0 k0, .int .i64 H.pc, .slice a1 n1 k1, .bool H.halted, .bool H.waiting, .bool H.rung, .int .i64 H.done, .slice a2 n2 k2, .slice a3 n3 k3, .slice a4 n4 k4, .slice a5 n5 k5] 45)).heap.size := by rw [← hS]; simp
    show Vb _ _ _ _; rw [← hW, z1]; exact Vb.new _ _ _
  have q0 := Q.out.cell 0 rfl
  have q1 := Q.out.cell 1 rfl
  have q2 := Q.out.cell 2 rfl
  have q3 := Q.out.cell 3 rfl
  have q4 := Q.out.cell 4 rfl
  have q5 := Q.out.cell 5 rfl
  have q6 := Q.out.cell 6 rfl
  have q7 := Q.out.cell 7 rfl
  have q8 := Q.out.cell 8 rfl
  go_enter Tryd.func12, Tryd.ntmps12
  go_wp2_with fail
  refine (s_faultC s _ _ _ _ H _ _ (HS.out.h.keep B0.out) q0 q1 q2 q6 q7 q8).mono ?_
  rintro e w1 ⟨rfl, hw1⟩
  have b1 : Below W.heap.size W w1 := by rw [hw1]; exact Below.refl _ _
  clear hW hS q0 q1 q2 q3 q4 q5 q6 q7 q8 hw1
  have B1 : Hid (Below w.heap.size w w1) := on B0.out b1
  have R1 : Hid (Vb w1 (s + 1) #[.int .i64 0, .string ⟨#[]⟩] 30) := R.out.keep b1
  have Q1 : Hid (Vb w1 s #[.slice a0 n0 k0, .int .i64 H.pc, .slice a1 n1 k1, .bool H.halted, .bool H.waiting, .bool H.rung, .int .i64 H.done, .slice a2 n2 k2, .slice a3 n3 k3, .slice a4 n4 k4, .slice a5 n5 k5] 45) := Q.out.keep b1
  clear b1
  have fin : Hid (∀ (c : Int) (l : List UInt8), vtR H ps zs = (c, l) → c = U ∧ bs l = T) := fun c l e => ⟨by rw [← HU.out.1, e], by rw [← HU.out.2, e]⟩
  by_cases hf : hfV H = 0
  case neg =>
    obtain ⟨t1, t2⟩ := fin.out (hfV H) [] (by rw [vtR, if_neg hf])
    clear HU fin
    rw [t1]
    subst t2
    rw [t1] at hf
    clear t1
    have p0 := R1.out.cell 0 rfl
    have f0 := R1.out.free 0
    have p1 := R1.out.cell 1 rfl
    have f1 := R1.out.free 1
    go_wp2_with fail
    have NN : Hid (_ ∧ _) := twoV R1.out (.int .i64 U) (.string ⟨#[]⟩)
    clear p0 f0 p1 f1
    generalize ((w1.setCell ⟨s + 1, 0, none⟩ (.int .i64 U)).setCell ⟨s + 1, 1, none⟩ (.string ⟨#[]⟩)) = V at *
    have x0 := NN.out.1.cell 0 rfl
    have x1 := NN.out.1.cell 1 rfl
    exact bodyPost_ret (v := .agg #[.int .i64 U, .string ⟨#[]⟩]) (by simp [results, Tryd.results12, go_sem, x0, x1]) rfl ⟨rfl, Mq.under B1.out NN.out.2 fun k e => by have := HSs.out; omega⟩
  have KO : Hid (Hok H) := hok_of hf
  rw [hf]
  have WO := s_words a4 n4 k4 ps w1 (HS.out.pl.keep B1.out).rn
  have WG := s_words a5 n5 k5 zs w1 (HS.out.mm.keep B1.out).rn
  have q9 := Q1.out.cell 9 rfl
  have q10 := Q1.out.cell 10 rfl
  by_cases ho : ps.all isW = true
  case neg =>
    have ho2 : ps.all isW = false := by simpa using ho
    obtain ⟨rfl, rfl⟩ := fin.out 3 [] (by rw [vtR, if_pos hf, if_neg (by rw [ho2]; simp)])
    rw [ho2] at WO
    clear HU fin ho ho2 hf
    go_wp2_with fail
    refine WO.mono ?_
    rintro e w1 ⟨rfl, rfl⟩
    have p0 := R1.out.cell 0 rfl
    have f0 := R1.out.free 0
    have p1 := R1.out.cell 1 rfl
    have f1 := R1.out.free 1
    go_wp2_with fail
    have NN : Hid (_ ∧ _) := twoV R1.out (.int .i64 3) (.string ⟨#[]⟩)
    clear p0 f0 p1 f1
    generalize ((w1.setCell ⟨s + 1, 0, none⟩ (.int .i64 3)).setCell ⟨s + 1, 1, none⟩ (.string ⟨#[]⟩)) = V at *
    have x0 := NN.out.1.cell 0 rfl
    have x1 := NN.out.1.cell 1 rfl
    exact bodyPost_ret (v := .agg #[.int .i64 3, .string ⟨#[]⟩]) (by simp [results, Tryd.results12, go_sem, x0, x1]) rfl ⟨rfl, Mq.under B1.out NN.out.2 fun k e => by have := HSs.out; omega⟩
  rw [ho] at WO
  by_cases hz : zs.all isW = true
  case neg =>
    have hz2 : zs.all isW = false := by simpa using hz
    obtain ⟨rfl, rfl⟩ := fin.out 3 [] (by rw [vtR, if_pos hf, if_neg (by rw [hz2]; simp)])
    rw [hz2] at WG
    clear HU fin hz hz2 hf ho
    go_wp2_with fail
    refine WO.mono ?_
    rintro e w1 ⟨rfl, rfl⟩
    go_wp2_with fail
    refine WG.mono ?_
    rintro e w1 ⟨rfl, rfl⟩
    have p0 := R1.out.cell 0 rfl
    have f0 := R1.out.free 0
    have p1 := R1.out.cell 1 rfl
    have f1 := R1.out.free 1
    go_wp2_with fail
    have NN : Hid (_ ∧ _) := twoV R1.out (.int .i64 3) (.string ⟨#[]⟩)
    clear p0 f0 p1 f1
    generalize ((w1.setCell ⟨s + 1, 0, none⟩ (.int .i64 3)).setCell ⟨s + 1, 1, none⟩ (.string ⟨#[]⟩)) = V at *
    have x0 := NN.out.1.cell 0 rfl
    have x1 := NN.out.1.cell 1 rfl
    exact bodyPost_ret (v := .agg #[.int .i64 3, .string ⟨#[]⟩]) (by simp [results, Tryd.results12, go_sem, x0, x1]) rfl ⟨rfl, Mq.under B1.out NN.out.2 fun k e => by have := HSs.out; omega⟩
  rw [hz] at WG
  obtain ⟨rfl, t2⟩ := fin.out 0 (textW H ++ nlW [111, 119, 110] ps ++ nlW [103, 105, 118, 101, 115] zs) (by rw [vtR, if_pos hf, if_pos (by rw [ho, hz]; rfl)])
  have HW : Hid (ps.all isW = true ∧ zs.all isW = true) := ⟨ho, hz⟩
  obtain ⟨A1, hA1⟩ : ∃ A, textW H = A := ⟨_, rfl⟩
  obtain ⟨A2, hA2⟩ : ∃ A, nlW [111, 119, 110] ps = A := ⟨_, rfl⟩
  obtain ⟨A3, hA3⟩ : ∃ A, nlW [103, 105, 118, 101, 115] zs = A := ⟨_, rfl⟩
  obtain ⟨B2, hB2⟩ : ∃ B, A1 ++ A2 = B := ⟨_, rfl⟩
  obtain ⟨C3, hC3⟩ : ∃ B, B2 ++ A3 = B := ⟨_, rfl⟩
  have ET : Hid (bs C3 = T) := by show _ = _; rw [← t2, hA1, hA2, hA3, hB2, hC3]
  have BQ : Hid ((bs B2 = bs A1 ++ bs A2 ∧ ¬ 9223372036854775807 < (bs A1).size + (bs A2).size) ∧ (bs C3 = bs B2 ++ bs A3 ∧ ¬ 9223372036854775807 < (bs B2).size + (bs A3).size)) := by
    have l1 : A1.length ≤ 3000 := by rw [← hA1]; exact text_len KO.out
    have l2 : A2.length ≤ 20000000 := by rw [← hA2]; exact nl_lenB ho HL.out.1 (by decide)
    have l3 : A3.length ≤ 20000000 := by rw [← hA3]; exact nl_lenB hz HL.out.2.1 (by decide)
    have l4 : B2.length ≤ 20003000 := by rw [← hB2, List.length_append]; omega
    exact ⟨⟨by rw [← hB2, bs_app], by rw [bs_size, bs_size]; omega⟩, ⟨by rw [← hC3, bs_app], by rw [bs_size, bs_size]; omega⟩⟩
  have HE : Hid (textW H = A1 ∧ nlW [111, 119, 110] ps = A2 ∧ nlW [103, 105, 118, 101, 115] zs = A3) := ⟨hA1, hA2, hA3⟩
  clear hA1 hA2 hA3 hB2 hC3 t2 HU fin hf ho hz
  go_wp2_with fail
  refine WO.mono ?_
  rintro e w1 ⟨rfl, rfl⟩
  go_wp2_with fail
  refine WG.mono ?_
  rintro e w1 ⟨rfl, rfl⟩
  clear q9 q10
  go_upto_region 6 with fail
  have S0 : Hid (Below w.heap.size w w1.drew ∧ Vb w1.drew s #[.slice a0 n0 k0, .int .i64 H.pc, .slice a1 n1 k1, .bool H.halted, .bool H.waiting, .bool H.rung, .int .i64 H.done, .slice a2 n2 k2, .slice a3 n3 k3, .slice a4 n4 k4, .slice a5 n5 k5] 45) := ⟨B1.out.drew, Q1.out.keep (Below.refl _ _).drew⟩
  have R3 : Hid (Vb w1.drew (s + 1) #[.int .i64 0, .string ⟨#[]⟩] 30) := R1.out.keep (Below.refl _ _).drew
  obtain ⟨rg, hrg⟩ := G0.out (by have := N0.out.1; have := KO.out.r16; omega)
  have e16 : n0 = 16 := by have := N0.out.1; have := KO.out.r16; omega
  subst hrg e16
  refine wp_region_held (S := fun w' => Below w.heap.size w w' ∧ Vb w' s #[.slice (some ⟨rg, 0, none⟩) 16 k0, .int .i64 H.pc, .slice a1 n1 k1, .bool H.halted, .bool H.waiting, .bool H.rung, .int .i64 H.done, .slice a2 n2 k2, .slice a3 n3 k3, .slice a4 n4 k4, .slice a5 n5 k5] 45) (by kernel_rfl) ?_
  change wpAnyH _ _ _ _ _ _ _ _ (World.drew _)
  generalize w1.drew = v0 at *
  refine wpAnyH_take (i := 0) (v := .pointer (some ⟨s, 0, none⟩)) rfl (by kernel_rfl) (by kernel_rfl) (by kernel_rfl) (fun _ _ _ h => h) (Or.inl ⟨by rfl, fun w' hs => by go_simp⟩) S0.out ?_
  change wpAnyH _ _ _ _ _ _ _ (Act.put _ (some 21) _) _
  simp only [Act.put, List.setIfInBounds_toArray, List.set_cons_zero, List.set_cons_succ]
  refine wpAnyH_take (i := 2) (v := .pointer (some ⟨s, 9, none⟩)) rfl (by kernel_rfl) (by kernel_rfl) (by kernel_rfl) (fun _ _ _ h => h) (Or.inl ⟨by rfl, fun w' hs => by go_simp⟩) S0.out ?_
  change wpAnyH _ _ _ _ _ _ _ (Act.put _ (some 23) _) _
  simp only [Act.put, List.setIfInBounds_toArray, List.set_cons_zero, List.set_cons_succ]
  refine wpAnyH_take (i := 3) (v := .slice a4 n4 k4) rfl (by kernel_rfl) (by kernel_rfl) (by kernel_rfl) (fun _ _ _ h => h) (Or.inl ⟨by rfl, fun w' hs => by have y9 := hs.2.cell 9 rfl; go_simp⟩) S0.out ?_
  change wpAnyH _ _ _ _ _ _ _ (Act.put _ (some 24) _) _
  simp only [Act.put, List.setIfInBounds_toArray, List.set_cons_zero, List.set_cons_succ]
  refine wpAnyH_take (i := 6) (v := .pointer (some ⟨s, 10, none⟩)) rfl (by kernel_rfl) (by kernel_rfl) (by kernel_rfl) (fun _ _ _ h => h) (Or.inl ⟨by rfl, fun w' hs => by go_simp⟩) S0.out ?_
  change wpAnyH _ _ _ _ _ _ _ (Act.put _ (some 27) _) _
  simp only [Act.put, List.setIfInBounds_toArray, List.set_cons_zero, List.set_cons_succ]
  refine wpAnyH_take (i := 7) (v := .slice a5 n5 k5) rfl (by kernel_rfl) (by kernel_rfl) (by kernel_rfl) (fun _ _ _ h => h) (Or.inl ⟨by rfl, fun w' hs => by have y10 := hs.2.cell 10 rfl; go_simp⟩) S0.out ?_
  change wpAnyH _ _ _ _ _ _ _ (Act.put _ (some 28) _) _
  simp only [Act.put, List.setIfInBounds_toArray, List.set_cons_zero, List.set_cons_succ]
  refine wpAnyH_ready (rs := [1]) (by kernel_rfl) (by simp) ?_
  refine AllReadyH.cons rfl (fun K hK => ?_) AllReadyH.nil
  rw [if_pos (by rfl)]
  go_simp
  refine (s_text s rg k0 _ _ a3 n3 k3 H b v0 (HS.out.h.keep' S0.out.1) KO.out (S0.out.2.cell 0 rfl) (S0.out.2.cell 1 rfl) (S0.out.2.cell 3 rfl) (S0.out.2.cell 4 rfl) (S0.out.2.cell 6 rfl) (S0.out.2.cell 8 rfl)).mono ?_
  rintro e v1 ⟨rfl, be⟩
  have S1 : Hid (Below w.heap.size w v1 ∧ Vb v1 s _ 45) := ⟨on S0.out.1 be, S0.out.2.keep be⟩
  have R4 : Hid (Vb v1 (s + 1) #[.int .i64 0, .string ⟨#[]⟩] 30) := R3.out.keep be
  clear be
  refine hK.out _ _ S1.out (fun _ => ?_)
  clear hK K
  rw [HE.out.1]
  refine wpAnyH_ready (rs := [4]) (by kernel_rfl) (by simp) ?_
  refine AllReadyH.cons rfl (fun K hK => ?_) AllReadyH.nil
  rw [if_pos (by rfl)]
  go_simp
  refine (s_lineB [111, 119, 110] a4 n4 k4 ps v1 ((HS.out.pl.keep' S1.out.1).rn) HW.out.1 HL.out.2.2.1 (by decide)).mono ?_
  rintro e v2 ⟨rfl, be⟩
  have S2 : Hid (Below w.heap.size w v2 ∧ Vb v2 s _ 45) := ⟨on S1.out.1 be, S1.out.2.keep be⟩
  have R5 : Hid (Vb v2 (s + 1) #[.int .i64 0, .string ⟨#[]⟩] 30) := R4.out.keep be
  clear be
  refine hK.out _ _ S2.out (fun _ => ?_)
  clear hK K
  rw [HE.out.2.1]
  refine wpAnyH_take (i := 5) (v := .string (bs B2)) rfl (by kernel_rfl) (by kernel_rfl) (by kernel_rfl) (fun _ _ _ h => h) (Or.inl ⟨by rfl, fun w' hs => by have zz := BQ.out.1.2; rw [BQ.out.1.1]; go_simp⟩) S2.out ?_
  change wpAnyH _ _ _ _ _ _ _ (Act.put _ (some 26) _) _
  simp only [Act.put, List.setIfInBounds_toArray, List.set_cons_zero, List.set_cons_succ]
  refine wpAnyH_ready (rs := [8]) (by kernel_rfl) (by simp) ?_
  refine AllReadyH.cons rfl (fun K hK => ?_) AllReadyH.nil
  rw [if_pos (by rfl)]
  go_simp
  refine (s_lineB [103, 105, 118, 101, 115] a5 n5 k5 zs v2 ((HS.out.mm.keep' S2.out.1).rn) HW.out.2 HL.out.2.2.2 (by decide)).mono ?_
  rintro e v3 ⟨rfl, be⟩
  have S3 : Hid (Below w.heap.size w v3 ∧ Vb v3 s _ 45) := ⟨on S2.out.1 be, S2.out.2.keep be⟩
  have R6 : Hid (Vb v3 (s + 1) #[.int .i64 0, .string ⟨#[]⟩] 30) := R5.out.keep be
  clear be
  refine hK.out _ _ S3.out (fun _ => ?_)
  clear hK K
  rw [HE.out.2.2]
  refine wpAnyH_take (i := 9) (v := .string (bs C3)) rfl (by kernel_rfl) (by kernel_rfl) (by kernel_rfl) (fun _ _ _ h => h) (Or.inl ⟨by rfl, fun w' hs => by have zz := BQ.out.2.2; rw [BQ.out.2.1]; go_simp⟩) S3.out ?_
  change wpAnyH _ _ _ _ _ _ _ (Act.put _ (some 30) _) _
  simp only [Act.put, List.setIfInBounds_toArray, List.set_cons_zero, List.set_cons_succ]
  refine wpAnyH_take (i := 10) (v := .agg #[.int .i64 0, .string (bs C3)]) rfl (by kernel_rfl) (by kernel_rfl) (by kernel_rfl) (fun _ _ _ h => h) (Or.inl ⟨by rfl, fun w' hs => by go_simp⟩) S3.out ?_
  change wpAnyH _ _ _ _ _ _ _ (Act.put _ (some 31) _) _
  simp only [Act.put, List.setIfInBounds_toArray, List.set_cons_zero, List.set_cons_succ]
  rw [ET.out]
  have p0 := R6.out.cell 0 rfl
  have f0 := R6.out.free 0
  have p1 := R6.out.cell 1 rfl
  have f1 := R6.out.free 1
  have NN : Hid (_ ∧ _) := twoV R6.out (.int .i64 0) (.string T)
  have SN : Hid (Below w.heap.size w ((v3.setCell ⟨s + 1, 0, none⟩ (.int .i64 0)).setCell ⟨s + 1, 1, none⟩ (.string T)) ∧ Vb ((v3.setCell ⟨s + 1, 0, none⟩ (.int .i64 0)).setCell ⟨s + 1, 1, none⟩ (.string T)) s _ 45) := ⟨Mq.under S3.out.1 NN.out.2 fun k e => by have := HSs.out; omega, NN.out.2.vb S3.out.2 (by omega)⟩
  refine wpAnyH_ready (rs := [11]) (by kernel_rfl) (by simp) ?_
  refine AllReadyH.cons rfl (fun K hK => ?_) AllReadyH.nil
  rw [if_pos (by rfl)]
  go_simp
  generalize ((v3.setCell ⟨s + 1, 0, none⟩ (.int .i64 0)).setCell ⟨s + 1, 1, none⟩ (.string T)) = V at *
  refine hK.out _ _ SN.out (fun _ => ?_)
  clear hK K
  refine wpAnyH_done (by kernel_rfl) ?_ _
  have x0 := NN.out.1.cell 0 rfl
  have x1 := NN.out.1.cell 1 rfl
  clear p0 f0 p1 f1
  go_wp2_with fail
  exact bodyPost_ret (v := .agg #[.int .i64 0, .string T]) (by simp [results, Tryd.results12, go_sem, x0, x1]) rfl ⟨rfl, SN.out.1⟩
end Go.Proofs.YtcneipilhlcfkaaDoor
