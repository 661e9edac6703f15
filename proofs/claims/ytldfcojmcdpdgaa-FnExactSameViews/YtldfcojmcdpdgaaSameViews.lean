/- The law FnExactSameViews answers true at every input, and each argument reads behind the call as it read ahead of it; no condition. -/
import Derived.Test.YtldfcojmcdpdgaaBase
import Derived.Lib.SmallJoins
import Derived.Test.YtldfcojmcdpdgaaVsb
import Derived.Test.YtldfcojmcdpdgaaVsc
import Derived.Test.YtldfcojmcdpdgaaVla
import Derived.Test.YtldfcojmcdpdgaaVop
import Derived.Deep.RegionWith
import Derived.Deep.RegionHeld3
import Derived.Deep.Cut
import Derived.Deep.CutRange
namespace Go.Proofs.Ytldfcojmcdpdgaa.fnExactSameViewsDone
open Go.ChangeShapes Go.WideShapes Go.ChangeAt Go.RowKit
open Go.ChangeMaps (open_string shut_string)
set_option linter.unusedVariables false

set_option maxRecDepth 20000 in
set_option maxHeartbeats 8000000 in
theorem walk (a0 a1 a2 a3 : Option Addr) (n0 c0 n1 c1 n2 c2 n3 c3 : Nat) (H : Ht) (la : Option Addr) (ln lc : Nat) (ps : List Int) (ma : Option Addr) (mn mc : Nat) (zs : List Int) (a0' a1' a2' a3' : Option Addr) (n0' c0' n1' c1' n2' c2' n3' c3' : Nat) (H' : Ht) (la' : Option Addr) (ln' lc' : Nat) (ps' : List Int) (ma' : Option Addr) (mn' mc' : Nat) (zs' : List Int) (w : World) (h : Hin w a0 n0 c0 a1 n1 c1 a2 n2 c2 a3 n3 c3 H) (hp : IsRow .i64 w la ln lc ps) (hz : IsRow .i64 w ma mn mc zs) (h' : Hin w a0' n0' c0' a1' n1' c1' a2' n2' c2' a3' n3' c3' H') (hp' : IsRow .i64 w la' ln' lc' ps') (hz' : IsRow .i64 w ma' mn' mc' zs') :
    Calls Try.prog 3 #[.agg #[.slice a0 n0 c0, .int .i64 H.pc, .slice a1 n1 c1, .bool H.halted, .bool H.waiting, .bool H.rung, .int .i64 H.done, .slice a2 n2 c2, .slice a3 n3 c3, .slice la ln lc, .slice ma mn mc], .agg #[.slice a0' n0' c0', .int .i64 H'.pc, .slice a1' n1' c1', .bool H'.halted, .bool H'.waiting, .bool H'.rung, .int .i64 H'.done, .slice a2' n2' c2', .slice a3' n3' c3', .slice la' ln' lc', .slice ma' mn' mc']] w fun e w' => e = .returned (.bool true) ∧ Below w.heap.size w w' := by
  generalize hW : (w.alloc (.cells #[.slice a0 n0 c0, .int .i64 H.pc, .slice a1 n1 c1, .bool H.halted, .bool H.waiting, .bool H.rung, .int .i64 H.done, .slice a2 n2 c2, .slice a3 n3 c3, .slice la ln lc, .slice ma mn mc] 26)).alloc (.cells #[.slice a0' n0' c0', .int .i64 H'.pc, .slice a1' n1' c1', .bool H'.halted, .bool H'.waiting, .bool H'.rung, .int .i64 H'.done, .slice a2' n2' c2', .slice a3' n3' c3', .slice la' ln' lc', .slice ma' mn' mc'] 26) = W
  have B0 : Hid (Below w.heap.size w W) := by show Below _ _ _; rw [← hW]; exact al (al (Below.refl _ _) _) _
  obtain ⟨s, hS⟩ : ∃ s, w.heap.size = s := ⟨_, rfl⟩
  have z1 : s + 1 = (w.alloc (.cells #[.slice a0 n0 c0, .int .i64 H.pc, .slice a1 n1 c1, .bool H.halted, .bool H.waiting, .bool H.rung, .int .i64 H.done, .slice a2 n2 c2, .slice a3 n3 c3, .slice la ln lc, .slice ma mn mc] 26)).heap.size := by rw [← hS]; simp
  have Q : Hid (Vb W s #[.slice a0 n0 c0, .int .i64 H.pc, .slice a1 n1 c1, .bool H.halted, .bool H.waiting, .bool H.rung, .int .i64 H.done, .slice a2 n2 c2, .slice a3 n3 c3, .slice la ln lc, .slice ma mn mc] 26 ∧ Vb W (s + 1) #[.slice a0' n0' c0', .int .i64 H'.pc, .slice a1' n1' c1', .bool H'.halted, .bool H'.waiting, .bool H'.rung, .int .i64 H'.done, .slice a2' n2' c2', .slice a3' n3' c3', .slice la' ln' lc', .slice ma' mn' mc'] 26) := ⟨by rw [← hW, ← hS]; exact (Vb.new _ _ _).push _, by rw [← hW, z1]; exact Vb.new _ _ _⟩
  have HP : Hid ((Hin W a0 n0 c0 a1 n1 c1 a2 n2 c2 a3 n3 c3 H ∧ IsRow .i64 W la ln lc ps ∧ IsRow .i64 W ma mn mc zs) ∧ (Hin W a0' n0' c0' a1' n1' c1' a2' n2' c2' a3' n3' c3' H' ∧ IsRow .i64 W la' ln' lc' ps' ∧ IsRow .i64 W ma' mn' mc' zs')) := ⟨⟨h.stay B0.out, hp.stay B0.out, hz.stay B0.out⟩, ⟨h'.stay B0.out, hp'.stay B0.out, hz'.stay B0.out⟩⟩
  have EL : Hid ((ln = ps.length ∧ mn = zs.length) ∧ (ln' = ps'.length ∧ mn' = zs'.length)) := ⟨⟨hp.ln.1, hz.ln.1⟩, ⟨hp'.ln.1, hz'.ln.1⟩⟩
  have ER : Hid ((n0 = H.regs.length ∧ n1 = H.csr.length ∧ n2 = H.inn.length ∧ n3 = H.out.length) ∧ (n0' = H'.regs.length ∧ n1' = H'.csr.length ∧ n2' = H'.inn.length ∧ n3' = H'.out.length)) := ⟨⟨h.regs.ln.1, h.csr.ln.1, h.inn.ln.1, h.out.ln.1⟩, ⟨h'.regs.ln.1, h'.csr.ln.1, h'.inn.ln.1, h'.out.ln.1⟩⟩
  clear z1 h hp hz h' hp' hz'
  have q0 := Q.out.1.cell 0 rfl
  have q1 := Q.out.1.cell 1 rfl
  have q2 := Q.out.1.cell 2 rfl
  have q3 := Q.out.1.cell 3 rfl
  have q4 := Q.out.1.cell 4 rfl
  have q5 := Q.out.1.cell 5 rfl
  have q6 := Q.out.1.cell 6 rfl
  have q7 := Q.out.1.cell 7 rfl
  have q8 := Q.out.1.cell 8 rfl
  have q9 := Q.out.1.cell 9 rfl
  have q10 := Q.out.1.cell 10 rfl
  go_enter Try.func3, Try.ntmps3
  go_wp2_with fail
  clear hW hS
  refine (sz_view 1048576 ⟨by decide, by decide⟩ _ _ _ _ _ _ _ _ _ _ _ _ H _ _ _ ps _ _ _ zs _ HP.out.1.1 HP.out.1.2.1 HP.out.1.2.2).mono ?_
  rintro e w1 ⟨⟨r, rfl, hrK, hs⟩, b1⟩
  have B1 : Hid (Below W.heap.size W w1) := b1
  clear b1 q0 q1 q2 q3 q4 q5 q6 q7 q8 q9 q10
  by_cases hneg : r < 0
  · go_wp2_with fail
    go_ret
    exact ⟨rfl, on B0.out B1.out⟩
  have SM : Hid (Hs n0 n1 n2 n3 ∧ ln ≤ 1048576 ∧ mn ≤ 1048576) := hs (by omega)
  have hr0 : 0 ≤ r := by omega
  clear hs
  have q0 := (Q.out.2.keep B1.out).cell 0 rfl
  have q1 := (Q.out.2.keep B1.out).cell 1 rfl
  have q2 := (Q.out.2.keep B1.out).cell 2 rfl
  have q3 := (Q.out.2.keep B1.out).cell 3 rfl
  have q4 := (Q.out.2.keep B1.out).cell 4 rfl
  have q5 := (Q.out.2.keep B1.out).cell 5 rfl
  have q6 := (Q.out.2.keep B1.out).cell 6 rfl
  have q7 := (Q.out.2.keep B1.out).cell 7 rfl
  have q8 := (Q.out.2.keep B1.out).cell 8 rfl
  have q9 := (Q.out.2.keep B1.out).cell 9 rfl
  have q10 := (Q.out.2.keep B1.out).cell 10 rfl
  go_wp2_with fail
  refine (sz_view r ⟨hr0, hrK⟩ _ _ _ _ _ _ _ _ _ _ _ _ H' _ _ _ ps' _ _ _ zs' _ (HP.out.2.1.stay B1.out) (HP.out.2.2.1.stay B1.out) (HP.out.2.2.2.stay B1.out)).mono ?_
  rintro e w2 ⟨⟨r2, rfl, hr2K, hs⟩, b1⟩
  have B2 : Hid (Below W.heap.size W w2) := on B1.out b1
  clear b1 q0 q1 q2 q3 q4 q5 q6 q7 q8 q9 q10
  by_cases hneg2 : r2 < 0
  · go_wp2_with fail
    go_ret
    exact ⟨rfl, on B0.out B2.out⟩
  have SN : Hid (Hs n0' n1' n2' n3' ∧ ln' ≤ 1048576 ∧ mn' ≤ 1048576) := hs (by omega)
  have hr20 : 0 ≤ r2 := by omega
  have LGS : Hid (Lg H ∧ Lg H' ∧ (ps.length ≤ 1048576 ∧ zs.length ≤ 1048576 ∧ ps'.length ≤ 1048576 ∧ zs'.length ≤ 1048576)) := by
    obtain ⟨⟨e1, e2, e3, e4⟩, f1, f2, f3, f4⟩ := ER.out
    obtain ⟨⟨e5, e6⟩, f5, f6⟩ := EL.out
    have s1 := SM.out; have s2 := SN.out
    exact ⟨⟨by rw [← e1]; exact s1.1.regs, by rw [← e2]; exact s1.1.csr, by rw [← e3]; exact s1.1.inn, by rw [← e4]; exact s1.1.out⟩, ⟨by rw [← f1]; exact s2.1.regs, by rw [← f2]; exact s2.1.csr, by rw [← f3]; exact s2.1.inn, by rw [← f4]; exact s2.1.out⟩, by omega, by omega, by omega, by omega⟩
  have TA : Hid (∀ u, Below W.heap.size W u → Calls Try.prog 7 #[.agg #[.slice a0 n0 c0, .int .i64 H.pc, .slice a1 n1 c1, .bool H.halted, .bool H.waiting, .bool H.rung, .int .i64 H.done, .slice a2 n2 c2, .slice a3 n3 c3, .slice la ln lc, .slice ma mn mc]] u fun e w' => ∃ r c i o l m, e = .returned (.agg #[r, .int .i64 H.pc, c, .bool H.halted, .bool H.waiting, .bool H.rung, .int .i64 H.done, i, o, l, m]) ∧ Vm w' u.heap.size r c i o l m H ps zs ∧ Below u.heap.size u w') := fun u hu => to_view _ _ _ _ _ _ _ _ _ _ _ _ H _ _ _ ps _ _ _ zs u (HP.out.1.1.stay hu) (HP.out.1.2.1.stay hu) (HP.out.1.2.2.stay hu) SM.out.1 SM.out.2.1 SM.out.2.2
  have TB : Hid (∀ u, Below W.heap.size W u → Calls Try.prog 7 #[.agg #[.slice a0' n0' c0', .int .i64 H'.pc, .slice a1' n1' c1', .bool H'.halted, .bool H'.waiting, .bool H'.rung, .int .i64 H'.done, .slice a2' n2' c2', .slice a3' n3' c3', .slice la' ln' lc', .slice ma' mn' mc']] u fun e w' => ∃ r c i o l m, e = .returned (.agg #[r, .int .i64 H'.pc, c, .bool H'.halted, .bool H'.waiting, .bool H'.rung, .int .i64 H'.done, i, o, l, m]) ∧ Vm w' u.heap.size r c i o l m H' ps' zs' ∧ Below u.heap.size u w') := fun u hu => to_view _ _ _ _ _ _ _ _ _ _ _ _ H' _ _ _ ps' _ _ _ zs' u (HP.out.2.1.stay hu) (HP.out.2.2.1.stay hu) (HP.out.2.2.2.stay hu) SN.out.1 SN.out.2.1 SN.out.2.2
  obtain ⟨V, hV⟩ : ∃ V, samB H H' ps ps' zs zs' = V := ⟨_, rfl⟩
  have HV : Hid (samB H H' ps ps' zs zs' = V) := hV
  clear hV hs
  go_upto_region 8 with fail
  have S0 : Hid (Below W.heap.size W w2.drew) := B2.out.drew
  refine wp_region_held (S := fun w' => Below W.heap.size W w') (by kernel_rfl) ?_
  change wpAnyH _ _ _ _ _ _ _ _ (World.drew _)
  generalize w2.drew = x0 at *
  refine wpAnyH_take (i := 0) (v := .agg #[.slice a0 n0 c0, .int .i64 H.pc, .slice a1 n1 c1, .bool H.halted, .bool H.waiting, .bool H.rung, .int .i64 H.done, .slice a2 n2 c2, .slice a3 n3 c3, .slice la ln lc, .slice ma mn mc]) rfl (by kernel_rfl) (by kernel_rfl) (by kernel_rfl) (fun _ _ _ h => h) (Or.inl ⟨by rfl, fun w' hs => by have y0 := (Q.out.1.keep hs).cell 0 rfl; have y1 := (Q.out.1.keep hs).cell 1 rfl; have y2 := (Q.out.1.keep hs).cell 2 rfl; have y3 := (Q.out.1.keep hs).cell 3 rfl; have y4 := (Q.out.1.keep hs).cell 4 rfl; have y5 := (Q.out.1.keep hs).cell 5 rfl; have y6 := (Q.out.1.keep hs).cell 6 rfl; have y7 := (Q.out.1.keep hs).cell 7 rfl; have y8 := (Q.out.1.keep hs).cell 8 rfl; have y9 := (Q.out.1.keep hs).cell 9 rfl; have y10 := (Q.out.1.keep hs).cell 10 rfl; go_simp⟩) S0.out ?_
  change wpAnyH _ _ _ _ _ _ _ (Act.put _ (some 20) _) _
  simp only [Act.put, List.setIfInBounds_toArray, List.set_cons_zero, List.set_cons_succ]
  refine wpAnyH_take (i := 2) (v := .agg #[.slice a0' n0' c0', .int .i64 H'.pc, .slice a1' n1' c1', .bool H'.halted, .bool H'.waiting, .bool H'.rung, .int .i64 H'.done, .slice a2' n2' c2', .slice a3' n3' c3', .slice la' ln' lc', .slice ma' mn' mc']) rfl (by kernel_rfl) (by kernel_rfl) (by kernel_rfl) (fun _ _ _ h => h) (Or.inl ⟨by rfl, fun w' hs => by have y0 := (Q.out.2.keep hs).cell 0 rfl; have y1 := (Q.out.2.keep hs).cell 1 rfl; have y2 := (Q.out.2.keep hs).cell 2 rfl; have y3 := (Q.out.2.keep hs).cell 3 rfl; have y4 := (Q.out.2.keep hs).cell 4 rfl; have y5 := (Q.out.2.keep hs).cell 5 rfl; have y6 := (Q.out.2.keep hs).cell 6 rfl; have y7 := (Q.out.2.keep hs).cell 7 rfl; have y8 := (Q.out.2.keep hs).cell 8 rfl; have y9 := (Q.out.2.keep hs).cell 9 rfl; have y10 := (Q.out.2.keep hs).cell 10 rfl; go_simp⟩) S0.out ?_
  change wpAnyH _ _ _ _ _ _ _ (Act.put _ (some 22) _) _
  simp only [Act.put, List.setIfInBounds_toArray, List.set_cons_zero, List.set_cons_succ]
  refine wpAnyH_ready (rs := [1]) (by kernel_rfl) (by simp) ?_
  refine AllReadyH.cons rfl (fun K hK => ?_) AllReadyH.nil
  rw [if_pos (by rfl)]
  go_simp
  refine (TA.out x0 S0.out).mono ?_
  rintro e x1 ⟨r1, d1, i1, o1, l1, m1, rfl, t1, b1⟩
  have S1 : Hid (Below W.heap.size W x1) := on S0.out b1
  have T1 : Hid (Vm x1 _ r1 d1 i1 o1 l1 m1 H ps zs) := t1
  clear t1 b1
  refine hK.out _ _ S1.out (fun _ => ?_)
  clear hK K
  refine wpAnyH_ready (rs := [3]) (by kernel_rfl) (by simp) ?_
  refine AllReadyH.cons rfl (fun K hK => ?_) AllReadyH.nil
  rw [if_pos (by rfl)]
  go_simp
  refine (TB.out x1 S1.out).mono ?_
  rintro e x2 ⟨r2', d2, i2, o2, l2, m2, rfl, t2, b1⟩
  have S2 : Hid (Below W.heap.size W x2) := on S1.out b1
  have T2 : Hid (Vm x2 _ r2' d2 i2 o2 l2 m2 H' ps' zs' ∧ Vm x2 _ r1 d1 i1 o1 l1 m1 H ps zs) := ⟨t2, T1.out.keep b1⟩
  clear t2 b1
  refine hK.out _ _ S2.out (fun _ => ?_)
  clear hK K
  refine wpAnyH_ready (rs := [4]) (by kernel_rfl) (by simp) ?_
  refine AllReadyH.cons rfl (fun K hK => ?_) AllReadyH.nil
  rw [if_pos (by rfl)]
  go_simp
  refine (s_sameViews _ _ _ _ _ _ _ _ _ _ _ _ H H' ps zs ps' zs' _ _ x2 T2.out.2 T2.out.1 LGS.out.1 LGS.out.2.1 LGS.out.2.2).mono ?_
  rw [HV.out]
  rintro e x3 ⟨rfl, b1⟩
  have S3 : Hid (Below W.heap.size W x3) := on S2.out b1
  clear b1
  refine hK.out _ _ S3.out (fun _ => ?_)
  clear hK K
  refine wpAnyH_take (i := 5) (v := .bool V) rfl (by kernel_rfl) (by kernel_rfl) (by kernel_rfl) (fun _ _ _ h => h) (Or.inl ⟨by rfl, fun w' hs => by go_simp⟩) S3.out ?_
  change wpAnyH _ _ _ _ _ _ _ (Act.put _ (some 6) _) _
  simp only [Act.put, List.setIfInBounds_toArray, List.set_cons_zero, List.set_cons_succ]
  refine wpAnyH_done (by kernel_rfl) ?_ _
  clear T1 T2 S0 S1 S2 B1 B2
  have q0 := (Q.out.1.keep S3.out).cell 0 rfl
  have q1 := (Q.out.1.keep S3.out).cell 1 rfl
  have q2 := (Q.out.1.keep S3.out).cell 2 rfl
  have q3 := (Q.out.1.keep S3.out).cell 3 rfl
  have q4 := (Q.out.1.keep S3.out).cell 4 rfl
  have q5 := (Q.out.1.keep S3.out).cell 5 rfl
  have q6 := (Q.out.1.keep S3.out).cell 6 rfl
  have q7 := (Q.out.1.keep S3.out).cell 7 rfl
  have q8 := (Q.out.1.keep S3.out).cell 8 rfl
  have q9 := (Q.out.1.keep S3.out).cell 9 rfl
  have q10 := (Q.out.1.keep S3.out).cell 10 rfl
  go_wp2_with fail
  clear q0 q1 q2 q3 q4 q5 q6 q7 q8 q9 q10
  refine (TA.out x3 S3.out).mono ?_
  rintro e y4 ⟨ra, da, ja, oa, pa, ga, rfl, t1, b1⟩
  obtain ⟨raa, rak, rae, _⟩ := t1.h.r.shape
  obtain ⟨daa, dak, dae, _⟩ := t1.h.c.shape
  obtain ⟨jaa, jak, jae, _⟩ := t1.h.i.shape
  obtain ⟨oaa, oak, oae, _⟩ := t1.h.o.shape
  obtain ⟨paa, pak, pae, _⟩ := t1.pl.shape
  obtain ⟨gaa, gak, gae, _⟩ := t1.mm.shape
  subst rae dae jae oae pae gae
  obtain ⟨ran, rah⟩ : ∃ n, H.regs.length = n := ⟨_, rfl⟩
  obtain ⟨dan, dah⟩ : ∃ n, H.csr.length = n := ⟨_, rfl⟩
  obtain ⟨jan, jah⟩ : ∃ n, H.inn.length = n := ⟨_, rfl⟩
  obtain ⟨oan, oah⟩ : ∃ n, H.out.length = n := ⟨_, rfl⟩
  obtain ⟨pan, pah⟩ : ∃ n, ps.length = n := ⟨_, rfl⟩
  obtain ⟨gan, gah⟩ : ∃ n, zs.length = n := ⟨_, rfl⟩
  rw [rah, dah, jah, oah, pah, gah] at t1 ⊢
  clear rah dah jah oah pah gah
  have S4 : Hid (Below W.heap.size W (y4.alloc (.cells #[.slice raa ran rak, .int .i64 H.pc, .slice daa dan dak, .bool H.halted, .bool H.waiting, .bool H.rung, .int .i64 H.done, .slice jaa jan jak, .slice oaa oan oak, .slice paa pan pak, .slice gaa gan gak] 31))) := al (on S3.out b1) _
  have XA : Hid (Vb (y4.alloc (.cells #[.slice raa ran rak, .int .i64 H.pc, .slice daa dan dak, .bool H.halted, .bool H.waiting, .bool H.rung, .int .i64 H.done, .slice jaa jan jak, .slice oaa oan oak, .slice paa pan pak, .slice gaa gan gak] 31)) y4.heap.size #[.slice raa ran rak, .int .i64 H.pc, .slice daa dan dak, .bool H.halted, .bool H.waiting, .bool H.rung, .int .i64 H.done, .slice jaa jan jak, .slice oaa oan oak, .slice paa pan pak, .slice gaa gan gak] 31) := Vb.new _ _ _
  have MA : Hid (Vm (y4.alloc (.cells #[.slice raa ran rak, .int .i64 H.pc, .slice daa dan dak, .bool H.halted, .bool H.waiting, .bool H.rung, .int .i64 H.done, .slice jaa jan jak, .slice oaa oan oak, .slice paa pan pak, .slice gaa gan gak] 31)) _ (.slice raa ran rak) (.slice daa dan dak) (.slice jaa jan jak) (.slice oaa oan oak) (.slice paa pan pak) (.slice gaa gan gak) H ps zs) := t1.keep (al (Below.refl _ _) _)
  clear t1 b1
  go_upto_region 10 with fail
  generalize y4.alloc (.cells #[.slice raa ran rak, .int .i64 H.pc, .slice daa dan dak, .bool H.halted, .bool H.waiting, .bool H.rung, .int .i64 H.done, .slice jaa jan jak, .slice oaa oan oak, .slice paa pan pak, .slice gaa gan gak] 31) = x4 at *
  generalize y4.heap.size = u1 at *
  have q0 := (Q.out.2.keep S4.out).cell 0 rfl
  have q1 := (Q.out.2.keep S4.out).cell 1 rfl
  have q2 := (Q.out.2.keep S4.out).cell 2 rfl
  have q3 := (Q.out.2.keep S4.out).cell 3 rfl
  have q4 := (Q.out.2.keep S4.out).cell 4 rfl
  have q5 := (Q.out.2.keep S4.out).cell 5 rfl
  have q6 := (Q.out.2.keep S4.out).cell 6 rfl
  have q7 := (Q.out.2.keep S4.out).cell 7 rfl
  have q8 := (Q.out.2.keep S4.out).cell 8 rfl
  have q9 := (Q.out.2.keep S4.out).cell 9 rfl
  have q10 := (Q.out.2.keep S4.out).cell 10 rfl
  go_wp2_with fail
  clear q0 q1 q2 q3 q4 q5 q6 q7 q8 q9 q10
  refine (TB.out x4 S4.out).mono ?_
  rintro e y5 ⟨rb, db, jb, ob, pb, gb, rfl, t1, b1⟩
  obtain ⟨rba, rbk, rbe, _⟩ := t1.h.r.shape
  obtain ⟨dba, dbk, dbe, _⟩ := t1.h.c.shape
  obtain ⟨jba, jbk, jbe, _⟩ := t1.h.i.shape
  obtain ⟨oba, obk, obe, _⟩ := t1.h.o.shape
  obtain ⟨pba, pbk, pbe, _⟩ := t1.pl.shape
  obtain ⟨gba, gbk, gbe, _⟩ := t1.mm.shape
  subst rbe dbe jbe obe pbe gbe
  obtain ⟨rbn, rbh⟩ : ∃ n, H'.regs.length = n := ⟨_, rfl⟩
  obtain ⟨dbn, dbh⟩ : ∃ n, H'.csr.length = n := ⟨_, rfl⟩
  obtain ⟨jbn, jbh⟩ : ∃ n, H'.inn.length = n := ⟨_, rfl⟩
  obtain ⟨obn, obh⟩ : ∃ n, H'.out.length = n := ⟨_, rfl⟩
  obtain ⟨pbn, pbh⟩ : ∃ n, ps'.length = n := ⟨_, rfl⟩
  obtain ⟨gbn, gbh⟩ : ∃ n, zs'.length = n := ⟨_, rfl⟩
  rw [rbh, dbh, jbh, obh, pbh, gbh] at t1 ⊢
  clear rbh dbh jbh obh pbh gbh
  have S5 : Hid (Below W.heap.size W (y5.alloc (.cells #[.slice rba rbn rbk, .int .i64 H'.pc, .slice dba dbn dbk, .bool H'.halted, .bool H'.waiting, .bool H'.rung, .int .i64 H'.done, .slice jba jbn jbk, .slice oba obn obk, .slice pba pbn pbk, .slice gba gbn gbk] 31))) := al (on S4.out b1) _
  have XB : Hid (Vb (y5.alloc (.cells #[.slice rba rbn rbk, .int .i64 H'.pc, .slice dba dbn dbk, .bool H'.halted, .bool H'.waiting, .bool H'.rung, .int .i64 H'.done, .slice jba jbn jbk, .slice oba obn obk, .slice pba pbn pbk, .slice gba gbn gbk] 31)) y5.heap.size #[.slice rba rbn rbk, .int .i64 H'.pc, .slice dba dbn dbk, .bool H'.halted, .bool H'.waiting, .bool H'.rung, .int .i64 H'.done, .slice jba jbn jbk, .slice oba obn obk, .slice pba pbn pbk, .slice gba gbn gbk] 31 ∧ Vb (y5.alloc (.cells #[.slice rba rbn rbk, .int .i64 H'.pc, .slice dba dbn dbk, .bool H'.halted, .bool H'.waiting, .bool H'.rung, .int .i64 H'.done, .slice jba jbn jbk, .slice oba obn obk, .slice pba pbn pbk, .slice gba gbn gbk] 31)) u1 #[.slice raa ran rak, .int .i64 H.pc, .slice daa dan dak, .bool H.halted, .bool H.waiting, .bool H.rung, .int .i64 H.done, .slice jaa jan jak, .slice oaa oan oak, .slice paa pan pak, .slice gaa gan gak] 31) := ⟨Vb.new _ _ _, (XA.out.keep b1).push _⟩
  have MB : Hid (Vm (y5.alloc (.cells #[.slice rba rbn rbk, .int .i64 H'.pc, .slice dba dbn dbk, .bool H'.halted, .bool H'.waiting, .bool H'.rung, .int .i64 H'.done, .slice jba jbn jbk, .slice oba obn obk, .slice pba pbn pbk, .slice gba gbn gbk] 31)) _ (.slice rba rbn rbk) (.slice dba dbn dbk) (.slice jba jbn jbk) (.slice oba obn obk) (.slice pba pbn pbk) (.slice gba gbn gbk) H' ps' zs' ∧ Vm (y5.alloc (.cells #[.slice rba rbn rbk, .int .i64 H'.pc, .slice dba dbn dbk, .bool H'.halted, .bool H'.waiting, .bool H'.rung, .int .i64 H'.done, .slice jba jbn jbk, .slice oba obn obk, .slice pba pbn pbk, .slice gba gbn gbk] 31)) _ (.slice raa ran rak) (.slice daa dan dak) (.slice jaa jan jak) (.slice oaa oan oak) (.slice paa pan pak) (.slice gaa gan gak) H ps zs) := ⟨t1.keep (al (Below.refl _ _) _), (MA.out.keep b1).keep (al (Below.refl _ _) _)⟩
  clear t1 b1 XA MA
  go_upto_region 11 with fail
  generalize y5.alloc (.cells #[.slice rba rbn rbk, .int .i64 H'.pc, .slice dba dbn dbk, .bool H'.halted, .bool H'.waiting, .bool H'.rung, .int .i64 H'.done, .slice jba jbn jbk, .slice oba obn obk, .slice pba pbn pbk, .slice gba gbn gbk] 31) = x5 at *
  generalize y5.heap.size = u2 at *
  have q0 := XB.out.2.cell 0 rfl
  have p0 := XB.out.1.cell 0 rfl
  have q1 := XB.out.2.cell 1 rfl
  have p1 := XB.out.1.cell 1 rfl
  have q2 := XB.out.2.cell 2 rfl
  have p2 := XB.out.1.cell 2 rfl
  have q3 := XB.out.2.cell 3 rfl
  have p3 := XB.out.1.cell 3 rfl
  have q4 := XB.out.2.cell 4 rfl
  have p4 := XB.out.1.cell 4 rfl
  have q5 := XB.out.2.cell 5 rfl
  have p5 := XB.out.1.cell 5 rfl
  have q6 := XB.out.2.cell 6 rfl
  have p6 := XB.out.1.cell 6 rfl
  have q7 := XB.out.2.cell 7 rfl
  have p7 := XB.out.1.cell 7 rfl
  have q8 := XB.out.2.cell 8 rfl
  have p8 := XB.out.1.cell 8 rfl
  have q9 := XB.out.2.cell 9 rfl
  have p9 := XB.out.1.cell 9 rfl
  have q10 := XB.out.2.cell 10 rfl
  have p10 := XB.out.1.cell 10 rfl
  go_wp2_with fail
  clear q0 p0 q1 p1 q2 p2 q3 p3 q4 p4 q5 p5 q6 p6 q7 p7 q8 p8 q9 p9 q10 p10
  refine (i_sameViews _ _ _ _ _ _ _ _ _ _ _ _ H H' ps zs ps' zs' _ _ x5 MB.out.2 MB.out.1 LGS.out.1 LGS.out.2.1 LGS.out.2.2).mono ?_
  rw [HV.out]
  rintro e x6 ⟨rfl, b1⟩
  have S6 : Hid (Below W.heap.size W x6) := on S5.out b1
  have XC : Hid (Vb x6 u2 #[.slice rba rbn rbk, .int .i64 H'.pc, .slice dba dbn dbk, .bool H'.halted, .bool H'.waiting, .bool H'.rung, .int .i64 H'.done, .slice jba jbn jbk, .slice oba obn obk, .slice pba pbn pbk, .slice gba gbn gbk] 31 ∧ Vb x6 u1 #[.slice raa ran rak, .int .i64 H.pc, .slice daa dan dak, .bool H.halted, .bool H.waiting, .bool H.rung, .int .i64 H.done, .slice jaa jan jak, .slice oaa oan oak, .slice paa pan pak, .slice gaa gan gak] 31) := ⟨XB.out.1.keep b1, XB.out.2.keep b1⟩
  have MC : Hid (Vm x6 _ (.slice rba rbn rbk) (.slice dba dbn dbk) (.slice jba jbn jbk) (.slice oba obn obk) (.slice pba pbn pbk) (.slice gba gbn gbk) H' ps' zs' ∧ Vm x6 _ (.slice raa ran rak) (.slice daa dan dak) (.slice jaa jan jak) (.slice oaa oan oak) (.slice paa pan pak) (.slice gaa gan gak) H ps zs) := ⟨MB.out.1.keep b1, MB.out.2.keep b1⟩
  clear b1 XB MB HV
  have nb : (V != V) = false := by cases V <;> rfl
  go_upto_region 14 with fail
  have D0 : Hid (Below W.heap.size W x6.drew ∧ Vb x6.drew u2 #[.slice rba rbn rbk, .int .i64 H'.pc, .slice dba dbn dbk, .bool H'.halted, .bool H'.waiting, .bool H'.rung, .int .i64 H'.done, .slice jba jbn jbk, .slice oba obn obk, .slice pba pbn pbk, .slice gba gbn gbk] 31 ∧ Vb x6.drew u1 #[.slice raa ran rak, .int .i64 H.pc, .slice daa dan dak, .bool H.halted, .bool H.waiting, .bool H.rung, .int .i64 H.done, .slice jaa jan jak, .slice oaa oan oak, .slice paa pan pak, .slice gaa gan gak] 31) := ⟨S6.out.drew, XC.out.1.keep (Below.refl _ _).drew, XC.out.2.keep (Below.refl _ _).drew⟩
  have M0 : Hid (Vm x6.drew _ (.slice rba rbn rbk) (.slice dba dbn dbk) (.slice jba jbn jbk) (.slice oba obn obk) (.slice pba pbn pbk) (.slice gba gbn gbk) H' ps' zs' ∧ Vm x6.drew _ (.slice raa ran rak) (.slice daa dan dak) (.slice jaa jan jak) (.slice oaa oan oak) (.slice paa pan pak) (.slice gaa gan gak) H ps zs) := ⟨MC.out.1.keep (Below.refl _ _).drew, MC.out.2.keep (Below.refl _ _).drew⟩
  refine wp_region_held (S := (fun w' => Below W.heap.size W w' ∧ Vb w' u2 #[.slice rba rbn rbk, .int .i64 H'.pc, .slice dba dbn dbk, .bool H'.halted, .bool H'.waiting, .bool H'.rung, .int .i64 H'.done, .slice jba jbn jbk, .slice oba obn obk, .slice pba pbn pbk, .slice gba gbn gbk] 31 ∧ Vb w' u1 #[.slice raa ran rak, .int .i64 H.pc, .slice daa dan dak, .bool H.halted, .bool H.waiting, .bool H.rung, .int .i64 H.done, .slice jaa jan jak, .slice oaa oan oak, .slice paa pan pak, .slice gaa gan gak] 31)) (by kernel_rfl) ?_
  change wpAnyH _ _ _ _ _ _ _ _ (World.drew _)
  generalize x6.drew = z0 at *
  refine wpAnyH_take (i := 0) (v := .agg #[.slice raa ran rak, .int .i64 H.pc, .slice daa dan dak, .bool H.halted, .bool H.waiting, .bool H.rung, .int .i64 H.done, .slice jaa jan jak, .slice oaa oan oak, .slice paa pan pak, .slice gaa gan gak]) rfl (by kernel_rfl) (by kernel_rfl) (by kernel_rfl) (fun _ _ _ h => h) (Or.inl ⟨by rfl, fun w' hs => by have y0 := hs.2.2.cell 0 rfl; have y1 := hs.2.2.cell 1 rfl; have y2 := hs.2.2.cell 2 rfl; have y3 := hs.2.2.cell 3 rfl; have y4 := hs.2.2.cell 4 rfl; have y5 := hs.2.2.cell 5 rfl; have y6 := hs.2.2.cell 6 rfl; have y7 := hs.2.2.cell 7 rfl; have y8 := hs.2.2.cell 8 rfl; have y9 := hs.2.2.cell 9 rfl; have y10 := hs.2.2.cell 10 rfl; go_simp⟩) D0.out ?_
  change wpAnyH _ _ _ _ _ _ _ (Act.put _ (some 35) _) _
  simp only [Act.put, List.setIfInBounds_toArray, List.set_cons_zero, List.set_cons_succ]
  refine wpAnyH_take (i := 1) (v := .agg #[.slice a0 n0 c0, .int .i64 H.pc, .slice a1 n1 c1, .bool H.halted, .bool H.waiting, .bool H.rung, .int .i64 H.done, .slice a2 n2 c2, .slice a3 n3 c3, .slice la ln lc, .slice ma mn mc]) rfl (by kernel_rfl) (by kernel_rfl) (by kernel_rfl) (fun _ _ _ h => h) (Or.inl ⟨by rfl, fun w' hs => by have y0 := (Q.out.1.keep hs.1).cell 0 rfl; have y1 := (Q.out.1.keep hs.1).cell 1 rfl; have y2 := (Q.out.1.keep hs.1).cell 2 rfl; have y3 := (Q.out.1.keep hs.1).cell 3 rfl; have y4 := (Q.out.1.keep hs.1).cell 4 rfl; have y5 := (Q.out.1.keep hs.1).cell 5 rfl; have y6 := (Q.out.1.keep hs.1).cell 6 rfl; have y7 := (Q.out.1.keep hs.1).cell 7 rfl; have y8 := (Q.out.1.keep hs.1).cell 8 rfl; have y9 := (Q.out.1.keep hs.1).cell 9 rfl; have y10 := (Q.out.1.keep hs.1).cell 10 rfl; go_simp⟩) D0.out ?_
  change wpAnyH _ _ _ _ _ _ _ (Act.put _ (some 36) _) _
  simp only [Act.put, List.setIfInBounds_toArray, List.set_cons_zero, List.set_cons_succ]
  refine wpAnyH_ready (rs := [2]) (by kernel_rfl) (by simp) ?_
  refine AllReadyH.cons rfl (fun K hK => ?_) AllReadyH.nil
  rw [if_pos (by rfl)]
  go_simp
  refine (TA.out z0 D0.out.1).mono ?_
  rintro e z1 ⟨r9, c9, i9, o9, l9, m9, rfl, t1, b1⟩
  have D1 : Hid (Below W.heap.size W z1 ∧ Vb z1 u2 #[.slice rba rbn rbk, .int .i64 H'.pc, .slice dba dbn dbk, .bool H'.halted, .bool H'.waiting, .bool H'.rung, .int .i64 H'.done, .slice jba jbn jbk, .slice oba obn obk, .slice pba pbn pbk, .slice gba gbn gbk] 31 ∧ Vb z1 u1 #[.slice raa ran rak, .int .i64 H.pc, .slice daa dan dak, .bool H.halted, .bool H.waiting, .bool H.rung, .int .i64 H.done, .slice jaa jan jak, .slice oaa oan oak, .slice paa pan pak, .slice gaa gan gak] 31) := ⟨on D0.out.1 b1, D0.out.2.1.keep b1, D0.out.2.2.keep b1⟩
  have M1 : Hid (Vm z1 _ (.slice rba rbn rbk) (.slice dba dbn dbk) (.slice jba jbn jbk) (.slice oba obn obk) (.slice pba pbn pbk) (.slice gba gbn gbk) H' ps' zs' ∧ Vm z1 _ (.slice raa ran rak) (.slice daa dan dak) (.slice jaa jan jak) (.slice oaa oan oak) (.slice paa pan pak) (.slice gaa gan gak) H ps zs) := ⟨M0.out.1.keep b1, M0.out.2.keep b1⟩
  have T9 : Hid (Vm z1 _ r9 c9 i9 o9 l9 m9 H ps zs) := t1
  clear t1 b1
  refine hK.out _ _ D1.out (fun _ => ?_)
  clear hK K
  refine wpAnyH_ready (rs := [3]) (by kernel_rfl) (by simp) ?_
  refine AllReadyH.cons rfl (fun K hK => ?_) AllReadyH.nil
  rw [if_pos (by rfl)]
  go_simp
  refine (eq_view _ _ _ _ _ _ _ _ _ _ _ _ H ps zs _ _ z1 M1.out.2 T9.out).mono ?_
  rintro e z2 ⟨rfl, b1⟩
  have D2 : Hid (Below W.heap.size W z2 ∧ Vb z2 u2 #[.slice rba rbn rbk, .int .i64 H'.pc, .slice dba dbn dbk, .bool H'.halted, .bool H'.waiting, .bool H'.rung, .int .i64 H'.done, .slice jba jbn jbk, .slice oba obn obk, .slice pba pbn pbk, .slice gba gbn gbk] 31 ∧ Vb z2 u1 #[.slice raa ran rak, .int .i64 H.pc, .slice daa dan dak, .bool H.halted, .bool H.waiting, .bool H.rung, .int .i64 H.done, .slice jaa jan jak, .slice oaa oan oak, .slice paa pan pak, .slice gaa gan gak] 31) := ⟨on D1.out.1 b1, D1.out.2.1.keep b1, D1.out.2.2.keep b1⟩
  have M2 : Hid (Vm z2 _ (.slice rba rbn rbk) (.slice dba dbn dbk) (.slice jba jbn jbk) (.slice oba obn obk) (.slice pba pbn pbk) (.slice gba gbn gbk) H' ps' zs' ∧ Vm z2 _ (.slice raa ran rak) (.slice daa dan dak) (.slice jaa jan jak) (.slice oaa oan oak) (.slice paa pan pak) (.slice gaa gan gak) H ps zs) := ⟨M1.out.1.keep b1, M1.out.2.keep b1⟩
  clear b1 T9
  refine hK.out _ _ D2.out (fun _ => ?_)
  clear hK K
  refine wpAnyH_take (i := 4) (v := .bool false) rfl (by kernel_rfl) (by kernel_rfl) (by kernel_rfl) (fun _ _ _ h => h) (Or.inl ⟨by rfl, fun w' hs => by go_simp⟩) D2.out ?_
  change wpAnyH _ _ _ _ _ _ _ (Act.put _ (some 39) _) _
  simp only [Act.put, List.setIfInBounds_toArray, List.set_cons_zero, List.set_cons_succ]
  refine wpAnyH_done (by kernel_rfl) ?_ _
  clear S6 XC MC D0 D1 M0 M1
  obtain ⟨x7, rfl⟩ : ∃ x, x = z2 := ⟨_, rfl⟩
  have S7 : Hid (Below W.heap.size W x7) := D2.out.1
  have XC : Hid (Vb x7 u2 #[.slice rba rbn rbk, .int .i64 H'.pc, .slice dba dbn dbk, .bool H'.halted, .bool H'.waiting, .bool H'.rung, .int .i64 H'.done, .slice jba jbn jbk, .slice oba obn obk, .slice pba pbn pbk, .slice gba gbn gbk] 31 ∧ Vb x7 u1 #[.slice raa ran rak, .int .i64 H.pc, .slice daa dan dak, .bool H.halted, .bool H.waiting, .bool H.rung, .int .i64 H.done, .slice jaa jan jak, .slice oaa oan oak, .slice paa pan pak, .slice gaa gan gak] 31) := ⟨D2.out.2.1, D2.out.2.2⟩
  have MC : Hid (Vm x7 _ (.slice rba rbn rbk) (.slice dba dbn dbk) (.slice jba jbn jbk) (.slice oba obn obk) (.slice pba pbn pbk) (.slice gba gbn gbk) H' ps' zs' ∧ Vm x7 _ (.slice raa ran rak) (.slice daa dan dak) (.slice jaa jan jak) (.slice oaa oan oak) (.slice paa pan pak) (.slice gaa gan gak) H ps zs) := M2.out
  clear D2 M2
  go_upto_region 16 with fail
  have D0 : Hid (Below W.heap.size W x7.drew ∧ Vb x7.drew u2 #[.slice rba rbn rbk, .int .i64 H'.pc, .slice dba dbn dbk, .bool H'.halted, .bool H'.waiting, .bool H'.rung, .int .i64 H'.done, .slice jba jbn jbk, .slice oba obn obk, .slice pba pbn pbk, .slice gba gbn gbk] 31 ∧ Vb x7.drew u1 #[.slice raa ran rak, .int .i64 H.pc, .slice daa dan dak, .bool H.halted, .bool H.waiting, .bool H.rung, .int .i64 H.done, .slice jaa jan jak, .slice oaa oan oak, .slice paa pan pak, .slice gaa gan gak] 31) := ⟨S7.out.drew, XC.out.1.keep (Below.refl _ _).drew, XC.out.2.keep (Below.refl _ _).drew⟩
  have M0 : Hid (Vm x7.drew _ (.slice rba rbn rbk) (.slice dba dbn dbk) (.slice jba jbn jbk) (.slice oba obn obk) (.slice pba pbn pbk) (.slice gba gbn gbk) H' ps' zs' ∧ Vm x7.drew _ (.slice raa ran rak) (.slice daa dan dak) (.slice jaa jan jak) (.slice oaa oan oak) (.slice paa pan pak) (.slice gaa gan gak) H ps zs) := ⟨MC.out.1.keep (Below.refl _ _).drew, MC.out.2.keep (Below.refl _ _).drew⟩
  refine wp_region_held (S := (fun w' => Below W.heap.size W w' ∧ Vb w' u2 #[.slice rba rbn rbk, .int .i64 H'.pc, .slice dba dbn dbk, .bool H'.halted, .bool H'.waiting, .bool H'.rung, .int .i64 H'.done, .slice jba jbn jbk, .slice oba obn obk, .slice pba pbn pbk, .slice gba gbn gbk] 31 ∧ Vb w' u1 #[.slice raa ran rak, .int .i64 H.pc, .slice daa dan dak, .bool H.halted, .bool H.waiting, .bool H.rung, .int .i64 H.done, .slice jaa jan jak, .slice oaa oan oak, .slice paa pan pak, .slice gaa gan gak] 31)) (by kernel_rfl) ?_
  change wpAnyH _ _ _ _ _ _ _ _ (World.drew _)
  generalize x7.drew = z0 at *
  refine wpAnyH_take (i := 0) (v := .agg #[.slice rba rbn rbk, .int .i64 H'.pc, .slice dba dbn dbk, .bool H'.halted, .bool H'.waiting, .bool H'.rung, .int .i64 H'.done, .slice jba jbn jbk, .slice oba obn obk, .slice pba pbn pbk, .slice gba gbn gbk]) rfl (by kernel_rfl) (by kernel_rfl) (by kernel_rfl) (fun _ _ _ h => h) (Or.inl ⟨by rfl, fun w' hs => by have y0 := hs.2.1.cell 0 rfl; have y1 := hs.2.1.cell 1 rfl; have y2 := hs.2.1.cell 2 rfl; have y3 := hs.2.1.cell 3 rfl; have y4 := hs.2.1.cell 4 rfl; have y5 := hs.2.1.cell 5 rfl; have y6 := hs.2.1.cell 6 rfl; have y7 := hs.2.1.cell 7 rfl; have y8 := hs.2.1.cell 8 rfl; have y9 := hs.2.1.cell 9 rfl; have y10 := hs.2.1.cell 10 rfl; go_simp⟩) D0.out ?_
  change wpAnyH _ _ _ _ _ _ _ (Act.put _ (some 40) _) _
  simp only [Act.put, List.setIfInBounds_toArray, List.set_cons_zero, List.set_cons_succ]
  refine wpAnyH_take (i := 1) (v := .agg #[.slice a0' n0' c0', .int .i64 H'.pc, .slice a1' n1' c1', .bool H'.halted, .bool H'.waiting, .bool H'.rung, .int .i64 H'.done, .slice a2' n2' c2', .slice a3' n3' c3', .slice la' ln' lc', .slice ma' mn' mc']) rfl (by kernel_rfl) (by kernel_rfl) (by kernel_rfl) (fun _ _ _ h => h) (Or.inl ⟨by rfl, fun w' hs => by have y0 := (Q.out.2.keep hs.1).cell 0 rfl; have y1 := (Q.out.2.keep hs.1).cell 1 rfl; have y2 := (Q.out.2.keep hs.1).cell 2 rfl; have y3 := (Q.out.2.keep hs.1).cell 3 rfl; have y4 := (Q.out.2.keep hs.1).cell 4 rfl; have y5 := (Q.out.2.keep hs.1).cell 5 rfl; have y6 := (Q.out.2.keep hs.1).cell 6 rfl; have y7 := (Q.out.2.keep hs.1).cell 7 rfl; have y8 := (Q.out.2.keep hs.1).cell 8 rfl; have y9 := (Q.out.2.keep hs.1).cell 9 rfl; have y10 := (Q.out.2.keep hs.1).cell 10 rfl; go_simp⟩) D0.out ?_
  change wpAnyH _ _ _ _ _ _ _ (Act.put _ (some 41) _) _
  simp only [Act.put, List.setIfInBounds_toArray, List.set_cons_zero, List.set_cons_succ]
  refine wpAnyH_ready (rs := [2]) (by kernel_rfl) (by simp) ?_
  refine AllReadyH.cons rfl (fun K hK => ?_) AllReadyH.nil
  rw [if_pos (by rfl)]
  go_simp
  refine (TB.out z0 D0.out.1).mono ?_
  rintro e z1 ⟨r9, c9, i9, o9, l9, m9, rfl, t1, b1⟩
  have D1 : Hid (Below W.heap.size W z1 ∧ Vb z1 u2 #[.slice rba rbn rbk, .int .i64 H'.pc, .slice dba dbn dbk, .bool H'.halted, .bool H'.waiting, .bool H'.rung, .int .i64 H'.done, .slice jba jbn jbk, .slice oba obn obk, .slice pba pbn pbk, .slice gba gbn gbk] 31 ∧ Vb z1 u1 #[.slice raa ran rak, .int .i64 H.pc, .slice daa dan dak, .bool H.halted, .bool H.waiting, .bool H.rung, .int .i64 H.done, .slice jaa jan jak, .slice oaa oan oak, .slice paa pan pak, .slice gaa gan gak] 31) := ⟨on D0.out.1 b1, D0.out.2.1.keep b1, D0.out.2.2.keep b1⟩
  have M1 : Hid (Vm z1 _ (.slice rba rbn rbk) (.slice dba dbn dbk) (.slice jba jbn jbk) (.slice oba obn obk) (.slice pba pbn pbk) (.slice gba gbn gbk) H' ps' zs' ∧ Vm z1 _ (.slice raa ran rak) (.slice daa dan dak) (.slice jaa jan jak) (.slice oaa oan oak) (.slice paa pan pak) (.slice gaa gan gak) H ps zs) := ⟨M0.out.1.keep b1, M0.out.2.keep b1⟩
  have T9 : Hid (Vm z1 _ r9 c9 i9 o9 l9 m9 H' ps' zs') := t1
  clear t1 b1
  refine hK.out _ _ D1.out (fun _ => ?_)
  clear hK K
  refine wpAnyH_ready (rs := [3]) (by kernel_rfl) (by simp) ?_
  refine AllReadyH.cons rfl (fun K hK => ?_) AllReadyH.nil
  rw [if_pos (by rfl)]
  go_simp
  refine (eq_view _ _ _ _ _ _ _ _ _ _ _ _ H' ps' zs' _ _ z1 M1.out.1 T9.out).mono ?_
  rintro e z2 ⟨rfl, b1⟩
  have D2 : Hid (Below W.heap.size W z2 ∧ Vb z2 u2 #[.slice rba rbn rbk, .int .i64 H'.pc, .slice dba dbn dbk, .bool H'.halted, .bool H'.waiting, .bool H'.rung, .int .i64 H'.done, .slice jba jbn jbk, .slice oba obn obk, .slice pba pbn pbk, .slice gba gbn gbk] 31 ∧ Vb z2 u1 #[.slice raa ran rak, .int .i64 H.pc, .slice daa dan dak, .bool H.halted, .bool H.waiting, .bool H.rung, .int .i64 H.done, .slice jaa jan jak, .slice oaa oan oak, .slice paa pan pak, .slice gaa gan gak] 31) := ⟨on D1.out.1 b1, D1.out.2.1.keep b1, D1.out.2.2.keep b1⟩
  have M2 : Hid (Vm z2 _ (.slice rba rbn rbk) (.slice dba dbn dbk) (.slice jba jbn jbk) (.slice oba obn obk) (.slice pba pbn pbk) (.slice gba gbn gbk) H' ps' zs' ∧ Vm z2 _ (.slice raa ran rak) (.slice daa dan dak) (.slice jaa jan jak) (.slice oaa oan oak) (.slice paa pan pak) (.slice gaa gan gak) H ps zs) := ⟨M1.out.1.keep b1, M1.out.2.keep b1⟩
  clear b1 T9
  refine hK.out _ _ D2.out (fun _ => ?_)
  clear hK K
  refine wpAnyH_take (i := 4) (v := .bool false) rfl (by kernel_rfl) (by kernel_rfl) (by kernel_rfl) (fun _ _ _ h => h) (Or.inl ⟨by rfl, fun w' hs => by go_simp⟩) D2.out ?_
  change wpAnyH _ _ _ _ _ _ _ (Act.put _ (some 44) _) _
  simp only [Act.put, List.setIfInBounds_toArray, List.set_cons_zero, List.set_cons_succ]
  refine wpAnyH_done (by kernel_rfl) ?_ _
  go_wp2_with fail
  go_ret
  exact ⟨rfl, on B0.out D2.out.1⟩

set_option maxRecDepth 100000 in
theorem lifted (os : Os) (started : os.Started) (H : Type) (enc : TypeId × Value → H) :
    ReturnsInHanded {} Try.checked os 3 .any (Rows.fnExactSameViewsSpec.pre6 enc Try.prog Try.f3 Rows.fnExactSameViewsRow.domain false) (Rows.fnExactSameViewsSpec.post enc Try.prog Try.f3 false true false false) := by
  refine returnsInHanded_of_change (C := Try.checked) own started (by kernel_rfl) Try.func3
    (ChangeSpec.witness6 (enc := enc) (C := Try.checked) false ⟨#[], #[.agg #[.slice none 0 0, .int .i64 0, .slice none 0 0, .bool false, .bool false, .bool false, .int .i64 0, .slice none 0 0, .slice none 0 0, .slice none 0 0, .slice none 0 0], .agg #[.slice none 0 0, .int .i64 0, .slice none 0 0, .bool false, .bool false, .bool false, .int .i64 0, .slice none 0 0, .slice none 0 0, .slice none 0 0, .slice none 0 0]], []⟩ 8 (by kernel_rfl) (by kernel_rfl) (by kernel_rfl) (by kernel_rfl)) ?_
  intro W base args ds gs before hval0 hW hcnd _
  have hval : ∀ (j : Nat) t v, Try.f3.params[j]? = some t → args[j]? = some v → Value.okWide Try.prog W .any base t v := hval0
  have hW' := hW
  obtain ⟨p, q, hA0, hV, rfl, hfz, hnd⟩ := hW
  have hA : DataW.TrodAll enc Try.prog W 0 (fun _ => true) true Try.f3.params.toList args.toList ds p := hA0
  rw [Try.params3] at hA hval
  obtain ⟨v0, vs0, d0, ds0, p0, q0, hargs, rfl, rfl, h0, r0⟩ := trodAll_cons hA
  obtain ⟨v1, vs1, d1, ds1, p1, q1, rfl, rfl, rfl, h1, r1⟩ := trodAll_cons r0
  obtain ⟨rfl, rfl, rfl⟩ := trodAll_nil r1
  obtain rfl : args = #[v0, v1] := by cases args; simp_all
  obtain ⟨rfl, rfl⟩ := trodVars_none hV
  have k0 := h0
  have lt0 : ∀ x ∈ p0, x.block < W.heap.size := by obtain ⟨m, hm⟩ := k0; exact DataW.trod_lt m _ _ _ hm
  obtain ⟨v0_a0, v0_a1, v0_a2, v0_a3, v0_n0, v0_k0, v0_n1, v0_k1, v0_n2, v0_k2, v0_n3, v0_k3, v0_H, v0_la, v0_ln, v0_lc, v0_ps, v0_ma, v0_mn, v0_mc, v0_zs, rfl, v0_in, v0_ip, v0_iz⟩ := view_open Try.underlying26 (by kernel_rfl) rfl rfl rfl (by kernel_rfl) (by kernel_rfl) (by kernel_rfl) Try.underlying24 (by kernel_rfl) Try.underlying22 Try.underlying2 Try.underlying22 Try.underlying4 Try.underlying4 Try.underlying4 Try.underlying2 Try.underlying22 Try.underlying22 Try.underlying2 Try.underlying2 Try.underlying2 Try.underlying2 (by kernel_rfl) (by kernel_rfl) (by kernel_rfl) (by kernel_rfl) Try.underlying22 Try.underlying2 (by kernel_rfl) Try.underlying22 Try.underlying2 (by kernel_rfl) (hval 0 26 v0 rfl rfl) h0
  have k1 := h1
  have lt1 : ∀ x ∈ p1, x.block < W.heap.size := by obtain ⟨m, hm⟩ := k1; exact DataW.trod_lt m _ _ _ hm
  obtain ⟨v1_a0, v1_a1, v1_a2, v1_a3, v1_n0, v1_k0, v1_n1, v1_k1, v1_n2, v1_k2, v1_n3, v1_k3, v1_H, v1_la, v1_ln, v1_lc, v1_ps, v1_ma, v1_mn, v1_mc, v1_zs, rfl, v1_in, v1_ip, v1_iz⟩ := view_open Try.underlying26 (by kernel_rfl) rfl rfl rfl (by kernel_rfl) (by kernel_rfl) (by kernel_rfl) Try.underlying24 (by kernel_rfl) Try.underlying22 Try.underlying2 Try.underlying22 Try.underlying4 Try.underlying4 Try.underlying4 Try.underlying2 Try.underlying22 Try.underlying22 Try.underlying2 Try.underlying2 Try.underlying2 Try.underlying2 (by kernel_rfl) (by kernel_rfl) (by kernel_rfl) (by kernel_rfl) Try.underlying22 Try.underlying2 (by kernel_rfl) Try.underlying22 Try.underlying2 (by kernel_rfl) (hval 1 26 v1 rfl rfl) h1
  clear hA0 hval0
  refine (walk v0_a0 v0_a1 v0_a2 v0_a3 v0_n0 v0_k0 v0_n1 v0_k1 v0_n2 v0_k2 v0_n3 v0_k3 v0_H v0_la v0_ln v0_lc v0_ps v0_ma v0_mn v0_mc v0_zs v1_a0 v1_a1 v1_a2 v1_a3 v1_n0 v1_k0 v1_n1 v1_k1 v1_n2 v1_k2 v1_n3 v1_k3 v1_H v1_la v1_ln v1_lc v1_ps v1_ma v1_mn v1_mc v1_zs W v0_in v0_ip v0_iz v1_in v1_ip v1_iz).mono fun e W' ⟨he, bel⟩ => ?_
  subst he
  exact ⟨_, rfl, _, _, _, [], _, [], hW', trodAll_mk1 (shut_bool Try.underlying4 _), (trodAll_cons_mk (Below.trod laidOut (by kernel_rfl) (of_decide_eq_true (by kernel_rfl)) k0 bel lt0) (trodAll_cons_mk (Below.trod laidOut (by kernel_rfl) (of_decide_eq_true (by kernel_rfl)) k1 bel lt1) trodAll_mk0)), rfl, bel.frame _, fun h => by cases h⟩

theorem over : Rows.fnExactSameViewsRow.holds Try.pinned (OpenSpec.ofChange Rows.fnExactSameViewsSpec) :=
  OpenClaim.holds_of_wide 3 Try.f3 rfl rfl rfl rfl rfl rfl rfl ⟨rfl, rfl, rfl, rfl, rfl⟩ rfl rfl rfl rfl rfl (by kernel_rfl) Try.func3 (by kernel_rfl)
    (of_decide_eq_true (by kernel_rfl)) (by unfold Func.isWrapper; first | (rw [if_pos (by decide +kernel)]; kernel_rfl) | (rw [if_neg (by decide +kernel)]; exact ⟨rfl, rfl⟩))
    (fun os started H enc _ => lifted os started H enc)

theorem proved : Rows.FnExactSameViewsSaid := over
end Go.Proofs.Ytldfcojmcdpdgaa.fnExactSameViewsDone
