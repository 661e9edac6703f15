/- The law FnSpaces answers true at every input, and each argument reads behind the call as it read ahead of it; no condition. -/
import Derived.Deep.RegionHeld3
import Derived.Deep.RegionWith
import Derived.Deep.Cut
import Derived.Deep.CutRange
import Derived.Test.YtgjpfmcokcjegaaQ01
import Derived.Test.YtgjpfmcokcjegaaQ29
import Derived.Test.YtgjpfmcokcjegaaQ32
import Derived.Test.YtgjpfmcokcjegaaQ52
namespace Go.Proofs.Ytgjpfmcokcjegaa.fnSpacesDone
open Go.ChangeShapes Go.WideShapes Go.ChangeAt Go.RowKit
open Go.ChangeMaps (open_string shut_string)
set_option linter.unusedVariables false

theorem field_int0 (x0 x1 : Value) (w : World) : (Instr.field 31 (.agg #[x0, x1]) 0).run Try.prog w = .ok x0 w := by kernel_rfl
theorem field_pages0 (x0 x1 : Value) (w : World) : (Instr.field 34 (.agg #[x0, x1]) 0).run Try.prog w = .ok x0 w := by kernel_rfl
theorem field_pages1 (x0 x1 : Value) (w : World) : (Instr.field 34 (.agg #[x0, x1]) 1).run Try.prog w = .ok x1 w := by kernel_rfl
set_option maxRecDepth 20000 in
set_option maxHeartbeats 16000000 in
theorem walk (a0 : Option Addr) (len0 cap0 : Nat) (z0 : List Int) (w : World) (w0 : IsRow .u8 w a0 len0 cap0 z0) :
    Calls Try.prog 3 #[.slice a0 len0 cap0] w fun e w' => e = .returned (.bool true) ∧ Below w.heap.size w w' := by
  have HR : Hid (IsRow .u8 w a0 len0 cap0 z0) := w0
  clear w0
  by_cases hbig : 1048576 < (len0 : Int)
  · go_enter Try.func3, Try.ntmps3
    go_wp2_with (go_at_call 4; go_in)
    go_ret
    exact ⟨rfl, Below.refl _ _⟩
  go_enter Try.func3, Try.ntmps3
  go_wp2_with (go_at_call 4; go_in)
  clear hbig
  refine (drawPlaceOf HR.out).mono ?_
  rintro e w1 ⟨b0, m0, k0, b1, m1, k1, b2, m2, k2, b3, m3, k3, H, la, ln, lk, ma, mn, mk, x1, x2, rfl, hz, hl, hm, g1⟩
  clear HR
  obtain ⟨sc, pc, pv, hsk⟩ := sk_any x1 x2 hz hl hm
  have SK1 : Hid (Skn w1 b0 m0 k0 b1 m1 k1 b2 m2 k2 b3 m3 k3 H la ln lk ma mn mk x1 x2 sc pc pv) := hsk
  have B1 : Hid (Below w.heap.size w w1) := g1
  clear hz hl hm hsk g1
  obtain ⟨q, hq⟩ : ∃ q, w1.heap.size = q := ⟨_, rfl⟩
  have VQ : Hid (Vb (w1.alloc (.cells #[.slice b0 m0 k0, .int .i64 H.pc, .slice b1 m1 k1, .bool H.halted, .bool H.waiting, .bool H.rung, .int .i64 H.done, .slice b2 m2 k2, .slice b3 m3 k3] 26)) q #[.slice b0 m0 k0, .int .i64 H.pc, .slice b1 m1 k1, .bool H.halted, .bool H.waiting, .bool H.rung, .int .i64 H.done, .slice b2 m2 k2, .slice b3 m3 k3] 26) := by show Vb _ _ _ _; rw [← hq]; exact Vb.new _ _ _
  have BQ : Hid (Below w1.heap.size w1 (w1.alloc (.cells #[.slice b0 m0 k0, .int .i64 H.pc, .slice b1 m1 k1, .bool H.halted, .bool H.waiting, .bool H.rung, .int .i64 H.done, .slice b2 m2 k2, .slice b3 m3 k3] 26))) := al (Below.refl _ _) _
  go_upto_region 4 with fail
  try rw [hq]
  clear hq
  generalize w1.alloc (.cells #[.slice b0 m0 k0, .int .i64 H.pc, .slice b1 m1 k1, .bool H.halted, .bool H.waiting, .bool H.rung, .int .i64 H.done, .slice b2 m2 k2, .slice b3 m3 k3] 26) = W at *
  have SK2 : Hid (Skn W b0 m0 k0 b1 m1 k1 b2 m2 k2 b3 m3 k3 H la ln lk ma mn mk x1 x2 sc pc pv) := SK1.out.later BQ.out
  replace B1 : Hid (Below w.heap.size w W) := on B1.out BQ.out
  clear SK1 BQ
  have q0 := VQ.out.cell 0 rfl
  have q1 := VQ.out.cell 1 rfl
  have q2 := VQ.out.cell 2 rfl
  have q3 := VQ.out.cell 3 rfl
  have q4 := VQ.out.cell 4 rfl
  have q5 := VQ.out.cell 5 rfl
  have q6 := VQ.out.cell 6 rfl
  have q7 := VQ.out.cell 7 rfl
  have q8 := VQ.out.cell 8 rfl
  go_wp2_with fail
  clear q0 q1 q2 q3 q4 q5 q6 q7 q8
  refine (SK2.out.ip W (Below.refl _ _)).mono ?_
  rintro e w2 ⟨rfl, g2⟩
  obtain ⟨s, hs⟩ : ∃ s, w2.heap.size = s := ⟨_, rfl⟩
  have VP : Hid (Vb (w2.alloc (.cells #[.int .i64 pc, .int .i64 pv] 31)) s #[.int .i64 pc, .int .i64 pv] 31) := by show Vb _ _ _ _; rw [← hs]; exact Vb.new _ _ _
  have B2 : Hid (Below W.heap.size W (w2.alloc (.cells #[.int .i64 pc, .int .i64 pv] 31))) := al g2 _
  clear g2
  go_upto_region 5 with fail
  try rw [hs]
  clear hs
  generalize w2.alloc (.cells #[.int .i64 pc, .int .i64 pv] 31) = W2 at *
  have q0 := (VQ.out.keep B2.out).cell 0 rfl
  have q1 := (VQ.out.keep B2.out).cell 1 rfl
  have q2 := (VQ.out.keep B2.out).cell 2 rfl
  have q3 := (VQ.out.keep B2.out).cell 3 rfl
  have q4 := (VQ.out.keep B2.out).cell 4 rfl
  have q5 := (VQ.out.keep B2.out).cell 5 rfl
  have q6 := (VQ.out.keep B2.out).cell 6 rfl
  have q7 := (VQ.out.keep B2.out).cell 7 rfl
  have q8 := (VQ.out.keep B2.out).cell 8 rfl
  go_wp2_with fail
  clear q0 q1 q2 q3 q4 q5 q6 q7 q8
  refine (SK2.out.is W2 B2.out).mono ?_
  rintro e w3 ⟨ua, un, uc, rfl, g3, hrs⟩
  obtain ⟨t, ht⟩ : ∃ t, w3.heap.size = t := ⟨_, rfl⟩
  have VS : Hid (Vb (w3.alloc (.cells #[.int .i64 sc, .slice ua un uc] 34)) t #[.int .i64 sc, .slice ua un uc] 34) := by show Vb _ _ _ _; rw [← ht]; exact Vb.new _ _ _
  have B3 : Hid (Below W2.heap.size W2 (w3.alloc (.cells #[.int .i64 sc, .slice ua un uc] 34))) := al g3 _
  have PK : Hid (∀ rs, Prs 73 w3 W2.heap.size (.slice ua un uc) rs → Prs 73 (w3.alloc (.cells #[.int .i64 sc, .slice ua un uc] 34)) 0 (.slice ua un uc) rs) := fun rs h => (h.keep (al (Below.refl _ _) _)).mono (Nat.zero_le _)
  have RS : Hid (sc = 0 → _) := hrs
  clear g3 hrs
  go_upto_region 6 with fail
  try rw [ht]
  clear ht
  generalize w3.alloc (.cells #[.int .i64 sc, .slice ua un uc] 34) = W3 at *
  have VP3 : Hid (Vb W3 s #[.int .i64 pc, .int .i64 pv] 31) := VP.out.keep B3.out
  have HB : Hid (Below W.heap.size W W3) := on B2.out B3.out
  have VQ3 : Hid (Vb W3 q #[.slice b0 m0 k0, .int .i64 H.pc, .slice b1 m1 k1, .bool H.halted, .bool H.waiting, .bool H.rung, .int .i64 H.done, .slice b2 m2 k2, .slice b3 m3 k3] 26) := VQ.out.keep HB.out
  have SK3 : Hid (Skn W3 b0 m0 k0 b1 m1 k1 b2 m2 k2 b3 m3 k3 H la ln lk ma mn mk x1 x2 sc pc pv) := SK2.out.later HB.out
  have BW : Hid (Below w.heap.size w W3) := on B1.out HB.out
  have FB : Hid (∀ w', Below W2.heap.size W2 w' → True) := fun _ _ => trivial
  clear VQ SK2 B1 HB VP FB
  have p0 := VS.out.cell 0 rfl
  by_cases hsc : sc = 0
  case neg =>
    have hsc' : (sc != 0) = true := by simpa using hsc
    clear RS PK hsc
    have ff0 := field_pages0
    have ff1 := field_int0
    go_upto_region 7 with fail
    clear p0
    have SD : Hid (Below W3.heap.size W3 W3.drew) := (Below.refl _ _).drew
    refine wp_region_held (S := fun w' => Below W3.heap.size W3 w') (by kernel_rfl) ?_
    change wpAnyH _ _ _ _ _ _ _ _ (World.drew _)
    generalize W3.drew = v1 at *
    refine wpAnyH_take (i := 0) (v := .agg #[.slice b0 m0 k0, .int .i64 H.pc, .slice b1 m1 k1, .bool H.halted, .bool H.waiting, .bool H.rung, .int .i64 H.done, .slice b2 m2 k2, .slice b3 m3 k3]) rfl (by kernel_rfl) (by kernel_rfl) (by kernel_rfl) (fun _ _ _ h => h) (yieldsIf_load_mid (by rfl) 26 (.tmp 3) rfl q 0 rfl [.slice b0 m0 k0, .int .i64 H.pc, .slice b1 m1 k1, .bool H.halted, .bool H.waiting, .bool H.rung, .int .i64 H.done, .slice b2 m2 k2, .slice b3 m3 k3] _ (fun w' hs => vb_rangeW (VQ3.out.keep hs)) Try.underlying26 rfl (by kernel_rfl)) SD.out ?_
    change wpAnyH _ _ _ _ _ _ _ (Act.put _ (some 35) _) _
    simp only [Act.put, List.setIfInBounds_toArray, List.set_cons_zero, List.set_cons_succ]
    refine wpAnyH_take (i := 1) (v := (.slice la ln lk)) rfl (by kernel_rfl) (by kernel_rfl) (by kernel_rfl) (fun _ _ _ h => h) (Or.inl ⟨by rfl, fun w' hs => by go_simp⟩) SD.out ?_
    change wpAnyH _ _ _ _ _ _ _ (Act.put _ (some 36) _) _
    simp only [Act.put, List.setIfInBounds_toArray, List.set_cons_zero, List.set_cons_succ]
    refine wpAnyH_take (i := 2) (v := (.slice ma mn mk)) rfl (by kernel_rfl) (by kernel_rfl) (by kernel_rfl) (fun _ _ _ h => h) (Or.inl ⟨by rfl, fun w' hs => by go_simp⟩) SD.out ?_
    change wpAnyH _ _ _ _ _ _ _ (Act.put _ (some 37) _) _
    simp only [Act.put, List.setIfInBounds_toArray, List.set_cons_zero, List.set_cons_succ]
    refine wpAnyH_take (i := 5) (v := (.pointer (some ⟨t, 0, none⟩))) rfl (by kernel_rfl) (by kernel_rfl) (by kernel_rfl) (fun _ _ _ h => h) (Or.inl ⟨by rfl, fun w' hs => by go_simp⟩) SD.out ?_
    change wpAnyH _ _ _ _ _ _ _ (Act.put _ (some 40) _) _
    simp only [Act.put, List.setIfInBounds_toArray, List.set_cons_zero, List.set_cons_succ]
    refine wpAnyH_take (i := 6) (v := (.int .i64 sc)) rfl (by kernel_rfl) (by kernel_rfl) (by kernel_rfl) (fun _ _ _ h => h) (Or.inl ⟨by rfl, fun w' hs => by have y := (VS.out.keep hs).cell 0 rfl; go_simp⟩) SD.out ?_
    change wpAnyH _ _ _ _ _ _ _ (Act.put _ (some 41) _) _
    simp only [Act.put, List.setIfInBounds_toArray, List.set_cons_zero, List.set_cons_succ]
    refine wpAnyH_ready (rs := [3]) (by kernel_rfl) (by simp) ?_
    refine AllReadyH.cons rfl (fun K hK => ?_) AllReadyH.nil
    rw [if_pos (by rfl)]
    go_simp
    refine (SK3.out.ss v1 SD.out).mono ?_
    rintro e v2 ⟨ya, yn, yc, rfl, g⟩
    replace SD : Hid (Below W3.heap.size W3 v2) := on SD.out g
    clear g
    refine hK.out _ _ SD.out (fun _ => ?_)
    clear hK K
    refine wpAnyH_take (i := 4) (v := (.int .i64 sc)) rfl (by kernel_rfl) (by kernel_rfl) (by kernel_rfl) (fun _ _ _ h => h) (Or.inl ⟨by rfl, fun w' hs => by go_simp⟩) SD.out ?_
    change wpAnyH _ _ _ _ _ _ _ (Act.put _ (some 39) _) _
    simp only [Act.put, List.setIfInBounds_toArray, List.set_cons_zero, List.set_cons_succ]
    refine wpAnyH_take (i := 7) (v := (.bool true)) rfl (by kernel_rfl) (by kernel_rfl) (by kernel_rfl) (fun _ _ _ h => h) (Or.inl ⟨by rfl, fun w' hs => by go_simp⟩) SD.out ?_
    change wpAnyH _ _ _ _ _ _ _ (Act.put _ (some 42) _) _
    simp only [Act.put, List.setIfInBounds_toArray, List.set_cons_zero, List.set_cons_succ]
    refine wpAnyH_take (i := 8) (v := (.bool true)) rfl (by kernel_rfl) (by kernel_rfl) (by kernel_rfl) (fun _ _ _ h => h) (Or.inl ⟨by rfl, fun w' hs => by go_simp⟩) SD.out ?_
    change wpAnyH _ _ _ _ _ _ _ (Act.put _ (some 43) _) _
    simp only [Act.put, List.setIfInBounds_toArray, List.set_cons_zero, List.set_cons_succ]
    refine wpAnyH_take (i := 9) (v := (.pointer (some ⟨s, 0, none⟩))) rfl (by kernel_rfl) (by kernel_rfl) (by kernel_rfl) (fun _ _ _ h => h) (Or.inl ⟨by rfl, fun w' hs => by go_simp⟩) SD.out ?_
    change wpAnyH _ _ _ _ _ _ _ (Act.put _ (some 44) _) _
    simp only [Act.put, List.setIfInBounds_toArray, List.set_cons_zero, List.set_cons_succ]
    refine wpAnyH_take (i := 10) (v := (.int .i64 pc)) rfl (by kernel_rfl) (by kernel_rfl) (by kernel_rfl) (fun _ _ _ h => h) (Or.inl ⟨by rfl, fun w' hs => by have y := (VP3.out.keep hs).cell 0 rfl; go_simp⟩) SD.out ?_
    change wpAnyH _ _ _ _ _ _ _ (Act.put _ (some 45) _) _
    simp only [Act.put, List.setIfInBounds_toArray, List.set_cons_zero, List.set_cons_succ]
    refine wpAnyH_take (i := 11) (v := .agg #[.slice b0 m0 k0, .int .i64 H.pc, .slice b1 m1 k1, .bool H.halted, .bool H.waiting, .bool H.rung, .int .i64 H.done, .slice b2 m2 k2, .slice b3 m3 k3]) rfl (by kernel_rfl) (by kernel_rfl) (by kernel_rfl) (fun _ _ _ h => h) (yieldsIf_load_mid (by rfl) 26 (.tmp 3) rfl q 0 rfl [.slice b0 m0 k0, .int .i64 H.pc, .slice b1 m1 k1, .bool H.halted, .bool H.waiting, .bool H.rung, .int .i64 H.done, .slice b2 m2 k2, .slice b3 m3 k3] _ (fun w' hs => vb_rangeW (VQ3.out.keep hs)) Try.underlying26 rfl (by kernel_rfl)) SD.out ?_
    change wpAnyH _ _ _ _ _ _ _ (Act.put _ (some 46) _) _
    simp only [Act.put, List.setIfInBounds_toArray, List.set_cons_zero, List.set_cons_succ]
    refine wpAnyH_take (i := 12) (v := (.slice la ln lk)) rfl (by kernel_rfl) (by kernel_rfl) (by kernel_rfl) (fun _ _ _ h => h) (Or.inl ⟨by rfl, fun w' hs => by go_simp⟩) SD.out ?_
    change wpAnyH _ _ _ _ _ _ _ (Act.put _ (some 47) _) _
    simp only [Act.put, List.setIfInBounds_toArray, List.set_cons_zero, List.set_cons_succ]
    refine wpAnyH_take (i := 13) (v := (.slice ma mn mk)) rfl (by kernel_rfl) (by kernel_rfl) (by kernel_rfl) (fun _ _ _ h => h) (Or.inl ⟨by rfl, fun w' hs => by go_simp⟩) SD.out ?_
    change wpAnyH _ _ _ _ _ _ _ (Act.put _ (some 48) _) _
    simp only [Act.put, List.setIfInBounds_toArray, List.set_cons_zero, List.set_cons_succ]
    refine wpAnyH_take (i := 14) (v := (.int .i64 x1)) rfl (by kernel_rfl) (by kernel_rfl) (by kernel_rfl) (fun _ _ _ h => h) (Or.inl ⟨by rfl, fun w' hs => by go_simp⟩) SD.out ?_
    change wpAnyH _ _ _ _ _ _ _ (Act.put _ (some 49) _) _
    simp only [Act.put, List.setIfInBounds_toArray, List.set_cons_zero, List.set_cons_succ]
    refine wpAnyH_take (i := 15) (v := (.int .i64 x2)) rfl (by kernel_rfl) (by kernel_rfl) (by kernel_rfl) (fun _ _ _ h => h) (Or.inl ⟨by rfl, fun w' hs => by go_simp⟩) SD.out ?_
    change wpAnyH _ _ _ _ _ _ _ (Act.put _ (some 50) _) _
    simp only [Act.put, List.setIfInBounds_toArray, List.set_cons_zero, List.set_cons_succ]
    refine wpAnyH_ready (rs := [16]) (by kernel_rfl) (by simp) ?_
    refine AllReadyH.cons rfl (fun K hK => ?_) AllReadyH.nil
    rw [if_pos (by rfl)]
    go_simp
    refine (SK3.out.sp v2 SD.out).mono ?_
    rintro e v3 ⟨rfl, g⟩
    replace SD : Hid (Below W3.heap.size W3 v3) := on SD.out g
    clear g
    refine hK.out _ _ SD.out (fun _ => ?_)
    clear hK K
    refine wpAnyH_take (i := 17) (v := (.int .i64 pc)) rfl (by kernel_rfl) (by kernel_rfl) (by kernel_rfl) (fun _ _ _ h => h) (Or.inl ⟨by rfl, fun w' hs => by go_simp⟩) SD.out ?_
    change wpAnyH _ _ _ _ _ _ _ (Act.put _ (some 52) _) _
    simp only [Act.put, List.setIfInBounds_toArray, List.set_cons_zero, List.set_cons_succ]
    refine wpAnyH_take (i := 18) (v := (.bool true)) rfl (by kernel_rfl) (by kernel_rfl) (by kernel_rfl) (fun _ _ _ h => h) (Or.inl ⟨by rfl, fun w' hs => by go_simp⟩) SD.out ?_
    change wpAnyH _ _ _ _ _ _ _ (Act.put _ (some 53) _) _
    simp only [Act.put, List.setIfInBounds_toArray, List.set_cons_zero, List.set_cons_succ]
    refine wpAnyH_take (i := 19) (v := (.bool true)) rfl (by kernel_rfl) (by kernel_rfl) (by kernel_rfl) (fun _ _ _ h => h) (Or.inl ⟨by rfl, fun w' hs => by go_simp⟩) SD.out ?_
    change wpAnyH _ _ _ _ _ _ _ (Act.put _ (some 54) _) _
    simp only [Act.put, List.setIfInBounds_toArray, List.set_cons_zero, List.set_cons_succ]
    refine wpAnyH_take (i := 20) (v := (.bool true)) rfl (by kernel_rfl) (by kernel_rfl) (by kernel_rfl) (fun _ _ _ h => h) (Or.inl ⟨by rfl, fun w' hs => by go_simp⟩) SD.out ?_
    change wpAnyH _ _ _ _ _ _ _ (Act.put _ (some 2) _) _
    simp only [Act.put, List.setIfInBounds_toArray, List.set_cons_zero, List.set_cons_succ]
    refine wpAnyH_done (by kernel_rfl) ?_ _
    go_wp2_with fail
    go_ret
    exact ⟨rfl, on BW.out SD.out⟩
  obtain ⟨rs, hP, h8, hown, hin⟩ := RS.out hsc
  subst hsc
  have RL : Hid (rs.length = 8) := h8
  have PR : Hid (Prs 73 W3 0 (.slice ua un uc) rs) := PK.out rs hP
  have UN : Hid (un = rs.length) := by
    obtain ⟨_, _, hv, _⟩ := hP.shape
    cases hv; rfl
  obtain rfl : un = 8 := by have := UN.out; omega
  have OWN : Hid (¬ wpC rs x1 x2 = 0 → pc = wpC rs x1 x2) := hown
  have IN : Hid (wpC rs x1 x2 = 0 → _) := hin
  clear RS PK hP hown hin h8 UN
  have p1 := VS.out.cell 1 rfl
  go_wp2_with fail
  clear p0 p1
  refine (impl_walkPages _ rs x1 x2 0 W3 PR.out (by have := RL.out; omega)).mono ?_
  rintro e w4 ⟨rfl, g4⟩
  obtain ⟨oc, hoc⟩ : ∃ z, wpC rs x1 x2 = z := ⟨_, rfl⟩
  obtain ⟨ov, hov⟩ : ∃ z, wpV rs x1 x2 = z := ⟨_, rfl⟩
  rw [hoc, hov] at IN
  rw [hoc] at OWN
  rw [hoc, hov]
  clear hoc hov
  obtain ⟨n, hn⟩ : ∃ n, w4.heap.size = n := ⟨_, rfl⟩
  have VO : Hid (Vb (w4.alloc (.cells #[.int .i64 oc, .int .i64 ov] 31)) n #[.int .i64 oc, .int .i64 ov] 31) := by show Vb _ _ _ _; rw [← hn]; exact Vb.new _ _ _
  have B4 : Hid (Below W3.heap.size W3 (w4.alloc (.cells #[.int .i64 oc, .int .i64 ov] 31))) := al g4 _
  clear g4
  go_upto_region 9 with fail
  try rw [hn]
  clear hn
  generalize w4.alloc (.cells #[.int .i64 oc, .int .i64 ov] 31) = W4 at *
  have ff1 := field_int0
  go_cut [75] from 60 to 75 (fun c wx => c = .bool false ∧ Below W4.heap.size W4 wx)
  case first =>
    have SD : Hid (Below W3.heap.size W3 W4.drew) := B4.out.drew
    refine wp_region_held (S := fun w' => Below W3.heap.size W3 w' ∧ Below W4.heap.size W4 w') (by kernel_rfl) ?_
    change wpAnyH _ _ _ _ _ _ _ _ (World.drew _)
    have SF : Hid (Below W3.heap.size W3 W4.drew ∧ Below W4.heap.size W4 W4.drew) := ⟨SD.out, (Below.refl _ _).drew⟩
    clear SD
    generalize W4.drew = v1 at *
    refine wpAnyH_take (i := 0) (v := (.pointer (some ⟨t, 1, none⟩))) rfl (by kernel_rfl) (by kernel_rfl) (by kernel_rfl) (fun _ _ _ h => h) (Or.inl ⟨by rfl, fun w' hs => by go_simp⟩) SF.out ?_
    change wpAnyH _ _ _ _ _ _ _ (Act.put _ (some 60) _) _
    simp only [Act.put, List.setIfInBounds_toArray, List.set_cons_zero, List.set_cons_succ]
    refine wpAnyH_take (i := 1) (v := (.slice ua 8 uc)) rfl (by kernel_rfl) (by kernel_rfl) (by kernel_rfl) (fun _ _ _ h => h) (Or.inl ⟨by rfl, fun w' hs => by have y := (VS.out.keep hs.1).cell 1 rfl; go_simp⟩) SF.out ?_
    change wpAnyH _ _ _ _ _ _ _ (Act.put _ (some 61) _) _
    simp only [Act.put, List.setIfInBounds_toArray, List.set_cons_zero, List.set_cons_succ]
    refine wpAnyH_take (i := 2) (v := (.int .i64 8)) rfl (by kernel_rfl) (by kernel_rfl) (by kernel_rfl) (fun _ _ _ h => h) (Or.inl ⟨by rfl, fun w' hs => by go_simp⟩) SF.out ?_
    change wpAnyH _ _ _ _ _ _ _ (Act.put _ (some 62) _) _
    simp only [Act.put, List.setIfInBounds_toArray, List.set_cons_zero, List.set_cons_succ]
    refine wpAnyH_take (i := 3) (v := (.bool false)) rfl (by kernel_rfl) (by kernel_rfl) (by kernel_rfl) (fun _ _ _ h => h) (Or.inl ⟨by rfl, fun w' hs => by go_simp⟩) SF.out ?_
    change wpAnyH _ _ _ _ _ _ _ (Act.put _ (some 63) _) _
    simp only [Act.put, List.setIfInBounds_toArray, List.set_cons_zero, List.set_cons_succ]
    refine wpAnyH_take (i := 4) (v := (.bool false)) rfl (by kernel_rfl) (by kernel_rfl) (by kernel_rfl) (fun _ _ _ h => h) (Or.inl ⟨by rfl, fun w' hs => by go_simp⟩) SF.out ?_
    change wpAnyH _ _ _ _ _ _ _ (Act.put _ (some 64) _) _
    simp only [Act.put, List.setIfInBounds_toArray, List.set_cons_zero, List.set_cons_succ]
    refine wpAnyH_take (i := 5) (v := (.pointer (some ⟨s, 0, none⟩))) rfl (by kernel_rfl) (by kernel_rfl) (by kernel_rfl) (fun _ _ _ h => h) (Or.inl ⟨by rfl, fun w' hs => by go_simp⟩) SF.out ?_
    change wpAnyH _ _ _ _ _ _ _ (Act.put _ (some 65) _) _
    simp only [Act.put, List.setIfInBounds_toArray, List.set_cons_zero, List.set_cons_succ]
    refine wpAnyH_take (i := 6) (v := (.int .i64 pc)) rfl (by kernel_rfl) (by kernel_rfl) (by kernel_rfl) (fun _ _ _ h => h) (Or.inl ⟨by rfl, fun w' hs => by have y := (VP3.out.keep hs.1).cell 0 rfl; go_simp⟩) SF.out ?_
    change wpAnyH _ _ _ _ _ _ _ (Act.put _ (some 66) _) _
    simp only [Act.put, List.setIfInBounds_toArray, List.set_cons_zero, List.set_cons_succ]
    refine wpAnyH_take (i := 7) (v := .agg #[.slice b0 m0 k0, .int .i64 H.pc, .slice b1 m1 k1, .bool H.halted, .bool H.waiting, .bool H.rung, .int .i64 H.done, .slice b2 m2 k2, .slice b3 m3 k3]) rfl (by kernel_rfl) (by kernel_rfl) (by kernel_rfl) (fun _ _ _ h => h) (yieldsIf_load_mid (by rfl) 26 (.tmp 3) rfl q 0 rfl [.slice b0 m0 k0, .int .i64 H.pc, .slice b1 m1 k1, .bool H.halted, .bool H.waiting, .bool H.rung, .int .i64 H.done, .slice b2 m2 k2, .slice b3 m3 k3] _ (fun w' hs => vb_rangeW (VQ3.out.keep hs.1)) Try.underlying26 rfl (by kernel_rfl)) SF.out ?_
    change wpAnyH _ _ _ _ _ _ _ (Act.put _ (some 67) _) _
    simp only [Act.put, List.setIfInBounds_toArray, List.set_cons_zero, List.set_cons_succ]
    refine wpAnyH_take (i := 8) (v := (.slice la ln lk)) rfl (by kernel_rfl) (by kernel_rfl) (by kernel_rfl) (fun _ _ _ h => h) (Or.inl ⟨by rfl, fun w' hs => by go_simp⟩) SF.out ?_
    change wpAnyH _ _ _ _ _ _ _ (Act.put _ (some 68) _) _
    simp only [Act.put, List.setIfInBounds_toArray, List.set_cons_zero, List.set_cons_succ]
    refine wpAnyH_take (i := 9) (v := (.slice ma mn mk)) rfl (by kernel_rfl) (by kernel_rfl) (by kernel_rfl) (fun _ _ _ h => h) (Or.inl ⟨by rfl, fun w' hs => by go_simp⟩) SF.out ?_
    change wpAnyH _ _ _ _ _ _ _ (Act.put _ (some 69) _) _
    simp only [Act.put, List.setIfInBounds_toArray, List.set_cons_zero, List.set_cons_succ]
    refine wpAnyH_take (i := 10) (v := (.int .i64 x1)) rfl (by kernel_rfl) (by kernel_rfl) (by kernel_rfl) (fun _ _ _ h => h) (Or.inl ⟨by rfl, fun w' hs => by go_simp⟩) SF.out ?_
    change wpAnyH _ _ _ _ _ _ _ (Act.put _ (some 70) _) _
    simp only [Act.put, List.setIfInBounds_toArray, List.set_cons_zero, List.set_cons_succ]
    refine wpAnyH_take (i := 11) (v := (.int .i64 x2)) rfl (by kernel_rfl) (by kernel_rfl) (by kernel_rfl) (fun _ _ _ h => h) (Or.inl ⟨by rfl, fun w' hs => by go_simp⟩) SF.out ?_
    change wpAnyH _ _ _ _ _ _ _ (Act.put _ (some 71) _) _
    simp only [Act.put, List.setIfInBounds_toArray, List.set_cons_zero, List.set_cons_succ]
    refine wpAnyH_ready (rs := [12]) (by kernel_rfl) (by simp) ?_
    refine AllReadyH.cons rfl (fun K hK => ?_) AllReadyH.nil
    rw [if_pos (by rfl)]
    go_simp
    refine (SK3.out.sp v1 SF.out.1).mono ?_
    rintro e v3 ⟨rfl, g⟩
    replace SF : Hid (Below W3.heap.size W3 v3 ∧ Below W4.heap.size W4 v3) := ⟨on SF.out.1 g, on SF.out.2 g⟩
    clear g
    refine hK.out _ _ SF.out (fun _ => ?_)
    clear hK K
    refine wpAnyH_take (i := 13) (v := (.int .i64 pc)) rfl (by kernel_rfl) (by kernel_rfl) (by kernel_rfl) (fun _ _ _ h => h) (Or.inl ⟨by rfl, fun w' hs => by go_simp⟩) SF.out ?_
    change wpAnyH _ _ _ _ _ _ _ (Act.put _ (some 73) _) _
    simp only [Act.put, List.setIfInBounds_toArray, List.set_cons_zero, List.set_cons_succ]
    refine wpAnyH_take (i := 14) (v := (.bool false)) rfl (by kernel_rfl) (by kernel_rfl) (by kernel_rfl) (fun _ _ _ h => h) (Or.inl ⟨by rfl, fun w' hs => by go_simp⟩) SF.out ?_
    change wpAnyH _ _ _ _ _ _ _ (Act.put _ (some 74) _) _
    simp only [Act.put, List.setIfInBounds_toArray, List.set_cons_zero, List.set_cons_succ]
    refine wpAnyH_take (i := 15) (v := (.bool false)) rfl (by kernel_rfl) (by kernel_rfl) (by kernel_rfl) (fun _ _ _ h => h) (Or.inl ⟨by rfl, fun w' hs => by go_simp⟩) SF.out ?_
    change wpAnyH _ _ _ _ _ _ _ (Act.put _ (some 75) _) _
    simp only [Act.put, List.setIfInBounds_toArray, List.set_cons_zero, List.set_cons_succ]
    refine wpAnyH_done (by kernel_rfl) ?_ _
    go_wp2_with fail
    go_meet
    case rel => exact ⟨rfl, SF.out.2⟩
  case rest =>
    obtain ⟨rfl, hB⟩ := hcut
    have B5 : Hid (Below W3.heap.size W3 wc) := on B4.out hB
    have o0 := (VO.out.keep hB).cell 0 rfl
    have o1 := (VO.out.keep hB).cell 1 rfl
    have p0 := (VP3.out.keep B5.out).cell 0 rfl
    have p1 := (VP3.out.keep B5.out).cell 1 rfl
    have s1 := (VS.out.keep B5.out).cell 1 rfl
    clear hB ff1
    by_cases hoc : oc = 0
    case neg =>
      obtain rfl : pc = oc := OWN.out hoc
      have hoc' : (pc != 0) = true := by simpa using hoc
      clear hoc OWN IN
      go_wp2_with fail
      go_ret
      exact ⟨rfl, on BW.out B5.out⟩
    have IN2 := IN.out hoc
    subst hoc
    obtain ⟨y0, y1, hdev, hboth⟩ := IN2
    clear IN OWN
    by_cases h56 : 56 ≤ ov
    · rcases hdev (by omega) with ⟨e4, e9⟩ | ⟨e4, e0, ev⟩
      · subst e4 e9
        clear hdev hboth
        go_wp2_with fail
        go_ret
        exact ⟨rfl, on BW.out B5.out⟩
      · subst e0 ev
        have e4' : (x2 == 4) = false := beq_eq_false_iff_ne.2 e4
        have hw1 : IntKind.i64.wrap (1000 + ov) = 1000 + ov := by rw [IntKind.wrap_i64]; omega
        have hw2 : IntKind.i64.wrap (1000 + ov - 56) = 1000 + ov - 56 := by rw [IntKind.wrap_i64]; omega
        clear hdev hboth e4
        go_wp2_with fail
        go_ret
        exact ⟨rfl, on BW.out B5.out⟩
    · obtain ⟨ps, hps, p8, htwo, ec, ev⟩ := hboth (by omega)
      have PS : Hid (Prs 73 wc 0 (.slice la ln lk) ps) := (hps.keep B3.out).keep B5.out
      have PL : Hid (ps.length = 8 ∧ twoV rs 8 ps = 0) := ⟨p8, htwo⟩
      have EC : Hid (pc = wpC (cmpL rs ps) x1 x2 ∧ pv = wpV (cmpL rs ps) x1 x2) := ⟨ec, ev⟩
      have hlt : ¬ ov ≥ 56 := h56
      have ff2 := field_pages1
      clear hps p8 htwo ec ev hdev hboth y0 y1
      go_wp2_with fail
      clear o0 o1 p0 p1 s1
      refine (impl_compose _ _ rs ps 0 0 wc (PR.out.keep B5.out) PS.out (by have := RL.out; omega) (by have := PL.out; omega)).mono ?_
      rintro e w6 ⟨yv, rfl, hC, g6⟩
      obtain ⟨ya, yc, hv, _, _, _⟩ := hC.shape
      obtain ⟨yn, hyn⟩ : ∃ n, (cmpL rs ps).length = n := ⟨_, rfl⟩
      rw [hyn] at hv
      subst hv
      have CP : Hid (Prs 73 w6 wc.heap.size (.slice ya yn yc) (cmpL rs ps)) := hC
      have CL : Hid ((cmpL rs ps).length ≤ 1048576) := by
        show _ ≤ _
        unfold cmpL
        split
        · rw [List.length_map]; have := RL.out; omega
        · exact Nat.zero_le _
      have B6 : Hid (Below W3.heap.size W3 w6) := on B5.out g6
      clear hC g6 hyn
      rw [PL.out.2]
      go_wp2_with fail
      refine (impl_walkPages _ (cmpL rs ps) x1 x2 _ w6 CP.out CL.out).mono ?_
      rintro e w7 ⟨rfl, g7⟩
      rw [← EC.out.1, ← EC.out.2]
      have B7 : Hid (Below W3.heap.size W3 w7) := on B6.out g7
      obtain ⟨m, hm⟩ : ∃ m, w7.heap.size = m := ⟨_, rfl⟩
      have p0 := (VP3.out.keep (al B7.out (.cells #[.int .i64 pc, .int .i64 pv] 31))).cell 0 rfl
      have p1 := (VP3.out.keep (al B7.out (.cells #[.int .i64 pc, .int .i64 pv] 31))).cell 1 rfl
      have v0 : (w7.alloc (.cells #[.int .i64 pc, .int .i64 pv] 31)).cell? ⟨m, 0, none⟩ = some (.int .i64 pc) := by rw [← hm]; exact cell_new rfl
      have v1 : (w7.alloc (.cells #[.int .i64 pc, .int .i64 pv] 31)).cell? ⟨m, 1, none⟩ = some (.int .i64 pv) := by rw [← hm]; exact cell_new rfl
      clear g7
      go_wp2_with fail
      go_ret
      exact ⟨rfl, on BW.out (al B7.out _)⟩

set_option maxRecDepth 100000 in
theorem lifted (os : Go.Os) (started : os.Started) (H : Type) (enc : TypeId × Value → H) :
    ReturnsInHanded {} Try.checked os 3 .any (Rows.fnSpacesSpec.pre6 enc Try.prog Try.f3 Rows.fnSpacesRow.domain false) (Rows.fnSpacesSpec.post enc Try.prog Try.f3 false true false false) := by
  refine returnsInHanded_of_change (C := Try.checked) own started (by kernel_rfl) Try.func3
    (ChangeSpec.witness6 (enc := enc) (C := Try.checked) false ⟨#[], #[.slice none 0 0], []⟩ 8 (by kernel_rfl) (by kernel_rfl) (by kernel_rfl) (by kernel_rfl)) ?_
  intro W base args ds gs before hval0 hW hcnd _
  have hval : ∀ (j : Nat) t v, Try.f3.params[j]? = some t → args[j]? = some v → Value.okWide Try.prog W .any base t v := hval0
  have hW' := hW
  obtain ⟨p, q, hA0, hV, rfl, hfz, hnd⟩ := hW
  have hA : DataW.TrodAll enc Try.prog W 0 (fun _ => true) true Try.f3.params.toList args.toList ds p := hA0
  rw [Try.params3] at hA hval
  obtain ⟨v0, vs0, d0, ds0, p0, q0, hargs, rfl, rfl, h0, r0⟩ := trodAll_cons hA
  obtain ⟨rfl, rfl, rfl⟩ := trodAll_nil r0
  obtain rfl : args = #[v0] := by cases args; simp_all
  obtain ⟨rfl, rfl⟩ := trodVars_none hV
  obtain ⟨a0, len0, cap0, rfl⟩ := okWide_slice Try.underlying22 (hval 0 22 v0 rfl rfl)
  have k0 := h0
  have lt0 : ∀ x ∈ p0, x.block < W.heap.size := by obtain ⟨m, hm⟩ := k0; exact DataW.trod_lt m _ _ _ hm
  obtain ⟨z0, w0⟩ : ∃ zs, IsRow .u8 W a0 len0 cap0 zs := by
    obtain ⟨fuel, hf⟩ := h0
    rcases open_ints Try.underlying22 Try.underlying5 (by kernel_rfl) hf with ⟨hcs, _⟩ | ⟨x, l, c, zs, hcs, _, hl, hm, hz, _, hcell, hwz⟩
    · simp [Value.cells] at hcs
      obtain ⟨rfl, rfl, rfl⟩ := hcs
      exact ⟨[], .inl ⟨rfl, rfl, rfl, rfl⟩⟩
    · simp [Value.cells] at hcs
      obtain ⟨rfl, rfl, rfl⟩ := hcs
      exact ⟨_, IsRow.of_all hl hm (by simpa using hz) hcell hwz⟩
  clear hA0 hval0
  refine (walk a0 len0 cap0 z0 W w0).mono fun e W' ⟨he, bel⟩ => ?_
  subst he
  exact ⟨_, rfl, _, _, _, [], _, [], hW', trodAll_mk1 (shut_bool Try.underlying4 _), (trodAll_cons_mk (Below.trod laidOut (by kernel_rfl) (of_decide_eq_true (by kernel_rfl)) k0 bel lt0) trodAll_mk0), rfl, bel.frame _, fun h => by cases h⟩

theorem over : Rows.fnSpacesRow.holds Try.pinned (OpenSpec.ofChange Rows.fnSpacesSpec) :=
  OpenClaim.holds_of_wide 3 Try.f3 rfl rfl rfl rfl rfl rfl rfl ⟨rfl, rfl, rfl, rfl, rfl⟩ rfl rfl rfl rfl rfl (by kernel_rfl) Try.func3 (by kernel_rfl)
    (of_decide_eq_true (by kernel_rfl)) (by unfold Func.isWrapper; first | (rw [if_pos (by decide +kernel)]; kernel_rfl) | (rw [if_neg (by decide +kernel)]; exact ⟨rfl, rfl⟩))
    (fun os started H enc _ => lifted os started H enc)

theorem proved : Rows.FnSpacesSaid := over
end Go.Proofs.Ytgjpfmcokcjegaa.fnSpacesDone
