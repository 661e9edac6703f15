/- The walk of a law. -/
import Derived.Test.YtaefollmeoepkaaGreatDoorCards
import Derived.Test.YtaefollmeoepkaaGreatDoorTie
import Derived.Deep.DeepHandedRow
import Derived.Lib.LaidTab
import Derived.Stop.LaidErr
import Derived.Deep.RegionHeld3
import Derived.Deep.RegionWith
import Derived.Deep.Cut
import Derived.Deep.CutRange
import Derived.Test.YtaefollmeoepkaaGreatDoorQ01
import Derived.Test.YtaefollmeoepkaaGreatDoorQ16
import Derived.Test.YtaefollmeoepkaaGreatDoorQ47
import Derived.Test.YtaefollmeoepkaaGreatDoorQ49
import Derived.Test.YtaefollmeoepkaaGreatDoorQ50
namespace Go.Proofs.YtaefollmeoepkaaGreatDoor.fnManyDone
open Go.ChangeShapes Go.WideShapes Go.ChangeAt Go.RowKit
open Go.ChangeMaps (open_string shut_string)
set_option linter.unusedVariables false

theorem field_step0 (x0 x1 x2 x3 x4 x5 x6 x7 x8 x9 x10 x11 x12 : Value) (w : World) : (Instr.field 31 (.agg #[x0, x1, x2, x3, x4, x5, x6, x7, x8, x9, x10, x11, x12]) 0).run Tryz.prog w = .ok x0 w := by kernel_rfl
theorem nums_drew {w : World} {b : Nat} {v : Value} {zs : List Int} (h : Nums w b v zs) (n : Nat) : Nums (w.drewN n) b v zs := h
theorem Sees.laterM {w w' : World} {b0 : Option Addr} {m0 k0 : Nat} {b1 : Option Addr} {m1 k1 : Nat} {b2 : Option Addr} {m2 k2 : Nat} {b3 : Option Addr} {m3 k3 : Nat} {H : Ht} {la : Option Addr} {ln lk : Nat} {ma : Option Addr} {mn mk : Nat} {c : Int} (h : Sees w b0 m0 k0 b1 m1 k1 b2 m2 k2 b3 m3 k3 H la ln lk ma mn mk c) (b : Below w.heap.size w w') : Sees w' b0 m0 k0 b1 m1 k1 b2 m2 k2 b3 m3 k3 H la ln lk ma mn mk c := ⟨fun w1 k => h.1 w1 (on b k), fun w1 q k => h.2 w1 q (on b k)⟩
set_option maxRecDepth 20000 in
set_option maxHeartbeats 16000000 in
theorem walk (a0 : Option Addr) (len0 cap0 : Nat) (z0 : List Int) (w : World) (w0 : IsRow .u8 w a0 len0 cap0 z0) (hg : Tab w) :
    Calls Tryz.prog 4 #[.slice a0 len0 cap0] w fun e w' => e = .returned (.bool true) ∧ Below w.heap.size w w' := by
  have HR : Hid (IsRow .u8 w a0 len0 cap0 z0) := w0
  have HT : Hid (Tab w ∧ 0 < w.heap.size) := ⟨hg, block_of_cell hg.c0⟩
  clear w0 hg
  by_cases hbig : 1048576 < (len0 : Int)
  · go_enter Tryz.func4, Tryz.ntmps4
    go_wp2_with (go_at_call 6; go_in)
    go_ret
    exact ⟨rfl, Below.refl _ _⟩
  go_enter Tryz.func4, Tryz.ntmps4
  go_wp2_with (go_at_call 6; go_in)
  clear hbig
  refine (drawStepMany HR.out).mono ?_
  rintro e w1 ⟨b0, m0, k0, b1, m1, k1, b2, m2, k2, b3, m3, k3, H, la, ln, lk, ma, mn, mk, n, rfl, hz, hl, hm, g1, n0, n5⟩
  have SEE : Hid (_ ∨ _) := sees_any hz hl hm
  have B1 : Hid (Below w.heap.size w w1) := g1
  have NN : Hid (-1 ≤ n ∧ n ≤ 501) := ⟨n0, n5⟩
  clear hz hl hm g1 n0 n5
  obtain ⟨q, hq⟩ : ∃ q, w1.heap.size = q := ⟨_, rfl⟩
  obtain ⟨W, hW⟩ : ∃ W, w1.alloc (.cells #[.slice b0 m0 k0, .int .i64 H.pc, .slice b1 m1 k1, .bool H.halted, .bool H.waiting, .bool H.rung, .int .i64 H.done, .slice b2 m2 k2, .slice b3 m3 k3] 26) = W := ⟨_, rfl⟩
  have BQ : Hid (Below w1.heap.size w1 W) := by show Below _ _ _; rw [← hW]; exact al (Below.refl _ _) _
  have VQ : Hid (Vb W q #[.slice b0 m0 k0, .int .i64 H.pc, .slice b1 m1 k1, .bool H.halted, .bool H.waiting, .bool H.rung, .int .i64 H.done, .slice b2 m2 k2, .slice b3 m3 k3] 26) := by show Vb _ _ _ _; rw [← hq, ← hW]; exact Vb.new _ _ _
  have BW : Hid (Below w.heap.size w W) := on B1.out BQ.out
  have TB : Hid (Tab W ∧ 0 < W.heap.size) := ⟨HT.out.1.keep BW.out, Nat.lt_of_lt_of_le HT.out.2 BW.out.size⟩
  go_upto_region 4 with fail
  try rw [hW]
  try rw [hq]
  clear hq hW HT
  rcases SEE.out with ⟨ps, zs, hH, hP, h8, hZ, hz2⟩ | ⟨c, hc, hs⟩
  case inr =>
    have S1 : Hid (Sees W b0 m0 k0 b1 m1 k1 b2 m2 k2 b3 m3 k3 H la ln lk ma mn mk c) := ⟨fun w' b => hs.1 w' (on BQ.out b), fun w' x b => hs.2 w' x (on BQ.out b)⟩
    have hcn : ¬ c = 0 := hc
    have hcb : (c != 0) = true := by simpa using hc
    have HCN : Hid (c ≠ 0) := hc
    clear hs hc SEE B1 BQ
    have q0 := VQ.out.cell 0 rfl
    have q1 := VQ.out.cell 1 rfl
    have q2 := VQ.out.cell 2 rfl
    have q3 := VQ.out.cell 3 rfl
    have q4 := VQ.out.cell 4 rfl
    have q5 := VQ.out.cell 5 rfl
    have q6 := VQ.out.cell 6 rfl
    have q7 := VQ.out.cell 7 rfl
    have q8 := VQ.out.cell 8 rfl
    go_wp2_with fail
    clear q0 q1 q2 q3 q4 q5 q6 q7 q8
    refine (ib_many b0 m0 k0 b1 m1 k1 b2 m2 k2 b3 m3 k3 H la ln lk ma mn mk c n W S1.out HCN.out).mono ?_
    rintro e w2 ⟨rfl, g⟩
    obtain ⟨s, hs⟩ : ∃ s, w2.heap.size = s := ⟨_, rfl⟩
    have VR : Hid (Vb (w2.alloc (.cells #[.int .i64 c, .int .i64 0, .int .i64 0, .slice none 0 0, .int .i64 0, .slice none 0 0, .bool false, .bool false, .bool false, .int .i64 0, .slice none 0 0, .slice none 0 0, .slice none 0 0] 31)) s #[.int .i64 c, .int .i64 0, .int .i64 0, .slice none 0 0, .int .i64 0, .slice none 0 0, .bool false, .bool false, .bool false, .int .i64 0, .slice none 0 0, .slice none 0 0, .slice none 0 0] 31) := by show Vb _ _ _ _; rw [← hs]; exact Vb.new _ _ _
    have B2 : Hid (Below W.heap.size W (w2.alloc (.cells #[.int .i64 c, .int .i64 0, .int .i64 0, .slice none 0 0, .int .i64 0, .slice none 0 0, .bool false, .bool false, .bool false, .int .i64 0, .slice none 0 0, .slice none 0 0, .slice none 0 0] 31))) := al g _
    clear g
    go_upto_region 5 with fail
    try rw [hs]
    clear hs
    generalize w2.alloc (.cells #[.int .i64 c, .int .i64 0, .int .i64 0, .slice none 0 0, .int .i64 0, .slice none 0 0, .bool false, .bool false, .bool false, .int .i64 0, .slice none 0 0, .slice none 0 0, .slice none 0 0] 31) = W2 at *
    have r0 := VR.out.cell 0 rfl
    go_upto_region 6 with fail
    clear r0
    have SD : Hid (Below W.heap.size W W2.drew) := B2.out.drew
    refine wp_region_held (S := fun w' => Below W.heap.size W w' ∧ Below W2.heap.size W2 w') (by kernel_rfl) ?_
    change wpAnyH _ _ _ _ _ _ _ _ (World.drew _)
    have SF : Hid (Below W.heap.size W W2.drew ∧ Below W2.heap.size W2 W2.drew) := ⟨SD.out, (Below.refl _ _).drew⟩
    clear SD
    have hf0 := field_step0
    generalize W2.drew = v1 at *
    refine wpAnyH_take (i := 0) (v := .agg #[.slice b0 m0 k0, .int .i64 H.pc, .slice b1 m1 k1, .bool H.halted, .bool H.waiting, .bool H.rung, .int .i64 H.done, .slice b2 m2 k2, .slice b3 m3 k3]) rfl (by kernel_rfl) (by kernel_rfl) (by kernel_rfl) (fun _ _ _ h => h) (yieldsIf_load_mid (by rfl) 26 (.tmp 3) rfl q 0 rfl [.slice b0 m0 k0, .int .i64 H.pc, .slice b1 m1 k1, .bool H.halted, .bool H.waiting, .bool H.rung, .int .i64 H.done, .slice b2 m2 k2, .slice b3 m3 k3] _ (fun w' hs => vb_rangeW (VQ.out.keep hs.1)) Tryz.underlying26 rfl (by kernel_rfl)) SF.out ?_
    change wpAnyH _ _ _ _ _ _ _ (Act.put _ (some 30) _) _
    simp only [Act.put, List.setIfInBounds_toArray, List.set_cons_zero, List.set_cons_succ]
    refine wpAnyH_take (i := 1) (v := (.slice la ln lk)) rfl (by kernel_rfl) (by kernel_rfl) (by kernel_rfl) (fun _ _ _ h => h) (Or.inl ⟨by rfl, fun w' hs => by go_simp⟩) SF.out ?_
    change wpAnyH _ _ _ _ _ _ _ (Act.put _ (some 31) _) _
    simp only [Act.put, List.setIfInBounds_toArray, List.set_cons_zero, List.set_cons_succ]
    refine wpAnyH_take (i := 2) (v := (.slice ma mn mk)) rfl (by kernel_rfl) (by kernel_rfl) (by kernel_rfl) (fun _ _ _ h => h) (Or.inl ⟨by rfl, fun w' hs => by go_simp⟩) SF.out ?_
    change wpAnyH _ _ _ _ _ _ _ (Act.put _ (some 32) _) _
    simp only [Act.put, List.setIfInBounds_toArray, List.set_cons_zero, List.set_cons_succ]
    refine wpAnyH_take (i := 3) (v := (.int .i64 n)) rfl (by kernel_rfl) (by kernel_rfl) (by kernel_rfl) (fun _ _ _ h => h) (Or.inl ⟨by rfl, fun w' hs => by go_simp⟩) SF.out ?_
    change wpAnyH _ _ _ _ _ _ _ (Act.put _ (some 33) _) _
    simp only [Act.put, List.setIfInBounds_toArray, List.set_cons_zero, List.set_cons_succ]
    refine wpAnyH_take (i := 6) (v := (.pointer (some ⟨s, 0, none⟩))) rfl (by kernel_rfl) (by kernel_rfl) (by kernel_rfl) (fun _ _ _ h => h) (Or.inl ⟨by rfl, fun w' hs => by go_simp⟩) SF.out ?_
    change wpAnyH _ _ _ _ _ _ _ (Act.put _ (some 36) _) _
    simp only [Act.put, List.setIfInBounds_toArray, List.set_cons_zero, List.set_cons_succ]
    refine wpAnyH_take (i := 7) (v := (.int .i64 c)) rfl (by kernel_rfl) (by kernel_rfl) (by kernel_rfl) (fun _ _ _ h => h) (Or.inl ⟨by rfl, fun w' hs => by have y := (VR.out.keep hs.2).cell 0 rfl; go_simp⟩) SF.out ?_
    change wpAnyH _ _ _ _ _ _ _ (Act.put _ (some 37) _) _
    simp only [Act.put, List.setIfInBounds_toArray, List.set_cons_zero, List.set_cons_succ]
    refine wpAnyH_ready (rs := [4]) (by kernel_rfl) (by simp) ?_
    refine AllReadyH.cons rfl (fun K hK => ?_) AllReadyH.nil
    rw [if_pos (by rfl)]
    go_simp
    refine (sb_many b0 m0 k0 b1 m1 k1 b2 m2 k2 b3 m3 k3 H la ln lk ma mn mk c n v1 (Sees.laterM S1.out SF.out.1) HCN.out).mono ?_
    rintro e v2 ⟨rfl, g⟩
    replace SF : Hid (Below W.heap.size W v2 ∧ Below W2.heap.size W2 v2) := ⟨on SF.out.1 g, on SF.out.2 g⟩
    clear g
    refine hK.out _ _ SF.out (fun _ => ?_)
    clear hK K
    refine wpAnyH_take (i := 5) (v := (.int .i64 c)) rfl (by kernel_rfl) (by kernel_rfl) (by kernel_rfl) (fun _ _ _ h => h) (Or.inl ⟨by rfl, fun w' hs => by go_simp⟩) SF.out ?_
    change wpAnyH _ _ _ _ _ _ _ (Act.put _ (some 35) _) _
    simp only [Act.put, List.setIfInBounds_toArray, List.set_cons_zero, List.set_cons_succ]
    refine wpAnyH_take (i := 8) (v := (.bool true)) rfl (by kernel_rfl) (by kernel_rfl) (by kernel_rfl) (fun _ _ _ h => h) (Or.inl ⟨by rfl, fun w' hs => by go_simp⟩) SF.out ?_
    change wpAnyH _ _ _ _ _ _ _ (Act.put _ (some 38) _) _
    simp only [Act.put, List.setIfInBounds_toArray, List.set_cons_zero, List.set_cons_succ]
    refine wpAnyH_take (i := 9) (v := (.bool true)) rfl (by kernel_rfl) (by kernel_rfl) (by kernel_rfl) (fun _ _ _ h => h) (Or.inl ⟨by rfl, fun w' hs => by go_simp⟩) SF.out ?_
    change wpAnyH _ _ _ _ _ _ _ (Act.put _ (some 2) _) _
    simp only [Act.put, List.setIfInBounds_toArray, List.set_cons_zero, List.set_cons_succ]
    refine wpAnyH_done (by kernel_rfl) ?_ _
    go_wp2_with fail
    go_ret
    exact ⟨rfl, on BW.out SF.out.1⟩
  have HM : Hid (Hm W 0 (.slice b0 m0 k0) (.slice b1 m1 k1) (.slice b2 m2 k2) (.slice b3 m3 k3) H) := (hH.keep BQ.out).mono (Nat.zero_le _)
  have HP : Hid (Prs 36 W 0 (.slice la ln lk) ps) := (hP.keep BQ.out).mono (Nat.zero_le _)
  have HZ : Hid (Nums W 0 (.slice ma mn mk) zs) := (hZ.keep BQ.out).mono (Nat.zero_le _)
  have HL : Hid (ps.length = 8 ∧ zs.length ≤ 200 ∧ mn = zs.length) := ⟨h8, hz2, hZ.len⟩
  clear hH hP hZ h8 hz2 SEE B1 BQ
  have q0 := VQ.out.cell 0 rfl
  have q1 := VQ.out.cell 1 rfl
  have q2 := VQ.out.cell 2 rfl
  have q3 := VQ.out.cell 3 rfl
  have q4 := VQ.out.cell 4 rfl
  have q5 := VQ.out.cell 5 rfl
  have q6 := VQ.out.cell 6 rfl
  have q7 := VQ.out.cell 7 rfl
  have q8 := VQ.out.cell 8 rfl
  go_wp2_with fail
  clear q0 q1 q2 q3 q4 q5 q6 q7 q8
  refine (i_stepMany _ _ _ _ H la ln lk ps ma mn mk zs n 0 W HM.out HP.out (by have := HL.out; omega) HZ.out (by have := HL.out; omega) TB.out.1 TB.out.2).mono ?_
  rintro e w2 ⟨u0, u1, u2, u3, u4, rfl, t, g⟩
  obtain ⟨Y, hY⟩ : ∃ Y, smV H ps zs n = Y := ⟨_, rfl⟩
  have HY : Hid (smV H ps zs n = Y) := hY
  rw [hY] at t ⊢
  clear hY
  obtain ⟨cY, hcY⟩ : ∃ x, Y.code = x := ⟨_, rfl⟩
  obtain ⟨cx, hcx⟩ : ∃ x, Y.ca = x := ⟨_, rfl⟩
  obtain ⟨rx, hrx⟩ : ∃ x, Y.ri = x := ⟨_, rfl⟩
  obtain ⟨G, hG⟩ : ∃ x, Y.H = x := ⟨_, rfl⟩
  obtain ⟨ys, hys⟩ : ∃ x, Y.zs = x := ⟨_, rfl⟩
  rw [hG, hys] at t
  rw [hcY, hcx, hrx, hG]
  have YC : Hid (Y.code = cY ∧ Y.H = G ∧ Y.zs = ys) := ⟨hcY, hG, hys⟩
  clear hcY hcx hrx hG hys
  obtain ⟨x0, xk0, e0, _⟩ := t.h.r.shape
  obtain ⟨x1, xk1, e1, _⟩ := t.h.c.shape
  obtain ⟨x2, xk2, e2, _⟩ := t.h.i.shape
  obtain ⟨x3, xk3, e3, _⟩ := t.h.o.shape
  obtain ⟨x4, xk4, e4, _⟩ := t.mm.shape
  subst e0 e1 e2 e3 e4
  obtain ⟨xn0, hn0⟩ : ∃ n, G.regs.length = n := ⟨_, rfl⟩
  rw [hn0] at t ⊢
  obtain ⟨xn1, hn1⟩ : ∃ n, G.csr.length = n := ⟨_, rfl⟩
  rw [hn1] at t ⊢
  obtain ⟨xn2, hn2⟩ : ∃ n, G.inn.length = n := ⟨_, rfl⟩
  rw [hn2] at t ⊢
  obtain ⟨xn3, hn3⟩ : ∃ n, G.out.length = n := ⟨_, rfl⟩
  rw [hn3] at t ⊢
  obtain ⟨xn4, hn4⟩ : ∃ n, ys.length = n := ⟨_, rfl⟩
  rw [hn4] at t ⊢
  have Nx : Hid (xn0 = G.regs.length ∧ xn1 = G.csr.length ∧ xn2 = G.inn.length ∧ xn3 = G.out.length ∧ xn4 = ys.length) := ⟨hn0.symm, hn1.symm, hn2.symm, hn3.symm, hn4.symm⟩
  obtain ⟨qx, hq⟩ : ∃ x, w2.heap.size = x := ⟨_, rfl⟩
  obtain ⟨Wx, hW⟩ : ∃ x, w2.alloc (.cells #[.int .i64 cY, .int .i64 cx, .int .i64 rx, .slice x0 xn0 xk0, .int .i64 G.pc, .slice x1 xn1 xk1, .bool G.halted, .bool G.waiting, .bool G.rung, .int .i64 G.done, .slice x2 xn2 xk2, .slice x3 xn3 xk3, .slice x4 xn4 xk4] 31) = x := ⟨_, rfl⟩
  have ba : Below w2.heap.size w2 Wx := by rw [← hW]; exact al (Below.refl _ _) _
  have Vx : Hid (Vb Wx qx #[.int .i64 cY, .int .i64 cx, .int .i64 rx, .slice x0 xn0 xk0, .int .i64 G.pc, .slice x1 xn1 xk1, .bool G.halted, .bool G.waiting, .bool G.rung, .int .i64 G.done, .slice x2 xn2 xk2, .slice x3 xn3 xk3, .slice x4 xn4 xk4] 31) := by show Vb _ _ _ _; rw [← hq, ← hW]; exact Vb.new _ _ _
  have Tx : Hid (Tm Wx 0 (.slice x0 xn0 xk0) (.slice x1 xn1 xk1) (.slice x2 xn2 xk2) (.slice x3 xn3 xk3) (.slice x4 xn4 xk4) G ys) := (t.keep ba).mono (Nat.zero_le _)
  have Bx : Hid (Below W.heap.size W Wx) := on g ba
  clear t g ba hn0 hn1 hn2 hn3 hn4
  go_upto_region 5 with fail
  try rw [hW]
  try rw [hq]
  clear hW hq
  have r0 := Vx.out.cell 0 rfl
  by_cases hc0 : cY = 0
  case neg =>
    have hcb : (cY != 0) = true := by simpa using hc0
    have HN : Hid (¬ (smV H ps zs n).code = 0) := by show ¬ _; rw [HY.out, YC.out.1]; exact hc0
    have VR : Hid (Vb Wx qx _ 31) := Vx.out
    clear hc0
    go_upto_region 6 with fail
    clear r0
    refine wp_region_held (S := fun w' => Below W.heap.size W w' ∧ Below Wx.heap.size Wx w') (by kernel_rfl) ?_
    change wpAnyH _ _ _ _ _ _ _ _ (World.drew _)
    have SF : Hid (Below W.heap.size W Wx.drew ∧ Below Wx.heap.size Wx Wx.drew) := ⟨Bx.out.drew, (Below.refl _ _).drew⟩
    have hf0 := field_step0
    generalize Wx.drew = v1 at *
    refine wpAnyH_take (i := 0) (v := .agg #[.slice b0 m0 k0, .int .i64 H.pc, .slice b1 m1 k1, .bool H.halted, .bool H.waiting, .bool H.rung, .int .i64 H.done, .slice b2 m2 k2, .slice b3 m3 k3]) rfl (by kernel_rfl) (by kernel_rfl) (by kernel_rfl) (fun _ _ _ h => h) (yieldsIf_load_mid (by rfl) 26 (.tmp 3) rfl q 0 rfl [.slice b0 m0 k0, .int .i64 H.pc, .slice b1 m1 k1, .bool H.halted, .bool H.waiting, .bool H.rung, .int .i64 H.done, .slice b2 m2 k2, .slice b3 m3 k3] _ (fun w' hs => vb_rangeW (VQ.out.keep hs.1)) Tryz.underlying26 rfl (by kernel_rfl)) SF.out ?_
    change wpAnyH _ _ _ _ _ _ _ (Act.put _ (some 30) _) _
    simp only [Act.put, List.setIfInBounds_toArray, List.set_cons_zero, List.set_cons_succ]
    refine wpAnyH_take (i := 1) (v := (.slice la ln lk)) rfl (by kernel_rfl) (by kernel_rfl) (by kernel_rfl) (fun _ _ _ h => h) (Or.inl ⟨by rfl, fun w' hs => by go_simp⟩) SF.out ?_
    change wpAnyH _ _ _ _ _ _ _ (Act.put _ (some 31) _) _
    simp only [Act.put, List.setIfInBounds_toArray, List.set_cons_zero, List.set_cons_succ]
    refine wpAnyH_take (i := 2) (v := (.slice ma mn mk)) rfl (by kernel_rfl) (by kernel_rfl) (by kernel_rfl) (fun _ _ _ h => h) (Or.inl ⟨by rfl, fun w' hs => by go_simp⟩) SF.out ?_
    change wpAnyH _ _ _ _ _ _ _ (Act.put _ (some 32) _) _
    simp only [Act.put, List.setIfInBounds_toArray, List.set_cons_zero, List.set_cons_succ]
    refine wpAnyH_take (i := 3) (v := (.int .i64 n)) rfl (by kernel_rfl) (by kernel_rfl) (by kernel_rfl) (fun _ _ _ h => h) (Or.inl ⟨by rfl, fun w' hs => by go_simp⟩) SF.out ?_
    change wpAnyH _ _ _ _ _ _ _ (Act.put _ (some 33) _) _
    simp only [Act.put, List.setIfInBounds_toArray, List.set_cons_zero, List.set_cons_succ]
    refine wpAnyH_take (i := 6) (v := (.pointer (some ⟨qx, 0, none⟩))) rfl (by kernel_rfl) (by kernel_rfl) (by kernel_rfl) (fun _ _ _ h => h) (Or.inl ⟨by rfl, fun w' hs => by go_simp⟩) SF.out ?_
    change wpAnyH _ _ _ _ _ _ _ (Act.put _ (some 36) _) _
    simp only [Act.put, List.setIfInBounds_toArray, List.set_cons_zero, List.set_cons_succ]
    refine wpAnyH_take (i := 7) (v := (.int .i64 cY)) rfl (by kernel_rfl) (by kernel_rfl) (by kernel_rfl) (fun _ _ _ h => h) (Or.inl ⟨by rfl, fun w' hs => by have y := (VR.out.keep hs.2).cell 0 rfl; go_simp⟩) SF.out ?_
    change wpAnyH _ _ _ _ _ _ _ (Act.put _ (some 37) _) _
    simp only [Act.put, List.setIfInBounds_toArray, List.set_cons_zero, List.set_cons_succ]
    refine wpAnyH_ready (rs := [4]) (by kernel_rfl) (by simp) ?_
    refine AllReadyH.cons rfl (fun K hK => ?_) AllReadyH.nil
    rw [if_pos (by rfl)]
    go_simp
    refine (sp_many_code _ _ _ _ H la ln lk ps ma mn mk zs n 0 v1 (HM.out.keep SF.out.1) (HP.out.keep SF.out.1) (by have := HL.out; omega) (HZ.out.keep SF.out.1) (by have := HL.out; omega) HN.out).mono ?_
    rintro e v2 ⟨ca, ri, r', c', i', o', m', G', rfl, g⟩
    rw [HY.out, YC.out.1]
    replace SF : Hid (Below W.heap.size W v2 ∧ Below Wx.heap.size Wx v2) := ⟨on SF.out.1 g, on SF.out.2 g⟩
    clear g
    refine hK.out _ _ SF.out (fun _ => ?_)
    clear hK K
    refine wpAnyH_take (i := 5) (v := (.int .i64 cY)) rfl (by kernel_rfl) (by kernel_rfl) (by kernel_rfl) (fun _ _ _ h => h) (Or.inl ⟨by rfl, fun w' hs => by go_simp⟩) SF.out ?_
    change wpAnyH _ _ _ _ _ _ _ (Act.put _ (some 35) _) _
    simp only [Act.put, List.setIfInBounds_toArray, List.set_cons_zero, List.set_cons_succ]
    refine wpAnyH_take (i := 8) (v := (.bool true)) rfl (by kernel_rfl) (by kernel_rfl) (by kernel_rfl) (fun _ _ _ h => h) (Or.inl ⟨by rfl, fun w' hs => by go_simp⟩) SF.out ?_
    change wpAnyH _ _ _ _ _ _ _ (Act.put _ (some 38) _) _
    simp only [Act.put, List.setIfInBounds_toArray, List.set_cons_zero, List.set_cons_succ]
    refine wpAnyH_take (i := 9) (v := (.bool true)) rfl (by kernel_rfl) (by kernel_rfl) (by kernel_rfl) (fun _ _ _ h => h) (Or.inl ⟨by rfl, fun w' hs => by go_simp⟩) SF.out ?_
    change wpAnyH _ _ _ _ _ _ _ (Act.put _ (some 2) _) _
    simp only [Act.put, List.setIfInBounds_toArray, List.set_cons_zero, List.set_cons_succ]
    refine wpAnyH_done (by kernel_rfl) ?_ _
    go_wp2_with fail
    go_ret
    exact ⟨rfl, on BW.out SF.out.1⟩
  have E0 : Hid ((smV H ps zs n).code = 0) := by show _ = _; rw [HY.out, YC.out.1]; exact hc0
  subst hc0
  have RG : Hid (0 ≤ n ∧ n ≤ 500) := (smV_zero E0.out).2
  have hwn : IntKind.i64.wrap (n + 1) = n + 1 := by have := RG.out; rw [IntKind.wrap_i64]; omega
  go_wp2_with fail
  clear r0 hwn
  refine (lw_at ((HR.out.below BW.out).below Bx.out) 3 (by decide) (n + 1)).mono ?_
  rintro e w3 ⟨k, rfl, hk0, hk1, g3⟩
  have KK : Hid (0 ≤ k ∧ k ≤ n) := ⟨hk0, by have := RG.out; have := hk1 (by omega); omega⟩
  have TWO : Hid (_ ∧ _ ∧ _ ∧ _ ∧ _) := sm_two E0.out KK.out.1 KK.out.2
  have B3 : Hid (Below W.heap.size W w3) := on Bx.out g3
  have V3 : Hid (Vb w3 qx _ 31) := Vx.out.keep g3
  have T3 : Hid (Tm w3 0 _ _ _ _ _ G ys) := Tx.out.keep g3
  clear hk0 hk1 g3 Vx Tx Bx
  have q0 := (VQ.out.keep B3.out).cell 0 rfl
  have q1 := (VQ.out.keep B3.out).cell 1 rfl
  have q2 := (VQ.out.keep B3.out).cell 2 rfl
  have q3 := (VQ.out.keep B3.out).cell 3 rfl
  have q4 := (VQ.out.keep B3.out).cell 4 rfl
  have q5 := (VQ.out.keep B3.out).cell 5 rfl
  have q6 := (VQ.out.keep B3.out).cell 6 rfl
  have q7 := (VQ.out.keep B3.out).cell 7 rfl
  have q8 := (VQ.out.keep B3.out).cell 8 rfl
  go_wp2_with fail
  clear q0 q1 q2 q3 q4 q5 q6 q7 q8
  refine (i_stepMany _ _ _ _ H la ln lk ps ma mn mk zs k 0 w3 (HM.out.keep B3.out) (HP.out.keep B3.out) (by have := HL.out; omega) (HZ.out.keep B3.out) (by have := HL.out; omega) (TB.out.1.keep B3.out) (Nat.lt_of_lt_of_le TB.out.2 B3.out.size)).mono ?_
  rintro e w4 ⟨u0, u1, u2, u3, u4, rfl, t, g⟩
  obtain ⟨A, hA⟩ : ∃ A, smV H ps zs k = A := ⟨_, rfl⟩
  rw [hA] at t TWO ⊢
  obtain ⟨cs, hca⟩ : ∃ x, A.ca = x := ⟨_, rfl⟩
  obtain ⟨rs, hra⟩ : ∃ x, A.ri = x := ⟨_, rfl⟩
  obtain ⟨K, hK⟩ : ∃ x, A.H = x := ⟨_, rfl⟩
  obtain ⟨az, has⟩ : ∃ x, A.zs = x := ⟨_, rfl⟩
  have ASZ : Hid (az.length ≤ 1000) := by show _ ≤ _; rw [← has, ← hA]; exact sm_sizes
  rw [hK, has] at t TWO
  rw [TWO.out.1, hca, hra, hK]
  clear hA hca hra hK has
  obtain ⟨s0, sk0, e0, _⟩ := t.h.r.shape
  obtain ⟨s1, sk1, e1, _⟩ := t.h.c.shape
  obtain ⟨s2, sk2, e2, _⟩ := t.h.i.shape
  obtain ⟨s3, sk3, e3, _⟩ := t.h.o.shape
  obtain ⟨s4, sk4, e4, _⟩ := t.mm.shape
  subst e0 e1 e2 e3 e4
  obtain ⟨sn0, hn0⟩ : ∃ n, K.regs.length = n := ⟨_, rfl⟩
  rw [hn0] at t ⊢
  obtain ⟨sn1, hn1⟩ : ∃ n, K.csr.length = n := ⟨_, rfl⟩
  rw [hn1] at t ⊢
  obtain ⟨sn2, hn2⟩ : ∃ n, K.inn.length = n := ⟨_, rfl⟩
  rw [hn2] at t ⊢
  obtain ⟨sn3, hn3⟩ : ∃ n, K.out.length = n := ⟨_, rfl⟩
  rw [hn3] at t ⊢
  obtain ⟨sn4, hn4⟩ : ∃ n, az.length = n := ⟨_, rfl⟩
  rw [hn4] at t ⊢
  have Ns : Hid (sn0 = K.regs.length ∧ sn1 = K.csr.length ∧ sn2 = K.inn.length ∧ sn3 = K.out.length ∧ sn4 = az.length) := ⟨hn0.symm, hn1.symm, hn2.symm, hn3.symm, hn4.symm⟩
  obtain ⟨qs, hq⟩ : ∃ x, w4.heap.size = x := ⟨_, rfl⟩
  obtain ⟨Ws, hW⟩ : ∃ x, w4.alloc (.cells #[.int .i64 0, .int .i64 cs, .int .i64 rs, .slice s0 sn0 sk0, .int .i64 K.pc, .slice s1 sn1 sk1, .bool K.halted, .bool K.waiting, .bool K.rung, .int .i64 K.done, .slice s2 sn2 sk2, .slice s3 sn3 sk3, .slice s4 sn4 sk4] 31) = x := ⟨_, rfl⟩
  have ba : Below w4.heap.size w4 Ws := by rw [← hW]; exact al (Below.refl _ _) _
  have Vs : Hid (Vb Ws qs #[.int .i64 0, .int .i64 cs, .int .i64 rs, .slice s0 sn0 sk0, .int .i64 K.pc, .slice s1 sn1 sk1, .bool K.halted, .bool K.waiting, .bool K.rung, .int .i64 K.done, .slice s2 sn2 sk2, .slice s3 sn3 sk3, .slice s4 sn4 sk4] 31) := by show Vb _ _ _ _; rw [← hq, ← hW]; exact Vb.new _ _ _
  have Ts : Hid (Tm Ws 0 (.slice s0 sn0 sk0) (.slice s1 sn1 sk1) (.slice s2 sn2 sk2) (.slice s3 sn3 sk3) (.slice s4 sn4 sk4) K az) := (t.keep ba).mono (Nat.zero_le _)
  have Bs : Hid (Below w3.heap.size w3 Ws) := on g ba
  clear t g ba hn0 hn1 hn2 hn3 hn4
  go_upto_region 9 with fail
  try rw [hW]
  try rw [hq]
  clear hW hq
  have Bs2 : Hid (Below W.heap.size W Ws) := on B3.out Bs.out
  have hwk : IntKind.i64.wrap (n - k) = n - k := by have := RG.out; have := KK.out; rw [IntKind.wrap_i64]; omega
  have p3 := Vs.out.cell 3 rfl
  have p4 := Vs.out.cell 4 rfl
  have p5 := Vs.out.cell 5 rfl
  have p6 := Vs.out.cell 6 rfl
  have p7 := Vs.out.cell 7 rfl
  have p8 := Vs.out.cell 8 rfl
  have p9 := Vs.out.cell 9 rfl
  have p10 := Vs.out.cell 10 rfl
  have p11 := Vs.out.cell 11 rfl
  have p12 := Vs.out.cell 12 rfl
  go_wp2_with fail
  clear p3 p4 p5 p6 p7 p8 p9 p10 p11 p12 hwk
  refine (i_stepMany _ _ _ _ K la ln lk ps s4 sn4 sk4 az (n - k) 0 Ws Ts.out.h (HP.out.keep Bs2.out) (by have := HL.out; omega) Ts.out.mm (by have := ASZ.out; omega) (TB.out.1.keep Bs2.out) (Nat.lt_of_lt_of_le TB.out.2 Bs2.out.size)).mono ?_
  rintro e w5 ⟨u0, u1, u2, u3, u4, rfl, t, g⟩
  obtain ⟨D, hD⟩ : ∃ D, smV K ps az (n - k) = D := ⟨_, rfl⟩
  rw [hD] at t TWO ⊢
  obtain ⟨cg, hcb⟩ : ∃ x, D.ca = x := ⟨_, rfl⟩
  obtain ⟨rg, hrb⟩ : ∃ x, D.ri = x := ⟨_, rfl⟩
  have EH : D.H = G := by rw [TWO.out.2.2.1, HY.out, YC.out.2.1]
  have EZ : D.zs = ys := by rw [TWO.out.2.2.2.1, HY.out, YC.out.2.2]
  have EC : D.code = 0 := TWO.out.2.1
  have LEN : Hid (ys.length = zs.length) := by have h := TWO.out.2.2.2.2; rw [HY.out, YC.out.2.2] at h; exact h
  rw [EH, EZ] at t
  rw [EC, hcb, hrb, EH]
  clear hD hcb hrb EH EZ EC TWO
  obtain ⟨g0, gk0, e0, _⟩ := t.h.r.shape
  obtain ⟨g1, gk1, e1, _⟩ := t.h.c.shape
  obtain ⟨g2, gk2, e2, _⟩ := t.h.i.shape
  obtain ⟨g3, gk3, e3, _⟩ := t.h.o.shape
  obtain ⟨g4, gk4, e4, _⟩ := t.mm.shape
  subst e0 e1 e2 e3 e4
  obtain ⟨gn0, hn0⟩ : ∃ n, G.regs.length = n := ⟨_, rfl⟩
  rw [hn0] at t ⊢
  obtain ⟨gn1, hn1⟩ : ∃ n, G.csr.length = n := ⟨_, rfl⟩
  rw [hn1] at t ⊢
  obtain ⟨gn2, hn2⟩ : ∃ n, G.inn.length = n := ⟨_, rfl⟩
  rw [hn2] at t ⊢
  obtain ⟨gn3, hn3⟩ : ∃ n, G.out.length = n := ⟨_, rfl⟩
  rw [hn3] at t ⊢
  obtain ⟨gn4, hn4⟩ : ∃ n, ys.length = n := ⟨_, rfl⟩
  rw [hn4] at t ⊢
  have Ng : Hid (gn0 = G.regs.length ∧ gn1 = G.csr.length ∧ gn2 = G.inn.length ∧ gn3 = G.out.length ∧ gn4 = ys.length) := ⟨hn0.symm, hn1.symm, hn2.symm, hn3.symm, hn4.symm⟩
  obtain ⟨qg, hq⟩ : ∃ x, w5.heap.size = x := ⟨_, rfl⟩
  obtain ⟨Wg, hW⟩ : ∃ x, w5.alloc (.cells #[.int .i64 0, .int .i64 cg, .int .i64 rg, .slice g0 gn0 gk0, .int .i64 G.pc, .slice g1 gn1 gk1, .bool G.halted, .bool G.waiting, .bool G.rung, .int .i64 G.done, .slice g2 gn2 gk2, .slice g3 gn3 gk3, .slice g4 gn4 gk4] 31) = x := ⟨_, rfl⟩
  have ba : Below w5.heap.size w5 Wg := by rw [← hW]; exact al (Below.refl _ _) _
  have Vg : Hid (Vb Wg qg #[.int .i64 0, .int .i64 cg, .int .i64 rg, .slice g0 gn0 gk0, .int .i64 G.pc, .slice g1 gn1 gk1, .bool G.halted, .bool G.waiting, .bool G.rung, .int .i64 G.done, .slice g2 gn2 gk2, .slice g3 gn3 gk3, .slice g4 gn4 gk4] 31) := by show Vb _ _ _ _; rw [← hq, ← hW]; exact Vb.new _ _ _
  have Tg : Hid (Tm Wg 0 (.slice g0 gn0 gk0) (.slice g1 gn1 gk1) (.slice g2 gn2 gk2) (.slice g3 gn3 gk3) (.slice g4 gn4 gk4) G ys) := (t.keep ba).mono (Nat.zero_le _)
  have Bg : Hid (Below Ws.heap.size Ws Wg) := on g ba
  clear t g ba hn0 hn1 hn2 hn3 hn4
  go_upto_region 10 with fail
  try rw [hW]
  try rw [hq]
  clear hW hq
  have Bg2 : Hid (Below W.heap.size W Wg) := on Bs2.out Bg.out
  have q0 := (VQ.out.keep Bg2.out).cell 0 rfl
  have q1 := (VQ.out.keep Bg2.out).cell 1 rfl
  have q2 := (VQ.out.keep Bg2.out).cell 2 rfl
  have q3 := (VQ.out.keep Bg2.out).cell 3 rfl
  have q4 := (VQ.out.keep Bg2.out).cell 4 rfl
  have q5 := (VQ.out.keep Bg2.out).cell 5 rfl
  have q6 := (VQ.out.keep Bg2.out).cell 6 rfl
  have q7 := (VQ.out.keep Bg2.out).cell 7 rfl
  have q8 := (VQ.out.keep Bg2.out).cell 8 rfl
  go_wp2_with fail
  clear q0 q1 q2 q3 q4 q5 q6 q7 q8
  refine (i_stepMany _ _ _ _ H la ln lk ps ma mn mk zs 1 0 Wg (HM.out.keep Bg2.out) (HP.out.keep Bg2.out) (by have := HL.out; omega) (HZ.out.keep Bg2.out) (by have := HL.out; omega) (TB.out.1.keep Bg2.out) (Nat.lt_of_lt_of_le TB.out.2 Bg2.out.size)).mono ?_
  rintro e w6 ⟨u0, u1, u2, u3, u4, rfl, t, g⟩
  obtain ⟨O, hO⟩ : ∃ O, smV H ps zs 1 = O := ⟨_, rfl⟩
  have HO : Hid (smV H ps zs 1 = O) := hO
  rw [hO] at t ⊢
  obtain ⟨co, hco⟩ : ∃ x, O.code = x := ⟨_, rfl⟩
  obtain ⟨cd, hcd⟩ : ∃ x, O.ca = x := ⟨_, rfl⟩
  obtain ⟨rd, hrd⟩ : ∃ x, O.ri = x := ⟨_, rfl⟩
  obtain ⟨M, hM⟩ : ∃ x, O.H = x := ⟨_, rfl⟩
  obtain ⟨os, hos⟩ : ∃ x, O.zs = x := ⟨_, rfl⟩
  have OE : Hid (O.code = co ∧ O.ca = cd ∧ O.ri = rd ∧ O.H = M ∧ O.zs = os) := ⟨hco, hcd, hrd, hM, hos⟩
  rw [hM, hos] at t
  rw [hco, hcd, hrd, hM]
  clear hO hco hcd hrd hM hos
  obtain ⟨d0, dk0, e0, _⟩ := t.h.r.shape
  obtain ⟨d1, dk1, e1, _⟩ := t.h.c.shape
  obtain ⟨d2, dk2, e2, _⟩ := t.h.i.shape
  obtain ⟨d3, dk3, e3, _⟩ := t.h.o.shape
  obtain ⟨d4, dk4, e4, _⟩ := t.mm.shape
  subst e0 e1 e2 e3 e4
  obtain ⟨dn0, hn0⟩ : ∃ n, M.regs.length = n := ⟨_, rfl⟩
  rw [hn0] at t ⊢
  obtain ⟨dn1, hn1⟩ : ∃ n, M.csr.length = n := ⟨_, rfl⟩
  rw [hn1] at t ⊢
  obtain ⟨dn2, hn2⟩ : ∃ n, M.inn.length = n := ⟨_, rfl⟩
  rw [hn2] at t ⊢
  obtain ⟨dn3, hn3⟩ : ∃ n, M.out.length = n := ⟨_, rfl⟩
  rw [hn3] at t ⊢
  obtain ⟨dn4, hn4⟩ : ∃ n, os.length = n := ⟨_, rfl⟩
  rw [hn4] at t ⊢
  have Nd : Hid (dn0 = M.regs.length ∧ dn1 = M.csr.length ∧ dn2 = M.inn.length ∧ dn3 = M.out.length ∧ dn4 = os.length) := ⟨hn0.symm, hn1.symm, hn2.symm, hn3.symm, hn4.symm⟩
  obtain ⟨qd, hq⟩ : ∃ x, w6.heap.size = x := ⟨_, rfl⟩
  obtain ⟨Wd, hW⟩ : ∃ x, w6.alloc (.cells #[.int .i64 co, .int .i64 cd, .int .i64 rd, .slice d0 dn0 dk0, .int .i64 M.pc, .slice d1 dn1 dk1, .bool M.halted, .bool M.waiting, .bool M.rung, .int .i64 M.done, .slice d2 dn2 dk2, .slice d3 dn3 dk3, .slice d4 dn4 dk4] 31) = x := ⟨_, rfl⟩
  have ba : Below w6.heap.size w6 Wd := by rw [← hW]; exact al (Below.refl _ _) _
  have Vd : Hid (Vb Wd qd #[.int .i64 co, .int .i64 cd, .int .i64 rd, .slice d0 dn0 dk0, .int .i64 M.pc, .slice d1 dn1 dk1, .bool M.halted, .bool M.waiting, .bool M.rung, .int .i64 M.done, .slice d2 dn2 dk2, .slice d3 dn3 dk3, .slice d4 dn4 dk4] 31) := by show Vb _ _ _ _; rw [← hq, ← hW]; exact Vb.new _ _ _
  have Td : Hid (Tm Wd 0 (.slice d0 dn0 dk0) (.slice d1 dn1 dk1) (.slice d2 dn2 dk2) (.slice d3 dn3 dk3) (.slice d4 dn4 dk4) M os) := (t.keep ba).mono (Nat.zero_le _)
  have Bd : Hid (Below Wg.heap.size Wg Wd) := on g ba
  clear t g ba hn0 hn1 hn2 hn3 hn4
  go_upto_region 11 with fail
  try rw [hW]
  try rw [hq]
  clear hW hq
  have Bd2 : Hid (Below W.heap.size W Wd) := on Bg2.out Bd.out
  have q0 := (VQ.out.keep Bd2.out).cell 0 rfl
  have q1 := (VQ.out.keep Bd2.out).cell 1 rfl
  have q2 := (VQ.out.keep Bd2.out).cell 2 rfl
  have q3 := (VQ.out.keep Bd2.out).cell 3 rfl
  have q4 := (VQ.out.keep Bd2.out).cell 4 rfl
  have q5 := (VQ.out.keep Bd2.out).cell 5 rfl
  have q6 := (VQ.out.keep Bd2.out).cell 6 rfl
  have q7 := (VQ.out.keep Bd2.out).cell 7 rfl
  have q8 := (VQ.out.keep Bd2.out).cell 8 rfl
  go_wp2_with fail
  clear q0 q1 q2 q3 q4 q5 q6 q7 q8
  refine (i_stepHart _ _ _ _ H la ln lk ps ma mn mk zs 0 Wd (HM.out.keep Bd2.out) (HP.out.keep Bd2.out) (by have := HL.out; omega) (HZ.out.keep Bd2.out) (by have := HL.out; omega) (TB.out.1.keep Bd2.out) (Nat.lt_of_lt_of_le TB.out.2 Bd2.out.size)).mono ?_
  rintro e w7 ⟨u0, u1, u2, u3, u4, rfl, t, g⟩
  rw [HO.out] at t ⊢
  rw [OE.out.2.2.2.1, OE.out.2.2.2.2] at t
  rw [OE.out.1, OE.out.2.1, OE.out.2.2.1, OE.out.2.2.2.1]
  obtain ⟨cf, hcf⟩ : ∃ x, cd = x := ⟨_, rfl⟩
  obtain ⟨rf, hrf⟩ : ∃ x, rd = x := ⟨_, rfl⟩
  rw [hcf, hrf]
  clear hcf hrf
  obtain ⟨f0, fk0, e0, _⟩ := t.h.r.shape
  obtain ⟨f1, fk1, e1, _⟩ := t.h.c.shape
  obtain ⟨f2, fk2, e2, _⟩ := t.h.i.shape
  obtain ⟨f3, fk3, e3, _⟩ := t.h.o.shape
  obtain ⟨f4, fk4, e4, _⟩ := t.mm.shape
  subst e0 e1 e2 e3 e4
  obtain ⟨fn0, hn0⟩ : ∃ n, M.regs.length = n := ⟨_, rfl⟩
  rw [hn0] at t ⊢
  obtain ⟨fn1, hn1⟩ : ∃ n, M.csr.length = n := ⟨_, rfl⟩
  rw [hn1] at t ⊢
  obtain ⟨fn2, hn2⟩ : ∃ n, M.inn.length = n := ⟨_, rfl⟩
  rw [hn2] at t ⊢
  obtain ⟨fn3, hn3⟩ : ∃ n, M.out.length = n := ⟨_, rfl⟩
  rw [hn3] at t ⊢
  obtain ⟨fn4, hn4⟩ : ∃ n, os.length = n := ⟨_, rfl⟩
  rw [hn4] at t ⊢
  have Nf : Hid (fn0 = M.regs.length ∧ fn1 = M.csr.length ∧ fn2 = M.inn.length ∧ fn3 = M.out.length ∧ fn4 = os.length) := ⟨hn0.symm, hn1.symm, hn2.symm, hn3.symm, hn4.symm⟩
  obtain ⟨qf, hq⟩ : ∃ x, w7.heap.size = x := ⟨_, rfl⟩
  obtain ⟨Wf, hW⟩ : ∃ x, w7.alloc (.cells #[.int .i64 co, .int .i64 cf, .int .i64 rf, .slice f0 fn0 fk0, .int .i64 M.pc, .slice f1 fn1 fk1, .bool M.halted, .bool M.waiting, .bool M.rung, .int .i64 M.done, .slice f2 fn2 fk2, .slice f3 fn3 fk3, .slice f4 fn4 fk4] 31) = x := ⟨_, rfl⟩
  have ba : Below w7.heap.size w7 Wf := by rw [← hW]; exact al (Below.refl _ _) _
  have Vf : Hid (Vb Wf qf #[.int .i64 co, .int .i64 cf, .int .i64 rf, .slice f0 fn0 fk0, .int .i64 M.pc, .slice f1 fn1 fk1, .bool M.halted, .bool M.waiting, .bool M.rung, .int .i64 M.done, .slice f2 fn2 fk2, .slice f3 fn3 fk3, .slice f4 fn4 fk4] 31) := by show Vb _ _ _ _; rw [← hq, ← hW]; exact Vb.new _ _ _
  have Tf : Hid (Tm Wf 0 (.slice f0 fn0 fk0) (.slice f1 fn1 fk1) (.slice f2 fn2 fk2) (.slice f3 fn3 fk3) (.slice f4 fn4 fk4) M os) := (t.keep ba).mono (Nat.zero_le _)
  have Bf : Hid (Below Wd.heap.size Wd Wf) := on g ba
  clear t g ba hn0 hn1 hn2 hn3 hn4
  have Bf2 : Hid (Below W.heap.size W Wf) := on Bd2.out Bf.out
  have Tg3 : Hid (Tm Wf 0 _ _ _ _ _ G ys) := Tg.out.keep (on Bd.out Bf.out)
  have Tx3 : Hid (Tm Wf 0 _ _ _ _ _ G ys) := T3.out.keep (on Bs.out (on Bg.out (on Bd.out Bf.out)))
  have Td3 : Hid (Tm Wf 0 _ _ _ _ _ M os) := Td.out.keep Bf.out
  have Vx3 : Hid (Vb Wf qx _ 31) := V3.out.keep (on Bs.out (on Bg.out (on Bd.out Bf.out)))
  have Vs3 : Hid (Vb Wf qs _ 31) := Vs.out.keep (on Bg.out (on Bd.out Bf.out))
  have Vg3 : Hid (Vb Wf qg _ 31) := Vg.out.keep (on Bd.out Bf.out)
  have Vd3 : Hid (Vb Wf qd _ 31) := Vd.out.keep Bf.out
  obtain rfl : mn = xn4 := by have := HL.out; have := Nx.out; have := LEN.out; omega
  obtain rfl : mn = gn4 := by have := Nx.out; have := Ng.out; omega
  obtain rfl : xn0 = gn0 := by have := Nx.out; have := Ng.out; omega
  obtain rfl : xn3 = gn3 := by have := Nx.out; have := Ng.out; omega
  obtain rfl : dn4 = fn4 := by have := Nd.out; have := Nf.out; omega
  have BF : Hid (Below w.heap.size w Wf) := on BW.out Bf2.out
  have LQ : Hid (True) := trivial
  have kx3 := Vx3.out.cell 3 rfl
  have kx4 := Vx3.out.cell 4 rfl
  have kx9 := Vx3.out.cell 9 rfl
  have kx11 := Vx3.out.cell 11 rfl
  have kx12 := Vx3.out.cell 12 rfl
  have ky0 := Vs3.out.cell 0 rfl
  have kz0 := Vg3.out.cell 0 rfl
  have kz3 := Vg3.out.cell 3 rfl
  have kz4 := Vg3.out.cell 4 rfl
  have kz9 := Vg3.out.cell 9 rfl
  have kz11 := Vg3.out.cell 11 rfl
  have kz12 := Vg3.out.cell 12 rfl
  have ku4 := Vd3.out.cell 4 rfl
  have ku12 := Vd3.out.cell 12 rfl
  have kv4 := Vf.out.cell 4 rfl
  have kv12 := Vf.out.cell 12 rfl
  have L1 : Hid (∃ nq, Wf = Wf.drewN nq) := ⟨0, rfl⟩
  go_wp2_with (first
    | (go_at_call_of 16 (Value.slice g4 mn gk4); refine (lw_numsD (.slice g4 mn gk4) (.slice x4 mn xk4) ys 0 0 _ (by first | exact Tg3.out.mm | exact nums_drew Tg3.out.mm _ | exact nums_drew (nums_drew Tg3.out.mm _) _ | exact nums_drew (nums_drew (nums_drew Tg3.out.mm _) _) _) (by first | exact Tx3.out.mm | exact nums_drew Tx3.out.mm _ | exact nums_drew (nums_drew Tx3.out.mm _) _ | exact nums_drew (nums_drew (nums_drew Tx3.out.mm _) _) _)).mono ?_; rintro e u ⟨rfl, nq, rfl⟩)
    | (go_at_call_of 16 (Value.slice g0 xn0 gk0); refine (lw_numsD (.slice g0 xn0 gk0) (.slice x0 xn0 xk0) G.regs 0 0 _ (by first | exact Tg3.out.h.r | exact nums_drew Tg3.out.h.r _ | exact nums_drew (nums_drew Tg3.out.h.r _) _ | exact nums_drew (nums_drew (nums_drew Tg3.out.h.r _) _) _) (by first | exact Tx3.out.h.r | exact nums_drew Tx3.out.h.r _ | exact nums_drew (nums_drew Tx3.out.h.r _) _ | exact nums_drew (nums_drew (nums_drew Tx3.out.h.r _) _) _)).mono ?_; rintro e u ⟨rfl, nq, rfl⟩)
    | (go_at_call_of 16 (Value.slice g3 xn3 gk3); refine (lw_numsD (.slice g3 xn3 gk3) (.slice x3 xn3 xk3) G.out 0 0 _ (by first | exact Tg3.out.h.o | exact nums_drew Tg3.out.h.o _ | exact nums_drew (nums_drew Tg3.out.h.o _) _ | exact nums_drew (nums_drew (nums_drew Tg3.out.h.o _) _) _) (by first | exact Tx3.out.h.o | exact nums_drew Tx3.out.h.o _ | exact nums_drew (nums_drew Tx3.out.h.o _) _ | exact nums_drew (nums_drew (nums_drew Tx3.out.h.o _) _) _)).mono ?_; rintro e u ⟨rfl, nq, rfl⟩)
    | (go_at_call_of 16 (Value.slice d4 dn4 dk4); refine (lw_numsD (.slice d4 dn4 dk4) (.slice f4 dn4 fk4) os 0 0 _ (by first | exact Td3.out.mm | exact nums_drew Td3.out.mm _ | exact nums_drew (nums_drew Td3.out.mm _) _ | exact nums_drew (nums_drew (nums_drew Td3.out.mm _) _) _) (by first | exact Tf.out.mm | exact nums_drew Tf.out.mm _ | exact nums_drew (nums_drew Tf.out.mm _) _ | exact nums_drew (nums_drew (nums_drew Tf.out.mm _) _) _)).mono ?_; rintro e u ⟨rfl, nq, rfl⟩)
    | fail)
  go_ret
  exact ⟨rfl, below_drewN BF.out _⟩
end Go.Proofs.YtaefollmeoepkaaGreatDoor.fnManyDone
