/- The walk of a law. -/
import Derived.Test.YtaefollmeoepkaaGreatDoorCards
import Derived.Test.YtaefollmeoepkaaGreatDoorTie
import Derived.Deep.DeepHandedRow
import Derived.Lib.LaidTab
import Derived.Stop.LaidErr
import Derived.Deep.RegionHeld3
import Derived.Deep.RegionWith
import Derived.Deep.Cut
import Derived.Deep.CutRange
import Derived.Test.YtaefollmeoepkaaGreatDoorQ01
import Derived.Test.YtaefollmeoepkaaGreatDoorQ46
import Derived.Test.YtaefollmeoepkaaGreatDoorQ49
import Derived.Test.YtaefollmeoepkaaGreatDoorQ50
namespace Go.Proofs.YtaefollmeoepkaaGreatDoor.fnStepsDone
open Go.ChangeShapes Go.WideShapes Go.ChangeAt Go.RowKit
open Go.ChangeMaps (open_string shut_string)
set_option linter.unusedVariables false
set_option maxRecDepth 20000
set_option maxHeartbeats 16000000

theorem field_step0 (x0 x1 x2 x3 x4 x5 x6 x7 x8 x9 x10 x11 x12 : Value) (w : World) : (Instr.field 31 (.agg #[x0, x1, x2, x3, x4, x5, x6, x7, x8, x9, x10, x11, x12]) 0).run Tryz.prog w = .ok x0 w := by kernel_rfl
theorem nums_drew {w : World} {b : Nat} {v : Value} {zs : List Int} (h : Nums w b v zs) (n : Nat) : Nums (w.drewN n) b v zs := h
theorem Sees.laterM {w w' : World} {b0 : Option Addr} {m0 k0 : Nat} {b1 : Option Addr} {m1 k1 : Nat} {b2 : Option Addr} {m2 k2 : Nat} {b3 : Option Addr} {m3 k3 : Nat} {H : Ht} {la : Option Addr} {ln lk : Nat} {ma : Option Addr} {mn mk : Nat} {c : Int} (h : Sees w b0 m0 k0 b1 m1 k1 b2 m2 k2 b3 m3 k3 H la ln lk ma mn mk c) (b : Below w.heap.size w w') : Sees w' b0 m0 k0 b1 m1 k1 b2 m2 k2 b3 m3 k3 H la ln lk ma mn mk c := ⟨fun w1 k => h.1 w1 (on b k), fun w1 q k => h.2 w1 q (on b k)⟩
theorem range13 {w : World} {q : Nat} {t : TypeId} {z0 z1 z2 z3 z4 z5 z6 z7 z8 z9 z10 z11 z12 : Value} (h : Vb w q #[z0, z1, z2, z3, z4, z5, z6, z7, z8, z9, z10, z11, z12] t) : w.rangeAt q 3 [z3, z4, z5, z6, z7, z8, z9, z10, z11] := fun j v hv => by
 match j, hv with
 | 0, hv => exact h.cell 3 hv
 | 1, hv => exact h.cell 4 hv
 | 2, hv => exact h.cell 5 hv
 | 3, hv => exact h.cell 6 hv
 | 4, hv => exact h.cell 7 hv
 | 5, hv => exact h.cell 8 hv
 | 6, hv => exact h.cell 9 hv
 | 7, hv => exact h.cell 10 hv
 | 8, hv => exact h.cell 11 hv
 | n + 9, hv => simp at hv
theorem field_step3 (x0 x1 x2 x3 x4 x5 x6 x7 x8 x9 x10 x11 x12 : Value) (w : World) : (Instr.field 31 (.agg #[x0, x1, x2, x3, x4, x5, x6, x7, x8, x9, x10, x11, x12]) 3).run Tryz.prog w = .ok (.agg #[x3, x4, x5, x6, x7, x8, x9, x10, x11]) w := by kernel_rfl
theorem field_hart1 (x3 x4 x5 x6 x7 x8 x9 x10 x11 : Value) (w : World) : (Instr.field 26 (.agg #[x3, x4, x5, x6, x7, x8, x9, x10, x11]) 1).run Tryz.prog w = .ok x4 w := by kernel_rfl
theorem below_dN {B : Nat} {w w' : World} (h : Below B w w') (nq : Nat) : Below B w (w'.drewN nq) := ⟨h.os, h.tape, h.output, h.size, h.block⟩
/-- Whether one of the first pages gives the place i for writing. -/
def mayB (ps : List (Int × Int)) (i : Int) : Nat → Bool
 | 0 => false
 | j + 1 => mayB ps i j || (decide ((ps.getD j (0, 0)).1 = i / 8) && !(bits BinOp.and .i64 (ps.getD j (0, 0)).2 2 == 0))
theorem mayB_of {ps : List (Int × Int)} {i : Int} {k : Nat} (n : Nat) (hk : k < n) (h1 : (ps.getD k (0, 0)).1 = i / 8) (h2 : (bits BinOp.and .i64 (ps.getD k (0, 0)).2 2 == 0) = false) : mayB ps i n = true := by
 induction n with
 | zero => omega
 | succ n ih =>
  unfold mayB
  by_cases e : k = n
  ·subst e
   rw [h2, decide_eq_true h1]
   simp
  ·rw [ih (by omega)]; rfl
theorem walk (a0 : Option Addr) (len0 cap0 : Nat) (z0 : List Int) (w : World) (w0 : IsRow .u8 w a0 len0 cap0 z0) (hg : Tab w) :
  Calls Tryz.prog 3 #[.slice a0 len0 cap0] w fun e w' => e = .returned (.bool true) ∧ Below w.heap.size w w' := by
 have HR := hid w0
 have HT : Hid (Tab w ∧ 0 < w.heap.size) := ⟨hg, block_of_cell hg.c0⟩
 clear w0 hg
 by_cases hbig : 1048576 < (len0 : Int)
 ·go_enter Tryz.func3, Tryz.ntmps3
  go_wp2_with (go_at_call 6; go_in)
  go_ret
  exact ⟨rfl, Below.refl _ _⟩
 go_enter Tryz.func3, Tryz.ntmps3
 go_wp2_with (go_at_call 6; go_in)
 clear hbig
 refine (drawStepHart HR.out).mono ?_
 rintro e w1 ⟨b0, m0, k0, b1, m1, k1, b2, m2, k2, b3, m3, k3, H, la, ln, lk, ma, mn, mk, rfl, hz, hl, hm, g1⟩
 have SEE : Hid (_ ∨ _) := sees_any hz hl hm
 have B1 := hid g1
 clear hz hl hm g1 HR
 obtain ⟨q, hq⟩ : ∃ q, w1.heap.size = q := ⟨_, rfl⟩
 obtain ⟨W, hW⟩ : ∃ W, w1.alloc (.cells #[.slice b0 m0 k0, .int .i64 H.pc, .slice b1 m1 k1, .bool H.halted, .bool H.waiting, .bool H.rung, .int .i64 H.done, .slice b2 m2 k2, .slice b3 m3 k3] 26) = W := ⟨_, rfl⟩
 have BQ : Hid (Below w1.heap.size w1 W) := by show Below _ _ _; rw [← hW]; exact al (Below.refl _ _) _
 have VQ : Hid (Vb W q #[.slice b0 m0 k0, .int .i64 H.pc, .slice b1 m1 k1, .bool H.halted, .bool H.waiting, .bool H.rung, .int .i64 H.done, .slice b2 m2 k2, .slice b3 m3 k3] 26) := by show Vb _ _ _ _; rw [← hq, ← hW]; exact Vb.new _ _ _
 have BW := hid (on B1.out BQ.out)
 have TB : Hid (Tab W ∧ 0 < W.heap.size) := ⟨HT.out.1.keep BW.out, Nat.lt_of_lt_of_le HT.out.2 BW.out.size⟩
 go_upto_region 4 with fail
 try rw [hW]
 try rw [hq]
 clear hq hW HT
 rcases SEE.out with ⟨ps, zs, hH, hP, h8, hZ, hz2⟩ | ⟨c, hc, hs⟩
 case inr =>
  have S1 : Hid (Sees W b0 m0 k0 b1 m1 k1 b2 m2 k2 b3 m3 k3 H la ln lk ma mn mk c) := ⟨fun w' b => hs.1 w' (on BQ.out b), fun w' x b => hs.2 w' x (on BQ.out b)⟩
  have hcn : ¬ c = 0 := hc
  have hcb : (c != 0) = true := by simpa using hc
  have HCN := hid hc
  clear hs hc SEE B1 BQ
  obtain ⟨q0, q1, q2, q3, q4, q5, q6, q7, q8⟩ := zc9 VQ.out
  go_wp2_with fail
  clear q0 q1 q2 q3 q4 q5 q6 q7 q8
  refine (ib_hart b0 m0 k0 b1 m1 k1 b2 m2 k2 b3 m3 k3 H la ln lk ma mn mk c W S1.out HCN.out).mono ?_
  rintro e w2 ⟨rfl, g⟩
  obtain ⟨s, hs⟩ : ∃ s, w2.heap.size = s := ⟨_, rfl⟩
  have VR : Hid (Vb (w2.alloc (.cells #[.int .i64 c, .int .i64 0, .int .i64 0, .slice none 0 0, .int .i64 0, .slice none 0 0, .bool false, .bool false, .bool false, .int .i64 0, .slice none 0 0, .slice none 0 0, .slice none 0 0] 31)) s #[.int .i64 c, .int .i64 0, .int .i64 0, .slice none 0 0, .int .i64 0, .slice none 0 0, .bool false, .bool false, .bool false, .int .i64 0, .slice none 0 0, .slice none 0 0, .slice none 0 0] 31) := by show Vb _ _ _ _; rw [← hs]; exact Vb.new _ _ _
  have B2 : Hid (Below W.heap.size W (w2.alloc (.cells #[.int .i64 c, .int .i64 0, .int .i64 0, .slice none 0 0, .int .i64 0, .slice none 0 0, .bool false, .bool false, .bool false, .int .i64 0, .slice none 0 0, .slice none 0 0, .slice none 0 0] 31))) := al g _
  clear g
  go_upto_region 5 with fail
  try rw [hs]
  clear hs
  generalize w2.alloc (.cells #[.int .i64 c, .int .i64 0, .int .i64 0, .slice none 0 0, .int .i64 0, .slice none 0 0, .bool false, .bool false, .bool false, .int .i64 0, .slice none 0 0, .slice none 0 0, .slice none 0 0] 31) = W2 at *
  have r0 := VR.out.cell 0 rfl
  go_upto_region 6 with fail
  clear r0
  have SD : Hid (Below W.heap.size W W2.drew) := B2.out.drew
  refine wp_region_held (S := fun w' => Below W.heap.size W w' ∧ Below W2.heap.size W2 w') (by kernel_rfl) ?_
  change wpAnyH _ _ _ _ _ _ _ _ (World.drew _)
  have SF : Hid (Below W.heap.size W W2.drew ∧ Below W2.heap.size W2 W2.drew) := ⟨SD.out, (Below.refl _ _).drew⟩
  clear SD
  have hf0 := field_step0
  generalize W2.drew = v1 at *
  refine wpTe 0 25 (.agg #[.slice b0 m0 k0, .int .i64 H.pc, .slice b1 m1 k1, .bool H.halted, .bool H.waiting, .bool H.rung, .int .i64 H.done, .slice b2 m2 k2, .slice b3 m3 k3]) rfl (yieldsIf_load_mid (by rfl) 26 (.tmp 3) rfl q 0 rfl [.slice b0 m0 k0, .int .i64 H.pc, .slice b1 m1 k1, .bool H.halted, .bool H.waiting, .bool H.rung, .int .i64 H.done, .slice b2 m2 k2, .slice b3 m3 k3] _ (fun w' hs => vb_rangeW (VQ.out.keep hs.1)) Tryz.underlying26 rfl (by kernel_rfl)) SF.out ?_
  simp only [Act.put, zT, zZ, zS]
  refine wpTd 1 26 ((.slice la ln lk)) rfl SF.out ?_
  simp only [Act.put, zT, zZ, zS]
  refine wpTd 2 27 ((.slice ma mn mk)) rfl SF.out ?_
  simp only [Act.put, zT, zZ, zS]
  refine wpTd 5 30 ((.pointer (some ⟨s, 0, none⟩))) rfl SF.out ?_
  simp only [Act.put, zT, zZ, zS]
  refine wpTe 6 31 ((.int .i64 c)) rfl (Or.inl ⟨by rfl, fun w' hs => by have y := (VR.out.keep hs.2).cell 0 rfl; go_simp⟩) SF.out ?_
  simp only [Act.put, zT, zZ, zS]
  refine zR 3 rfl fun K hK => ?_
  rw [if_pos (by rfl)]
  go_simp
  refine (sb_hart b0 m0 k0 b1 m1 k1 b2 m2 k2 b3 m3 k3 H la ln lk ma mn mk c v1 (Sees.laterM S1.out SF.out.1) HCN.out).mono ?_
  rintro e v2 ⟨rfl, g⟩
  replace SF : Hid (Below W.heap.size W v2 ∧ Below W2.heap.size W2 v2) := ⟨on SF.out.1 g, on SF.out.2 g⟩
  clear g
  refine hK.out _ _ SF.out (fun _ => ?_)
  clear hK K
  refine wpTd 4 29 ((.int .i64 c)) rfl SF.out ?_
  simp only [Act.put, zT, zZ, zS]
  refine wpTd 7 32 ((.bool true)) rfl SF.out ?_
  simp only [Act.put, zT, zZ, zS]
  refine wpTd 8 2 ((.bool true)) rfl SF.out ?_
  simp only [Act.put, zT, zZ, zS]
  refine wpAnyH_done (by kernel_rfl) ?_ _
  go_wp2_with fail
  go_ret
  exact ⟨rfl, on BW.out SF.out.1⟩
 have HM : Hid (Hm W 0 (.slice b0 m0 k0) (.slice b1 m1 k1) (.slice b2 m2 k2) (.slice b3 m3 k3) H) := (hH.keep BQ.out).mono (Nat.zero_le _)
 have HP : Hid (Prs 36 W 0 (.slice la ln lk) ps) := (hP.keep BQ.out).mono (Nat.zero_le _)
 have HZ : Hid (Nums W 0 (.slice ma mn mk) zs) := (hZ.keep BQ.out).mono (Nat.zero_le _)
 have HL : Hid (ps.length = 8 ∧ zs.length ≤ 200 ∧ mn = zs.length ∧ ln = 8) := ⟨h8, hz2, hZ.len, by obtain ⟨_, _, hv, _⟩ := hP.shape; cases hv; exact h8⟩
 obtain rfl : ln = 8 := HL.out.2.2.2
 clear hH hP hZ h8 hz2 SEE B1 BQ
 obtain ⟨q0, q1, q2, q3, q4, q5, q6, q7, q8⟩ := zc9 VQ.out
 go_wp2_with fail
 clear q0 q1 q2 q3 q4 q5 q6 q7 q8
 refine (i_stepHart _ _ _ _ H la 8 lk ps ma mn mk zs 0 W HM.out HP.out (by have := HL.out; omega) HZ.out (by have := HL.out; omega) TB.out.1 TB.out.2).mono ?_
 rintro e w2 ⟨u0, u1, u2, u3, u4, rfl, t, g⟩
 obtain ⟨Y, hY⟩ : ∃ Y, smV H ps zs 1 = Y := ⟨_, rfl⟩
 have HY := hid hY
 rw [hY] at t ⊢
 clear hY
 obtain ⟨cY, hcY⟩ : ∃ x, Y.code = x := ⟨_, rfl⟩
 obtain ⟨cx, hcx⟩ : ∃ x, Y.ca = x := ⟨_, rfl⟩
 obtain ⟨rx, hrx⟩ : ∃ x, Y.ri = x := ⟨_, rfl⟩
 obtain ⟨G, hG⟩ : ∃ x, Y.H = x := ⟨_, rfl⟩
 obtain ⟨ys, hys⟩ : ∃ x, Y.zs = x := ⟨_, rfl⟩
 rw [hG, hys] at t
 rw [hcY, hcx, hrx, hG]
 have YC : Hid (Y.code = cY ∧ Y.H = G ∧ Y.zs = ys ∧ Y.ca = cx) := ⟨hcY, hG, hys, hcx⟩
 clear hcY hcx hrx hG hys
 obtain ⟨x0, xk0, e0, _⟩ := t.h.r.shape
 obtain ⟨x1, xk1, e1, _⟩ := t.h.c.shape
 obtain ⟨x2, xk2, e2, _⟩ := t.h.i.shape
 obtain ⟨x3, xk3, e3, _⟩ := t.h.o.shape
 obtain ⟨x4, xk4, e4, _⟩ := t.mm.shape
 subst e0 e1 e2 e3 e4
 obtain ⟨xn0, hn0⟩ : ∃ n, G.regs.length = n := ⟨_, rfl⟩
 rw [hn0] at t ⊢
 obtain ⟨xn1, hn1⟩ : ∃ n, G.csr.length = n := ⟨_, rfl⟩
 rw [hn1] at t ⊢
 obtain ⟨xn2, hn2⟩ : ∃ n, G.inn.length = n := ⟨_, rfl⟩
 rw [hn2] at t ⊢
 obtain ⟨xn3, hn3⟩ : ∃ n, G.out.length = n := ⟨_, rfl⟩
 rw [hn3] at t ⊢
 obtain ⟨xn4, hn4⟩ : ∃ n, ys.length = n := ⟨_, rfl⟩
 rw [hn4] at t ⊢
 have Nx : Hid (xn0 = G.regs.length ∧ xn1 = G.csr.length ∧ xn2 = G.inn.length ∧ xn3 = G.out.length ∧ xn4 = ys.length) := ⟨hn0.symm, hn1.symm, hn2.symm, hn3.symm, hn4.symm⟩
 obtain ⟨qx, hq⟩ : ∃ x, w2.heap.size = x := ⟨_, rfl⟩
 obtain ⟨Wx, hW⟩ : ∃ x, w2.alloc (.cells #[.int .i64 cY, .int .i64 cx, .int .i64 rx, .slice x0 xn0 xk0, .int .i64 G.pc, .slice x1 xn1 xk1, .bool G.halted, .bool G.waiting, .bool G.rung, .int .i64 G.done, .slice x2 xn2 xk2, .slice x3 xn3 xk3, .slice x4 xn4 xk4] 31) = x := ⟨_, rfl⟩
 have ba : Below w2.heap.size w2 Wx := by rw [← hW]; exact al (Below.refl _ _) _
 have Vx : Hid (Vb Wx qx #[.int .i64 cY, .int .i64 cx, .int .i64 rx, .slice x0 xn0 xk0, .int .i64 G.pc, .slice x1 xn1 xk1, .bool G.halted, .bool G.waiting, .bool G.rung, .int .i64 G.done, .slice x2 xn2 xk2, .slice x3 xn3 xk3, .slice x4 xn4 xk4] 31) := by show Vb _ _ _ _; rw [← hq, ← hW]; exact Vb.new _ _ _
 have Tx : Hid (Tm Wx 0 (.slice x0 xn0 xk0) (.slice x1 xn1 xk1) (.slice x2 xn2 xk2) (.slice x3 xn3 xk3) (.slice x4 xn4 xk4) G ys) := (t.keep ba).mono (Nat.zero_le _)
 have Bx := hid (on g ba)
 clear t g ba hn0 hn1 hn2 hn3 hn4
 go_upto_region 5 with fail
 try rw [hW]
 try rw [hq]
 clear hW hq
 have r0 := Vx.out.cell 0 rfl
 by_cases hc0 : cY = 0
 case neg =>
  have hcb : (cY != 0) = true := by simpa using hc0
  have HN : Hid (¬ (smV H ps zs 1).code = 0) := by show ¬ _; rw [HY.out, YC.out.1]; exact hc0
  have VR : Hid (Vb Wx qx _ 31) := Vx.out
  clear hc0
  go_upto_region 6 with fail
  clear r0
  refine wp_region_held (S := fun w' => Below W.heap.size W w' ∧ Below Wx.heap.size Wx w') (by kernel_rfl) ?_
  change wpAnyH _ _ _ _ _ _ _ _ (World.drew _)
  have SF : Hid (Below W.heap.size W Wx.drew ∧ Below Wx.heap.size Wx Wx.drew) := ⟨Bx.out.drew, (Below.refl _ _).drew⟩
  have hf0 := field_step0
  generalize Wx.drew = v1 at *
  refine wpTe 0 25 (.agg #[.slice b0 m0 k0, .int .i64 H.pc, .slice b1 m1 k1, .bool H.halted, .bool H.waiting, .bool H.rung, .int .i64 H.done, .slice b2 m2 k2, .slice b3 m3 k3]) rfl (yieldsIf_load_mid (by rfl) 26 (.tmp 3) rfl q 0 rfl [.slice b0 m0 k0, .int .i64 H.pc, .slice b1 m1 k1, .bool H.halted, .bool H.waiting, .bool H.rung, .int .i64 H.done, .slice b2 m2 k2, .slice b3 m3 k3] _ (fun w' hs => vb_rangeW (VQ.out.keep hs.1)) Tryz.underlying26 rfl (by kernel_rfl)) SF.out ?_
  simp only [Act.put, zT, zZ, zS]
  refine wpTd 1 26 ((.slice la 8 lk)) rfl SF.out ?_
  simp only [Act.put, zT, zZ, zS]
  refine wpTd 2 27 ((.slice ma mn mk)) rfl SF.out ?_
  simp only [Act.put, zT, zZ, zS]
  refine wpTd 5 30 ((.pointer (some ⟨qx, 0, none⟩))) rfl SF.out ?_
  simp only [Act.put, zT, zZ, zS]
  refine wpTe 6 31 ((.int .i64 cY)) rfl (Or.inl ⟨by rfl, fun w' hs => by have y := (VR.out.keep hs.2).cell 0 rfl; go_simp⟩) SF.out ?_
  simp only [Act.put, zT, zZ, zS]
  refine zR 3 rfl fun K hK => ?_
  rw [if_pos (by rfl)]
  go_simp
  refine (s_stepHart _ _ _ _ H la 8 lk ps ma mn mk zs 0 v1 (HM.out.keep SF.out.1) (HP.out.keep SF.out.1) (by have := HL.out; omega) (HZ.out.keep SF.out.1) (by have := HL.out; omega)).mono ?_
  rintro e v2 ⟨r', c', i', o', m', rfl, -, g⟩
  rw [HY.out, YC.out.1]
  replace SF : Hid (Below W.heap.size W v2 ∧ Below Wx.heap.size Wx v2) := ⟨on SF.out.1 g, on SF.out.2 g⟩
  clear g
  refine hK.out _ _ SF.out (fun _ => ?_)
  clear hK K
  refine wpTd 4 29 ((.int .i64 cY)) rfl SF.out ?_
  simp only [Act.put, zT, zZ, zS]
  refine wpTd 7 32 ((.bool true)) rfl SF.out ?_
  simp only [Act.put, zT, zZ, zS]
  refine wpTd 8 2 ((.bool true)) rfl SF.out ?_
  simp only [Act.put, zT, zZ, zS]
  refine wpAnyH_done (by kernel_rfl) ?_ _
  go_wp2_with fail
  go_ret
  exact ⟨rfl, on BW.out SF.out.1⟩
 have E0 : Hid (seenC H ps zs = 0) := by
  have h : (smV H ps zs 1).code = 0 := by rw [HY.out, YC.out.1]; exact hc0
  exact (smV_zero h).1
 have ALL : Hid (_ ∧ _) := step_all E0.out
 rw [HY.out, YC.out.1, YC.out.2.1, YC.out.2.2.1, YC.out.2.2.2] at ALL
 subst hc0
 obtain ⟨_, hA1, hA2, hA3, hA4, hA5, hA6, hA7, hA8, hA9, hAd, hA10⟩ := ALL.out
 have FH : Hid (hfV G = 0 ∧ memV ys = 0) := ⟨hA1, hA2⟩
 have LY : Hid (ys.length = zs.length ∧ G.regs.length = 16 ∧ G.regs.getD 0 0 = 0) := ⟨hA3, hA5, hA4⟩
 have DN : Hid (H.done ≤ G.done ∧ G.done ≤ H.done + 1 ∧ 0 ≤ H.done ∧ H.done ≤ 1000000000) := ⟨hA6, hA7, hAd.1, hAd.2⟩
 have CA := hid hA8
 have HA := hid hA9
 have CH : Hid (∀ i : Nat, i < zs.length → ¬ ys.getD i 0 = zs.getD i 0 → mayB ps (i : Int) 8 = true) := fun i hi hne => by
  obtain ⟨k, h8, h1, h2⟩ := hA10 i hi hne
  exact mayB_of 8 h8 h1 h2
 clear hA1 hA2 hA3 hA4 hA5 hA6 hA7 hA8 hA9 hAd hA10 ALL
 obtain rfl : mn = xn4 := by have := HL.out; have := Nx.out; have := LY.out; omega
 obtain rfl : xn0 = 16 := by have := Nx.out; have := LY.out; omega
 obtain ⟨_, _, hv, _, _, hgx⟩ := Tx.out.h.r.shape
 have RX : Hid (∃ g, x0 = some ⟨g, 0, none⟩) := by
  obtain ⟨g, hg⟩ := hgx (by have := LY.out; omega)
  simp only [Value.slice.injEq] at hv
  exact ⟨g, by rw [hv.1, hg]⟩
 obtain ⟨gx, rfl⟩ := RX.out
 clear RX hv hgx
 go_upto_region 7 with fail
 clear r0
 go_cut [100] from 33 to 100 (fun c wx => c = .bool false ∧ Below Wx.heap.size Wx wx)
 case first =>
  have hd1 : ¬ G.done < H.done := by have := DN.out; omega
  have hd2 : IntKind.i64.wrap (H.done + 1) = H.done + 1 := by have := DN.out; rw [IntKind.wrap_i64]; omega
  have hd3 : ¬ H.done + 1 < G.done := by have := DN.out; omega
  by_cases hca : 0 ≤ cx
  case pos =>
   have hdd : (G.done != H.done) = false := by rw [CA.out hca]; simp
   by_cases hh : H.halted = true
   case pos =>
    have HH := hid hh
    have hpp : (G.pc != H.pc) = false := by rw [HA.out hh]; simp
    clear hh
    have cells : ∀ u, Below Wx.heap.size Wx u → u.cell? ⟨qx, 1, none⟩ = some (.int .i64 cx) ∧ u.cell? ⟨qx, 3, none⟩ = some (.slice (some ⟨gx, 0, none⟩) 16 xk0) ∧ u.cell? ⟨qx, 4, none⟩ = some (.int .i64 G.pc) ∧ u.cell? ⟨qx, 9, none⟩ = some (.int .i64 G.done) ∧ u.cell? ⟨qx, 12, none⟩ = some (.slice x4 mn xk4) ∧ u.cell? ⟨q, 1, none⟩ = some (.int .i64 H.pc) ∧ u.cell? ⟨q, 3, none⟩ = some (.bool true) ∧ u.cell? ⟨q, 6, none⟩ = some (.int .i64 H.done) ∧ u.cell? ⟨gx, 0, none⟩ = some (.int .i64 0) := fun u b => by
     have v := Vx.out.keep b
     have vq := VQ.out.keep (on Bx.out b)
     have g0 := (Tx.out.h.r.keep b).cell LY.out.2.1.symm 0 (by decide)
     rw [LY.out.2.2] at g0
     have h3 := vq.cell 3 rfl
     rw [show (#[.slice b0 m0 k0, .int .i64 H.pc, .slice b1 m1 k1, .bool H.halted, .bool H.waiting, .bool H.rung, .int .i64 H.done, .slice b2 m2 k2, .slice b3 m3 k3])[3] = Value.bool H.halted from rfl, HH.out] at h3
     exact ⟨v.cell 1 rfl, v.cell 3 rfl, v.cell 4 rfl, v.cell 9 rfl, v.cell 12 rfl, vq.cell 1 rfl, h3, vq.cell 6 rfl, g0⟩
    have CS : Hid (∀ u, Below Wx.heap.size Wx u → _) := cells
    have r3 := Vx.out.cell 3 rfl
    have r4 := Vx.out.cell 4 rfl
    have r5 := Vx.out.cell 5 rfl
    have r6 := Vx.out.cell 6 rfl
    have r7 := Vx.out.cell 7 rfl
    have r8 := Vx.out.cell 8 rfl
    have r9 := Vx.out.cell 9 rfl
    have r10 := Vx.out.cell 10 rfl
    have r11 := Vx.out.cell 11 rfl
    clear cells
    go_wp2_with (first
     | (go_at_call 10; refine (i_fault _ _ _ _ G _ _ Tx.out.h).mono ?_; rintro e u ⟨rfl, g⟩; rw [FH.out.1]; have BU : Hid (Below Wx.heap.size Wx u) := g; clear r3 r4 r5 r6 r7 r8 r9 r10 r11 g; obtain ⟨k1, k3, k4, k9, k12, y1, y3, y6, y0⟩ := CS.out u BU.out)
     | (go_at_call 11; refine (impl_memFault _ ys _ _ (Tx.out.mm.keep BU.out)).mono ?_; rintro e u' ⟨rfl, hu⟩; subst hu; rw [FH.out.2])
     | fail)
    go_meet
    case rel => exact ⟨by have := DN.out; rw [decide_eq_false (by omega), decide_eq_false (by omega)]; rfl, BU.out⟩
   case neg =>
    have HH : Hid (H.halted = false) := by show _ = _; simpa using hh
    clear hh
    have cells : ∀ u, Below Wx.heap.size Wx u → u.cell? ⟨qx, 1, none⟩ = some (.int .i64 cx) ∧ u.cell? ⟨qx, 3, none⟩ = some (.slice (some ⟨gx, 0, none⟩) 16 xk0) ∧ u.cell? ⟨qx, 4, none⟩ = some (.int .i64 G.pc) ∧ u.cell? ⟨qx, 9, none⟩ = some (.int .i64 G.done) ∧ u.cell? ⟨qx, 12, none⟩ = some (.slice x4 mn xk4) ∧ u.cell? ⟨q, 1, none⟩ = some (.int .i64 H.pc) ∧ u.cell? ⟨q, 3, none⟩ = some (.bool false) ∧ u.cell? ⟨q, 6, none⟩ = some (.int .i64 H.done) ∧ u.cell? ⟨gx, 0, none⟩ = some (.int .i64 0) := fun u b => by
     have v := Vx.out.keep b
     have vq := VQ.out.keep (on Bx.out b)
     have g0 := (Tx.out.h.r.keep b).cell LY.out.2.1.symm 0 (by decide)
     rw [LY.out.2.2] at g0
     have h3 := vq.cell 3 rfl
     rw [show (#[.slice b0 m0 k0, .int .i64 H.pc, .slice b1 m1 k1, .bool H.halted, .bool H.waiting, .bool H.rung, .int .i64 H.done, .slice b2 m2 k2, .slice b3 m3 k3])[3] = Value.bool H.halted from rfl, HH.out] at h3
     exact ⟨v.cell 1 rfl, v.cell 3 rfl, v.cell 4 rfl, v.cell 9 rfl, v.cell 12 rfl, vq.cell 1 rfl, h3, vq.cell 6 rfl, g0⟩
    have CS : Hid (∀ u, Below Wx.heap.size Wx u → _) := cells
    have r3 := Vx.out.cell 3 rfl
    have r4 := Vx.out.cell 4 rfl
    have r5 := Vx.out.cell 5 rfl
    have r6 := Vx.out.cell 6 rfl
    have r7 := Vx.out.cell 7 rfl
    have r8 := Vx.out.cell 8 rfl
    have r9 := Vx.out.cell 9 rfl
    have r10 := Vx.out.cell 10 rfl
    have r11 := Vx.out.cell 11 rfl
    clear cells
    go_wp2_with (first
     | (go_at_call 10; refine (i_fault _ _ _ _ G _ _ Tx.out.h).mono ?_; rintro e u ⟨rfl, g⟩; rw [FH.out.1]; have BU : Hid (Below Wx.heap.size Wx u) := g; clear r3 r4 r5 r6 r7 r8 r9 r10 r11 g; obtain ⟨k1, k3, k4, k9, k12, y1, y3, y6, y0⟩ := CS.out u BU.out)
     | (go_at_call 11; refine (impl_memFault _ ys _ _ (Tx.out.mm.keep BU.out)).mono ?_; rintro e u' ⟨rfl, hu⟩; subst hu; rw [FH.out.2])
     | fail)
    go_meet
    case rel => exact ⟨by have := DN.out; rw [decide_eq_false (by omega), decide_eq_false (by omega)]; rfl, BU.out⟩
  case neg =>
   by_cases hh : H.halted = true
   case pos =>
    have HH := hid hh
    have hpp : (G.pc != H.pc) = false := by rw [HA.out hh]; simp
    clear hh
    have cells : ∀ u, Below Wx.heap.size Wx u → u.cell? ⟨qx, 1, none⟩ = some (.int .i64 cx) ∧ u.cell? ⟨qx, 3, none⟩ = some (.slice (some ⟨gx, 0, none⟩) 16 xk0) ∧ u.cell? ⟨qx, 4, none⟩ = some (.int .i64 G.pc) ∧ u.cell? ⟨qx, 9, none⟩ = some (.int .i64 G.done) ∧ u.cell? ⟨qx, 12, none⟩ = some (.slice x4 mn xk4) ∧ u.cell? ⟨q, 1, none⟩ = some (.int .i64 H.pc) ∧ u.cell? ⟨q, 3, none⟩ = some (.bool true) ∧ u.cell? ⟨q, 6, none⟩ = some (.int .i64 H.done) ∧ u.cell? ⟨gx, 0, none⟩ = some (.int .i64 0) := fun u b => by
     have v := Vx.out.keep b
     have vq := VQ.out.keep (on Bx.out b)
     have g0 := (Tx.out.h.r.keep b).cell LY.out.2.1.symm 0 (by decide)
     rw [LY.out.2.2] at g0
     have h3 := vq.cell 3 rfl
     rw [show (#[.slice b0 m0 k0, .int .i64 H.pc, .slice b1 m1 k1, .bool H.halted, .bool H.waiting, .bool H.rung, .int .i64 H.done, .slice b2 m2 k2, .slice b3 m3 k3])[3] = Value.bool H.halted from rfl, HH.out] at h3
     exact ⟨v.cell 1 rfl, v.cell 3 rfl, v.cell 4 rfl, v.cell 9 rfl, v.cell 12 rfl, vq.cell 1 rfl, h3, vq.cell 6 rfl, g0⟩
    have CS : Hid (∀ u, Below Wx.heap.size Wx u → _) := cells
    have r3 := Vx.out.cell 3 rfl
    have r4 := Vx.out.cell 4 rfl
    have r5 := Vx.out.cell 5 rfl
    have r6 := Vx.out.cell 6 rfl
    have r7 := Vx.out.cell 7 rfl
    have r8 := Vx.out.cell 8 rfl
    have r9 := Vx.out.cell 9 rfl
    have r10 := Vx.out.cell 10 rfl
    have r11 := Vx.out.cell 11 rfl
    clear cells
    go_wp2_with (first
     | (go_at_call 10; refine (i_fault _ _ _ _ G _ _ Tx.out.h).mono ?_; rintro e u ⟨rfl, g⟩; rw [FH.out.1]; have BU : Hid (Below Wx.heap.size Wx u) := g; clear r3 r4 r5 r6 r7 r8 r9 r10 r11 g; obtain ⟨k1, k3, k4, k9, k12, y1, y3, y6, y0⟩ := CS.out u BU.out)
     | (go_at_call 11; refine (impl_memFault _ ys _ _ (Tx.out.mm.keep BU.out)).mono ?_; rintro e u' ⟨rfl, hu⟩; subst hu; rw [FH.out.2])
     | fail)
    go_meet
    case rel => exact ⟨by have := DN.out; rw [decide_eq_false (by omega), decide_eq_false (by omega)]; rfl, BU.out⟩
   case neg =>
    have HH : Hid (H.halted = false) := by show _ = _; simpa using hh
    clear hh
    have cells : ∀ u, Below Wx.heap.size Wx u → u.cell? ⟨qx, 1, none⟩ = some (.int .i64 cx) ∧ u.cell? ⟨qx, 3, none⟩ = some (.slice (some ⟨gx, 0, none⟩) 16 xk0) ∧ u.cell? ⟨qx, 4, none⟩ = some (.int .i64 G.pc) ∧ u.cell? ⟨qx, 9, none⟩ = some (.int .i64 G.done) ∧ u.cell? ⟨qx, 12, none⟩ = some (.slice x4 mn xk4) ∧ u.cell? ⟨q, 1, none⟩ = some (.int .i64 H.pc) ∧ u.cell? ⟨q, 3, none⟩ = some (.bool false) ∧ u.cell? ⟨q, 6, none⟩ = some (.int .i64 H.done) ∧ u.cell? ⟨gx, 0, none⟩ = some (.int .i64 0) := fun u b => by
     have v := Vx.out.keep b
     have vq := VQ.out.keep (on Bx.out b)
     have g0 := (Tx.out.h.r.keep b).cell LY.out.2.1.symm 0 (by decide)
     rw [LY.out.2.2] at g0
     have h3 := vq.cell 3 rfl
     rw [show (#[.slice b0 m0 k0, .int .i64 H.pc, .slice b1 m1 k1, .bool H.halted, .bool H.waiting, .bool H.rung, .int .i64 H.done, .slice b2 m2 k2, .slice b3 m3 k3])[3] = Value.bool H.halted from rfl, HH.out] at h3
     exact ⟨v.cell 1 rfl, v.cell 3 rfl, v.cell 4 rfl, v.cell 9 rfl, v.cell 12 rfl, vq.cell 1 rfl, h3, vq.cell 6 rfl, g0⟩
    have CS : Hid (∀ u, Below Wx.heap.size Wx u → _) := cells
    have r3 := Vx.out.cell 3 rfl
    have r4 := Vx.out.cell 4 rfl
    have r5 := Vx.out.cell 5 rfl
    have r6 := Vx.out.cell 6 rfl
    have r7 := Vx.out.cell 7 rfl
    have r8 := Vx.out.cell 8 rfl
    have r9 := Vx.out.cell 9 rfl
    have r10 := Vx.out.cell 10 rfl
    have r11 := Vx.out.cell 11 rfl
    clear cells
    go_wp2_with (first
     | (go_at_call 10; refine (i_fault _ _ _ _ G _ _ Tx.out.h).mono ?_; rintro e u ⟨rfl, g⟩; rw [FH.out.1]; have BU : Hid (Below Wx.heap.size Wx u) := g; clear r3 r4 r5 r6 r7 r8 r9 r10 r11 g; obtain ⟨k1, k3, k4, k9, k12, y1, y3, y6, y0⟩ := CS.out u BU.out)
     | (go_at_call 11; refine (impl_memFault _ ys _ _ (Tx.out.mm.keep BU.out)).mono ?_; rintro e u' ⟨rfl, hu⟩; subst hu; rw [FH.out.2])
     | fail)
    go_meet
    case rel => exact ⟨by have := DN.out; rw [decide_eq_false (by omega), decide_eq_false (by omega)]; rfl, BU.out⟩
 case rest =>
  obtain ⟨rfl, hB⟩ := hcut
  have BC := hid hB
  have BC2 := hid (on Bx.out hB)
  have MX := hid (Tx.out.mm.keep hB)
  have MZ := hid (HZ.out.keep BC2.out)
  have PZ := hid (HP.out.keep BC2.out)
  have LM : Hid (mn = zs.length ∧ mn = ys.length ∧ mn ≤ 200) := by have := HL.out; have := LY.out; exact ⟨by omega, by omega, by omega⟩
  obtain ⟨_, _, hv, _, _, hgl⟩ := HP.out.shape
  obtain ⟨gl, hgl⟩ := hgl (by have := HL.out; omega)
  simp only [Value.slice.injEq] at hv
  obtain rfl : la = some ⟨gl, 0, none⟩ := by rw [hv.1, hgl]
  obtain ⟨_, _, hv2, _, _, hg4⟩ := Tx.out.mm.shape
  simp only [Value.slice.injEq] at hv2
  have G4 : Hid (0 < mn → ∃ g, x4 = some ⟨g, 0, none⟩) := fun h => by obtain ⟨g, e⟩ := hg4 (by have := LM.out; omega); exact ⟨g, by rw [hv2.1, e]⟩
  obtain ⟨_, _, hv3, _, _, hgm⟩ := HZ.out.shape
  simp only [Value.slice.injEq] at hv3
  have GM : Hid (0 < mn → ∃ g, ma = some ⟨g, 0, none⟩) := fun h => by obtain ⟨g, e⟩ := hgm (by have := LM.out; omega); exact ⟨g, by rw [hv3.1, e]⟩
  have hm2 : (mn : Int) ≤ 9223372036854775807 := by have := LM.out; omega
  clear hv hgl hv2 hg4 hv3 hgm hB
  go_wp2_with fail
  go_loopw [7, 8, 9] (fun c _ _ wr => ∃ i : Nat, i ≤ mn ∧ c = .int .i64 (i : Int) ∧ Below wc.heap.size wc wr) (fun c _ _ _ => mn - (intOf c).toNat)
  case atStart => exact ⟨0, Nat.zero_le _, rfl, Below.refl _ _⟩
  case round =>
   obtain ⟨i, hi, rfl, hB⟩ := hrel
   have HB := hid hB
   clear hB
   by_cases hlt : i < mn
   ·have hI : (i : Int) < (mn : Int) := by omega
    have HLT := hid hlt
    obtain ⟨g4, rfl⟩ := G4.out (by omega)
    obtain ⟨gm, rfl⟩ := GM.out (by omega)
    have y12 := (Vx.out.keep (on BC.out HB.out)).cell 12 rfl
    have cx1 : ∀ w', Below wr.heap.size wr w' → w'.cell? ⟨g4, i, none⟩ = some (.int .i64 (ys.getD i 0)) := fun w' b => (MX.out.keep (on HB.out b)).cell LM.out.2.1 i HLT.out
    have cm1 : ∀ w', Below wr.heap.size wr w' → w'.cell? ⟨gm, i, none⟩ = some (.int .i64 (zs.getD i 0)) := fun w' b => (MZ.out.keep (on HB.out b)).cell LM.out.1 i HLT.out
    have cv1 := cx1 wr (Below.refl _ _)
    have cv2 := cm1 wr (Below.refl _ _)
    have CHI : Hid (¬ ys.getD i 0 = zs.getD i 0 → mayB ps (i : Int) 8 = true) := CH.out i (by have := LM.out; omega)
    clear cx1 cm1 hlt hi
    obtain ⟨yv, hyv⟩ : ∃ z, ys.getD i 0 = z := ⟨_, rfl⟩
    obtain ⟨zv, hzv⟩ : ∃ z, zs.getD i 0 = z := ⟨_, rfl⟩
    rw [hyv] at cv1 CHI
    rw [hzv] at cv2 CHI
    clear hyv hzv
    have PG : Hid (∀ (j : Nat) (w' : World), j < 8 → Below wc.heap.size wc w' → w'.cell? ⟨gl, j * 2, none⟩ = some (.int .i64 (ps.getD j (0, 0)).1) ∧ w'.cell? ⟨gl, j * 2 + 1, none⟩ = some (.int .i64 (ps.getD j (0, 0)).2)) := fun j w' hj b => (PZ.out.keep b).cell HL.out.1.symm j hj
    by_cases he : yv = zv
    ·subst he
     clear CHI
     go_wp2_with fail
     go_quiet (fail)
     go_wp2_with fail
     go_roundw
     case rel => exact ⟨i + 1, by have := HLT.out; omega, by go_num, below_dN HB.out _⟩
     case measure => have := HLT.out; simp [intOf]; omega
    ·have heb : (yv == zv) = false := beq_eq_false_iff_ne.2 he
     have MAY : Hid (mayB ps (i : Int) 8 = true) := CHI.out he
     clear he CHI
     go_wp2_with fail
     go_quiet (fail)
     go_wp2_with fail
     clear heb y12 cv1 cv2
     have HD : Hid (∀ nq, Below wc.heap.size wc (wr.drewN nq)) := fun nq => below_dN HB.out nq
     rename World => W8
     go_loopw [8, 9] (fun m c wr => ∃ j : Nat, j ≤ 8 ∧ c = .int .i64 (j : Int) ∧ m = .bool (mayB ps (i : Int) j) ∧ Below wc.heap.size wc wr) (fun _ c _ => 8 - (intOf c).toNat)
     case atStart => exact ⟨0, by omega, rfl, rfl, HD.out _⟩
     case round =>
      obtain ⟨j, hj, rfl, rfl, hB⟩ := hrel
      have HB2 := hid hB
      by_cases hj8 : j < 8
      ·have hJ : (j : Int) < 8 := by omega
       have HJ := hid hj8
       obtain ⟨d1, d2⟩ := PG.out j wr hj8 hB
       have MB : Hid (mayB ps (i : Int) (j + 1) = (mayB ps (i : Int) j || (decide ((ps.getD j (0, 0)).1 = (i : Int) / 8) && !(bits BinOp.and .i64 (ps.getD j (0, 0)).2 2 == 0)))) := rfl
       generalize (ps.getD j (0, 0)).1 = p1 at *
       generalize (ps.getD j (0, 0)).2 = p2 at *
       generalize mayB ps (i : Int) j = m0 at *
       clear hB hj8 hj
       cases m0 with
       | true =>
        go_wp2_with fail
        go_roundw
        case rel => exact ⟨j + 1, by have := HJ.out; omega, by go_num, by rw [MB.out]; rfl, HB2.out⟩
        case measure => have := HJ.out; simp [intOf]; omega
       | false =>
        by_cases h1 : p1 = (i : Int) / 8
        ·cases h2 : (bits BinOp.and .i64 p2 2 == 0) with
         | true =>
          go_wp2_with fail
          go_roundw
          case rel => exact ⟨j + 1, by have := HJ.out; omega, by go_num, by first | (rw [MB.out, decide_eq_true h1]; rfl) | (rw [MB.out, decide_eq_true h1, h2]; rfl), HB2.out⟩
          case measure => have := HJ.out; simp [intOf]; omega
         | false =>
          go_wp2_with fail
          go_roundw
          case rel => exact ⟨j + 1, by have := HJ.out; omega, by go_num, by first | (rw [MB.out, decide_eq_true h1]; rfl) | (rw [MB.out, decide_eq_true h1, h2]; rfl), HB2.out⟩
          case measure => have := HJ.out; simp [intOf]; omega
        ·go_wp2_with fail
         go_roundw
         case rel => exact ⟨j + 1, by have := HJ.out; omega, by go_num, by rw [MB.out]; simp [h1], HB2.out⟩
         case measure => have := HJ.out; simp [intOf]; omega
      ·have hJ : ¬ (j : Int) < 8 := by omega
       obtain rfl : j = 8 := by omega
       rw [MAY.out]
       clear hB hj8 hj
       go_wp2_with fail
       go_roundw
       case rel => exact ⟨i + 1, by have := HLT.out; omega, by go_num, HB2.out⟩
       case measure => have := HLT.out; simp [intOf]; omega
   ·have hI : ¬ (i : Int) < (mn : Int) := by omega
    clear hlt hi
    go_upto_region 20 with fail
    have SF : Hid (Below W.heap.size W wr.drew ∧ Below Wx.heap.size Wx wr.drew) := ⟨on BC2.out HB.out.drew, on BC.out HB.out.drew⟩
    refine wp_region_held (S := fun w' => Below W.heap.size W w' ∧ Below Wx.heap.size Wx w') (by kernel_rfl) ?_
    change wpAnyH _ _ _ _ _ _ _ _ (World.drew _)
    have hf3 := field_step3
    have hf1 := field_hart1
    generalize wr.drew = v1 at *
    refine wpTd 0 145 ((.pointer (some ⟨qx, 3, none⟩))) rfl SF.out ?_
    simp only [Act.put, zT, zZ, zS]
    refine wpTd 1 146 ((.pointer (some ⟨qx, 4, none⟩))) rfl SF.out ?_
    simp only [Act.put, zT, zZ, zS]
    refine wpTe 2 147 ((.int .i64 G.pc)) rfl (Or.inl ⟨by rfl, fun w' hs => by have y := (Vx.out.keep hs.2).cell 4 rfl; go_simp⟩) SF.out ?_
    simp only [Act.put, zT, zZ, zS]
    refine wpTe 3 148 (.agg #[.slice b0 m0 k0, .int .i64 H.pc, .slice b1 m1 k1, .bool H.halted, .bool H.waiting, .bool H.rung, .int .i64 H.done, .slice b2 m2 k2, .slice b3 m3 k3]) rfl (yieldsIf_load_mid (by rfl) 26 (.tmp 3) rfl q 0 rfl [.slice b0 m0 k0, .int .i64 H.pc, .slice b1 m1 k1, .bool H.halted, .bool H.waiting, .bool H.rung, .int .i64 H.done, .slice b2 m2 k2, .slice b3 m3 k3] _ (fun w' hs => vb_rangeW (VQ.out.keep hs.1)) Tryz.underlying26 rfl (by kernel_rfl)) SF.out ?_
    simp only [Act.put, zT, zZ, zS]
    refine wpTd 4 149 ((.slice (some ⟨gl, 0, none⟩) 8 lk)) rfl SF.out ?_
    simp only [Act.put, zT, zZ, zS]
    refine wpTd 5 150 ((.slice ma mn mk)) rfl SF.out ?_
    simp only [Act.put, zT, zZ, zS]
    refine zR 6 rfl fun K hK => ?_
    rw [if_pos (by rfl)]
    go_simp
    refine (s_stepHart _ _ _ _ H (some ⟨gl, 0, none⟩) 8 lk ps ma mn mk zs 0 v1 (HM.out.keep SF.out.1) (HP.out.keep SF.out.1) (by have := HL.out; omega) (HZ.out.keep SF.out.1) (by have := HL.out; omega)).mono ?_
    rintro e v2 ⟨r', c', i', o', m', rfl, -, g⟩
    rw [HY.out, YC.out.2.1]
    replace SF : Hid (Below W.heap.size W v2 ∧ Below Wx.heap.size Wx v2) := ⟨on SF.out.1 g, on SF.out.2 g⟩
    clear g
    refine hK.out _ _ SF.out (fun _ => ?_)
    clear hK K
    refine wpTd 7 152 ((.agg #[r', .int .i64 G.pc, c', .bool G.halted, .bool G.waiting, .bool G.rung, .int .i64 G.done, i', o'])) rfl SF.out ?_
    simp only [Act.put, zT, zZ, zS]
    refine wpTd 8 153 ((.int .i64 G.pc)) rfl SF.out ?_
    simp only [Act.put, zT, zZ, zS]
    refine wpTd 9 154 ((.bool true)) rfl SF.out ?_
    simp only [Act.put, zT, zZ, zS]
    refine wpTd 10 2 ((.bool true)) rfl SF.out ?_
    simp only [Act.put, zT, zZ, zS]
    refine wpAnyH_done (by kernel_rfl) ?_ _
    go_wp2_with fail
    go_ret
    exact ⟨rfl, on BW.out SF.out.1⟩
end Go.Proofs.YtaefollmeoepkaaGreatDoor.fnStepsDone
