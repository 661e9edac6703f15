/- Texts of this seat, joined. -/
import Derived.Laws.AppendOwnNone
import Derived.Deep.Cut
import Derived.Defers
import Derived.Recover
import Derived.Laws.Pointers
import Derived.Deep.CutRange
import Derived.Deep.RegionHeld3
import Derived.Test.YtcbcbgomafeccaaGreatDoorQ06
import Derived.Test.YtcbcbgomafeccaaGreatDoorQ16
import Derived.Test.YtcbcbgomafeccaaGreatDoorQ18
import Derived.Test.YtcbcbgomafeccaaGreatDoorQ20
import Derived.Test.YtcbcbgomafeccaaGreatDoorQ22
import Derived.Test.YtcbcbgomafeccaaGreatDoorQ23
import Derived.Test.YtcbcbgomafeccaaGreatDoorQ26
import Derived.Test.YtcbcbgomafeccaaGreatDoorQ29
import Derived.Test.YtcbcbgomafeccaaGreatDoorQ32
import Derived.Test.YtcbcbgomafeccaaGreatDoorQ33
namespace Go.Proofs.YtcbcbgomafeccaaGreatDoor
open Go.RowKit

theorem spec_l2Alu1 (a b : Int) (w : World) : Calls Tryz.prog 78 #[.int .i64 1, .int .i64 a, .int .i64 b] w fun e w' => e = .returned (.int .i64 (addV a b)) ∧ Below w.heap.size w w' := by
  go_enter Tryz.func78, Tryz.ntmps78
  go_wp2_with (go_at_call 70; refine (spec_add _ _ _).mono ?_; rintro e w1 ⟨rfl, rfl⟩)
  go_ret
  exact ⟨rfl, Below.refl _ _⟩
theorem spec_l2Alu2 (a b : Int) (w : World) : Calls Tryz.prog 78 #[.int .i64 2, .int .i64 a, .int .i64 b] w fun e w' => e = .returned (.int .i64 ((a - b) % 4294967296)) ∧ Below w.heap.size w w' := by
  go_enter Tryz.func78, Tryz.ntmps78
  go_wp2_with fail
  go_ret
  exact ⟨ret_i64 (by first | rfl | simp | exact sub_eq a b), Below.refl _ _⟩
theorem spec_l2Alu3 (a b : Int) (w : World) : Calls Tryz.prog 78 #[.int .i64 3, .int .i64 a, .int .i64 b] w fun e w' => e = .returned (.int .i64 (mulV a b)) ∧ Below w.heap.size w w' := by
  go_enter Tryz.func78, Tryz.ntmps78
  go_wp2_with (go_at_call 107; refine (spec_mul _ _ _).mono ?_; rintro e w1 ⟨rfl, rfl⟩)
  go_ret
  exact ⟨rfl, Below.refl _ _⟩
theorem spec_l2Alu4 (a b : Int) (w : World) : Calls Tryz.prog 78 #[.int .i64 4, .int .i64 a, .int .i64 b] w fun e w' => e = .returned (.int .i64 (divV a b)) ∧ Below w.heap.size w w' := by
  go_enter Tryz.func78, Tryz.ntmps78
  go_wp2_with (go_at_call 108; refine (spec_div _ _ _).mono ?_; rintro e w1 ⟨rfl, rfl⟩)
  go_ret
  exact ⟨rfl, Below.refl _ _⟩
theorem spec_l2Alu5 (a b : Int) (w : World) : Calls Tryz.prog 78 #[.int .i64 5, .int .i64 a, .int .i64 b] w fun e w' => e = .returned (.int .i64 (remV a b)) ∧ Below w.heap.size w w' := by
  go_enter Tryz.func78, Tryz.ntmps78
  go_wp2_with (go_at_call 109; refine (spec_rem _ _ _).mono ?_; rintro e w1 ⟨rfl, rfl⟩)
  go_ret
  exact ⟨rfl, Below.refl _ _⟩
theorem spec_l2Alu6 (a b : Int) (w : World) : Calls Tryz.prog 78 #[.int .i64 6, .int .i64 a, .int .i64 b] w fun e w' => e = .returned (.int .i64 (bitV 1 a b)) ∧ Below w.heap.size w w' := by
  have hf := field_value
  go_enter Tryz.func78, Tryz.ntmps78
  go_wp2_with (go_at_call 110; refine (spec_bit _ _ _ _).mono ?_; rintro e w1 ⟨rfl, hb⟩)
  go_ret
  exact ⟨rfl, hb⟩
theorem spec_l2Alu7 (a b : Int) (w : World) : Calls Tryz.prog 78 #[.int .i64 7, .int .i64 a, .int .i64 b] w fun e w' => e = .returned (.int .i64 (bitV 2 a b)) ∧ Below w.heap.size w w' := by
  have hf := field_value
  go_enter Tryz.func78, Tryz.ntmps78
  go_wp2_with (go_at_call 110; refine (spec_bit _ _ _ _).mono ?_; rintro e w1 ⟨rfl, hb⟩)
  go_ret
  exact ⟨rfl, hb⟩
theorem spec_l2Alu8 (a b : Int) (w : World) : Calls Tryz.prog 78 #[.int .i64 8, .int .i64 a, .int .i64 b] w fun e w' => e = .returned (.int .i64 (bitV 3 a b)) ∧ Below w.heap.size w w' := by
  have hf := field_value
  go_enter Tryz.func78, Tryz.ntmps78
  go_wp2_with (go_at_call 110; refine (spec_bit _ _ _ _).mono ?_; rintro e w1 ⟨rfl, hb⟩)
  go_ret
  exact ⟨rfl, hb⟩
theorem spec_l2Alu9 (a b : Int) (w : World) : Calls Tryz.prog 78 #[.int .i64 9, .int .i64 a, .int .i64 b] w fun e w' => e = .returned (.int .i64 (shlV a b)) ∧ Below w.heap.size w w' := by
  go_enter Tryz.func78, Tryz.ntmps78
  go_wp2_with (go_at_call 111; refine (spec_shl _ _ _).mono ?_; rintro e w1 ⟨rfl, rfl⟩)
  go_ret
  exact ⟨rfl, Below.refl _ _⟩
theorem spec_l2Alu10 (a b : Int) (w : World) : Calls Tryz.prog 78 #[.int .i64 10, .int .i64 a, .int .i64 b] w fun e w' => e = .returned (.int .i64 (shrV a b)) ∧ Below w.heap.size w w' := by
  go_enter Tryz.func78, Tryz.ntmps78
  go_wp2_with (go_at_call 111; refine (spec_shr _ _ _).mono ?_; rintro e w1 ⟨rfl, rfl⟩)
  go_ret
  exact ⟨rfl, Below.refl _ _⟩
theorem spec_l2Alu11 (a b : Int) (w : World) : Calls Tryz.prog 78 #[.int .i64 11, .int .i64 a, .int .i64 b] w fun e w' => e = .returned (.int .i64 (if sgn a < sgn b then 1 else 0)) ∧ Below w.heap.size w w' := by
  by_cases h : sgn a < sgn b
  all_goals
    first | rw [if_pos h] | rw [if_neg h]
    go_enter Tryz.func78, Tryz.ntmps78
    go_wp2_with (go_at_call 105; refine (spec_signed _ _).mono ?_; rintro e w1 ⟨rfl, rfl⟩)
    go_ret
    exact ⟨rfl, Below.refl _ _⟩

theorem spec_l2Alu (op a b : Int) (w : World) (h : 1 ≤ op ∧ op ≤ 11) : Calls Tryz.prog 78 #[.int .i64 op, .int .i64 a, .int .i64 b] w fun e w' => e = .returned (.int .i64 (aluV op a b)) ∧ Below w.heap.size w w' := by
  rcases (by omega : op = 1 ∨ op = 2 ∨ op = 3 ∨ op = 4 ∨ op = 5 ∨ op = 6 ∨ op = 7 ∨ op = 8 ∨ op = 9 ∨ op = 10 ∨ op = 11) with rfl | rfl | rfl | rfl | rfl | rfl | rfl | rfl | rfl | rfl | rfl
  · rw [aluV1]; exact spec_l2Alu1 a b w
  · rw [aluV2]; exact spec_l2Alu2 a b w
  · rw [aluV3]; exact spec_l2Alu3 a b w
  · rw [aluV4]; exact spec_l2Alu4 a b w
  · rw [aluV5]; exact spec_l2Alu5 a b w
  · rw [aluV6]; exact spec_l2Alu6 a b w
  · rw [aluV7]; exact spec_l2Alu7 a b w
  · rw [aluV8]; exact spec_l2Alu8 a b w
  · rw [aluV9]; exact spec_l2Alu9 a b w
  · rw [aluV10]; exact spec_l2Alu10 a b w
  · rw [aluV11]; exact spec_l2Alu11 a b w

end Go.Proofs.YtcbcbgomafeccaaGreatDoor
namespace Go.Proofs.YtcbcbgomafeccaaGreatDoor
open Go.RowKit
set_option linter.unusedVariables false

set_option maxRecDepth 20000 in
set_option maxHeartbeats 8000000 in
theorem s_copyX (r c i o : Value) (H : Ht) (b : Nat) (w : World) (h : Hm w b r c i o H) (h0 : H.regs.length ≤ 1000) (h1 : H.csr.length ≤ 1000) (h2 : H.inn.length ≤ 1000) (h3 : H.out.length ≤ 1000) :
    Calls Tryz.prog 40 #[.agg #[r, .int .i64 H.pc, c, .bool H.halted, .bool H.waiting, .bool H.rung, .int .i64 H.done, i, o]] w fun e w' => ∃ r' c' i' o', e = .returned (.agg #[r', .int .i64 H.pc, c', .bool H.halted, .bool H.waiting, .bool H.rung, .int .i64 H.done, i', o']) ∧ Hm w' w.heap.size r' c' i' o' H ∧ Ha r' c' i' o' ∧ Below w.heap.size w w' ∧ ∃ bo, w.heap.size ≤ bo ∧ bo ≤ w'.heap.size ∧ Nums w' bo o' H.out ∧ ∀ k, (r'.ownBlock = some k ∨ c'.ownBlock = some k ∨ i'.ownBlock = some k) → k < bo := by
  have HM : Hid (Hm w b r c i o H) := h
  have HL : Hid (H.regs.length ≤ 1000 ∧ H.csr.length ≤ 1000 ∧ H.inn.length ≤ 1000 ∧ H.out.length ≤ 1000) := ⟨h0, h1, h2, h3⟩
  obtain ⟨a0, k0, rfl, _⟩ := h.r.shape
  obtain ⟨a1, k1, rfl, _⟩ := h.c.shape
  obtain ⟨a2, k2, rfl, _⟩ := h.i.shape
  obtain ⟨a3, k3, rfl, _⟩ := h.o.shape
  clear h h0 h1 h2 h3
  generalize hW : (w.alloc (.cells #[.slice a0 H.regs.length k0, .int .i64 H.pc, .slice a1 H.csr.length k1, .bool H.halted, .bool H.waiting, .bool H.rung, .int .i64 H.done, .slice a2 H.inn.length k2, .slice a3 H.out.length k3] 28)).alloc (.cells #[.slice none 0 0, .int .i64 0, .slice none 0 0, .bool false, .bool false, .bool false, .int .i64 0, .slice none 0 0, .slice none 0 0] 28) = v0
  have SZ : Hid (v0.heap.size = w.heap.size + 2) := by show _ = _; rw [← hW]; simp
  obtain ⟨s, hS⟩ : ∃ s, w.heap.size = s := ⟨_, rfl⟩
  have HSs : Hid (w.heap.size = s) := hS
  have T0 : Hid (Cy w v0 s #[.slice a0 H.regs.length k0, .int .i64 H.pc, .slice a1 H.csr.length k1, .bool H.halted, .bool H.waiting, .bool H.rung, .int .i64 H.done, .slice a2 H.inn.length k2, .slice a3 H.out.length k3]) := by
    have z1 : s + 1 = (w.alloc (.cells #[.slice a0 H.regs.length k0, .int .i64 H.pc, .slice a1 H.csr.length k1, .bool H.halted, .bool H.waiting, .bool H.rung, .int .i64 H.done, .slice a2 H.inn.length k2, .slice a3 H.out.length k3] 28)).heap.size := by rw [← hS]; simp
    refine ⟨?_, ?_, by rw [← hW]; exact al (al (Below.refl _ _) _) _, hS⟩
    · rw [← hW, ← hS]; exact (Vb.new _ _ _).push _
    · rw [← hW, z1]; exact Vb.new _ _ _
  have LO : Hid (∀ k, Own4 (.slice a0 H.regs.length k0) (.slice a1 H.csr.length k1) (.slice a2 H.inn.length k2) (.slice a3 H.out.length k3) k → k < s) := fun k e => by have := (HM.out.own k e).2; have := HSs.out; omega
  have Z0 : Hid (s + 2 ≤ v0.heap.size) := by show _ ≤ _; have := SZ.out; have := HSs.out; omega
  have q0 := T0.out.A.cell 0 rfl
  have ls := T0.out.A.lt
  go_enter Tryz.func40, Tryz.ntmps40
  go_upto_region 2 with (at_builtin; refine wp_appy _ rfl _ _ rfl v0.heap.size _ [] rfl (nums_none _ _ (Nat.le_refl _)) a0 H.regs.length k0 H.regs rfl ((HM.out.r.rn.stay T0.out.b).stay (al (Below.refl _ _) _)) (by have := HL.out.1; simp; omega) (by simp) ?_; intro x0 w1 n1 g1; have b1 : Below v0.heap.size v0 w1 := below_of_grown (al (Below.refl _ _) _) g1 (nums_none _ _ (Nat.le_refl _)) (Nat.le_refl _); rw [List.nil_append] at n1; obtain ⟨xa0, xk0, rfl, _⟩ := n1.shape; clear ls; have S1 := T0.out.keep b1; have ls := S1.A.lt; have o0 := S1.A.cell 0 rfl; have f0 := S1.A.free 0; have e2 := S1.A.cell 2 rfl; clear g1)
  have MB0 : Hid (Nums w1 v0.heap.size (.slice xa0 H.regs.length xk0) H.regs) := n1
  have M0 : Hid (Nums w1 (s + 2) (.slice xa0 H.regs.length xk0) H.regs) := n1.mono Z0.out
  have T1 : Hid (Cy w (w1.setCell ⟨s, 0, none⟩ (.slice xa0 H.regs.length xk0)) s #[.slice xa0 H.regs.length xk0, .int .i64 H.pc, .slice a1 H.csr.length k1, .bool H.halted, .bool H.waiting, .bool H.rung, .int .i64 H.done, .slice a2 H.inn.length k2, .slice a3 H.out.length k3]) := S1.put 0 (.slice xa0 H.regs.length xk0)
  have H1 : Hid (Ho (s + 2) w1 (w1.setCell ⟨s, 0, none⟩ (.slice xa0 H.regs.length xk0))) := Ho.set _ _ _ (by show s < s + 2; omega)
  have Z1 : Hid (s + 2 ≤ (w1.setCell ⟨s, 0, none⟩ (.slice xa0 H.regs.length xk0)).heap.size) := (by have := T1.out.R.lt; show _ ≤ _; omega)
  have Y1 : Hid (w1.heap.size ≤ (w1.setCell ⟨s, 0, none⟩ (.slice xa0 H.regs.length xk0)).heap.size) := H1.out.size
  generalize (w1.setCell ⟨s, 0, none⟩ (.slice xa0 H.regs.length xk0)) = v1 at *
  clear S1 n1 b1 o0 f0 e2 q0 hW hS ls
  have ls := T1.out.A.lt
  have e2 := T1.out.A.cell 2 rfl
  go_upto_region 3 with (at_builtin; refine wp_appy _ rfl _ _ rfl v1.heap.size _ [] rfl (nums_none _ _ (Nat.le_refl _)) a1 H.csr.length k1 H.csr rfl ((HM.out.c.rn.stay T1.out.b).stay (al (Below.refl _ _) _)) (by have := HL.out.2.1; simp; omega) (by simp) ?_; intro x1 w2 n1 g1; have b1 : Below v1.heap.size v1 w2 := below_of_grown (al (Below.refl _ _) _) g1 (nums_none _ _ (Nat.le_refl _)) (Nat.le_refl _); rw [List.nil_append] at n1; obtain ⟨xa1, xk1, rfl, _⟩ := n1.shape; clear ls e2; have S1 := T1.out.keep b1; have ls := S1.A.lt; have o2 := S1.A.cell 2 rfl; have f2 := S1.A.free 2; have e7 := S1.A.cell 7 rfl; clear g1)
  have MB1 : Hid (Nums w2 v1.heap.size (.slice xa1 H.csr.length xk1) H.csr) := n1
  have H12 : Hid (Ho (s + 2) w1 w2) := H1.out.trans (Ho.of b1)
  have M1 : Hid (Nums w2 (s + 2) (.slice xa1 H.csr.length xk1) H.csr) := n1.mono Z1.out
  have T2 : Hid (Cy w (w2.setCell ⟨s, 2, none⟩ (.slice xa1 H.csr.length xk1)) s #[.slice xa0 H.regs.length xk0, .int .i64 H.pc, .slice xa1 H.csr.length xk1, .bool H.halted, .bool H.waiting, .bool H.rung, .int .i64 H.done, .slice a2 H.inn.length k2, .slice a3 H.out.length k3]) := S1.put 2 (.slice xa1 H.csr.length xk1)
  have H2 : Hid (Ho (s + 2) w2 (w2.setCell ⟨s, 2, none⟩ (.slice xa1 H.csr.length xk1))) := Ho.set _ _ _ (by show s < s + 2; omega)
  have Z2 : Hid (s + 2 ≤ (w2.setCell ⟨s, 2, none⟩ (.slice xa1 H.csr.length xk1)).heap.size) := (by have := T2.out.R.lt; show _ ≤ _; omega)
  have Y2 : Hid (w2.heap.size ≤ (w2.setCell ⟨s, 2, none⟩ (.slice xa1 H.csr.length xk1)).heap.size) := H2.out.size
  generalize (w2.setCell ⟨s, 2, none⟩ (.slice xa1 H.csr.length xk1)) = v2 at *
  clear S1 n1 b1 o2 f2 e7 ls
  have ls := T2.out.A.lt
  have e7 := T2.out.A.cell 7 rfl
  go_upto_region 4 with (at_builtin; refine wp_appy _ rfl _ _ rfl v2.heap.size _ [] rfl (nums_none _ _ (Nat.le_refl _)) a2 H.inn.length k2 H.inn rfl ((HM.out.i.rn.stay T2.out.b).stay (al (Below.refl _ _) _)) (by have := HL.out.2.2.1; simp; omega) (by simp) ?_; intro x2 w3 n1 g1; have b1 : Below v2.heap.size v2 w3 := below_of_grown (al (Below.refl _ _) _) g1 (nums_none _ _ (Nat.le_refl _)) (Nat.le_refl _); rw [List.nil_append] at n1; obtain ⟨xa2, xk2, rfl, _⟩ := n1.shape; clear ls e7; have S1 := T2.out.keep b1; have ls := S1.A.lt; have o7 := S1.A.cell 7 rfl; have f7 := S1.A.free 7; have e8 := S1.A.cell 8 rfl; clear g1)
  have MB2 : Hid (Nums w3 v2.heap.size (.slice xa2 H.inn.length xk2) H.inn) := n1
  have H23 : Hid (Ho (s + 2) w2 w3) := H2.out.trans (Ho.of b1)
  have M2 : Hid (Nums w3 (s + 2) (.slice xa2 H.inn.length xk2) H.inn) := n1.mono Z2.out
  have T3 : Hid (Cy w (w3.setCell ⟨s, 7, none⟩ (.slice xa2 H.inn.length xk2)) s #[.slice xa0 H.regs.length xk0, .int .i64 H.pc, .slice xa1 H.csr.length xk1, .bool H.halted, .bool H.waiting, .bool H.rung, .int .i64 H.done, .slice xa2 H.inn.length xk2, .slice a3 H.out.length k3]) := S1.put 7 (.slice xa2 H.inn.length xk2)
  have H3 : Hid (Ho (s + 2) w3 (w3.setCell ⟨s, 7, none⟩ (.slice xa2 H.inn.length xk2))) := Ho.set _ _ _ (by show s < s + 2; omega)
  have Z3 : Hid (s + 2 ≤ (w3.setCell ⟨s, 7, none⟩ (.slice xa2 H.inn.length xk2)).heap.size) := (by have := T3.out.R.lt; show _ ≤ _; omega)
  have Y3 : Hid (w3.heap.size ≤ (w3.setCell ⟨s, 7, none⟩ (.slice xa2 H.inn.length xk2)).heap.size) := H3.out.size
  generalize (w3.setCell ⟨s, 7, none⟩ (.slice xa2 H.inn.length xk2)) = v3 at *
  clear S1 n1 b1 o7 f7 e8 ls
  have ls := T3.out.A.lt
  have e8 := T3.out.A.cell 8 rfl
  go_upto_region 5 with (at_builtin; refine wp_appy _ rfl _ _ rfl v3.heap.size _ [] rfl (nums_none _ _ (Nat.le_refl _)) a3 H.out.length k3 H.out rfl ((HM.out.o.rn.stay T3.out.b).stay (al (Below.refl _ _) _)) (by have := HL.out.2.2.2; simp; omega) (by simp) ?_; intro x3 w4 n1 g1; have b1 : Below v3.heap.size v3 w4 := below_of_grown (al (Below.refl _ _) _) g1 (nums_none _ _ (Nat.le_refl _)) (Nat.le_refl _); rw [List.nil_append] at n1; obtain ⟨xa3, xk3, rfl, _⟩ := n1.shape; clear ls e8; have S1 := T3.out.keep b1; have ls := S1.A.lt; have o8 := S1.A.cell 8 rfl; have f8 := S1.A.free 8; have r0 := S1.R.cell 0 rfl; have y0 := S1.R.free 0; have r1 := S1.R.cell 1 rfl; have y1 := S1.R.free 1; have r2 := S1.R.cell 2 rfl; have y2 := S1.R.free 2; have r3 := S1.R.cell 3 rfl; have y3 := S1.R.free 3; have r4 := S1.R.cell 4 rfl; have y4 := S1.R.free 4; have r5 := S1.R.cell 5 rfl; have y5 := S1.R.free 5; have r6 := S1.R.cell 6 rfl; have y6 := S1.R.free 6; have r7 := S1.R.cell 7 rfl; have y7 := S1.R.free 7; have r8 := S1.R.cell 8 rfl; have y8 := S1.R.free 8; have l0 := S1.A.cell 0 rfl; have l1 := S1.A.cell 1 rfl; have l2 := S1.A.cell 2 rfl; have l3 := S1.A.cell 3 rfl; have l4 := S1.A.cell 4 rfl; have l5 := S1.A.cell 5 rfl; have l6 := S1.A.cell 6 rfl; have l7 := S1.A.cell 7 rfl; clear g1)
  have MB3 : Hid (Nums w4 v3.heap.size (.slice xa3 H.out.length xk3) H.out) := n1
  have YY : Hid (v3.heap.size ≤ w4.heap.size) := b1.size
  have H34 : Hid (Ho (s + 2) w3 w4) := H3.out.trans (Ho.of b1)
  have M3 : Hid (Nums w4 (s + 2) (.slice xa3 H.out.length xk3) H.out) := n1.mono Z3.out
  have T4 : Hid (Cy w (w4.setCell ⟨s, 8, none⟩ (.slice xa3 H.out.length xk3)) s #[.slice xa0 H.regs.length xk0, .int .i64 H.pc, .slice xa1 H.csr.length xk1, .bool H.halted, .bool H.waiting, .bool H.rung, .int .i64 H.done, .slice xa2 H.inn.length xk2, .slice xa3 H.out.length xk3]) := S1.put 8 (.slice xa3 H.out.length xk3)
  have H4 : Hid (Ho (s + 2) w4 (w4.setCell ⟨s, 8, none⟩ (.slice xa3 H.out.length xk3))) := Ho.set _ _ _ (by show s < s + 2; omega)
  have Z4 : Hid (s + 2 ≤ (w4.setCell ⟨s, 8, none⟩ (.slice xa3 H.out.length xk3)).heap.size) := by have := T4.out.R.lt; show _ ≤ _; omega
  have Y4 : Hid (w4.heap.size ≤ (w4.setCell ⟨s, 8, none⟩ (.slice xa3 H.out.length xk3)).heap.size) := H4.out.size
  go_wp2_with fail
  have NN : Hid (_ ∧ _) := nine T4.out.R (.slice xa0 H.regs.length xk0) (.int .i64 H.pc) (.slice xa1 H.csr.length xk1) (.bool H.halted) (.bool H.waiting) (.bool H.rung) (.int .i64 H.done) (.slice xa2 H.inn.length xk2) (.slice xa3 H.out.length xk3)
  clear S1 n1 b1 o8 f8 r0 y0 r1 y1 r2 y2 r3 y3 r4 y4 r5 y5 r6 y6 r7 y7 r8 y8 l0 l1 l2 l3 l4 l5 l6 l7
  generalize ((((((((((w4.setCell ⟨s, 8, none⟩ (.slice xa3 H.out.length xk3)).setCell ⟨s + 1, 0, none⟩ (.slice xa0 H.regs.length xk0)).setCell ⟨s + 1, 1, none⟩ (.int .i64 H.pc)).setCell ⟨s + 1, 2, none⟩ (.slice xa1 H.csr.length xk1)).setCell ⟨s + 1, 3, none⟩ (.bool H.halted)).setCell ⟨s + 1, 4, none⟩ (.bool H.waiting)).setCell ⟨s + 1, 5, none⟩ (.bool H.rung)).setCell ⟨s + 1, 6, none⟩ (.int .i64 H.done)).setCell ⟨s + 1, 7, none⟩ (.slice xa2 H.inn.length xk2)).setCell ⟨s + 1, 8, none⟩ (.slice xa3 H.out.length xk3)) = V at *
  generalize (w4.setCell ⟨s, 8, none⟩ (.slice xa3 H.out.length xk3)) = v4 at *
  have H5 : Hid (Ho (s + 2) w4 V) := H4.out.trans (NN.out.2.ho fun k e => by omega)
  have B5 : Hid (Below w.heap.size w V) := Mq.under T4.out.b NN.out.2 fun k e => by have := HSs.out; omega
  have A01 := MB0.out.apt MB1.out Y1.out
  have A02 := MB0.out.apt MB2.out (Nat.le_trans H12.out.size Y2.out)
  have A03 := MB0.out.apt MB3.out (Nat.le_trans (Nat.le_trans H12.out.size H23.out.size) Y3.out)
  have A12 := MB1.out.apt MB2.out Y2.out
  have A13 := MB1.out.apt MB3.out (Nat.le_trans H23.out.size Y3.out)
  have A23 := MB2.out.apt MB3.out Y3.out
  have R0 : Nums V w.heap.size (.slice xa0 H.regs.length xk0) H.regs := (M0.out.ho (H12.out.trans (H23.out.trans (H34.out.trans H5.out)))).mono (by have := HSs.out; omega)
  have R1 : Nums V w.heap.size (.slice xa1 H.csr.length xk1) H.csr := (M1.out.ho (H23.out.trans (H34.out.trans H5.out))).mono (by have := HSs.out; omega)
  have R2 : Nums V w.heap.size (.slice xa2 H.inn.length xk2) H.inn := (M2.out.ho (H34.out.trans H5.out)).mono (by have := HSs.out; omega)
  have R3 : Nums V w.heap.size (.slice xa3 H.out.length xk3) H.out := (M3.out.ho H5.out).mono (by have := HSs.out; omega)
  have x0 := NN.out.1.cell 0 rfl
  have x1 := NN.out.1.cell 1 rfl
  have x2 := NN.out.1.cell 2 rfl
  have x3 := NN.out.1.cell 3 rfl
  have x4 := NN.out.1.cell 4 rfl
  have x5 := NN.out.1.cell 5 rfl
  have x6 := NN.out.1.cell 6 rfl
  have x7 := NN.out.1.cell 7 rfl
  have x8 := NN.out.1.cell 8 rfl
  exact bodyPost_ret (v := .agg #[.slice xa0 H.regs.length xk0, .int .i64 H.pc, .slice xa1 H.csr.length xk1, .bool H.halted, .bool H.waiting, .bool H.rung, .int .i64 H.done, .slice xa2 H.inn.length xk2, .slice xa3 H.out.length xk3]) (by simp [results, Tryz.results40, go_sem, x0, x1, x2, x3, x4, x5, x6, x7, x8]) rfl
    ⟨_, _, _, _, rfl, ⟨R0, R1, R2, R3⟩, ⟨A01, A02, A03, A12, A13, A23⟩, B5.out, v3.heap.size, T3.out.b.size, Nat.le_trans YY.out H5.out.size, MB3.out.ho ⟨H5.out.size, fun k hb hk => H5.out.block k (Nat.le_trans Z3.out hb) hk⟩, fun k e => by
      have h1 := H12.out.size
      have h2 := H23.out.size
      have h3 := Y3.out
      rcases e with e | e | e
      · have := (MB0.out.lt k e).2; omega
      · have := (MB1.out.lt k e).2; omega
      · have := (MB2.out.lt k e).2; omega⟩
set_option maxHeartbeats 1000000 in
theorem spec_copyZ (g cap : Nat) (zs : List Int) (b : Nat) (w : World) (h : Nums w b (.slice (some ⟨g, 0, none⟩) zs.length cap) zs) (hn : zs.length ≤ 1000000) :
    Calls Tryz.prog 39 #[.slice (some ⟨g, 0, none⟩) zs.length cap] w fun e w' => ∃ v, e = .returned v ∧ Nums w' w.heap.size v zs ∧ Below w.heap.size w w' := by
  have HZ : Hid (Nums w b _ zs) := h
  obtain ⟨n, hn2⟩ : ∃ n, zs.length = n := ⟨_, rfl⟩
  rw [hn2] at HZ hn ⊢
  have HL : Hid (zs.length = n ∧ n ≤ 1000000) := ⟨hn2, hn⟩
  clear h hn2 hn
  go_enter Tryz.func39, Tryz.ntmps39
  go_wp2_with (at_builtin; refine wp_append _ rfl _ _ rfl w.heap.size _ _ rfl (nums_none w w.heap.size (Nat.le_refl _)) g n cap zs rfl HL.out.1 (fun i hi => cell_push _ (HZ.out.cell HL.out.1.symm i hi)) (by have := HL.out; simp; omega) (by simp) ?_; intro v' w' hN' hG')
  have N' : Hid (Nums w' w.heap.size v' zs) := by rw [List.nil_append] at hN'; exact hN'
  have B' : Hid (Below w.heap.size w w') := (al (Below.refl _ _) _).grown hG' (by simp) (fun k hk => Nat.le_of_eq (Option.some.inj hk))
  clear hN' hG'
  go_wp2_with fail
  go_ret
  exact ⟨_, rfl, N'.out, B'.out⟩
end Go.Proofs.YtcbcbgomafeccaaGreatDoor
namespace Go.Proofs.YtcbcbgomafeccaaGreatDoor
open Go.RowKit
set_option linter.unusedVariables false

theorem mcr_regs {w : World} {m : Nat} {t : TypeId} {H : Ht} {i o l pg : Value} {ca ri : Int} (h : Vb w m (mcr H i o l pg ca ri) t) (hl : H.regs.length = 16) : Rn w (some ⟨m, 0, none⟩) 16 16 H.regs := by
  refine .inr ⟨_, rfl, Nat.le_refl _, by decide, hl, fun j hj => ?_⟩
  have e : j = 0 ∨ j = 1 ∨ j = 2 ∨ j = 3 ∨ j = 4 ∨ j = 5 ∨ j = 6 ∨ j = 7 ∨ j = 8 ∨ j = 9 ∨ j = 10 ∨ j = 11 ∨ j = 12 ∨ j = 13 ∨ j = 14 ∨ j = 15 := by omega
  rw [Addr.add_mid]
  rcases e with rfl | rfl | rfl | rfl | rfl | rfl | rfl | rfl | rfl | rfl | rfl | rfl | rfl | rfl | rfl | rfl
  · exact h.cell 0 rfl
  · exact h.cell 1 rfl
  · exact h.cell 2 rfl
  · exact h.cell 3 rfl
  · exact h.cell 4 rfl
  · exact h.cell 5 rfl
  · exact h.cell 6 rfl
  · exact h.cell 7 rfl
  · exact h.cell 8 rfl
  · exact h.cell 9 rfl
  · exact h.cell 10 rfl
  · exact h.cell 11 rfl
  · exact h.cell 12 rfl
  · exact h.cell 13 rfl
  · exact h.cell 14 rfl
  · exact h.cell 15 rfl
theorem mcr_csr {w : World} {m : Nat} {t : TypeId} {H : Ht} {i o l pg : Value} {ca ri : Int} (h : Vb w m (mcr H i o l pg ca ri) t) (hl : H.csr.length = 11) : Rn w (some ⟨m, 17, none⟩) 11 11 H.csr := by
  refine .inr ⟨_, rfl, Nat.le_refl _, by decide, hl, fun j hj => ?_⟩
  have e : j = 0 ∨ j = 1 ∨ j = 2 ∨ j = 3 ∨ j = 4 ∨ j = 5 ∨ j = 6 ∨ j = 7 ∨ j = 8 ∨ j = 9 ∨ j = 10 := by omega
  rw [Addr.add_mid]
  rcases e with rfl | rfl | rfl | rfl | rfl | rfl | rfl | rfl | rfl | rfl | rfl
  · exact h.cell 17 rfl
  · exact h.cell 18 rfl
  · exact h.cell 19 rfl
  · exact h.cell 20 rfl
  · exact h.cell 21 rfl
  · exact h.cell 22 rfl
  · exact h.cell 23 rfl
  · exact h.cell 24 rfl
  · exact h.cell 25 rfl
  · exact h.cell 26 rfl
  · exact h.cell 27 rfl

set_option maxRecDepth 20000 in
set_option maxHeartbeats 8000000 in
theorem r_hartr (m : Nat) (i o l pg : Value) (ca ri : Int) (H : Ht) (w : World) (hv : Vb w m (mcr H i o l pg ca ri) 70) (hi : Rv w i H.inn) (ho : Rv w o H.out) (hr : H.regs.length = 16) (hc : H.csr.length = 11) (h2 : H.inn.length ≤ 1000) (h3 : H.out.length ≤ 1000) :
    Calls Tryz.prog 61 #[.pointer (some ⟨m, 0, none⟩)] w fun e w' => ∃ r c i' o', e = .returned (.agg #[r, .int .i64 H.pc, c, .bool H.halted, .bool H.waiting, .bool H.rung, .int .i64 H.done, i', o']) ∧ Hm w' w.heap.size r c i' o' H ∧ Ha r c i' o' ∧ Below w.heap.size w w' := by
  obtain ⟨a2, k2, rfl, hi⟩ := hi
  obtain ⟨a3, k3, rfl, ho⟩ := ho
  have LN : Hid (H.regs.length = 16 ∧ H.csr.length = 11 ∧ H.inn.length ≤ 1000 ∧ H.out.length ≤ 1000) := ⟨hr, hc, h2, h3⟩
  have HI : Hid (Rn w a2 _ k2 H.inn) := hi
  have HO : Hid (Rn w a3 _ k3 H.out) := ho
  have HV : Hid (Vb w m _ 70) := hv
  clear hr hc h2 h3 hi ho hv
  generalize H.inn.length = n2 at *
  generalize H.out.length = n3 at *
  generalize hW : w.alloc (.cells #[.slice none 0 0, .int .i64 0, .slice none 0 0, .bool false, .bool false, .bool false, .int .i64 0, .slice none 0 0, .slice none 0 0] 28) = W
  have B0 : Hid (Below w.heap.size w W) := by show Below _ _ _; rw [← hW]; exact al (Below.refl _ _) _
  obtain ⟨q, hq⟩ : ∃ q, w.heap.size = q := ⟨_, rfl⟩
  have HQ : Hid (w.heap.size = q) := hq
  have VR : Hid (Vb W q #[.slice none 0 0, .int .i64 0, .slice none 0 0, .bool false, .bool false, .bool false, .int .i64 0, .slice none 0 0, .slice none 0 0] 28) := by
    show Vb _ _ _ _; rw [← hW, ← hq]; exact Vb.new _ _ _
  have LT : Hid (q < W.heap.size) := VR.out.lt
  have ML : Hid (m < q) := by show _ < _; rw [← hq]; exact HV.out.lt
  have S0 : Hid (Sj W q W) := ⟨Mq.refl _ _, VR.out.there 9 (by decide)⟩
  have VS : Hid (∀ w', Sj W q w' → Vb w' m (mcr H (.slice a2 n2 k2) (.slice a3 n3 k3) l pg ca ri) 70) := fun w' hs => hs.1.vb (HV.out.keep B0.out) (by have := ML.out; omega)
  have IS : Hid (∀ w', Sj W q w' → Rn w' a2 n2 k2 H.inn) := fun w' hs => HI.out.mq ((Mq.of (below_grown B0.out none) fun k e => by cases e).trans hs.1) fun x e hl f => by have := HQ.out; omega
  have OS : Hid (∀ w', Sj W q w' → Rn w' a3 n3 k3 H.out) := fun w' hs => HO.out.mq ((Mq.of (below_grown B0.out none) fun k e => by cases e).trans hs.1) fun x e hl f => by have := HQ.out; omega
  have q16 : ∀ w', Sj W q w' → w'.cell? ⟨m, 16, none⟩ = some (.int .i64 H.pc) := fun w' hs => (VS.out w' hs).cell 16 rfl
  have q28 : ∀ w', Sj W q w' → w'.cell? ⟨m, 28, none⟩ = some (.bool H.halted) := fun w' hs => (VS.out w' hs).cell 28 rfl
  have q29 : ∀ w', Sj W q w' → w'.cell? ⟨m, 29, none⟩ = some (.bool H.waiting) := fun w' hs => (VS.out w' hs).cell 29 rfl
  have q30 : ∀ w', Sj W q w' → w'.cell? ⟨m, 30, none⟩ = some (.bool H.rung) := fun w' hs => (VS.out w' hs).cell 30 rfl
  have q31 : ∀ w', Sj W q w' → w'.cell? ⟨m, 31, none⟩ = some (.int .i64 H.done) := fun w' hs => (VS.out w' hs).cell 31 rfl
  have q32 : ∀ w', Sj W q w' → w'.cell? ⟨m, 32, none⟩ = some (.slice a2 n2 k2) := fun w' hs => (VS.out w' hs).cell 32 rfl
  have q33 : ∀ w', Sj W q w' → w'.cell? ⟨m, 33, none⟩ = some (.slice a3 n3 k3) := fun w' hs => (VS.out w' hs).cell 33 rfl
  go_enter Tryz.func61, Tryz.ntmps61
  go_wp2_with fail
  clear hW hq
  have SD : Hid (Sj W q W.drew) := S0.out.step LT.out (Below.refl _ _).drew
  refine wp_region_held (S := fun w' => Sj W q w') (by kernel_rfl) ?_
  change wpAnyH _ _ _ _ _ _ _ _ (World.drew _)
  refine wpAnyH_take (i := 0) (v := .pointer (some ⟨m, 0, none⟩)) rfl (by kernel_rfl) (by kernel_rfl) (by kernel_rfl) (fun _ _ _ h => h) (Or.inl ⟨by rfl, fun w' hs => by go_simp⟩) SD.out ?_
  change wpAnyH _ _ _ _ _ _ _ (Act.put _ (some 3) _) _
  simp only [Act.put, List.setIfInBounds_toArray, List.set_cons_zero, List.set_cons_succ]
  refine wpAnyH_take (i := 1) (v := .pointer (some ⟨m, 0, none⟩)) rfl (by kernel_rfl) (by kernel_rfl) (by kernel_rfl) (fun _ _ _ h => h) (Or.inl ⟨by rfl, fun w' hs => by go_simp⟩) SD.out ?_
  change wpAnyH _ _ _ _ _ _ _ (Act.put _ (some 4) _) _
  simp only [Act.put, List.setIfInBounds_toArray, List.set_cons_zero, List.set_cons_succ]
  refine wpAnyH_take (i := 2) (v := .pointer (some ⟨m, 0, none⟩)) rfl (by kernel_rfl) (by kernel_rfl) (by kernel_rfl) (fun _ _ _ h => h) (Or.inl ⟨by rfl, fun w' hs => by go_simp⟩) SD.out ?_
  change wpAnyH _ _ _ _ _ _ _ (Act.put _ (some 5) _) _
  simp only [Act.put, List.setIfInBounds_toArray, List.set_cons_zero, List.set_cons_succ]
  refine wpAnyH_take (i := 3) (v := .pointer (some ⟨m, 0, none⟩)) rfl (by kernel_rfl) (by kernel_rfl) (by kernel_rfl) (fun _ _ _ h => h) (Or.inl ⟨by rfl, fun w' hs => by go_simp⟩) SD.out ?_
  change wpAnyH _ _ _ _ _ _ _ (Act.put _ (some 6) _) _
  simp only [Act.put, List.setIfInBounds_toArray, List.set_cons_zero, List.set_cons_succ]
  refine wpAnyH_take (i := 4) (v := .slice (some ⟨m, 0, none⟩) 16 16) rfl (by kernel_rfl) (by kernel_rfl) (by kernel_rfl) (fun _ _ _ h => h) (Or.inl ⟨by rfl, fun w' hs => by go_simp⟩) SD.out ?_
  change wpAnyH _ _ _ _ _ _ _ (Act.put _ (some 7) _) _
  simp only [Act.put, List.setIfInBounds_toArray, List.set_cons_zero, List.set_cons_succ]
  refine wpAnyH_take (i := 6) (v := .pointer (some ⟨m, 0, none⟩)) rfl (by kernel_rfl) (by kernel_rfl) (by kernel_rfl) (fun _ _ _ h => h) (Or.inl ⟨by rfl, fun w' hs => by go_simp⟩) SD.out ?_
  change wpAnyH _ _ _ _ _ _ _ (Act.put _ (some 9) _) _
  simp only [Act.put, List.setIfInBounds_toArray, List.set_cons_zero, List.set_cons_succ]
  refine wpAnyH_take (i := 7) (v := .pointer (some ⟨m, 0, none⟩)) rfl (by kernel_rfl) (by kernel_rfl) (by kernel_rfl) (fun _ _ _ h => h) (Or.inl ⟨by rfl, fun w' hs => by go_simp⟩) SD.out ?_
  change wpAnyH _ _ _ _ _ _ _ (Act.put _ (some 10) _) _
  simp only [Act.put, List.setIfInBounds_toArray, List.set_cons_zero, List.set_cons_succ]
  refine wpAnyH_take (i := 8) (v := .pointer (some ⟨m, 0, none⟩)) rfl (by kernel_rfl) (by kernel_rfl) (by kernel_rfl) (fun _ _ _ h => h) (Or.inl ⟨by rfl, fun w' hs => by go_simp⟩) SD.out ?_
  change wpAnyH _ _ _ _ _ _ _ (Act.put _ (some 11) _) _
  simp only [Act.put, List.setIfInBounds_toArray, List.set_cons_zero, List.set_cons_succ]
  refine wpAnyH_take (i := 9) (v := .pointer (some ⟨m, 16, none⟩)) rfl (by kernel_rfl) (by kernel_rfl) (by kernel_rfl) (fun _ _ _ h => h) (Or.inl ⟨by rfl, fun w' hs => by go_simp⟩) SD.out ?_
  change wpAnyH _ _ _ _ _ _ _ (Act.put _ (some 12) _) _
  simp only [Act.put, List.setIfInBounds_toArray, List.set_cons_zero, List.set_cons_succ]
  refine wpAnyH_take (i := 10) (v := .int .i64 H.pc) rfl (by kernel_rfl) (by kernel_rfl) (by kernel_rfl) (fun _ _ _ h => h) (Or.inl ⟨by rfl, fun w' hs => by go_simp⟩) SD.out ?_
  change wpAnyH _ _ _ _ _ _ _ (Act.put _ (some 13) _) _
  simp only [Act.put, List.setIfInBounds_toArray, List.set_cons_zero, List.set_cons_succ]
  refine wpAnyH_take (i := 11) (v := .pointer (some ⟨m, 0, none⟩)) rfl (by kernel_rfl) (by kernel_rfl) (by kernel_rfl) (fun _ _ _ h => h) (Or.inl ⟨by rfl, fun w' hs => by go_simp⟩) SD.out ?_
  change wpAnyH _ _ _ _ _ _ _ (Act.put _ (some 14) _) _
  simp only [Act.put, List.setIfInBounds_toArray, List.set_cons_zero, List.set_cons_succ]
  refine wpAnyH_take (i := 12) (v := .pointer (some ⟨m, 0, none⟩)) rfl (by kernel_rfl) (by kernel_rfl) (by kernel_rfl) (fun _ _ _ h => h) (Or.inl ⟨by rfl, fun w' hs => by go_simp⟩) SD.out ?_
  change wpAnyH _ _ _ _ _ _ _ (Act.put _ (some 15) _) _
  simp only [Act.put, List.setIfInBounds_toArray, List.set_cons_zero, List.set_cons_succ]
  refine wpAnyH_take (i := 13) (v := .pointer (some ⟨m, 0, none⟩)) rfl (by kernel_rfl) (by kernel_rfl) (by kernel_rfl) (fun _ _ _ h => h) (Or.inl ⟨by rfl, fun w' hs => by go_simp⟩) SD.out ?_
  change wpAnyH _ _ _ _ _ _ _ (Act.put _ (some 16) _) _
  simp only [Act.put, List.setIfInBounds_toArray, List.set_cons_zero, List.set_cons_succ]
  refine wpAnyH_take (i := 14) (v := .pointer (some ⟨m, 17, none⟩)) rfl (by kernel_rfl) (by kernel_rfl) (by kernel_rfl) (fun _ _ _ h => h) (Or.inl ⟨by rfl, fun w' hs => by go_simp⟩) SD.out ?_
  change wpAnyH _ _ _ _ _ _ _ (Act.put _ (some 17) _) _
  simp only [Act.put, List.setIfInBounds_toArray, List.set_cons_zero, List.set_cons_succ]
  refine wpAnyH_take (i := 15) (v := .slice (some ⟨m, 17, none⟩) 11 11) rfl (by kernel_rfl) (by kernel_rfl) (by kernel_rfl) (fun _ _ _ h => h) (Or.inl ⟨by rfl, fun w' hs => by go_simp⟩) SD.out ?_
  change wpAnyH _ _ _ _ _ _ _ (Act.put _ (some 18) _) _
  simp only [Act.put, List.setIfInBounds_toArray, List.set_cons_zero, List.set_cons_succ]
  refine wpAnyH_take (i := 17) (v := .pointer (some ⟨m, 0, none⟩)) rfl (by kernel_rfl) (by kernel_rfl) (by kernel_rfl) (fun _ _ _ h => h) (Or.inl ⟨by rfl, fun w' hs => by go_simp⟩) SD.out ?_
  change wpAnyH _ _ _ _ _ _ _ (Act.put _ (some 20) _) _
  simp only [Act.put, List.setIfInBounds_toArray, List.set_cons_zero, List.set_cons_succ]
  refine wpAnyH_take (i := 18) (v := .pointer (some ⟨m, 0, none⟩)) rfl (by kernel_rfl) (by kernel_rfl) (by kernel_rfl) (fun _ _ _ h => h) (Or.inl ⟨by rfl, fun w' hs => by go_simp⟩) SD.out ?_
  change wpAnyH _ _ _ _ _ _ _ (Act.put _ (some 21) _) _
  simp only [Act.put, List.setIfInBounds_toArray, List.set_cons_zero, List.set_cons_succ]
  refine wpAnyH_take (i := 19) (v := .pointer (some ⟨m, 28, none⟩)) rfl (by kernel_rfl) (by kernel_rfl) (by kernel_rfl) (fun _ _ _ h => h) (Or.inl ⟨by rfl, fun w' hs => by go_simp⟩) SD.out ?_
  change wpAnyH _ _ _ _ _ _ _ (Act.put _ (some 22) _) _
  simp only [Act.put, List.setIfInBounds_toArray, List.set_cons_zero, List.set_cons_succ]
  refine wpAnyH_take (i := 20) (v := .bool H.halted) rfl (by kernel_rfl) (by kernel_rfl) (by kernel_rfl) (fun _ _ _ h => h) (Or.inl ⟨by rfl, fun w' hs => by go_simp⟩) SD.out ?_
  change wpAnyH _ _ _ _ _ _ _ (Act.put _ (some 23) _) _
  simp only [Act.put, List.setIfInBounds_toArray, List.set_cons_zero, List.set_cons_succ]
  refine wpAnyH_take (i := 21) (v := .pointer (some ⟨m, 0, none⟩)) rfl (by kernel_rfl) (by kernel_rfl) (by kernel_rfl) (fun _ _ _ h => h) (Or.inl ⟨by rfl, fun w' hs => by go_simp⟩) SD.out ?_
  change wpAnyH _ _ _ _ _ _ _ (Act.put _ (some 24) _) _
  simp only [Act.put, List.setIfInBounds_toArray, List.set_cons_zero, List.set_cons_succ]
  refine wpAnyH_take (i := 22) (v := .pointer (some ⟨m, 0, none⟩)) rfl (by kernel_rfl) (by kernel_rfl) (by kernel_rfl) (fun _ _ _ h => h) (Or.inl ⟨by rfl, fun w' hs => by go_simp⟩) SD.out ?_
  change wpAnyH _ _ _ _ _ _ _ (Act.put _ (some 25) _) _
  simp only [Act.put, List.setIfInBounds_toArray, List.set_cons_zero, List.set_cons_succ]
  refine wpAnyH_take (i := 23) (v := .pointer (some ⟨m, 29, none⟩)) rfl (by kernel_rfl) (by kernel_rfl) (by kernel_rfl) (fun _ _ _ h => h) (Or.inl ⟨by rfl, fun w' hs => by go_simp⟩) SD.out ?_
  change wpAnyH _ _ _ _ _ _ _ (Act.put _ (some 26) _) _
  simp only [Act.put, List.setIfInBounds_toArray, List.set_cons_zero, List.set_cons_succ]
  refine wpAnyH_take (i := 24) (v := .bool H.waiting) rfl (by kernel_rfl) (by kernel_rfl) (by kernel_rfl) (fun _ _ _ h => h) (Or.inl ⟨by rfl, fun w' hs => by go_simp⟩) SD.out ?_
  change wpAnyH _ _ _ _ _ _ _ (Act.put _ (some 27) _) _
  simp only [Act.put, List.setIfInBounds_toArray, List.set_cons_zero, List.set_cons_succ]
  refine wpAnyH_take (i := 25) (v := .pointer (some ⟨m, 0, none⟩)) rfl (by kernel_rfl) (by kernel_rfl) (by kernel_rfl) (fun _ _ _ h => h) (Or.inl ⟨by rfl, fun w' hs => by go_simp⟩) SD.out ?_
  change wpAnyH _ _ _ _ _ _ _ (Act.put _ (some 28) _) _
  simp only [Act.put, List.setIfInBounds_toArray, List.set_cons_zero, List.set_cons_succ]
  refine wpAnyH_take (i := 26) (v := .pointer (some ⟨m, 0, none⟩)) rfl (by kernel_rfl) (by kernel_rfl) (by kernel_rfl) (fun _ _ _ h => h) (Or.inl ⟨by rfl, fun w' hs => by go_simp⟩) SD.out ?_
  change wpAnyH _ _ _ _ _ _ _ (Act.put _ (some 29) _) _
  simp only [Act.put, List.setIfInBounds_toArray, List.set_cons_zero, List.set_cons_succ]
  refine wpAnyH_take (i := 27) (v := .pointer (some ⟨m, 30, none⟩)) rfl (by kernel_rfl) (by kernel_rfl) (by kernel_rfl) (fun _ _ _ h => h) (Or.inl ⟨by rfl, fun w' hs => by go_simp⟩) SD.out ?_
  change wpAnyH _ _ _ _ _ _ _ (Act.put _ (some 30) _) _
  simp only [Act.put, List.setIfInBounds_toArray, List.set_cons_zero, List.set_cons_succ]
  refine wpAnyH_take (i := 28) (v := .bool H.rung) rfl (by kernel_rfl) (by kernel_rfl) (by kernel_rfl) (fun _ _ _ h => h) (Or.inl ⟨by rfl, fun w' hs => by go_simp⟩) SD.out ?_
  change wpAnyH _ _ _ _ _ _ _ (Act.put _ (some 31) _) _
  simp only [Act.put, List.setIfInBounds_toArray, List.set_cons_zero, List.set_cons_succ]
  refine wpAnyH_take (i := 29) (v := .pointer (some ⟨m, 0, none⟩)) rfl (by kernel_rfl) (by kernel_rfl) (by kernel_rfl) (fun _ _ _ h => h) (Or.inl ⟨by rfl, fun w' hs => by go_simp⟩) SD.out ?_
  change wpAnyH _ _ _ _ _ _ _ (Act.put _ (some 32) _) _
  simp only [Act.put, List.setIfInBounds_toArray, List.set_cons_zero, List.set_cons_succ]
  refine wpAnyH_take (i := 30) (v := .pointer (some ⟨m, 0, none⟩)) rfl (by kernel_rfl) (by kernel_rfl) (by kernel_rfl) (fun _ _ _ h => h) (Or.inl ⟨by rfl, fun w' hs => by go_simp⟩) SD.out ?_
  change wpAnyH _ _ _ _ _ _ _ (Act.put _ (some 33) _) _
  simp only [Act.put, List.setIfInBounds_toArray, List.set_cons_zero, List.set_cons_succ]
  refine wpAnyH_take (i := 31) (v := .pointer (some ⟨m, 31, none⟩)) rfl (by kernel_rfl) (by kernel_rfl) (by kernel_rfl) (fun _ _ _ h => h) (Or.inl ⟨by rfl, fun w' hs => by go_simp⟩) SD.out ?_
  change wpAnyH _ _ _ _ _ _ _ (Act.put _ (some 34) _) _
  simp only [Act.put, List.setIfInBounds_toArray, List.set_cons_zero, List.set_cons_succ]
  refine wpAnyH_take (i := 32) (v := .int .i64 H.done) rfl (by kernel_rfl) (by kernel_rfl) (by kernel_rfl) (fun _ _ _ h => h) (Or.inl ⟨by rfl, fun w' hs => by go_simp⟩) SD.out ?_
  change wpAnyH _ _ _ _ _ _ _ (Act.put _ (some 35) _) _
  simp only [Act.put, List.setIfInBounds_toArray, List.set_cons_zero, List.set_cons_succ]
  refine wpAnyH_take (i := 33) (v := .pointer (some ⟨m, 0, none⟩)) rfl (by kernel_rfl) (by kernel_rfl) (by kernel_rfl) (fun _ _ _ h => h) (Or.inl ⟨by rfl, fun w' hs => by go_simp⟩) SD.out ?_
  change wpAnyH _ _ _ _ _ _ _ (Act.put _ (some 36) _) _
  simp only [Act.put, List.setIfInBounds_toArray, List.set_cons_zero, List.set_cons_succ]
  refine wpAnyH_take (i := 34) (v := .pointer (some ⟨m, 0, none⟩)) rfl (by kernel_rfl) (by kernel_rfl) (by kernel_rfl) (fun _ _ _ h => h) (Or.inl ⟨by rfl, fun w' hs => by go_simp⟩) SD.out ?_
  change wpAnyH _ _ _ _ _ _ _ (Act.put _ (some 37) _) _
  simp only [Act.put, List.setIfInBounds_toArray, List.set_cons_zero, List.set_cons_succ]
  refine wpAnyH_take (i := 35) (v := .pointer (some ⟨m, 32, none⟩)) rfl (by kernel_rfl) (by kernel_rfl) (by kernel_rfl) (fun _ _ _ h => h) (Or.inl ⟨by rfl, fun w' hs => by go_simp⟩) SD.out ?_
  change wpAnyH _ _ _ _ _ _ _ (Act.put _ (some 38) _) _
  simp only [Act.put, List.setIfInBounds_toArray, List.set_cons_zero, List.set_cons_succ]
  refine wpAnyH_take (i := 36) (v := .slice a2 n2 k2) rfl (by kernel_rfl) (by kernel_rfl) (by kernel_rfl) (fun _ _ _ h => h) (Or.inl ⟨by rfl, fun w' hs => by go_simp⟩) SD.out ?_
  change wpAnyH _ _ _ _ _ _ _ (Act.put _ (some 39) _) _
  simp only [Act.put, List.setIfInBounds_toArray, List.set_cons_zero, List.set_cons_succ]
  refine wpAnyH_take (i := 38) (v := .pointer (some ⟨m, 0, none⟩)) rfl (by kernel_rfl) (by kernel_rfl) (by kernel_rfl) (fun _ _ _ h => h) (Or.inl ⟨by rfl, fun w' hs => by go_simp⟩) SD.out ?_
  change wpAnyH _ _ _ _ _ _ _ (Act.put _ (some 41) _) _
  simp only [Act.put, List.setIfInBounds_toArray, List.set_cons_zero, List.set_cons_succ]
  refine wpAnyH_take (i := 39) (v := .pointer (some ⟨m, 0, none⟩)) rfl (by kernel_rfl) (by kernel_rfl) (by kernel_rfl) (fun _ _ _ h => h) (Or.inl ⟨by rfl, fun w' hs => by go_simp⟩) SD.out ?_
  change wpAnyH _ _ _ _ _ _ _ (Act.put _ (some 42) _) _
  simp only [Act.put, List.setIfInBounds_toArray, List.set_cons_zero, List.set_cons_succ]
  refine wpAnyH_take (i := 40) (v := .pointer (some ⟨m, 33, none⟩)) rfl (by kernel_rfl) (by kernel_rfl) (by kernel_rfl) (fun _ _ _ h => h) (Or.inl ⟨by rfl, fun w' hs => by go_simp⟩) SD.out ?_
  change wpAnyH _ _ _ _ _ _ _ (Act.put _ (some 43) _) _
  simp only [Act.put, List.setIfInBounds_toArray, List.set_cons_zero, List.set_cons_succ]
  refine wpAnyH_take (i := 41) (v := .slice a3 n3 k3) rfl (by kernel_rfl) (by kernel_rfl) (by kernel_rfl) (fun _ _ _ h => h) (Or.inl ⟨by rfl, fun w' hs => by go_simp⟩) SD.out ?_
  change wpAnyH _ _ _ _ _ _ _ (Act.put _ (some 44) _) _
  simp only [Act.put, List.setIfInBounds_toArray, List.set_cons_zero, List.set_cons_succ]
  refine wpAnyH_ready (rs := [5]) (by kernel_rfl) (by simp) ?_
  refine AllReadyH.cons rfl (fun K hK => ?_) AllReadyH.nil
  rw [if_pos (by rfl)]
  go_simp
  refine (i_clone (some ⟨m, 0, none⟩) 16 16 H.regs _ (mcr_regs (VS.out _ SD.out) LN.out.1) (by decide)).mono ?_
  rintro e w1 ⟨v1, rfl, m1, b1⟩
  obtain ⟨xa1, xk1, rfl, _⟩ := m1.shape
  have S1 : Hid (Sj W q w1) := SD.out.step LT.out b1
  have N1 : Hid (Nums w1 W.drew.heap.size (.slice xa1 H.regs.length xk1) H.regs) := m1
  have G1 : Hid (W.drew.heap.size ≤ w1.heap.size) := b1.size
  clear m1 b1
  refine hK.out _ _ S1.out (fun _ => ?_)
  clear hK K
  refine wpAnyH_ready (rs := [16]) (by kernel_rfl) (by simp) ?_
  refine AllReadyH.cons rfl (fun K hK => ?_) AllReadyH.nil
  rw [if_pos (by rfl)]
  go_simp
  refine (i_clone (some ⟨m, 17, none⟩) 11 11 H.csr _ (mcr_csr (VS.out _ S1.out) LN.out.2.1) (by decide)).mono ?_
  rintro e w2 ⟨v2, rfl, m1, b1⟩
  obtain ⟨xa2, xk2, rfl, _⟩ := m1.shape
  have S2 : Hid (Sj W q w2) := S1.out.step LT.out b1
  have N2 : Hid (Nums w2 w1.heap.size (.slice xa2 H.csr.length xk2) H.csr) := m1
  have G2 : Hid (w1.heap.size ≤ w2.heap.size) := b1.size
  have H2 : Hid (Ho W.heap.size w1 w2) := Ho.of b1
  clear m1 b1
  refine hK.out _ _ S2.out (fun _ => ?_)
  clear hK K
  refine wpAnyH_ready (rs := [37]) (by kernel_rfl) (by simp) ?_
  refine AllReadyH.cons rfl (fun K hK => ?_) AllReadyH.nil
  rw [if_pos (by rfl)]
  go_simp
  refine (i_clone a2 n2 k2 H.inn _ (IS.out _ S2.out) (by have := LN.out.2.2.1; omega)).mono ?_
  rintro e w3 ⟨v3, rfl, m1, b1⟩
  obtain ⟨xa3, xk3, rfl, _⟩ := m1.shape
  have S3 : Hid (Sj W q w3) := S2.out.step LT.out b1
  have N3 : Hid (Nums w3 w2.heap.size (.slice xa3 H.inn.length xk3) H.inn) := m1
  have G3 : Hid (w2.heap.size ≤ w3.heap.size) := b1.size
  have H3 : Hid (Ho W.heap.size w2 w3) := Ho.of b1
  clear m1 b1
  refine hK.out _ _ S3.out (fun _ => ?_)
  clear hK K
  refine wpAnyH_ready (rs := [42]) (by kernel_rfl) (by simp) ?_
  refine AllReadyH.cons rfl (fun K hK => ?_) AllReadyH.nil
  rw [if_pos (by rfl)]
  go_simp
  refine (i_clone a3 n3 k3 H.out _ (OS.out _ S3.out) (by have := LN.out.2.2.2; omega)).mono ?_
  rintro e w4 ⟨v4, rfl, m1, b1⟩
  obtain ⟨xa4, xk4, rfl, _⟩ := m1.shape
  have S4 : Hid (Sj W q w4) := S3.out.step LT.out b1
  have N4 : Hid (Nums w4 w3.heap.size (.slice xa4 H.out.length xk4) H.out) := m1
  have G4 : Hid (w3.heap.size ≤ w4.heap.size) := b1.size
  have H4 : Hid (Ho W.heap.size w3 w4) := Ho.of b1
  clear m1 b1
  refine hK.out _ _ S4.out (fun _ => ?_)
  clear hK K
  refine wpAnyH_take (i := 43) (v := .agg #[.slice xa1 H.regs.length xk1, .int .i64 H.pc, .slice xa2 H.csr.length xk2, .bool H.halted, .bool H.waiting, .bool H.rung, .int .i64 H.done, .slice xa3 H.inn.length xk3, .slice xa4 H.out.length xk4]) rfl (by kernel_rfl) (by kernel_rfl) (by kernel_rfl) (fun _ _ _ h => h) (Or.inl ⟨by rfl, fun w' hs => by go_simp⟩) S4.out ?_
  change wpAnyH _ _ _ _ _ _ _ (Act.put _ (some 46) _) _
  simp only [Act.put, List.setIfInBounds_toArray, List.set_cons_zero, List.set_cons_succ]
  refine wpAnyH_ready (rs := [44]) (by kernel_rfl) (by simp) ?_
  refine AllReadyH.cons rfl (fun K hK => ?_) AllReadyH.nil
  rw [if_pos (by rfl)]
  refine wp_store_mid 28 (.tmp 2) (.tmp 46) rfl q 0 #[.slice xa1 H.regs.length xk1, .int .i64 H.pc, .slice xa2 H.csr.length xk2, .bool H.halted, .bool H.waiting, .bool H.rung, .int .i64 H.done, .slice xa3 H.inn.length xk3, .slice xa4 H.out.length xk4] rfl rfl S4.out.2 (by kernel_rfl) (by simp [Value.oneCell']) ?_
  change K (Act.put _ none undef) (World.setCells w4 q 0 [.slice xa1 H.regs.length xk1, .int .i64 H.pc, .slice xa2 H.csr.length xk2, .bool H.halted, .bool H.waiting, .bool H.rung, .int .i64 H.done, .slice xa3 H.inn.length xk3, .slice xa4 H.out.length xk4])
  simp only [Act.put]
  have S5 : Hid (Sj W q (w4.setCells q 0 [.slice xa1 H.regs.length xk1, .int .i64 H.pc, .slice xa2 H.csr.length xk2, .bool H.halted, .bool H.waiting, .bool H.rung, .int .i64 H.done, .slice xa3 H.inn.length xk3, .slice xa4 H.out.length xk4])) := S4.out.set _
  have R5 : Hid ((w4.setCells q 0 [.slice xa1 H.regs.length xk1, .int .i64 H.pc, .slice xa2 H.csr.length xk2, .bool H.halted, .bool H.waiting, .bool H.rung, .int .i64 H.done, .slice xa3 H.inn.length xk3, .slice xa4 H.out.length xk4]).rangeAt q 0 [.slice xa1 H.regs.length xk1, .int .i64 H.pc, .slice xa2 H.csr.length xk2, .bool H.halted, .bool H.waiting, .bool H.rung, .int .i64 H.done, .slice xa3 H.inn.length xk3, .slice xa4 H.out.length xk4]) := World.rangeAt_setCells_same _ _ _ _ S4.out.2
  have H5 : Hid (Ho W.heap.size w4 (w4.setCells q 0 [.slice xa1 H.regs.length xk1, .int .i64 H.pc, .slice xa2 H.csr.length xk2, .bool H.halted, .bool H.waiting, .bool H.rung, .int .i64 H.done, .slice xa3 H.inn.length xk3, .slice xa4 H.out.length xk4])) := (mq_cells q _ w4 0).ho fun k e => by have := LT.out; omega
  generalize w4.setCells q 0 [.slice xa1 H.regs.length xk1, .int .i64 H.pc, .slice xa2 H.csr.length xk2, .bool H.halted, .bool H.waiting, .bool H.rung, .int .i64 H.done, .slice xa3 H.inn.length xk3, .slice xa4 H.out.length xk4] = w5 at *
  refine hK.out _ _ S5.out (fun _ => ?_)
  clear hK K
  refine wpAnyH_done (by kernel_rfl) ?_ _
  have E1 : W.heap.size ≤ w1.heap.size := S1.out.1.size
  have E2 : W.heap.size ≤ w2.heap.size := S2.out.1.size
  have E3 : W.heap.size ≤ w3.heap.size := S3.out.1.size
  have Q1 : Nums w5 W.heap.size (.slice xa1 H.regs.length xk1) H.regs := Nums.ho (show Nums w1 W.heap.size _ H.regs from N1.out) (H2.out.trans (H3.out.trans (H4.out.trans H5.out)))
  have Q2 : Nums w5 W.heap.size (.slice xa2 H.csr.length xk2) H.csr := (N2.out.mono E1).ho (H3.out.trans (H4.out.trans H5.out))
  have Q3 : Nums w5 W.heap.size (.slice xa3 H.inn.length xk3) H.inn := (N3.out.mono E2).ho (H4.out.trans H5.out)
  have Q4 : Nums w5 W.heap.size (.slice xa4 H.out.length xk4) H.out := (N4.out.mono E3).ho H5.out
  have A12 := N1.out.apt N2.out (Nat.le_refl _)
  have A13 := N1.out.apt N3.out G2.out
  have A14 := N1.out.apt N4.out (Nat.le_trans G2.out G3.out)
  have A23 := N2.out.apt N3.out (Nat.le_refl _)
  have A24 := N2.out.apt N4.out G3.out
  have A34 := N3.out.apt N4.out (Nat.le_refl _)
  have B5 : Below w.heap.size w w5 := Mq.under B0.out S5.out.1 fun k e => by have := HQ.out; omega
  have LD := run_loadVar_mid (P := Tryz.prog) w5 q 0 28 [.slice xa1 H.regs.length xk1, .int .i64 H.pc, .slice xa2 H.csr.length xk2, .bool H.halted, .bool H.waiting, .bool H.rung, .int .i64 H.done, .slice xa3 H.inn.length xk3, .slice xa4 H.out.length xk4] _ R5.out Tryz.underlying28 rfl (by kernel_rfl)
  clear q16 q28 q29 q30 q31 q32 q33
  go_wp2_with fail
  exact bodyPost_ret (v := .agg #[.slice xa1 H.regs.length xk1, .int .i64 H.pc, .slice xa2 H.csr.length xk2, .bool H.halted, .bool H.waiting, .bool H.rung, .int .i64 H.done, .slice xa3 H.inn.length xk3, .slice xa4 H.out.length xk4]) (by simp [results, Tryz.results61, asAddr]; rw [LD]) rfl
    ⟨_, _, _, _, rfl, ⟨Q1.mono B0.out.size, Q2.mono B0.out.size, Q3.mono B0.out.size, Q4.mono B0.out.size⟩, ⟨A12, A13, A14, A23, A24, A34⟩, B5⟩
end Go.Proofs.YtcbcbgomafeccaaGreatDoor
namespace Go.Proofs.YtcbcbgomafeccaaGreatDoor
open Go.RowKit
set_option linter.unusedVariables false

/-- Where the parts of a bus lie. -/
structure Bp where
  base : Nat
  q : Nat
  rg : Nat
  rk : Nat
  cg : Nat
  ck : Nat
  gm : Nat
  mc : Nat
  pg : Nat
  pc : Nat
  p : Nat
  ps : List (Int × Int)
  kx : Option (Nat × Array Value × TypeId)
def busC (B : Bp) (i o : Value) (H : Ht) (ri fa : Int) : Array Value := #[.slice (some ⟨B.pg, 0, none⟩) 8 B.pc, .slice (some ⟨B.gm, 0, none⟩) (B.p * 8) B.mc, .int .i64 ri, .slice (some ⟨B.rg, 0, none⟩) 16 B.rk, .int .i64 H.pc, .slice (some ⟨B.cg, 0, none⟩) 11 B.ck, .bool H.halted, .bool H.waiting, .bool H.rung, .int .i64 H.done, i, o, .int .i64 fa]
/-- A bus in memory; what it may turn lies from base on. -/
structure Bs (w : World) (B : Bp) (i o : Value) (zs : List Int) (H : Ht) (ri fa : Int) : Prop where
  v : Vb w B.q (busC B i o H ri fa) 53
  hr : Nums w B.base (.slice (some ⟨B.rg, 0, none⟩) 16 B.rk) H.regs
  hc : Nums w B.base (.slice (some ⟨B.cg, 0, none⟩) 11 B.ck) H.csr
  hm : Nums w B.base (.slice (some ⟨B.gm, 0, none⟩) (B.p * 8) B.mc) zs
  hi : Rv w i H.inn
  ho : ∃ bo, B.base ≤ bo ∧ bo ≤ w.heap.size ∧ Nums w bo o H.out ∧ B.rg < bo ∧ B.cg < bo ∧ B.gm < bo ∧ ∀ k, i.ownBlock = some k → k < bo
  ib : ∀ k, i.ownBlock = some k → B.base ≤ k ∧ k < w.heap.size ∧ k ≠ B.rg ∧ k ≠ B.cg ∧ k ≠ B.gm ∧ k ≠ B.q
  rc : B.rg ≠ B.cg
  rm : B.rg ≠ B.gm
  cm : B.cg ≠ B.gm
  ls : Prs 55 w 0 (.slice (some ⟨B.pg, 0, none⟩) 8 B.pc) B.ps
  lb : B.pg < B.base
  qb : B.base ≤ B.q
  kp : ∀ x cs t, B.kx = some (x, cs, t) → Vb w x cs t ∧ t ≠ 2 ∧ x ≠ B.q ∧ i.ownBlock ≠ some x
theorem Bs.size {w : World} {B : Bp} {i o : Value} {zs : List Int} {H : Ht} {ri fa : Int} (h : Bs w B i o zs H ri fa) : B.base ≤ w.heap.size := by have := h.v.lt; have := h.qb; omega
theorem Bs.qr {w : World} {B : Bp} {i o : Value} {zs : List Int} {H : Ht} {ri fa : Int} (h : Bs w B i o zs H ri fa) : B.q ≠ B.rg := fun e => h.hr.ne_vb (t := 53) h.v (by decide) (by rw [e]; rfl)
theorem Bs.qc {w : World} {B : Bp} {i o : Value} {zs : List Int} {H : Ht} {ri fa : Int} (h : Bs w B i o zs H ri fa) : B.q ≠ B.cg := fun e => h.hc.ne_vb (t := 53) h.v (by decide) (by rw [e]; rfl)
theorem Bs.qm {w : World} {B : Bp} {i o : Value} {zs : List Int} {H : Ht} {ri fa : Int} (h : Bs w B i o zs H ri fa) : B.q ≠ B.gm := fun e => h.hm.ne_vb (t := 53) h.v (by decide) (by rw [e]; rfl)
theorem Bs.qo {w : World} {B : Bp} {i o : Value} {zs : List Int} {H : Ht} {ri fa : Int} (h : Bs w B i o zs H ri fa) : o.ownBlock ≠ some B.q := by obtain ⟨bo, b1, b2, b3, b4⟩ := h.ho; exact b3.ne_vb (t := 53) h.v (by decide)
theorem Bs.ob {w : World} {B : Bp} {i o : Value} {zs : List Int} {H : Ht} {ri fa : Int} (h : Bs w B i o zs H ri fa) : ∀ k, o.ownBlock = some k → B.base ≤ k ∧ k ≠ B.rg ∧ k ≠ B.cg ∧ k ≠ B.gm ∧ i.ownBlock ≠ some k := by
  intro k e
  obtain ⟨bo, b1, b2, b3, b4, b5, b6, b7⟩ := h.ho
  have := (b3.lt k e).1
  exact ⟨by omega, by omega, by omega, by omega, fun f => by have := b7 k f; omega⟩
/-- A block that is kept is none of the bus's. -/
theorem Bs.kne {w : World} {B : Bp} {i o : Value} {zs : List Int} {H : Ht} {ri fa : Int} (h : Bs w B i o zs H ri fa) {x : Nat} {cs : Array Value} {t : TypeId} (e : B.kx = some (x, cs, t)) : x ≠ B.rg ∧ x ≠ B.cg ∧ x ≠ B.gm ∧ o.ownBlock ≠ some x := by
  obtain ⟨k1, k2, k3, k4⟩ := h.kp x cs t e
  obtain ⟨bo, b1, b2, b3, b4⟩ := h.ho
  exact ⟨fun f => h.hr.ne_vb k1 k2 (by rw [f]; rfl), fun f => h.hc.ne_vb k1 k2 (by rw [f]; rfl), fun f => h.hm.ne_vb k1 k2 (by rw [f]; rfl), b3.ne_vb k1 k2⟩
theorem Bs.keep {w w' : World} {B : Bp} {i o : Value} {zs : List Int} {H : Ht} {ri fa : Int} (h : Bs w B i o zs H ri fa) (b : Below w.heap.size w w') : Bs w' B i o zs H ri fa :=
  ⟨h.v.keep b, h.hr.keep b, h.hc.keep b, h.hm.keep b, h.hi.stay b, by obtain ⟨bo, b1, b2, b3, b4⟩ := h.ho; exact ⟨bo, b1, Nat.le_trans b2 b.size, b3.keep b, b4⟩, fun k e => by obtain ⟨a1, a2, a3⟩ := h.ib k e; exact ⟨a1, Nat.lt_of_lt_of_le a2 b.size, a3⟩, h.rc, h.rm, h.cm, h.ls.keep b, h.lb, h.qb, fun x cs t e => ⟨(h.kp x cs t e).1.keep b, (h.kp x cs t e).2⟩⟩
theorem Bs.dr {w : World} {B : Bp} {i o : Value} {zs : List Int} {H : Ht} {ri fa : Int} (h : Bs w B i o zs H ri fa) : Bs w.drew B i o zs H ri fa := h.keep (Below.refl _ _).drew
theorem own_some {g n c : Nat} {k : Nat} (e : (Value.slice (some ⟨g, 0, none⟩) n c).ownBlock = some k) : k = g := by have : g = k := (by simpa [Value.ownBlock] using e); omega
theorem Bs.stay {S : Nat → Prop} {w w' : World} {B : Bp} {i o : Value} {zs : List Int} {H : Ht} {ri fa : Int} (h : Bs w B i o zs H ri fa) (m : Mq S w w') (hS : ∀ k, S k → B.base ≤ k) : Below B.base w w' ∧ Prs 55 w' 0 (.slice (some ⟨B.pg, 0, none⟩) 8 B.pc) B.ps := by
  have L := m.low (base := B.base) hS h.size
  exact ⟨L, h.ls.low (fun k e => by have := own_some e; have := h.lb; omega) L⟩
/-- The bus's own cells turned, its lists as they were. -/
theorem Bs.upd {w w' : World} {B : Bp} {i o : Value} {zs : List Int} {H G : Ht} {ri fa ri' fa' : Int} (h : Bs w B i o zs H ri fa) (v : Vb w' B.q (busC B i o G ri' fa') 53) (m : Mq (fun j => j = B.q) w w') (er : G.regs = H.regs) (ec : G.csr = H.csr) (ei : G.inn = H.inn) (eo : G.out = H.out) : Bs w' B i o zs G ri' fa' ∧ Below B.base w w' := by
  obtain ⟨L, hl⟩ := h.stay m (fun k e => by have := h.qb; omega)
  refine ⟨⟨v, ?_, ?_, m.nums h.hm fun k e f => by have := own_some e; exact h.qm (by omega), ?_, ?_, fun k e => by obtain ⟨a1, a2, a3⟩ := h.ib k e; exact ⟨a1, Nat.lt_of_lt_of_le a2 m.size, a3⟩, h.rc, h.rm, h.cm, hl, h.lb, h.qb, fun x cs t e => ⟨m.vb (h.kp x cs t e).1 ((h.kp x cs t e).2.2.1), (h.kp x cs t e).2⟩⟩, L⟩
  · rw [er]; exact m.nums h.hr fun k e f => by have := own_some e; exact h.qr (by omega)
  · rw [ec]; exact m.nums h.hc fun k e f => by have := own_some e; exact h.qc (by omega)
  · rw [ei]; exact h.hi.mq m fun k e _ f => (h.ib k e).2.2.2.2.2 f
  · rw [eo]; obtain ⟨bo, b1, b2, b3, b4⟩ := h.ho; exact ⟨bo, b1, Nat.le_trans b2 m.size, m.nums b3 fun k e f => h.qo (by rw [e, f]), b4⟩
/-- A cell of the bus itself. -/
theorem Bs.fld {w : World} {B : Bp} {i o : Value} {zs : List Int} {H G : Ht} {ri fa ri' fa' : Int} (h : Bs w B i o zs H ri fa) (n : Nat) (u : Value) (hb : (busC B i o H ri fa).setIfInBounds n u = busC B i o G ri' fa') (er : G.regs = H.regs) (ec : G.csr = H.csr) (ei : G.inn = H.inn) (eo : G.out = H.out) : Bs (w.setCell ⟨B.q, n, none⟩ u) B i o zs G ri' fa' ∧ Below B.base w (w.setCell ⟨B.q, n, none⟩ u) :=
  h.upd (by rw [← hb]; exact h.v.set n u) ((Mq.refl _ _).set ⟨B.q, n, none⟩ u rfl) er ec ei eo
theorem Bs.csr {w : World} {B : Bp} {i o : Value} {zs : List Int} {H : Ht} {ri fa : Int} (h : Bs w B i o zs H ri fa) (n : Nat) (u : Int) : Bs (w.setCell ⟨B.cg, n, none⟩ (.int .i64 u)) B i o zs { H with csr := H.csr.set n u } ri fa ∧ Below B.base w (w.setCell ⟨B.cg, n, none⟩ (.int .i64 u)) := by
  have m : Mq (fun j => j = B.cg) w (w.setCell ⟨B.cg, n, none⟩ (.int .i64 u)) := (Mq.refl _ _).set ⟨B.cg, n, none⟩ _ rfl
  obtain ⟨L, hl⟩ := h.stay m (fun k e => by have := (h.hc.lt B.cg rfl).1; omega)
  exact ⟨⟨m.vb h.v h.qc, m.nums h.hr fun k e f => by have := own_some e; exact h.rc (by omega), (h.hc.store n u).1, m.nums h.hm fun k e f => by have := own_some e; exact h.cm (by omega), h.hi.mq m fun k e _ f => (h.ib k e).2.2.2.1 f, by obtain ⟨bo, b1, b2, b3, b4⟩ := h.ho; exact ⟨bo, b1, Nat.le_trans b2 m.size, m.nums b3 fun k e f => (h.ob k e).2.2.1 f, b4⟩, fun k e => by obtain ⟨a1, a2, a3⟩ := h.ib k e; exact ⟨a1, Nat.lt_of_lt_of_le a2 m.size, a3⟩, h.rc, h.rm, h.cm, hl, h.lb, h.qb, fun x cs t e => ⟨m.vb (h.kp x cs t e).1 ((h.kne e).2.1), (h.kp x cs t e).2⟩⟩, L⟩
theorem Bs.reg {w : World} {B : Bp} {i o : Value} {zs : List Int} {H : Ht} {ri fa : Int} (h : Bs w B i o zs H ri fa) (n : Nat) (u : Int) : Bs (w.setCell ⟨B.rg, n, none⟩ (.int .i64 u)) B i o zs { H with regs := H.regs.set n u } ri fa ∧ Below B.base w (w.setCell ⟨B.rg, n, none⟩ (.int .i64 u)) := by
  have m : Mq (fun j => j = B.rg) w (w.setCell ⟨B.rg, n, none⟩ (.int .i64 u)) := (Mq.refl _ _).set ⟨B.rg, n, none⟩ _ rfl
  obtain ⟨L, hl⟩ := h.stay m (fun k e => by have := (h.hr.lt B.rg rfl).1; omega)
  exact ⟨⟨m.vb h.v h.qr, (h.hr.store n u).1, m.nums h.hc fun k e f => by have := own_some e; exact h.rc (by omega), m.nums h.hm fun k e f => by have := own_some e; exact h.rm (by omega), h.hi.mq m fun k e _ f => (h.ib k e).2.2.1 f, by obtain ⟨bo, b1, b2, b3, b4⟩ := h.ho; exact ⟨bo, b1, Nat.le_trans b2 m.size, m.nums b3 fun k e f => (h.ob k e).2.1 f, b4⟩, fun k e => by obtain ⟨a1, a2, a3⟩ := h.ib k e; exact ⟨a1, Nat.lt_of_lt_of_le a2 m.size, a3⟩, h.rc, h.rm, h.cm, hl, h.lb, h.qb, fun x cs t e => ⟨m.vb (h.kp x cs t e).1 ((h.kne e).1), (h.kp x cs t e).2⟩⟩, L⟩
theorem Bs.memo {w : World} {B : Bp} {i o : Value} {zs : List Int} {H : Ht} {ri fa : Int} (h : Bs w B i o zs H ri fa) (n : Nat) (u : Int) : Bs (w.setCell ⟨B.gm, n, none⟩ (.int .i64 u)) B i o (zs.set n u) H ri fa ∧ Below B.base w (w.setCell ⟨B.gm, n, none⟩ (.int .i64 u)) := by
  have m : Mq (fun j => j = B.gm) w (w.setCell ⟨B.gm, n, none⟩ (.int .i64 u)) := (Mq.refl _ _).set ⟨B.gm, n, none⟩ _ rfl
  obtain ⟨L, hl⟩ := h.stay m (fun k e => by have := (h.hm.lt B.gm rfl).1; omega)
  exact ⟨⟨m.vb h.v h.qm, m.nums h.hr fun k e f => by have := own_some e; exact h.rm (by omega), m.nums h.hc fun k e f => by have := own_some e; exact h.cm (by omega), (h.hm.store n u).1, h.hi.mq m fun k e _ f => (h.ib k e).2.2.2.2.1 f, by obtain ⟨bo, b1, b2, b3, b4⟩ := h.ho; exact ⟨bo, b1, Nat.le_trans b2 m.size, m.nums b3 fun k e f => (h.ob k e).2.2.2.1 f, b4⟩, fun k e => by obtain ⟨a1, a2, a3⟩ := h.ib k e; exact ⟨a1, Nat.lt_of_lt_of_le a2 m.size, a3⟩, h.rc, h.rm, h.cm, hl, h.lb, h.qb, fun x cs t e => ⟨m.vb (h.kp x cs t e).1 ((h.kne e).2.2.1), (h.kp x cs t e).2⟩⟩, L⟩
/-- What was taken of the queue that is read. -/
theorem Bs.inn {w : World} {B : Bp} {i i' o : Value} {zs : List Int} {H G : Ht} {ri fa : Int} (h : Bs w B i o zs H ri fa) (hb : (busC B i o H ri fa).setIfInBounds 10 i' = busC B i' o G ri fa) (r : Rv w i' G.inn) (sub : ∀ k, i'.ownBlock = some k → i.ownBlock = some k) (er : G.regs = H.regs) (ec : G.csr = H.csr) (eo : G.out = H.out) : Bs (w.setCell ⟨B.q, 10, none⟩ i') B i' o zs G ri fa ∧ Below B.base w (w.setCell ⟨B.q, 10, none⟩ i') := by
  have m : Mq (fun j => j = B.q) w (w.setCell ⟨B.q, 10, none⟩ i') := (Mq.refl _ _).set ⟨B.q, 10, none⟩ i' rfl
  obtain ⟨L, hl⟩ := h.stay m (fun k e => by have := h.qb; omega)
  refine ⟨⟨by rw [← hb]; exact h.v.set 10 i', ?_, ?_, m.nums h.hm fun k e f => by have := own_some e; exact h.qm (by omega), r.mq m fun k e _ f => (h.ib k (sub k e)).2.2.2.2.2 f, ?_, fun k e => by obtain ⟨a1, a2, a3⟩ := h.ib k (sub k e); exact ⟨a1, Nat.lt_of_lt_of_le a2 m.size, a3⟩, h.rc, h.rm, h.cm, hl, h.lb, h.qb, fun x cs t e => ⟨m.vb (h.kp x cs t e).1 ((h.kp x cs t e).2.2.1), (h.kp x cs t e).2.1, (h.kp x cs t e).2.2.1, fun f => (h.kp x cs t e).2.2.2 (sub x f)⟩⟩, L⟩
  · rw [er]; exact m.nums h.hr fun k e f => by have := own_some e; exact h.qr (by omega)
  · rw [ec]; exact m.nums h.hc fun k e f => by have := own_some e; exact h.qc (by omega)
  · rw [eo]; obtain ⟨bo, b1, b2, b3, b4, b5, b6, b7⟩ := h.ho; exact ⟨bo, b1, Nat.le_trans b2 m.size, m.nums b3 fun k e f => h.qo (by rw [e, f]), b4, b5, b6, fun k e => b7 k (sub k e)⟩
/-- A word behind what was written out: the queue grown, and then its field. -/
theorem Bs.outn {w w' : World} {B : Bp} {i o o' : Value} {zs : List Int} {H G : Ht} {ri fa : Int} (h : Bs w B i o zs H ri fa) (g : w.grownBy w' o.ownBlock) (bo : Nat) (c1 : B.base ≤ bo) (c2 : bo ≤ w.heap.size) (c3 : B.rg < bo ∧ B.cg < bo ∧ B.gm < bo ∧ ∀ k, i.ownBlock = some k → k < bo) (r : Nums w' bo o' G.out) (hb : (busC B i o H ri fa).setIfInBounds 11 o' = busC B i o' G ri fa) (er : G.regs = H.regs) (ec : G.csr = H.csr) (ei : G.inn = H.inn) : Bs (w'.setCell ⟨B.q, 11, none⟩ o') B i o' zs G ri fa ∧ Below B.base w (w'.setCell ⟨B.q, 11, none⟩ o') := by
  have m1 : Mq (fun j => o.ownBlock = some j) w w' := Mq.of g fun k e => e.symm
  have m2 : Mq (fun j => j = B.q) w' (w'.setCell ⟨B.q, 11, none⟩ o') := (Mq.refl _ _).set ⟨B.q, 11, none⟩ o' rfl
  have m : Mq (fun j => o.ownBlock = some j ∨ j = B.q) w (w'.setCell ⟨B.q, 11, none⟩ o') := ⟨m2.os.trans m1.os, m2.tape.trans m1.tape, m2.output.trans m1.output, Nat.le_trans m1.size m2.size, fun k hk hs => (m2.block k (Nat.lt_of_lt_of_le hk m1.size) fun e => hs (.inr e)).trans (m1.block k hk fun e => hs (.inl e))⟩
  obtain ⟨L, hl⟩ := h.stay m (fun k e => by
    rcases e with e | e
    · exact (h.ob k e).1
    · have := h.qb; omega)
  have hv : Vb w' B.q (busC B i o H ri fa) 53 := m1.vb h.v h.qo
  refine ⟨⟨by rw [← hb]; exact hv.set 11 o', ?_, ?_, m.nums h.hm fun k e f => by
      have := own_some e
      rcases f with f | f
      · exact (h.ob k f).2.2.2.1 (by omega)
      · exact h.qm (by omega), ?_, ⟨bo, c1, Nat.le_trans c2 m.size, m2.nums r fun k e f => ?_, c3⟩, fun k e => by obtain ⟨a1, a2, a3⟩ := h.ib k e; exact ⟨a1, Nat.lt_of_lt_of_le a2 m.size, a3⟩, h.rc, h.rm, h.cm, hl, h.lb, h.qb, fun x cs t e => ⟨m.vb (h.kp x cs t e).1 (fun f => f.elim (h.kne e).2.2.2 (h.kp x cs t e).2.2.1), (h.kp x cs t e).2⟩⟩, L⟩
  · rw [er]; exact m.nums h.hr fun k e f => by
      have := own_some e
      rcases f with f | f
      · exact (h.ob k f).2.1 (by omega)
      · exact h.qr (by omega)
  · rw [ec]; exact m.nums h.hc fun k e f => by
      have := own_some e
      rcases f with f | f
      · exact (h.ob k f).2.2.1 (by omega)
      · exact h.qc (by omega)
  · rw [ei]; exact h.hi.mq m fun k e _ f => by
      rcases f with f | f
      · exact (h.ob k f).2.2.2.2 e
      · exact (h.ib k e).2.2.2.2.2 f
  · exact r.ne_vb (t := 53) hv (by decide) (by rw [e, f])
/-- A block that is kept from now on. -/
theorem Bs.kept {w : World} {B : Bp} {i o : Value} {zs : List Int} {H : Ht} {ri fa : Int} (h : Bs w B i o zs H ri fa) (x : Nat) (cs : Array Value) (t : TypeId) (v : Vb w x cs t) (ht : t ≠ 2) (hx : x ≠ B.q) (hi : i.ownBlock ≠ some x) : Bs w { B with kx := some (x, cs, t) } i o zs H ri fa :=
  ⟨h.v, h.hr, h.hc, h.hm, h.hi, h.ho, h.ib, h.rc, h.rm, h.cm, h.ls, h.lb, h.qb, fun x' cs' t' e => by cases e; exact ⟨v, ht, hx, hi⟩⟩
/-- The kept block's cell turned. -/
theorem Bs.kset {w : World} {B : Bp} {i o : Value} {zs : List Int} {H : Ht} {ri fa : Int} (h : Bs w B i o zs H ri fa) (x : Nat) (cs : Array Value) (t : TypeId) (hk : B.kx = some (x, cs, t)) (hb : B.base ≤ x) (n : Nat) (u : Value) : Bs (w.setCell ⟨x, n, none⟩ u) { B with kx := some (x, cs.setIfInBounds n u, t) } i o zs H ri fa ∧ Below B.base w (w.setCell ⟨x, n, none⟩ u) := by
  obtain ⟨k1, k2, k3, k4⟩ := h.kp x cs t hk
  have kn := h.kne hk
  have m : Mq (fun j => j = x) w (w.setCell ⟨x, n, none⟩ u) := (Mq.refl _ _).set ⟨x, n, none⟩ u rfl
  obtain ⟨L, hl⟩ := h.stay m (fun k e => by omega)
  refine ⟨⟨m.vb h.v fun e => k3 e.symm, m.nums h.hr fun k e f => by have := own_some e; exact kn.1 ((show k = x from f).symm.trans this), m.nums h.hc fun k e f => by have := own_some e; exact kn.2.1 ((show k = x from f).symm.trans this), m.nums h.hm fun k e f => by have := own_some e; exact kn.2.2.1 ((show k = x from f).symm.trans this), h.hi.mq m fun k e hlt f => ?_, by obtain ⟨bo, b1, b2, b3, b4⟩ := h.ho; exact ⟨bo, b1, Nat.le_trans b2 m.size, m.nums b3 fun k e f => kn.2.2.2 (by rw [e, f]), b4⟩, fun k e => by obtain ⟨a1, a2, a3⟩ := h.ib k e; exact ⟨a1, Nat.lt_of_lt_of_le a2 m.size, a3⟩, h.rc, h.rm, h.cm, hl, h.lb, h.qb, fun x' cs' t' e => by cases e; exact ⟨k1.set n u, k2, k3, k4⟩⟩, L⟩
  exact k4 (by rw [e, f])
end Go.Proofs.YtcbcbgomafeccaaGreatDoor
namespace Go.Proofs.YtcbcbgomafeccaaGreatDoor
open Go.RowKit
set_option linter.unusedVariables false

theorem to_S {P : Program} {fn : Func} {R : Ending → World → Prop} {R' : Ending → FrameMode → World → Prop} {c₀ : Frame} {cs cs' : List Frame} {u : FrameMode} (hc : cs' = { c₀ with mode := u } :: cs) (hR : ∀ e w, R e w → R' e u w) (e : Exit) (a : Act) (w : World) (h : bodyPost P fn R e a w) : bodyPostS P fn c₀ cs R' e a cs' w := by
  cases e with
  | normal => obtain ⟨h1, v, h2, h3⟩ := h; exact ⟨h1, u, hc, v, h2, hR _ _ h3⟩
  | ret => obtain ⟨h1, v, h2, h3⟩ := h; exact ⟨h1, u, hc, v, h2, hR _ _ h3⟩
  | panic ch => obtain ⟨h1, h3⟩ := h; exact ⟨h1, u, hc, hR _ _ h3⟩
  | outgrown => exact ⟨u, hR _ _ h⟩
  | exit id => exact h
  | goto l => exact h
set_option maxRecDepth 20000 in
set_option maxHeartbeats 2000000 in
theorem c_idle (b : Nat) (w : World) : CallsD Tryz.prog 54 #[.pointer (some ⟨b, 0, none⟩)] .returning w fun e u' w' => e = .returned (.tuple #[]) ∧ u' = .returning ∧ w' = w := by
  have hn : ∀ w, (binOp .eql 20 .nilIface .nilIface).run Tryz.prog w = .ok (.bool true) w := fun w => by kernel_rfl
  refine callsD_of_wpS Tryz.func54 rfl fun c₀ cs hu => ?_
  apply wpS_seq
  generalize hC : Code.block 0 _ = C
  apply wpS_region
  simp [wpOpsS, go_sem, recoverD, hu, Tryz.ntmps54, Exit.thenS]
  rw [← hC]
  clear hC
  refine wpS_of_wp (Code.wp_mono (to_S (R := fun e w' => e = .returned (.tuple #[]) ∧ w' = w) (u := .returning) (by rw [← hu]) (fun e w h => ⟨h.1, rfl, h.2⟩)) ?_)
  clear hu
  have hT : (#[Value.pointer (some ⟨b, 0, none⟩)] ++ (Array.replicate 22 undef).setIfInBounds 3 (.nilIface)) = #[.pointer (some ⟨b, 0, none⟩), undef, undef, undef, .nilIface, undef, undef, undef, undef, undef, undef, undef, undef, undef, undef, undef, undef, undef, undef, undef, undef, undef, undef] := by simp [Array.replicate]
  rw [hT]
  clear hT
  go_wp2_with fail
  go_end0
  exact ⟨rfl, rfl⟩
theorem mq_cell {S : Nat → Prop} {w w' : World} {k j : Nat} {v : Value} (m : Mq S w w') (h : w.cell? ⟨k, j, none⟩ = some v) (hn : ¬ S k) : w'.cell? ⟨k, j, none⟩ = some v := by
  have hk := block_of_cell h
  unfold World.cell? at h ⊢
  rw [m.block k hk hn]
  exact h
set_option maxRecDepth 20000 in
set_option maxHeartbeats 4000000 in
theorem c_panic {w : World} {base q : Nat} {i o : Value} {pg pc : Nat} {ps : List (Int × Int)} {g p : Nat} {zs : List Int} {X : Nat → Prop} {H : Ht} {ca ri : Int} (R : Rw w base q i o pg pc ps g p zs H ca ri X) (b : Nat) (hb : w.cell? ⟨b, 0, none⟩ = some (.pointer (some ⟨q, 0, none⟩))) (hbq : b ≠ q) (c t : Int) (h0 : 0 ≤ c) (h31 : c ≤ 31) (ht : isW t = true) :
    CallsD Tryz.prog 54 #[.pointer (some ⟨b, 0, none⟩)] (.panicking [{ v := .iface 92 (.agg #[.int .i64 c, .int .i64 t]), recovered := false }]) w fun e u' w' => e = .returned (.tuple #[]) ∧ u' = .panicking [{ v := .iface 92 (.agg #[.int .i64 c, .int .i64 t]), recovered := true }] ∧ Rw w' base q i o pg pc ps g p zs (trapV H c t) c ri X ∧ Below base w w' := by
  have hn : ∀ w, (binOp .eql 20 (.iface 92 (.agg #[.int .i64 c, .int .i64 t])) .nilIface).run Tryz.prog w = .ok (.bool false) w := fun w => by kernel_rfl
  have ha : ∀ w, (Instr.typeAssert (.iface 92 (.agg #[.int .i64 c, .int .i64 t])) 20 92 true).run Tryz.prog w = .ok (.tuple #[.agg #[.int .i64 c, .int .i64 t], .bool true]) w := fun w => by kernel_rfl
  have HR : Hid (Rw w base q i o pg pc ps g p zs H ca ri X) := R
  have HT : Hid (0 ≤ c ∧ c ≤ 31 ∧ isW t = true) := ⟨h0, h31, ht⟩
  have HB : Hid (w.cell? ⟨b, 0, none⟩ = some (.pointer (some ⟨q, 0, none⟩)) ∧ b ≠ q) := ⟨hb, hbq⟩
  clear R h0 h31 ht hb hbq
  refine callsD_of_wpS Tryz.func54 rfl fun c₀ cs hu => ?_
  apply wpS_seq
  generalize hC : Code.block 0 _ = C
  apply wpS_region
  simp [wpOpsS, go_sem, recoverD, hu, Tryz.ntmps54, Exit.thenS]
  rw [← hC]
  clear hC
  refine wpS_of_wp (Code.wp_mono (to_S (R := fun e w' => e = .returned (.tuple #[]) ∧ Rw w' base q i o pg pc ps g p zs (trapV H c t) c ri X ∧ Below base w w') (u := .panicking [{ v := .iface 92 (.agg #[.int .i64 c, .int .i64 t]), recovered := true }]) rfl (fun e w h => ⟨h.1, rfl, h.2⟩)) ?_)
  clear hu
  have hT : (#[Value.pointer (some ⟨b, 0, none⟩)] ++ (Array.replicate 22 undef).setIfInBounds 3 (.iface 92 (.agg #[.int .i64 c, .int .i64 t]))) = #[.pointer (some ⟨b, 0, none⟩), undef, undef, undef, .iface 92 (.agg #[.int .i64 c, .int .i64 t]), undef, undef, undef, undef, undef, undef, undef, undef, undef, undef, undef, undef, undef, undef, undef, undef, undef, undef] := by simp [Array.replicate]
  rw [hT]
  clear hT
  go_upto_region 7 with fail
  clear hn ha
  generalize hW : w.alloc (.cells #[.int .i64 c, .int .i64 t] 92) = W1
  obtain ⟨n, hn⟩ : ∃ n, w.heap.size = n := ⟨_, rfl⟩
  rw [hn]
  have VN : Hid (Vb W1 n #[.int .i64 c, .int .i64 t] 92) := by show Vb _ _ _ _; rw [← hW, ← hn]; exact Vb.new _ _ _
  have bb : Below w.heap.size w W1 := by rw [← hW]; exact al (Below.refl _ _) _
  have R1 : Hid (Rw W1 base q i o pg pc ps g p zs H ca ri X) := HR.out.keep bb
  have B1 : Hid (Below base w W1) := bless bb HR.out.size
  have CB : Hid (W1.cell? ⟨b, 0, none⟩ = some (.pointer (some ⟨q, 0, none⟩))) := cell_keep bb HB.out.1
  have NQ : Hid (n ≠ q ∧ n ≠ b) := ⟨by have := HR.out.v.lt; omega, by have h2 : b < w.heap.size := block_of_cell HB.out.1; omega⟩
  clear hW hn bb
  have S0 : Hid (Vb W1.drew n #[.int .i64 c, .int .i64 t] 92 ∧ W1.drew.cell? ⟨b, 0, none⟩ = some (.pointer (some ⟨q, 0, none⟩))) := ⟨VN.out, CB.out⟩
  have R0 : Hid (Rw W1.drew base q i o pg pc ps g p zs H ca ri X) := R1.out.keep (Below.refl _ _).drew
  have B0 : Hid (Below base w W1.drew) := B1.out.drew
  refine wp_region_held (S := fun w' => Vb w' n #[.int .i64 c, .int .i64 t] 92 ∧ w'.cell? ⟨b, 0, none⟩ = some (.pointer (some ⟨q, 0, none⟩))) (by kernel_rfl) ?_
  change wpAnyH _ _ _ _ _ _ _ _ (World.drew _)
  generalize W1.drew = x0 at *
  refine wpAnyH_take (i := 0) (v := .pointer (some ⟨q, 0, none⟩)) rfl (by kernel_rfl) (by kernel_rfl) (by kernel_rfl) (fun _ _ _ h => h) (Or.inl ⟨by rfl, fun w' hs => by have hc := hs.2; go_simp⟩) S0.out ?_
  change wpAnyH _ _ _ _ _ _ _ (Act.put _ (some 10) _) _
  simp only [Act.put, List.setIfInBounds_toArray, List.set_cons_zero, List.set_cons_succ]
  refine wpAnyH_take (i := 1) (v := .pointer (some ⟨q, 0, none⟩)) rfl (by kernel_rfl) (by kernel_rfl) (by kernel_rfl) (fun _ _ _ h => h) (Or.inl ⟨by rfl, fun w' hs => by go_simp⟩) S0.out ?_
  change wpAnyH _ _ _ _ _ _ _ (Act.put _ (some 11) _) _
  simp only [Act.put, List.setIfInBounds_toArray, List.set_cons_zero, List.set_cons_succ]
  refine wpAnyH_take (i := 2) (v := .pointer (some ⟨q, 0, none⟩)) rfl (by kernel_rfl) (by kernel_rfl) (by kernel_rfl) (fun _ _ _ h => h) (Or.inl ⟨by rfl, fun w' hs => by go_simp⟩) S0.out ?_
  change wpAnyH _ _ _ _ _ _ _ (Act.put _ (some 12) _) _
  simp only [Act.put, List.setIfInBounds_toArray, List.set_cons_zero, List.set_cons_succ]
  refine wpAnyH_take (i := 3) (v := .pointer (some ⟨n, 0, none⟩)) rfl (by kernel_rfl) (by kernel_rfl) (by kernel_rfl) (fun _ _ _ h => h) (Or.inl ⟨by rfl, fun w' hs => by go_simp⟩) S0.out ?_
  change wpAnyH _ _ _ _ _ _ _ (Act.put _ (some 13) _) _
  simp only [Act.put, List.setIfInBounds_toArray, List.set_cons_zero, List.set_cons_succ]
  refine wpAnyH_take (i := 4) (v := .int .i64 c) rfl (by kernel_rfl) (by kernel_rfl) (by kernel_rfl) (fun _ _ _ h => h) (Or.inl ⟨by rfl, fun w' hs => by have hc := (hs.1.cell 0 rfl : w'.cell? ⟨n, 0, none⟩ = some (.int .i64 c)); go_simp⟩) S0.out ?_
  change wpAnyH _ _ _ _ _ _ _ (Act.put _ (some 14) _) _
  simp only [Act.put, List.setIfInBounds_toArray, List.set_cons_zero, List.set_cons_succ]
  refine wpAnyH_take (i := 5) (v := .pointer (some ⟨n, 1, none⟩)) rfl (by kernel_rfl) (by kernel_rfl) (by kernel_rfl) (fun _ _ _ h => h) (Or.inl ⟨by rfl, fun w' hs => by go_simp⟩) S0.out ?_
  change wpAnyH _ _ _ _ _ _ _ (Act.put _ (some 15) _) _
  simp only [Act.put, List.setIfInBounds_toArray, List.set_cons_zero, List.set_cons_succ]
  refine wpAnyH_take (i := 6) (v := .int .i64 t) rfl (by kernel_rfl) (by kernel_rfl) (by kernel_rfl) (fun _ _ _ h => h) (Or.inl ⟨by rfl, fun w' hs => by have hc := (hs.1.cell 1 rfl : w'.cell? ⟨n, 1, none⟩ = some (.int .i64 t)); go_simp⟩) S0.out ?_
  change wpAnyH _ _ _ _ _ _ _ (Act.put _ (some 16) _) _
  simp only [Act.put, List.setIfInBounds_toArray, List.set_cons_zero, List.set_cons_succ]
  refine wpAnyH_ready (rs := [7]) (by kernel_rfl) (by simp) ?_
  refine AllReadyH.cons rfl (fun K hK => ?_) AllReadyH.nil
  rw [if_pos (by rfl)]
  go_simp
  have s := stand_parts.1 HR.out.sn.hok.st
  refine (r_trap q i o _ _ ca ri H c t x0 R0.out.v HR.out.sn.hok.c11 (all_at HR.out.sn.hok.cw 0).1 s.1).mono ?_
  clear s
  rintro e x1 ⟨rfl, v2, m2⟩
  have U : Hid (Rw x1 base q i o pg pc ps g p zs (trapV H c t) ca ri X ∧ Below base x0 x1) := R0.out.upd v2 m2 rfl rfl (trapV_hok HR.out.sn.hok c t HT.out.1 HT.out.2.1 HT.out.2.2)
  have S1 : Hid (Vb x1 n #[.int .i64 c, .int .i64 t] 92 ∧ x1.cell? ⟨b, 0, none⟩ = some (.pointer (some ⟨q, 0, none⟩))) := ⟨m2.vb S0.out.1 fun e => NQ.out.1 e, mq_cell m2 S0.out.2 HB.out.2⟩
  clear v2 m2
  refine hK.out _ _ S1.out (fun _ => ?_)
  clear hK K
  refine wpAnyH_done (by kernel_rfl) ?_ _
  have c36 := U.out.1.v.cell 36 rfl
  have f36 := U.out.1.v.free 36
  have n0 := S1.out.1.cell 0 rfl
  have cb := S1.out.2
  have V2 := U.out.1.v.set 36 (.int .i64 c)
  have U2 : Hid (Rw (x1.setCell ⟨q, 36, none⟩ (.int .i64 c)) base q i o pg pc ps g p zs (trapV H c t) c ri X ∧ Below base x1 (x1.setCell ⟨q, 36, none⟩ (.int .i64 c))) := U.out.1.upd (G := trapV H c t) (ca' := c) (ri' := ri) V2 ((Mq.refl _ _).set ⟨q, 36, none⟩ _ rfl) rfl rfl U.out.1.sn.hok
  clear V2
  go_wp2_with fail
  go_end0
  exact ⟨rfl, U2.out.1, B0.out.trans (U.out.2.trans U2.out.2)⟩
end Go.Proofs.YtcbcbgomafeccaaGreatDoor
namespace Go.Proofs.YtcbcbgomafeccaaGreatDoor
open Go.RowKit
set_option linter.unusedVariables false

set_option maxRecDepth 20000 in
set_option maxHeartbeats 8000000 in
theorem z_pending {w : World} {B : Bp} {i o : Value} {zs : List Int} {H : Ht} {ri fa : Int} (R : Bs w B i o zs H ri fa) :
    Calls Tryz.prog 43 #[.pointer (some ⟨B.q, 3, none⟩)] w fun e w' => e = .returned (.int .i64 (pendV H)) ∧ Below w.heap.size w w' := by
  obtain ⟨a2, k2, rfl, hri⟩ := R.hi
  have hl : (H.inn.length : Int) ≤ 9223372036854775807 := by have := hri.cap; unfold maxLen at this; omega
  obtain ⟨z9, h9⟩ : ∃ z, gt H.csr 9 = z := ⟨_, rfl⟩
  obtain ⟨d, hd⟩ : ∃ z, H.done = z := ⟨_, rfl⟩
  obtain ⟨n2, hn2⟩ : ∃ z, H.inn.length = z := ⟨_, rfl⟩
  have Z9 : Hid (gt H.csr 9 = z9 ∧ H.done = d ∧ H.inn.length = n2) := ⟨h9, hd, hn2⟩
  have c9 : w.cell? ⟨B.cg, 9, none⟩ = some (.int .i64 z9) := by rw [← h9]; exact R.hc.cell R.hc.len 9 (by decide)
  have cd : w.cell? ⟨B.q, 9, none⟩ = some (.int .i64 d) := by rw [← hd]; exact R.v.cell 9 rfl
  have cr : w.cell? ⟨B.q, 8, none⟩ = some (.bool H.rung) := R.v.cell 8 rfl
  have ci : w.cell? ⟨B.q, 10, none⟩ = some (.slice a2 n2 k2) := by rw [← hn2]; exact R.v.cell 10 rfl
  have cs : w.cell? ⟨B.q, 5, none⟩ = some (.slice (some ⟨B.cg, 0, none⟩) 11 B.ck) := R.v.cell 5 rfl
  rw [hn2] at hl
  clear R hri
  clear h9 hd hn2
  by_cases h0 : z9 = 0
  · have PA : Hid ((if gt H.csr 9 ≠ 0 ∧ gt H.csr 9 ≤ H.done then (1 : Int) else 0) = 0) := by show _ = _; rw [Z9.out.1, if_neg (fun k => k.1 h0)]
    subst h0
    cases hru : H.rung
    · have PB : Hid ((if H.rung then (2 : Int) else 0) = 0) := by show _ = _; rw [hru]; rfl
      rw [hru] at cr
      by_cases hn : 0 < n2
      · have PC : Hid ((if 0 < H.inn.length then (4 : Int) else 0) = 4) := by show _ = _; rw [Z9.out.2.2, if_pos hn]
        have hI : (0 : Int) < (n2 : Int) := by omega
        go_enter Tryz.func43, Tryz.ntmps43
        go_wp2_with fail
        go_quiet (fail)
        go_wp2_with fail
        go_ret
        exact ⟨ret_i ((by decide : (4 : Int) = 0 + 0 + 4).trans (pend_eq H 0 0 4 PA.out PB.out PC.out)), dr (Below.refl _ _) _⟩
      · have PC : Hid ((if 0 < H.inn.length then (4 : Int) else 0) = 0) := by show _ = _; rw [Z9.out.2.2, if_neg hn]
        have hI : ¬ (0 : Int) < (n2 : Int) := by omega
        go_enter Tryz.func43, Tryz.ntmps43
        go_wp2_with fail
        go_quiet (fail)
        go_wp2_with fail
        go_ret
        exact ⟨ret_i ((by decide : (0 : Int) = 0 + 0 + 0).trans (pend_eq H 0 0 0 PA.out PB.out PC.out)), dr (Below.refl _ _) _⟩
    · have PB : Hid ((if H.rung then (2 : Int) else 0) = 2) := by show _ = _; rw [hru]; rfl
      rw [hru] at cr
      by_cases hn : 0 < n2
      · have PC : Hid ((if 0 < H.inn.length then (4 : Int) else 0) = 4) := by show _ = _; rw [Z9.out.2.2, if_pos hn]
        have hI : (0 : Int) < (n2 : Int) := by omega
        go_enter Tryz.func43, Tryz.ntmps43
        go_wp2_with fail
        go_quiet (fail)
        go_wp2_with fail
        go_ret
        exact ⟨ret_i ((by decide : (6 : Int) = 0 + 2 + 4).trans (pend_eq H 0 2 4 PA.out PB.out PC.out)), dr (Below.refl _ _) _⟩
      · have PC : Hid ((if 0 < H.inn.length then (4 : Int) else 0) = 0) := by show _ = _; rw [Z9.out.2.2, if_neg hn]
        have hI : ¬ (0 : Int) < (n2 : Int) := by omega
        go_enter Tryz.func43, Tryz.ntmps43
        go_wp2_with fail
        go_quiet (fail)
        go_wp2_with fail
        go_ret
        exact ⟨ret_i ((by decide : (2 : Int) = 0 + 2 + 0).trans (pend_eq H 0 2 0 PA.out PB.out PC.out)), dr (Below.refl _ _) _⟩
  have hI0 : (z9 != 0) = true := by simp [h0]
  by_cases h1 : z9 ≤ d
  · have PA : Hid ((if gt H.csr 9 ≠ 0 ∧ gt H.csr 9 ≤ H.done then (1 : Int) else 0) = 1) := by show _ = _; rw [Z9.out.1, Z9.out.2.1, if_pos ⟨h0, h1⟩]
    cases hru : H.rung
    · have PB : Hid ((if H.rung then (2 : Int) else 0) = 0) := by show _ = _; rw [hru]; rfl
      rw [hru] at cr
      by_cases hn : 0 < n2
      · have PC : Hid ((if 0 < H.inn.length then (4 : Int) else 0) = 4) := by show _ = _; rw [Z9.out.2.2, if_pos hn]
        have hI : (0 : Int) < (n2 : Int) := by omega
        go_enter Tryz.func43, Tryz.ntmps43
        go_wp2_with fail
        go_quiet (fail)
        go_wp2_with fail
        go_ret
        exact ⟨ret_i ((by decide : (5 : Int) = 1 + 0 + 4).trans (pend_eq H 1 0 4 PA.out PB.out PC.out)), dr (Below.refl _ _) _⟩
      · have PC : Hid ((if 0 < H.inn.length then (4 : Int) else 0) = 0) := by show _ = _; rw [Z9.out.2.2, if_neg hn]
        have hI : ¬ (0 : Int) < (n2 : Int) := by omega
        go_enter Tryz.func43, Tryz.ntmps43
        go_wp2_with fail
        go_quiet (fail)
        go_wp2_with fail
        go_ret
        exact ⟨ret_i ((by decide : (1 : Int) = 1 + 0 + 0).trans (pend_eq H 1 0 0 PA.out PB.out PC.out)), dr (Below.refl _ _) _⟩
    · have PB : Hid ((if H.rung then (2 : Int) else 0) = 2) := by show _ = _; rw [hru]; rfl
      rw [hru] at cr
      by_cases hn : 0 < n2
      · have PC : Hid ((if 0 < H.inn.length then (4 : Int) else 0) = 4) := by show _ = _; rw [Z9.out.2.2, if_pos hn]
        have hI : (0 : Int) < (n2 : Int) := by omega
        go_enter Tryz.func43, Tryz.ntmps43
        go_wp2_with fail
        go_quiet (fail)
        go_wp2_with fail
        go_ret
        exact ⟨ret_i ((by decide : (7 : Int) = 1 + 2 + 4).trans (pend_eq H 1 2 4 PA.out PB.out PC.out)), dr (Below.refl _ _) _⟩
      · have PC : Hid ((if 0 < H.inn.length then (4 : Int) else 0) = 0) := by show _ = _; rw [Z9.out.2.2, if_neg hn]
        have hI : ¬ (0 : Int) < (n2 : Int) := by omega
        go_enter Tryz.func43, Tryz.ntmps43
        go_wp2_with fail
        go_quiet (fail)
        go_wp2_with fail
        go_ret
        exact ⟨ret_i ((by decide : (3 : Int) = 1 + 2 + 0).trans (pend_eq H 1 2 0 PA.out PB.out PC.out)), dr (Below.refl _ _) _⟩
  · have PA : Hid ((if gt H.csr 9 ≠ 0 ∧ gt H.csr 9 ≤ H.done then (1 : Int) else 0) = 0) := by show _ = _; rw [Z9.out.1, Z9.out.2.1, if_neg (fun k => h1 k.2)]
    have hI1 : d < z9 := by omega
    cases hru : H.rung
    · have PB : Hid ((if H.rung then (2 : Int) else 0) = 0) := by show _ = _; rw [hru]; rfl
      rw [hru] at cr
      by_cases hn : 0 < n2
      · have PC : Hid ((if 0 < H.inn.length then (4 : Int) else 0) = 4) := by show _ = _; rw [Z9.out.2.2, if_pos hn]
        have hI : (0 : Int) < (n2 : Int) := by omega
        go_enter Tryz.func43, Tryz.ntmps43
        go_wp2_with fail
        go_quiet (fail)
        go_wp2_with fail
        go_ret
        exact ⟨ret_i ((by decide : (4 : Int) = 0 + 0 + 4).trans (pend_eq H 0 0 4 PA.out PB.out PC.out)), dr (Below.refl _ _) _⟩
      · have PC : Hid ((if 0 < H.inn.length then (4 : Int) else 0) = 0) := by show _ = _; rw [Z9.out.2.2, if_neg hn]
        have hI : ¬ (0 : Int) < (n2 : Int) := by omega
        go_enter Tryz.func43, Tryz.ntmps43
        go_wp2_with fail
        go_quiet (fail)
        go_wp2_with fail
        go_ret
        exact ⟨ret_i ((by decide : (0 : Int) = 0 + 0 + 0).trans (pend_eq H 0 0 0 PA.out PB.out PC.out)), dr (Below.refl _ _) _⟩
    · have PB : Hid ((if H.rung then (2 : Int) else 0) = 2) := by show _ = _; rw [hru]; rfl
      rw [hru] at cr
      by_cases hn : 0 < n2
      · have PC : Hid ((if 0 < H.inn.length then (4 : Int) else 0) = 4) := by show _ = _; rw [Z9.out.2.2, if_pos hn]
        have hI : (0 : Int) < (n2 : Int) := by omega
        go_enter Tryz.func43, Tryz.ntmps43
        go_wp2_with fail
        go_quiet (fail)
        go_wp2_with fail
        go_ret
        exact ⟨ret_i ((by decide : (6 : Int) = 0 + 2 + 4).trans (pend_eq H 0 2 4 PA.out PB.out PC.out)), dr (Below.refl _ _) _⟩
      · have PC : Hid ((if 0 < H.inn.length then (4 : Int) else 0) = 0) := by show _ = _; rw [Z9.out.2.2, if_neg hn]
        have hI : ¬ (0 : Int) < (n2 : Int) := by omega
        go_enter Tryz.func43, Tryz.ntmps43
        go_wp2_with fail
        go_quiet (fail)
        go_wp2_with fail
        go_ret
        exact ⟨ret_i ((by decide : (2 : Int) = 0 + 2 + 0).trans (pend_eq H 0 2 0 PA.out PB.out PC.out)), dr (Below.refl _ _) _⟩
set_option maxRecDepth 20000 in
set_option maxHeartbeats 8000000 in
theorem z_get {w : World} {B : Bp} {i o : Value} {zs : List Int} {H : Ht} {ri fa : Int} (R : Bs w B i o zs H ri fa) (k : Int) (h0 : 0 ≤ k) (h10 : k ≤ 10) :
    Calls Tryz.prog 75 #[.pointer (some ⟨B.q, 3, none⟩), .int .i64 k] w fun e w' => e = .returned (.int .i64 (getV H k)) ∧ Below w.heap.size w w' := by
  by_cases h6 : k = 6
  · subst h6
    have HR : Hid (Bs w B i o zs H ri fa) := R
    clear R
    go_enter Tryz.func75, Tryz.ntmps75
    go_wp2_with (go_at_call 43; refine (z_pending HR.out).mono ?_; rintro e x ⟨rfl, bx⟩)
    go_ret
    exact ⟨rfl, bx⟩
  by_cases h8 : k = 8
  · subst h8
    have c8 : w.cell? ⟨B.q, 9, none⟩ = some (.int .i64 H.done) := R.v.cell 9 rfl
    clear R
    go_enter Tryz.func75, Tryz.ntmps75
    go_wp2_with fail
    go_ret
    exact ⟨rfl, Below.refl _ _⟩
  obtain ⟨n, rfl⟩ : ∃ n : Nat, k = n := ⟨k.toNat, by omega⟩
  have cn : w.cell? ⟨B.cg, n, none⟩ = some (.int .i64 (gt H.csr n)) := R.hc.cell R.hc.len n (by omega)
  have cc : w.cell? ⟨B.q, 5, none⟩ = some (.slice (some ⟨B.cg, 0, none⟩) 11 B.ck) := R.v.cell 5 rfl
  have HG : Hid (getV H (n : Int) = gt H.csr n) := getV_at H n (by omega) (by omega)
  have hI : (n : Int) < 11 := by omega
  clear R
  go_enter Tryz.func75, Tryz.ntmps75
  go_wp2_with fail
  go_ret
  exact ⟨ret_i HG.out.symm, Below.refl _ _⟩
end Go.Proofs.YtcbcbgomafeccaaGreatDoor
namespace Go.Proofs.YtcbcbgomafeccaaGreatDoor
open Go.RowKit
set_option linter.unusedVariables false

set_option maxRecDepth 20000 in
set_option maxHeartbeats 8000000 in
theorem z_due {w : World} {B : Bp} {i o : Value} {zs : List Int} {H : Ht} {ri fa : Int} (R : Bs w B i o zs H ri fa) (K : Hok H) :
    Calls Tryz.prog 41 #[.pointer (some ⟨B.q, 3, none⟩)] w fun e w' => e = .returned (.int .i64 (dueV H)) ∧ Below w.heap.size w w' := by
  have HR : Hid (Bs w B i o zs H ri fa) := R
  have BE := both_eq H (all_at K.cw 7).1 (all_at K.cw 7).2
  have br := both_range H
  have c2 : w.cell? ⟨B.q, 5, none⟩ = some (.slice (some ⟨B.cg, 0, none⟩) 11 B.ck) := R.v.cell 5 rfl
  obtain ⟨z, hz⟩ : ∃ g, gt H.csr 0 = g := ⟨_, rfl⟩
  obtain ⟨g7, hg7⟩ : ∃ g, gt H.csr 7 = g := ⟨_, rfl⟩
  obtain ⟨pv, hp⟩ : ∃ g, pendV H = g := ⟨_, rfl⟩
  obtain ⟨bv, hb⟩ : ∃ g, bothV H = g := ⟨_, rfl⟩
  have c7 : w.cell? ⟨B.cg, 7, none⟩ = some (.int .i64 g7) := by rw [← hg7]; exact R.hc.cell R.hc.len 7 (by decide)
  have c0 : w.cell? ⟨B.cg, 0, none⟩ = some (.int .i64 z) := by rw [← hz]; exact R.hc.cell R.hc.len 0 (by decide)
  have z0 : 0 ≤ z := by rw [← hz]; exact (all_at K.cw 0).1
  have z9 : z ≤ 4294967295 := by rw [← hz]; exact (all_at K.cw 0).2
  have t2 : z.tmod 2 = z % 2 := Int.tmod_eq_emod_of_nonneg z0
  have HPV : Hid (pendV H = pv) := hp
  have HZ : Hid (gt H.csr 0 = z) := hz
  have HB : Hid (bothV H = bv) := hb
  rw [hg7, hp, hb] at BE
  rw [hb] at br
  clear R K hz hg7 hp hb
  by_cases hev : z % 2 = 0
  · have HE : Hid (dueV H = -1) := due_even (by rw [HZ.out]; exact hev)
    go_enter Tryz.func41, Tryz.ntmps41
    go_wp2_with fail
    go_region_with (go_at_call 43; refine (z_pending (by first | exact HR.out | exact HR.out.dr)).mono ?_; rintro e y ⟨rfl, by1⟩; rw [HPV.out]; have c2 := cell_keep by1 c2; have c7 := cell_keep by1 c7; have c0 := cell_keep by1 c0; have BY : Hid (Below w.heap.size w y) := (by first | exact by1 | exact on (Below.refl _ _).drew by1); clear by1)
    all_goals go_wp2_with fail
    all_goals go_ret
    all_goals exact ⟨ret_i HE.out.symm, (by first | exact BY.out | exact BY.out.drew)⟩
  have hod : (z % 2 == 0) = false := by simp [hev]
  have NE : Hid (¬ gt H.csr 0 % 2 = 0) := by rw [HZ.out]; exact hev
  have e : bv = 0 ∨ bv = 1 ∨ bv = 2 ∨ bv = 3 ∨ bv = 4 ∨ bv = 5 ∨ bv = 6 ∨ bv = 7 := by omega
  rcases e with rfl | rfl | rfl | rfl | rfl | rfl | rfl | rfl
  · have HE : Hid (dueV H = -1) := due_none HB.out
    have a0 : bits BinOp.and IntKind.i64 0 1 = 0 := by decide
    have a1 : bits BinOp.and IntKind.i64 1 1 = 1 := by decide
    have a2 : bits BinOp.and IntKind.i64 2 1 = 0 := by decide
    have a3 : bits BinOp.and IntKind.i64 3 1 = 1 := by decide
    have a4 : bits BinOp.and IntKind.i64 4 1 = 0 := by decide
    have a5 : bits BinOp.and IntKind.i64 5 1 = 1 := by decide
    have a6 : bits BinOp.and IntKind.i64 6 1 = 0 := by decide
    have a7 : bits BinOp.and IntKind.i64 7 1 = 1 := by decide
    go_enter Tryz.func41, Tryz.ntmps41
    go_wp2_with fail
    go_region_with (go_at_call 43; refine (z_pending (by first | exact HR.out | exact HR.out.dr)).mono ?_; rintro e y ⟨rfl, by1⟩; rw [HPV.out]; have c2 := cell_keep by1 c2; have c7 := cell_keep by1 c7; have c0 := cell_keep by1 c0; have BY : Hid (Below w.heap.size w y) := (by first | exact by1 | exact on (Below.refl _ _).drew by1); clear by1)
    all_goals go_wp2_with fail
    all_goals
      go_loop [4] (fun i => ∃ j : Nat, j ≤ 3 ∧ i = .int .i64 j) (fun i => 3 - (intOf i).toNat)
      case atStart => exact ⟨0, Nat.zero_le _, rfl⟩
      case round =>
        obtain ⟨j, hj, rfl⟩ := hrel
        have ej : j = 0 ∨ j = 1 ∨ j = 2 ∨ j = 3 := by omega
        rcases ej with rfl | rfl | rfl | rfl
        · go_wp2_with fail
          go_round
          case rel => exact ⟨1, by omega, by go_num⟩
          case measure => simp [intOf]
        · go_wp2_with fail
          go_round
          case rel => exact ⟨2, by omega, by go_num⟩
          case measure => simp [intOf]
        · go_wp2_with fail
          go_round
          case rel => exact ⟨3, by omega, by go_num⟩
          case measure => simp [intOf]
        · go_wp2_with fail
          go_ret
          exact ⟨ret_i HE.out.symm, (by first | exact BY.out | exact BY.out.drew)⟩
  · have HE : Hid (dueV H = 0) := (due_some NE.out HB.out (by decide)).trans (by decide)
    have a0 : bits BinOp.and IntKind.i64 0 1 = 0 := by decide
    have a1 : bits BinOp.and IntKind.i64 1 1 = 1 := by decide
    have a2 : bits BinOp.and IntKind.i64 2 1 = 0 := by decide
    have a3 : bits BinOp.and IntKind.i64 3 1 = 1 := by decide
    have a4 : bits BinOp.and IntKind.i64 4 1 = 0 := by decide
    have a5 : bits BinOp.and IntKind.i64 5 1 = 1 := by decide
    have a6 : bits BinOp.and IntKind.i64 6 1 = 0 := by decide
    have a7 : bits BinOp.and IntKind.i64 7 1 = 1 := by decide
    go_enter Tryz.func41, Tryz.ntmps41
    go_wp2_with fail
    go_region_with (go_at_call 43; refine (z_pending (by first | exact HR.out | exact HR.out.dr)).mono ?_; rintro e y ⟨rfl, by1⟩; rw [HPV.out]; have c2 := cell_keep by1 c2; have c7 := cell_keep by1 c7; have c0 := cell_keep by1 c0; have BY : Hid (Below w.heap.size w y) := (by first | exact by1 | exact on (Below.refl _ _).drew by1); clear by1)
    all_goals go_wp2_with fail
    all_goals
      go_loop [4] (fun i => ∃ j : Nat, j ≤ 0 ∧ i = .int .i64 j) (fun i => 3 - (intOf i).toNat)
      case atStart => exact ⟨0, Nat.zero_le _, rfl⟩
      case round =>
        obtain ⟨j, hj, rfl⟩ := hrel
        have ej : j = 0 := by omega
        rcases ej with rfl
        · go_wp2_with fail
          go_ret
          exact ⟨ret_i HE.out.symm, (by first | exact BY.out | exact BY.out.drew)⟩
  · have HE : Hid (dueV H = 1) := (due_some NE.out HB.out (by decide)).trans (by decide)
    have a0 : bits BinOp.and IntKind.i64 0 1 = 0 := by decide
    have a1 : bits BinOp.and IntKind.i64 1 1 = 1 := by decide
    have a2 : bits BinOp.and IntKind.i64 2 1 = 0 := by decide
    have a3 : bits BinOp.and IntKind.i64 3 1 = 1 := by decide
    have a4 : bits BinOp.and IntKind.i64 4 1 = 0 := by decide
    have a5 : bits BinOp.and IntKind.i64 5 1 = 1 := by decide
    have a6 : bits BinOp.and IntKind.i64 6 1 = 0 := by decide
    have a7 : bits BinOp.and IntKind.i64 7 1 = 1 := by decide
    go_enter Tryz.func41, Tryz.ntmps41
    go_wp2_with fail
    go_region_with (go_at_call 43; refine (z_pending (by first | exact HR.out | exact HR.out.dr)).mono ?_; rintro e y ⟨rfl, by1⟩; rw [HPV.out]; have c2 := cell_keep by1 c2; have c7 := cell_keep by1 c7; have c0 := cell_keep by1 c0; have BY : Hid (Below w.heap.size w y) := (by first | exact by1 | exact on (Below.refl _ _).drew by1); clear by1)
    all_goals go_wp2_with fail
    all_goals
      go_loop [4] (fun i => ∃ j : Nat, j ≤ 1 ∧ i = .int .i64 j) (fun i => 3 - (intOf i).toNat)
      case atStart => exact ⟨0, Nat.zero_le _, rfl⟩
      case round =>
        obtain ⟨j, hj, rfl⟩ := hrel
        have ej : j = 0 ∨ j = 1 := by omega
        rcases ej with rfl | rfl
        · go_wp2_with fail
          go_round
          case rel => exact ⟨1, by omega, by go_num⟩
          case measure => simp [intOf]
        · go_wp2_with fail
          go_ret
          exact ⟨ret_i HE.out.symm, (by first | exact BY.out | exact BY.out.drew)⟩
  · have HE : Hid (dueV H = 0) := (due_some NE.out HB.out (by decide)).trans (by decide)
    have a0 : bits BinOp.and IntKind.i64 0 1 = 0 := by decide
    have a1 : bits BinOp.and IntKind.i64 1 1 = 1 := by decide
    have a2 : bits BinOp.and IntKind.i64 2 1 = 0 := by decide
    have a3 : bits BinOp.and IntKind.i64 3 1 = 1 := by decide
    have a4 : bits BinOp.and IntKind.i64 4 1 = 0 := by decide
    have a5 : bits BinOp.and IntKind.i64 5 1 = 1 := by decide
    have a6 : bits BinOp.and IntKind.i64 6 1 = 0 := by decide
    have a7 : bits BinOp.and IntKind.i64 7 1 = 1 := by decide
    go_enter Tryz.func41, Tryz.ntmps41
    go_wp2_with fail
    go_region_with (go_at_call 43; refine (z_pending (by first | exact HR.out | exact HR.out.dr)).mono ?_; rintro e y ⟨rfl, by1⟩; rw [HPV.out]; have c2 := cell_keep by1 c2; have c7 := cell_keep by1 c7; have c0 := cell_keep by1 c0; have BY : Hid (Below w.heap.size w y) := (by first | exact by1 | exact on (Below.refl _ _).drew by1); clear by1)
    all_goals go_wp2_with fail
    all_goals
      go_loop [4] (fun i => ∃ j : Nat, j ≤ 0 ∧ i = .int .i64 j) (fun i => 3 - (intOf i).toNat)
      case atStart => exact ⟨0, Nat.zero_le _, rfl⟩
      case round =>
        obtain ⟨j, hj, rfl⟩ := hrel
        have ej : j = 0 := by omega
        rcases ej with rfl
        · go_wp2_with fail
          go_ret
          exact ⟨ret_i HE.out.symm, (by first | exact BY.out | exact BY.out.drew)⟩
  · have HE : Hid (dueV H = 2) := (due_some NE.out HB.out (by decide)).trans (by decide)
    have a0 : bits BinOp.and IntKind.i64 0 1 = 0 := by decide
    have a1 : bits BinOp.and IntKind.i64 1 1 = 1 := by decide
    have a2 : bits BinOp.and IntKind.i64 2 1 = 0 := by decide
    have a3 : bits BinOp.and IntKind.i64 3 1 = 1 := by decide
    have a4 : bits BinOp.and IntKind.i64 4 1 = 0 := by decide
    have a5 : bits BinOp.and IntKind.i64 5 1 = 1 := by decide
    have a6 : bits BinOp.and IntKind.i64 6 1 = 0 := by decide
    have a7 : bits BinOp.and IntKind.i64 7 1 = 1 := by decide
    go_enter Tryz.func41, Tryz.ntmps41
    go_wp2_with fail
    go_region_with (go_at_call 43; refine (z_pending (by first | exact HR.out | exact HR.out.dr)).mono ?_; rintro e y ⟨rfl, by1⟩; rw [HPV.out]; have c2 := cell_keep by1 c2; have c7 := cell_keep by1 c7; have c0 := cell_keep by1 c0; have BY : Hid (Below w.heap.size w y) := (by first | exact by1 | exact on (Below.refl _ _).drew by1); clear by1)
    all_goals go_wp2_with fail
    all_goals
      go_loop [4] (fun i => ∃ j : Nat, j ≤ 2 ∧ i = .int .i64 j) (fun i => 3 - (intOf i).toNat)
      case atStart => exact ⟨0, Nat.zero_le _, rfl⟩
      case round =>
        obtain ⟨j, hj, rfl⟩ := hrel
        have ej : j = 0 ∨ j = 1 ∨ j = 2 := by omega
        rcases ej with rfl | rfl | rfl
        · go_wp2_with fail
          go_round
          case rel => exact ⟨1, by omega, by go_num⟩
          case measure => simp [intOf]
        · go_wp2_with fail
          go_round
          case rel => exact ⟨2, by omega, by go_num⟩
          case measure => simp [intOf]
        · go_wp2_with fail
          go_ret
          exact ⟨ret_i HE.out.symm, (by first | exact BY.out | exact BY.out.drew)⟩
  · have HE : Hid (dueV H = 0) := (due_some NE.out HB.out (by decide)).trans (by decide)
    have a0 : bits BinOp.and IntKind.i64 0 1 = 0 := by decide
    have a1 : bits BinOp.and IntKind.i64 1 1 = 1 := by decide
    have a2 : bits BinOp.and IntKind.i64 2 1 = 0 := by decide
    have a3 : bits BinOp.and IntKind.i64 3 1 = 1 := by decide
    have a4 : bits BinOp.and IntKind.i64 4 1 = 0 := by decide
    have a5 : bits BinOp.and IntKind.i64 5 1 = 1 := by decide
    have a6 : bits BinOp.and IntKind.i64 6 1 = 0 := by decide
    have a7 : bits BinOp.and IntKind.i64 7 1 = 1 := by decide
    go_enter Tryz.func41, Tryz.ntmps41
    go_wp2_with fail
    go_region_with (go_at_call 43; refine (z_pending (by first | exact HR.out | exact HR.out.dr)).mono ?_; rintro e y ⟨rfl, by1⟩; rw [HPV.out]; have c2 := cell_keep by1 c2; have c7 := cell_keep by1 c7; have c0 := cell_keep by1 c0; have BY : Hid (Below w.heap.size w y) := (by first | exact by1 | exact on (Below.refl _ _).drew by1); clear by1)
    all_goals go_wp2_with fail
    all_goals
      go_loop [4] (fun i => ∃ j : Nat, j ≤ 0 ∧ i = .int .i64 j) (fun i => 3 - (intOf i).toNat)
      case atStart => exact ⟨0, Nat.zero_le _, rfl⟩
      case round =>
        obtain ⟨j, hj, rfl⟩ := hrel
        have ej : j = 0 := by omega
        rcases ej with rfl
        · go_wp2_with fail
          go_ret
          exact ⟨ret_i HE.out.symm, (by first | exact BY.out | exact BY.out.drew)⟩
  · have HE : Hid (dueV H = 1) := (due_some NE.out HB.out (by decide)).trans (by decide)
    have a0 : bits BinOp.and IntKind.i64 0 1 = 0 := by decide
    have a1 : bits BinOp.and IntKind.i64 1 1 = 1 := by decide
    have a2 : bits BinOp.and IntKind.i64 2 1 = 0 := by decide
    have a3 : bits BinOp.and IntKind.i64 3 1 = 1 := by decide
    have a4 : bits BinOp.and IntKind.i64 4 1 = 0 := by decide
    have a5 : bits BinOp.and IntKind.i64 5 1 = 1 := by decide
    have a6 : bits BinOp.and IntKind.i64 6 1 = 0 := by decide
    have a7 : bits BinOp.and IntKind.i64 7 1 = 1 := by decide
    go_enter Tryz.func41, Tryz.ntmps41
    go_wp2_with fail
    go_region_with (go_at_call 43; refine (z_pending (by first | exact HR.out | exact HR.out.dr)).mono ?_; rintro e y ⟨rfl, by1⟩; rw [HPV.out]; have c2 := cell_keep by1 c2; have c7 := cell_keep by1 c7; have c0 := cell_keep by1 c0; have BY : Hid (Below w.heap.size w y) := (by first | exact by1 | exact on (Below.refl _ _).drew by1); clear by1)
    all_goals go_wp2_with fail
    all_goals
      go_loop [4] (fun i => ∃ j : Nat, j ≤ 1 ∧ i = .int .i64 j) (fun i => 3 - (intOf i).toNat)
      case atStart => exact ⟨0, Nat.zero_le _, rfl⟩
      case round =>
        obtain ⟨j, hj, rfl⟩ := hrel
        have ej : j = 0 ∨ j = 1 := by omega
        rcases ej with rfl | rfl
        · go_wp2_with fail
          go_round
          case rel => exact ⟨1, by omega, by go_num⟩
          case measure => simp [intOf]
        · go_wp2_with fail
          go_ret
          exact ⟨ret_i HE.out.symm, (by first | exact BY.out | exact BY.out.drew)⟩
  · have HE : Hid (dueV H = 0) := (due_some NE.out HB.out (by decide)).trans (by decide)
    have a0 : bits BinOp.and IntKind.i64 0 1 = 0 := by decide
    have a1 : bits BinOp.and IntKind.i64 1 1 = 1 := by decide
    have a2 : bits BinOp.and IntKind.i64 2 1 = 0 := by decide
    have a3 : bits BinOp.and IntKind.i64 3 1 = 1 := by decide
    have a4 : bits BinOp.and IntKind.i64 4 1 = 0 := by decide
    have a5 : bits BinOp.and IntKind.i64 5 1 = 1 := by decide
    have a6 : bits BinOp.and IntKind.i64 6 1 = 0 := by decide
    have a7 : bits BinOp.and IntKind.i64 7 1 = 1 := by decide
    go_enter Tryz.func41, Tryz.ntmps41
    go_wp2_with fail
    go_region_with (go_at_call 43; refine (z_pending (by first | exact HR.out | exact HR.out.dr)).mono ?_; rintro e y ⟨rfl, by1⟩; rw [HPV.out]; have c2 := cell_keep by1 c2; have c7 := cell_keep by1 c7; have c0 := cell_keep by1 c0; have BY : Hid (Below w.heap.size w y) := (by first | exact by1 | exact on (Below.refl _ _).drew by1); clear by1)
    all_goals go_wp2_with fail
    all_goals
      go_loop [4] (fun i => ∃ j : Nat, j ≤ 0 ∧ i = .int .i64 j) (fun i => 3 - (intOf i).toNat)
      case atStart => exact ⟨0, Nat.zero_le _, rfl⟩
      case round =>
        obtain ⟨j, hj, rfl⟩ := hrel
        have ej : j = 0 := by omega
        rcases ej with rfl
        · go_wp2_with fail
          go_ret
          exact ⟨ret_i HE.out.symm, (by first | exact BY.out | exact BY.out.drew)⟩
end Go.Proofs.YtcbcbgomafeccaaGreatDoor
namespace Go.Proofs.YtcbcbgomafeccaaGreatDoor
open Go.RowKit
set_option linter.unusedVariables false

set_option maxRecDepth 20000 in
set_option maxHeartbeats 8000000 in
theorem z_back {w : World} {B : Bp} {i o : Value} {zs : List Int} {H : Ht} {ri fa : Int} (R : Bs w B i o zs H ri fa) (K : Hok H) :
    Calls Tryz.prog 77 #[.pointer (some ⟨B.q, 3, none⟩)] w fun e w' => e = .returned (.tuple #[]) ∧ Bs w' B i o zs (backV H) ri fa ∧ Below B.base w w' := by
  have z0 : 0 ≤ gt H.csr 0 := (all_at K.cw 0).1
  have z4 : gt H.csr 0 ≤ 4294967295 := (all_at K.cw 0).2
  obtain ⟨z, hz⟩ : ∃ z, gt H.csr 0 = z := ⟨_, rfl⟩
  rw [hz] at z0 z4
  have HZ : Hid (gt H.csr 0 = z) := hz
  have t2 : z.tdiv 2 = z / 2 := Int.tdiv_eq_ediv_of_nonneg z0
  have v2 : w.cell? ⟨B.q, 5, none⟩ = some (.slice (some ⟨B.cg, 0, none⟩) 11 B.ck) := R.v.cell 5 rfl
  have v1 : w.cell? ⟨B.q, 4, none⟩ = some (.int .i64 H.pc) := R.v.cell 4 rfl
  have f1 := R.v.free 4
  have c2 : w.cell? ⟨B.cg, 2, none⟩ = some (.int .i64 (gt H.csr 2)) := R.hc.cell R.hc.len 2 (by decide)
  have S1 : Hid (_ ∧ _) := R.fld (G := { H with pc := gt H.csr 2 }) (ri' := ri) (fa' := fa) 4 (.int .i64 (gt H.csr 2)) rfl rfl rfl rfl rfl
  clear R hz K
  go_enter Tryz.func77, Tryz.ntmps77
  go_wp2_with fail
  generalize w.setCell ⟨B.q, 4, none⟩ (.int .i64 (gt H.csr 2)) = W1 at *
  clear v2 v1 f1 c2
  have v2 : W1.cell? ⟨B.q, 5, none⟩ = some (.slice (some ⟨B.cg, 0, none⟩) 11 B.ck) := S1.out.1.v.cell 5 rfl
  have c0 : W1.cell? ⟨B.cg, 0, none⟩ = some (.int .i64 z) := by rw [← HZ.out]; exact S1.out.1.hc.cell S1.out.1.hc.len 0 (by decide)
  have f0 := S1.out.1.hc.free S1.out.1.hc.len 0
  have S2 := S1.out.1.csr 0 (2 + z / 2)
  have SS : Hid (_ ∧ _) := And.intro S2.1.dr (S1.out.2.trans S2.2.drew)
  clear S2
  go_region
  all_goals go_wp2_with fail
  all_goals go_end0
  all_goals exact ⟨rfl, by have := SS.out; rw [← HZ.out] at this; rw [← HZ.out]; exact this.1, by have := SS.out; rw [← HZ.out] at this; rw [← HZ.out]; exact this.2⟩
set_option maxRecDepth 20000 in
set_option maxHeartbeats 8000000 in
theorem z_trap {w : World} {B : Bp} {i o : Value} {zs : List Int} {H : Ht} {ri fa : Int} (R : Bs w B i o zs H ri fa) (K : Hok H) (k x : Int) :
    Calls Tryz.prog 65 #[.pointer (some ⟨B.q, 3, none⟩), .int .i64 k, .int .i64 x] w fun e w' => e = .returned (.tuple #[]) ∧ Bs w' B i o zs (trapV H k x) ri fa ∧ Below B.base w w' := by
  have z0 : 0 ≤ gt H.csr 0 := (all_at K.cw 0).1
  have z4 : gt H.csr 0 ≤ 4294967295 := (all_at K.cw 0).2
  obtain ⟨z, hz⟩ : ∃ z, gt H.csr 0 = z := ⟨_, rfl⟩
  rw [hz] at z0 z4
  have HZ : Hid (gt H.csr 0 = z) := hz
  have HC : Hid (H.csr.length = 11) := K.c11
  have t2 : z.tmod 2 = z % 2 := Int.tmod_eq_emod_of_nonneg z0
  obtain ⟨pcv, hpc⟩ : ∃ z, H.pc = z := ⟨_, rfl⟩
  have HPC : Hid (H.pc = pcv) := hpc
  have qc := R.qc
  have v2 : w.cell? ⟨B.q, 5, none⟩ = some (.slice (some ⟨B.cg, 0, none⟩) 11 B.ck) := R.v.cell 5 rfl
  have v1 : w.cell? ⟨B.q, 4, none⟩ = some (.int .i64 pcv) := by rw [← hpc]; exact R.v.cell 4 rfl
  have c2 := R.hc.cell R.hc.len 2 (by decide)
  have f2 := R.hc.free R.hc.len 2
  have S1 : Hid (Bs (w.setCell ⟨B.cg, 2, none⟩ (.int .i64 pcv)).drew B i o zs { H with csr := H.csr.set 2 pcv } ri fa ∧ Below B.base w (w.setCell ⟨B.cg, 2, none⟩ (.int .i64 pcv)).drew) := ⟨(R.csr 2 pcv).1.dr, (R.csr 2 pcv).2.drew⟩
  clear R hz K hpc
  go_enter Tryz.func65, Tryz.ntmps65
  go_wp2_with fail
  go_region
  generalize (w.setCell ⟨B.cg, 2, none⟩ (.int .i64 pcv)).drew = W1 at *
  clear v2 v1 c2 f2
  have v2 : W1.cell? ⟨B.q, 5, none⟩ = some (.slice (some ⟨B.cg, 0, none⟩) 11 B.ck) := S1.out.1.v.cell 5 rfl
  have c3 := S1.out.1.hc.cell S1.out.1.hc.len 3 (by decide)
  have f3 := S1.out.1.hc.free S1.out.1.hc.len 3
  have c4 := S1.out.1.hc.cell S1.out.1.hc.len 4 (by decide)
  have f4 := S1.out.1.hc.free S1.out.1.hc.len 4
  have S2 : Hid (Bs ((W1.setCell ⟨B.cg, 3, none⟩ (.int .i64 k)).setCell ⟨B.cg, 4, none⟩ (.int .i64 x)) B i o zs { H with csr := ((H.csr.set 2 pcv).set 3 k).set 4 x } ri fa ∧ Below B.base w ((W1.setCell ⟨B.cg, 3, none⟩ (.int .i64 k)).setCell ⟨B.cg, 4, none⟩ (.int .i64 x))) := ⟨((S1.out.1.csr 3 k).1.csr 4 x).1, S1.out.2.trans ((S1.out.1.csr 3 k).2.trans ((S1.out.1.csr 3 k).1.csr 4 x).2)⟩
  go_wp2_with fail
  generalize (W1.setCell ⟨B.cg, 3, none⟩ (.int .i64 k)).setCell ⟨B.cg, 4, none⟩ (.int .i64 x) = W2 at *
  clear v2 c3 f3 c4 f4
  have GZ : Hid (gt (((H.csr.set 2 pcv).set 3 k).set 4 x) 0 = z ∧ gt (((H.csr.set 2 pcv).set 3 k).set 4 x) 1 = gt H.csr 1) := by
    have := HC.out
    refine ⟨?_, ?_⟩
    · rw [gt_set _ _ _ _ (by simpa using by omega), if_neg (by decide), gt_set _ _ _ _ (by simpa using by omega), if_neg (by decide), gt_set _ _ _ _ (by omega), if_neg (by decide)]; exact HZ.out
    · rw [gt_set _ _ _ _ (by simpa using by omega), if_neg (by decide), gt_set _ _ _ _ (by simpa using by omega), if_neg (by decide), gt_set _ _ _ _ (by omega), if_neg (by decide)]
  have v2 : W2.cell? ⟨B.q, 5, none⟩ = some (.slice (some ⟨B.cg, 0, none⟩) 11 B.ck) := S2.out.1.v.cell 5 rfl
  have c0 : W2.cell? ⟨B.cg, 0, none⟩ = some (.int .i64 z) := by rw [← GZ.out.1]; exact S2.out.1.hc.cell S2.out.1.hc.len 0 (by decide)
  have f0 := S2.out.1.hc.free S2.out.1.hc.len 0
  have S3 : Hid (Bs (W2.setCell ⟨B.cg, 0, none⟩ (.int .i64 (z % 2 * 2))).drew B i o zs { H with csr := (((H.csr.set 2 pcv).set 3 k).set 4 x).set 0 (z % 2 * 2) } ri fa ∧ Below B.base w (W2.setCell ⟨B.cg, 0, none⟩ (.int .i64 (z % 2 * 2))).drew) := ⟨(S2.out.1.csr 0 _).1.dr, S2.out.2.trans (S2.out.1.csr 0 _).2.drew⟩
  go_region
  generalize (W2.setCell ⟨B.cg, 0, none⟩ (.int .i64 (z % 2 * 2))).drew = W3 at *
  clear v2 c0 f0
  have G1 : Hid (gt ((((H.csr.set 2 pcv).set 3 k).set 4 x).set 0 (z % 2 * 2)) 1 = gt H.csr 1) := by
    show _ = _
    rw [gt_set _ _ _ _ (by have := HC.out; simp; omega), if_neg (by decide)]; exact GZ.out.2
  have v2 : W3.cell? ⟨B.q, 5, none⟩ = some (.slice (some ⟨B.cg, 0, none⟩) 11 B.ck) := S3.out.1.v.cell 5 rfl
  have c1 : W3.cell? ⟨B.cg, 1, none⟩ = some (.int .i64 (gt H.csr 1)) := by rw [← G1.out]; exact S3.out.1.hc.cell S3.out.1.hc.len 1 (by decide)
  have v1 := S3.out.1.v.cell 4 rfl
  have f1 := S3.out.1.v.free 4
  have v4 := S3.out.1.v.cell 7 rfl
  have f4 := S3.out.1.v.free 7
  have S4 := S3.out.1.fld (G := { H with csr := (((H.csr.set 2 pcv).set 3 k).set 4 x).set 0 (z % 2 * 2), pc := gt H.csr 1 }) (ri' := ri) (fa' := fa) 4 (.int .i64 (gt H.csr 1)) rfl rfl rfl rfl rfl
  have S5 := S4.1.fld (G := { H with csr := (((H.csr.set 2 pcv).set 3 k).set 4 x).set 0 (z % 2 * 2), pc := gt H.csr 1, waiting := false }) (ri' := ri) (fa' := fa) 7 (.bool false) rfl rfl rfl rfl rfl
  have SS : Hid (_ ∧ _) := And.intro S5.1 (S3.out.2.trans (S4.2.trans S5.2))
  clear S4 S5
  go_wp2_with fail
  go_end0
  exact ⟨rfl, by have := SS.out.1; rw [← HPC.out, ← HZ.out] at this; exact this, SS.out.2⟩
set_option maxRecDepth 20000 in
set_option maxHeartbeats 8000000 in
theorem z_set {w : World} {B : Bp} {i o : Value} {zs : List Int} {H : Ht} {ri fa : Int} (R : Bs w B i o zs H ri fa) (K : Hok H) (k x : Int) (h0 : 0 ≤ k) (h10 : k ≤ 10) :
    Calls Tryz.prog 76 #[.pointer (some ⟨B.q, 3, none⟩), .int .i64 k, .int .i64 x] w fun e w' => e = .returned (.tuple #[]) ∧ (Bs w' B i o zs (setV H k x) ri fa ∧ Below B.base w w') ∧ Mq (fun j => j = B.q ∨ j = B.cg) w w' := by
  rw [setV_eq]
  have RS : Hid (Bs w B i o zs H ri fa) := R
  have HC : Hid (H.csr.length = 11) := K.c11
  have ZZ : Hid (gt H.csr 6 = 0 ∧ gt H.csr 8 = 0) := stand_zero K
  obtain ⟨u, hu⟩ : ∃ u, wd x = u := ⟨_, rfl⟩
  have HU : Hid (wd x = u) := hu
  have u0 : 0 ≤ u := by rw [← hu]; exact (hwd_in x).1
  have u9 : u ≤ 4294967295 := by rw [← hu]; exact (hwd_in x).2
  rw [hu]
  have t4 : u.tmod 4 = u % 4 := Int.tmod_eq_emod_of_nonneg u0
  have t8 : u.tmod 8 = u % 8 := Int.tmod_eq_emod_of_nonneg u0
  have v2 : w.cell? ⟨B.q, 5, none⟩ = some (.slice (some ⟨B.cg, 0, none⟩) 11 B.ck) := R.v.cell 5 rfl
  have v5 : w.cell? ⟨B.q, 8, none⟩ = some (.bool H.rung) := R.v.cell 8 rfl
  have f5 := R.v.free 8
  have CE : Hid (∀ n, n < 11 → w.cell? ⟨B.cg, n, none⟩ = some (.int .i64 (gt H.csr n))) := fun n hn => R.hc.cell R.hc.len n hn
  have FE : Hid (∀ n, w.frozen? ⟨B.cg, n, none⟩ = false) := fun n => R.hc.free R.hc.len n
  clear R K hu
  by_cases k0 : k = 0
  · subst k0
    have cc := CE.out 0 (by decide)
    have ff := FE.out 0
    go_enter Tryz.func76, Tryz.ntmps76
    go_wp2_with (go_at_call 106; refine (s_wrap _ _).mono ?_; rintro e y ⟨rfl, hy⟩; rw [hy]; clear hy y; rw [HU.out])
    go_end0
    refine ⟨rfl, ?_⟩
    have e : stH H (0 : Int).toNat (standV 0 u) (H.rung && !(decide ((0 : Int) = 6) && decide (2 ≤ u % 4))) = { H with csr := H.csr.set 0 (u % 4) } := by simp [stH, standV]
    rw [e]
    exact ⟨RS.out.csr 0 _, (Mq.refl _ _).set ⟨B.cg, 0, none⟩ _ (.inr rfl)⟩
  by_cases k7 : k = 7
  · subst k7
    have cc := CE.out 7 (by decide)
    have ff := FE.out 7
    go_enter Tryz.func76, Tryz.ntmps76
    go_wp2_with (go_at_call 106; refine (s_wrap _ _).mono ?_; rintro e y ⟨rfl, hy⟩; rw [hy]; clear hy y; rw [HU.out])
    go_end0
    refine ⟨rfl, ?_⟩
    have e : stH H (7 : Int).toNat (standV 7 u) (H.rung && !(decide ((7 : Int) = 6) && decide (2 ≤ u % 4))) = { H with csr := H.csr.set 7 (u % 8) } := by simp [stH, standV]
    rw [e]
    exact ⟨RS.out.csr 7 _, (Mq.refl _ _).set ⟨B.cg, 7, none⟩ _ (.inr rfl)⟩
  by_cases k10 : k = 10
  · subst k10
    have cc := CE.out 10 (by decide)
    have ff := FE.out 10
    have qy : B.q ≠ B.cg := RS.out.qc
    by_cases h8 : u ≤ 8
    · have H8 : Hid (u ≤ 8) := h8
      go_enter Tryz.func76, Tryz.ntmps76
      go_wp2_with (go_at_call 106; refine (s_wrap _ _).mono ?_; rintro e y ⟨rfl, hy⟩; rw [hy]; clear hy y; rw [HU.out])
      go_end0
      refine ⟨rfl, ?_⟩
      have e : stH H (10 : Int).toNat (standV 10 u) (H.rung && !(decide ((10 : Int) = 6) && decide (2 ≤ u % 4))) = { H with csr := (H.csr.set 10 0).set 10 u } := by
        have := H8.out
        simp [stH, standV, show ¬ 8 < u by omega]
      rw [e]
      exact ⟨⟨((RS.out.csr 10 0).1.csr 10 u).1, (RS.out.csr 10 0).2.trans ((RS.out.csr 10 0).1.csr 10 u).2⟩, ((Mq.refl _ _).set ⟨B.cg, 10, none⟩ _ (.inr rfl)).set ⟨B.cg, 10, none⟩ _ (.inr rfl)⟩
    · have H8 : Hid (8 < u) := by show _ < _; omega
      go_enter Tryz.func76, Tryz.ntmps76
      go_wp2_with (go_at_call 106; refine (s_wrap _ _).mono ?_; rintro e y ⟨rfl, hy⟩; rw [hy]; clear hy y; rw [HU.out])
      go_end0
      refine ⟨rfl, ?_⟩
      have e : stH H (10 : Int).toNat (standV 10 u) (H.rung && !(decide ((10 : Int) = 6) && decide (2 ≤ u % 4))) = { H with csr := H.csr.set 10 0 } := by
        simp [stH, standV, H8.out]
      rw [e]
      exact ⟨RS.out.csr 10 0, (Mq.refl _ _).set ⟨B.cg, 10, none⟩ _ (.inr rfl)⟩
  by_cases k6 : k = 6
  · subst k6
    have E6 : Hid (∀ rr, stH H (6 : Int).toNat (standV 6 u) rr = { H with rung := rr }) := fun rr => by
      have : H.csr.set 6 0 = H.csr := set_same _ _ _ (by have := HC.out; omega) ZZ.out.1
      simp [stH, standV, this]
    cases hr : H.rung
    · have HR : Hid (H.rung = false) := hr
      rw [hr] at v5
      go_enter Tryz.func76, Tryz.ntmps76
      go_wp2_with (go_at_call 106; refine (s_wrap _ _).mono ?_; rintro e y ⟨rfl, hy⟩; rw [hy]; clear hy y; rw [HU.out])
      go_end0
      refine ⟨rfl, ?_⟩
      rw [E6.out, Bool.false_and]
      exact ⟨RS.out.fld (G := { H with rung := false }) (ri' := ri) (fa' := fa) 8 (.bool false) rfl rfl rfl rfl rfl, (Mq.refl _ _).set ⟨B.q, 8, none⟩ _ (.inl rfl)⟩
    · rw [hr] at v5
      by_cases h2 : u % 4 < 2
      · have H2 : Hid (decide (2 ≤ u % 4) = false) := decide_eq_false (by omega)
        go_enter Tryz.func76, Tryz.ntmps76
        go_wp2_with (go_at_call 106; refine (s_wrap _ _).mono ?_; rintro e y ⟨rfl, hy⟩; rw [hy]; clear hy y; rw [HU.out])
        go_end0
        refine ⟨rfl, ?_⟩
        rw [E6.out, H2.out]
        exact ⟨RS.out.fld (G := { H with rung := true }) (ri' := ri) (fa' := fa) 8 (.bool true) rfl rfl rfl rfl rfl, (Mq.refl _ _).set ⟨B.q, 8, none⟩ _ (.inl rfl)⟩
      · have H2 : Hid (decide (2 ≤ u % 4) = true) := decide_eq_true (by omega)
        go_enter Tryz.func76, Tryz.ntmps76
        go_wp2_with (go_at_call 106; refine (s_wrap _ _).mono ?_; rintro e y ⟨rfl, hy⟩; rw [hy]; clear hy y; rw [HU.out])
        go_end0
        refine ⟨rfl, ?_⟩
        rw [E6.out, H2.out, show decide (u % 4 < 2) = false from decide_eq_false (by have := of_decide_eq_true H2.out; omega)]
        exact ⟨RS.out.fld (G := { H with rung := false }) (ri' := ri) (fa' := fa) 8 (.bool false) rfl rfl rfl rfl rfl, (Mq.refl _ _).set ⟨B.q, 8, none⟩ _ (.inl rfl)⟩
  by_cases k8 : k = 8
  · subst k8
    go_enter Tryz.func76, Tryz.ntmps76
    go_wp2_with (go_at_call 106; refine (s_wrap _ _).mono ?_; rintro e y ⟨rfl, hy⟩; rw [hy]; clear hy y; rw [HU.out])
    go_end0
    refine ⟨rfl, ?_⟩
    have e : stH H (8 : Int).toNat (standV 8 u) (H.rung && !(decide ((8 : Int) = 6) && decide (2 ≤ u % 4))) = H := by
      have : H.csr.set 8 0 = H.csr := set_same _ _ _ (by have := HC.out; omega) ZZ.out.2
      simp [stH, standV, this]
    rw [e]
    exact ⟨⟨RS.out, Below.refl _ _⟩, Mq.refl _ _⟩
  obtain ⟨n, rfl⟩ : ∃ n : Nat, k = n := ⟨k.toNat, by omega⟩
  have cc := CE.out n (by omega)
  have ff := FE.out n
  have hI : (n : Int) < 11 := by omega
  have E : Hid (stH H (n : Int).toNat (standV n u) (H.rung && !(decide ((n : Int) = 6) && decide (2 ≤ u % 4))) = { H with csr := H.csr.set n u }) := by
    show _ = _
    have n0 : ¬ n = 0 := by omega
    simp [stH, standV, n0, k7, k10, k6, k8]
  go_enter Tryz.func76, Tryz.ntmps76
  go_wp2_with (go_at_call 106; refine (s_wrap _ _).mono ?_; rintro e y ⟨rfl, hy⟩; rw [hy]; clear hy y; rw [HU.out])
  go_end0
  refine ⟨rfl, ?_⟩
  rw [E.out]
  exact ⟨RS.out.csr n _, (Mq.refl _ _).set ⟨B.cg, n, none⟩ _ (.inr rfl)⟩
end Go.Proofs.YtcbcbgomafeccaaGreatDoor
namespace Go.Proofs.YtcbcbgomafeccaaGreatDoor
open Go.RowKit
set_option linter.unusedVariables false

set_option maxRecDepth 20000 in
set_option maxHeartbeats 8000000 in
theorem z_read {w : World} {B : Bp} {i o : Value} {zs : List Int} {H : Ht} {ri fa : Int} (R : Bs w B i o zs H ri fa) (k : Int) (h0 : 0 ≤ k) (h7 : k ≤ 7) :
    Calls Tryz.prog 103 #[.pointer (some ⟨B.q, 3, none⟩), .int .i64 k] w fun e w' => e = .returned (.int .i64 (drV H k)) ∧ ∃ i', Bs w' B i' o zs (drH H k) ri fa ∧ Below B.base w w' ∧ Mq (fun j => j = B.q) w w' := by
  have HR : Hid (Bs w B i o zs H ri fa) := R
  by_cases k1 : k = 1
  · subst k1
    obtain ⟨a, cap, rfl, hr⟩ := R.hi
    obtain ⟨n, hn⟩ : ∃ n, H.inn.length = n := ⟨_, rfl⟩
    rw [hn] at R hr HR
    have HN : Hid (H.inn.length = n) := hn
    have HI : Hid (Rn w a n cap H.inn) := hr
    have c7 : w.cell? ⟨B.q, 10, none⟩ = some (.slice a n cap) := R.v.cell 10 rfl
    have f7 := R.v.free 10
    have hc := hr.cap
    clear R hr hn
    by_cases hz : n = 0
    · subst hz
      have E0 : Hid (H.inn = []) := List.eq_nil_of_length_eq_zero HN.out
      go_enter Tryz.func103, Tryz.ntmps103
      go_wp2_with fail
      go_ret
      refine ⟨?_, _, by rw [tail_nil E0.out]; exact HR.out, Below.refl _ _, Mq.refl _ _⟩
      simp [drV, E0.out]
    · obtain ⟨x, rfl⟩ : ∃ x, a = some x := by
        rcases HI.out with ⟨_, h1, _⟩ | ⟨x, hx, _⟩
        · exact absurd h1 hz
        · exact ⟨x, hx⟩
      obtain ⟨x', hx', c0⟩ := HI.out.at 0 (by omega)
      cases hx'
      have ex : x.add 0 = x := by cases x; unfold Addr.add; split <;> simp_all
      rw [ex] at c0
      clear ex
      have hI : ¬ (n : Int) = 0 := by omega
      have hI0 : ((n : Int) == 0) = false := by simpa using hI
      have hI1 : (1 : Int) ≤ (n : Int) := by omega
      have hI2 : 0 < n := by omega
      have hI3 : 1 ≤ n := by omega
      have H0 : Hid (0 < n) := hI2
      clear hz
      go_enter Tryz.func103, Tryz.ntmps103
      go_wp2_with fail
      · go_ret
        have U := HR.out.inn (i' := .slice (some x) (n - 1) 0) (G := drH H 1) rfl (rv_tl1 HI.out H0.out (by assumption)) (fun k e => e) rfl rfl rfl
        exact ⟨by show Ending.returned (Value.int .i64 (H.inn[0]?.getD 0)) = _; rw [head_get]; rfl, ⟨_, U.1⟩, U.2, (Mq.refl _ _).set ⟨B.q, 10, none⟩ _ rfl⟩
      · go_ret
        have U := HR.out.inn (i' := .slice (some (x.add 1)) (n - 1) (cap - 1)) (G := drH H 1) rfl (rv_tl HI.out H0.out) (fun k e => by rw [← e]; rfl) rfl rfl rfl
        exact ⟨by show Ending.returned (Value.int .i64 (H.inn[0]?.getD 0)) = _; rw [head_get]; rfl, ⟨_, U.1⟩, U.2, (Mq.refl _ _).set ⟨B.q, 10, none⟩ _ rfl⟩
  have e1 : drH H k = H := drH_ne H k1
  rw [e1]
  clear e1
  by_cases k2 : k = 2
  · subst k2
    have c6 : w.cell? ⟨B.q, 9, none⟩ = some (.int .i64 H.done) := R.v.cell 9 rfl
    clear R
    go_enter Tryz.func103, Tryz.ntmps103
    go_wp2_with fail
    go_ret
    exact ⟨rfl, _, HR.out, Below.refl _ _, Mq.refl _ _⟩
  by_cases k3 : k = 3
  · subst k3
    have cn : w.cell? ⟨B.cg, 9, none⟩ = some (.int .i64 (gt H.csr 9)) := R.hc.cell R.hc.len 9 (by decide)
    have c2 : w.cell? ⟨B.q, 5, none⟩ = some (.slice (some ⟨B.cg, 0, none⟩) 11 B.ck) := R.v.cell 5 rfl
    clear R
    go_enter Tryz.func103, Tryz.ntmps103
    go_wp2_with fail
    go_ret
    exact ⟨rfl, _, HR.out, Below.refl _ _, Mq.refl _ _⟩
  by_cases k4 : k = 4
  · subst k4
    clear R
    go_enter Tryz.func103, Tryz.ntmps103
    go_wp2_with (go_at_call 43; refine (z_pending HR.out).mono ?_; rintro e x ⟨rfl, bx⟩)
    go_ret
    exact ⟨rfl, _, HR.out.keep bx, bless bx HR.out.size, Mq.of (below_grown bx none) fun k e => by cases e⟩
  by_cases k6 : k = 6
  · subst k6
    obtain ⟨a2, n2, rfl, hrn⟩ := R.hi
    have c10 : w.cell? ⟨B.q, 10, none⟩ = some (.slice a2 H.inn.length n2) := R.v.cell 10 rfl
    clear R hrn
    go_enter Tryz.func103, Tryz.ntmps103
    go_wp2_with fail
    go_ret
    exact ⟨rfl, _, HR.out, Below.refl _ _, Mq.refl _ _⟩
  have HD : Hid (drV H k = 0) := by show _ = _; simp [drV, k1, k2, k3, k4, k6]
  clear R
  go_enter Tryz.func103, Tryz.ntmps103
  go_wp2_with fail
  go_ret
  exact ⟨by rw [HD.out]; rfl, _, HR.out, Below.refl _ _, Mq.refl _ _⟩

set_option maxRecDepth 20000 in
set_option maxHeartbeats 8000000 in
theorem z_write {w : World} {B : Bp} {i o : Value} {zs : List Int} {H : Ht} {ri fa : Int} (R : Bs w B i o zs H ri fa) (K : Hok H) (k x : Int) (h0 : 0 ≤ k) (h7 : k ≤ 7) :
    Calls Tryz.prog 104 #[.pointer (some ⟨B.q, 3, none⟩), .int .i64 k, .int .i64 x] w fun e w' => e = .returned (.int .i64 (rgW k (wd x))) ∧ ∃ o', (Bs w' B i o' zs (dwW H k (wd x)) ri fa ∧ Below B.base w w') ∧ Mq (fun j => j = B.q ∨ j = B.cg ∨ o.ownBlock = some j) w w' := by
  have HR : Hid (Bs w B i o zs H ri fa) := R
  have HK : Hid (Hok H) := K
  have hwd := hwd_in x
  obtain ⟨u, hu⟩ : ∃ u, wd x = u := ⟨_, rfl⟩
  have HU : Hid (wd x = u) := hu
  rw [hu] at hwd ⊢
  have HW : Hid (0 ≤ u ∧ u ≤ 4294967295) := hwd
  clear K hu hwd
  by_cases k0 : k = 0
  · subst k0
    obtain ⟨bo, b1, b2, b3, b4⟩ := HR.out.ho
    obtain ⟨a3, n3, rfl, _⟩ := b3.shape
    obtain ⟨l, hl⟩ : ∃ l, H.out.length = l := ⟨_, rfl⟩
    rw [hl] at HR b3 R
    have HL : Hid (H.out.length = l) := hl
    have HO : Hid (Nums w bo (.slice a3 l n3) H.out) := b3
    have HB : Hid (B.base ≤ bo ∧ bo ≤ w.heap.size) := ⟨b1, b2⟩
    have HB4 : Hid (B.rg < bo ∧ B.cg < bo ∧ B.gm < bo ∧ ∀ k, i.ownBlock = some k → k < bo) := b4
    have c8 : w.cell? ⟨B.q, 11, none⟩ = some (.slice a3 l n3) := R.v.cell 11 rfl
    clear R hl b1 b2 b3 b4
    by_cases h4 : l < 40
    · have hI : (l : Int) < 40 := by omega
      have HD : Hid (dwW H 0 u = { H with out := H.out ++ [u] }) := by show _ = _; have := HL.out; simp [dwW, outW, this, h4]
      have H4 : Hid (l < 40) := h4
      clear h4
      go_enter Tryz.func104, Tryz.ntmps104
      go_wp2_with (first
        | (go_at_call 106; refine (s_wrap _ _).mono ?_; rintro e y ⟨rfl, hy⟩; rw [hy]; clear hy y; rw [HU.out])
        | (at_builtin; refine wp_appx _ rfl _ _ rfl bo _ H.out rfl (HO.out.keep (al (Below.refl _ _) _)) _ 1 1 [u] rfl (one_rn w u rfl) (by have := HL.out; have := H4.out; omega) (by have := HB.out; simp; omega) ?_; intro v' w' hN' hG'; obtain ⟨y, cap', hv', _⟩ := hN'.shape; obtain ⟨L, hL⟩ : ∃ L, (H.out ++ [u]).length = L := ⟨_, rfl⟩; rw [hL] at hv'; clear hL; subst hv'; have N1 : Hid (Nums w' bo (.slice y L cap') (H.out ++ [u])) := hN'; have G1 : Hid ((w.alloc (.cells #[.int .i64 u] 2)).grownBy w' (Value.slice a3 l n3).ownBlock) := hG'; have V1 : Hid (Vb w' B.q (busC B i (.slice a3 l n3) H ri fa) 53) := (HR.out.v.push _).gr hG' (fun e => HR.out.qo e.symm); clear hN' hG' c8; have c1 : w'.cell? ⟨B.q, 11, none⟩ = some (.slice a3 l n3) := V1.out.cell 11 rfl; have f1 := V1.out.free 11))
      go_ret
      refine ⟨rfl, .slice y L cap', ?_⟩
      rw [HD.out]
      have U := (HR.out.keep (al (Below.refl _ _) (.cells #[.int .i64 u] 2))).outn (G := { H with out := H.out ++ [u] }) G1.out bo HB.out.1 (by have := HB.out.2; simp; omega) HB4.out N1.out rfl rfl rfl rfl
      have OB : (Value.slice a3 H.out.length n3).ownBlock = (Value.slice a3 l n3).ownBlock := by cases a3 <;> rfl
      have G2 : Mq (fun j => j = B.q ∨ j = B.cg ∨ (Value.slice a3 H.out.length n3).ownBlock = some j) w w' := Mq.pre (Mq.of G1.out fun k e => .inr (.inr (OB.trans e.symm)))
      exact ⟨⟨U.1, (bless (al (Below.refl _ _) _) HR.out.size).trans U.2⟩, G2.set ⟨B.q, 11, none⟩ _ (.inl rfl)⟩
    · have hI : ¬ (l : Int) < 40 := by omega
      have HD : Hid (dwW H 0 u = H) := by show _ = _; have := HL.out; simp [dwW, outW, this, h4]
      clear h4
      go_enter Tryz.func104, Tryz.ntmps104
      go_wp2_with (go_at_call 106; refine (s_wrap _ _).mono ?_; rintro e y ⟨rfl, hy⟩; rw [hy]; clear hy y; rw [HU.out])
      go_ret
      exact ⟨rfl, _, ⟨by rw [HD.out]; exact HR.out, Below.refl _ _⟩, Mq.refl _ _⟩
  by_cases k3 : k = 3
  · subst k3
    have cc : w.cell? ⟨B.cg, 9, none⟩ = some (.int .i64 (gt H.csr 9)) := R.hc.cell R.hc.len 9 (by decide)
    have ff : w.frozen? ⟨B.cg, 9, none⟩ = false := R.hc.free R.hc.len 9
    have c2 : w.cell? ⟨B.q, 5, none⟩ = some (.slice (some ⟨B.cg, 0, none⟩) 11 B.ck) := R.v.cell 5 rfl
    have HD : Hid (dwW H 3 u = { H with csr := H.csr.set 9 u }) := by show _ = _; simp [dwW, setW, stH, standV]
    clear R
    go_enter Tryz.func104, Tryz.ntmps104
    go_wp2_with (go_at_call 106; refine (s_wrap _ _).mono ?_; rintro e y ⟨rfl, hy⟩; rw [hy]; clear hy y; rw [HU.out])
    go_ret
    exact ⟨rfl, _, ⟨by rw [HD.out]; exact (HR.out.csr 9 u).1, (HR.out.csr 9 u).2⟩, (Mq.refl _ _).set ⟨B.cg, 9, none⟩ _ (.inr (.inl rfl))⟩
  by_cases k4 : k = 4
  · subst k4
    have HD : Hid (setV H 6 u = dwW H 4 u) := by show _ = _; rw [setW_wd, ← HU.out, wd_wd]; rfl
    clear R
    go_enter Tryz.func104, Tryz.ntmps104
    go_wp2_with (go_at_call 106; refine (s_wrap _ _).mono ?_; rintro e y ⟨rfl, hy⟩; rw [hy]; clear hy y; rw [HU.out])
    refine (z_set HR.out HK.out 6 u (by decide) (by decide)).mono ?_
    rintro e w1 ⟨rfl, ⟨s1, t1⟩, m1⟩
    rw [HD.out] at s1
    have S1 : Hid ((Bs w1 B i o zs (dwW H 4 u) ri fa ∧ Below B.base w w1) ∧ Mq (fun j => j = B.q ∨ j = B.cg ∨ o.ownBlock = some j) w w1) := ⟨⟨s1, t1⟩, m1.more fun k e => e.elim .inl fun e => .inr (.inl e)⟩
    clear s1 t1 m1
    go_wp2_with fail
    go_ret
    exact ⟨rfl, _, S1.out⟩
  have HD : Hid (dwW H k u = H) := by show _ = _; simp [dwW, k0, k3, k4]
  clear R
  by_cases k5 : k = 5
  · subst k5
    go_enter Tryz.func104, Tryz.ntmps104
    go_wp2_with (go_at_call 106; refine (s_wrap _ _).mono ?_; rintro e y ⟨rfl, hy⟩; rw [hy]; clear hy y; rw [HU.out])
    go_ret
    exact ⟨rfl, _, ⟨by rw [HD.out]; exact HR.out, Below.refl _ _⟩, Mq.refl _ _⟩
  have HG : Hid (rgW k u = -1) := by show _ = _; simp [rgW, k5]
  go_enter Tryz.func104, Tryz.ntmps104
  go_wp2_with (go_at_call 106; refine (s_wrap _ _).mono ?_; rintro e y ⟨rfl, hy⟩; rw [hy]; clear hy y; rw [HU.out])
  go_ret
  exact ⟨by rw [HG.out]; rfl, _, ⟨by rw [HD.out]; exact HR.out, Below.refl _ _⟩, Mq.refl _ _⟩
end Go.Proofs.YtcbcbgomafeccaaGreatDoor
