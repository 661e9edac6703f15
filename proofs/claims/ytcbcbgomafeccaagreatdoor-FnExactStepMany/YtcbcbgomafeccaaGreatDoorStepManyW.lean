/- The walk of a law. -/
import Derived.Test.YtcbcbgomafeccaaGreatDoorCards
import Derived.Test.YtcbcbgomafeccaaGreatDoorTie
import Derived.Deep.DeepHandedRow
import Derived.Lib.LaidTab
import Derived.Stop.LaidErr
import Derived.Lib.SmallJoins
import Derived.Deep.RegionWith
import Derived.Deep.RegionHeld3
import Derived.Deep.Cut
import Derived.Deep.CutRange
import Derived.Test.YtcbcbgomafeccaaGreatDoorQ01
import Derived.Test.YtcbcbgomafeccaaGreatDoorQ13
import Derived.Test.YtcbcbgomafeccaaGreatDoorQ48
import Derived.Test.YtcbcbgomafeccaaGreatDoorQ51
namespace Go.Proofs.YtcbcbgomafeccaaGreatDoor.fnExactStepManyDone
open Go.ChangeShapes Go.WideShapes Go.ChangeAt Go.RowKit
open Go.ChangeMaps (open_string shut_string)
set_option linter.unusedVariables false

set_option maxRecDepth 20000 in
set_option maxHeartbeats 16000000 in
theorem walk (a0 a1 a2 a3 : Option Addr) (n0 c0 n1 c1 n2 c2 n3 c3 : Nat) (H : Ht) (pa : Option Addr) (pn pc : Nat) (ps : List (Int × Int)) (ma : Option Addr) (mn mc : Nat) (zs : List Int) (n : Int) (w : World) (h : Hin w a0 n0 c0 a1 n1 c1 a2 n2 c2 a3 n3 c3 H) (hp : IsPairs w pa pn pc ps) (hm : IsRow .i64 w ma mn mc zs) (wn : (Lit.int .i64 n).wf = true) (hg : Tab w) :
    Calls Tryz.prog 4 #[.agg #[.slice a0 n0 c0, .int .i64 H.pc, .slice a1 n1 c1, .bool H.halted, .bool H.waiting, .bool H.rung, .int .i64 H.done, .slice a2 n2 c2, .slice a3 n3 c3], .slice pa pn pc, .slice ma mn mc, .int .i64 n] w fun e w' => e = .returned (.bool true) ∧ Below w.heap.size w w' := by
  generalize hW : w.alloc (.cells #[.slice a0 n0 c0, .int .i64 H.pc, .slice a1 n1 c1, .bool H.halted, .bool H.waiting, .bool H.rung, .int .i64 H.done, .slice a2 n2 c2, .slice a3 n3 c3] 24) = W
  have B0 : Hid (Below w.heap.size w W) := by show Below _ _ _; rw [← hW]; exact al (Below.refl _ _) _
  obtain ⟨s, hS⟩ : ∃ s, w.heap.size = s := ⟨_, rfl⟩
  have Q : Hid (Vb W s #[.slice a0 n0 c0, .int .i64 H.pc, .slice a1 n1 c1, .bool H.halted, .bool H.waiting, .bool H.rung, .int .i64 H.done, .slice a2 n2 c2, .slice a3 n3 c3] 24) := by
    show Vb _ _ _ _
    rw [← hW, ← hS]
    exact Vb.new _ _ _
  have HP : Hid (Hin W a0 n0 c0 a1 n1 c1 a2 n2 c2 a3 n3 c3 H) := h.stay B0.out
  have PP : Hid (IsPairs W pa pn pc ps) := hp.stay B0.out
  have MM : Hid (IsRow .i64 W ma mn mc zs) := hm.stay B0.out
  have LM : Hid (mn = zs.length ∧ mn ≤ 9223372036854775807) := hm.ln
  have LP : Hid (pn = ps.length ∧ pn ≤ 9223372036854775807) := ⟨hp.len, pairs_max hp⟩
  have HG : Hid (Tab W ∧ 0 < W.heap.size) := ⟨hg.keep B0.out, Nat.lt_of_lt_of_le (block_of_cell hg.c0) B0.out.size⟩
  have mi : (mn : Int) ≤ 9223372036854775807 := by have := LM.out.2; omega
  clear h hp hm hg wn
  have q0 := Q.out.cell 0 rfl
  have q1 := Q.out.cell 1 rfl
  have q2 := Q.out.cell 2 rfl
  have q3 := Q.out.cell 3 rfl
  have q4 := Q.out.cell 4 rfl
  have q5 := Q.out.cell 5 rfl
  have q6 := Q.out.cell 6 rfl
  have q7 := Q.out.cell 7 rfl
  have q8 := Q.out.cell 8 rfl
  go_enter Tryz.func4, Tryz.ntmps4
  by_cases hbig : 1048576 < (mn : Int)
  · go_wp2_with fail
    go_ret
    exact ⟨rfl, B0.out⟩
  have SZ : Hid (mn ≤ 1048576) := by show _ ≤ _; omega
  go_wp2_with fail
  clear hW hS mi hbig
  refine (sz_hart _ _ _ _ _ _ _ _ _ _ _ _ H _ HP.out).mono ?_
  rintro e w1 ⟨⟨r, rfl, hr, hs⟩, b1⟩
  by_cases hneg : r < 0
  · go_wp2_with fail
    go_ret
    exact ⟨rfl, on B0.out b1⟩
  have SM : Hid (Hs n0 n1 n2 n3) := hs (by omega)
  have B1 : Hid (Below _ W w1) := b1
  clear hs b1 q0 q1 q2 q3 q4 q5 q6 q7 q8
  have szp := sz_pages pa pn pc r w1 LP.out.2 (by omega) hr
  by_cases hlo : r - (pn : Int) < 0
  · rw [if_pos hlo] at szp
    clear hlo
    go_wp2_with (go_at_call 6; refine szp.mono ?_; rintro e y ⟨rfl, hy⟩; rw [hy]; clear hy y)
    go_ret
    exact ⟨rfl, on B0.out B1.out⟩
  rw [if_neg hlo] at szp
  have SP : Hid (pn ≤ 1048576) := by show _ ≤ _; omega
  obtain ⟨r2', hr2⟩ : ∃ r2', r - (pn : Int) = r2' := ⟨_, rfl⟩
  rw [hr2] at szp hlo
  clear hr2 hr
  have LL : Hid (ps.length ≤ 1048576 ∧ zs.length ≤ 1048576) := ⟨by have := LP.out.1; have := SP.out; omega, by have := LM.out.1; have := SZ.out; omega⟩
  obtain ⟨Y, hY⟩ : ∃ Y, (smV H ps zs n) = Y := ⟨_, rfl⟩
  have HY : Hid ((smV H ps zs n) = Y) := hY
  have SY : Hid (totH Y.H + Y.zs.length ≤ 1000) := by show _ ≤ _; rw [← hY]; exact smV_small _ _ _ _
  obtain ⟨e0, le0⟩ : ∃ n, Y.H.regs.length = n := ⟨_, rfl⟩
  obtain ⟨e1, le1⟩ : ∃ n, Y.H.csr.length = n := ⟨_, rfl⟩
  obtain ⟨e2, le2⟩ : ∃ n, Y.H.inn.length = n := ⟨_, rfl⟩
  obtain ⟨e3, le3⟩ : ∃ n, Y.H.out.length = n := ⟨_, rfl⟩
  obtain ⟨e4, le4⟩ : ∃ n, Y.zs.length = n := ⟨_, rfl⟩
  have LY : Hid (Y.H.regs.length = e0 ∧ Y.H.csr.length = e1 ∧ Y.H.inn.length = e2 ∧ Y.H.out.length = e3 ∧ Y.zs.length = e4) := ⟨le0, le1, le2, le3, le4⟩
  clear hY le0 le1 le2 le3 le4
  have Q_ := Q.out.keep B1.out
  have q0 := Q_.cell 0 rfl
  have q1 := Q_.cell 1 rfl
  have q2 := Q_.cell 2 rfl
  have q3 := Q_.cell 3 rfl
  have q4 := Q_.cell 4 rfl
  have q5 := Q_.cell 5 rfl
  have q6 := Q_.cell 6 rfl
  have q7 := Q_.cell 7 rfl
  have q8 := Q_.cell 8 rfl
  clear Q_
  go_wp2_with (go_at_call 6; refine szp.mono ?_; rintro e y ⟨rfl, hy⟩; rw [hy]; clear hy y)
  clear q0 q1 q2 q3 q4 q5 q6 q7 q8 szp
  refine (to_hart _ _ _ _ _ _ _ _ _ _ _ _ H _ (HP.out.stay B1.out) SM.out).mono ?_
  rintro e w2 ⟨r2, d2, i2, o2, rfl, m2, A2, b2⟩
  clear A2
  have B1_ : Hid (Below _ W w2) := on B1.out b2
  go_wp2_with fail
  refine (to_pages pa pn pc ps w2 (PP.out.stay B1_.out) SP.out).mono ?_
  rintro e u2 ⟨g2, rfl, p2', b2'⟩
  have B2_ : Hid (Below _ W u2) := on B1_.out b2'
  go_wp2_with fail
  refine (to_nums ma mn mc zs u2 (MM.out.stay B2_.out) SZ.out).mono ?_
  rintro e v2 ⟨h2, rfl, k2, b2''⟩
  have Bv2 : Hid (Below _ W v2) := on B2_.out b2''
  have bv2 : Hid (Below w1.heap.size w1 v2) := on b2 (on b2' b2'')
  have M2 : Hid (Hm v2 0 r2 d2 i2 o2 H) := (m2.keep (on b2' b2'')).mono (Nat.zero_le _)
  have P2 : Hid (Prs 55 v2 0 (.slice (some ⟨g2, 0, none⟩) pn pn) ps) := (p2'.keep b2'').mono (Nat.zero_le _)
  have N2 : Hid (Nums v2 0 (.slice (some ⟨h2, 0, none⟩) mn mn) zs) := k2.mono (Nat.zero_le _)
  clear m2 b2 p2' b2' k2 b2'' B1_ B2_
  go_wp2_with fail
  have CALL := s_stepMany _ _ _ _ H _ _ _ ps _ _ _ zs n 0 v2 M2.out P2.out LL.out.1 N2.out LL.out.2
  rw [HY.out] at CALL
  refine CALL.mono ?_
  clear CALL M2 P2 N2 bv2
  rintro e w3 ⟨y0, y1, y2, y3, y4, rfl, t3, b3⟩
  obtain ⟨ya0, yk0, e0, _⟩ := t3.h.r
  obtain ⟨ya1, yk1, e1, _⟩ := t3.h.c
  obtain ⟨ya2, yk2, e2, _⟩ := t3.h.i
  obtain ⟨ya3, yk3, e3, _⟩ := t3.h.o
  obtain ⟨ya4, yk4, e4, _⟩ := t3.mm
  subst e0 e1 e2 e3 e4
  rw [LY.out.1, LY.out.2.1, LY.out.2.2.1, LY.out.2.2.2.1, LY.out.2.2.2.2] at t3 ⊢
  have L8 : Hid (∀ k, (Own4 (.slice ya0 e0 yk0) (.slice ya1 e1 yk1) (.slice ya2 e2 yk2) (.slice ya3 e3 yk3) k ∨ (Value.slice ya4 e4 yk4).ownBlock = some k) → k < w3.heap.size) := t3.lt
  have T3 : Hid (Tr (w3.alloc (.cells #[.int .i64 Y.code, .int .i64 Y.ca, .int .i64 Y.ri, .slice ya0 e0 yk0, .int .i64 Y.H.pc, .slice ya1 e1 yk1, .bool Y.H.halted, .bool Y.H.waiting, .bool Y.H.rung, .int .i64 Y.H.done, .slice ya2 e2 yk2, .slice ya3 e3 yk3, .slice ya4 e4 yk4] 30)) 0 (.slice ya0 e0 yk0) (.slice ya1 e1 yk1) (.slice ya2 e2 yk2) (.slice ya3 e3 yk3) (.slice ya4 e4 yk4) Y.H Y.zs) := ⟨(t3.keep (al (Below.refl _ _) _)).h, (t3.keep (al (Below.refl _ _) _)).mm, (t3.keep (al (Below.refl _ _) _)).lt⟩
  have B3 : Hid (Below _ W (w3.alloc (.cells #[.int .i64 Y.code, .int .i64 Y.ca, .int .i64 Y.ri, .slice ya0 e0 yk0, .int .i64 Y.H.pc, .slice ya1 e1 yk1, .bool Y.H.halted, .bool Y.H.waiting, .bool Y.H.rung, .int .i64 Y.H.done, .slice ya2 e2 yk2, .slice ya3 e3 yk3, .slice ya4 e4 yk4] 30))) := al (on Bv2.out b3) _
  have Y3 : Hid (Vb (w3.alloc (.cells #[.int .i64 Y.code, .int .i64 Y.ca, .int .i64 Y.ri, .slice ya0 e0 yk0, .int .i64 Y.H.pc, .slice ya1 e1 yk1, .bool Y.H.halted, .bool Y.H.waiting, .bool Y.H.rung, .int .i64 Y.H.done, .slice ya2 e2 yk2, .slice ya3 e3 yk3, .slice ya4 e4 yk4] 30)) w3.heap.size #[.int .i64 Y.code, .int .i64 Y.ca, .int .i64 Y.ri, .slice ya0 e0 yk0, .int .i64 Y.H.pc, .slice ya1 e1 yk1, .bool Y.H.halted, .bool Y.H.waiting, .bool Y.H.rung, .int .i64 Y.H.done, .slice ya2 e2 yk2, .slice ya3 e3 yk3, .slice ya4 e4 yk4] 30) := Vb.new _ _ _
  have Z3 : Hid (w3.heap.size + 1 = (w3.alloc (.cells #[.int .i64 Y.code, .int .i64 Y.ca, .int .i64 Y.ri, .slice ya0 e0 yk0, .int .i64 Y.H.pc, .slice ya1 e1 yk1, .bool Y.H.halted, .bool Y.H.waiting, .bool Y.H.rung, .int .i64 Y.H.done, .slice ya2 e2 yk2, .slice ya3 e3 yk3, .slice ya4 e4 yk4] 30)).heap.size ∧ s < w3.heap.size) := ⟨by simp, by have := Q.out.lt; have := (on Bv2.out b3).size; omega⟩
  clear t3 b3 Bv2
  have Q_ := Q.out.keep B3.out
  have q0 := Q_.cell 0 rfl
  have q1 := Q_.cell 1 rfl
  have q2 := Q_.cell 2 rfl
  have q3 := Q_.cell 3 rfl
  have q4 := Q_.cell 4 rfl
  have q5 := Q_.cell 5 rfl
  have q6 := Q_.cell 6 rfl
  have q7 := Q_.cell 7 rfl
  have q8 := Q_.cell 8 rfl
  clear Q_
  go_wp2_with fail
  clear q0 q1 q2 q3 q4 q5 q6 q7 q8
  generalize (w3.alloc (.cells #[.int .i64 Y.code, .int .i64 Y.ca, .int .i64 Y.ri, .slice ya0 e0 yk0, .int .i64 Y.H.pc, .slice ya1 e1 yk1, .bool Y.H.halted, .bool Y.H.waiting, .bool Y.H.rung, .int .i64 Y.H.done, .slice ya2 e2 yk2, .slice ya3 e3 yk3, .slice ya4 e4 yk4] 30)) = W3 at *
  obtain ⟨s8, hs8⟩ : ∃ s8, w3.heap.size = s8 := ⟨_, rfl⟩
  rw [hs8] at Y3 Z3 L8 ⊢
  clear hs8
  have BW3 : Hid (W.heap.size ≤ W3.heap.size) := B3.out.size
  refine (to_hart _ _ _ _ _ _ _ _ _ _ _ _ H _ (HP.out.stay B3.out) SM.out).mono ?_
  rintro e w4 ⟨r4, d4, i4, o4, rfl, m4, A4, b4⟩
  obtain ⟨xa0, xk0, e_, _⟩ := m4.r.shape
  subst e_
  obtain ⟨xa1, xk1, e_, _⟩ := m4.c.shape
  subst e_
  obtain ⟨xa2, xk2, e_, _⟩ := m4.i.shape
  subst e_
  obtain ⟨xa3, xk3, e_, _⟩ := m4.o.shape
  subst e_
  have M4 : Hid (Hm (w4.alloc (.cells #[.slice xa0 H.regs.length xk0, .int .i64 H.pc, .slice xa1 H.csr.length xk1, .bool H.halted, .bool H.waiting, .bool H.rung, .int .i64 H.done, .slice xa2 H.inn.length xk2, .slice xa3 H.out.length xk3] 28)) W3.heap.size (.slice xa0 H.regs.length xk0) (.slice xa1 H.csr.length xk1) (.slice xa2 H.inn.length xk2) (.slice xa3 H.out.length xk3) H) := m4.keep (al (Below.refl _ _) _)
  have HA4 : Hid (Ha (.slice xa0 H.regs.length xk0) (.slice xa1 H.csr.length xk1) (.slice xa2 H.inn.length xk2) (.slice xa3 H.out.length xk3)) := A4
  have B4 : Hid (Below _ W (w4.alloc (.cells #[.slice xa0 H.regs.length xk0, .int .i64 H.pc, .slice xa1 H.csr.length xk1, .bool H.halted, .bool H.waiting, .bool H.rung, .int .i64 H.done, .slice xa2 H.inn.length xk2, .slice xa3 H.out.length xk3] 28))) := al (on B3.out b4) _
  have D4 : Hid (Below W3.heap.size W3 (w4.alloc (.cells #[.slice xa0 H.regs.length xk0, .int .i64 H.pc, .slice xa1 H.csr.length xk1, .bool H.halted, .bool H.waiting, .bool H.rung, .int .i64 H.done, .slice xa2 H.inn.length xk2, .slice xa3 H.out.length xk3] 28))) := al b4 _
  have X4 : Hid (Vb (w4.alloc (.cells #[.slice xa0 H.regs.length xk0, .int .i64 H.pc, .slice xa1 H.csr.length xk1, .bool H.halted, .bool H.waiting, .bool H.rung, .int .i64 H.done, .slice xa2 H.inn.length xk2, .slice xa3 H.out.length xk3] 28)) w4.heap.size #[.slice xa0 H.regs.length xk0, .int .i64 H.pc, .slice xa1 H.csr.length xk1, .bool H.halted, .bool H.waiting, .bool H.rung, .int .i64 H.done, .slice xa2 H.inn.length xk2, .slice xa3 H.out.length xk3] 28) := Vb.new _ _ _
  have RN : Hid (∀ k, Own4 (.slice xa0 H.regs.length xk0) (.slice xa1 H.csr.length xk1) (.slice xa2 H.inn.length xk2) (.slice xa3 H.out.length xk3) k → W3.heap.size ≤ k ∧ k < w4.heap.size) := fun k e => m4.own k e
  have Z4 : Hid (W3.heap.size ≤ w4.heap.size ∧ w4.heap.size + 1 = (w4.alloc (.cells #[.slice xa0 H.regs.length xk0, .int .i64 H.pc, .slice xa1 H.csr.length xk1, .bool H.halted, .bool H.waiting, .bool H.rung, .int .i64 H.done, .slice xa2 H.inn.length xk2, .slice xa3 H.out.length xk3] 28)).heap.size) := ⟨b4.size, by simp⟩
  clear m4 A4 b4
  go_wp2_with fail
  generalize (w4.alloc (.cells #[.slice xa0 H.regs.length xk0, .int .i64 H.pc, .slice xa1 H.csr.length xk1, .bool H.halted, .bool H.waiting, .bool H.rung, .int .i64 H.done, .slice xa2 H.inn.length xk2, .slice xa3 H.out.length xk3] 28)) = W4 at *
  obtain ⟨s9, hs9⟩ : ∃ s9, w4.heap.size = s9 := ⟨_, rfl⟩
  rw [hs9] at X4 Z4 RN ⊢
  clear hs9
  refine (to_pages pa pn pc ps W4 (PP.out.stay B4.out) SP.out).mono ?_
  rintro e u4 ⟨g4, rfl, p4, b5⟩
  have P4 : Hid (Prs 55 u4 W4.heap.size (.slice (some ⟨g4, 0, none⟩) pn pn) ps) := p4
  have B4u : Hid (Below _ W u4) := on B4.out b5
  have D4u : Hid (Below W4.heap.size W4 u4) := b5
  have Z4u : Hid (W4.heap.size ≤ u4.heap.size) := b5.size
  have G4 : Hid (W4.heap.size ≤ g4 ∧ g4 < u4.heap.size) := p4.lt g4 rfl
  clear p4 b5
  go_wp2_with fail
  refine (to_nums ma mn mc zs u4 (MM.out.stay B4u.out) SZ.out).mono ?_
  rintro e v4 ⟨h4, rfl, n4, b5⟩
  have N4 : Hid (Nums v4 u4.heap.size (.slice (some ⟨h4, 0, none⟩) mn mn) zs) := n4
  have B4v : Hid (Below _ W v4) := on B4u.out b5
  have D4v : Hid (Below W4.heap.size W4 v4) := on D4u.out b5
  have Z4v : Hid (u4.heap.size ≤ v4.heap.size) := b5.size
  have P4v : Hid (Prs 55 v4 W4.heap.size (.slice (some ⟨g4, 0, none⟩) pn pn) ps) := P4.out.keep b5
  have H4 : Hid (u4.heap.size ≤ h4 ∧ h4 < v4.heap.size) := n4.lt h4 rfl
  clear n4 b5 P4 D4u B4u
  have BW4 : Hid (W.heap.size ≤ v4.heap.size) := B4v.out.size
  have M5 : Hid (Hm v4 W3.heap.size (.slice xa0 H.regs.length xk0) (.slice xa1 H.csr.length xk1) (.slice xa2 H.inn.length xk2) (.slice xa3 H.out.length xk3) H) := M4.out.keep D4v.out
  have X5 : Hid (Vb v4 s9 #[.slice xa0 H.regs.length xk0, .int .i64 H.pc, .slice xa1 H.csr.length xk1, .bool H.halted, .bool H.waiting, .bool H.rung, .int .i64 H.done, .slice xa2 H.inn.length xk2, .slice xa3 H.out.length xk3] 28) := X4.out.keep D4v.out
  have Y5 : Hid (Vb v4 s8 #[.int .i64 Y.code, .int .i64 Y.ca, .int .i64 Y.ri, .slice ya0 e0 yk0, .int .i64 Y.H.pc, .slice ya1 e1 yk1, .bool Y.H.halted, .bool Y.H.waiting, .bool Y.H.rung, .int .i64 Y.H.done, .slice ya2 e2 yk2, .slice ya3 e3 yk3, .slice ya4 e4 yk4] 30) := (Y3.out.keep D4.out).keep D4v.out
  have T5 : Hid (Tr v4 0 (.slice ya0 e0 yk0) (.slice ya1 e1 yk1) (.slice ya2 e2 yk2) (.slice ya3 e3 yk3) (.slice ya4 e4 yk4) Y.H Y.zs) := (T3.out.keep D4.out).keep D4v.out
  have q0 := X5.out.cell 0 rfl
  have q1 := X5.out.cell 1 rfl
  have q2 := X5.out.cell 2 rfl
  have q3 := X5.out.cell 3 rfl
  have q4 := X5.out.cell 4 rfl
  have q5 := X5.out.cell 5 rfl
  have q6 := X5.out.cell 6 rfl
  have q7 := X5.out.cell 7 rfl
  have q8 := X5.out.cell 8 rfl
  go_wp2_with fail
  clear q0 q1 q2 q3 q4 q5 q6 q7 q8
  have CALL := i_stepMany _ _ _ _ H _ _ _ ps _ _ _ zs n 0 v4 (M5.out.mono (Nat.zero_le _)) (P4v.out.mono (Nat.zero_le _)) LL.out.1 (N4.out.mono (Nat.zero_le _)) LL.out.2 (HG.out.1.keep B4v.out) (Nat.lt_of_lt_of_le HG.out.2 B4v.out.size)
  rw [HY.out] at CALL
  refine CALL.mono ?_
  clear CALL
  rintro e w5 ⟨z0, z1, z2, z3, z4, rfl, t5, b5⟩
  obtain ⟨za0, zk0, e0, _⟩ := t5.h.r.shape
  obtain ⟨za1, zk1, e1, _⟩ := t5.h.c.shape
  obtain ⟨za2, zk2, e2, _⟩ := t5.h.i.shape
  obtain ⟨za3, zk3, e3, _⟩ := t5.h.o.shape
  obtain ⟨za4, zk4, e4, _⟩ := t5.mm.shape
  subst e0 e1 e2 e3 e4
  rw [LY.out.1, LY.out.2.1, LY.out.2.2.1, LY.out.2.2.2.1, LY.out.2.2.2.2] at t5 ⊢
  have WN : Hid (Below w5.heap.size w5 (w5.alloc (.cells #[.int .i64 Y.code, .int .i64 Y.ca, .int .i64 Y.ri, .slice za0 e0 zk0, .int .i64 Y.H.pc, .slice za1 e1 zk1, .bool Y.H.halted, .bool Y.H.waiting, .bool Y.H.rung, .int .i64 Y.H.done, .slice za2 e2 zk2, .slice za3 e3 zk3, .slice za4 e4 zk4] 30))) := al (Below.refl _ _) _
  have T12 : Hid (Tm (w5.alloc (.cells #[.int .i64 Y.code, .int .i64 Y.ca, .int .i64 Y.ri, .slice za0 e0 zk0, .int .i64 Y.H.pc, .slice za1 e1 zk1, .bool Y.H.halted, .bool Y.H.waiting, .bool Y.H.rung, .int .i64 Y.H.done, .slice za2 e2 zk2, .slice za3 e3 zk3, .slice za4 e4 zk4] 30)) v4.heap.size (.slice za0 e0 zk0) (.slice za1 e1 zk1) (.slice za2 e2 zk2) (.slice za3 e3 zk3) (.slice za4 e4 zk4) Y.H Y.zs) := t5.keep WN.out
  have L12 : Hid (∀ k, (Own4 (.slice za0 e0 zk0) (.slice za1 e1 zk1) (.slice za2 e2 zk2) (.slice za3 e3 zk3) k ∨ (Value.slice za4 e4 zk4).ownBlock = some k) → v4.heap.size ≤ k ∧ k < w5.heap.size) := fun k e => t5.own k e
  have B5 : Hid (Below _ W (w5.alloc (.cells #[.int .i64 Y.code, .int .i64 Y.ca, .int .i64 Y.ri, .slice za0 e0 zk0, .int .i64 Y.H.pc, .slice za1 e1 zk1, .bool Y.H.halted, .bool Y.H.waiting, .bool Y.H.rung, .int .i64 Y.H.done, .slice za2 e2 zk2, .slice za3 e3 zk3, .slice za4 e4 zk4] 30))) := al (on B4v.out b5) _
  have D5 : Hid (Below v4.heap.size v4 (w5.alloc (.cells #[.int .i64 Y.code, .int .i64 Y.ca, .int .i64 Y.ri, .slice za0 e0 zk0, .int .i64 Y.H.pc, .slice za1 e1 zk1, .bool Y.H.halted, .bool Y.H.waiting, .bool Y.H.rung, .int .i64 Y.H.done, .slice za2 e2 zk2, .slice za3 e3 zk3, .slice za4 e4 zk4] 30))) := al b5 _
  have G5 : Hid (Vb (w5.alloc (.cells #[.int .i64 Y.code, .int .i64 Y.ca, .int .i64 Y.ri, .slice za0 e0 zk0, .int .i64 Y.H.pc, .slice za1 e1 zk1, .bool Y.H.halted, .bool Y.H.waiting, .bool Y.H.rung, .int .i64 Y.H.done, .slice za2 e2 zk2, .slice za3 e3 zk3, .slice za4 e4 zk4] 30)) w5.heap.size #[.int .i64 Y.code, .int .i64 Y.ca, .int .i64 Y.ri, .slice za0 e0 zk0, .int .i64 Y.H.pc, .slice za1 e1 zk1, .bool Y.H.halted, .bool Y.H.waiting, .bool Y.H.rung, .int .i64 Y.H.done, .slice za2 e2 zk2, .slice za3 e3 zk3, .slice za4 e4 zk4] 30) := Vb.new _ _ _
  have Y6 : Hid (Vb (w5.alloc (.cells #[.int .i64 Y.code, .int .i64 Y.ca, .int .i64 Y.ri, .slice za0 e0 zk0, .int .i64 Y.H.pc, .slice za1 e1 zk1, .bool Y.H.halted, .bool Y.H.waiting, .bool Y.H.rung, .int .i64 Y.H.done, .slice za2 e2 zk2, .slice za3 e3 zk3, .slice za4 e4 zk4] 30)) s8 #[.int .i64 Y.code, .int .i64 Y.ca, .int .i64 Y.ri, .slice ya0 e0 yk0, .int .i64 Y.H.pc, .slice ya1 e1 yk1, .bool Y.H.halted, .bool Y.H.waiting, .bool Y.H.rung, .int .i64 Y.H.done, .slice ya2 e2 yk2, .slice ya3 e3 yk3, .slice ya4 e4 yk4] 30) := Y5.out.keep D5.out
  have X6 : Hid (Vb (w5.alloc (.cells #[.int .i64 Y.code, .int .i64 Y.ca, .int .i64 Y.ri, .slice za0 e0 zk0, .int .i64 Y.H.pc, .slice za1 e1 zk1, .bool Y.H.halted, .bool Y.H.waiting, .bool Y.H.rung, .int .i64 Y.H.done, .slice za2 e2 zk2, .slice za3 e3 zk3, .slice za4 e4 zk4] 30)) s9 #[.slice xa0 H.regs.length xk0, .int .i64 H.pc, .slice xa1 H.csr.length xk1, .bool H.halted, .bool H.waiting, .bool H.rung, .int .i64 H.done, .slice xa2 H.inn.length xk2, .slice xa3 H.out.length xk3] 28) := X5.out.keep D5.out
  have T6 : Hid (Tr (w5.alloc (.cells #[.int .i64 Y.code, .int .i64 Y.ca, .int .i64 Y.ri, .slice za0 e0 zk0, .int .i64 Y.H.pc, .slice za1 e1 zk1, .bool Y.H.halted, .bool Y.H.waiting, .bool Y.H.rung, .int .i64 Y.H.done, .slice za2 e2 zk2, .slice za3 e3 zk3, .slice za4 e4 zk4] 30)) 0 (.slice ya0 e0 yk0) (.slice ya1 e1 yk1) (.slice ya2 e2 yk2) (.slice ya3 e3 yk3) (.slice ya4 e4 yk4) Y.H Y.zs) := T5.out.keep D5.out
  have M6 : Hid (Hm (w5.alloc (.cells #[.int .i64 Y.code, .int .i64 Y.ca, .int .i64 Y.ri, .slice za0 e0 zk0, .int .i64 Y.H.pc, .slice za1 e1 zk1, .bool Y.H.halted, .bool Y.H.waiting, .bool Y.H.rung, .int .i64 Y.H.done, .slice za2 e2 zk2, .slice za3 e3 zk3, .slice za4 e4 zk4] 30)) W3.heap.size (.slice xa0 H.regs.length xk0) (.slice xa1 H.csr.length xk1) (.slice xa2 H.inn.length xk2) (.slice xa3 H.out.length xk3) H) := M5.out.keep D5.out
  have P6 : Hid (Prs 55 (w5.alloc (.cells #[.int .i64 Y.code, .int .i64 Y.ca, .int .i64 Y.ri, .slice za0 e0 zk0, .int .i64 Y.H.pc, .slice za1 e1 zk1, .bool Y.H.halted, .bool Y.H.waiting, .bool Y.H.rung, .int .i64 Y.H.done, .slice za2 e2 zk2, .slice za3 e3 zk3, .slice za4 e4 zk4] 30)) W4.heap.size (.slice (some ⟨g4, 0, none⟩) pn pn) ps) := P4v.out.keep D5.out
  have N6 : Hid (Nums (w5.alloc (.cells #[.int .i64 Y.code, .int .i64 Y.ca, .int .i64 Y.ri, .slice za0 e0 zk0, .int .i64 Y.H.pc, .slice za1 e1 zk1, .bool Y.H.halted, .bool Y.H.waiting, .bool Y.H.rung, .int .i64 Y.H.done, .slice za2 e2 zk2, .slice za3 e3 zk3, .slice za4 e4 zk4] 30)) u4.heap.size (.slice (some ⟨h4, 0, none⟩) mn mn) zs) := N4.out.keep D5.out
  have Z5 : Hid (v4.heap.size ≤ w5.heap.size ∧ w5.heap.size + 1 = (w5.alloc (.cells #[.int .i64 Y.code, .int .i64 Y.ca, .int .i64 Y.ri, .slice za0 e0 zk0, .int .i64 Y.H.pc, .slice za1 e1 zk1, .bool Y.H.halted, .bool Y.H.waiting, .bool Y.H.rung, .int .i64 Y.H.done, .slice za2 e2 zk2, .slice za3 e3 zk3, .slice za4 e4 zk4] 30)).heap.size) := ⟨b5.size, by simp⟩
  have ly : s8 < w5.heap.size := (Y5.out.keep b5).lt
  have y0 := (Y5.out.keep b5).cell 0 rfl
  have y1 := (Y5.out.keep b5).cell 1 rfl
  have y2 := (Y5.out.keep b5).cell 2 rfl
  have y3 := (Y5.out.keep b5).cell 3 rfl
  have y4 := (Y5.out.keep b5).cell 4 rfl
  have y5 := (Y5.out.keep b5).cell 5 rfl
  have y6 := (Y5.out.keep b5).cell 6 rfl
  have y7 := (Y5.out.keep b5).cell 7 rfl
  have y8 := (Y5.out.keep b5).cell 8 rfl
  have y9 := (Y5.out.keep b5).cell 9 rfl
  have y10 := (Y5.out.keep b5).cell 10 rfl
  have y11 := (Y5.out.keep b5).cell 11 rfl
  have y12 := (Y5.out.keep b5).cell 12 rfl
  clear t5 b5 M4 X4 Y3 T3 M5 X5 Y5 T5 P4v N4 D4 D4v B4 B4v B3
  go_wp2_with fail
  clear y0 y1 y2 y3 y4 y5 y6 y7 y8 y9 y10 y11 y12 ly
  generalize (w5.alloc (.cells #[.int .i64 Y.code, .int .i64 Y.ca, .int .i64 Y.ri, .slice za0 e0 zk0, .int .i64 Y.H.pc, .slice za1 e1 zk1, .bool Y.H.halted, .bool Y.H.waiting, .bool Y.H.rung, .int .i64 Y.H.done, .slice za2 e2 zk2, .slice za3 e3 zk3, .slice za4 e4 zk4] 30)) = W5 at *
  obtain ⟨s12, hs12⟩ : ∃ s12, w5.heap.size = s12 := ⟨_, rfl⟩
  rw [hs12] at G5 Z5 L12 ⊢
  clear hs12 WN
  refine (eq_stres _ _ _ _ _ _ _ _ _ _ _ _ _ Y.H Y.zs W5 T12.out.h.hr T12.out.mm.rv T6.out.h T6.out.mm).mono ?_
  rintro e w7 ⟨rfl, b7⟩
  have B7 : Hid (Below _ W w7) := on B5.out b7
  have D7 : Hid (Below W5.heap.size W5 w7) := b7
  clear b7
  go_upto_region 17 with fail
  have s1_ := Q.out.keep B7.out
  have s2_ := X6.out.keep D7.out
  have S0 : Hid (Vb w7.drew s #[.slice a0 n0 c0, .int .i64 H.pc, .slice a1 n1 c1, .bool H.halted, .bool H.waiting, .bool H.rung, .int .i64 H.done, .slice a2 n2 c2, .slice a3 n3 c3] 24 ∧ Vb w7.drew s9 #[.slice xa0 H.regs.length xk0, .int .i64 H.pc, .slice xa1 H.csr.length xk1, .bool H.halted, .bool H.waiting, .bool H.rung, .int .i64 H.done, .slice xa2 H.inn.length xk2, .slice xa3 H.out.length xk3] 28) := ⟨s1_, s2_⟩
  clear s1_ s2_
  have D8 : Hid (Below W5.heap.size W5 w7.drew) := D7.out.drew
  have B8 : Hid (Below _ W w7.drew) := B7.out.drew
  clear D7 B7
  refine wp_region_held (S := fun w' => Vb w' s #[.slice a0 n0 c0, .int .i64 H.pc, .slice a1 n1 c1, .bool H.halted, .bool H.waiting, .bool H.rung, .int .i64 H.done, .slice a2 n2 c2, .slice a3 n3 c3] 24 ∧ Vb w' s9 #[.slice xa0 H.regs.length xk0, .int .i64 H.pc, .slice xa1 H.csr.length xk1, .bool H.halted, .bool H.waiting, .bool H.rung, .int .i64 H.done, .slice xa2 H.inn.length xk2, .slice xa3 H.out.length xk3] 28) (by kernel_rfl) ?_
  change wpAnyH _ _ _ _ _ _ _ _ (World.drew _)
  generalize w7.drew = x0 at *
  refine wpAnyH_take (i := 0) (v := .agg #[.slice xa0 H.regs.length xk0, .int .i64 H.pc, .slice xa1 H.csr.length xk1, .bool H.halted, .bool H.waiting, .bool H.rung, .int .i64 H.done, .slice xa2 H.inn.length xk2, .slice xa3 H.out.length xk3]) rfl (by kernel_rfl) (by kernel_rfl) (by kernel_rfl) (fun _ _ _ h => h) (Or.inl ⟨by rfl, fun w' hs => by have y0 := hs.2.cell 0 rfl; have y1 := hs.2.cell 1 rfl; have y2 := hs.2.cell 2 rfl; have y3 := hs.2.cell 3 rfl; have y4 := hs.2.cell 4 rfl; have y5 := hs.2.cell 5 rfl; have y6 := hs.2.cell 6 rfl; have y7 := hs.2.cell 7 rfl; have y8 := hs.2.cell 8 rfl; go_simp⟩) S0.out ?_
  change wpAnyH _ _ _ _ _ _ _ (Act.put _ (some 55) _) _
  simp only [Act.put, List.setIfInBounds_toArray, List.set_cons_zero, List.set_cons_succ]
  refine wpAnyH_take (i := 1) (v := .agg #[.slice a0 n0 c0, .int .i64 H.pc, .slice a1 n1 c1, .bool H.halted, .bool H.waiting, .bool H.rung, .int .i64 H.done, .slice a2 n2 c2, .slice a3 n3 c3]) rfl (by kernel_rfl) (by kernel_rfl) (by kernel_rfl) (fun _ _ _ h => h) (Or.inl ⟨by rfl, fun w' hs => by have y0 := hs.1.cell 0 rfl; have y1 := hs.1.cell 1 rfl; have y2 := hs.1.cell 2 rfl; have y3 := hs.1.cell 3 rfl; have y4 := hs.1.cell 4 rfl; have y5 := hs.1.cell 5 rfl; have y6 := hs.1.cell 6 rfl; have y7 := hs.1.cell 7 rfl; have y8 := hs.1.cell 8 rfl; go_simp⟩) S0.out ?_
  change wpAnyH _ _ _ _ _ _ _ (Act.put _ (some 56) _) _
  simp only [Act.put, List.setIfInBounds_toArray, List.set_cons_zero, List.set_cons_succ]
  refine wpAnyH_ready (rs := [2]) (by kernel_rfl) (by simp) ?_
  refine AllReadyH.cons rfl (fun K hK => ?_) AllReadyH.nil
  rw [if_pos (by rfl)]
  go_simp
  refine (to_hart _ _ _ _ _ _ _ _ _ _ _ _ H _ (HP.out.stay B8.out) SM.out).mono ?_
  rintro e x1 ⟨r8, d8, i8, o8, rfl, m8, A8, b8⟩
  clear A8
  have M8 : Hid (Hm x1 _ r8 d8 i8 o8 H) := m8
  have D9 : Hid (Below W5.heap.size W5 x1) := on D8.out b8
  have B9 : Hid (Below _ W x1) := on B8.out b8
  have S1 : Hid (Vb x1 s #[.slice a0 n0 c0, .int .i64 H.pc, .slice a1 n1 c1, .bool H.halted, .bool H.waiting, .bool H.rung, .int .i64 H.done, .slice a2 n2 c2, .slice a3 n3 c3] 24 ∧ Vb x1 s9 #[.slice xa0 H.regs.length xk0, .int .i64 H.pc, .slice xa1 H.csr.length xk1, .bool H.halted, .bool H.waiting, .bool H.rung, .int .i64 H.done, .slice xa2 H.inn.length xk2, .slice xa3 H.out.length xk3] 28) := ⟨S0.out.1.keep b8, S0.out.2.keep b8⟩
  clear m8 b8 D8 B8 S0
  refine hK.out _ _ S1.out (fun _ => ?_)
  clear hK K
  refine wpAnyH_ready (rs := [3]) (by kernel_rfl) (by simp) ?_
  refine AllReadyH.cons rfl (fun K hK => ?_) AllReadyH.nil
  rw [if_pos (by rfl)]
  go_simp
  refine (eq_hart _ _ _ _ _ _ _ _ H _ _ _ (M6.out.keep D9.out) M8.out).mono ?_
  rintro e x2 ⟨rfl, b9⟩
  have D10 : Hid (Below W5.heap.size W5 x2) := on D9.out b9
  have B10 : Hid (Below _ W x2) := on B9.out b9
  have S2 : Hid (Vb x2 s #[.slice a0 n0 c0, .int .i64 H.pc, .slice a1 n1 c1, .bool H.halted, .bool H.waiting, .bool H.rung, .int .i64 H.done, .slice a2 n2 c2, .slice a3 n3 c3] 24 ∧ Vb x2 s9 #[.slice xa0 H.regs.length xk0, .int .i64 H.pc, .slice xa1 H.csr.length xk1, .bool H.halted, .bool H.waiting, .bool H.rung, .int .i64 H.done, .slice xa2 H.inn.length xk2, .slice xa3 H.out.length xk3] 28) := ⟨S1.out.1.keep b9, S1.out.2.keep b9⟩
  clear b9 D9 B9 S1 M8
  refine hK.out _ _ S2.out (fun _ => ?_)
  clear hK K
  refine wpAnyH_take (i := 4) (v := .bool false) rfl (by kernel_rfl) (by kernel_rfl) (by kernel_rfl) (fun _ _ _ h => h) (Or.inl ⟨by rfl, fun w' hs => by go_simp⟩) S2.out ?_
  change wpAnyH _ _ _ _ _ _ _ (Act.put _ (some 59) _) _
  simp only [Act.put, List.setIfInBounds_toArray, List.set_cons_zero, List.set_cons_succ]
  refine wpAnyH_done (by kernel_rfl) ?_ _
  clear S2
  go_wp2_with fail
  refine (to_pages pa pn pc ps x2 (PP.out.stay B10.out) SP.out).mono ?_
  rintro e x3 ⟨g8, rfl, p8, b8⟩
  have D11 : Hid (Below W5.heap.size W5 x3) := on D10.out b8
  have B11 : Hid (Below _ W x3) := on B10.out b8
  have P8 : Hid (Prs 55 x3 _ (.slice (some ⟨g8, 0, none⟩) pn pn) ps) := p8
  clear p8 b8 D10 B10
  go_wp2_with fail
  refine (eq_pages _ _ ps _ _ x3 (P6.out.keep D11.out) P8.out).mono ?_
  rintro e x4 ⟨rfl, b8⟩
  have D12 : Hid (Below W5.heap.size W5 x4) := on D11.out b8
  have B12 : Hid (Below _ W x4) := on B11.out b8
  clear b8 D11 B11 P8
  go_wp2_with fail
  refine (to_nums ma mn mc zs x4 (MM.out.stay B12.out) SZ.out).mono ?_
  rintro e x5 ⟨h8, rfl, n8, b8⟩
  have D13 : Hid (Below W5.heap.size W5 x5) := on D12.out b8
  have B13 : Hid (Below _ W x5) := on B12.out b8
  have N8 : Hid (Nums x5 _ (.slice (some ⟨h8, 0, none⟩) mn mn) zs) := n8
  clear n8 b8 D12 B12
  go_wp2_with fail
  refine (eq_nums _ _ zs _ _ x5 (N6.out.keep D13.out) N8.out).mono ?_
  rintro e x6 ⟨rfl, b8⟩
  have D14 : Hid (Below W5.heap.size W5 x6) := on D13.out b8
  have B14 : Hid (Below _ W x6) := on B13.out b8
  clear b8 D13 B13 N8
  have X7 : Hid (Vb x6 s9 #[.slice xa0 H.regs.length xk0, .int .i64 H.pc, .slice xa1 H.csr.length xk1, .bool H.halted, .bool H.waiting, .bool H.rung, .int .i64 H.done, .slice xa2 H.inn.length xk2, .slice xa3 H.out.length xk3] 28) := X6.out.keep D14.out
  have Y7 : Hid (Vb x6 s8 #[.int .i64 Y.code, .int .i64 Y.ca, .int .i64 Y.ri, .slice ya0 e0 yk0, .int .i64 Y.H.pc, .slice ya1 e1 yk1, .bool Y.H.halted, .bool Y.H.waiting, .bool Y.H.rung, .int .i64 Y.H.done, .slice ya2 e2 yk2, .slice ya3 e3 yk3, .slice ya4 e4 yk4] 30) := Y6.out.keep D14.out
  have G7 : Hid (Vb x6 s12 #[.int .i64 Y.code, .int .i64 Y.ca, .int .i64 Y.ri, .slice za0 e0 zk0, .int .i64 Y.H.pc, .slice za1 e1 zk1, .bool Y.H.halted, .bool Y.H.waiting, .bool Y.H.rung, .int .i64 Y.H.done, .slice za2 e2 zk2, .slice za3 e3 zk3, .slice za4 e4 zk4] 30) := G5.out.keep D14.out
  have T7 : Hid (Tr x6 0 (.slice ya0 e0 yk0) (.slice ya1 e1 yk1) (.slice ya2 e2 yk2) (.slice ya3 e3 yk3) (.slice ya4 e4 yk4) Y.H Y.zs) := T6.out.keep D14.out
  have U7 : Hid (Tm x6 v4.heap.size (.slice za0 e0 zk0) (.slice za1 e1 zk1) (.slice za2 e2 zk2) (.slice za3 e3 zk3) (.slice za4 e4 zk4) Y.H Y.zs) := T12.out.keep D14.out
  have M7 : Hid (Hm x6 W3.heap.size (.slice xa0 H.regs.length xk0) (.slice xa1 H.csr.length xk1) (.slice xa2 H.inn.length xk2) (.slice xa3 H.out.length xk3) H) := M6.out.keep D14.out
  have P7 : Hid (Prs 55 x6 W4.heap.size (.slice (some ⟨g4, 0, none⟩) pn pn) ps) := P6.out.keep D14.out
  have N7 : Hid (Nums x6 u4.heap.size (.slice (some ⟨h4, 0, none⟩) mn mn) zs) := N6.out.keep D14.out
  have L8' : Hid (∀ k, (Own4 (.slice ya0 e0 yk0) (.slice ya1 e1 yk1) (.slice ya2 e2 yk2) (.slice ya3 e3 yk3) k ∨ (Value.slice ya4 e4 yk4).ownBlock = some k) → k < s8) := L8.out
  clear X6 Y6 G5 T6 T12 M6 P6 N6 D14 D5 B5 L8
  have q0 := X7.out.cell 0 rfl
  have q1 := X7.out.cell 1 rfl
  have q2 := X7.out.cell 2 rfl
  have q3 := X7.out.cell 3 rfl
  have q4 := X7.out.cell 4 rfl
  have q5 := X7.out.cell 5 rfl
  have q6 := X7.out.cell 6 rfl
  have q7 := X7.out.cell 7 rfl
  have q8 := X7.out.cell 8 rfl
  go_wp2_with fail
  clear q0 q1 q2 q3 q4 q5 q6 q7 q8
  have TH : Hid ((1 : Int) + totH H ≤ 5000000) := by
    show _ ≤ _
    have h0 := (HP.out.regs).ln.1
    have h1 := (HP.out.csr).ln.1
    have h2 := (HP.out.inn).ln.1
    have h3 := (HP.out.out).ln.1
    have := SM.out.regs
    have := SM.out.csr
    have := SM.out.inn
    have := SM.out.out
    unfold totH
    omega
  refine (mark_hart _ _ _ _ H 1 _ x6 M7.out HA4.out (by decide) (by have := TH.out; omega)).mono ?_
  rintro e m1 ⟨rfl, _, mk1⟩
  have K1 : Hid (Mq (fun k => W3.heap.size ≤ k ∧ k < v4.heap.size) x6 m1) := mq_widT mk1 fun k e => by have := RN.out k e; have := Z4.out; have := Z4u.out; have := Z4v.out; omega
  have P9 : Hid (Prs 55 m1 W4.heap.size (.slice (some ⟨g4, 0, none⟩) pn pn) ps) := mk1.prs P7.out fun k e f => by have := (P7.out.lt k e).1; have := (RN.out k f).2; have := Z4.out; omega
  have N9 : Hid (Nums m1 u4.heap.size (.slice (some ⟨h4, 0, none⟩) mn mn) zs) := mk1.nums N7.out fun k e f => by have := (N7.out.lt k e).1; have := (RN.out k f).2; have := Z4.out; have := Z4u.out; omega
  have hp1 : 0 ≤ (1 : Int) + totH H := by omega
  have hq1 : (1 : Int) + totH H ≤ 5000000 := TH.out
  generalize (1 : Int) + totH H = T1 at *
  clear mk1 M7 P7 N7
  go_wp2_with fail
  refine (mark_pages _ T1 ps _ m1 P9.out hp1 (by have := LL.out.1; omega)).mono ?_
  rintro e m2 ⟨rfl, _, gk⟩
  have mk2 := Mq.of (S := fun k => k = g4) gk fun k e => (by simpa [Value.ownBlock] using e : k = g4)
  have K2 : Hid (Mq (fun k => W3.heap.size ≤ k ∧ k < v4.heap.size) x6 m2) := K1.out.trans (mq_widT mk2 fun k e => by have := G4.out; have := Z4.out; have := Z4u.out; have := Z4v.out; omega)
  have N10 : Hid (Nums m2 u4.heap.size (.slice (some ⟨h4, 0, none⟩) mn mn) zs) := mk2.nums N9.out fun k e f => by have := (N9.out.lt k e).1; have := G4.out.2; omega
  have hp2 : 0 ≤ T1 + (2 * ps.length : Nat) := by omega
  have hq2 : T1 + (2 * ps.length : Nat) ≤ 9000000 := by have := LL.out.1; omega
  generalize T1 + (2 * ps.length : Nat) = T2 at *
  clear mk2 gk N9 P9 hp1 hq1 K1
  go_wp2_with fail
  refine (mark_nums _ T2 zs _ m2 N10.out hp2 (by have := LL.out.2; omega)).mono ?_
  rintro e m3 ⟨rfl, _, gk⟩
  have mk3 := Mq.of (S := fun k => k = h4) gk fun k e => (by simpa [Value.ownBlock] using e : k = h4)
  have K3 : Hid (Mq (fun k => W3.heap.size ≤ k ∧ k < v4.heap.size) x6 m3) := K2.out.trans (mq_widT mk3 fun k e => by have := H4.out; have := Z4.out; have := Z4u.out; omega)
  have hp3 : 0 ≤ T2 + (zs.length : Nat) := by omega
  have hq3 : T2 + (zs.length : Nat) ≤ 12000000 := by have := LL.out.2; omega
  generalize T2 + (zs.length : Nat) = T3 at *
  clear mk3 gk N10 hp2 hq2 K2
  have Bm : Hid (Below _ W m3) := Mq.below B14.out K3.out fun k e => by have := Z3.out; have := (show W.heap.size ≤ W3.heap.size from BW3.out); omega
  have Ym : Hid (Vb m3 s8 #[.int .i64 Y.code, .int .i64 Y.ca, .int .i64 Y.ri, .slice ya0 e0 yk0, .int .i64 Y.H.pc, .slice ya1 e1 yk1, .bool Y.H.halted, .bool Y.H.waiting, .bool Y.H.rung, .int .i64 Y.H.done, .slice ya2 e2 yk2, .slice ya3 e3 yk3, .slice ya4 e4 yk4] 30) := K3.out.vb Y7.out fun e => by have := Z3.out; omega
  have Gm : Hid (Vb m3 s12 #[.int .i64 Y.code, .int .i64 Y.ca, .int .i64 Y.ri, .slice za0 e0 zk0, .int .i64 Y.H.pc, .slice za1 e1 zk1, .bool Y.H.halted, .bool Y.H.waiting, .bool Y.H.rung, .int .i64 Y.H.done, .slice za2 e2 zk2, .slice za3 e3 zk3, .slice za4 e4 zk4] 30) := K3.out.vb G7.out fun e => by have := Z5.out; omega
  have Tm8 : Hid (Tr m3 0 (.slice ya0 e0 yk0) (.slice ya1 e1 yk1) (.slice ya2 e2 yk2) (.slice ya3 e3 yk3) (.slice ya4 e4 yk4) Y.H Y.zs) := T7.out.mq K3.out fun k e f => by have := L8'.out k e; have := Z3.out; omega
  have Um : Hid (Tm m3 v4.heap.size (.slice za0 e0 zk0) (.slice za1 e1 zk1) (.slice za2 e2 zk2) (.slice za3 e3 zk3) (.slice za4 e4 zk4) Y.H Y.zs) := U7.out.mq K3.out fun k e f => by have := (L12.out k e).1; omega
  clear K3 Y7 G7 T7 U7 B14 X7
  have y0 := Ym.out.cell 0 rfl
  have y1 := Ym.out.cell 1 rfl
  have y2 := Ym.out.cell 2 rfl
  have y3 := Ym.out.cell 3 rfl
  have y4 := Ym.out.cell 4 rfl
  have y5 := Ym.out.cell 5 rfl
  have y6 := Ym.out.cell 6 rfl
  have y7 := Ym.out.cell 7 rfl
  have y8 := Ym.out.cell 8 rfl
  have y9 := Ym.out.cell 9 rfl
  have y10 := Ym.out.cell 10 rfl
  have y11 := Ym.out.cell 11 rfl
  have y12 := Ym.out.cell 12 rfl
  have g0 := Gm.out.cell 0 rfl
  have g1 := Gm.out.cell 1 rfl
  have g2 := Gm.out.cell 2 rfl
  have g3 := Gm.out.cell 3 rfl
  have g4 := Gm.out.cell 4 rfl
  have g5 := Gm.out.cell 5 rfl
  have g6 := Gm.out.cell 6 rfl
  have g7 := Gm.out.cell 7 rfl
  have g8 := Gm.out.cell 8 rfl
  have g9 := Gm.out.cell 9 rfl
  have g10 := Gm.out.cell 10 rfl
  have g11 := Gm.out.cell 11 rfl
  have g12 := Gm.out.cell 12 rfl
  go_wp2_with fail
  clear y0 y1 y2 y3 y4 y5 y6 y7 y8 y9 y10 y11 y12 g0 g1 g2 g3 g4 g5 g6 g7 g8 g9 g10 g11 g12
  refine (eq_stres _ _ _ _ _ _ _ _ _ _ _ _ _ Y.H Y.zs m3 Um.out.h.hr Um.out.mm.rv Tm8.out.h Tm8.out.mm).mono ?_
  rintro e t5 ⟨rfl, b7⟩
  have Bp : Hid (Below _ W t5) := on Bm.out b7
  have Yp : Hid (Vb t5 s8 #[.int .i64 Y.code, .int .i64 Y.ca, .int .i64 Y.ri, .slice ya0 e0 yk0, .int .i64 Y.H.pc, .slice ya1 e1 yk1, .bool Y.H.halted, .bool Y.H.waiting, .bool Y.H.rung, .int .i64 Y.H.done, .slice ya2 e2 yk2, .slice ya3 e3 yk3, .slice ya4 e4 yk4] 30) := Ym.out.keep b7
  have Gp : Hid (Vb t5 s12 #[.int .i64 Y.code, .int .i64 Y.ca, .int .i64 Y.ri, .slice za0 e0 zk0, .int .i64 Y.H.pc, .slice za1 e1 zk1, .bool Y.H.halted, .bool Y.H.waiting, .bool Y.H.rung, .int .i64 Y.H.done, .slice za2 e2 zk2, .slice za3 e3 zk3, .slice za4 e4 zk4] 30) := Gm.out.keep b7
  have Tp : Hid (Tr t5 0 (.slice ya0 e0 yk0) (.slice ya1 e1 yk1) (.slice ya2 e2 yk2) (.slice ya3 e3 yk3) (.slice ya4 e4 yk4) Y.H Y.zs) := Tm8.out.keep b7
  have Up : Hid (Tm t5 v4.heap.size (.slice za0 e0 zk0) (.slice za1 e1 zk1) (.slice za2 e2 zk2) (.slice za3 e3 zk3) (.slice za4 e4 zk4) Y.H Y.zs) := Um.out.keep b7
  clear b7 Bm Ym Gm Tm8 Um hq3
  have g0 := Gp.out.cell 0 rfl
  have g1 := Gp.out.cell 1 rfl
  have g2 := Gp.out.cell 2 rfl
  have g3 := Gp.out.cell 3 rfl
  have g4 := Gp.out.cell 4 rfl
  have g5 := Gp.out.cell 5 rfl
  have g6 := Gp.out.cell 6 rfl
  have g7 := Gp.out.cell 7 rfl
  have g8 := Gp.out.cell 8 rfl
  have g9 := Gp.out.cell 9 rfl
  have g10 := Gp.out.cell 10 rfl
  have g11 := Gp.out.cell 11 rfl
  have g12 := Gp.out.cell 12 rfl
  go_wp2_with fail
  clear g0 g1 g2 g3 g4 g5 g6 g7 g8 g9 g10 g11 g12
  have HQ := mark_stres Y.code Y.ca Y.ri _ _ _ _ _ Y.H Y.zs 1 _ t5 Up.out (by decide) (by have := SY.out; omega)
  refine HQ.mono ?_
  clear HQ
  rintro e t6 ⟨rfl, n7, mk4⟩
  have K4 : Hid (Mq (fun k => v4.heap.size ≤ k ∧ k < s12) t5 t6) := mq_widT mk4 fun k e => L12.out k e
  have Bq : Hid (Below _ W t6) := Mq.below Bp.out K4.out fun k e => by have := BW4.out; omega
  have Yq : Hid (Vb t6 s8 #[.int .i64 Y.code, .int .i64 Y.ca, .int .i64 Y.ri, .slice ya0 e0 yk0, .int .i64 Y.H.pc, .slice ya1 e1 yk1, .bool Y.H.halted, .bool Y.H.waiting, .bool Y.H.rung, .int .i64 Y.H.done, .slice ya2 e2 yk2, .slice ya3 e3 yk3, .slice ya4 e4 yk4] 30) := K4.out.vb Yp.out fun e => by have := Z3.out; have := Z4.out; have := Z4u.out; have := Z4v.out; omega
  have Gq : Hid (Vb t6 s12 #[.int .i64 Y.code, .int .i64 Y.ca, .int .i64 Y.ri, .slice za0 e0 zk0, .int .i64 Y.H.pc, .slice za1 e1 zk1, .bool Y.H.halted, .bool Y.H.waiting, .bool Y.H.rung, .int .i64 Y.H.done, .slice za2 e2 zk2, .slice za3 e3 zk3, .slice za4 e4 zk4] 30) := K4.out.vb Gp.out fun e => by omega
  have Tq : Hid (Tr t6 0 (.slice ya0 e0 yk0) (.slice ya1 e1 yk1) (.slice ya2 e2 yk2) (.slice ya3 e3 yk3) (.slice ya4 e4 yk4) Y.H Y.zs) := Tp.out.mq K4.out fun k e f => by have := L8'.out k e; have := Z3.out; have := Z4.out; have := Z4u.out; have := Z4v.out; omega
  have Uq : Hid (Hm t6 v4.heap.size (.slice za0 e0 zk0) (.slice za1 e1 zk1) (.slice za2 e2 zk2) (.slice za3 e3 zk3) (mkH 1 Y.H) ∧ Nums t6 v4.heap.size (.slice za4 e4 zk4) (marks (1 + totH Y.H) Y.zs.length)) := ⟨n7.h, n7.mm⟩
  have HL : Hid ((1 : Int) + totH Y.H + (Y.zs.length : Nat) ≤ 4611686018427387904) := by show _ ≤ _; have := SY.out; omega
  obtain ⟨T4, hT4⟩ : ∃ T4, (1 : Int) + totH Y.H + (Y.zs.length : Nat) = T4 := ⟨_, rfl⟩
  have HT4 : Hid ((1 : Int) + totH Y.H + (Y.zs.length : Nat) = T4) := hT4
  have hp4 : 0 ≤ T4 := by omega
  rw [hT4]
  clear mk4 n7 hT4 Yp Gp Up Tp Bp K4
  have g0 := Gq.out.cell 0 rfl
  have g1 := Gq.out.cell 1 rfl
  have g2 := Gq.out.cell 2 rfl
  have g3 := Gq.out.cell 3 rfl
  have g4 := Gq.out.cell 4 rfl
  have g5 := Gq.out.cell 5 rfl
  have g6 := Gq.out.cell 6 rfl
  have g7 := Gq.out.cell 7 rfl
  have g8 := Gq.out.cell 8 rfl
  have g9 := Gq.out.cell 9 rfl
  have g10 := Gq.out.cell 10 rfl
  have g11 := Gq.out.cell 11 rfl
  have g12 := Gq.out.cell 12 rfl
  go_wp2_with fail
  clear g0 g1 g2 g3 g4 g5 g6 g7 g8 g9 g10 g11 g12
  refine (held_stres Y.code Y.ca Y.ri _ _ _ _ _ Y.H Y.zs.length 1 _ t6 Uq.out.1 Uq.out.2 (by decide) HL.out).mono ?_
  rw [HT4.out]
  rintro e t7 ⟨rfl, b7⟩
  have Br : Hid (Below _ W t7) := on Bq.out b7
  have Yr : Hid (Vb t7 s8 #[.int .i64 Y.code, .int .i64 Y.ca, .int .i64 Y.ri, .slice ya0 e0 yk0, .int .i64 Y.H.pc, .slice ya1 e1 yk1, .bool Y.H.halted, .bool Y.H.waiting, .bool Y.H.rung, .int .i64 Y.H.done, .slice ya2 e2 yk2, .slice ya3 e3 yk3, .slice ya4 e4 yk4] 30) := Yq.out.keep b7
  have Gr : Hid (Vb t7 s12 #[.int .i64 Y.code, .int .i64 Y.ca, .int .i64 Y.ri, .slice za0 e0 zk0, .int .i64 Y.H.pc, .slice za1 e1 zk1, .bool Y.H.halted, .bool Y.H.waiting, .bool Y.H.rung, .int .i64 Y.H.done, .slice za2 e2 zk2, .slice za3 e3 zk3, .slice za4 e4 zk4] 30) := Gq.out.keep b7
  have Tr' : Hid (Tr t7 0 (.slice ya0 e0 yk0) (.slice ya1 e1 yk1) (.slice ya2 e2 yk2) (.slice ya3 e3 yk3) (.slice ya4 e4 yk4) Y.H Y.zs) := Tq.out.keep b7
  have Ur : Hid (Hm t7 v4.heap.size (.slice za0 e0 zk0) (.slice za1 e1 zk1) (.slice za2 e2 zk2) (.slice za3 e3 zk3) (mkH 1 Y.H) ∧ Nums t7 v4.heap.size (.slice za4 e4 zk4) (marks (1 + totH Y.H) Y.zs.length)) := ⟨Uq.out.1.keep b7, Uq.out.2.keep b7⟩
  clear b7 Bq Yq Gq Tq Uq
  have Q_ := Q.out.keep Br.out
  have q0 := Q_.cell 0 rfl
  have q1 := Q_.cell 1 rfl
  have q2 := Q_.cell 2 rfl
  have q3 := Q_.cell 3 rfl
  have q4 := Q_.cell 4 rfl
  have q5 := Q_.cell 5 rfl
  have q6 := Q_.cell 6 rfl
  have q7 := Q_.cell 7 rfl
  have q8 := Q_.cell 8 rfl
  clear Q_
  go_wp2_with fail
  clear q0 q1 q2 q3 q4 q5 q6 q7 q8
  refine (to_hart _ _ _ _ _ _ _ _ _ _ _ _ H _ (HP.out.stay Br.out) SM.out).mono ?_
  rintro e w9 ⟨r9, d9, i9, o9, rfl, m9, A9, b9⟩
  clear A9
  have B1_ : Hid (Below _ W w9) := on Br.out b9
  go_wp2_with fail
  refine (to_pages pa pn pc ps w9 (PP.out.stay B1_.out) SP.out).mono ?_
  rintro e u9 ⟨g9, rfl, p9', b9'⟩
  have B2_ : Hid (Below _ W u9) := on B1_.out b9'
  go_wp2_with fail
  refine (to_nums ma mn mc zs u9 (MM.out.stay B2_.out) SZ.out).mono ?_
  rintro e v9 ⟨h9, rfl, k9, b9''⟩
  have Bv9 : Hid (Below _ W v9) := on B2_.out b9''
  have bv9 : Hid (Below t7.heap.size t7 v9) := on b9 (on b9' b9'')
  have M9 : Hid (Hm v9 0 r9 d9 i9 o9 H) := (m9.keep (on b9' b9'')).mono (Nat.zero_le _)
  have P9 : Hid (Prs 55 v9 0 (.slice (some ⟨g9, 0, none⟩) pn pn) ps) := (p9'.keep b9'').mono (Nat.zero_le _)
  have N9 : Hid (Nums v9 0 (.slice (some ⟨h9, 0, none⟩) mn mn) zs) := k9.mono (Nat.zero_le _)
  clear m9 b9 p9' b9' k9 b9'' B1_ B2_
  go_wp2_with fail
  have CALL := i_stepMany _ _ _ _ H _ _ _ ps _ _ _ zs n 0 v9 M9.out P9.out LL.out.1 N9.out LL.out.2 (HG.out.1.keep Bv9.out) (Nat.lt_of_lt_of_le HG.out.2 Bv9.out.size)
  rw [HY.out] at CALL
  refine CALL.mono ?_
  clear CALL M9 P9 N9
  rintro e t11 ⟨t0, t1, t2, t3, t4, rfl, u9, b9⟩
  obtain ⟨ta0, tk0, e0, _⟩ := u9.h.r.shape
  obtain ⟨ta1, tk1, e1, _⟩ := u9.h.c.shape
  obtain ⟨ta2, tk2, e2, _⟩ := u9.h.i.shape
  obtain ⟨ta3, tk3, e3, _⟩ := u9.h.o.shape
  obtain ⟨ta4, tk4, e4, _⟩ := u9.mm.shape
  subst e0 e1 e2 e3 e4
  rw [LY.out.1, LY.out.2.1, LY.out.2.2.1, LY.out.2.2.2.1, LY.out.2.2.2.2] at u9 ⊢
  have WN : Hid (Below t11.heap.size t11 (t11.alloc (.cells #[.int .i64 Y.code, .int .i64 Y.ca, .int .i64 Y.ri, .slice ta0 e0 tk0, .int .i64 Y.H.pc, .slice ta1 e1 tk1, .bool Y.H.halted, .bool Y.H.waiting, .bool Y.H.rung, .int .i64 Y.H.done, .slice ta2 e2 tk2, .slice ta3 e3 tk3, .slice ta4 e4 tk4] 30))) := al (Below.refl _ _) _
  have bb : Below t7.heap.size t7 t11 := on bv9.out b9
  have Bt : Hid (Below _ W t11) := on Br.out bb
  have Gt : Hid (Vb t11 s12 #[.int .i64 Y.code, .int .i64 Y.ca, .int .i64 Y.ri, .slice za0 e0 zk0, .int .i64 Y.H.pc, .slice za1 e1 zk1, .bool Y.H.halted, .bool Y.H.waiting, .bool Y.H.rung, .int .i64 Y.H.done, .slice za2 e2 zk2, .slice za3 e3 zk3, .slice za4 e4 zk4] 30) := Gr.out.keep bb
  have Tt : Hid (Tr t11 0 (.slice ya0 e0 yk0) (.slice ya1 e1 yk1) (.slice ya2 e2 yk2) (.slice ya3 e3 yk3) (.slice ya4 e4 yk4) Y.H Y.zs) := Tr'.out.keep bb
  have Ut : Hid (Hm t11 v4.heap.size (.slice za0 e0 zk0) (.slice za1 e1 zk1) (.slice za2 e2 zk2) (.slice za3 e3 zk3) (mkH 1 Y.H) ∧ Nums t11 v4.heap.size (.slice za4 e4 zk4) (marks (1 + totH Y.H) Y.zs.length)) := ⟨Ur.out.1.keep bb, Ur.out.2.keep bb⟩
  have U9 : Hid (Tm (t11.alloc (.cells #[.int .i64 Y.code, .int .i64 Y.ca, .int .i64 Y.ri, .slice ta0 e0 tk0, .int .i64 Y.H.pc, .slice ta1 e1 tk1, .bool Y.H.halted, .bool Y.H.waiting, .bool Y.H.rung, .int .i64 Y.H.done, .slice ta2 e2 tk2, .slice ta3 e3 tk3, .slice ta4 e4 tk4] 30)) 0 (.slice ta0 e0 tk0) (.slice ta1 e1 tk1) (.slice ta2 e2 tk2) (.slice ta3 e3 tk3) (.slice ta4 e4 tk4) Y.H Y.zs) := (u9.keep WN.out).mono (Nat.zero_le _)
  have Yt := Yr.out.keep bb
  have l6 : s8 < t11.heap.size := Yt.lt
  have y0 := Yt.cell 0 rfl
  have y1 := Yt.cell 1 rfl
  have y2 := Yt.cell 2 rfl
  have y3 := Yt.cell 3 rfl
  have y4 := Yt.cell 4 rfl
  have y5 := Yt.cell 5 rfl
  have y6 := Yt.cell 6 rfl
  have y7 := Yt.cell 7 rfl
  have y8 := Yt.cell 8 rfl
  have y9 := Yt.cell 9 rfl
  have y10 := Yt.cell 10 rfl
  have y11 := Yt.cell 11 rfl
  have y12 := Yt.cell 12 rfl
  clear b9 bb Yt u9 Yr Gr Tr' Ur bv9 Bv9 Br
  go_wp2_with fail
  refine (eq_stres _ _ _ _ _ _ _ _ _ _ _ _ _ Y.H Y.zs _ U9.out.h.hr U9.out.mm.rv (Tt.out.keep WN.out).h (Tt.out.keep WN.out).mm).mono ?_
  rintro e t12 ⟨rfl, b8⟩
  have b7 := on WN.out b8
  have Bu : Hid (Below _ W t12) := on Bt.out b7
  have Uu : Hid (Hm t12 v4.heap.size (.slice za0 e0 zk0) (.slice za1 e1 zk1) (.slice za2 e2 zk2) (.slice za3 e3 zk3) (mkH 1 Y.H) ∧ Nums t12 v4.heap.size (.slice za4 e4 zk4) (marks (1 + totH Y.H) Y.zs.length)) := ⟨Ut.out.1.keep b7, Ut.out.2.keep b7⟩
  have Gu := Gt.out.keep b7
  clear b7 b8 y0 y1 y2 y3 y4 y5 y6 y7 y8 y9 y10 y11 y12 l6
  have g0 := Gu.cell 0 rfl
  have g1 := Gu.cell 1 rfl
  have g2 := Gu.cell 2 rfl
  have g3 := Gu.cell 3 rfl
  have g4 := Gu.cell 4 rfl
  have g5 := Gu.cell 5 rfl
  have g6 := Gu.cell 6 rfl
  have g7 := Gu.cell 7 rfl
  have g8 := Gu.cell 8 rfl
  have g9 := Gu.cell 9 rfl
  have g10 := Gu.cell 10 rfl
  have g11 := Gu.cell 11 rfl
  have g12 := Gu.cell 12 rfl
  clear Gu
  go_wp2_with fail
  refine (held_stres Y.code Y.ca Y.ri _ _ _ _ _ Y.H Y.zs.length 1 _ t12 Uu.out.1 Uu.out.2 (by decide) HL.out).mono ?_
  rw [HT4.out]
  rintro e t13 ⟨rfl, b8⟩
  go_wp2_with fail
  go_ret
  exact ⟨rfl, on B0.out (on Bu.out b8)⟩
end Go.Proofs.YtcbcbgomafeccaaGreatDoor.fnExactStepManyDone
