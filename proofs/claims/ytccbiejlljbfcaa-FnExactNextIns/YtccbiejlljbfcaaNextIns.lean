/- The law FnExactNextIns answers true at every input, and each argument reads behind the call as it read ahead of it; no condition. -/
import Derived.Test.YtccbiejlljbfcaaBase
import Derived.Lib.SmallJoins
import Derived.Test.YtccbiejlljbfcaaXon
import Derived.Test.YtccbiejlljbfcaaHto
import Derived.Test.YtccbiejlljbfcaaPgy
import Derived.Deep.RegionWith
import Derived.Deep.Cut
import Derived.Deep.CutRange
namespace Go.Proofs.Ytccbiejlljbfcaa.fnExactNextInsDone
open Go.ChangeShapes Go.WideShapes Go.ChangeAt Go.RowKit
open Go.ChangeMaps (open_string shut_string)
set_option linter.unusedVariables false

set_option maxRecDepth 20000 in
set_option maxHeartbeats 16000000 in
theorem walk (a0 a1 a2 a3 : Option Addr) (n0 c0 n1 c1 n2 c2 n3 c3 : Nat) (H : Ht) (pa : Option Addr) (pn pc : Nat) (ps : List (Int × Int)) (ma : Option Addr) (mn mc : Nat) (zs : List Int) (w : World) (h : Hin w a0 n0 c0 a1 n1 c1 a2 n2 c2 a3 n3 c3 H) (hp : IsPairs w pa pn pc ps) (hm : IsRow .i64 w ma mn mc zs) :
    Calls Try.prog 5 #[.agg #[.slice a0 n0 c0, .int .i64 H.pc, .slice a1 n1 c1, .bool H.halted, .bool H.waiting, .bool H.rung, .int .i64 H.done, .slice a2 n2 c2, .slice a3 n3 c3], .slice pa pn pc, .slice ma mn mc] w fun e w' => e = .returned (.bool true) ∧ Below w.heap.size w w' := by
  generalize hW : w.alloc (.cells #[.slice a0 n0 c0, .int .i64 H.pc, .slice a1 n1 c1, .bool H.halted, .bool H.waiting, .bool H.rung, .int .i64 H.done, .slice a2 n2 c2, .slice a3 n3 c3] 24) = W
  have B0 : Hid (Below w.heap.size w W) := by show Below _ _ _; rw [← hW]; exact al (Below.refl _ _) _
  obtain ⟨s, hS⟩ : ∃ s, w.heap.size = s := ⟨_, rfl⟩
  have Q : Hid (Vb W s #[.slice a0 n0 c0, .int .i64 H.pc, .slice a1 n1 c1, .bool H.halted, .bool H.waiting, .bool H.rung, .int .i64 H.done, .slice a2 n2 c2, .slice a3 n3 c3] 24) := by
    show Vb _ _ _ _
    rw [← hW, ← hS]
    exact Vb.new _ _ _
  have HP : Hid (Hin W a0 n0 c0 a1 n1 c1 a2 n2 c2 a3 n3 c3 H) := h.stay B0.out
  have PP : Hid (IsPairs W pa pn pc ps) := hp.stay B0.out
  have MM : Hid (IsRow .i64 W ma mn mc zs) := hm.stay B0.out
  have LM : Hid (mn = zs.length ∧ mn ≤ 9223372036854775807) := hm.ln
  have LP : Hid (pn = ps.length ∧ pn ≤ 9223372036854775807) := ⟨hp.len, hp.max⟩
  have mi : (mn : Int) ≤ 9223372036854775807 := by have := LM.out.2; omega
  clear h hp hm
  have q0 := Q.out.cell 0 rfl
  have q1 := Q.out.cell 1 rfl
  have q2 := Q.out.cell 2 rfl
  have q3 := Q.out.cell 3 rfl
  have q4 := Q.out.cell 4 rfl
  have q5 := Q.out.cell 5 rfl
  have q6 := Q.out.cell 6 rfl
  have q7 := Q.out.cell 7 rfl
  have q8 := Q.out.cell 8 rfl
  go_enter Try.func5, Try.ntmps5
  by_cases hbig : 1048576 < (mn : Int)
  · go_wp2_with fail
    go_ret
    exact ⟨rfl, B0.out⟩
  have SZ : Hid (mn ≤ 1048576) := by show _ ≤ _; omega
  go_wp2_with fail
  clear hW hS mi hbig
  refine (sz_hart _ _ _ _ _ _ _ _ _ _ _ _ H _ HP.out).mono ?_
  rintro e w1 ⟨⟨r, rfl, hr, hs⟩, b1⟩
  by_cases hneg : r < 0
  · go_wp2_with fail
    go_ret
    exact ⟨rfl, on B0.out b1⟩
  have SM : Hid (Hs n0 n1 n2 n3) := hs (by omega)
  have B1 : Hid (Below _ W w1) := b1
  have Q1 := Q.out.keep b1
  clear hs b1 q0 q1 q2 q3 q4 q5 q6 q7 q8
  have q0 := Q1.cell 0 rfl
  have q1 := Q1.cell 1 rfl
  have q2 := Q1.cell 2 rfl
  have q3 := Q1.cell 3 rfl
  have q4 := Q1.cell 4 rfl
  have q5 := Q1.cell 5 rfl
  have q6 := Q1.cell 6 rfl
  have q7 := Q1.cell 7 rfl
  have q8 := Q1.cell 8 rfl
  clear Q1
  have szp := sz_pages pa pn pc r w1 LP.out.2 (by omega) hr
  by_cases hlo : r - (pn : Int) < 0
  · rw [if_pos hlo] at szp
    clear hlo
    go_wp2_with (go_at_call 7; refine szp.mono ?_; rintro e y ⟨rfl, hy⟩; rw [hy]; clear hy y)
    go_ret
    exact ⟨rfl, on B0.out B1.out⟩
  rw [if_neg hlo] at szp
  have SP : Hid (pn ≤ 1048576) := by show _ ≤ _; omega
  obtain ⟨r2', hr2⟩ : ∃ r2', r - (pn : Int) = r2' := ⟨_, rfl⟩
  rw [hr2] at szp hlo
  clear hr2 hr
  go_wp2_with (go_at_call 7; refine szp.mono ?_; rintro e y ⟨rfl, hy⟩; rw [hy]; clear hy y)
  clear q0 q1 q2 q3 q4 q5 q6 q7 q8 szp
  have LL : Hid (ps.length ≤ 1048576 ∧ zs.length ≤ 1048576) := ⟨by have := LP.out.1; have := SP.out; omega, by have := LM.out.1; have := SZ.out; omega⟩
  refine (to_hart _ _ _ _ _ _ _ _ _ _ _ _ H _ (HP.out.stay B1.out) SM.out).mono ?_
  rintro e w2 ⟨r2, d2, i2, o2, rfl, m2, A2, b2⟩
  have B2 : Hid (Below _ W w2) := on B1.out b2
  clear A2
  go_wp2_with fail
  refine (to_pages pa pn pc ps w2 (PP.out.stay B2.out) SP.out).mono ?_
  rintro e u2 ⟨g2, rfl, p2', b2'⟩
  have B2u : Hid (Below _ W u2) := on B2.out b2'
  go_wp2_with fail
  refine (to_nums ma mn mc zs u2 (MM.out.stay B2u.out) SZ.out).mono ?_
  rintro e v2 ⟨h2, rfl, k2, b2''⟩
  have B2v : Hid (Below _ W v2) := on B2u.out b2''
  have M2 : Hid (Hm v2 0 r2 d2 i2 o2 H) := (m2.keep (on b2' b2'')).mono (Nat.zero_le _)
  have P2 : Hid (Prs 64 v2 0 (.slice (some ⟨g2, 0, none⟩) pn pn) ps) := (p2'.keep b2'').mono (Nat.zero_le _)
  have N2 : Hid (Nums v2 0 (.slice (some ⟨h2, 0, none⟩) mn mn) zs) := k2.mono (Nat.zero_le _)
  clear m2 b2 p2' b2' k2 b2''
  go_wp2_with fail
  refine (s_nextIns _ _ _ _ H _ _ _ ps _ _ _ zs 0 v2 M2.out P2.out LL.out.1 N2.out LL.out.2).mono ?_
  rintro e w3 ⟨rfl, b3⟩
  obtain ⟨p1, p2, p3, p4, p5, hx5⟩ := nx_five H ps zs
  rw [hx5]
  have HX : Hid (nxV H ps zs = .agg #[.int .i64 p1, .int .i64 p2, .int .i64 p3, .int .i64 p4, .int .i64 p5]) := hx5
  clear hx5
  have B3 : Hid (Below _ W (w3.alloc (.cells #[.int .i64 p1, .int .i64 p2, .int .i64 p3, .int .i64 p4, .int .i64 p5] 53))) := al (on B2v.out b3) _
  have Y3 : Hid (Vb (w3.alloc (.cells #[.int .i64 p1, .int .i64 p2, .int .i64 p3, .int .i64 p4, .int .i64 p5] 53)) w3.heap.size #[.int .i64 p1, .int .i64 p2, .int .i64 p3, .int .i64 p4, .int .i64 p5] 53) := Vb.new _ _ _
  have Q3 := Q.out.keep (on B2v.out b3)
  have ls3 : s < w3.heap.size := Q3.lt
  have LS3 : Hid (s < w3.heap.size) := ls3
  clear b3 M2 P2 N2
  have q0 := Q3.cell 0 rfl
  have q1 := Q3.cell 1 rfl
  have q2 := Q3.cell 2 rfl
  have q3 := Q3.cell 3 rfl
  have q4 := Q3.cell 4 rfl
  have q5 := Q3.cell 5 rfl
  have q6 := Q3.cell 6 rfl
  have q7 := Q3.cell 7 rfl
  have q8 := Q3.cell 8 rfl
  clear Q3
  go_wp2_with fail
  generalize (w3.alloc (.cells #[.int .i64 p1, .int .i64 p2, .int .i64 p3, .int .i64 p4, .int .i64 p5] 53)) = W3 at *
  generalize w3.heap.size = s3 at *
  clear q0 q1 q2 q3 q4 q5 q6 q7 q8 ls3
  refine (to_hart _ _ _ _ _ _ _ _ _ _ _ _ H _ (HP.out.stay B3.out) SM.out).mono ?_
  rintro e w4 ⟨r4, d4, i4, o4, rfl, m4, A4, b4⟩
  obtain ⟨xa0, xk0, rfl, _⟩ := m4.r.shape
  obtain ⟨xa1, xk1, rfl, _⟩ := m4.c.shape
  obtain ⟨xa2, xk2, rfl, _⟩ := m4.i.shape
  obtain ⟨xa3, xk3, rfl, _⟩ := m4.o.shape
  have M4 : Hid (Hm w4 W3.heap.size (.slice xa0 H.regs.length xk0) (.slice xa1 H.csr.length xk1) (.slice xa2 H.inn.length xk2) (.slice xa3 H.out.length xk3) H) := m4
  have HA4 : Hid (Ha (.slice xa0 H.regs.length xk0) (.slice xa1 H.csr.length xk1) (.slice xa2 H.inn.length xk2) (.slice xa3 H.out.length xk3)) := A4
  have D4 : Hid (Below w4.heap.size w4 (w4.alloc (.cells #[.slice xa0 H.regs.length xk0, .int .i64 H.pc, .slice xa1 H.csr.length xk1, .bool H.halted, .bool H.waiting, .bool H.rung, .int .i64 H.done, .slice xa2 H.inn.length xk2, .slice xa3 H.out.length xk3] 32))) := al (Below.refl _ _) _
  have B4 : Hid (Below _ W (w4.alloc (.cells #[.slice xa0 H.regs.length xk0, .int .i64 H.pc, .slice xa1 H.csr.length xk1, .bool H.halted, .bool H.waiting, .bool H.rung, .int .i64 H.done, .slice xa2 H.inn.length xk2, .slice xa3 H.out.length xk3] 32))) := al (on B3.out b4) _
  have X4 : Hid (Vb (w4.alloc (.cells #[.slice xa0 H.regs.length xk0, .int .i64 H.pc, .slice xa1 H.csr.length xk1, .bool H.halted, .bool H.waiting, .bool H.rung, .int .i64 H.done, .slice xa2 H.inn.length xk2, .slice xa3 H.out.length xk3] 32)) w4.heap.size #[.slice xa0 H.regs.length xk0, .int .i64 H.pc, .slice xa1 H.csr.length xk1, .bool H.halted, .bool H.waiting, .bool H.rung, .int .i64 H.done, .slice xa2 H.inn.length xk2, .slice xa3 H.out.length xk3] 32) := Vb.new _ _ _
  have Z4 : Hid (W3.heap.size ≤ w4.heap.size ∧ w4.heap.size + 1 = (w4.alloc (.cells #[.slice xa0 H.regs.length xk0, .int .i64 H.pc, .slice xa1 H.csr.length xk1, .bool H.halted, .bool H.waiting, .bool H.rung, .int .i64 H.done, .slice xa2 H.inn.length xk2, .slice xa3 H.out.length xk3] 32)).heap.size) := ⟨b4.size, by simp⟩
  have Y4 : Hid (Vb (w4.alloc (.cells #[.slice xa0 H.regs.length xk0, .int .i64 H.pc, .slice xa1 H.csr.length xk1, .bool H.halted, .bool H.waiting, .bool H.rung, .int .i64 H.done, .slice xa2 H.inn.length xk2, .slice xa3 H.out.length xk3] 32)) s3 #[.int .i64 p1, .int .i64 p2, .int .i64 p3, .int .i64 p4, .int .i64 p5] 53) := (Y3.out.keep b4).push _
  clear m4 A4 b4
  go_wp2_with fail
  generalize w4.alloc (.cells #[.slice xa0 H.regs.length xk0, .int .i64 H.pc, .slice xa1 H.csr.length xk1, .bool H.halted, .bool H.waiting, .bool H.rung, .int .i64 H.done, .slice xa2 H.inn.length xk2, .slice xa3 H.out.length xk3] 32) = W4 at *
  obtain ⟨s4, hs4⟩ : ∃ s4, w4.heap.size = s4 := ⟨_, rfl⟩
  rw [hs4] at X4 Z4 ⊢
  have S4 : Hid (w4.heap.size = s4) := hs4
  clear hs4
  refine (to_pages pa pn pc ps W4 (PP.out.stay B4.out) SP.out).mono ?_
  rintro e u4 ⟨g4, rfl, p4', b4'⟩
  have B4u : Hid (Below _ W u4) := on B4.out b4'
  go_wp2_with fail
  refine (to_nums ma mn mc zs u4 (MM.out.stay B4u.out) SZ.out).mono ?_
  rintro e v4 ⟨h4, rfl, k4, b4''⟩
  have B4v : Hid (Below _ W v4) := on B4u.out b4''
  have D4v : Hid (Below w4.heap.size w4 v4) := on D4.out (on b4' b4'')
  have X4v : Hid (Vb v4 s4 #[.slice xa0 H.regs.length xk0, .int .i64 H.pc, .slice xa1 H.csr.length xk1, .bool H.halted, .bool H.waiting, .bool H.rung, .int .i64 H.done, .slice xa2 H.inn.length xk2, .slice xa3 H.out.length xk3] 32) := X4.out.keep (on b4' b4'')
  have Y4v : Hid (Vb v4 s3 #[.int .i64 p1, .int .i64 p2, .int .i64 p3, .int .i64 p4, .int .i64 p5] 53) := Y4.out.keep (on b4' b4'')
  have P4 : Hid (Prs 64 v4 W4.heap.size (.slice (some ⟨g4, 0, none⟩) pn pn) ps) := p4'.keep b4''
  have N4 : Hid (Nums v4 u4.heap.size (.slice (some ⟨h4, 0, none⟩) mn mn) zs) := k4
  have G4 : Hid (g4 < u4.heap.size) := (p4'.lt g4 rfl).2
  have Z4u : Hid (W4.heap.size ≤ u4.heap.size ∧ u4.heap.size ≤ v4.heap.size) := ⟨b4'.size, b4''.size⟩
  clear p4' k4 b4' b4''
  have x0 := X4v.out.cell 0 rfl
  have x1 := X4v.out.cell 1 rfl
  have x2 := X4v.out.cell 2 rfl
  have x3 := X4v.out.cell 3 rfl
  have x4 := X4v.out.cell 4 rfl
  have x5 := X4v.out.cell 5 rfl
  have x6 := X4v.out.cell 6 rfl
  have x7 := X4v.out.cell 7 rfl
  have x8 := X4v.out.cell 8 rfl
  go_wp2_with fail
  clear x0 x1 x2 x3 x4 x5 x6 x7 x8
  refine (i_nextIns _ _ _ _ H _ _ _ ps _ _ _ zs 0 v4 ((M4.out.keep D4v.out).mono (Nat.zero_le _)) (P4.out.mono (Nat.zero_le _)) LL.out.1 (N4.out.mono (Nat.zero_le _)) LL.out.2).mono ?_
  rintro e w5 ⟨rfl, b5⟩
  rw [HX.out]
  have B5 : Hid (Below _ W (w5.alloc (.cells #[.int .i64 p1, .int .i64 p2, .int .i64 p3, .int .i64 p4, .int .i64 p5] 53))) := al (on B4v.out b5) _
  have D5 : Hid (Below w4.heap.size w4 (w5.alloc (.cells #[.int .i64 p1, .int .i64 p2, .int .i64 p3, .int .i64 p4, .int .i64 p5] 53))) := al (on D4v.out b5) _
  have F5 : Hid (Below v4.heap.size v4 (w5.alloc (.cells #[.int .i64 p1, .int .i64 p2, .int .i64 p3, .int .i64 p4, .int .i64 p5] 53))) := al b5 _
  have X5 : Hid (Vb (w5.alloc (.cells #[.int .i64 p1, .int .i64 p2, .int .i64 p3, .int .i64 p4, .int .i64 p5] 53)) s4 #[.slice xa0 H.regs.length xk0, .int .i64 H.pc, .slice xa1 H.csr.length xk1, .bool H.halted, .bool H.waiting, .bool H.rung, .int .i64 H.done, .slice xa2 H.inn.length xk2, .slice xa3 H.out.length xk3] 32) := (X4v.out.keep b5).push _
  have Y5 : Hid (Vb (w5.alloc (.cells #[.int .i64 p1, .int .i64 p2, .int .i64 p3, .int .i64 p4, .int .i64 p5] 53)) s3 #[.int .i64 p1, .int .i64 p2, .int .i64 p3, .int .i64 p4, .int .i64 p5] 53) := (Y4v.out.keep b5).push _
  have G5 : Hid (Vb (w5.alloc (.cells #[.int .i64 p1, .int .i64 p2, .int .i64 p3, .int .i64 p4, .int .i64 p5] 53)) w5.heap.size #[.int .i64 p1, .int .i64 p2, .int .i64 p3, .int .i64 p4, .int .i64 p5] 53) := Vb.new _ _ _
  have y5 := Y4v.out.keep b5
  have ly : s3 < w5.heap.size := y5.lt
  have y0 := y5.cell 0 rfl
  have y1 := y5.cell 1 rfl
  have y2 := y5.cell 2 rfl
  have y3 := y5.cell 3 rfl
  have y4 := y5.cell 4 rfl
  clear b5 y5
  go_wp2_with fail
  generalize (w5.alloc (.cells #[.int .i64 p1, .int .i64 p2, .int .i64 p3, .int .i64 p4, .int .i64 p5] 53)) = W5 at *
  generalize w5.heap.size = s5 at *
  clear y0 y1 y2 y3 y4 ly
  refine (eq_ins_same _ _ _ _ _ _).mono ?_
  rintro e w6 ⟨rfl, b6⟩
  have B6 : Hid (Below _ W w6) := on B5.out b6
  have D6 : Hid (Below w4.heap.size w4 w6) := on D5.out b6
  have F6 : Hid (Below v4.heap.size v4 w6) := on F5.out b6
  have M5 : Hid (Hm w6 _ (.slice xa0 H.regs.length xk0) (.slice xa1 H.csr.length xk1) (.slice xa2 H.inn.length xk2) (.slice xa3 H.out.length xk3) H) := M4.out.keep D6.out
  have X6 : Hid (Vb w6 s4 #[.slice xa0 H.regs.length xk0, .int .i64 H.pc, .slice xa1 H.csr.length xk1, .bool H.halted, .bool H.waiting, .bool H.rung, .int .i64 H.done, .slice xa2 H.inn.length xk2, .slice xa3 H.out.length xk3] 32) := X5.out.keep b6
  have Y6 : Hid (Vb w6 s3 #[.int .i64 p1, .int .i64 p2, .int .i64 p3, .int .i64 p4, .int .i64 p5] 53) := Y5.out.keep b6
  have G6 : Hid (Vb w6 s5 #[.int .i64 p1, .int .i64 p2, .int .i64 p3, .int .i64 p4, .int .i64 p5] 53) := G5.out.keep b6
  have Q6 := Q.out.keep B6.out
  clear b6 X5 Y5 G5 D5 B5 F5
  have q0 := Q6.cell 0 rfl
  have q1 := Q6.cell 1 rfl
  have q2 := Q6.cell 2 rfl
  have q3 := Q6.cell 3 rfl
  have q4 := Q6.cell 4 rfl
  have q5 := Q6.cell 5 rfl
  have q6 := Q6.cell 6 rfl
  have q7 := Q6.cell 7 rfl
  have q8 := Q6.cell 8 rfl
  have x0 := X6.out.cell 0 rfl
  have x1 := X6.out.cell 1 rfl
  have x2 := X6.out.cell 2 rfl
  have x3 := X6.out.cell 3 rfl
  have x4 := X6.out.cell 4 rfl
  have x5 := X6.out.cell 5 rfl
  have x6 := X6.out.cell 6 rfl
  have x7 := X6.out.cell 7 rfl
  have x8 := X6.out.cell 8 rfl
  clear Q6
  go_wp2_with fail
  go_cut [51] from 13 to 61 (fun c wx => c = .bool false ∧ Below w6.heap.size w6 wx)
  case first =>
    go_region_with (first
      | (go_at_call 9; refine (to_hart _ _ _ _ _ _ _ _ _ _ _ _ H _ (HP.out.stay (by first | exact B6.out | exact B6.out.drew | exact B6.out.drew.drew | exact B6.out.drew.drew.drew)) SM.out).mono ?_; rintro e w8 ⟨r8, d8, i8, o8, rfl, m8, A8, b8⟩; clear A8; have E8 : Hid (Below w6.heap.size w6 w8) := (by first | exact b8 | exact on (Below.refl _ _).drew b8 | exact on (Below.refl _ _).drew.drew b8 | exact on (Below.refl _ _).drew.drew.drew b8); have x0 := cell_keep b8 x0; have x1 := cell_keep b8 x1; have x2 := cell_keep b8 x2; have x3 := cell_keep b8 x3; have x4 := cell_keep b8 x4; have x5 := cell_keep b8 x5; have x6 := cell_keep b8 x6; have x7 := cell_keep b8 x7; have x8 := cell_keep b8 x8; (first | have N8 := M5.out.keep b8 | have N8 := (M5.out.keep (Below.refl _ _).drew).keep b8 | have N8 := (M5.out.keep (Below.refl _ _).drew.drew).keep b8); clear b8)
      | (go_at_call 14; refine (eq_hart _ _ _ _ _ _ _ _ H _ _ _ (by first | exact N8 | exact N8.keep (Below.refl _ _).drew | exact N8.keep (Below.refl _ _).drew.drew) (by first | exact m8 | exact m8.keep (Below.refl _ _).drew | exact m8.keep (Below.refl _ _).drew.drew)).mono ?_; rintro e w7 ⟨rfl, b7⟩; (first | have E7 : Hid (Below w6.heap.size w6 w7) := on E8.out b7 | have E7 : Hid (Below w6.heap.size w6 w7) := on E8.out.drew b7 | have E7 : Hid (Below w6.heap.size w6 w7) := on E8.out.drew.drew b7); clear b7))
    all_goals (go_wp2_with fail; go_meet; exact ⟨rfl, by first | exact E7.out | exact E7.out.drew⟩)
  case rest =>
  obtain ⟨rfl, b7⟩ := hcut
  have B7 : Hid (Below _ W wc) := on B6.out b7
  have D7 : Hid (Below w4.heap.size w4 wc) := on D6.out b7
  have F7 : Hid (Below v4.heap.size v4 wc) := on F6.out b7
  clear q0 q1 q2 q3 q4 q5 q6 q7 q8 x0 x1 x2 x3 x4 x5 x6 x7 x8 M5
  clear b7
  go_wp2_with fail
  refine (to_pages pa pn pc ps wc (PP.out.stay B7.out) SP.out).mono ?_
  rintro e t1 ⟨g7, rfl, p7, b7⟩
  have P7 : Hid (Prs 64 t1 wc.heap.size (.slice (some ⟨g7, 0, none⟩) pn pn) ps) := p7
  have C1 : Hid (Below wc.heap.size wc t1) := b7
  clear p7 b7
  go_wp2_with fail
  refine (eq_pages _ _ ps _ _ t1 (P4.out.keep (on F7.out C1.out)) P7.out).mono ?_
  rintro e t2 ⟨rfl, b7⟩
  have C2 : Hid (Below wc.heap.size wc t2) := on C1.out b7
  clear b7 P7
  go_wp2_with fail
  refine (to_nums ma mn mc zs t2 (MM.out.stay (on B7.out C2.out)) SZ.out).mono ?_
  rintro e t3 ⟨h7, rfl, k7, b7⟩
  have N7 : Hid (Nums t3 t2.heap.size (.slice (some ⟨h7, 0, none⟩) mn mn) zs) := k7
  have C3 : Hid (Below wc.heap.size wc t3) := on C2.out b7
  clear k7 b7
  go_wp2_with fail
  refine (eq_nums _ _ zs _ _ t3 (N4.out.keep (on F7.out C3.out)) N7.out).mono ?_
  rintro e t4 ⟨rfl, b7⟩
  have C4 : Hid (Below wc.heap.size wc t4) := on C3.out b7
  clear b7 N7
  go_wp2_with fail
  go_ret
  exact ⟨rfl, on B0.out (on B7.out C4.out)⟩

set_option maxRecDepth 100000 in
theorem lifted (os : Os) (started : os.Started) (H : Type) (enc : TypeId × Value → H) :
    ReturnsInHanded {} Try.checked os 5 .any (Rows.fnExactNextInsSpec.pre6 enc Try.prog Try.f5 Rows.fnExactNextInsRow.domain false) (Rows.fnExactNextInsSpec.post enc Try.prog Try.f5 false true false false) := by
  refine returnsInHanded_of_change (C := Try.checked) own started (by kernel_rfl) Try.func5
    (ChangeSpec.witness6 (enc := enc) (C := Try.checked) false ⟨#[], #[.agg #[.slice none 0 0, .int .i64 0, .slice none 0 0, .bool false, .bool false, .bool false, .int .i64 0, .slice none 0 0, .slice none 0 0], .slice none 0 0, .slice none 0 0], []⟩ 8 (by kernel_rfl) (by kernel_rfl) (by kernel_rfl) (by kernel_rfl)) ?_
  intro W base args ds gs before hval0 hW hcnd _
  have hval : ∀ (j : Nat) t v, Try.f5.params[j]? = some t → args[j]? = some v → Value.okWide Try.prog W .any base t v := hval0
  have hW' := hW
  obtain ⟨p, q, hA0, hV, rfl, hfz, hnd⟩ := hW
  have hA : DataW.TrodAll enc Try.prog W 0 (fun _ => true) true Try.f5.params.toList args.toList ds p := hA0
  rw [Try.params5] at hA hval
  obtain ⟨v0, vs0, d0, ds0, p0, q0, hargs, rfl, rfl, h0, r0⟩ := trodAll_cons hA
  obtain ⟨v1, vs1, d1, ds1, p1, q1, rfl, rfl, rfl, h1, r1⟩ := trodAll_cons r0
  obtain ⟨v2, vs2, d2, ds2, p2, q2, rfl, rfl, rfl, h2, r2⟩ := trodAll_cons r1
  obtain ⟨rfl, rfl, rfl⟩ := trodAll_nil r2
  obtain rfl : args = #[v0, v1, v2] := by cases args; simp_all
  obtain ⟨rfl, rfl⟩ := trodVars_none hV
  have k0 := h0
  have lt0 : ∀ x ∈ p0, x.block < W.heap.size := by obtain ⟨m, hm⟩ := k0; exact DataW.trod_lt m _ _ _ hm
  obtain ⟨pa0, pa1, pa2, pa3, pn0, pk0, pn1, pk1, pn2, pk2, pn3, pk3, pH, rfl, pin⟩ := hart_open Try.underlying24 (by kernel_rfl) (by kernel_rfl) Try.underlying22 Try.underlying2 Try.underlying22 Try.underlying4 Try.underlying4 Try.underlying4 Try.underlying2 Try.underlying22 Try.underlying22 Try.underlying2 Try.underlying2 Try.underlying2 Try.underlying2 (by kernel_rfl) (by kernel_rfl) (by kernel_rfl) (by kernel_rfl) (hval 0 24 v0 rfl rfl) h0
  obtain ⟨a1, len1, cap1, rfl⟩ := okWide_slice Try.underlying25 (hval 1 25 v1 rfl rfl)
  have k1 := h1
  have lt1 : ∀ x ∈ p1, x.block < W.heap.size := by obtain ⟨m, hm⟩ := k1; exact DataW.trod_lt m _ _ _ hm
  obtain ⟨z1, w1⟩ : ∃ rs, IsPairs W a1 len1 cap1 rs := by
    obtain ⟨fuel, hf⟩ := h1
    rcases Go.Deep.open_slice_pairs Try.underlying25 Try.underlying66 (by kernel_rfl) rfl rfl (by kernel_rfl) (by kernel_rfl) hf with ⟨hcs, _⟩ | ⟨x, l, c, m, n, V0, V1, D0, D1, P0, P1, hcs, _, hl, hm, hmm, _, hx⟩
    · simp [Value.cells] at hcs
      obtain ⟨rfl, rfl, rfl⟩ := hcs
      exact ⟨[], .inl ⟨rfl, rfl, rfl, rfl⟩⟩
    · simp [Value.cells] at hcs
      obtain ⟨rfl, rfl, rfl⟩ := hcs
      refine IsPairs.of V0 V1 hl hm fun j hj => ?_
      have hjm : j < m := by rw [hmm]; split <;> omega
      obtain ⟨g0, g1, g2, g3⟩ := hx j hjm
      obtain ⟨b0, y0, _, _⟩ := DataW.trod_int Try.underlying2 g2
      obtain ⟨b1, y1, _, _⟩ := DataW.trod_int Try.underlying2 g3
      exact ⟨g0, g1, ⟨b0, by simpa using y0⟩, ⟨b1, by simpa using y1⟩⟩
  obtain ⟨a2, len2, cap2, rfl⟩ := okWide_slice Try.underlying22 (hval 2 22 v2 rfl rfl)
  have k2 := h2
  have lt2 : ∀ x ∈ p2, x.block < W.heap.size := by obtain ⟨m, hm⟩ := k2; exact DataW.trod_lt m _ _ _ hm
  obtain ⟨z2, w2⟩ : ∃ zs, IsRow .i64 W a2 len2 cap2 zs := by
    obtain ⟨fuel, hf⟩ := h2
    rcases open_ints Try.underlying22 Try.underlying2 (by kernel_rfl) hf with ⟨hcs, _⟩ | ⟨x, l, c, zs, hcs, _, hl, hm, hz, _, hcell, hwz⟩
    · simp [Value.cells] at hcs
      obtain ⟨rfl, rfl, rfl⟩ := hcs
      exact ⟨[], .inl ⟨rfl, rfl, rfl, rfl⟩⟩
    · simp [Value.cells] at hcs
      obtain ⟨rfl, rfl, rfl⟩ := hcs
      exact ⟨_, IsRow.of_all hl hm (by simpa using hz) hcell hwz⟩
  clear hA0 hval0
  refine (walk pa0 pa1 pa2 pa3 pn0 pk0 pn1 pk1 pn2 pk2 pn3 pk3 pH a1 len1 cap1 z1 a2 len2 cap2 z2 W pin w1 w2).mono fun e W' ⟨he, bel⟩ => ?_
  subst he
  exact ⟨_, rfl, _, _, _, [], _, [], hW', trodAll_mk1 (shut_bool Try.underlying4 _), (trodAll_cons_mk (Below.trod laidOut (by kernel_rfl) (of_decide_eq_true (by kernel_rfl)) k0 bel lt0) (trodAll_cons_mk (Below.trod laidOut (by kernel_rfl) (of_decide_eq_true (by kernel_rfl)) k1 bel lt1) (trodAll_cons_mk (Below.trod laidOut (by kernel_rfl) (of_decide_eq_true (by kernel_rfl)) k2 bel lt2) trodAll_mk0))), rfl, bel.frame _, fun h => by cases h⟩

theorem over : Rows.fnExactNextInsRow.holds Try.pinned (OpenSpec.ofChange Rows.fnExactNextInsSpec) :=
  OpenClaim.holds_of_wide 5 Try.f5 rfl rfl rfl rfl rfl rfl rfl ⟨rfl, rfl, rfl, rfl, rfl⟩ rfl rfl rfl rfl rfl (by kernel_rfl) Try.func5 (by kernel_rfl)
    (of_decide_eq_true (by kernel_rfl)) (by unfold Func.isWrapper; first | (rw [if_pos (by decide +kernel)]; kernel_rfl) | (rw [if_neg (by decide +kernel)]; exact ⟨rfl, rfl⟩))
    (fun os started H enc _ => lifted os started H enc)

theorem proved : Rows.FnExactNextInsSaid := over
end Go.Proofs.Ytccbiejlljbfcaa.fnExactNextInsDone
