/- The law FnExactSpaceOf answers true at every input, and each argument reads behind the call as it read ahead of it; no condition. -/
import Derived.Test.YtccbiejlljbfcaaBase
import Derived.Lib.SmallJoins
import Derived.Test.YtccbiejlljbfcaaXou
import Derived.Test.YtccbiejlljbfcaaHto
import Derived.Test.YtccbiejlljbfcaaPgy
import Derived.Deep.RegionWith
import Derived.Deep.Cut
import Derived.Deep.CutRange
namespace Go.Proofs.Ytccbiejlljbfcaa.fnExactSpaceOfDone
open Go.ChangeShapes Go.WideShapes Go.ChangeAt Go.RowKit
open Go.ChangeMaps (open_string shut_string)
set_option linter.unusedVariables false

set_option maxRecDepth 20000 in
set_option maxHeartbeats 16000000 in
theorem walk (a0 a1 a2 a3 : Option Addr) (n0 c0 n1 c1 n2 c2 n3 c3 : Nat) (H : Ht) (pa : Option Addr) (pn pc : Nat) (ps : List (Int × Int)) (ma : Option Addr) (mn mc : Nat) (zs : List Int) (w : World) (h : Hin w a0 n0 c0 a1 n1 c1 a2 n2 c2 a3 n3 c3 H) (hp : IsPairs w pa pn pc ps) (hm : IsRow .i64 w ma mn mc zs) :
    Calls Try.prog 3 #[.agg #[.slice a0 n0 c0, .int .i64 H.pc, .slice a1 n1 c1, .bool H.halted, .bool H.waiting, .bool H.rung, .int .i64 H.done, .slice a2 n2 c2, .slice a3 n3 c3], .slice pa pn pc, .slice ma mn mc] w fun e w' => e = .returned (.bool true) ∧ Below w.heap.size w w' := by
  generalize hW : w.alloc (.cells #[.slice a0 n0 c0, .int .i64 H.pc, .slice a1 n1 c1, .bool H.halted, .bool H.waiting, .bool H.rung, .int .i64 H.done, .slice a2 n2 c2, .slice a3 n3 c3] 24) = W
  have B0 : Hid (Below w.heap.size w W) := by show Below _ _ _; rw [← hW]; exact al (Below.refl _ _) _
  obtain ⟨s, hS⟩ : ∃ s, w.heap.size = s := ⟨_, rfl⟩
  have Q : Hid (Vb W s #[.slice a0 n0 c0, .int .i64 H.pc, .slice a1 n1 c1, .bool H.halted, .bool H.waiting, .bool H.rung, .int .i64 H.done, .slice a2 n2 c2, .slice a3 n3 c3] 24) := by
    show Vb _ _ _ _
    rw [← hW, ← hS]
    exact Vb.new _ _ _
  have HP : Hid (Hin W a0 n0 c0 a1 n1 c1 a2 n2 c2 a3 n3 c3 H) := h.stay B0.out
  have PP : Hid (IsPairs W pa pn pc ps) := hp.stay B0.out
  have MM : Hid (IsRow .i64 W ma mn mc zs) := hm.stay B0.out
  have LM : Hid (mn = zs.length ∧ mn ≤ 9223372036854775807) := hm.ln
  have LP : Hid (pn = ps.length ∧ pn ≤ 9223372036854775807) := ⟨hp.len, hp.max⟩
  have mi : (mn : Int) ≤ 9223372036854775807 := by have := LM.out.2; omega
  clear h hp hm
  have q0 := Q.out.cell 0 rfl
  have q1 := Q.out.cell 1 rfl
  have q2 := Q.out.cell 2 rfl
  have q3 := Q.out.cell 3 rfl
  have q4 := Q.out.cell 4 rfl
  have q5 := Q.out.cell 5 rfl
  have q6 := Q.out.cell 6 rfl
  have q7 := Q.out.cell 7 rfl
  have q8 := Q.out.cell 8 rfl
  go_enter Try.func3, Try.ntmps3
  by_cases hbig : 1048576 < (mn : Int)
  · go_wp2_with fail
    go_ret
    exact ⟨rfl, B0.out⟩
  have SZ : Hid (mn ≤ 1048576) := by show _ ≤ _; omega
  go_wp2_with fail
  clear hW hS mi hbig
  refine (sz_hart _ _ _ _ _ _ _ _ _ _ _ _ H _ HP.out).mono ?_
  rintro e w1 ⟨⟨r, rfl, hr, hs⟩, b1⟩
  by_cases hneg : r < 0
  · go_wp2_with fail
    go_ret
    exact ⟨rfl, on B0.out b1⟩
  have SM : Hid (Hs n0 n1 n2 n3) := hs (by omega)
  have B1 : Hid (Below _ W w1) := b1
  have Q1 := Q.out.keep b1
  clear hs b1 q0 q1 q2 q3 q4 q5 q6 q7 q8
  have q0 := Q1.cell 0 rfl
  have q1 := Q1.cell 1 rfl
  have q2 := Q1.cell 2 rfl
  have q3 := Q1.cell 3 rfl
  have q4 := Q1.cell 4 rfl
  have q5 := Q1.cell 5 rfl
  have q6 := Q1.cell 6 rfl
  have q7 := Q1.cell 7 rfl
  have q8 := Q1.cell 8 rfl
  clear Q1
  have szp := sz_pages pa pn pc r w1 LP.out.2 (by omega) hr
  by_cases hlo : r - (pn : Int) < 0
  · rw [if_pos hlo] at szp
    clear hlo
    go_wp2_with (go_at_call 7; refine szp.mono ?_; rintro e y ⟨rfl, hy⟩; rw [hy]; clear hy y)
    go_ret
    exact ⟨rfl, on B0.out B1.out⟩
  rw [if_neg hlo] at szp
  have SP : Hid (pn ≤ 1048576) := by show _ ≤ _; omega
  obtain ⟨r2', hr2⟩ : ∃ r2', r - (pn : Int) = r2' := ⟨_, rfl⟩
  rw [hr2] at szp hlo
  clear hr2 hr
  go_wp2_with (go_at_call 7; refine szp.mono ?_; rintro e y ⟨rfl, hy⟩; rw [hy]; clear hy y)
  clear q0 q1 q2 q3 q4 q5 q6 q7 q8 szp
  have LL : Hid (ps.length ≤ 1048576 ∧ zs.length ≤ 1048576) := ⟨by have := LP.out.1; have := SP.out; omega, by have := LM.out.1; have := SZ.out; omega⟩
  refine (to_hart _ _ _ _ _ _ _ _ _ _ _ _ H _ (HP.out.stay B1.out) SM.out).mono ?_
  rintro e w2 ⟨r2, d2, i2, o2, rfl, m2, A2, b2⟩
  have B2 : Hid (Below _ W w2) := on B1.out b2
  clear A2
  go_wp2_with fail
  refine (to_pages pa pn pc ps w2 (PP.out.stay B2.out) SP.out).mono ?_
  rintro e u2 ⟨g2, rfl, p2', b2'⟩
  have B2u : Hid (Below _ W u2) := on B2.out b2'
  go_wp2_with fail
  refine (to_nums ma mn mc zs u2 (MM.out.stay B2u.out) SZ.out).mono ?_
  rintro e v2 ⟨h2, rfl, k2, b2''⟩
  have B2v : Hid (Below _ W v2) := on B2u.out b2''
  have M2 : Hid (Hm v2 0 r2 d2 i2 o2 H) := (m2.keep (on b2' b2'')).mono (Nat.zero_le _)
  have P2 : Hid (Prs 64 v2 0 (.slice (some ⟨g2, 0, none⟩) pn pn) ps) := (p2'.keep b2'').mono (Nat.zero_le _)
  have N2 : Hid (Nums v2 0 (.slice (some ⟨h2, 0, none⟩) mn mn) zs) := k2.mono (Nat.zero_le _)
  clear m2 b2 p2' b2' k2 b2''
  go_wp2_with fail
  refine (s_spaceOf _ _ _ _ H _ _ _ ps _ _ _ zs 0 v2 M2.out P2.out LL.out.1 N2.out LL.out.2).mono ?_
  rintro e w3 ⟨u3, rfl, pu3, b3⟩
  obtain ⟨p1, hp1⟩ : ∃ p1, soC H ps zs = p1 := ⟨_, rfl⟩
  rw [hp1]
  have HX : Hid (soC H ps zs = p1) := hp1
  obtain ⟨sl, hsl⟩ : ∃ sl, soP H ps zs = sl := ⟨_, rfl⟩
  rw [hsl] at pu3
  have HSL : Hid (soP H ps zs = sl) := hsl
  have SL8 : Hid (sl.length ≤ 8) := by show _ ≤ _; rw [← hsl]; exact so_len H ps zs
  obtain ⟨ua3, uc3, hu3, _⟩ := pu3.shape
  obtain ⟨ul, hul⟩ : ∃ ul, sl.length = ul := ⟨_, rfl⟩
  rw [hul] at hu3
  subst hu3
  have HUL : Hid (sl.length = ul) := hul
  have U3 : Hid (Prs 64 (w3.alloc (.cells #[.int .i64 p1, .slice ua3 ul uc3] 30)) 0 (.slice ua3 ul uc3) sl) := (pu3.keep (al (Below.refl _ _) _)).mono (Nat.zero_le _)
  have L3 : Hid (∀ k, (Value.slice ua3 ul uc3).ownBlock = some k → k < w3.heap.size) := fun k e => (pu3.lt k e).2
  have Z3 : Hid (w3.heap.size + 1 = (w3.alloc (.cells #[.int .i64 p1, .slice ua3 ul uc3] 30)).heap.size) := by show _ = _; simp
  clear hp1 hsl hul pu3
  have B3 : Hid (Below _ W (w3.alloc (.cells #[.int .i64 p1, .slice ua3 ul uc3] 30))) := al (on B2v.out b3) _
  have Y3 : Hid (Vb (w3.alloc (.cells #[.int .i64 p1, .slice ua3 ul uc3] 30)) w3.heap.size #[.int .i64 p1, .slice ua3 ul uc3] 30) := Vb.new _ _ _
  have Q3 := Q.out.keep (on B2v.out b3)
  have ls3 : s < w3.heap.size := Q3.lt
  have LS3 : Hid (s < w3.heap.size) := ls3
  clear b3 M2 P2 N2
  have q0 := Q3.cell 0 rfl
  have q1 := Q3.cell 1 rfl
  have q2 := Q3.cell 2 rfl
  have q3 := Q3.cell 3 rfl
  have q4 := Q3.cell 4 rfl
  have q5 := Q3.cell 5 rfl
  have q6 := Q3.cell 6 rfl
  have q7 := Q3.cell 7 rfl
  have q8 := Q3.cell 8 rfl
  clear Q3
  go_wp2_with fail
  generalize (w3.alloc (.cells #[.int .i64 p1, .slice ua3 ul uc3] 30)) = W3 at *
  generalize w3.heap.size = s3 at *
  clear q0 q1 q2 q3 q4 q5 q6 q7 q8 ls3
  refine (to_hart _ _ _ _ _ _ _ _ _ _ _ _ H _ (HP.out.stay B3.out) SM.out).mono ?_
  rintro e w4 ⟨r4, d4, i4, o4, rfl, m4, A4, b4⟩
  obtain ⟨xa0, xk0, rfl, _⟩ := m4.r.shape
  obtain ⟨xa1, xk1, rfl, _⟩ := m4.c.shape
  obtain ⟨xa2, xk2, rfl, _⟩ := m4.i.shape
  obtain ⟨xa3, xk3, rfl, _⟩ := m4.o.shape
  have M4 : Hid (Hm w4 W3.heap.size (.slice xa0 H.regs.length xk0) (.slice xa1 H.csr.length xk1) (.slice xa2 H.inn.length xk2) (.slice xa3 H.out.length xk3) H) := m4
  have HA4 : Hid (Ha (.slice xa0 H.regs.length xk0) (.slice xa1 H.csr.length xk1) (.slice xa2 H.inn.length xk2) (.slice xa3 H.out.length xk3)) := A4
  have D4 : Hid (Below w4.heap.size w4 (w4.alloc (.cells #[.slice xa0 H.regs.length xk0, .int .i64 H.pc, .slice xa1 H.csr.length xk1, .bool H.halted, .bool H.waiting, .bool H.rung, .int .i64 H.done, .slice xa2 H.inn.length xk2, .slice xa3 H.out.length xk3] 32))) := al (Below.refl _ _) _
  have B4 : Hid (Below _ W (w4.alloc (.cells #[.slice xa0 H.regs.length xk0, .int .i64 H.pc, .slice xa1 H.csr.length xk1, .bool H.halted, .bool H.waiting, .bool H.rung, .int .i64 H.done, .slice xa2 H.inn.length xk2, .slice xa3 H.out.length xk3] 32))) := al (on B3.out b4) _
  have X4 : Hid (Vb (w4.alloc (.cells #[.slice xa0 H.regs.length xk0, .int .i64 H.pc, .slice xa1 H.csr.length xk1, .bool H.halted, .bool H.waiting, .bool H.rung, .int .i64 H.done, .slice xa2 H.inn.length xk2, .slice xa3 H.out.length xk3] 32)) w4.heap.size #[.slice xa0 H.regs.length xk0, .int .i64 H.pc, .slice xa1 H.csr.length xk1, .bool H.halted, .bool H.waiting, .bool H.rung, .int .i64 H.done, .slice xa2 H.inn.length xk2, .slice xa3 H.out.length xk3] 32) := Vb.new _ _ _
  have Z4 : Hid (W3.heap.size ≤ w4.heap.size ∧ w4.heap.size + 1 = (w4.alloc (.cells #[.slice xa0 H.regs.length xk0, .int .i64 H.pc, .slice xa1 H.csr.length xk1, .bool H.halted, .bool H.waiting, .bool H.rung, .int .i64 H.done, .slice xa2 H.inn.length xk2, .slice xa3 H.out.length xk3] 32)).heap.size) := ⟨b4.size, by simp⟩
  have Y4 : Hid (Vb (w4.alloc (.cells #[.slice xa0 H.regs.length xk0, .int .i64 H.pc, .slice xa1 H.csr.length xk1, .bool H.halted, .bool H.waiting, .bool H.rung, .int .i64 H.done, .slice xa2 H.inn.length xk2, .slice xa3 H.out.length xk3] 32)) s3 #[.int .i64 p1, .slice ua3 ul uc3] 30) := (Y3.out.keep b4).push _
  have U4 : Hid (Prs 64 (w4.alloc (.cells #[.slice xa0 H.regs.length xk0, .int .i64 H.pc, .slice xa1 H.csr.length xk1, .bool H.halted, .bool H.waiting, .bool H.rung, .int .i64 H.done, .slice xa2 H.inn.length xk2, .slice xa3 H.out.length xk3] 32)) 0 (.slice ua3 ul uc3) sl) := (U3.out.keep b4).keep D4.out
  clear m4 A4 b4
  go_wp2_with fail
  generalize w4.alloc (.cells #[.slice xa0 H.regs.length xk0, .int .i64 H.pc, .slice xa1 H.csr.length xk1, .bool H.halted, .bool H.waiting, .bool H.rung, .int .i64 H.done, .slice xa2 H.inn.length xk2, .slice xa3 H.out.length xk3] 32) = W4 at *
  obtain ⟨s4, hs4⟩ : ∃ s4, w4.heap.size = s4 := ⟨_, rfl⟩
  rw [hs4] at X4 Z4 ⊢
  have S4 : Hid (w4.heap.size = s4) := hs4
  clear hs4
  refine (to_pages pa pn pc ps W4 (PP.out.stay B4.out) SP.out).mono ?_
  rintro e u4 ⟨g4, rfl, p4', b4'⟩
  have B4u : Hid (Below _ W u4) := on B4.out b4'
  go_wp2_with fail
  refine (to_nums ma mn mc zs u4 (MM.out.stay B4u.out) SZ.out).mono ?_
  rintro e v4 ⟨h4, rfl, k4, b4''⟩
  have B4v : Hid (Below _ W v4) := on B4u.out b4''
  have D4v : Hid (Below w4.heap.size w4 v4) := on D4.out (on b4' b4'')
  have X4v : Hid (Vb v4 s4 #[.slice xa0 H.regs.length xk0, .int .i64 H.pc, .slice xa1 H.csr.length xk1, .bool H.halted, .bool H.waiting, .bool H.rung, .int .i64 H.done, .slice xa2 H.inn.length xk2, .slice xa3 H.out.length xk3] 32) := X4.out.keep (on b4' b4'')
  have Y4v : Hid (Vb v4 s3 #[.int .i64 p1, .slice ua3 ul uc3] 30) := Y4.out.keep (on b4' b4'')
  have P4 : Hid (Prs 64 v4 W4.heap.size (.slice (some ⟨g4, 0, none⟩) pn pn) ps) := p4'.keep b4''
  have N4 : Hid (Nums v4 u4.heap.size (.slice (some ⟨h4, 0, none⟩) mn mn) zs) := k4
  have G4 : Hid (g4 < u4.heap.size) := (p4'.lt g4 rfl).2
  have Z4u : Hid (W4.heap.size ≤ u4.heap.size ∧ u4.heap.size ≤ v4.heap.size) := ⟨b4'.size, b4''.size⟩
  have U4v : Hid (Prs 64 v4 0 (.slice ua3 ul uc3) sl) := U4.out.keep (on b4' b4'')
  clear p4' k4 b4' b4''
  have x0 := X4v.out.cell 0 rfl
  have x1 := X4v.out.cell 1 rfl
  have x2 := X4v.out.cell 2 rfl
  have x3 := X4v.out.cell 3 rfl
  have x4 := X4v.out.cell 4 rfl
  have x5 := X4v.out.cell 5 rfl
  have x6 := X4v.out.cell 6 rfl
  have x7 := X4v.out.cell 7 rfl
  have x8 := X4v.out.cell 8 rfl
  go_wp2_with fail
  clear x0 x1 x2 x3 x4 x5 x6 x7 x8
  refine (i_spaceOf _ _ _ _ H _ _ _ ps _ _ _ zs 0 v4 ((M4.out.keep D4v.out).mono (Nat.zero_le _)) (P4.out.mono (Nat.zero_le _)) LL.out.1 (N4.out.mono (Nat.zero_le _)) LL.out.2).mono ?_
  rintro e w5 ⟨u5, rfl, pu5, b5⟩
  rw [HX.out]
  rw [HSL.out] at pu5
  obtain ⟨ua5, uc5, hu5, _⟩ := pu5.shape
  rw [HUL.out] at hu5
  subst hu5
  have U5 : Hid (Prs 64 (w5.alloc (.cells #[.int .i64 p1, .slice ua5 ul uc5] 30)) v4.heap.size (.slice ua5 ul uc5) sl) := pu5.keep (al (Below.refl _ _) _)
  have L5 : Hid (∀ k, (Value.slice ua5 ul uc5).ownBlock = some k → v4.heap.size ≤ k ∧ k < w5.heap.size) := fun k e => pu5.lt k e
  have UN5 : Hid (Prs 64 (w5.alloc (.cells #[.int .i64 p1, .slice ua5 ul uc5] 30)) 0 (.slice ua3 ul uc3) sl) := (U4v.out.keep b5).keep (al (Below.refl _ _) _)
  have Z5 : Hid (v4.heap.size ≤ w5.heap.size) := b5.size
  clear pu5
  have B5 : Hid (Below _ W (w5.alloc (.cells #[.int .i64 p1, .slice ua5 ul uc5] 30))) := al (on B4v.out b5) _
  have D5 : Hid (Below w4.heap.size w4 (w5.alloc (.cells #[.int .i64 p1, .slice ua5 ul uc5] 30))) := al (on D4v.out b5) _
  have F5 : Hid (Below v4.heap.size v4 (w5.alloc (.cells #[.int .i64 p1, .slice ua5 ul uc5] 30))) := al b5 _
  have X5 : Hid (Vb (w5.alloc (.cells #[.int .i64 p1, .slice ua5 ul uc5] 30)) s4 #[.slice xa0 H.regs.length xk0, .int .i64 H.pc, .slice xa1 H.csr.length xk1, .bool H.halted, .bool H.waiting, .bool H.rung, .int .i64 H.done, .slice xa2 H.inn.length xk2, .slice xa3 H.out.length xk3] 32) := (X4v.out.keep b5).push _
  have Y5 : Hid (Vb (w5.alloc (.cells #[.int .i64 p1, .slice ua5 ul uc5] 30)) s3 #[.int .i64 p1, .slice ua3 ul uc3] 30) := (Y4v.out.keep b5).push _
  have G5 : Hid (Vb (w5.alloc (.cells #[.int .i64 p1, .slice ua5 ul uc5] 30)) w5.heap.size #[.int .i64 p1, .slice ua5 ul uc5] 30) := Vb.new _ _ _
  have y5 := Y4v.out.keep b5
  have ly : s3 < w5.heap.size := y5.lt
  have y0 := y5.cell 0 rfl
  have y1 := y5.cell 1 rfl
  clear b5 y5
  go_wp2_with fail
  generalize (w5.alloc (.cells #[.int .i64 p1, .slice ua5 ul uc5] 30)) = W5 at *
  generalize w5.heap.size = s5 at *
  clear y0 y1 ly
  refine (eq_pagesR _ _ _ sl _ _ _ U5.out UN5.out).mono ?_
  rintro e w6 ⟨rfl, b6⟩
  have B6 : Hid (Below _ W w6) := on B5.out b6
  have D6 : Hid (Below w4.heap.size w4 w6) := on D5.out b6
  have F6 : Hid (Below v4.heap.size v4 w6) := on F5.out b6
  have M5 : Hid (Hm w6 _ (.slice xa0 H.regs.length xk0) (.slice xa1 H.csr.length xk1) (.slice xa2 H.inn.length xk2) (.slice xa3 H.out.length xk3) H) := M4.out.keep D6.out
  have X6 : Hid (Vb w6 s4 #[.slice xa0 H.regs.length xk0, .int .i64 H.pc, .slice xa1 H.csr.length xk1, .bool H.halted, .bool H.waiting, .bool H.rung, .int .i64 H.done, .slice xa2 H.inn.length xk2, .slice xa3 H.out.length xk3] 32) := X5.out.keep b6
  have Y6 : Hid (Vb w6 s3 #[.int .i64 p1, .slice ua3 ul uc3] 30) := Y5.out.keep b6
  have G6 : Hid (Vb w6 s5 #[.int .i64 p1, .slice ua5 ul uc5] 30) := G5.out.keep b6
  have U6 : Hid (Prs 64 w6 v4.heap.size (.slice ua5 ul uc5) sl) := U5.out.keep b6
  have UN6 : Hid (Prs 64 w6 0 (.slice ua3 ul uc3) sl) := UN5.out.keep b6
  have Q6 := Q.out.keep B6.out
  clear b6 X5 Y5 G5 D5 B5 F5
  have q0 := Q6.cell 0 rfl
  have q1 := Q6.cell 1 rfl
  have q2 := Q6.cell 2 rfl
  have q3 := Q6.cell 3 rfl
  have q4 := Q6.cell 4 rfl
  have q5 := Q6.cell 5 rfl
  have q6 := Q6.cell 6 rfl
  have q7 := Q6.cell 7 rfl
  have q8 := Q6.cell 8 rfl
  have x0 := X6.out.cell 0 rfl
  have x1 := X6.out.cell 1 rfl
  have x2 := X6.out.cell 2 rfl
  have x3 := X6.out.cell 3 rfl
  have x4 := X6.out.cell 4 rfl
  have x5 := X6.out.cell 5 rfl
  have x6 := X6.out.cell 6 rfl
  have x7 := X6.out.cell 7 rfl
  have x8 := X6.out.cell 8 rfl
  clear Q6
  go_wp2_with fail
  go_cut [55] from 17 to 112 (fun c wx => c = .bool false ∧ Below w6.heap.size w6 wx)
  case first =>
    go_region_with (first
      | (go_at_call 9; refine (to_hart _ _ _ _ _ _ _ _ _ _ _ _ H _ (HP.out.stay (by first | exact B6.out | exact B6.out.drew | exact B6.out.drew.drew | exact B6.out.drew.drew.drew)) SM.out).mono ?_; rintro e w8 ⟨r8, d8, i8, o8, rfl, m8, A8, b8⟩; clear A8; have E8 : Hid (Below w6.heap.size w6 w8) := (by first | exact b8 | exact on (Below.refl _ _).drew b8 | exact on (Below.refl _ _).drew.drew b8 | exact on (Below.refl _ _).drew.drew.drew b8); have x0 := cell_keep b8 x0; have x1 := cell_keep b8 x1; have x2 := cell_keep b8 x2; have x3 := cell_keep b8 x3; have x4 := cell_keep b8 x4; have x5 := cell_keep b8 x5; have x6 := cell_keep b8 x6; have x7 := cell_keep b8 x7; have x8 := cell_keep b8 x8; (first | have N8 := M5.out.keep b8 | have N8 := (M5.out.keep (Below.refl _ _).drew).keep b8 | have N8 := (M5.out.keep (Below.refl _ _).drew.drew).keep b8); clear b8)
      | (go_at_call 14; refine (eq_hart _ _ _ _ _ _ _ _ H _ _ _ (by first | exact N8 | exact N8.keep (Below.refl _ _).drew | exact N8.keep (Below.refl _ _).drew.drew) (by first | exact m8 | exact m8.keep (Below.refl _ _).drew | exact m8.keep (Below.refl _ _).drew.drew)).mono ?_; rintro e w7 ⟨rfl, b7⟩; (first | have E7 : Hid (Below w6.heap.size w6 w7) := on E8.out b7 | have E7 : Hid (Below w6.heap.size w6 w7) := on E8.out.drew b7 | have E7 : Hid (Below w6.heap.size w6 w7) := on E8.out.drew.drew b7); clear b7))
    all_goals (go_wp2_with fail; go_meet; exact ⟨rfl, by first | exact E7.out | exact E7.out.drew⟩)
  case rest =>
  obtain ⟨rfl, b7⟩ := hcut
  have B7 : Hid (Below _ W wc) := on B6.out b7
  have D7 : Hid (Below w4.heap.size w4 wc) := on D6.out b7
  have F7 : Hid (Below v4.heap.size v4 wc) := on F6.out b7
  clear q0 q1 q2 q3 q4 q5 q6 q7 q8 x0 x1 x2 x3 x4 x5 x6 x7 x8 M5
  have X7 : Hid (Vb wc s4 #[.slice xa0 H.regs.length xk0, .int .i64 H.pc, .slice xa1 H.csr.length xk1, .bool H.halted, .bool H.waiting, .bool H.rung, .int .i64 H.done, .slice xa2 H.inn.length xk2, .slice xa3 H.out.length xk3] 32) := X6.out.keep b7
  have Y7 : Hid (Vb wc s3 #[.int .i64 p1, .slice ua3 ul uc3] 30) := Y6.out.keep b7
  have G7 : Hid (Vb wc s5 #[.int .i64 p1, .slice ua5 ul uc5] 30) := G6.out.keep b7
  have U7 : Hid (Prs 64 wc v4.heap.size (.slice ua5 ul uc5) sl) := U6.out.keep b7
  have UN7 : Hid (Prs 64 wc 0 (.slice ua3 ul uc3) sl) := UN6.out.keep b7
  clear b7
  go_wp2_with fail
  refine (to_pages pa pn pc ps wc (PP.out.stay B7.out) SP.out).mono ?_
  rintro e t1 ⟨g7, rfl, p7, b7⟩
  have P7 : Hid (Prs 64 t1 wc.heap.size (.slice (some ⟨g7, 0, none⟩) pn pn) ps) := p7
  have C1 : Hid (Below wc.heap.size wc t1) := b7
  clear p7 b7
  go_wp2_with fail
  refine (eq_pages _ _ ps _ _ t1 (P4.out.keep (on F7.out C1.out)) P7.out).mono ?_
  rintro e t2 ⟨rfl, b7⟩
  have C2 : Hid (Below wc.heap.size wc t2) := on C1.out b7
  clear b7 P7
  go_wp2_with fail
  refine (to_nums ma mn mc zs t2 (MM.out.stay (on B7.out C2.out)) SZ.out).mono ?_
  rintro e t3 ⟨h7, rfl, k7, b7⟩
  have N7 : Hid (Nums t3 t2.heap.size (.slice (some ⟨h7, 0, none⟩) mn mn) zs) := k7
  have C3 : Hid (Below wc.heap.size wc t3) := on C2.out b7
  clear k7 b7
  go_wp2_with fail
  refine (eq_nums _ _ zs _ _ t3 (N4.out.keep (on F7.out C3.out)) N7.out).mono ?_
  rintro e t4 ⟨rfl, b7⟩
  have C4 : Hid (Below wc.heap.size wc t4) := on C3.out b7
  clear b7 N7
  have B8 : Hid (Below _ W t4) := on B7.out C4.out
  have F8 : Hid (Below v4.heap.size v4 t4) := on F7.out C4.out
  have X8 : Hid (Vb t4 s4 #[.slice xa0 H.regs.length xk0, .int .i64 H.pc, .slice xa1 H.csr.length xk1, .bool H.halted, .bool H.waiting, .bool H.rung, .int .i64 H.done, .slice xa2 H.inn.length xk2, .slice xa3 H.out.length xk3] 32) := X7.out.keep C4.out
  have Y8 : Hid (Vb t4 s3 #[.int .i64 p1, .slice ua3 ul uc3] 30) := Y7.out.keep C4.out
  have G8 : Hid (Vb t4 s5 #[.int .i64 p1, .slice ua5 ul uc5] 30) := G7.out.keep C4.out
  have U8 : Hid (Prs 64 t4 v4.heap.size (.slice ua5 ul uc5) sl) := U7.out.keep C4.out
  have UN8 : Hid (Prs 64 t4 0 (.slice ua3 ul uc3) sl) := UN7.out.keep C4.out
  have M8 : Hid (Hm t4 W3.heap.size (.slice xa0 H.regs.length xk0) (.slice xa1 H.csr.length xk1) (.slice xa2 H.inn.length xk2) (.slice xa3 H.out.length xk3) H) := M4.out.keep (on D7.out C4.out)
  have P8 : Hid (Prs 64 t4 W4.heap.size (.slice (some ⟨g4, 0, none⟩) pn pn) ps) := P4.out.keep F8.out
  have N8 : Hid (Nums t4 u4.heap.size (.slice (some ⟨h4, 0, none⟩) mn mn) zs) := N4.out.keep F8.out
  have TH : Hid ((1 : Int) + totH H ≤ 5000000) := by
    have := SM.out.regs; have := SM.out.csr; have := SM.out.inn; have := SM.out.out
    have := HP.out.regs.ln.1; have := HP.out.csr.ln.1; have := HP.out.inn.ln.1; have := HP.out.out.ln.1
    show _ ≤ _; unfold totH; omega
  clear C1 C2 C3 C4 X6 X7 Y6 Y7 G6 G7 U6 U7 UN6 UN7 F6 F7 D6 D7 B6
  have x0 := X8.out.cell 0 rfl
  have x1 := X8.out.cell 1 rfl
  have x2 := X8.out.cell 2 rfl
  have x3 := X8.out.cell 3 rfl
  have x4 := X8.out.cell 4 rfl
  have x5 := X8.out.cell 5 rfl
  have x6 := X8.out.cell 6 rfl
  have x7 := X8.out.cell 7 rfl
  have x8 := X8.out.cell 8 rfl
  go_wp2_with fail
  clear x0 x1 x2 x3 x4 x5 x6 x7 x8
  refine (mark_hart _ _ _ _ H 1 _ _ M8.out HA4.out (by decide) (by have := TH.out; omega)).mono ?_
  rintro e m1 ⟨rfl, _, mk1⟩
  have RN : Hid (∀ k, Own4 (.slice xa0 H.regs.length xk0) (.slice xa1 H.csr.length xk1) (.slice xa2 H.inn.length xk2) (.slice xa3 H.out.length xk3) k → W3.heap.size ≤ k ∧ k < w4.heap.size) := fun k e => M4.out.own k e
  have Bm : Hid (Below _ W m1) := Mq.below B8.out mk1 fun k e => by have := (RN.out k e).1; have := B3.out.size; omega
  have Ym : Hid (Vb m1 s3 #[.int .i64 p1, .slice ua3 ul uc3] 30) := mk1.vb Y8.out fun e => by have := (RN.out _ e).1; have := Z3.out; omega
  have Gm : Hid (Vb m1 s5 #[.int .i64 p1, .slice ua5 ul uc5] 30) := mk1.vb G8.out fun e => by have := (RN.out _ e).2; have := S4.out; have := Z4.out.2; have := Z4u.out; have := Z5.out; omega
  have Um : Hid (Prs 64 m1 v4.heap.size (.slice ua5 ul uc5) sl) := mk1.prs U8.out fun k e f => by have := (L5.out k e).1; have := (RN.out _ f).2; have := S4.out; have := Z4.out.2; have := Z4u.out; omega
  have UNm : Hid (Prs 64 m1 0 (.slice ua3 ul uc3) sl) := mk1.prs UN8.out fun k e f => by have := L3.out k e; have := (RN.out _ f).1; have := Z3.out; omega
  have Pm : Hid (Prs 64 m1 W4.heap.size (.slice (some ⟨g4, 0, none⟩) pn pn) ps) := mk1.prs P8.out fun k e f => by have := (P8.out.lt k e).1; have := (RN.out _ f).2; have := S4.out; have := Z4.out.2; omega
  have Nm : Hid (Nums m1 u4.heap.size (.slice (some ⟨h4, 0, none⟩) mn mn) zs) := mk1.nums N8.out fun k e f => by have := (N8.out.lt k e).1; have := (RN.out _ f).2; have := S4.out; have := Z4.out.2; have := Z4u.out; omega
  have hp1 : 0 ≤ (1 : Int) + totH H := by omega
  have hq1 : (1 : Int) + totH H ≤ 5000000 := TH.out
  generalize (1 : Int) + totH H = T1 at *
  clear mk1 Y8 G8 U8 UN8 X8 M8 P8 N8
  go_wp2_with fail
  refine (mark_pages _ T1 ps _ m1 Pm.out hp1 (by have := LL.out.1; omega)).mono ?_
  rintro e m2 ⟨rfl, _, gk⟩
  have mk2 := Mq.of (S := fun k => k = g4) gk fun k e => (by simpa [Value.ownBlock] using e : k = g4)
  have GP : Hid (W4.heap.size ≤ g4 ∧ g4 < u4.heap.size) := ⟨(Pm.out.lt g4 rfl).1, G4.out⟩
  have Bn : Hid (Below _ W m2) := Mq.below Bm.out mk2 fun k e => by have := GP.out.1; have := B4.out.size; omega
  have Yn : Hid (Vb m2 s3 #[.int .i64 p1, .slice ua3 ul uc3] 30) := mk2.vb Ym.out fun e => by have := GP.out.1; have := Z3.out; have := Z4.out; omega
  have Gn : Hid (Vb m2 s5 #[.int .i64 p1, .slice ua5 ul uc5] 30) := mk2.vb Gm.out fun e => by have := GP.out.2; have := Z4u.out; have := Z5.out; omega
  have Un : Hid (Prs 64 m2 v4.heap.size (.slice ua5 ul uc5) sl) := mk2.prs Um.out fun k e f => by have := (L5.out k e).1; have := GP.out.2; have := Z4u.out; omega
  have UNn : Hid (Prs 64 m2 0 (.slice ua3 ul uc3) sl) := mk2.prs UNm.out fun k e f => by have := L3.out k e; have := GP.out.1; have := Z3.out; have := Z4.out; omega
  have Nn : Hid (Nums m2 u4.heap.size (.slice (some ⟨h4, 0, none⟩) mn mn) zs) := mk2.nums Nm.out fun k e f => by have := (Nm.out.lt k e).1; have := GP.out.2; omega
  have hp2 : 0 ≤ T1 + (2 * ps.length : Nat) := by omega
  have hq2 : T1 + (2 * ps.length : Nat) ≤ 9000000 := by have := LL.out.1; omega
  generalize T1 + (2 * ps.length : Nat) = T2 at *
  clear mk2 gk Ym Gm Um UNm Nm Pm hp1 hq1
  go_wp2_with fail
  refine (mark_nums _ T2 zs _ m2 Nn.out hp2 (by have := LL.out.2; omega)).mono ?_
  rintro e m3 ⟨rfl, _, gk⟩
  have mk3 := Mq.of (S := fun k => k = h4) gk fun k e => (by simpa [Value.ownBlock] using e : k = h4)
  have GN : Hid (u4.heap.size ≤ h4 ∧ h4 < v4.heap.size) := ⟨(N4.out.lt h4 rfl).1, (N4.out.lt h4 rfl).2⟩
  have Bo : Hid (Below _ W m3) := Mq.below Bn.out mk3 fun k e => by have := GN.out.1; have := B4.out.size; have := Z4u.out; omega
  have Yo : Hid (Vb m3 s3 #[.int .i64 p1, .slice ua3 ul uc3] 30) := mk3.vb Yn.out fun e => by have := GN.out.1; have := Z3.out; have := Z4.out; have := Z4u.out; omega
  have Go' : Hid (Vb m3 s5 #[.int .i64 p1, .slice ua5 ul uc5] 30) := mk3.vb Gn.out fun e => by have := GN.out.2; have := Z5.out; omega
  have Uo : Hid (Prs 64 m3 v4.heap.size (.slice ua5 ul uc5) sl) := mk3.prs Un.out fun k e f => by have := (L5.out k e).1; have := GN.out.2; omega
  have UNo : Hid (Prs 64 m3 0 (.slice ua3 ul uc3) sl) := mk3.prs UNn.out fun k e f => by have := L3.out k e; have := GN.out.1; have := Z3.out; have := Z4.out; have := Z4u.out; omega
  have hp3 : 0 ≤ T2 + (zs.length : Nat) := by omega
  have hq3 : T2 + (zs.length : Nat) ≤ 12000000 := by have := LL.out.2; omega
  generalize T2 + (zs.length : Nat) = T3 at *
  clear mk3 gk Yn Gn Un UNn Nn hp2 hq2
  have y0 := Yo.out.cell 0 rfl
  have y1 := Yo.out.cell 1 rfl
  have g0 := Go'.out.cell 0 rfl
  have g1 := Go'.out.cell 1 rfl
  go_wp2_with fail
  clear y0 y1 g0 g1
  refine (eq_pagesR _ _ _ sl _ _ _ Uo.out UNo.out).mono ?_
  rintro e t5 ⟨rfl, b7⟩
  have Bp : Hid (Below _ W t5) := on Bo.out b7
  have Yp : Hid (Vb t5 s3 #[.int .i64 p1, .slice ua3 ul uc3] 30) := Yo.out.keep b7
  have Gp : Hid (Vb t5 s5 #[.int .i64 p1, .slice ua5 ul uc5] 30) := Go'.out.keep b7
  have Up : Hid (Prs 64 t5 v4.heap.size (.slice ua5 ul uc5) sl) := Uo.out.keep b7
  have UNp : Hid (Prs 64 t5 0 (.slice ua3 ul uc3) sl) := UNo.out.keep b7
  clear b7 Yo Go' Uo UNo hq3
  have g0 := Gp.out.cell 0 rfl
  have g1 := Gp.out.cell 1 rfl
  go_wp2_with fail
  clear g0 g1
  refine (mark_pagesR _ _ sl 1 _ t5 Up.out (by decide) (by have := SL8.out; omega)).mono ?_
  rintro e t6 ⟨rfl, n7, gk⟩
  have mk4 := Mq.of (S := fun k => (Value.slice ua5 ul uc5).ownBlock = some k) gk fun k e => e.symm
  have Bq : Hid (Below _ W t6) := Mq.below Bp.out mk4 fun k e => by have := (L5.out k e).1; have := B4v.out.size; omega
  have Yq : Hid (Vb t6 s3 #[.int .i64 p1, .slice ua3 ul uc3] 30) := mk4.vb Yp.out fun e => by have := (L5.out _ e).1; have := Z3.out; have := Z4.out; have := Z4u.out; omega
  have Gq : Hid (Vb t6 s5 #[.int .i64 p1, .slice ua5 ul uc5] 30) := mk4.vb Gp.out fun e => by have := (L5.out _ e).2; omega
  have UNq : Hid (Prs 64 t6 0 (.slice ua3 ul uc3) sl) := mk4.prs UNp.out fun k e f => by have := L3.out k e; have := (L5.out _ f).1; have := Z3.out; have := Z4.out; have := Z4u.out; omega
  have Uq : Hid (Prs 64 t6 v4.heap.size (.slice ua5 ul uc5) (pmarks 1 sl.length)) := n7
  obtain ⟨T4, hT4⟩ : ∃ T4, (1 : Int) + (2 * sl.length : Nat) = T4 := ⟨_, rfl⟩
  have HT4 : Hid ((1 : Int) + (2 * sl.length : Nat) = T4) := hT4
  have hp4 : 0 ≤ T4 := by omega
  rw [hT4]
  clear mk4 gk n7 hT4 Yp Gp Up UNp
  have g0 := Gq.out.cell 0 rfl
  have g1 := Gq.out.cell 1 rfl
  go_wp2_with fail
  clear g0 g1
  refine (held_pagesR _ _ 1 sl.length _ t6 Uq.out (by decide) (by have := SL8.out; omega)).mono ?_
  rintro e t7 ⟨rfl, b7⟩
  rw [HT4.out]
  have Br : Hid (Below _ W t7) := on Bq.out b7
  have Yr : Hid (Vb t7 s3 #[.int .i64 p1, .slice ua3 ul uc3] 30) := Yq.out.keep b7
  have Gr : Hid (Vb t7 s5 #[.int .i64 p1, .slice ua5 ul uc5] 30) := Gq.out.keep b7
  have UNr : Hid (Prs 64 t7 0 (.slice ua3 ul uc3) sl) := UNq.out.keep b7
  have Ur : Hid (Prs 64 t7 v4.heap.size (.slice ua5 ul uc5) (pmarks 1 sl.length)) := Uq.out.keep b7
  have Qr := Q.out.keep Br.out
  clear b7 Yq Gq UNq Uq
  have q0 := Qr.cell 0 rfl
  have q1 := Qr.cell 1 rfl
  have q2 := Qr.cell 2 rfl
  have q3 := Qr.cell 3 rfl
  have q4 := Qr.cell 4 rfl
  have q5 := Qr.cell 5 rfl
  have q6 := Qr.cell 6 rfl
  have q7 := Qr.cell 7 rfl
  have q8 := Qr.cell 8 rfl
  clear Qr
  go_wp2_with fail
  clear q0 q1 q2 q3 q4 q5 q6 q7 q8
  refine (to_hart _ _ _ _ _ _ _ _ _ _ _ _ H _ (HP.out.stay Br.out) SM.out).mono ?_
  rintro e t8 ⟨r9, d9, i9, o9, rfl, m9, A9, b8⟩
  clear A9
  go_wp2_with fail
  refine (to_pages pa pn pc ps t8 (PP.out.stay (on Br.out b8)) SP.out).mono ?_
  rintro e t9 ⟨g9, rfl, p9, b9⟩
  go_wp2_with fail
  refine (to_nums ma mn mc zs t9 (MM.out.stay (on Br.out (on b8 b9))) SZ.out).mono ?_
  rintro e t10 ⟨h9, rfl, k9, b10⟩
  have c10 := on b8 (on b9 b10)
  have Bs : Hid (Below _ W t10) := on Br.out c10
  have Ys : Hid (Vb t10 s3 #[.int .i64 p1, .slice ua3 ul uc3] 30) := Yr.out.keep c10
  have Gs : Hid (Vb t10 s5 #[.int .i64 p1, .slice ua5 ul uc5] 30) := Gr.out.keep c10
  have UNs : Hid (Prs 64 t10 0 (.slice ua3 ul uc3) sl) := UNr.out.keep c10
  have Us : Hid (Prs 64 t10 v4.heap.size (.slice ua5 ul uc5) (pmarks 1 sl.length)) := Ur.out.keep c10
  have M9 : Hid (Hm t10 0 r9 d9 i9 o9 H) := (m9.keep (on b9 b10)).mono (Nat.zero_le _)
  have P9 : Hid (Prs 64 t10 0 (.slice (some ⟨g9, 0, none⟩) pn pn) ps) := (p9.keep b10).mono (Nat.zero_le _)
  have N9 : Hid (Nums t10 0 (.slice (some ⟨h9, 0, none⟩) mn mn) zs) := k9.mono (Nat.zero_le _)
  clear b8 b9 b10 c10 m9 p9 k9 Yr Gr UNr Ur
  go_wp2_with fail
  refine (i_spaceOf _ _ _ _ H _ _ _ ps _ _ _ zs 0 t10 M9.out P9.out LL.out.1 N9.out LL.out.2).mono ?_
  rintro e t11 ⟨u9, rfl, pu9, b9⟩
  rw [HX.out]
  rw [HSL.out] at pu9
  obtain ⟨ua9, uc9, hu9, _⟩ := pu9.shape
  rw [HUL.out] at hu9
  subst hu9
  have WN : Hid (Below t11.heap.size t11 (t11.alloc (.cells #[.int .i64 p1, .slice ua9 ul uc9] 30))) := al (Below.refl _ _) _
  have Bt : Hid (Below _ W t11) := on Bs.out b9
  have Gt : Hid (Vb t11 s5 #[.int .i64 p1, .slice ua5 ul uc5] 30) := Gs.out.keep b9
  have UNt : Hid (Prs 64 t11 0 (.slice ua3 ul uc3) sl) := UNs.out.keep b9
  have Ut : Hid (Prs 64 t11 v4.heap.size (.slice ua5 ul uc5) (pmarks 1 sl.length)) := Us.out.keep b9
  have U9 : Hid (Prs 64 (t11.alloc (.cells #[.int .i64 p1, .slice ua9 ul uc9] 30)) 0 (.slice ua9 ul uc9) sl) := (pu9.keep WN.out).mono (Nat.zero_le _)
  have Yt := Ys.out.keep b9
  have l6 : s3 < t11.heap.size := Yt.lt
  have y0 := Yt.cell 0 rfl
  have y1 := Yt.cell 1 rfl
  clear b9 Yt pu9 M9 P9 N9 Ys Gs UNs Us
  go_wp2_with fail
  refine (eq_pagesR _ _ _ sl _ _ _ U9.out (UNt.out.keep WN.out)).mono ?_
  rintro e t12 ⟨rfl, b8⟩
  have b7 := on WN.out b8
  have Bu : Hid (Below _ W t12) := on Bt.out b7
  have Uu : Hid (Prs 64 t12 v4.heap.size (.slice ua5 ul uc5) (pmarks 1 sl.length)) := Ut.out.keep b7
  have Gu := Gt.out.keep b7
  clear b7 b8 y0 y1 l6
  have g0 := Gu.cell 0 rfl
  have g1 := Gu.cell 1 rfl
  clear Gu
  go_wp2_with fail
  refine (held_pagesR _ _ 1 sl.length _ t12 Uu.out (by decide) (by have := SL8.out; omega)).mono ?_
  rintro e t13 ⟨rfl, b8⟩
  rw [HT4.out]
  go_wp2_with fail
  go_ret
  exact ⟨rfl, on B0.out (on Bu.out b8)⟩

set_option maxRecDepth 100000 in
theorem lifted (os : Os) (started : os.Started) (H : Type) (enc : TypeId × Value → H) :
    ReturnsInHanded {} Try.checked os 3 .any (Rows.fnExactSpaceOfSpec.pre6 enc Try.prog Try.f3 Rows.fnExactSpaceOfRow.domain false) (Rows.fnExactSpaceOfSpec.post enc Try.prog Try.f3 false true false false) := by
  refine returnsInHanded_of_change (C := Try.checked) own started (by kernel_rfl) Try.func3
    (ChangeSpec.witness6 (enc := enc) (C := Try.checked) false ⟨#[], #[.agg #[.slice none 0 0, .int .i64 0, .slice none 0 0, .bool false, .bool false, .bool false, .int .i64 0, .slice none 0 0, .slice none 0 0], .slice none 0 0, .slice none 0 0], []⟩ 8 (by kernel_rfl) (by kernel_rfl) (by kernel_rfl) (by kernel_rfl)) ?_
  intro W base args ds gs before hval0 hW hcnd _
  have hval : ∀ (j : Nat) t v, Try.f3.params[j]? = some t → args[j]? = some v → Value.okWide Try.prog W .any base t v := hval0
  have hW' := hW
  obtain ⟨p, q, hA0, hV, rfl, hfz, hnd⟩ := hW
  have hA : DataW.TrodAll enc Try.prog W 0 (fun _ => true) true Try.f3.params.toList args.toList ds p := hA0
  rw [Try.params3] at hA hval
  obtain ⟨v0, vs0, d0, ds0, p0, q0, hargs, rfl, rfl, h0, r0⟩ := trodAll_cons hA
  obtain ⟨v1, vs1, d1, ds1, p1, q1, rfl, rfl, rfl, h1, r1⟩ := trodAll_cons r0
  obtain ⟨v2, vs2, d2, ds2, p2, q2, rfl, rfl, rfl, h2, r2⟩ := trodAll_cons r1
  obtain ⟨rfl, rfl, rfl⟩ := trodAll_nil r2
  obtain rfl : args = #[v0, v1, v2] := by cases args; simp_all
  obtain ⟨rfl, rfl⟩ := trodVars_none hV
  have k0 := h0
  have lt0 : ∀ x ∈ p0, x.block < W.heap.size := by obtain ⟨m, hm⟩ := k0; exact DataW.trod_lt m _ _ _ hm
  obtain ⟨pa0, pa1, pa2, pa3, pn0, pk0, pn1, pk1, pn2, pk2, pn3, pk3, pH, rfl, pin⟩ := hart_open Try.underlying24 (by kernel_rfl) (by kernel_rfl) Try.underlying22 Try.underlying2 Try.underlying22 Try.underlying4 Try.underlying4 Try.underlying4 Try.underlying2 Try.underlying22 Try.underlying22 Try.underlying2 Try.underlying2 Try.underlying2 Try.underlying2 (by kernel_rfl) (by kernel_rfl) (by kernel_rfl) (by kernel_rfl) (hval 0 24 v0 rfl rfl) h0
  obtain ⟨a1, len1, cap1, rfl⟩ := okWide_slice Try.underlying25 (hval 1 25 v1 rfl rfl)
  have k1 := h1
  have lt1 : ∀ x ∈ p1, x.block < W.heap.size := by obtain ⟨m, hm⟩ := k1; exact DataW.trod_lt m _ _ _ hm
  obtain ⟨z1, w1⟩ : ∃ rs, IsPairs W a1 len1 cap1 rs := by
    obtain ⟨fuel, hf⟩ := h1
    rcases Go.Deep.open_slice_pairs Try.underlying25 Try.underlying66 (by kernel_rfl) rfl rfl (by kernel_rfl) (by kernel_rfl) hf with ⟨hcs, _⟩ | ⟨x, l, c, m, n, V0, V1, D0, D1, P0, P1, hcs, _, hl, hm, hmm, _, hx⟩
    · simp [Value.cells] at hcs
      obtain ⟨rfl, rfl, rfl⟩ := hcs
      exact ⟨[], .inl ⟨rfl, rfl, rfl, rfl⟩⟩
    · simp [Value.cells] at hcs
      obtain ⟨rfl, rfl, rfl⟩ := hcs
      refine IsPairs.of V0 V1 hl hm fun j hj => ?_
      have hjm : j < m := by rw [hmm]; split <;> omega
      obtain ⟨g0, g1, g2, g3⟩ := hx j hjm
      obtain ⟨b0, y0, _, _⟩ := DataW.trod_int Try.underlying2 g2
      obtain ⟨b1, y1, _, _⟩ := DataW.trod_int Try.underlying2 g3
      exact ⟨g0, g1, ⟨b0, by simpa using y0⟩, ⟨b1, by simpa using y1⟩⟩
  obtain ⟨a2, len2, cap2, rfl⟩ := okWide_slice Try.underlying22 (hval 2 22 v2 rfl rfl)
  have k2 := h2
  have lt2 : ∀ x ∈ p2, x.block < W.heap.size := by obtain ⟨m, hm⟩ := k2; exact DataW.trod_lt m _ _ _ hm
  obtain ⟨z2, w2⟩ : ∃ zs, IsRow .i64 W a2 len2 cap2 zs := by
    obtain ⟨fuel, hf⟩ := h2
    rcases open_ints Try.underlying22 Try.underlying2 (by kernel_rfl) hf with ⟨hcs, _⟩ | ⟨x, l, c, zs, hcs, _, hl, hm, hz, _, hcell, hwz⟩
    · simp [Value.cells] at hcs
      obtain ⟨rfl, rfl, rfl⟩ := hcs
      exact ⟨[], .inl ⟨rfl, rfl, rfl, rfl⟩⟩
    · simp [Value.cells] at hcs
      obtain ⟨rfl, rfl, rfl⟩ := hcs
      exact ⟨_, IsRow.of_all hl hm (by simpa using hz) hcell hwz⟩
  clear hA0 hval0
  refine (walk pa0 pa1 pa2 pa3 pn0 pk0 pn1 pk1 pn2 pk2 pn3 pk3 pH a1 len1 cap1 z1 a2 len2 cap2 z2 W pin w1 w2).mono fun e W' ⟨he, bel⟩ => ?_
  subst he
  exact ⟨_, rfl, _, _, _, [], _, [], hW', trodAll_mk1 (shut_bool Try.underlying4 _), (trodAll_cons_mk (Below.trod laidOut (by kernel_rfl) (of_decide_eq_true (by kernel_rfl)) k0 bel lt0) (trodAll_cons_mk (Below.trod laidOut (by kernel_rfl) (of_decide_eq_true (by kernel_rfl)) k1 bel lt1) (trodAll_cons_mk (Below.trod laidOut (by kernel_rfl) (of_decide_eq_true (by kernel_rfl)) k2 bel lt2) trodAll_mk0))), rfl, bel.frame _, fun h => by cases h⟩

theorem over : Rows.fnExactSpaceOfRow.holds Try.pinned (OpenSpec.ofChange Rows.fnExactSpaceOfSpec) :=
  OpenClaim.holds_of_wide 3 Try.f3 rfl rfl rfl rfl rfl rfl rfl ⟨rfl, rfl, rfl, rfl, rfl⟩ rfl rfl rfl rfl rfl (by kernel_rfl) Try.func3 (by kernel_rfl)
    (of_decide_eq_true (by kernel_rfl)) (by unfold Func.isWrapper; first | (rw [if_pos (by decide +kernel)]; kernel_rfl) | (rw [if_neg (by decide +kernel)]; exact ⟨rfl, rfl⟩))
    (fun os started H enc _ => lifted os started H enc)

theorem proved : Rows.FnExactSpaceOfSaid := over
end Go.Proofs.Ytccbiejlljbfcaa.fnExactSpaceOfDone
