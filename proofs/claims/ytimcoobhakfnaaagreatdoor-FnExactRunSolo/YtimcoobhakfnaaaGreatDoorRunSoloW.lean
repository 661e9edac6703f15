/- The walk of a law. -/
import Derived.Test.YtimcoobhakfnaaaGreatDoorCards
import Derived.Test.YtimcoobhakfnaaaGreatDoorTie
import Derived.Deep.DeepHandedRow
import Derived.Lib.LaidTab
import Derived.Stop.LaidErr
import Derived.Lib.SmallJoins
import Derived.Deep.RegionWith
import Derived.Deep.RegionHeld3
import Derived.Deep.Cut
import Derived.Deep.CutRange
import Derived.Test.YtimcoobhakfnaaaGreatDoorQ01
import Derived.Test.YtimcoobhakfnaaaGreatDoorQ14
import Derived.Test.YtimcoobhakfnaaaGreatDoorQ51
namespace Go.Proofs.YtimcoobhakfnaaaGreatDoor.fnExactRunSoloDone
open Go.ChangeShapes Go.WideShapes Go.ChangeAt Go.RowKit
open Go.ChangeMaps (open_string shut_string)
set_option linter.unusedVariables false

set_option maxRecDepth 20000 in
set_option maxHeartbeats 8000000 in
theorem walk (a0 a1 a2 a3 : Option Addr) (n0 c0 n1 c1 n2 c2 n3 c3 : Nat) (H : Ht) (la : Option Addr) (ln lc : Nat) (ps : List (Int × Int)) (ma : Option Addr) (mn mc : Nat) (zs : List Int) (n : Int) (w : World) (h : Hin w a0 n0 c0 a1 n1 c1 a2 n2 c2 a3 n3 c3 H) (hp : IsPairs w la ln lc ps) (hz : IsRow .i64 w ma mn mc zs) (wn : (Lit.int .i64 n).wf = true) (hg : Tab w) :
    Calls Tryz.prog 3 #[.agg #[.slice a0 n0 c0, .int .i64 H.pc, .slice a1 n1 c1, .bool H.halted, .bool H.waiting, .bool H.rung, .int .i64 H.done, .slice a2 n2 c2, .slice a3 n3 c3, .slice la ln lc, .slice ma mn mc], .int .i64 n] w fun e w' => e = .returned (.bool true) ∧ Below w.heap.size w w' := by
  generalize hW : w.alloc (.cells #[.slice a0 n0 c0, .int .i64 H.pc, .slice a1 n1 c1, .bool H.halted, .bool H.waiting, .bool H.rung, .int .i64 H.done, .slice a2 n2 c2, .slice a3 n3 c3, .slice la ln lc, .slice ma mn mc] 27) = W
  have B0 : Hid (Below w.heap.size w W) := by show Below _ _ _; rw [← hW]; exact al (Below.refl _ _) _
  obtain ⟨s, hS⟩ : ∃ s, w.heap.size = s := ⟨_, rfl⟩
  have Q : Hid (Vb W s #[.slice a0 n0 c0, .int .i64 H.pc, .slice a1 n1 c1, .bool H.halted, .bool H.waiting, .bool H.rung, .int .i64 H.done, .slice a2 n2 c2, .slice a3 n3 c3, .slice la ln lc, .slice ma mn mc] 27) := by
    show Vb _ _ _ _
    rw [← hW, ← hS]
    exact Vb.new _ _ _
  have HP : Hid (Hin W a0 n0 c0 a1 n1 c1 a2 n2 c2 a3 n3 c3 H ∧ IsPairs W la ln lc ps ∧ IsRow .i64 W ma mn mc zs) := ⟨h.stay B0.out, hp.stay B0.out, hz.stay B0.out⟩
  have EL : Hid (ln = ps.length ∧ mn = zs.length) := ⟨hp.len, hz.ln.1⟩
  have HG : Hid (Tab W ∧ 0 < W.heap.size) := ⟨hg.keep B0.out, Nat.lt_of_lt_of_le (block_of_cell hg.c0) B0.out.size⟩
  clear h hp hz wn hg
  have q0 := Q.out.cell 0 rfl
  have q1 := Q.out.cell 1 rfl
  have q2 := Q.out.cell 2 rfl
  have q3 := Q.out.cell 3 rfl
  have q4 := Q.out.cell 4 rfl
  have q5 := Q.out.cell 5 rfl
  have q6 := Q.out.cell 6 rfl
  have q7 := Q.out.cell 7 rfl
  have q8 := Q.out.cell 8 rfl
  have q9 := Q.out.cell 9 rfl
  have q10 := Q.out.cell 10 rfl
  go_enter Tryz.func3, Tryz.ntmps3
  go_wp2_with fail
  clear hW hS
  refine (sz_solo _ _ _ _ _ _ _ _ _ _ _ _ H _ _ _ ps _ _ _ zs _ HP.out.1 HP.out.2.1 HP.out.2.2).mono ?_
  rintro e w1 ⟨⟨r, rfl, hs⟩, b1⟩
  by_cases hneg : r < 0
  · go_wp2_with fail
    go_ret
    exact ⟨rfl, on B0.out b1⟩
  have SM : Hid (Hs n0 n1 n2 n3 ∧ ln ≤ 1048576 ∧ mn ≤ 1048576) := hs (by omega)
  have PL : Hid (ps.length ≤ 1048576) := by show _ ≤ _; rw [← EL.out.1]; exact SM.out.2.1
  have B1 : Hid (Below _ W w1) := b1
  have Q1 := Q.out.keep b1
  clear hs b1 q0 q1 q2 q3 q4 q5 q6 q7 q8 q9 q10
  have q0 := Q1.cell 0 rfl
  have q1 := Q1.cell 1 rfl
  have q2 := Q1.cell 2 rfl
  have q3 := Q1.cell 3 rfl
  have q4 := Q1.cell 4 rfl
  have q5 := Q1.cell 5 rfl
  have q6 := Q1.cell 6 rfl
  have q7 := Q1.cell 7 rfl
  have q8 := Q1.cell 8 rfl
  have q9 := Q1.cell 9 rfl
  have q10 := Q1.cell 10 rfl
  clear Q1
  go_wp2_with fail
  clear q0 q1 q2 q3 q4 q5 q6 q7 q8 q9 q10
  refine (to_solo _ _ _ _ _ _ _ _ _ _ _ _ H _ _ _ ps _ _ _ zs _ (HP.out.1.stay B1.out) (HP.out.2.1.stay B1.out) (HP.out.2.2.stay B1.out) SM.out.1 SM.out.2.1 SM.out.2.2).mono ?_
  rintro e w2 ⟨r2, d2, i2, o2, l2, m2, rfl, s2, b2⟩
  have B2 : Hid (Below _ W w2) := on B1.out b2
  have M2 : Hid (Sm w2 _ r2 d2 i2 o2 l2 m2 H ps zs) := s2
  clear s2 b2
  go_wp2_with fail
  obtain ⟨C, hC⟩ : ∃ C, rsC H ps zs n = C := ⟨_, rfl⟩
  obtain ⟨G, hG⟩ : ∃ G, rsH H ps zs n = G := ⟨_, rfl⟩
  obtain ⟨P, hP⟩ : ∃ P, rsP H ps zs n = P := ⟨_, rfl⟩
  obtain ⟨Z, hZ⟩ : ∃ Z, rsZ H ps zs n = Z := ⟨_, rfl⟩
  have HCZ : Hid (rsC H ps zs n = C ∧ rsH H ps zs n = G ∧ rsP H ps zs n = P ∧ rsZ H ps zs n = Z) := ⟨hC, hG, hP, hZ⟩
  have SY : Hid (totS G P Z ≤ 2000) := by have t := rs_small H ps zs n; rw [hG, hP, hZ] at t; exact t
  have ML : Hid (zs.length ≤ 1048576) := by show _ ≤ _; rw [← EL.out.2]; exact SM.out.2.2
  obtain ⟨e0, le0⟩ : ∃ n, G.regs.length = n := ⟨_, rfl⟩
  obtain ⟨e1, le1⟩ : ∃ n, G.csr.length = n := ⟨_, rfl⟩
  obtain ⟨e2, le2⟩ : ∃ n, G.inn.length = n := ⟨_, rfl⟩
  obtain ⟨e3, le3⟩ : ∃ n, G.out.length = n := ⟨_, rfl⟩
  obtain ⟨e4, le4⟩ : ∃ n, P.length = n := ⟨_, rfl⟩
  obtain ⟨e5, le5⟩ : ∃ n, Z.length = n := ⟨_, rfl⟩
  have LY : Hid (G.regs.length = e0 ∧ G.csr.length = e1 ∧ G.inn.length = e2 ∧ G.out.length = e3 ∧ P.length = e4 ∧ Z.length = e5) := ⟨le0, le1, le2, le3, le4, le5⟩
  clear hC hG hP hZ le0 le1 le2 le3 le4 le5
  have CALL := s_runSolo _ _ _ _ _ _ H ps zs n _ _ M2.out PL.out ML.out
  rw [HCZ.out.1, HCZ.out.2.1, HCZ.out.2.2.1, HCZ.out.2.2.2] at CALL
  refine CALL.mono ?_
  clear CALL M2
  rintro e w3 ⟨_, _, _, _, _, _, rfl, sp, b3⟩
  obtain ⟨ya0, yk0, f0, _⟩ := sp.q.h.r
  obtain ⟨ya1, yk1, f1, _⟩ := sp.q.h.c
  obtain ⟨ya2, yk2, f2, _⟩ := sp.q.h.i
  obtain ⟨ya3, yk3, f3, _⟩ := sp.q.h.o
  obtain ⟨ya4, yk4, f4, _⟩ := sp.q.pl.shape
  obtain ⟨ya5, yk5, f5, _⟩ := sp.q.mm
  subst f0 f1 f2 f3 f4 f5
  rw [LY.out.1, LY.out.2.1, LY.out.2.2.1, LY.out.2.2.2.1, LY.out.2.2.2.2.1, LY.out.2.2.2.2.2] at sp ⊢
  have B3 : Hid (Below _ W (w3.alloc (.cells #[.int .i64 C, .slice ya0 e0 yk0, .int .i64 G.pc, .slice ya1 e1 yk1, .bool G.halted, .bool G.waiting, .bool G.rung, .int .i64 G.done, .slice ya2 e2 yk2, .slice ya3 e3 yk3, .slice ya4 e4 yk4, .slice ya5 e5 yk5] 34))) := al (on B2.out b3) _
  have Y3 : Hid (Vb (w3.alloc (.cells #[.int .i64 C, .slice ya0 e0 yk0, .int .i64 G.pc, .slice ya1 e1 yk1, .bool G.halted, .bool G.waiting, .bool G.rung, .int .i64 G.done, .slice ya2 e2 yk2, .slice ya3 e3 yk3, .slice ya4 e4 yk4, .slice ya5 e5 yk5] 34)) w3.heap.size #[.int .i64 C, .slice ya0 e0 yk0, .int .i64 G.pc, .slice ya1 e1 yk1, .bool G.halted, .bool G.waiting, .bool G.rung, .int .i64 G.done, .slice ya2 e2 yk2, .slice ya3 e3 yk3, .slice ya4 e4 yk4, .slice ya5 e5 yk5] 34) := Vb.new _ _ _
  have N3 : Hid (Sp (w3.alloc (.cells #[.int .i64 C, .slice ya0 e0 yk0, .int .i64 G.pc, .slice ya1 e1 yk1, .bool G.halted, .bool G.waiting, .bool G.rung, .int .i64 G.done, .slice ya2 e2 yk2, .slice ya3 e3 yk3, .slice ya4 e4 yk4, .slice ya5 e5 yk5] 34)) _ (.slice ya0 e0 yk0) (.slice ya1 e1 yk1) (.slice ya2 e2 yk2) (.slice ya3 e3 yk3) (.slice ya4 e4 yk4) (.slice ya5 e5 yk5) G P Z) := sp.keep (al (Below.refl _ _) _)
  have L3 : Hid (∀ k, OwnS (.slice ya0 e0 yk0) (.slice ya1 e1 yk1) (.slice ya2 e2 yk2) (.slice ya3 e3 yk3) (.slice ya4 e4 yk4) (.slice ya5 e5 yk5) k → k < w3.heap.size) := sp.lt
  have Z3 : Hid (w3.heap.size + 1 = (w3.alloc (.cells #[.int .i64 C, .slice ya0 e0 yk0, .int .i64 G.pc, .slice ya1 e1 yk1, .bool G.halted, .bool G.waiting, .bool G.rung, .int .i64 G.done, .slice ya2 e2 yk2, .slice ya3 e3 yk3, .slice ya4 e4 yk4, .slice ya5 e5 yk5] 34)).heap.size ∧ W.heap.size ≤ w3.heap.size) := ⟨by simp, (on B2.out b3).size⟩
  clear sp b3 B2
  have Q3 := Q.out.keep B3.out
  have q0 := Q3.cell 0 rfl
  have q1 := Q3.cell 1 rfl
  have q2 := Q3.cell 2 rfl
  have q3 := Q3.cell 3 rfl
  have q4 := Q3.cell 4 rfl
  have q5 := Q3.cell 5 rfl
  have q6 := Q3.cell 6 rfl
  have q7 := Q3.cell 7 rfl
  have q8 := Q3.cell 8 rfl
  have q9 := Q3.cell 9 rfl
  have q10 := Q3.cell 10 rfl
  clear Q3
  go_wp2_with fail
  clear q0 q1 q2 q3 q4 q5 q6 q7 q8 q9 q10
  generalize (w3.alloc (.cells #[.int .i64 C, .slice ya0 e0 yk0, .int .i64 G.pc, .slice ya1 e1 yk1, .bool G.halted, .bool G.waiting, .bool G.rung, .int .i64 G.done, .slice ya2 e2 yk2, .slice ya3 e3 yk3, .slice ya4 e4 yk4, .slice ya5 e5 yk5] 34)) = W3 at *
  obtain ⟨s3, hs3⟩ : ∃ s3, w3.heap.size = s3 := ⟨_, rfl⟩
  rw [hs3] at Y3 L3 Z3 ⊢
  clear hs3
  refine (to_solo _ _ _ _ _ _ _ _ _ _ _ _ H _ _ _ ps _ _ _ zs _ (HP.out.1.stay B3.out) (HP.out.2.1.stay B3.out) (HP.out.2.2.stay B3.out) SM.out.1 SM.out.2.1 SM.out.2.2).mono ?_
  rintro e w4 ⟨r4, d4, i4, o4, l4, m4, rfl, s4', b4⟩
  obtain ⟨xa0, xk0, e0, _⟩ := s4'.h.r.shape
  obtain ⟨xa1, xk1, e1, _⟩ := s4'.h.c.shape
  obtain ⟨xa2, xk2, e2, _⟩ := s4'.h.i.shape
  obtain ⟨xa3, xk3, e3, _⟩ := s4'.h.o.shape
  obtain ⟨xa4, xk4, e4, _⟩ := s4'.pl.shape
  obtain ⟨xa5, xk5, e5, _⟩ := s4'.mm.shape
  subst e0 e1 e2 e3 e4 e5
  obtain ⟨rn, hn0⟩ : ∃ n, H.regs.length = n := ⟨_, rfl⟩
  obtain ⟨dn, hn1⟩ : ∃ n, H.csr.length = n := ⟨_, rfl⟩
  obtain ⟨jn, hn2⟩ : ∃ n, H.inn.length = n := ⟨_, rfl⟩
  obtain ⟨on0, hn3⟩ : ∃ n, H.out.length = n := ⟨_, rfl⟩
  obtain ⟨ln0, hn4⟩ : ∃ n, ps.length = n := ⟨_, rfl⟩
  obtain ⟨mn0, hn5⟩ : ∃ n, zs.length = n := ⟨_, rfl⟩
  rw [hn0, hn1, hn2, hn3, hn4, hn5] at s4' ⊢
  have M4 : Hid (Sm w4 W3.heap.size (.slice xa0 rn xk0) (.slice xa1 dn xk1) (.slice xa2 jn xk2) (.slice xa3 on0 xk3) (.slice xa4 ln0 xk4) (.slice xa5 mn0 xk5) H ps zs) := s4'
  have D4 : Hid (Below w4.heap.size w4 (w4.alloc (.cells #[.slice xa0 rn xk0, .int .i64 H.pc, .slice xa1 dn xk1, .bool H.halted, .bool H.waiting, .bool H.rung, .int .i64 H.done, .slice xa2 jn xk2, .slice xa3 on0 xk3, .slice xa4 ln0 xk4, .slice xa5 mn0 xk5] 32))) := al (Below.refl _ _) _
  have B4 : Hid (Below _ W (w4.alloc (.cells #[.slice xa0 rn xk0, .int .i64 H.pc, .slice xa1 dn xk1, .bool H.halted, .bool H.waiting, .bool H.rung, .int .i64 H.done, .slice xa2 jn xk2, .slice xa3 on0 xk3, .slice xa4 ln0 xk4, .slice xa5 mn0 xk5] 32))) := al (on B3.out b4) _
  have X4 : Hid (Vb (w4.alloc (.cells #[.slice xa0 rn xk0, .int .i64 H.pc, .slice xa1 dn xk1, .bool H.halted, .bool H.waiting, .bool H.rung, .int .i64 H.done, .slice xa2 jn xk2, .slice xa3 on0 xk3, .slice xa4 ln0 xk4, .slice xa5 mn0 xk5] 32)) w4.heap.size #[.slice xa0 rn xk0, .int .i64 H.pc, .slice xa1 dn xk1, .bool H.halted, .bool H.waiting, .bool H.rung, .int .i64 H.done, .slice xa2 jn xk2, .slice xa3 on0 xk3, .slice xa4 ln0 xk4, .slice xa5 mn0 xk5] 32) := Vb.new _ _ _
  have E4 : Hid (Below W3.heap.size W3 (w4.alloc (.cells #[.slice xa0 rn xk0, .int .i64 H.pc, .slice xa1 dn xk1, .bool H.halted, .bool H.waiting, .bool H.rung, .int .i64 H.done, .slice xa2 jn xk2, .slice xa3 on0 xk3, .slice xa4 ln0 xk4, .slice xa5 mn0 xk5] 32))) := al b4 _
  have RN : Hid (∀ k, OwnS (.slice xa0 rn xk0) (.slice xa1 dn xk1) (.slice xa2 jn xk2) (.slice xa3 on0 xk3) (.slice xa4 ln0 xk4) (.slice xa5 mn0 xk5) k → W3.heap.size ≤ k ∧ k < w4.heap.size) := fun k e => by
    rcases e with e | e | e
    · exact s4'.h.own k e
    · exact s4'.pl.lt k e
    · exact s4'.mm.lt k e
  have Z4 : Hid (W3.heap.size ≤ w4.heap.size ∧ w4.heap.size + 1 = (w4.alloc (.cells #[.slice xa0 rn xk0, .int .i64 H.pc, .slice xa1 dn xk1, .bool H.halted, .bool H.waiting, .bool H.rung, .int .i64 H.done, .slice xa2 jn xk2, .slice xa3 on0 xk3, .slice xa4 ln0 xk4, .slice xa5 mn0 xk5] 32)).heap.size) := ⟨b4.size, by simp⟩
  clear s4' b4 hn0 hn1 hn2 hn3 hn4 hn5
  go_wp2_with fail
  generalize (w4.alloc (.cells #[.slice xa0 rn xk0, .int .i64 H.pc, .slice xa1 dn xk1, .bool H.halted, .bool H.waiting, .bool H.rung, .int .i64 H.done, .slice xa2 jn xk2, .slice xa3 on0 xk3, .slice xa4 ln0 xk4, .slice xa5 mn0 xk5] 32)) = W4 at *
  obtain ⟨s4, hs4⟩ : ∃ s4, w4.heap.size = s4 := ⟨_, rfl⟩
  rw [hs4] at X4 Z4 RN ⊢
  have S4 : Hid (w4.heap.size = s4) := hs4
  clear hs4
  have q0 := X4.out.cell 0 rfl
  have q1 := X4.out.cell 1 rfl
  have q2 := X4.out.cell 2 rfl
  have q3 := X4.out.cell 3 rfl
  have q4 := X4.out.cell 4 rfl
  have q5 := X4.out.cell 5 rfl
  have q6 := X4.out.cell 6 rfl
  have q7 := X4.out.cell 7 rfl
  have q8 := X4.out.cell 8 rfl
  have q9 := X4.out.cell 9 rfl
  have q10 := X4.out.cell 10 rfl
  go_wp2_with fail
  clear q0 q1 q2 q3 q4 q5 q6 q7 q8 q9 q10
  have CALL := i_runSolo _ _ _ _ _ _ H ps zs n _ _ (M4.out.keep D4.out) PL.out ML.out (HG.out.1.keep (B4.out)) (Nat.lt_of_lt_of_le HG.out.2 (B4.out).size)
  rw [HCZ.out.1, HCZ.out.2.1, HCZ.out.2.2.1, HCZ.out.2.2.2] at CALL
  refine CALL.mono ?_
  clear CALL
  rintro e w5 ⟨_, _, _, _, _, _, rfl, sm, b5⟩
  obtain ⟨za0, zk0, f0, _⟩ := sm.h.r.shape
  obtain ⟨za1, zk1, f1, _⟩ := sm.h.c.shape
  obtain ⟨za2, zk2, f2, _⟩ := sm.h.i.shape
  obtain ⟨za3, zk3, f3, _⟩ := sm.h.o.shape
  obtain ⟨za4, zk4, f4, _⟩ := sm.pl.shape
  obtain ⟨za5, zk5, f5, _⟩ := sm.mm.shape
  subst f0 f1 f2 f3 f4 f5
  rw [LY.out.1, LY.out.2.1, LY.out.2.2.1, LY.out.2.2.2.1, LY.out.2.2.2.2.1, LY.out.2.2.2.2.2] at sm ⊢
  have E5 : Hid (Below W4.heap.size W4 (w5.alloc (.cells #[.int .i64 C, .slice za0 e0 zk0, .int .i64 G.pc, .slice za1 e1 zk1, .bool G.halted, .bool G.waiting, .bool G.rung, .int .i64 G.done, .slice za2 e2 zk2, .slice za3 e3 zk3, .slice za4 e4 zk4, .slice za5 e5 zk5] 34))) := al b5 _
  have B5 : Hid (Below _ W (w5.alloc (.cells #[.int .i64 C, .slice za0 e0 zk0, .int .i64 G.pc, .slice za1 e1 zk1, .bool G.halted, .bool G.waiting, .bool G.rung, .int .i64 G.done, .slice za2 e2 zk2, .slice za3 e3 zk3, .slice za4 e4 zk4, .slice za5 e5 zk5] 34))) := on B4.out E5.out
  have D5 : Hid (Below w4.heap.size w4 (w5.alloc (.cells #[.int .i64 C, .slice za0 e0 zk0, .int .i64 G.pc, .slice za1 e1 zk1, .bool G.halted, .bool G.waiting, .bool G.rung, .int .i64 G.done, .slice za2 e2 zk2, .slice za3 e3 zk3, .slice za4 e4 zk4, .slice za5 e5 zk5] 34))) := on D4.out E5.out
  have G5 : Hid (Vb (w5.alloc (.cells #[.int .i64 C, .slice za0 e0 zk0, .int .i64 G.pc, .slice za1 e1 zk1, .bool G.halted, .bool G.waiting, .bool G.rung, .int .i64 G.done, .slice za2 e2 zk2, .slice za3 e3 zk3, .slice za4 e4 zk4, .slice za5 e5 zk5] 34)) w5.heap.size #[.int .i64 C, .slice za0 e0 zk0, .int .i64 G.pc, .slice za1 e1 zk1, .bool G.halted, .bool G.waiting, .bool G.rung, .int .i64 G.done, .slice za2 e2 zk2, .slice za3 e3 zk3, .slice za4 e4 zk4, .slice za5 e5 zk5] 34) := Vb.new _ _ _
  have X5 : Hid (Vb (w5.alloc (.cells #[.int .i64 C, .slice za0 e0 zk0, .int .i64 G.pc, .slice za1 e1 zk1, .bool G.halted, .bool G.waiting, .bool G.rung, .int .i64 G.done, .slice za2 e2 zk2, .slice za3 e3 zk3, .slice za4 e4 zk4, .slice za5 e5 zk5] 34)) s4 #[.slice xa0 rn xk0, .int .i64 H.pc, .slice xa1 dn xk1, .bool H.halted, .bool H.waiting, .bool H.rung, .int .i64 H.done, .slice xa2 jn xk2, .slice xa3 on0 xk3, .slice xa4 ln0 xk4, .slice xa5 mn0 xk5] 32) := X4.out.keep E5.out
  have Y5 : Hid (Vb (w5.alloc (.cells #[.int .i64 C, .slice za0 e0 zk0, .int .i64 G.pc, .slice za1 e1 zk1, .bool G.halted, .bool G.waiting, .bool G.rung, .int .i64 G.done, .slice za2 e2 zk2, .slice za3 e3 zk3, .slice za4 e4 zk4, .slice za5 e5 zk5] 34)) s3 #[.int .i64 C, .slice ya0 e0 yk0, .int .i64 G.pc, .slice ya1 e1 yk1, .bool G.halted, .bool G.waiting, .bool G.rung, .int .i64 G.done, .slice ya2 e2 yk2, .slice ya3 e3 yk3, .slice ya4 e4 yk4, .slice ya5 e5 yk5] 34) := (Y3.out.keep E4.out).keep E5.out
  have N5 : Hid (Sp (w5.alloc (.cells #[.int .i64 C, .slice za0 e0 zk0, .int .i64 G.pc, .slice za1 e1 zk1, .bool G.halted, .bool G.waiting, .bool G.rung, .int .i64 G.done, .slice za2 e2 zk2, .slice za3 e3 zk3, .slice za4 e4 zk4, .slice za5 e5 zk5] 34)) _ (.slice ya0 e0 yk0) (.slice ya1 e1 yk1) (.slice ya2 e2 yk2) (.slice ya3 e3 yk3) (.slice ya4 e4 yk4) (.slice ya5 e5 yk5) G P Z) := (N3.out.keep E4.out).keep E5.out
  have O5 : Hid (Sm (w5.alloc (.cells #[.int .i64 C, .slice za0 e0 zk0, .int .i64 G.pc, .slice za1 e1 zk1, .bool G.halted, .bool G.waiting, .bool G.rung, .int .i64 G.done, .slice za2 e2 zk2, .slice za3 e3 zk3, .slice za4 e4 zk4, .slice za5 e5 zk5] 34)) W4.heap.size (.slice za0 e0 zk0) (.slice za1 e1 zk1) (.slice za2 e2 zk2) (.slice za3 e3 zk3) (.slice za4 e4 zk4) (.slice za5 e5 zk5) G P Z) := sm.keep (al (Below.refl _ _) _)
  have M5 : Hid (Sm (w5.alloc (.cells #[.int .i64 C, .slice za0 e0 zk0, .int .i64 G.pc, .slice za1 e1 zk1, .bool G.halted, .bool G.waiting, .bool G.rung, .int .i64 G.done, .slice za2 e2 zk2, .slice za3 e3 zk3, .slice za4 e4 zk4, .slice za5 e5 zk5] 34)) W3.heap.size (.slice xa0 rn xk0) (.slice xa1 dn xk1) (.slice xa2 jn xk2) (.slice xa3 on0 xk3) (.slice xa4 ln0 xk4) (.slice xa5 mn0 xk5) H ps zs) := M4.out.keep D5.out
  have L5 : Hid (∀ k, OwnS (.slice za0 e0 zk0) (.slice za1 e1 zk1) (.slice za2 e2 zk2) (.slice za3 e3 zk3) (.slice za4 e4 zk4) (.slice za5 e5 zk5) k → W4.heap.size ≤ k ∧ k < w5.heap.size) := fun k e => by
    rcases e with e | e | e
    · exact sm.h.own k e
    · exact sm.pl.lt k e
    · exact sm.mm.lt k e
  have Z5 : Hid (W4.heap.size ≤ w5.heap.size) := b5.size
  have yk := (Y3.out.keep E4.out).keep b5
  have ly : s3 < w5.heap.size := yk.lt
  have y0 := yk.cell 0 rfl
  have y1 := yk.cell 1 rfl
  have y2 := yk.cell 2 rfl
  have y3 := yk.cell 3 rfl
  have y4 := yk.cell 4 rfl
  have y5 := yk.cell 5 rfl
  have y6 := yk.cell 6 rfl
  have y7 := yk.cell 7 rfl
  have y8 := yk.cell 8 rfl
  have y9 := yk.cell 9 rfl
  have y10 := yk.cell 10 rfl
  have y11 := yk.cell 11 rfl
  clear yk sm b5 M4 X4 Y3 N3 B4 D4
  go_wp2_with fail
  clear y0 y1 y2 y3 y4 y5 y6 y7 y8 y9 y10 y11 ly
  generalize (w5.alloc (.cells #[.int .i64 C, .slice za0 e0 zk0, .int .i64 G.pc, .slice za1 e1 zk1, .bool G.halted, .bool G.waiting, .bool G.rung, .int .i64 G.done, .slice za2 e2 zk2, .slice za3 e3 zk3, .slice za4 e4 zk4, .slice za5 e5 zk5] 34)) = W5 at *
  obtain ⟨s5, hs5⟩ : ∃ s5, w5.heap.size = s5 := ⟨_, rfl⟩
  rw [hs5] at G5 L5 Z5 ⊢
  clear hs5
  refine (eq_sres _ _ _ _ _ _ _ _ _ _ _ _ _ G P Z _ _ _ O5.out.sr N5.out.q).mono ?_
  rintro e w6 ⟨rfl, b6⟩
  have B6 : Hid (Below _ W w6) := on B5.out b6
  have D6 : Hid (Below W5.heap.size W5 w6) := b6
  clear b6
  go_upto_region 10 with fail
  have s1_ := Q.out.keep B6.out
  have s2_ := X5.out.keep D6.out
  have S0 : Hid (Vb w6.drew s #[.slice a0 n0 c0, .int .i64 H.pc, .slice a1 n1 c1, .bool H.halted, .bool H.waiting, .bool H.rung, .int .i64 H.done, .slice a2 n2 c2, .slice a3 n3 c3, .slice la ln lc, .slice ma mn mc] 27 ∧ Vb w6.drew s4 #[.slice xa0 rn xk0, .int .i64 H.pc, .slice xa1 dn xk1, .bool H.halted, .bool H.waiting, .bool H.rung, .int .i64 H.done, .slice xa2 jn xk2, .slice xa3 on0 xk3, .slice xa4 ln0 xk4, .slice xa5 mn0 xk5] 32) := ⟨s1_, s2_⟩
  clear s1_ s2_
  have D7 : Hid (Below W5.heap.size W5 w6.drew) := D6.out.drew
  have B7 : Hid (Below _ W w6.drew) := B6.out.drew
  clear D6 B6
  refine wp_region_held (S := fun w' => Vb w' s #[.slice a0 n0 c0, .int .i64 H.pc, .slice a1 n1 c1, .bool H.halted, .bool H.waiting, .bool H.rung, .int .i64 H.done, .slice a2 n2 c2, .slice a3 n3 c3, .slice la ln lc, .slice ma mn mc] 27 ∧ Vb w' s4 #[.slice xa0 rn xk0, .int .i64 H.pc, .slice xa1 dn xk1, .bool H.halted, .bool H.waiting, .bool H.rung, .int .i64 H.done, .slice xa2 jn xk2, .slice xa3 on0 xk3, .slice xa4 ln0 xk4, .slice xa5 mn0 xk5] 32) (by kernel_rfl) ?_
  change wpAnyH _ _ _ _ _ _ _ _ (World.drew _)
  generalize w6.drew = x0 at *
  refine wpAnyH_take (i := 0) (v := .agg #[.slice xa0 rn xk0, .int .i64 H.pc, .slice xa1 dn xk1, .bool H.halted, .bool H.waiting, .bool H.rung, .int .i64 H.done, .slice xa2 jn xk2, .slice xa3 on0 xk3, .slice xa4 ln0 xk4, .slice xa5 mn0 xk5]) rfl (by kernel_rfl) (by kernel_rfl) (by kernel_rfl) (fun _ _ _ h => h) (Or.inl ⟨by rfl, fun w' hs => by have y0 := hs.2.cell 0 rfl; have y1 := hs.2.cell 1 rfl; have y2 := hs.2.cell 2 rfl; have y3 := hs.2.cell 3 rfl; have y4 := hs.2.cell 4 rfl; have y5 := hs.2.cell 5 rfl; have y6 := hs.2.cell 6 rfl; have y7 := hs.2.cell 7 rfl; have y8 := hs.2.cell 8 rfl; have y9 := hs.2.cell 9 rfl; have y10 := hs.2.cell 10 rfl; go_simp⟩) S0.out ?_
  change wpAnyH _ _ _ _ _ _ _ (Act.put _ (some 31) _) _
  simp only [Act.put, List.setIfInBounds_toArray, List.set_cons_zero, List.set_cons_succ]
  refine wpAnyH_take (i := 1) (v := .agg #[.slice a0 n0 c0, .int .i64 H.pc, .slice a1 n1 c1, .bool H.halted, .bool H.waiting, .bool H.rung, .int .i64 H.done, .slice a2 n2 c2, .slice a3 n3 c3, .slice la ln lc, .slice ma mn mc]) rfl (by kernel_rfl) (by kernel_rfl) (by kernel_rfl) (fun _ _ _ h => h) (Or.inl ⟨by rfl, fun w' hs => by have y0 := hs.1.cell 0 rfl; have y1 := hs.1.cell 1 rfl; have y2 := hs.1.cell 2 rfl; have y3 := hs.1.cell 3 rfl; have y4 := hs.1.cell 4 rfl; have y5 := hs.1.cell 5 rfl; have y6 := hs.1.cell 6 rfl; have y7 := hs.1.cell 7 rfl; have y8 := hs.1.cell 8 rfl; have y9 := hs.1.cell 9 rfl; have y10 := hs.1.cell 10 rfl; go_simp⟩) S0.out ?_
  change wpAnyH _ _ _ _ _ _ _ (Act.put _ (some 32) _) _
  simp only [Act.put, List.setIfInBounds_toArray, List.set_cons_zero, List.set_cons_succ]
  refine wpAnyH_ready (rs := [2]) (by kernel_rfl) (by simp) ?_
  refine AllReadyH.cons rfl (fun K hK => ?_) AllReadyH.nil
  rw [if_pos (by rfl)]
  go_simp
  refine (to_solo _ _ _ _ _ _ _ _ _ _ _ _ H _ _ _ ps _ _ _ zs _ (HP.out.1.stay B7.out) (HP.out.2.1.stay B7.out) (HP.out.2.2.stay B7.out) SM.out.1 SM.out.2.1 SM.out.2.2).mono ?_
  rintro e w8 ⟨r8, d8, i8, o8, l8, m8, rfl, s8, b8⟩
  have M8 : Hid (Sm w8 _ r8 d8 i8 o8 l8 m8 H ps zs) := s8
  have D8 : Hid (Below W5.heap.size W5 w8) := on D7.out b8
  have B8 : Hid (Below _ W w8) := on B7.out b8
  have S8 : Hid (Vb w8 s #[.slice a0 n0 c0, .int .i64 H.pc, .slice a1 n1 c1, .bool H.halted, .bool H.waiting, .bool H.rung, .int .i64 H.done, .slice a2 n2 c2, .slice a3 n3 c3, .slice la ln lc, .slice ma mn mc] 27 ∧ Vb w8 s4 #[.slice xa0 rn xk0, .int .i64 H.pc, .slice xa1 dn xk1, .bool H.halted, .bool H.waiting, .bool H.rung, .int .i64 H.done, .slice xa2 jn xk2, .slice xa3 on0 xk3, .slice xa4 ln0 xk4, .slice xa5 mn0 xk5] 32) := ⟨S0.out.1.keep b8, S0.out.2.keep b8⟩
  clear s8 b8 D7 B7 S0
  refine hK.out _ _ S8.out (fun _ => ?_)
  clear hK K
  refine wpAnyH_ready (rs := [3]) (by kernel_rfl) (by simp) ?_
  refine AllReadyH.cons rfl (fun K hK => ?_) AllReadyH.nil
  rw [if_pos (by rfl)]
  go_simp
  refine (eq_solo _ _ _ _ _ _ _ _ _ _ _ _ H ps zs _ _ _ (M5.out.keep D8.out) M8.out).mono ?_
  rintro e w9 ⟨rfl, b9⟩
  have D9 : Hid (Below W5.heap.size W5 w9) := on D8.out b9
  have B9 : Hid (Below _ W w9) := on B8.out b9
  have S9 : Hid (Vb w9 s #[.slice a0 n0 c0, .int .i64 H.pc, .slice a1 n1 c1, .bool H.halted, .bool H.waiting, .bool H.rung, .int .i64 H.done, .slice a2 n2 c2, .slice a3 n3 c3, .slice la ln lc, .slice ma mn mc] 27 ∧ Vb w9 s4 #[.slice xa0 rn xk0, .int .i64 H.pc, .slice xa1 dn xk1, .bool H.halted, .bool H.waiting, .bool H.rung, .int .i64 H.done, .slice xa2 jn xk2, .slice xa3 on0 xk3, .slice xa4 ln0 xk4, .slice xa5 mn0 xk5] 32) := ⟨S8.out.1.keep b9, S8.out.2.keep b9⟩
  clear b9 D8 B8 S8 M8
  refine hK.out _ _ S9.out (fun _ => ?_)
  clear hK K
  refine wpAnyH_take (i := 4) (v := .bool false) rfl (by kernel_rfl) (by kernel_rfl) (by kernel_rfl) (fun _ _ _ h => h) (Or.inl ⟨by rfl, fun w' hs => by go_simp⟩) S9.out ?_
  change wpAnyH _ _ _ _ _ _ _ (Act.put _ (some 35) _) _
  simp only [Act.put, List.setIfInBounds_toArray, List.set_cons_zero, List.set_cons_succ]
  refine wpAnyH_done (by kernel_rfl) ?_ _
  clear S9
  have X7 : Hid (Vb w9 s4 #[.slice xa0 rn xk0, .int .i64 H.pc, .slice xa1 dn xk1, .bool H.halted, .bool H.waiting, .bool H.rung, .int .i64 H.done, .slice xa2 jn xk2, .slice xa3 on0 xk3, .slice xa4 ln0 xk4, .slice xa5 mn0 xk5] 32) := X5.out.keep D9.out
  have Y7 : Hid (Vb w9 s3 #[.int .i64 C, .slice ya0 e0 yk0, .int .i64 G.pc, .slice ya1 e1 yk1, .bool G.halted, .bool G.waiting, .bool G.rung, .int .i64 G.done, .slice ya2 e2 yk2, .slice ya3 e3 yk3, .slice ya4 e4 yk4, .slice ya5 e5 yk5] 34) := Y5.out.keep D9.out
  have G7 : Hid (Vb w9 s5 #[.int .i64 C, .slice za0 e0 zk0, .int .i64 G.pc, .slice za1 e1 zk1, .bool G.halted, .bool G.waiting, .bool G.rung, .int .i64 G.done, .slice za2 e2 zk2, .slice za3 e3 zk3, .slice za4 e4 zk4, .slice za5 e5 zk5] 34) := G5.out.keep D9.out
  have N7 : Hid (Sp w9 _ (.slice ya0 e0 yk0) (.slice ya1 e1 yk1) (.slice ya2 e2 yk2) (.slice ya3 e3 yk3) (.slice ya4 e4 yk4) (.slice ya5 e5 yk5) G P Z) := N5.out.keep D9.out
  have O7 : Hid (Sm w9 W4.heap.size (.slice za0 e0 zk0) (.slice za1 e1 zk1) (.slice za2 e2 zk2) (.slice za3 e3 zk3) (.slice za4 e4 zk4) (.slice za5 e5 zk5) G P Z) := O5.out.keep D9.out
  have M7 : Hid (Sm w9 W3.heap.size (.slice xa0 rn xk0) (.slice xa1 dn xk1) (.slice xa2 jn xk2) (.slice xa3 on0 xk3) (.slice xa4 ln0 xk4) (.slice xa5 mn0 xk5) H ps zs) := M5.out.keep D9.out
  clear X5 Y5 G5 N5 O5 M5 D9 D5 B5
  have q0 := X7.out.cell 0 rfl
  have q1 := X7.out.cell 1 rfl
  have q2 := X7.out.cell 2 rfl
  have q3 := X7.out.cell 3 rfl
  have q4 := X7.out.cell 4 rfl
  have q5 := X7.out.cell 5 rfl
  have q6 := X7.out.cell 6 rfl
  have q7 := X7.out.cell 7 rfl
  have q8 := X7.out.cell 8 rfl
  have q9 := X7.out.cell 9 rfl
  have q10 := X7.out.cell 10 rfl
  go_wp2_with fail
  clear q0 q1 q2 q3 q4 q5 q6 q7 q8 q9 q10
  have TH : Hid ((1 : Int) + (totS H ps zs : Nat) ≤ 12000000) := by
    show _ ≤ _
    have h0 := (HP.out.1.regs).ln.1
    have h1 := (HP.out.1.csr).ln.1
    have h2 := (HP.out.1.inn).ln.1
    have h3 := (HP.out.1.out).ln.1
    have := SM.out.1.regs
    have := SM.out.1.csr
    have := SM.out.1.inn
    have := SM.out.1.out
    have := SM.out.2
    have := EL.out
    unfold totS totH
    omega
  refine (mark_solo _ _ _ _ _ _ H ps zs 1 _ w9 M7.out (by decide) (by have := TH.out; omega)).mono ?_
  rintro e m3 ⟨rfl, _, mk1⟩
  have K1 : Hid (Mq (fun k => W3.heap.size ≤ k ∧ k < s4) w9 m3) := ⟨mk1.os, mk1.tape, mk1.output, mk1.size, fun k hk hn => mk1.block k hk fun e => hn (RN.out k e)⟩
  have hp3 : 0 ≤ (1 : Int) + (totS H ps zs : Nat) := by omega
  have hq3 : (1 : Int) + (totS H ps zs : Nat) ≤ 12000000 := TH.out
  generalize (1 : Int) + (totS H ps zs : Nat) = T3 at *
  clear mk1 M7 TH
  have Bm : Hid (Below _ W m3) := Mq.below B9.out K1.out fun k e => by have := Z3.out; omega
  have Ym : Hid (Vb m3 s3 #[.int .i64 C, .slice ya0 e0 yk0, .int .i64 G.pc, .slice ya1 e1 yk1, .bool G.halted, .bool G.waiting, .bool G.rung, .int .i64 G.done, .slice ya2 e2 yk2, .slice ya3 e3 yk3, .slice ya4 e4 yk4, .slice ya5 e5 yk5] 34) := K1.out.vb Y7.out fun e => by have := Z3.out; omega
  have Gm : Hid (Vb m3 s5 #[.int .i64 C, .slice za0 e0 zk0, .int .i64 G.pc, .slice za1 e1 zk1, .bool G.halted, .bool G.waiting, .bool G.rung, .int .i64 G.done, .slice za2 e2 zk2, .slice za3 e3 zk3, .slice za4 e4 zk4, .slice za5 e5 zk5] 34) := K1.out.vb G7.out fun e => by have := Z4.out; have := Z5.out; omega
  have Nm : Hid (Sp m3 _ (.slice ya0 e0 yk0) (.slice ya1 e1 yk1) (.slice ya2 e2 yk2) (.slice ya3 e3 yk3) (.slice ya4 e4 yk4) (.slice ya5 e5 yk5) G P Z) := N7.out.mq K1.out fun k e f => by have := L3.out k e; have := Z3.out; omega
  have Om : Hid (Sm m3 W4.heap.size (.slice za0 e0 zk0) (.slice za1 e1 zk1) (.slice za2 e2 zk2) (.slice za3 e3 zk3) (.slice za4 e4 zk4) (.slice za5 e5 zk5) G P Z) := sm_mq O7.out K1.out fun k e f => by have := (L5.out k e).1; have := Z4.out; omega
  clear K1 Y7 G7 N7 O7 X7 B9
  have y0 := Ym.out.cell 0 rfl
  have y1 := Ym.out.cell 1 rfl
  have y2 := Ym.out.cell 2 rfl
  have y3 := Ym.out.cell 3 rfl
  have y4 := Ym.out.cell 4 rfl
  have y5 := Ym.out.cell 5 rfl
  have y6 := Ym.out.cell 6 rfl
  have y7 := Ym.out.cell 7 rfl
  have y8 := Ym.out.cell 8 rfl
  have y9 := Ym.out.cell 9 rfl
  have y10 := Ym.out.cell 10 rfl
  have y11 := Ym.out.cell 11 rfl
  have g0 := Gm.out.cell 0 rfl
  have g1 := Gm.out.cell 1 rfl
  have g2 := Gm.out.cell 2 rfl
  have g3 := Gm.out.cell 3 rfl
  have g4 := Gm.out.cell 4 rfl
  have g5 := Gm.out.cell 5 rfl
  have g6 := Gm.out.cell 6 rfl
  have g7 := Gm.out.cell 7 rfl
  have g8 := Gm.out.cell 8 rfl
  have g9 := Gm.out.cell 9 rfl
  have g10 := Gm.out.cell 10 rfl
  have g11 := Gm.out.cell 11 rfl
  go_wp2_with fail
  clear y0 y1 y2 y3 y4 y5 y6 y7 y8 y9 y10 y11 g0 g1 g2 g3 g4 g5 g6 g7 g8 g9 g10 g11
  refine (eq_sres _ _ _ _ _ _ _ _ _ _ _ _ _ G P Z _ _ _ Om.out.sr Nm.out.q).mono ?_
  rintro e t1 ⟨rfl, b7⟩
  have Bt1 : Hid (Below _ W t1) := on Bm.out b7
  have Yt1 : Hid (Vb t1 s3 #[.int .i64 C, .slice ya0 e0 yk0, .int .i64 G.pc, .slice ya1 e1 yk1, .bool G.halted, .bool G.waiting, .bool G.rung, .int .i64 G.done, .slice ya2 e2 yk2, .slice ya3 e3 yk3, .slice ya4 e4 yk4, .slice ya5 e5 yk5] 34) := Ym.out.keep b7
  have Gt1 : Hid (Vb t1 s5 #[.int .i64 C, .slice za0 e0 zk0, .int .i64 G.pc, .slice za1 e1 zk1, .bool G.halted, .bool G.waiting, .bool G.rung, .int .i64 G.done, .slice za2 e2 zk2, .slice za3 e3 zk3, .slice za4 e4 zk4, .slice za5 e5 zk5] 34) := Gm.out.keep b7
  have Nt1 : Hid (Sp t1 _ (.slice ya0 e0 yk0) (.slice ya1 e1 yk1) (.slice ya2 e2 yk2) (.slice ya3 e3 yk3) (.slice ya4 e4 yk4) (.slice ya5 e5 yk5) G P Z) := Nm.out.keep b7
  have Ot1 : Hid (Sm t1 W4.heap.size (.slice za0 e0 zk0) (.slice za1 e1 zk1) (.slice za2 e2 zk2) (.slice za3 e3 zk3) (.slice za4 e4 zk4) (.slice za5 e5 zk5) G P Z) := Om.out.keep b7
  clear b7 Ym Gm Nm Om Bm hq3
  have g0 := Gt1.out.cell 0 rfl
  have g1 := Gt1.out.cell 1 rfl
  have g2 := Gt1.out.cell 2 rfl
  have g3 := Gt1.out.cell 3 rfl
  have g4 := Gt1.out.cell 4 rfl
  have g5 := Gt1.out.cell 5 rfl
  have g6 := Gt1.out.cell 6 rfl
  have g7 := Gt1.out.cell 7 rfl
  have g8 := Gt1.out.cell 8 rfl
  have g9 := Gt1.out.cell 9 rfl
  have g10 := Gt1.out.cell 10 rfl
  have g11 := Gt1.out.cell 11 rfl
  go_wp2_with fail
  clear g0 g1 g2 g3 g4 g5 g6 g7 g8 g9 g10 g11
  refine (mark_sres _ _ _ _ _ _ _ G P Z 1 _ _ Ot1.out (by decide) (by have := SY.out; omega)).mono ?_
  rintro e t2 ⟨rfl, n7, g7⟩
  have TG : Hid ((1 : Int) + (totS G P Z : Nat) = 1 + (totH G : Nat) + (2 * P.length : Nat) + (Z.length : Nat)) := by show _ = _; unfold totS; omega
  have mk2 : Mq (fun k => W4.heap.size ≤ k ∧ k < s5) t1 t2 := mq_wid g7 fun k e => L5.out k e
  have Bt2 : Hid (Below _ W t2) := Mq.below Bt1.out mk2 fun k e => by have := Z3.out; have := Z4.out; omega
  have Yt2 : Hid (Vb t2 s3 #[.int .i64 C, .slice ya0 e0 yk0, .int .i64 G.pc, .slice ya1 e1 yk1, .bool G.halted, .bool G.waiting, .bool G.rung, .int .i64 G.done, .slice ya2 e2 yk2, .slice ya3 e3 yk3, .slice ya4 e4 yk4, .slice ya5 e5 yk5] 34) := mk2.vb Yt1.out fun e => by have := Z3.out; have := Z4.out; omega
  have Gt2 : Hid (Vb t2 s5 #[.int .i64 C, .slice za0 e0 zk0, .int .i64 G.pc, .slice za1 e1 zk1, .bool G.halted, .bool G.waiting, .bool G.rung, .int .i64 G.done, .slice za2 e2 zk2, .slice za3 e3 zk3, .slice za4 e4 zk4, .slice za5 e5 zk5] 34) := mk2.vb Gt1.out fun e => by omega
  have Nt2 : Hid (Sp t2 _ (.slice ya0 e0 yk0) (.slice ya1 e1 yk1) (.slice ya2 e2 yk2) (.slice ya3 e3 yk3) (.slice ya4 e4 yk4) (.slice ya5 e5 yk5) G P Z) := Nt1.out.mq mk2 fun k e f => by have := L3.out k e; have := Z3.out; have := Z4.out; omega
  have Ot2 : Hid (Sm t2 W4.heap.size (.slice za0 e0 zk0) (.slice za1 e1 zk1) (.slice za2 e2 zk2) (.slice za3 e3 zk3) (.slice za4 e4 zk4) (.slice za5 e5 zk5) (mkH 1 G) (pmarks (1 + totH G) P.length) (marks (1 + totH G + (2 * P.length : Nat)) Z.length)) := n7
  clear n7 g7 mk2 Bt1 Yt1 Gt1 Nt1 Ot1
  have TL : Hid (1 + (totH G : Int) + (2 * P.length : Nat) + (Z.length : Nat) ≤ 4611686018427387904) := by have := SY.out; have := TG.out; show _ ≤ _; omega
  rw [TG.out]
  have tp : 0 ≤ 1 + (totH G : Int) + (2 * P.length : Nat) + (Z.length : Nat) := by omega
  obtain ⟨TT, hTT⟩ : ∃ t, 1 + (totH G : Int) + (2 * P.length : Nat) + (Z.length : Nat) = t := ⟨_, rfl⟩
  have HTT : Hid (1 + (totH G : Int) + (2 * P.length : Nat) + (Z.length : Nat) = TT) := hTT
  rw [hTT] at tp ⊢
  clear hTT
  have g0 := Gt2.out.cell 0 rfl
  have g1 := Gt2.out.cell 1 rfl
  have g2 := Gt2.out.cell 2 rfl
  have g3 := Gt2.out.cell 3 rfl
  have g4 := Gt2.out.cell 4 rfl
  have g5 := Gt2.out.cell 5 rfl
  have g6 := Gt2.out.cell 6 rfl
  have g7 := Gt2.out.cell 7 rfl
  have g8 := Gt2.out.cell 8 rfl
  have g9 := Gt2.out.cell 9 rfl
  have g10 := Gt2.out.cell 10 rfl
  have g11 := Gt2.out.cell 11 rfl
  go_wp2_with fail
  clear g0 g1 g2 g3 g4 g5 g6 g7 g8 g9 g10 g11
  refine (held_sres _ _ _ _ _ _ _ G P.length Z.length 1 _ _ Ot2.out.h Ot2.out.pl Ot2.out.mm (by decide) TL.out).mono ?_
  rintro e t3 ⟨rfl, b7⟩
  rw [HTT.out]
  have Bt3 : Hid (Below _ W t3) := on Bt2.out b7
  have Yt3 : Hid (Vb t3 s3 #[.int .i64 C, .slice ya0 e0 yk0, .int .i64 G.pc, .slice ya1 e1 yk1, .bool G.halted, .bool G.waiting, .bool G.rung, .int .i64 G.done, .slice ya2 e2 yk2, .slice ya3 e3 yk3, .slice ya4 e4 yk4, .slice ya5 e5 yk5] 34) := Yt2.out.keep b7
  have Gt3 : Hid (Vb t3 s5 #[.int .i64 C, .slice za0 e0 zk0, .int .i64 G.pc, .slice za1 e1 zk1, .bool G.halted, .bool G.waiting, .bool G.rung, .int .i64 G.done, .slice za2 e2 zk2, .slice za3 e3 zk3, .slice za4 e4 zk4, .slice za5 e5 zk5] 34) := Gt2.out.keep b7
  have Nt3 : Hid (Sp t3 _ (.slice ya0 e0 yk0) (.slice ya1 e1 yk1) (.slice ya2 e2 yk2) (.slice ya3 e3 yk3) (.slice ya4 e4 yk4) (.slice ya5 e5 yk5) G P Z) := Nt2.out.keep b7
  have Ot3 : Hid (Sm t3 W4.heap.size (.slice za0 e0 zk0) (.slice za1 e1 zk1) (.slice za2 e2 zk2) (.slice za3 e3 zk3) (.slice za4 e4 zk4) (.slice za5 e5 zk5) (mkH 1 G) (pmarks (1 + totH G) P.length) (marks (1 + totH G + (2 * P.length : Nat)) Z.length)) := Ot2.out.keep b7
  clear b7 Bt2 Yt2 Gt2 Nt2 Ot2
  have Q3 := Q.out.keep Bt3.out
  have q0 := Q3.cell 0 rfl
  have q1 := Q3.cell 1 rfl
  have q2 := Q3.cell 2 rfl
  have q3 := Q3.cell 3 rfl
  have q4 := Q3.cell 4 rfl
  have q5 := Q3.cell 5 rfl
  have q6 := Q3.cell 6 rfl
  have q7 := Q3.cell 7 rfl
  have q8 := Q3.cell 8 rfl
  have q9 := Q3.cell 9 rfl
  have q10 := Q3.cell 10 rfl
  clear Q3
  go_wp2_with fail
  clear q0 q1 q2 q3 q4 q5 q6 q7 q8 q9 q10
  refine (to_solo _ _ _ _ _ _ _ _ _ _ _ _ H _ _ _ ps _ _ _ zs _ (HP.out.1.stay Bt3.out) (HP.out.2.1.stay Bt3.out) (HP.out.2.2.stay Bt3.out) SM.out.1 SM.out.2.1 SM.out.2.2).mono ?_
  rintro e t4 ⟨r9, d9, i9, o9, l9, m9, rfl, s9, b9⟩
  have M9 : Hid (Sm t4 _ r9 d9 i9 o9 l9 m9 H ps zs) := s9
  have D10 : Hid (Below t3.heap.size t3 t4) := b9
  clear s9 b9
  go_wp2_with fail
  have CALL := i_runSolo _ _ _ _ _ _ H ps zs n _ _ M9.out PL.out ML.out (HG.out.1.keep (on Bt3.out D10.out)) (Nat.lt_of_lt_of_le HG.out.2 (on Bt3.out D10.out).size)
  rw [HCZ.out.1, HCZ.out.2.1, HCZ.out.2.2.1, HCZ.out.2.2.2] at CALL
  refine CALL.mono ?_
  clear CALL M9
  rintro e t6 ⟨_, _, _, _, _, _, rfl, sm, b10⟩
  obtain ⟨ta0, tk0, f0, _⟩ := sm.h.r.shape
  obtain ⟨ta1, tk1, f1, _⟩ := sm.h.c.shape
  obtain ⟨ta2, tk2, f2, _⟩ := sm.h.i.shape
  obtain ⟨ta3, tk3, f3, _⟩ := sm.h.o.shape
  obtain ⟨ta4, tk4, f4, _⟩ := sm.pl.shape
  obtain ⟨ta5, tk5, f5, _⟩ := sm.mm.shape
  subst f0 f1 f2 f3 f4 f5
  rw [LY.out.1, LY.out.2.1, LY.out.2.2.1, LY.out.2.2.2.1, LY.out.2.2.2.2.1, LY.out.2.2.2.2.2] at sm ⊢
  have WN : Hid (Below t6.heap.size t6 (t6.alloc (.cells #[.int .i64 C, .slice ta0 e0 tk0, .int .i64 G.pc, .slice ta1 e1 tk1, .bool G.halted, .bool G.waiting, .bool G.rung, .int .i64 G.done, .slice ta2 e2 tk2, .slice ta3 e3 tk3, .slice ta4 e4 tk4, .slice ta5 e5 tk5] 34))) := al (Below.refl _ _) _
  have H6 : Hid (Sm (t6.alloc (.cells #[.int .i64 C, .slice ta0 e0 tk0, .int .i64 G.pc, .slice ta1 e1 tk1, .bool G.halted, .bool G.waiting, .bool G.rung, .int .i64 G.done, .slice ta2 e2 tk2, .slice ta3 e3 tk3, .slice ta4 e4 tk4, .slice ta5 e5 tk5] 34)) _ (.slice ta0 e0 tk0) (.slice ta1 e1 tk1) (.slice ta2 e2 tk2) (.slice ta3 e3 tk3) (.slice ta4 e4 tk4) (.slice ta5 e5 tk5) G P Z) := sm.keep WN.out
  have bb : Below t3.heap.size t3 t6 := on D10.out b10
  have Bt6 : Hid (Below _ W t6) := on Bt3.out bb
  have Gt6 : Hid (Vb t6 s5 #[.int .i64 C, .slice za0 e0 zk0, .int .i64 G.pc, .slice za1 e1 zk1, .bool G.halted, .bool G.waiting, .bool G.rung, .int .i64 G.done, .slice za2 e2 zk2, .slice za3 e3 zk3, .slice za4 e4 zk4, .slice za5 e5 zk5] 34) := Gt3.out.keep bb
  have Nt6 : Hid (Sp t6 _ (.slice ya0 e0 yk0) (.slice ya1 e1 yk1) (.slice ya2 e2 yk2) (.slice ya3 e3 yk3) (.slice ya4 e4 yk4) (.slice ya5 e5 yk5) G P Z) := Nt3.out.keep bb
  have Ot6 : Hid (Sm t6 W4.heap.size (.slice za0 e0 zk0) (.slice za1 e1 zk1) (.slice za2 e2 zk2) (.slice za3 e3 zk3) (.slice za4 e4 zk4) (.slice za5 e5 zk5) (mkH 1 G) (pmarks (1 + totH G) P.length) (marks (1 + totH G + (2 * P.length : Nat)) Z.length)) := Ot3.out.keep bb
  have Yt := Yt3.out.keep bb
  have l6 : s3 < t6.heap.size := Yt.lt
  have y0 := Yt.cell 0 rfl
  have y1 := Yt.cell 1 rfl
  have y2 := Yt.cell 2 rfl
  have y3 := Yt.cell 3 rfl
  have y4 := Yt.cell 4 rfl
  have y5 := Yt.cell 5 rfl
  have y6 := Yt.cell 6 rfl
  have y7 := Yt.cell 7 rfl
  have y8 := Yt.cell 8 rfl
  have y9 := Yt.cell 9 rfl
  have y10 := Yt.cell 10 rfl
  have y11 := Yt.cell 11 rfl
  clear sm b10 bb Yt Yt3 Gt3 Nt3 Ot3 D10 Bt3
  go_wp2_with fail
  clear y0 y1 y2 y3 y4 y5 y6 y7 y8 y9 y10 y11 l6
  refine (eq_sres _ _ _ _ _ _ _ _ _ _ _ _ _ G P Z _ _ _ H6.out.sr (Nt6.out.keep WN.out).q).mono ?_
  rintro e t7 ⟨rfl, b8⟩
  have b7 := on WN.out b8
  have Bt7 : Hid (Below _ W t7) := on Bt6.out b7
  have Gt7 : Hid (Vb t7 s5 #[.int .i64 C, .slice za0 e0 zk0, .int .i64 G.pc, .slice za1 e1 zk1, .bool G.halted, .bool G.waiting, .bool G.rung, .int .i64 G.done, .slice za2 e2 zk2, .slice za3 e3 zk3, .slice za4 e4 zk4, .slice za5 e5 zk5] 34) := Gt6.out.keep b7
  have Ot7 : Hid (Sm t7 W4.heap.size (.slice za0 e0 zk0) (.slice za1 e1 zk1) (.slice za2 e2 zk2) (.slice za3 e3 zk3) (.slice za4 e4 zk4) (.slice za5 e5 zk5) (mkH 1 G) (pmarks (1 + totH G) P.length) (marks (1 + totH G + (2 * P.length : Nat)) Z.length)) := Ot6.out.keep b7
  clear b7 b8
  have g0 := Gt7.out.cell 0 rfl
  have g1 := Gt7.out.cell 1 rfl
  have g2 := Gt7.out.cell 2 rfl
  have g3 := Gt7.out.cell 3 rfl
  have g4 := Gt7.out.cell 4 rfl
  have g5 := Gt7.out.cell 5 rfl
  have g6 := Gt7.out.cell 6 rfl
  have g7 := Gt7.out.cell 7 rfl
  have g8 := Gt7.out.cell 8 rfl
  have g9 := Gt7.out.cell 9 rfl
  have g10 := Gt7.out.cell 10 rfl
  have g11 := Gt7.out.cell 11 rfl
  go_wp2_with fail
  clear g0 g1 g2 g3 g4 g5 g6 g7 g8 g9 g10 g11
  refine (held_sres _ _ _ _ _ _ _ G P.length Z.length 1 _ _ Ot7.out.h Ot7.out.pl Ot7.out.mm (by decide) TL.out).mono ?_
  rintro e t8 ⟨rfl, b8⟩
  rw [HTT.out]
  go_wp2_with fail
  go_ret
  exact ⟨rfl, on B0.out (on Bt7.out b8)⟩
end Go.Proofs.YtimcoobhakfnaaaGreatDoor.fnExactRunSoloDone
