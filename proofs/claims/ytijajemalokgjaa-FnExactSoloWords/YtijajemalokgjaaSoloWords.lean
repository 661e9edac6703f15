/- The law FnExactSoloWords answers true at every input, and each argument reads behind the call as it read ahead of it; no condition. -/
import Derived.Test.YtijajemalokgjaaBase
import Derived.Lib.SmallJoins
import Derived.Test.YtijajemalokgjaaSww
import Derived.Deep.RegionWith
import Derived.Deep.RegionHeld3
import Derived.Deep.Cut
import Derived.Deep.CutRange
namespace Go.Proofs.Ytijajemalokgjaa.fnExactSoloWordsDone
open Go.ChangeShapes Go.WideShapes Go.ChangeAt Go.RowKit
open Go.ChangeMaps (open_string shut_string)
set_option linter.unusedVariables false

set_option maxRecDepth 20000 in
set_option maxHeartbeats 8000000 in
theorem walk (a0 a1 a2 a3 : Option Addr) (n0 c0 n1 c1 n2 c2 n3 c3 : Nat) (H : Ht) (la : Option Addr) (ln lc : Nat) (ps : List (Int × Int)) (ma : Option Addr) (mn mc : Nat) (zs : List Int) (pg : Int) (w : World) (h : Hin w a0 n0 c0 a1 n1 c1 a2 n2 c2 a3 n3 c3 H) (hp : IsPairs w la ln lc ps) (hz : IsRow .i64 w ma mn mc zs) (wpg : (Lit.int .i64 pg).wf = true) :
    Calls Try.prog 3 #[.agg #[.slice a0 n0 c0, .int .i64 H.pc, .slice a1 n1 c1, .bool H.halted, .bool H.waiting, .bool H.rung, .int .i64 H.done, .slice a2 n2 c2, .slice a3 n3 c3, .slice la ln lc, .slice ma mn mc], .int .i64 pg] w fun e w' => e = .returned (.bool true) ∧ Below w.heap.size w w' := by
  generalize hW : w.alloc (.cells #[.slice a0 n0 c0, .int .i64 H.pc, .slice a1 n1 c1, .bool H.halted, .bool H.waiting, .bool H.rung, .int .i64 H.done, .slice a2 n2 c2, .slice a3 n3 c3, .slice la ln lc, .slice ma mn mc] 27) = W
  have B0 : Hid (Below w.heap.size w W) := by show Below _ _ _; rw [← hW]; exact al (Below.refl _ _) _
  obtain ⟨s, hS⟩ : ∃ s, w.heap.size = s := ⟨_, rfl⟩
  have Q : Hid (Vb W s #[.slice a0 n0 c0, .int .i64 H.pc, .slice a1 n1 c1, .bool H.halted, .bool H.waiting, .bool H.rung, .int .i64 H.done, .slice a2 n2 c2, .slice a3 n3 c3, .slice la ln lc, .slice ma mn mc] 27) := by
    show Vb _ _ _ _
    rw [← hW, ← hS]
    exact Vb.new _ _ _
  have HP : Hid (Hin W a0 n0 c0 a1 n1 c1 a2 n2 c2 a3 n3 c3 H ∧ IsPairs W la ln lc ps ∧ IsRow .i64 W ma mn mc zs) := ⟨h.stay B0.out, hp.stay B0.out, hz.stay B0.out⟩
  have EL : Hid (ln = ps.length ∧ mn = zs.length) := ⟨hp.len, hz.ln.1⟩
  clear h hp hz wpg
  have q0 := Q.out.cell 0 rfl
  have q1 := Q.out.cell 1 rfl
  have q2 := Q.out.cell 2 rfl
  have q3 := Q.out.cell 3 rfl
  have q4 := Q.out.cell 4 rfl
  have q5 := Q.out.cell 5 rfl
  have q6 := Q.out.cell 6 rfl
  have q7 := Q.out.cell 7 rfl
  have q8 := Q.out.cell 8 rfl
  have q9 := Q.out.cell 9 rfl
  have q10 := Q.out.cell 10 rfl
  go_enter Try.func3, Try.ntmps3
  go_wp2_with fail
  clear hW hS
  refine (sz_solo _ _ _ _ _ _ _ _ _ _ _ _ H _ _ _ ps _ _ _ zs _ HP.out.1 HP.out.2.1 HP.out.2.2).mono ?_
  rintro e w1 ⟨⟨r, rfl, hs⟩, b1⟩
  by_cases hneg : r < 0
  · go_wp2_with fail
    go_ret
    exact ⟨rfl, on B0.out b1⟩
  have SM : Hid (Hs n0 n1 n2 n3 ∧ ln ≤ 1048576 ∧ mn ≤ 1048576) := hs (by omega)
  have PL : Hid (ps.length ≤ 1048576) := by show _ ≤ _; rw [← EL.out.1]; exact SM.out.2.1
  have B1 : Hid (Below _ W w1) := b1
  have Q1 := Q.out.keep b1
  clear hs b1 q0 q1 q2 q3 q4 q5 q6 q7 q8 q9 q10
  have q0 := Q1.cell 0 rfl
  have q1 := Q1.cell 1 rfl
  have q2 := Q1.cell 2 rfl
  have q3 := Q1.cell 3 rfl
  have q4 := Q1.cell 4 rfl
  have q5 := Q1.cell 5 rfl
  have q6 := Q1.cell 6 rfl
  have q7 := Q1.cell 7 rfl
  have q8 := Q1.cell 8 rfl
  have q9 := Q1.cell 9 rfl
  have q10 := Q1.cell 10 rfl
  clear Q1
  go_wp2_with fail
  clear q0 q1 q2 q3 q4 q5 q6 q7 q8 q9 q10
  refine (to_solo _ _ _ _ _ _ _ _ _ _ _ _ H _ _ _ ps _ _ _ zs _ (HP.out.1.stay B1.out) (HP.out.2.1.stay B1.out) (HP.out.2.2.stay B1.out) SM.out.1 SM.out.2.1 SM.out.2.2).mono ?_
  rintro e w2 ⟨r2, d2, i2, o2, l2, m2, rfl, s2, b2⟩
  have B2 : Hid (Below _ W w2) := on B1.out b2
  have M2 : Hid (Sm w2 _ r2 d2 i2 o2 l2 m2 H ps zs) := s2
  clear s2 b2
  go_wp2_with fail
  obtain ⟨C, hC⟩ : ∃ C, swC H ps zs pg = C := ⟨_, rfl⟩
  obtain ⟨Z, hZ⟩ : ∃ Z, swZ H ps zs pg = Z := ⟨_, rfl⟩
  have HCZ : Hid (swC H ps zs pg = C ∧ swZ H ps zs pg = Z) := ⟨hC, hZ⟩
  have HLEN : Hid (1 + (Z.length : Int) ≤ 4611686018427387904) := by have := swZ_len H ps zs pg; show _ ≤ _; rw [← hZ]; omega
  obtain ⟨zl, hzl⟩ : ∃ n, Z.length = n := ⟨_, rfl⟩
  have LZ : Hid (Z.length = zl) := hzl
  clear hC hZ hzl
  have CALL := s_soloWords _ _ _ _ _ _ H ps zs pg _ _ M2.out PL.out
  rw [HCZ.out.1, HCZ.out.2] at CALL
  refine CALL.mono ?_
  clear CALL M2
  rintro e w3 ⟨v0, rfl, n0', b3⟩
  obtain ⟨za0, zc0, hz0, _, _, _⟩ := n0'.shape
  rw [LZ.out] at hz0
  subst hz0
  have B3 : Hid (Below _ W (w3.alloc (.cells #[.int .i64 C, .slice za0 zl zc0] 30))) := al (on B2.out b3) _
  have Y3 : Hid (Vb (w3.alloc (.cells #[.int .i64 C, .slice za0 zl zc0] 30)) w3.heap.size #[.int .i64 C, .slice za0 zl zc0] 30) := Vb.new _ _ _
  have N3 : Hid (Nums (w3.alloc (.cells #[.int .i64 C, .slice za0 zl zc0] 30)) 0 (.slice za0 zl zc0) Z) := (n0'.keep (al (Below.refl _ _) _)).mono (Nat.zero_le _)
  have L3 : Hid (∀ k, (Value.slice za0 zl zc0).ownBlock = some k → k < w3.heap.size) := fun k e => (n0'.lt k e).2
  have Z3 : Hid (w3.heap.size + 1 = (w3.alloc (.cells #[.int .i64 C, .slice za0 zl zc0] 30)).heap.size ∧ W.heap.size ≤ w3.heap.size) := ⟨by simp, (on B2.out b3).size⟩
  clear n0' b3 B2
  have Q3 := Q.out.keep B3.out
  have q0 := Q3.cell 0 rfl
  have q1 := Q3.cell 1 rfl
  have q2 := Q3.cell 2 rfl
  have q3 := Q3.cell 3 rfl
  have q4 := Q3.cell 4 rfl
  have q5 := Q3.cell 5 rfl
  have q6 := Q3.cell 6 rfl
  have q7 := Q3.cell 7 rfl
  have q8 := Q3.cell 8 rfl
  have q9 := Q3.cell 9 rfl
  have q10 := Q3.cell 10 rfl
  clear Q3
  go_wp2_with fail
  clear q0 q1 q2 q3 q4 q5 q6 q7 q8 q9 q10
  generalize (w3.alloc (.cells #[.int .i64 C, .slice za0 zl zc0] 30)) = W3 at *
  obtain ⟨s3, hs3⟩ : ∃ s3, w3.heap.size = s3 := ⟨_, rfl⟩
  rw [hs3] at Y3 L3 Z3 ⊢
  clear hs3
  refine (to_solo _ _ _ _ _ _ _ _ _ _ _ _ H _ _ _ ps _ _ _ zs _ (HP.out.1.stay B3.out) (HP.out.2.1.stay B3.out) (HP.out.2.2.stay B3.out) SM.out.1 SM.out.2.1 SM.out.2.2).mono ?_
  rintro e w4 ⟨r4, d4, i4, o4, l4, m4, rfl, s4', b4⟩
  obtain ⟨xa0, xk0, e0, _⟩ := s4'.h.r.shape
  obtain ⟨xa1, xk1, e1, _⟩ := s4'.h.c.shape
  obtain ⟨xa2, xk2, e2, _⟩ := s4'.h.i.shape
  obtain ⟨xa3, xk3, e3, _⟩ := s4'.h.o.shape
  obtain ⟨xa4, xk4, e4, _⟩ := s4'.pl.shape
  obtain ⟨xa5, xk5, e5, _⟩ := s4'.mm.shape
  subst e0 e1 e2 e3 e4 e5
  obtain ⟨rn, hn0⟩ : ∃ n, H.regs.length = n := ⟨_, rfl⟩
  obtain ⟨dn, hn1⟩ : ∃ n, H.csr.length = n := ⟨_, rfl⟩
  obtain ⟨jn, hn2⟩ : ∃ n, H.inn.length = n := ⟨_, rfl⟩
  obtain ⟨on0, hn3⟩ : ∃ n, H.out.length = n := ⟨_, rfl⟩
  obtain ⟨ln0, hn4⟩ : ∃ n, ps.length = n := ⟨_, rfl⟩
  obtain ⟨mn0, hn5⟩ : ∃ n, zs.length = n := ⟨_, rfl⟩
  rw [hn0, hn1, hn2, hn3, hn4, hn5] at s4' ⊢
  have M4 : Hid (Sm w4 W3.heap.size (.slice xa0 rn xk0) (.slice xa1 dn xk1) (.slice xa2 jn xk2) (.slice xa3 on0 xk3) (.slice xa4 ln0 xk4) (.slice xa5 mn0 xk5) H ps zs) := s4'
  have D4 : Hid (Below w4.heap.size w4 (w4.alloc (.cells #[.slice xa0 rn xk0, .int .i64 H.pc, .slice xa1 dn xk1, .bool H.halted, .bool H.waiting, .bool H.rung, .int .i64 H.done, .slice xa2 jn xk2, .slice xa3 on0 xk3, .slice xa4 ln0 xk4, .slice xa5 mn0 xk5] 35))) := al (Below.refl _ _) _
  have B4 : Hid (Below _ W (w4.alloc (.cells #[.slice xa0 rn xk0, .int .i64 H.pc, .slice xa1 dn xk1, .bool H.halted, .bool H.waiting, .bool H.rung, .int .i64 H.done, .slice xa2 jn xk2, .slice xa3 on0 xk3, .slice xa4 ln0 xk4, .slice xa5 mn0 xk5] 35))) := al (on B3.out b4) _
  have X4 : Hid (Vb (w4.alloc (.cells #[.slice xa0 rn xk0, .int .i64 H.pc, .slice xa1 dn xk1, .bool H.halted, .bool H.waiting, .bool H.rung, .int .i64 H.done, .slice xa2 jn xk2, .slice xa3 on0 xk3, .slice xa4 ln0 xk4, .slice xa5 mn0 xk5] 35)) w4.heap.size #[.slice xa0 rn xk0, .int .i64 H.pc, .slice xa1 dn xk1, .bool H.halted, .bool H.waiting, .bool H.rung, .int .i64 H.done, .slice xa2 jn xk2, .slice xa3 on0 xk3, .slice xa4 ln0 xk4, .slice xa5 mn0 xk5] 35) := Vb.new _ _ _
  have E4 : Hid (Below W3.heap.size W3 (w4.alloc (.cells #[.slice xa0 rn xk0, .int .i64 H.pc, .slice xa1 dn xk1, .bool H.halted, .bool H.waiting, .bool H.rung, .int .i64 H.done, .slice xa2 jn xk2, .slice xa3 on0 xk3, .slice xa4 ln0 xk4, .slice xa5 mn0 xk5] 35))) := al b4 _
  have RN : Hid (∀ k, OwnS (.slice xa0 rn xk0) (.slice xa1 dn xk1) (.slice xa2 jn xk2) (.slice xa3 on0 xk3) (.slice xa4 ln0 xk4) (.slice xa5 mn0 xk5) k → W3.heap.size ≤ k ∧ k < w4.heap.size) := fun k e => by
    rcases e with e | e | e
    · exact s4'.h.own k e
    · exact s4'.pl.lt k e
    · exact s4'.mm.lt k e
  have Z4 : Hid (W3.heap.size ≤ w4.heap.size ∧ w4.heap.size + 1 = (w4.alloc (.cells #[.slice xa0 rn xk0, .int .i64 H.pc, .slice xa1 dn xk1, .bool H.halted, .bool H.waiting, .bool H.rung, .int .i64 H.done, .slice xa2 jn xk2, .slice xa3 on0 xk3, .slice xa4 ln0 xk4, .slice xa5 mn0 xk5] 35)).heap.size) := ⟨b4.size, by simp⟩
  clear s4' b4 hn0 hn1 hn2 hn3 hn4 hn5
  go_wp2_with fail
  generalize (w4.alloc (.cells #[.slice xa0 rn xk0, .int .i64 H.pc, .slice xa1 dn xk1, .bool H.halted, .bool H.waiting, .bool H.rung, .int .i64 H.done, .slice xa2 jn xk2, .slice xa3 on0 xk3, .slice xa4 ln0 xk4, .slice xa5 mn0 xk5] 35)) = W4 at *
  obtain ⟨s4, hs4⟩ : ∃ s4, w4.heap.size = s4 := ⟨_, rfl⟩
  rw [hs4] at X4 Z4 RN ⊢
  have S4 : Hid (w4.heap.size = s4) := hs4
  clear hs4
  have q0 := X4.out.cell 0 rfl
  have q1 := X4.out.cell 1 rfl
  have q2 := X4.out.cell 2 rfl
  have q3 := X4.out.cell 3 rfl
  have q4 := X4.out.cell 4 rfl
  have q5 := X4.out.cell 5 rfl
  have q6 := X4.out.cell 6 rfl
  have q7 := X4.out.cell 7 rfl
  have q8 := X4.out.cell 8 rfl
  have q9 := X4.out.cell 9 rfl
  have q10 := X4.out.cell 10 rfl
  go_wp2_with fail
  clear q0 q1 q2 q3 q4 q5 q6 q7 q8 q9 q10
  have CALL := i_soloWords _ _ _ _ _ _ H ps zs pg _ _ (M4.out.keep D4.out) PL.out
  rw [HCZ.out.1, HCZ.out.2] at CALL
  refine CALL.mono ?_
  clear CALL
  rintro e w5 ⟨v1, rfl, n1', b5⟩
  obtain ⟨zb0, zd0, hz1, _, _, _⟩ := n1'.shape
  rw [LZ.out] at hz1
  subst hz1
  have E5 : Hid (Below W4.heap.size W4 (w5.alloc (.cells #[.int .i64 C, .slice zb0 zl zd0] 30))) := al b5 _
  have B5 : Hid (Below _ W (w5.alloc (.cells #[.int .i64 C, .slice zb0 zl zd0] 30))) := on B4.out E5.out
  have D5 : Hid (Below w4.heap.size w4 (w5.alloc (.cells #[.int .i64 C, .slice zb0 zl zd0] 30))) := on D4.out E5.out
  have G5 : Hid (Vb (w5.alloc (.cells #[.int .i64 C, .slice zb0 zl zd0] 30)) w5.heap.size #[.int .i64 C, .slice zb0 zl zd0] 30) := Vb.new _ _ _
  have X5 : Hid (Vb (w5.alloc (.cells #[.int .i64 C, .slice zb0 zl zd0] 30)) s4 #[.slice xa0 rn xk0, .int .i64 H.pc, .slice xa1 dn xk1, .bool H.halted, .bool H.waiting, .bool H.rung, .int .i64 H.done, .slice xa2 jn xk2, .slice xa3 on0 xk3, .slice xa4 ln0 xk4, .slice xa5 mn0 xk5] 35) := X4.out.keep E5.out
  have Y5 : Hid (Vb (w5.alloc (.cells #[.int .i64 C, .slice zb0 zl zd0] 30)) s3 #[.int .i64 C, .slice za0 zl zc0] 30) := (Y3.out.keep E4.out).keep E5.out
  have N5 : Hid (Nums (w5.alloc (.cells #[.int .i64 C, .slice zb0 zl zd0] 30)) 0 (.slice za0 zl zc0) Z) := (N3.out.keep E4.out).keep E5.out
  have O5 : Hid (Nums (w5.alloc (.cells #[.int .i64 C, .slice zb0 zl zd0] 30)) W4.heap.size (.slice zb0 zl zd0) Z) := n1'.keep (al (Below.refl _ _) _)
  have M5 : Hid (Sm (w5.alloc (.cells #[.int .i64 C, .slice zb0 zl zd0] 30)) W3.heap.size (.slice xa0 rn xk0) (.slice xa1 dn xk1) (.slice xa2 jn xk2) (.slice xa3 on0 xk3) (.slice xa4 ln0 xk4) (.slice xa5 mn0 xk5) H ps zs) := M4.out.keep D5.out
  have L5 : Hid (∀ k, (Value.slice zb0 zl zd0).ownBlock = some k → W4.heap.size ≤ k ∧ k < w5.heap.size) := fun k e => n1'.lt k e
  have Z5 : Hid (W4.heap.size ≤ w5.heap.size) := b5.size
  have yk := (Y3.out.keep E4.out).keep b5
  have ly : s3 < w5.heap.size := yk.lt
  have y0 := yk.cell 0 rfl
  have y1 := yk.cell 1 rfl
  clear yk n1' b5 M4 X4 Y3 N3 B4 D4
  go_wp2_with fail
  clear y0 y1 ly
  generalize (w5.alloc (.cells #[.int .i64 C, .slice zb0 zl zd0] 30)) = W5 at *
  obtain ⟨s5, hs5⟩ : ∃ s5, w5.heap.size = s5 := ⟨_, rfl⟩
  rw [hs5] at G5 L5 Z5 ⊢
  clear hs5
  refine (eq_ints _ _ _ _ _ _ _ O5.out N5.out).mono ?_
  rintro e w6 ⟨rfl, b6⟩
  have B6 : Hid (Below _ W w6) := on B5.out b6
  have D6 : Hid (Below W5.heap.size W5 w6) := b6
  clear b6
  go_upto_region 10 with fail
  have s1_ := Q.out.keep B6.out
  have s2_ := X5.out.keep D6.out
  have S0 : Hid (Vb w6.drew s #[.slice a0 n0 c0, .int .i64 H.pc, .slice a1 n1 c1, .bool H.halted, .bool H.waiting, .bool H.rung, .int .i64 H.done, .slice a2 n2 c2, .slice a3 n3 c3, .slice la ln lc, .slice ma mn mc] 27 ∧ Vb w6.drew s4 #[.slice xa0 rn xk0, .int .i64 H.pc, .slice xa1 dn xk1, .bool H.halted, .bool H.waiting, .bool H.rung, .int .i64 H.done, .slice xa2 jn xk2, .slice xa3 on0 xk3, .slice xa4 ln0 xk4, .slice xa5 mn0 xk5] 35) := ⟨s1_, s2_⟩
  clear s1_ s2_
  have D7 : Hid (Below W5.heap.size W5 w6.drew) := D6.out.drew
  have B7 : Hid (Below _ W w6.drew) := B6.out.drew
  clear D6 B6
  refine wp_region_held (S := fun w' => Vb w' s #[.slice a0 n0 c0, .int .i64 H.pc, .slice a1 n1 c1, .bool H.halted, .bool H.waiting, .bool H.rung, .int .i64 H.done, .slice a2 n2 c2, .slice a3 n3 c3, .slice la ln lc, .slice ma mn mc] 27 ∧ Vb w' s4 #[.slice xa0 rn xk0, .int .i64 H.pc, .slice xa1 dn xk1, .bool H.halted, .bool H.waiting, .bool H.rung, .int .i64 H.done, .slice xa2 jn xk2, .slice xa3 on0 xk3, .slice xa4 ln0 xk4, .slice xa5 mn0 xk5] 35) (by kernel_rfl) ?_
  change wpAnyH _ _ _ _ _ _ _ _ (World.drew _)
  generalize w6.drew = x0 at *
  refine wpAnyH_take (i := 0) (v := .agg #[.slice xa0 rn xk0, .int .i64 H.pc, .slice xa1 dn xk1, .bool H.halted, .bool H.waiting, .bool H.rung, .int .i64 H.done, .slice xa2 jn xk2, .slice xa3 on0 xk3, .slice xa4 ln0 xk4, .slice xa5 mn0 xk5]) rfl (by kernel_rfl) (by kernel_rfl) (by kernel_rfl) (fun _ _ _ h => h) (Or.inl ⟨by rfl, fun w' hs => by have y0 := hs.2.cell 0 rfl; have y1 := hs.2.cell 1 rfl; have y2 := hs.2.cell 2 rfl; have y3 := hs.2.cell 3 rfl; have y4 := hs.2.cell 4 rfl; have y5 := hs.2.cell 5 rfl; have y6 := hs.2.cell 6 rfl; have y7 := hs.2.cell 7 rfl; have y8 := hs.2.cell 8 rfl; have y9 := hs.2.cell 9 rfl; have y10 := hs.2.cell 10 rfl; go_simp⟩) S0.out ?_
  change wpAnyH _ _ _ _ _ _ _ (Act.put _ (some 31) _) _
  simp only [Act.put, List.setIfInBounds_toArray, List.set_cons_zero, List.set_cons_succ]
  refine wpAnyH_take (i := 1) (v := .agg #[.slice a0 n0 c0, .int .i64 H.pc, .slice a1 n1 c1, .bool H.halted, .bool H.waiting, .bool H.rung, .int .i64 H.done, .slice a2 n2 c2, .slice a3 n3 c3, .slice la ln lc, .slice ma mn mc]) rfl (by kernel_rfl) (by kernel_rfl) (by kernel_rfl) (fun _ _ _ h => h) (Or.inl ⟨by rfl, fun w' hs => by have y0 := hs.1.cell 0 rfl; have y1 := hs.1.cell 1 rfl; have y2 := hs.1.cell 2 rfl; have y3 := hs.1.cell 3 rfl; have y4 := hs.1.cell 4 rfl; have y5 := hs.1.cell 5 rfl; have y6 := hs.1.cell 6 rfl; have y7 := hs.1.cell 7 rfl; have y8 := hs.1.cell 8 rfl; have y9 := hs.1.cell 9 rfl; have y10 := hs.1.cell 10 rfl; go_simp⟩) S0.out ?_
  change wpAnyH _ _ _ _ _ _ _ (Act.put _ (some 32) _) _
  simp only [Act.put, List.setIfInBounds_toArray, List.set_cons_zero, List.set_cons_succ]
  refine wpAnyH_ready (rs := [2]) (by kernel_rfl) (by simp) ?_
  refine AllReadyH.cons rfl (fun K hK => ?_) AllReadyH.nil
  rw [if_pos (by rfl)]
  go_simp
  refine (to_solo _ _ _ _ _ _ _ _ _ _ _ _ H _ _ _ ps _ _ _ zs _ (HP.out.1.stay B7.out) (HP.out.2.1.stay B7.out) (HP.out.2.2.stay B7.out) SM.out.1 SM.out.2.1 SM.out.2.2).mono ?_
  rintro e w8 ⟨r8, d8, i8, o8, l8, m8, rfl, s8, b8⟩
  have M8 : Hid (Sm w8 _ r8 d8 i8 o8 l8 m8 H ps zs) := s8
  have D8 : Hid (Below W5.heap.size W5 w8) := on D7.out b8
  have B8 : Hid (Below _ W w8) := on B7.out b8
  have S8 : Hid (Vb w8 s #[.slice a0 n0 c0, .int .i64 H.pc, .slice a1 n1 c1, .bool H.halted, .bool H.waiting, .bool H.rung, .int .i64 H.done, .slice a2 n2 c2, .slice a3 n3 c3, .slice la ln lc, .slice ma mn mc] 27 ∧ Vb w8 s4 #[.slice xa0 rn xk0, .int .i64 H.pc, .slice xa1 dn xk1, .bool H.halted, .bool H.waiting, .bool H.rung, .int .i64 H.done, .slice xa2 jn xk2, .slice xa3 on0 xk3, .slice xa4 ln0 xk4, .slice xa5 mn0 xk5] 35) := ⟨S0.out.1.keep b8, S0.out.2.keep b8⟩
  clear s8 b8 D7 B7 S0
  refine hK.out _ _ S8.out (fun _ => ?_)
  clear hK K
  refine wpAnyH_ready (rs := [3]) (by kernel_rfl) (by simp) ?_
  refine AllReadyH.cons rfl (fun K hK => ?_) AllReadyH.nil
  rw [if_pos (by rfl)]
  go_simp
  refine (eq_solo _ _ _ _ _ _ _ _ _ _ _ _ H ps zs _ _ _ (M5.out.keep D8.out) M8.out).mono ?_
  rintro e w9 ⟨rfl, b9⟩
  have D9 : Hid (Below W5.heap.size W5 w9) := on D8.out b9
  have B9 : Hid (Below _ W w9) := on B8.out b9
  have S9 : Hid (Vb w9 s #[.slice a0 n0 c0, .int .i64 H.pc, .slice a1 n1 c1, .bool H.halted, .bool H.waiting, .bool H.rung, .int .i64 H.done, .slice a2 n2 c2, .slice a3 n3 c3, .slice la ln lc, .slice ma mn mc] 27 ∧ Vb w9 s4 #[.slice xa0 rn xk0, .int .i64 H.pc, .slice xa1 dn xk1, .bool H.halted, .bool H.waiting, .bool H.rung, .int .i64 H.done, .slice xa2 jn xk2, .slice xa3 on0 xk3, .slice xa4 ln0 xk4, .slice xa5 mn0 xk5] 35) := ⟨S8.out.1.keep b9, S8.out.2.keep b9⟩
  clear b9 D8 B8 S8 M8
  refine hK.out _ _ S9.out (fun _ => ?_)
  clear hK K
  refine wpAnyH_take (i := 4) (v := .bool false) rfl (by kernel_rfl) (by kernel_rfl) (by kernel_rfl) (fun _ _ _ h => h) (Or.inl ⟨by rfl, fun w' hs => by go_simp⟩) S9.out ?_
  change wpAnyH _ _ _ _ _ _ _ (Act.put _ (some 35) _) _
  simp only [Act.put, List.setIfInBounds_toArray, List.set_cons_zero, List.set_cons_succ]
  refine wpAnyH_done (by kernel_rfl) ?_ _
  clear S9
  have X7 : Hid (Vb w9 s4 #[.slice xa0 rn xk0, .int .i64 H.pc, .slice xa1 dn xk1, .bool H.halted, .bool H.waiting, .bool H.rung, .int .i64 H.done, .slice xa2 jn xk2, .slice xa3 on0 xk3, .slice xa4 ln0 xk4, .slice xa5 mn0 xk5] 35) := X5.out.keep D9.out
  have Y7 : Hid (Vb w9 s3 #[.int .i64 C, .slice za0 zl zc0] 30) := Y5.out.keep D9.out
  have G7 : Hid (Vb w9 s5 #[.int .i64 C, .slice zb0 zl zd0] 30) := G5.out.keep D9.out
  have N7 : Hid (Nums w9 0 (.slice za0 zl zc0) Z) := N5.out.keep D9.out
  have O7 : Hid (Nums w9 W4.heap.size (.slice zb0 zl zd0) Z) := O5.out.keep D9.out
  have M7 : Hid (Sm w9 W3.heap.size (.slice xa0 rn xk0) (.slice xa1 dn xk1) (.slice xa2 jn xk2) (.slice xa3 on0 xk3) (.slice xa4 ln0 xk4) (.slice xa5 mn0 xk5) H ps zs) := M5.out.keep D9.out
  clear X5 Y5 G5 N5 O5 M5 D9 D5 B5
  have q0 := X7.out.cell 0 rfl
  have q1 := X7.out.cell 1 rfl
  have q2 := X7.out.cell 2 rfl
  have q3 := X7.out.cell 3 rfl
  have q4 := X7.out.cell 4 rfl
  have q5 := X7.out.cell 5 rfl
  have q6 := X7.out.cell 6 rfl
  have q7 := X7.out.cell 7 rfl
  have q8 := X7.out.cell 8 rfl
  have q9 := X7.out.cell 9 rfl
  have q10 := X7.out.cell 10 rfl
  go_wp2_with fail
  clear q0 q1 q2 q3 q4 q5 q6 q7 q8 q9 q10
  have TH : Hid ((1 : Int) + (totS H ps zs : Nat) ≤ 12000000) := by
    show _ ≤ _
    have h0 := (HP.out.1.regs).ln.1
    have h1 := (HP.out.1.csr).ln.1
    have h2 := (HP.out.1.inn).ln.1
    have h3 := (HP.out.1.out).ln.1
    have := SM.out.1.regs
    have := SM.out.1.csr
    have := SM.out.1.inn
    have := SM.out.1.out
    have := SM.out.2
    have := EL.out
    unfold totS totH
    omega
  refine (mark_solo _ _ _ _ _ _ H ps zs 1 _ w9 M7.out (by decide) (by have := TH.out; omega)).mono ?_
  rintro e m3 ⟨rfl, _, mk1⟩
  have K1 : Hid (Mq (fun k => W3.heap.size ≤ k ∧ k < s4) w9 m3) := ⟨mk1.os, mk1.tape, mk1.output, mk1.size, fun k hk hn => mk1.block k hk fun e => hn (RN.out k e)⟩
  have hp3 : 0 ≤ (1 : Int) + (totS H ps zs : Nat) := by omega
  have hq3 : (1 : Int) + (totS H ps zs : Nat) ≤ 12000000 := TH.out
  generalize (1 : Int) + (totS H ps zs : Nat) = T3 at *
  clear mk1 M7 TH
  have Bm : Hid (Below _ W m3) := Mq.below B9.out K1.out fun k e => by have := Z3.out; omega
  have Ym : Hid (Vb m3 s3 #[.int .i64 C, .slice za0 zl zc0] 30) := K1.out.vb Y7.out fun e => by have := Z3.out; omega
  have Gm : Hid (Vb m3 s5 #[.int .i64 C, .slice zb0 zl zd0] 30) := K1.out.vb G7.out fun e => by have := Z4.out; have := Z5.out; omega
  have Nm : Hid (Nums m3 0 (.slice za0 zl zc0) Z) := K1.out.nums N7.out fun k e f => by have := L3.out k e; have := Z3.out; omega
  have Om : Hid (Nums m3 W4.heap.size (.slice zb0 zl zd0) Z) := K1.out.nums O7.out fun k e f => by have := (L5.out k e).1; have := Z4.out; omega
  clear K1 Y7 G7 N7 O7 X7 B9
  have y0 := Ym.out.cell 0 rfl
  have y1 := Ym.out.cell 1 rfl
  have g0 := Gm.out.cell 0 rfl
  have g1 := Gm.out.cell 1 rfl
  go_wp2_with fail
  clear y0 y1 g0 g1
  refine (eq_ints _ _ _ _ _ _ _ Om.out Nm.out).mono ?_
  rintro e t1 ⟨rfl, b7⟩
  have Bt1 : Hid (Below _ W t1) := on Bm.out b7
  have Yt1 : Hid (Vb t1 s3 #[.int .i64 C, .slice za0 zl zc0] 30) := Ym.out.keep b7
  have Gt1 : Hid (Vb t1 s5 #[.int .i64 C, .slice zb0 zl zd0] 30) := Gm.out.keep b7
  have Nt1 : Hid (Nums t1 0 (.slice za0 zl zc0) Z) := Nm.out.keep b7
  have Ot1 : Hid (Nums t1 W4.heap.size (.slice zb0 zl zd0) Z) := Om.out.keep b7
  clear b7 Ym Gm Nm Om Bm hq3
  have g0 := Gt1.out.cell 0 rfl
  have g1 := Gt1.out.cell 1 rfl
  go_wp2_with fail
  clear g0 g1
  refine (mark_ints _ _ _ 1 _ _ Ot1.out (by decide) HLEN.out).mono ?_
  rintro e t2 ⟨rfl, n7, g7⟩
  have mk2 := Mq.of (S := fun k => W4.heap.size ≤ k ∧ k < s5) g7 fun k e => L5.out k e.symm
  have Bt2 : Hid (Below _ W t2) := Mq.below Bt1.out mk2 fun k e => by have := Z3.out; have := Z4.out; omega
  have Yt2 : Hid (Vb t2 s3 #[.int .i64 C, .slice za0 zl zc0] 30) := mk2.vb Yt1.out fun e => by have := Z3.out; have := Z4.out; omega
  have Gt2 : Hid (Vb t2 s5 #[.int .i64 C, .slice zb0 zl zd0] 30) := mk2.vb Gt1.out fun e => by omega
  have Nt2 : Hid (Nums t2 0 (.slice za0 zl zc0) Z) := mk2.nums Nt1.out fun k e f => by have := L3.out k e; have := Z3.out; have := Z4.out; omega
  have Ot2 : Hid (Nums t2 W4.heap.size (.slice zb0 zl zd0) (marks 1 Z.length)) := n7
  clear n7 g7 mk2 Bt1 Yt1 Gt1 Nt1 Ot1
  have g0 := Gt2.out.cell 0 rfl
  have g1 := Gt2.out.cell 1 rfl
  go_wp2_with fail
  clear g0 g1
  refine (held_ints _ _ 1 Z.length _ _ Ot2.out (by decide) HLEN.out).mono ?_
  rintro e t3 ⟨rfl, b7⟩
  have Bt3 : Hid (Below _ W t3) := on Bt2.out b7
  have Yt3 : Hid (Vb t3 s3 #[.int .i64 C, .slice za0 zl zc0] 30) := Yt2.out.keep b7
  have Gt3 : Hid (Vb t3 s5 #[.int .i64 C, .slice zb0 zl zd0] 30) := Gt2.out.keep b7
  have Nt3 : Hid (Nums t3 0 (.slice za0 zl zc0) Z) := Nt2.out.keep b7
  have Ot3 : Hid (Nums t3 W4.heap.size (.slice zb0 zl zd0) (marks 1 Z.length)) := Ot2.out.keep b7
  clear b7 Bt2 Yt2 Gt2 Nt2 Ot2
  have Q3 := Q.out.keep Bt3.out
  have q0 := Q3.cell 0 rfl
  have q1 := Q3.cell 1 rfl
  have q2 := Q3.cell 2 rfl
  have q3 := Q3.cell 3 rfl
  have q4 := Q3.cell 4 rfl
  have q5 := Q3.cell 5 rfl
  have q6 := Q3.cell 6 rfl
  have q7 := Q3.cell 7 rfl
  have q8 := Q3.cell 8 rfl
  have q9 := Q3.cell 9 rfl
  have q10 := Q3.cell 10 rfl
  clear Q3
  go_wp2_with fail
  clear q0 q1 q2 q3 q4 q5 q6 q7 q8 q9 q10
  refine (to_solo _ _ _ _ _ _ _ _ _ _ _ _ H _ _ _ ps _ _ _ zs _ (HP.out.1.stay Bt3.out) (HP.out.2.1.stay Bt3.out) (HP.out.2.2.stay Bt3.out) SM.out.1 SM.out.2.1 SM.out.2.2).mono ?_
  rintro e t4 ⟨r9, d9, i9, o9, l9, m9, rfl, s9, b9⟩
  have M9 : Hid (Sm t4 _ r9 d9 i9 o9 l9 m9 H ps zs) := s9
  have D10 : Hid (Below t3.heap.size t3 t4) := b9
  clear s9 b9
  go_wp2_with fail
  have CALL := i_soloWords _ _ _ _ _ _ H ps zs pg _ _ M9.out PL.out
  rw [HCZ.out.1, HCZ.out.2] at CALL
  refine CALL.mono ?_
  clear CALL M9
  rintro e t6 ⟨v2, rfl, n2', b10⟩
  obtain ⟨zt0, ze0, hz2, _, _, _⟩ := n2'.shape
  rw [LZ.out] at hz2
  subst hz2
  have WN : Hid (Below t6.heap.size t6 (t6.alloc (.cells #[.int .i64 C, .slice zt0 zl ze0] 30))) := al (Below.refl _ _) _
  have H6 : Hid (Nums (t6.alloc (.cells #[.int .i64 C, .slice zt0 zl ze0] 30)) _ (.slice zt0 zl ze0) Z) := n2'.keep WN.out
  have bb : Below t3.heap.size t3 t6 := on D10.out b10
  have Bt6 : Hid (Below _ W t6) := on Bt3.out bb
  have Gt6 : Hid (Vb t6 s5 #[.int .i64 C, .slice zb0 zl zd0] 30) := Gt3.out.keep bb
  have Nt6 : Hid (Nums t6 0 (.slice za0 zl zc0) Z) := Nt3.out.keep bb
  have Ot6 : Hid (Nums t6 W4.heap.size (.slice zb0 zl zd0) (marks 1 Z.length)) := Ot3.out.keep bb
  have Yt := Yt3.out.keep bb
  have l6 : s3 < t6.heap.size := Yt.lt
  have y0 := Yt.cell 0 rfl
  have y1 := Yt.cell 1 rfl
  clear n2' b10 bb Yt Yt3 Gt3 Nt3 Ot3 D10 Bt3
  go_wp2_with fail
  clear y0 y1 l6
  refine (eq_ints _ _ _ _ _ _ _ H6.out (Nt6.out.keep WN.out)).mono ?_
  rintro e t7 ⟨rfl, b8⟩
  have b7 := on WN.out b8
  have Bt7 : Hid (Below _ W t7) := on Bt6.out b7
  have Gt7 : Hid (Vb t7 s5 #[.int .i64 C, .slice zb0 zl zd0] 30) := Gt6.out.keep b7
  have Ot7 : Hid (Nums t7 W4.heap.size (.slice zb0 zl zd0) (marks 1 Z.length)) := Ot6.out.keep b7
  clear b7 b8
  have g0 := Gt7.out.cell 0 rfl
  have g1 := Gt7.out.cell 1 rfl
  go_wp2_with fail
  clear g0 g1
  refine (held_ints _ _ 1 Z.length _ _ Ot7.out (by decide) HLEN.out).mono ?_
  rintro e t8 ⟨rfl, b8⟩
  go_wp2_with fail
  go_ret
  exact ⟨rfl, on B0.out (on Bt7.out b8)⟩

set_option maxRecDepth 100000 in
theorem lifted (os : Go.Os) (started : os.Started) (H : Type) (enc : TypeId × Value → H) :
    ReturnsInHanded {} Try.checked os 3 .any (Rows.fnExactSoloWordsSpec.pre6 enc Try.prog Try.f3 Rows.fnExactSoloWordsRow.domain false) (Rows.fnExactSoloWordsSpec.post enc Try.prog Try.f3 false true false false) := by
  refine returnsInHanded_of_change (C := Try.checked) own started (by kernel_rfl) Try.func3
    (ChangeSpec.witness6 (enc := enc) (C := Try.checked) false ⟨#[], #[.agg #[.slice none 0 0, .int .i64 0, .slice none 0 0, .bool false, .bool false, .bool false, .int .i64 0, .slice none 0 0, .slice none 0 0, .slice none 0 0, .slice none 0 0], .int .i64 0], []⟩ 8 (by kernel_rfl) (by kernel_rfl) (by kernel_rfl) (by kernel_rfl)) ?_
  intro W base args ds gs before hval0 hW hcnd _
  have hval : ∀ (j : Nat) t v, Try.f3.params[j]? = some t → args[j]? = some v → Value.okWide Try.prog W .any base t v := hval0
  have hW' := hW
  obtain ⟨p, q, hA0, hV, rfl, hfz, hnd⟩ := hW
  have hA : DataW.TrodAll enc Try.prog W 0 (fun _ => true) true Try.f3.params.toList args.toList ds p := hA0
  rw [Try.params3] at hA hval
  obtain ⟨v0, vs0, d0, ds0, p0, q0, hargs, rfl, rfl, h0, r0⟩ := trodAll_cons hA
  obtain ⟨v1, vs1, d1, ds1, p1, q1, rfl, rfl, rfl, h1, r1⟩ := trodAll_cons r0
  obtain ⟨rfl, rfl, rfl⟩ := trodAll_nil r1
  obtain rfl : args = #[v0, v1] := by cases args; simp_all
  obtain ⟨rfl, rfl⟩ := trodVars_none hV
  have k0 := h0
  have lt0 : ∀ x ∈ p0, x.block < W.heap.size := by obtain ⟨m, hm⟩ := k0; exact DataW.trod_lt m _ _ _ hm
  obtain ⟨pa0, pa1, pa2, pa3, pn0, pk0, pn1, pk1, pn2, pk2, pn3, pk3, pH, pla, pln, plc, pps, pma, pmn, pmc, pzs, rfl, pin, pip, piz⟩ := solo_open Try.underlying27 (by kernel_rfl) rfl rfl rfl (by kernel_rfl) (by kernel_rfl) (by kernel_rfl) Try.underlying24 (by kernel_rfl) Try.underlying22 Try.underlying2 Try.underlying22 Try.underlying4 Try.underlying4 Try.underlying4 Try.underlying2 Try.underlying22 Try.underlying22 Try.underlying2 Try.underlying2 Try.underlying2 Try.underlying2 (by kernel_rfl) (by kernel_rfl) (by kernel_rfl) (by kernel_rfl) Try.underlying25 Try.underlying89 (by kernel_rfl) rfl rfl (by kernel_rfl) (by kernel_rfl) Try.underlying2 Try.underlying2 Try.underlying22 Try.underlying2 (by kernel_rfl) (hval 0 27 v0 rfl rfl) h0
  obtain ⟨a1, rfl, rfl, rfl, w1⟩ := open_int Try.underlying2 (hval 1 2 v1 rfl rfl) h1
  clear hA0 hval0
  refine (walk pa0 pa1 pa2 pa3 pn0 pk0 pn1 pk1 pn2 pk2 pn3 pk3 pH pla pln plc pps pma pmn pmc pzs a1 W pin pip piz w1).mono fun e W' ⟨he, bel⟩ => ?_
  subst he
  exact ⟨_, rfl, _, _, _, [], _, [], hW', trodAll_mk1 (shut_bool Try.underlying4 _), (trodAll_cons_mk (Below.trod laidOut (by kernel_rfl) (of_decide_eq_true (by kernel_rfl)) k0 bel lt0) (trodAll_cons_mk (shut_int Try.underlying2 w1) trodAll_mk0)), rfl, bel.frame _, fun h => by cases h⟩

theorem over : Rows.fnExactSoloWordsRow.holds Try.pinned (OpenSpec.ofChange Rows.fnExactSoloWordsSpec) :=
  OpenClaim.holds_of_wide 3 Try.f3 rfl rfl rfl rfl rfl rfl rfl ⟨rfl, rfl, rfl, rfl, rfl⟩ rfl rfl rfl rfl rfl (by kernel_rfl) Try.func3 (by kernel_rfl)
    (of_decide_eq_true (by kernel_rfl)) (by unfold Func.isWrapper; first | (rw [if_pos (by decide +kernel)]; kernel_rfl) | (rw [if_neg (by decide +kernel)]; exact ⟨rfl, rfl⟩))
    (fun os started H enc _ => lifted os started H enc)

theorem proved : Rows.FnExactSoloWordsSaid := over
end Go.Proofs.Ytijajemalokgjaa.fnExactSoloWordsDone
