/- The law FnExactSoloFault answers true at every input, and each argument reads behind the call as it read ahead of it; no condition. -/
import Derived.Test.YtnbibgmcjdpgmaaBase
import Derived.Lib.SmallJoins
import Derived.Test.YtnbibgmcjdpgmaaSfa
import Derived.Deep.RegionWith
import Derived.Deep.RegionHeld3
import Derived.Deep.CutRange
namespace Go.Proofs.Ytnbibgmcjdpgmaa.fnExactSoloFaultDone
open Go.ChangeShapes Go.WideShapes Go.ChangeAt Go.RowKit
open Go.ChangeMaps (open_string shut_string)
set_option linter.unusedVariables false

set_option maxRecDepth 20000 in
set_option maxHeartbeats 8000000 in
theorem walk (a0 a1 a2 a3 : Option Addr) (n0 c0 n1 c1 n2 c2 n3 c3 : Nat) (H : Ht) (la : Option Addr) (ln lc : Nat) (ps : List (Int × Int)) (ma : Option Addr) (mn mc : Nat) (zs : List Int) (w : World) (h : Hin w a0 n0 c0 a1 n1 c1 a2 n2 c2 a3 n3 c3 H) (hp : IsPairs w la ln lc ps) (hz : IsRow .i64 w ma mn mc zs) :
    Calls Try.prog 4 #[.agg #[.slice a0 n0 c0, .int .i64 H.pc, .slice a1 n1 c1, .bool H.halted, .bool H.waiting, .bool H.rung, .int .i64 H.done, .slice a2 n2 c2, .slice a3 n3 c3, .slice la ln lc, .slice ma mn mc]] w fun e w' => e = .returned (.bool true) ∧ Below w.heap.size w w' := by
  generalize hW : w.alloc (.cells #[.slice a0 n0 c0, .int .i64 H.pc, .slice a1 n1 c1, .bool H.halted, .bool H.waiting, .bool H.rung, .int .i64 H.done, .slice a2 n2 c2, .slice a3 n3 c3, .slice la ln lc, .slice ma mn mc] 41) = W
  have B0 : Hid (Below w.heap.size w W) := by show Below _ _ _; rw [← hW]; exact al (Below.refl _ _) _
  obtain ⟨s, hS⟩ : ∃ s, w.heap.size = s := ⟨_, rfl⟩
  have Q : Hid (Vb W s #[.slice a0 n0 c0, .int .i64 H.pc, .slice a1 n1 c1, .bool H.halted, .bool H.waiting, .bool H.rung, .int .i64 H.done, .slice a2 n2 c2, .slice a3 n3 c3, .slice la ln lc, .slice ma mn mc] 41) := by
    show Vb _ _ _ _
    rw [← hW, ← hS]
    exact Vb.new _ _ _
  have HP : Hid (Hin W a0 n0 c0 a1 n1 c1 a2 n2 c2 a3 n3 c3 H ∧ IsPairs W la ln lc ps ∧ IsRow .i64 W ma mn mc zs) := ⟨h.stay B0.out, hp.stay B0.out, hz.stay B0.out⟩
  have EL : Hid (ln = ps.length ∧ mn = zs.length) := ⟨hp.len, hz.ln.1⟩
  clear h hp hz
  have q0 := Q.out.cell 0 rfl
  have q1 := Q.out.cell 1 rfl
  have q2 := Q.out.cell 2 rfl
  have q3 := Q.out.cell 3 rfl
  have q4 := Q.out.cell 4 rfl
  have q5 := Q.out.cell 5 rfl
  have q6 := Q.out.cell 6 rfl
  have q7 := Q.out.cell 7 rfl
  have q8 := Q.out.cell 8 rfl
  have q9 := Q.out.cell 9 rfl
  have q10 := Q.out.cell 10 rfl
  go_enter Try.func4, Try.ntmps4
  go_wp2_with fail
  clear hW hS
  refine (sz_solo _ _ _ _ _ _ _ _ _ _ _ _ H _ _ _ ps _ _ _ zs _ HP.out.1 HP.out.2.1 HP.out.2.2).mono ?_
  rintro e w1 ⟨⟨r, rfl, hs⟩, b1⟩
  by_cases hneg : r < 0
  · go_wp2_with fail
    go_ret
    exact ⟨rfl, on B0.out b1⟩
  have SM : Hid (Hs n0 n1 n2 n3 ∧ ln ≤ 1048576 ∧ mn ≤ 1048576) := hs (by omega)
  have PL : Hid (ps.length ≤ 1048576) := by show _ ≤ _; rw [← EL.out.1]; exact SM.out.2.1
  have B1 : Hid (Below _ W w1) := b1
  have Q1 := Q.out.keep b1
  clear hs b1 q0 q1 q2 q3 q4 q5 q6 q7 q8 q9 q10
  have q0 := Q1.cell 0 rfl
  have q1 := Q1.cell 1 rfl
  have q2 := Q1.cell 2 rfl
  have q3 := Q1.cell 3 rfl
  have q4 := Q1.cell 4 rfl
  have q5 := Q1.cell 5 rfl
  have q6 := Q1.cell 6 rfl
  have q7 := Q1.cell 7 rfl
  have q8 := Q1.cell 8 rfl
  have q9 := Q1.cell 9 rfl
  have q10 := Q1.cell 10 rfl
  clear Q1
  go_wp2_with fail
  clear q0 q1 q2 q3 q4 q5 q6 q7 q8 q9 q10
  refine (to_solo _ _ _ _ _ _ _ _ _ _ _ _ H _ _ _ ps _ _ _ zs _ (HP.out.1.stay B1.out) (HP.out.2.1.stay B1.out) (HP.out.2.2.stay B1.out) SM.out.1 SM.out.2.1 SM.out.2.2).mono ?_
  rintro e w2 ⟨r2, d2, i2, o2, l2, m2, rfl, s2, b2⟩
  have B2 : Hid (Below _ W w2) := on B1.out b2
  have M2 : Hid (Sm w2 _ r2 d2 i2 o2 l2 m2 H ps zs) := s2
  clear s2 b2
  go_wp2_with fail
  refine (s_soloFault _ _ _ _ _ _ H ps zs _ _ M2.out PL.out).mono ?_
  rintro e w3 ⟨rfl, b3⟩
  obtain ⟨x, hx⟩ : ∃ x, sfV H ps zs = x := ⟨_, rfl⟩
  rw [hx]
  have HX : Hid (sfV H ps zs = x) := hx
  have B3 : Hid (Below _ W w3) := on B2.out b3
  clear b3 hx M2
  have Q3 := Q.out.keep B3.out
  have q0 := Q3.cell 0 rfl
  have q1 := Q3.cell 1 rfl
  have q2 := Q3.cell 2 rfl
  have q3 := Q3.cell 3 rfl
  have q4 := Q3.cell 4 rfl
  have q5 := Q3.cell 5 rfl
  have q6 := Q3.cell 6 rfl
  have q7 := Q3.cell 7 rfl
  have q8 := Q3.cell 8 rfl
  have q9 := Q3.cell 9 rfl
  have q10 := Q3.cell 10 rfl
  clear Q3
  go_wp2_with fail
  clear q0 q1 q2 q3 q4 q5 q6 q7 q8 q9 q10
  refine (to_solo _ _ _ _ _ _ _ _ _ _ _ _ H _ _ _ ps _ _ _ zs _ (HP.out.1.stay B3.out) (HP.out.2.1.stay B3.out) (HP.out.2.2.stay B3.out) SM.out.1 SM.out.2.1 SM.out.2.2).mono ?_
  rintro e w4 ⟨r4, d4, i4, o4, l4, m4, rfl, s4', b4⟩
  obtain ⟨xa0, xk0, e0, _⟩ := s4'.h.r.shape
  obtain ⟨xa1, xk1, e1, _⟩ := s4'.h.c.shape
  obtain ⟨xa2, xk2, e2, _⟩ := s4'.h.i.shape
  obtain ⟨xa3, xk3, e3, _⟩ := s4'.h.o.shape
  obtain ⟨xa4, xk4, e4, _⟩ := s4'.pl.shape
  obtain ⟨xa5, xk5, e5, _⟩ := s4'.mm.shape
  subst e0 e1 e2 e3 e4 e5
  obtain ⟨rn, hn0⟩ : ∃ n, H.regs.length = n := ⟨_, rfl⟩
  obtain ⟨dn, hn1⟩ : ∃ n, H.csr.length = n := ⟨_, rfl⟩
  obtain ⟨jn, hn2⟩ : ∃ n, H.inn.length = n := ⟨_, rfl⟩
  obtain ⟨on0, hn3⟩ : ∃ n, H.out.length = n := ⟨_, rfl⟩
  obtain ⟨ln0, hn4⟩ : ∃ n, ps.length = n := ⟨_, rfl⟩
  obtain ⟨mn0, hn5⟩ : ∃ n, zs.length = n := ⟨_, rfl⟩
  rw [hn0, hn1, hn2, hn3, hn4, hn5] at s4' ⊢
  have M4 : Hid (Sm w4 w3.heap.size (.slice xa0 rn xk0) (.slice xa1 dn xk1) (.slice xa2 jn xk2) (.slice xa3 on0 xk3) (.slice xa4 ln0 xk4) (.slice xa5 mn0 xk5) H ps zs) := s4'
  have D4 : Hid (Below w4.heap.size w4 (w4.alloc (.cells #[.slice xa0 rn xk0, .int .i64 H.pc, .slice xa1 dn xk1, .bool H.halted, .bool H.waiting, .bool H.rung, .int .i64 H.done, .slice xa2 jn xk2, .slice xa3 on0 xk3, .slice xa4 ln0 xk4, .slice xa5 mn0 xk5] 45))) := al (Below.refl _ _) _
  have B4 : Hid (Below _ W (w4.alloc (.cells #[.slice xa0 rn xk0, .int .i64 H.pc, .slice xa1 dn xk1, .bool H.halted, .bool H.waiting, .bool H.rung, .int .i64 H.done, .slice xa2 jn xk2, .slice xa3 on0 xk3, .slice xa4 ln0 xk4, .slice xa5 mn0 xk5] 45))) := al (on B3.out b4) _
  have X4 : Hid (Vb (w4.alloc (.cells #[.slice xa0 rn xk0, .int .i64 H.pc, .slice xa1 dn xk1, .bool H.halted, .bool H.waiting, .bool H.rung, .int .i64 H.done, .slice xa2 jn xk2, .slice xa3 on0 xk3, .slice xa4 ln0 xk4, .slice xa5 mn0 xk5] 45)) w4.heap.size #[.slice xa0 rn xk0, .int .i64 H.pc, .slice xa1 dn xk1, .bool H.halted, .bool H.waiting, .bool H.rung, .int .i64 H.done, .slice xa2 jn xk2, .slice xa3 on0 xk3, .slice xa4 ln0 xk4, .slice xa5 mn0 xk5] 45) := Vb.new _ _ _
  have Z4 : Hid (w3.heap.size ≤ w4.heap.size ∧ w4.heap.size + 1 = (w4.alloc (.cells #[.slice xa0 rn xk0, .int .i64 H.pc, .slice xa1 dn xk1, .bool H.halted, .bool H.waiting, .bool H.rung, .int .i64 H.done, .slice xa2 jn xk2, .slice xa3 on0 xk3, .slice xa4 ln0 xk4, .slice xa5 mn0 xk5] 45)).heap.size) := ⟨b4.size, by simp⟩
  clear s4' b4 hn0 hn1 hn2 hn3 hn4 hn5
  go_wp2_with fail
  generalize (w4.alloc (.cells #[.slice xa0 rn xk0, .int .i64 H.pc, .slice xa1 dn xk1, .bool H.halted, .bool H.waiting, .bool H.rung, .int .i64 H.done, .slice xa2 jn xk2, .slice xa3 on0 xk3, .slice xa4 ln0 xk4, .slice xa5 mn0 xk5] 45)) = W4 at *
  obtain ⟨s4, hs4⟩ : ∃ s4, w4.heap.size = s4 := ⟨_, rfl⟩
  rw [hs4] at X4 Z4 ⊢
  have S4 : Hid (w4.heap.size = s4) := hs4
  clear hs4
  refine (i_soloFault _ _ _ _ _ _ H ps zs _ _ (M4.out.keep D4.out) PL.out).mono ?_
  rintro e w6 ⟨rfl, b6⟩
  rw [HX.out]
  have D6 : Hid (Below w4.heap.size w4 w6) := on D4.out b6
  have B6 : Hid (Below _ W w6) := on B4.out b6
  have M5 : Hid (Sm w6 _ (.slice xa0 rn xk0) (.slice xa1 dn xk1) (.slice xa2 jn xk2) (.slice xa3 on0 xk3) (.slice xa4 ln0 xk4) (.slice xa5 mn0 xk5) H ps zs) := M4.out.keep D6.out
  have Q6 : Hid (Vb w6 s #[.slice a0 n0 c0, .int .i64 H.pc, .slice a1 n1 c1, .bool H.halted, .bool H.waiting, .bool H.rung, .int .i64 H.done, .slice a2 n2 c2, .slice a3 n3 c3, .slice la ln lc, .slice ma mn mc] 41) := Q.out.keep B6.out
  have X6 : Hid (Vb w6 s4 #[.slice xa0 rn xk0, .int .i64 H.pc, .slice xa1 dn xk1, .bool H.halted, .bool H.waiting, .bool H.rung, .int .i64 H.done, .slice xa2 jn xk2, .slice xa3 on0 xk3, .slice xa4 ln0 xk4, .slice xa5 mn0 xk5] 45) := X4.out.keep b6
  clear b6
  go_upto_region 10 with fail
  have S0 : Hid (Vb w6.drew s #[.slice a0 n0 c0, .int .i64 H.pc, .slice a1 n1 c1, .bool H.halted, .bool H.waiting, .bool H.rung, .int .i64 H.done, .slice a2 n2 c2, .slice a3 n3 c3, .slice la ln lc, .slice ma mn mc] 41 ∧ Vb w6.drew s4 #[.slice xa0 rn xk0, .int .i64 H.pc, .slice xa1 dn xk1, .bool H.halted, .bool H.waiting, .bool H.rung, .int .i64 H.done, .slice xa2 jn xk2, .slice xa3 on0 xk3, .slice xa4 ln0 xk4, .slice xa5 mn0 xk5] 45) := ⟨Q6.out, X6.out⟩
  refine wp_region_held (S := fun w' => Vb w' s #[.slice a0 n0 c0, .int .i64 H.pc, .slice a1 n1 c1, .bool H.halted, .bool H.waiting, .bool H.rung, .int .i64 H.done, .slice a2 n2 c2, .slice a3 n3 c3, .slice la ln lc, .slice ma mn mc] 41 ∧ Vb w' s4 #[.slice xa0 rn xk0, .int .i64 H.pc, .slice xa1 dn xk1, .bool H.halted, .bool H.waiting, .bool H.rung, .int .i64 H.done, .slice xa2 jn xk2, .slice xa3 on0 xk3, .slice xa4 ln0 xk4, .slice xa5 mn0 xk5] 45) (by kernel_rfl) ?_
  change wpAnyH _ _ _ _ _ _ _ _ (World.drew _)
  have B7 : Hid (Below _ W w6.drew) := B6.out.drew
  have M7 : Hid (Sm w6.drew _ (.slice xa0 rn xk0) (.slice xa1 dn xk1) (.slice xa2 jn xk2) (.slice xa3 on0 xk3) (.slice xa4 ln0 xk4) (.slice xa5 mn0 xk5) H ps zs) := M5.out.keep (Below.refl _ _).drew
  generalize w6.drew = x0 at *
  refine wpAnyH_take (i := 0) (v := .agg #[.slice xa0 rn xk0, .int .i64 H.pc, .slice xa1 dn xk1, .bool H.halted, .bool H.waiting, .bool H.rung, .int .i64 H.done, .slice xa2 jn xk2, .slice xa3 on0 xk3, .slice xa4 ln0 xk4, .slice xa5 mn0 xk5]) rfl (by kernel_rfl) (by kernel_rfl) (by kernel_rfl) (fun _ _ _ h => h) (Or.inl ⟨by rfl, fun w' hs => by
    have y0 := hs.2.cell 0 rfl; have y1 := hs.2.cell 1 rfl; have y2 := hs.2.cell 2 rfl; have y3 := hs.2.cell 3 rfl; have y4 := hs.2.cell 4 rfl; have y5 := hs.2.cell 5 rfl; have y6 := hs.2.cell 6 rfl; have y7 := hs.2.cell 7 rfl; have y8 := hs.2.cell 8 rfl; have y9 := hs.2.cell 9 rfl; have y10 := hs.2.cell 10 rfl; go_simp⟩) S0.out ?_
  change wpAnyH _ _ _ _ _ _ _ (Act.put _ (some 22) _) _
  simp only [Act.put, List.setIfInBounds_toArray, List.set_cons_zero, List.set_cons_succ]
  refine wpAnyH_take (i := 1) (v := .agg #[.slice a0 n0 c0, .int .i64 H.pc, .slice a1 n1 c1, .bool H.halted, .bool H.waiting, .bool H.rung, .int .i64 H.done, .slice a2 n2 c2, .slice a3 n3 c3, .slice la ln lc, .slice ma mn mc]) rfl (by kernel_rfl) (by kernel_rfl) (by kernel_rfl) (fun _ _ _ h => h) (Or.inl ⟨by rfl, fun w' hs => by
    have y0 := hs.1.cell 0 rfl; have y1 := hs.1.cell 1 rfl; have y2 := hs.1.cell 2 rfl; have y3 := hs.1.cell 3 rfl; have y4 := hs.1.cell 4 rfl; have y5 := hs.1.cell 5 rfl; have y6 := hs.1.cell 6 rfl; have y7 := hs.1.cell 7 rfl; have y8 := hs.1.cell 8 rfl; have y9 := hs.1.cell 9 rfl; have y10 := hs.1.cell 10 rfl; go_simp⟩) S0.out ?_
  change wpAnyH _ _ _ _ _ _ _ (Act.put _ (some 23) _) _
  simp only [Act.put, List.setIfInBounds_toArray, List.set_cons_zero, List.set_cons_succ]
  refine wpAnyH_ready (rs := [2]) (by kernel_rfl) (by simp) ?_
  refine AllReadyH.cons rfl (fun K hK => ?_) AllReadyH.nil
  rw [if_pos (by rfl)]
  go_simp
  refine (to_solo _ _ _ _ _ _ _ _ _ _ _ _ H _ _ _ ps _ _ _ zs _ (HP.out.1.stay B7.out) (HP.out.2.1.stay B7.out) (HP.out.2.2.stay B7.out) SM.out.1 SM.out.2.1 SM.out.2.2).mono ?_
  rintro e w8 ⟨r8, d8, i8, o8, l8, m8, rfl, s8, b8⟩
  have M8 : Hid (Sm w8 _ r8 d8 i8 o8 l8 m8 H ps zs) := s8
  have N8 : Hid (Sm w8 _ (.slice xa0 rn xk0) (.slice xa1 dn xk1) (.slice xa2 jn xk2) (.slice xa3 on0 xk3) (.slice xa4 ln0 xk4) (.slice xa5 mn0 xk5) H ps zs) := M7.out.keep b8
  have B8 : Hid (Below _ W w8) := on B7.out b8
  have S8 : Hid (Vb w8 s #[.slice a0 n0 c0, .int .i64 H.pc, .slice a1 n1 c1, .bool H.halted, .bool H.waiting, .bool H.rung, .int .i64 H.done, .slice a2 n2 c2, .slice a3 n3 c3, .slice la ln lc, .slice ma mn mc] 41 ∧ Vb w8 s4 #[.slice xa0 rn xk0, .int .i64 H.pc, .slice xa1 dn xk1, .bool H.halted, .bool H.waiting, .bool H.rung, .int .i64 H.done, .slice xa2 jn xk2, .slice xa3 on0 xk3, .slice xa4 ln0 xk4, .slice xa5 mn0 xk5] 45) := ⟨S0.out.1.keep b8, S0.out.2.keep b8⟩
  clear s8 b8
  refine hK.out _ _ S8.out (fun _ => ?_)
  clear hK K
  refine wpAnyH_ready (rs := [3]) (by kernel_rfl) (by simp) ?_
  refine AllReadyH.cons rfl (fun K hK => ?_) AllReadyH.nil
  rw [if_pos (by rfl)]
  go_simp
  refine (eq_solo _ _ _ _ _ _ _ _ _ _ _ _ H ps zs _ _ _ N8.out M8.out).mono ?_
  rintro e w9 ⟨rfl, b9⟩
  have B9 : Hid (Below _ W w9) := on B8.out b9
  have S9 : Hid (Vb w9 s #[.slice a0 n0 c0, .int .i64 H.pc, .slice a1 n1 c1, .bool H.halted, .bool H.waiting, .bool H.rung, .int .i64 H.done, .slice a2 n2 c2, .slice a3 n3 c3, .slice la ln lc, .slice ma mn mc] 41 ∧ Vb w9 s4 #[.slice xa0 rn xk0, .int .i64 H.pc, .slice xa1 dn xk1, .bool H.halted, .bool H.waiting, .bool H.rung, .int .i64 H.done, .slice xa2 jn xk2, .slice xa3 on0 xk3, .slice xa4 ln0 xk4, .slice xa5 mn0 xk5] 45) := ⟨S8.out.1.keep b9, S8.out.2.keep b9⟩
  clear b9
  refine hK.out _ _ S9.out (fun _ => ?_)
  clear hK K
  refine wpAnyH_take (i := 4) (v := .bool false) rfl (by kernel_rfl) (by kernel_rfl) (by kernel_rfl) (fun _ _ _ h => h) (Or.inl ⟨by rfl, fun w' hs => by go_simp⟩) S9.out ?_
  change wpAnyH _ _ _ _ _ _ _ (Act.put _ (some 26) _) _
  simp only [Act.put, List.setIfInBounds_toArray, List.set_cons_zero, List.set_cons_succ]
  refine wpAnyH_done (by kernel_rfl) ?_ _
  go_wp2_with fail
  go_ret
  exact ⟨rfl, on B0.out B9.out⟩

set_option maxRecDepth 100000 in
theorem lifted (os : Os) (started : os.Started) (H : Type) (enc : TypeId × Value → H) :
    ReturnsInHanded {} Try.checked os 4 .any (Rows.fnExactSoloFaultSpec.pre6 enc Try.prog Try.f4 Rows.fnExactSoloFaultRow.domain false) (Rows.fnExactSoloFaultSpec.post enc Try.prog Try.f4 false true false false) := by
  refine returnsInHanded_of_change (C := Try.checked) own started (by kernel_rfl) Try.func4
    (ChangeSpec.witness6 (enc := enc) (C := Try.checked) false ⟨#[], #[.agg #[.slice none 0 0, .int .i64 0, .slice none 0 0, .bool false, .bool false, .bool false, .int .i64 0, .slice none 0 0, .slice none 0 0, .slice none 0 0, .slice none 0 0]], []⟩ 8 (by kernel_rfl) (by kernel_rfl) (by kernel_rfl) (by kernel_rfl)) ?_
  intro W base args ds gs before hval0 hW hcnd _
  have hval : ∀ (j : Nat) t v, Try.f4.params[j]? = some t → args[j]? = some v → Value.okWide Try.prog W .any base t v := hval0
  have hW' := hW
  obtain ⟨p, q, hA0, hV, rfl, hfz, hnd⟩ := hW
  have hA : DataW.TrodAll enc Try.prog W 0 (fun _ => true) true Try.f4.params.toList args.toList ds p := hA0
  rw [Try.params4] at hA hval
  obtain ⟨v0, vs0, d0, ds0, p0, q0, hargs, rfl, rfl, h0, r0⟩ := trodAll_cons hA
  obtain ⟨rfl, rfl, rfl⟩ := trodAll_nil r0
  obtain rfl : args = #[v0] := by cases args; simp_all
  obtain ⟨rfl, rfl⟩ := trodVars_none hV
  have k0 := h0
  have lt0 : ∀ x ∈ p0, x.block < W.heap.size := by obtain ⟨m, hm⟩ := k0; exact DataW.trod_lt m _ _ _ hm
  obtain ⟨pa0, pa1, pa2, pa3, pn0, pk0, pn1, pk1, pn2, pk2, pn3, pk3, pH, pla, pln, plc, pps, pma, pmn, pmc, pzs, rfl, pin, pip, piz⟩ := solo_open Try.underlying41 (by kernel_rfl) rfl rfl rfl (by kernel_rfl) (by kernel_rfl) (by kernel_rfl) Try.underlying38 (by kernel_rfl) Try.underlying24 Try.underlying2 Try.underlying24 Try.underlying4 Try.underlying4 Try.underlying4 Try.underlying2 Try.underlying24 Try.underlying24 Try.underlying2 Try.underlying2 Try.underlying2 Try.underlying2 (by kernel_rfl) (by kernel_rfl) (by kernel_rfl) (by kernel_rfl) Try.underlying39 Try.underlying156 (by kernel_rfl) rfl rfl (by kernel_rfl) (by kernel_rfl) Try.underlying2 Try.underlying2 Try.underlying24 Try.underlying2 (by kernel_rfl) (hval 0 41 v0 rfl rfl) h0
  clear hA0 hval0
  refine (walk pa0 pa1 pa2 pa3 pn0 pk0 pn1 pk1 pn2 pk2 pn3 pk3 pH pla pln plc pps pma pmn pmc pzs W pin pip piz).mono fun e W' ⟨he, bel⟩ => ?_
  subst he
  exact ⟨_, rfl, _, _, _, [], _, [], hW', trodAll_mk1 (shut_bool Try.underlying4 _), (trodAll_cons_mk (Below.trod laidOut (by kernel_rfl) (of_decide_eq_true (by kernel_rfl)) k0 bel lt0) trodAll_mk0), rfl, bel.frame _, fun h => by cases h⟩

theorem over : Rows.fnExactSoloFaultRow.holds Try.pinned (OpenSpec.ofChange Rows.fnExactSoloFaultSpec) :=
  OpenClaim.holds_of_wide 4 Try.f4 rfl rfl rfl rfl rfl rfl rfl ⟨rfl, rfl, rfl, rfl, rfl⟩ rfl rfl rfl rfl rfl (by kernel_rfl) Try.func4 (by kernel_rfl)
    (of_decide_eq_true (by kernel_rfl)) (by unfold Func.isWrapper; first | (rw [if_pos (by decide +kernel)]; kernel_rfl) | (rw [if_neg (by decide +kernel)]; exact ⟨rfl, rfl⟩))
    (fun os started H enc _ => lifted os started H enc)

theorem proved : Rows.FnExactSoloFaultSaid := over
end Go.Proofs.Ytnbibgmcjdpgmaa.fnExactSoloFaultDone
