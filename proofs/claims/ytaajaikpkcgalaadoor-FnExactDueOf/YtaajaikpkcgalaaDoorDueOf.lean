/- The law FnExactDueOf answers true at every input, and each argument reads behind the call as it read ahead of it; no condition. -/
import Derived.Test.YtaajaikpkcgalaaDoorBase
import Derived.Test.YtaajaikpkcgalaaDoorCards
import Derived.Test.YtaajaikpkcgalaaDoorTie
import Derived.Deep.DeepHandedRow
import Derived.Lib.LaidTab
import Derived.Stop.LaidErr
import Derived.Lib.SmallJoins
import Derived.Test.YtaajaikpkcgalaaDoorHdo
import Derived.Test.YtaajaikpkcgalaaDoorHto
import Derived.Deep.RegionWith
namespace Go.Proofs.YtaajaikpkcgalaaDoor.fnExactDueOfDone
open Go.ChangeShapes Go.WideShapes Go.ChangeAt Go.RowKit
open Go.ChangeMaps (open_string shut_string)
set_option linter.unusedVariables false

set_option maxRecDepth 20000 in
set_option maxHeartbeats 8000000 in
theorem walk (a0 a1 a2 a3 : Option Addr) (n0 c0 n1 c1 n2 c2 n3 c3 : Nat) (H : Ht) (w : World) (h : Hin w a0 n0 c0 a1 n1 c1 a2 n2 c2 a3 n3 c3 H) (hg : Tab w) :
    Calls Tryd.prog 4 #[.agg #[.slice a0 n0 c0, .int .i64 H.pc, .slice a1 n1 c1, .bool H.halted, .bool H.waiting, .bool H.rung, .int .i64 H.done, .slice a2 n2 c2, .slice a3 n3 c3]] w fun e w' => e = .returned (.bool true) ∧ Below w.heap.size w w' := by
  generalize hW : w.alloc (.cells #[.slice a0 n0 c0, .int .i64 H.pc, .slice a1 n1 c1, .bool H.halted, .bool H.waiting, .bool H.rung, .int .i64 H.done, .slice a2 n2 c2, .slice a3 n3 c3] 39) = W
  have B0 : Hid (Below w.heap.size w W) := by show Below _ _ _; rw [← hW]; exact al (Below.refl _ _) _
  obtain ⟨s, hS⟩ : ∃ s, w.heap.size = s := ⟨_, rfl⟩
  have Q : Hid (Vb W s #[.slice a0 n0 c0, .int .i64 H.pc, .slice a1 n1 c1, .bool H.halted, .bool H.waiting, .bool H.rung, .int .i64 H.done, .slice a2 n2 c2, .slice a3 n3 c3] 39) := by
    show Vb _ _ _ _
    rw [← hW, ← hS]
    exact Vb.new _ _ _
  have HP : Hid (Hin W a0 n0 c0 a1 n1 c1 a2 n2 c2 a3 n3 c3 H) := h.stay B0.out
  have HG : Hid (Tab W) := hg.keep B0.out
  clear h hg
  have q0 := Q.out.cell 0 rfl
  have q1 := Q.out.cell 1 rfl
  have q2 := Q.out.cell 2 rfl
  have q3 := Q.out.cell 3 rfl
  have q4 := Q.out.cell 4 rfl
  have q5 := Q.out.cell 5 rfl
  have q6 := Q.out.cell 6 rfl
  have q7 := Q.out.cell 7 rfl
  have q8 := Q.out.cell 8 rfl
  go_enter Tryd.func4, Tryd.ntmps4
  go_wp2_with fail
  clear hW hS
  refine (sz_hart _ _ _ _ _ _ _ _ _ _ _ _ H _ HP.out).mono ?_
  rintro e w1 ⟨⟨r, rfl, hr, hs⟩, b1⟩
  by_cases hneg : r < 0
  · go_wp2_with fail
    go_ret
    exact ⟨rfl, on B0.out b1⟩
  have SM : Hid (Hs n0 n1 n2 n3) := hs (by omega)
  have B1 : Hid (Below _ W w1) := b1
  have Q1 := Q.out.keep b1
  clear hs b1 q0 q1 q2 q3 q4 q5 q6 q7 q8
  have q0 := Q1.cell 0 rfl
  have q1 := Q1.cell 1 rfl
  have q2 := Q1.cell 2 rfl
  have q3 := Q1.cell 3 rfl
  have q4 := Q1.cell 4 rfl
  have q5 := Q1.cell 5 rfl
  have q6 := Q1.cell 6 rfl
  have q7 := Q1.cell 7 rfl
  have q8 := Q1.cell 8 rfl
  clear Q1
  go_wp2_with fail
  clear q0 q1 q2 q3 q4 q5 q6 q7 q8
  refine (to_hart _ _ _ _ _ _ _ _ _ _ _ _ H _ (HP.out.stay B1.out) SM.out).mono ?_
  rintro e w2 ⟨r2, d2, i2, o2, rfl, m2, A2, b2⟩
  have B2 : Hid (Below _ W w2) := on B1.out b2
  have M2 : Hid (Hm w2 _ r2 d2 i2 o2 H) := m2
  clear m2 b2 A2
  go_wp2_with fail
  refine (s_dueOf _ _ _ _ H _ _ M2.out).mono ?_
  rintro e w3 ⟨rfl, b3⟩
  obtain ⟨p1, hp1⟩ : ∃ p1, (dueR H).1 = p1 := ⟨_, rfl⟩
  obtain ⟨p2, hp2⟩ : ∃ p2, (dueR H).2 = p2 := ⟨_, rfl⟩
  rw [hp1, hp2]
  have HP1 : Hid ((dueR H).1 = p1) := hp1
  have HP2 : Hid ((dueR H).2 = p2) := hp2
  have B3 : Hid (Below _ W (w3.alloc (.cells #[.int .i64 p1, .int .i64 p2] 35))) := al (on B2.out b3) _
  have Y3 : Hid (Vb (w3.alloc (.cells #[.int .i64 p1, .int .i64 p2] 35)) w3.heap.size #[.int .i64 p1, .int .i64 p2] 35) := Vb.new _ _ _
  have Q3 := Q.out.keep (on B2.out b3)
  have ls3 : s < w3.heap.size := Q3.lt
  clear b3 hp1 hp2 M2
  have q0 := Q3.cell 0 rfl
  have q1 := Q3.cell 1 rfl
  have q2 := Q3.cell 2 rfl
  have q3 := Q3.cell 3 rfl
  have q4 := Q3.cell 4 rfl
  have q5 := Q3.cell 5 rfl
  have q6 := Q3.cell 6 rfl
  have q7 := Q3.cell 7 rfl
  have q8 := Q3.cell 8 rfl
  clear Q3
  go_wp2_with fail
  generalize (w3.alloc (.cells #[.int .i64 p1, .int .i64 p2] 35)) = W3 at *
  generalize w3.heap.size = s3 at *
  clear q0 q1 q2 q3 q4 q5 q6 q7 q8 ls3
  refine (to_hart _ _ _ _ _ _ _ _ _ _ _ _ H _ (HP.out.stay B3.out) SM.out).mono ?_
  rintro e w4 ⟨r4, d4, i4, o4, rfl, m4, A4, b4⟩
  obtain ⟨xa0, xk0, rfl, _⟩ := m4.r.shape
  obtain ⟨xa1, xk1, rfl, _⟩ := m4.c.shape
  obtain ⟨xa2, xk2, rfl, _⟩ := m4.i.shape
  obtain ⟨xa3, xk3, rfl, _⟩ := m4.o.shape
  have M4 : Hid (Hm w4 W3.heap.size (.slice xa0 H.regs.length xk0) (.slice xa1 H.csr.length xk1) (.slice xa2 H.inn.length xk2) (.slice xa3 H.out.length xk3) H) := m4
  have HA4 : Hid (Ha (.slice xa0 H.regs.length xk0) (.slice xa1 H.csr.length xk1) (.slice xa2 H.inn.length xk2) (.slice xa3 H.out.length xk3)) := A4
  have D4 : Hid (Below w4.heap.size w4 (w4.alloc (.cells #[(.slice xa0 H.regs.length xk0), .int .i64 H.pc, (.slice xa1 H.csr.length xk1), .bool H.halted, .bool H.waiting, .bool H.rung, .int .i64 H.done, (.slice xa2 H.inn.length xk2), (.slice xa3 H.out.length xk3)] 26))) := al (Below.refl _ _) _
  have B4 : Hid (Below _ W (w4.alloc (.cells #[(.slice xa0 H.regs.length xk0), .int .i64 H.pc, (.slice xa1 H.csr.length xk1), .bool H.halted, .bool H.waiting, .bool H.rung, .int .i64 H.done, (.slice xa2 H.inn.length xk2), (.slice xa3 H.out.length xk3)] 26))) := al (on B3.out b4) _
  have X4 : Hid (Vb (w4.alloc (.cells #[(.slice xa0 H.regs.length xk0), .int .i64 H.pc, (.slice xa1 H.csr.length xk1), .bool H.halted, .bool H.waiting, .bool H.rung, .int .i64 H.done, (.slice xa2 H.inn.length xk2), (.slice xa3 H.out.length xk3)] 26)) w4.heap.size #[(.slice xa0 H.regs.length xk0), .int .i64 H.pc, (.slice xa1 H.csr.length xk1), .bool H.halted, .bool H.waiting, .bool H.rung, .int .i64 H.done, (.slice xa2 H.inn.length xk2), (.slice xa3 H.out.length xk3)] 26) := Vb.new _ _ _
  have Z4 : Hid (W3.heap.size ≤ w4.heap.size ∧ w4.heap.size + 1 = (w4.alloc (.cells #[(.slice xa0 H.regs.length xk0), .int .i64 H.pc, (.slice xa1 H.csr.length xk1), .bool H.halted, .bool H.waiting, .bool H.rung, .int .i64 H.done, (.slice xa2 H.inn.length xk2), (.slice xa3 H.out.length xk3)] 26)).heap.size) := ⟨b4.size, by simp⟩
  have Y4 : Hid (Vb (w4.alloc (.cells #[(.slice xa0 H.regs.length xk0), .int .i64 H.pc, (.slice xa1 H.csr.length xk1), .bool H.halted, .bool H.waiting, .bool H.rung, .int .i64 H.done, (.slice xa2 H.inn.length xk2), (.slice xa3 H.out.length xk3)] 26)) s3 _ _) := (Y3.out.keep b4).push _
  clear m4 A4 b4
  go_wp2_with fail
  generalize (w4.alloc (.cells #[(.slice xa0 H.regs.length xk0), .int .i64 H.pc, (.slice xa1 H.csr.length xk1), .bool H.halted, .bool H.waiting, .bool H.rung, .int .i64 H.done, (.slice xa2 H.inn.length xk2), (.slice xa3 H.out.length xk3)] 26)) = W4 at *
  obtain ⟨s4, hs4⟩ : ∃ s4, w4.heap.size = s4 := ⟨_, rfl⟩
  rw [hs4] at X4 Z4 ⊢
  have S4 : Hid (w4.heap.size = s4) := hs4
  clear hs4
  refine (i_dueOf _ _ _ _ H _ _ (M4.out.keep D4.out) (HG.out.keep B4.out)).mono ?_
  rintro e w5 ⟨rfl, b5⟩
  rw [HP1.out, HP2.out]
  have B5 : Hid (Below _ W (w5.alloc (.cells #[.int .i64 p1, .int .i64 p2] 35))) := al (on B4.out b5) _
  have D5 : Hid (Below w4.heap.size w4 (w5.alloc (.cells #[.int .i64 p1, .int .i64 p2] 35))) := al (on D4.out b5) _
  have X5 : Hid (Vb (w5.alloc (.cells #[.int .i64 p1, .int .i64 p2] 35)) s4 _ _) := (X4.out.keep b5).push _
  have y5 := Y4.out.keep b5
  have ly : s3 < w5.heap.size := y5.lt
  have y0 := y5.cell 0 rfl
  have y1 := y5.cell 1 rfl
  clear b5 y5
  go_wp2_with fail
  generalize (w5.alloc (.cells #[.int .i64 p1, .int .i64 p2] 35)) = W5 at *
  clear y0 y1 ly
  refine (eq_intRes _ _ _).mono ?_
  rintro e w6 ⟨rfl, b6⟩
  have B6 : Hid (Below _ W w6) := on B5.out b6
  have D6 := on D5.out b6
  have M5 : Hid (Hm w6 _ (.slice xa0 H.regs.length xk0) (.slice xa1 H.csr.length xk1) (.slice xa2 H.inn.length xk2) (.slice xa3 H.out.length xk3) H) := M4.out.keep D6
  have Q6 := Q.out.keep B6.out
  have X6 := X5.out.keep b6
  clear b6 D6
  have q0 := Q6.cell 0 rfl
  have q1 := Q6.cell 1 rfl
  have q2 := Q6.cell 2 rfl
  have q3 := Q6.cell 3 rfl
  have q4 := Q6.cell 4 rfl
  have q5 := Q6.cell 5 rfl
  have q6 := Q6.cell 6 rfl
  have q7 := Q6.cell 7 rfl
  have q8 := Q6.cell 8 rfl
  have x0 := X6.cell 0 rfl
  have x1 := X6.cell 1 rfl
  have x2 := X6.cell 2 rfl
  have x3 := X6.cell 3 rfl
  have x4 := X6.cell 4 rfl
  have x5 := X6.cell 5 rfl
  have x6 := X6.cell 6 rfl
  have x7 := X6.cell 7 rfl
  have x8 := X6.cell 8 rfl
  clear Q6 X6
  go_wp2_with fail
  go_region_with (first
    | (go_at_call 16; refine (to_hart _ _ _ _ _ _ _ _ _ _ _ _ H _ (HP.out.stay (by first | exact B6.out | exact B6.out.drew | exact B6.out.drew.drew | exact B6.out.drew.drew.drew)) SM.out).mono ?_; rintro e w8 ⟨r8, d8, i8, o8, rfl, m8, A8, b8⟩; clear A8; have E8 : Hid (Below w6.heap.size w6 w8) := (by first | exact b8 | exact on (Below.refl _ _).drew b8 | exact on (Below.refl _ _).drew.drew b8 | exact on (Below.refl _ _).drew.drew.drew b8); have x0 := cell_keep b8 x0; have x1 := cell_keep b8 x1; have x2 := cell_keep b8 x2; have x3 := cell_keep b8 x3; have x4 := cell_keep b8 x4; have x5 := cell_keep b8 x5; have x6 := cell_keep b8 x6; have x7 := cell_keep b8 x7; have x8 := cell_keep b8 x8; (first | have N8 := M5.out.keep b8 | have N8 := (M5.out.keep (Below.refl _ _).drew).keep b8 | have N8 := (M5.out.keep (Below.refl _ _).drew.drew).keep b8); clear b8)
    | (go_at_call 18; refine (eq_hart _ _ _ _ _ _ _ _ H _ _ _ (by first | exact N8 | exact N8.keep (Below.refl _ _).drew | exact N8.keep (Below.refl _ _).drew.drew) (by first | exact m8 | exact m8.keep (Below.refl _ _).drew | exact m8.keep (Below.refl _ _).drew.drew)).mono ?_; rintro e w7 ⟨rfl, b7⟩; (first | have E7 : Hid (Below w6.heap.size w6 w7) := on E8.out b7 | have E7 : Hid (Below w6.heap.size w6 w7) := on E8.out.drew b7 | have E7 : Hid (Below w6.heap.size w6 w7) := on E8.out.drew.drew b7); clear b7))
  all_goals go_wp2_with fail
  all_goals go_ret
  all_goals exact ⟨rfl, by first | exact on B0.out (on B6.out E7.out) | exact on B0.out (on B6.out E7.out.drew)⟩

theorem gTab : Tryd.prog.globalNamed "math/bits.deBruijn64tab" = some 0 := by kernel_rfl
theorem gTabType : (Tryd.prog.globals[0]?).map (·.type) = some 85 := by kernel_rfl
theorem table {W : World} (h : laidMetH Tryd.prog Rows.fnExactDueOfRow.laid W) : Tab W := by
  have h' : laidMet Tryd.prog Rows.fnExactDueOfRow.laid W := h
  have t : Lib.TabIs Tryd.prog W "math/bits.deBruijn64tab" .u8 [0, 1, 56, 2, 57, 49, 28, 3, 61, 58, 42, 50, 38, 29, 17, 4, 62, 47, 59, 36, 45, 43, 51, 22, 53, 39, 33, 30, 24, 18, 12, 5, 63, 55, 48, 27, 60, 41, 37, 16, 46, 35, 44, 21, 52, 32, 23, 11, 54, 26, 40, 15, 34, 20, 31, 10, 25, 14, 19, 9, 13, 8, 7, 6] := Lib.tabIs_of_head (rest := []) gTab gTabType Tryd.underlying85 (by kernel_rfl) (by kernel_rfl) (by kernel_rfl) h'
  unfold Lib.TabIs at t
  exact ⟨by simpa using World.var?_cell gTab t 0, by simpa using World.var?_cell gTab t 1, by simpa using World.var?_cell gTab t 3⟩

set_option maxRecDepth 100000 in
theorem contract (H : Type) (enc : TypeId × Value → H) (W : World) (base : Nat) (args : Array Value) (ds gs : List (DataW H)) (before : List MemPlace)
    (hval0 : ∀ (j : Nat) t v, Tryd.f4.params[j]? = some t → args[j]? = some v → Value.okWide Tryd.prog W .any base t v)
    (hW : DataW.Whole enc Tryd.prog Tryd.f4.params.toList Rows.fnExactDueOfSpec.vars false W args.toList ds gs before) (hL : laidMetH Tryd.prog Rows.fnExactDueOfRow.laid W) :
    Calls Tryd.prog 4 args W fun e W' => ∃ v, e = .returned v ∧ Rows.fnExactDueOfSpec.post enc Tryd.prog Tryd.f4 false true false false W args v W' := by
  have hval : ∀ (j : Nat) t v, Tryd.f4.params[j]? = some t → args[j]? = some v → Value.okWide Tryd.prog W .any base t v := hval0
  have hW' := hW
  obtain ⟨p, q, hA0, hV, rfl, hfz, hnd⟩ := hW
  have hA : DataW.TrodAll enc Tryd.prog W 0 (fun _ => true) true Tryd.f4.params.toList args.toList ds p := hA0
  rw [Tryd.params4] at hA hval
  obtain ⟨v0, vs0, d0, ds0, p0, q0, hargs, rfl, rfl, h0, r0⟩ := trodAll_cons hA
  obtain ⟨rfl, rfl, rfl⟩ := trodAll_nil r0
  obtain rfl : args = #[v0] := by cases args; simp_all
  obtain ⟨rfl, rfl⟩ := trodVars_none hV
  have k0 := h0
  have lt0 : ∀ x ∈ p0, x.block < W.heap.size := by obtain ⟨m, hm⟩ := k0; exact DataW.trod_lt m _ _ _ hm
  obtain ⟨pa0, pa1, pa2, pa3, pn0, pk0, pn1, pk1, pn2, pk2, pn3, pk3, pH, rfl, pin⟩ := hart_open Tryd.underlying39 (by kernel_rfl) (by kernel_rfl) Tryd.underlying24 Tryd.underlying2 Tryd.underlying24 Tryd.underlying4 Tryd.underlying4 Tryd.underlying4 Tryd.underlying2 Tryd.underlying24 Tryd.underlying24 Tryd.underlying2 Tryd.underlying2 Tryd.underlying2 Tryd.underlying2 (by kernel_rfl) (by kernel_rfl) (by kernel_rfl) (by kernel_rfl) (hval 0 39 v0 rfl rfl) h0
  clear hA0 hval0
  refine (walk pa0 pa1 pa2 pa3 pn0 pk0 pn1 pk1 pn2 pk2 pn3 pk3 pH W pin (table hL)).mono fun e W' ⟨he, bel⟩ => ?_
  subst he
  exact ⟨_, rfl, _, _, _, [], _, [], hW', trodAll_mk1 (shut_bool Tryd.underlying4 _), (trodAll_cons_mk (Below.trod laidOut (by kernel_rfl) (of_decide_eq_true (by kernel_rfl)) k0 bel lt0) trodAll_mk0), rfl, bel.frame _, fun h => by cases h⟩

theorem laid_met (os : Os) : laidMet Tryd.prog Rows.fnExactDueOfRow.laid (({ World.holding Tryd.prog os ⟨#[], #[], []⟩ with heap := ((World.holding Tryd.prog os ⟨#[], #[], []⟩).heap.modify 0 fun
      | .cells _ t frozen => .cells #[.int .u8 0, .int .u8 1, .int .u8 56, .int .u8 2, .int .u8 57, .int .u8 49, .int .u8 28, .int .u8 3, .int .u8 61, .int .u8 58, .int .u8 42, .int .u8 50, .int .u8 38, .int .u8 29, .int .u8 17, .int .u8 4, .int .u8 62, .int .u8 47, .int .u8 59, .int .u8 36, .int .u8 45, .int .u8 43, .int .u8 51, .int .u8 22, .int .u8 53, .int .u8 39, .int .u8 33, .int .u8 30, .int .u8 24, .int .u8 18, .int .u8 12, .int .u8 5, .int .u8 63, .int .u8 55, .int .u8 48, .int .u8 27, .int .u8 60, .int .u8 41, .int .u8 37, .int .u8 16, .int .u8 46, .int .u8 35, .int .u8 44, .int .u8 21, .int .u8 52, .int .u8 32, .int .u8 23, .int .u8 11, .int .u8 54, .int .u8 26, .int .u8 40, .int .u8 15, .int .u8 34, .int .u8 20, .int .u8 31, .int .u8 10, .int .u8 25, .int .u8 14, .int .u8 19, .int .u8 9, .int .u8 13, .int .u8 8, .int .u8 7, .int .u8 6] t frozen
      | o => o) } : World).forCall (fun _ _ => 0) ⟨#[], #[.agg #[.slice none 0 0, .int .i64 0, .slice none 0 0, .bool false, .bool false, .bool false, .int .i64 0, .slice none 0 0, .slice none 0 0]], []⟩).memory :=
  laidMet_of_run' 200 (by kernel_rfl) (by kernel_rfl)
theorem reads (os : Os) {H : Type} (enc : TypeId × Value → H) : ∃ places, DataW.whole enc Tryd.prog (({ World.holding Tryd.prog os ⟨#[], #[], []⟩ with heap := ((World.holding Tryd.prog os ⟨#[], #[], []⟩).heap.modify 0 fun
      | .cells _ t frozen => .cells #[.int .u8 0, .int .u8 1, .int .u8 56, .int .u8 2, .int .u8 57, .int .u8 49, .int .u8 28, .int .u8 3, .int .u8 61, .int .u8 58, .int .u8 42, .int .u8 50, .int .u8 38, .int .u8 29, .int .u8 17, .int .u8 4, .int .u8 62, .int .u8 47, .int .u8 59, .int .u8 36, .int .u8 45, .int .u8 43, .int .u8 51, .int .u8 22, .int .u8 53, .int .u8 39, .int .u8 33, .int .u8 30, .int .u8 24, .int .u8 18, .int .u8 12, .int .u8 5, .int .u8 63, .int .u8 55, .int .u8 48, .int .u8 27, .int .u8 60, .int .u8 41, .int .u8 37, .int .u8 16, .int .u8 46, .int .u8 35, .int .u8 44, .int .u8 21, .int .u8 52, .int .u8 32, .int .u8 23, .int .u8 11, .int .u8 54, .int .u8 26, .int .u8 40, .int .u8 15, .int .u8 34, .int .u8 20, .int .u8 31, .int .u8 10, .int .u8 25, .int .u8 14, .int .u8 19, .int .u8 9, .int .u8 13, .int .u8 8, .int .u8 7, .int .u8 6] t frozen
      | o => o) } : World).forCall (fun _ _ => 0) ⟨#[], #[.agg #[.slice none 0 0, .int .i64 0, .slice none 0 0, .bool false, .bool false, .bool false, .int .i64 0, .slice none 0 0, .slice none 0 0]], []⟩).memory Tryd.f4.params.toList Rows.fnExactDueOfSpec.vars false (#[.agg #[.slice none 0 0, .int .i64 0, .slice none 0 0, .bool false, .bool false, .bool false, .int .i64 0, .slice none 0 0, .slice none 0 0]] : Array Value).toList 8 = some ([.agg [.nil, .lit (.int .i64 0), .nil, .lit (.bool false), .lit (.bool false), .lit (.bool false), .lit (.int .i64 0), .nil, .nil]], [], places) :=
  ⟨[], by kernel_rfl⟩
set_option maxRecDepth 100000 in
theorem lifted (os : Os) (started : os.Started) (H : Type) (enc : TypeId × Value → H) (F : Stop.Interp) :
    ReturnsInHanded {} Tryd.checked os 4 .any ((OpenSpec.ofChange Rows.fnExactDueOfSpec).preRow enc Tryd.prog Tryd.f4 Rows.fnExactDueOfRow.domain false Rows.fnExactDueOfRow.laid) (((OpenSpec.ofChange Rows.fnExactDueOfSpec).at F).post enc Tryd.prog Tryd.f4 false true false false) := by
  obtain ⟨places, hx⟩ := reads os enc
  refine returnsInHanded_of_row (C := Tryd.checked) (s := OpenSpec.ofChange Rows.fnExactDueOfSpec) own started (by kernel_rfl) Tryd.func4
    (witness_row_at (enc := enc) (C := Tryd.checked) false ({ World.holding Tryd.prog os ⟨#[], #[], []⟩ with heap := ((World.holding Tryd.prog os ⟨#[], #[], []⟩).heap.modify 0 fun
      | .cells _ t frozen => .cells #[.int .u8 0, .int .u8 1, .int .u8 56, .int .u8 2, .int .u8 57, .int .u8 49, .int .u8 28, .int .u8 3, .int .u8 61, .int .u8 58, .int .u8 42, .int .u8 50, .int .u8 38, .int .u8 29, .int .u8 17, .int .u8 4, .int .u8 62, .int .u8 47, .int .u8 59, .int .u8 36, .int .u8 45, .int .u8 43, .int .u8 51, .int .u8 22, .int .u8 53, .int .u8 39, .int .u8 33, .int .u8 30, .int .u8 24, .int .u8 18, .int .u8 12, .int .u8 5, .int .u8 63, .int .u8 55, .int .u8 48, .int .u8 27, .int .u8 60, .int .u8 41, .int .u8 37, .int .u8 16, .int .u8 46, .int .u8 35, .int .u8 44, .int .u8 21, .int .u8 52, .int .u8 32, .int .u8 23, .int .u8 11, .int .u8 54, .int .u8 26, .int .u8 40, .int .u8 15, .int .u8 34, .int .u8 20, .int .u8 31, .int .u8 10, .int .u8 25, .int .u8 14, .int .u8 19, .int .u8 9, .int .u8 13, .int .u8 8, .int .u8 7, .int .u8 6] t frozen
      | o => o) } : World) #[.agg #[.slice none 0 0, .int .i64 0, .slice none 0 0, .bool false, .bool false, .bool false, .int .i64 0, .slice none 0 0, .slice none 0 0]] rfl (by kernel_rfl) (by kernel_rfl) (by kernel_rfl)
      (OpenSpec.preRow_of_cond 8 hx (by kernel_rfl) (fun k hk => by cases hk) (by kernel_rfl) (laid_met os))) ?_
  intro W base args ds gs before hval hW _ _ _ hL _ _
  exact contract H enc W base args ds gs before hval hW hL

theorem said : Rows.FnExactDueOfSaid :=
  OpenClaim.holds_of_cond 4 Tryd.f4 rfl rfl rfl rfl rfl rfl rfl ⟨rfl, rfl, rfl, rfl, rfl⟩ rfl rfl rfl rfl rfl (by kernel_rfl) Tryd.func4 (by kernel_rfl)
    (of_decide_eq_true (by kernel_rfl)) (by unfold Func.isWrapper; first | (rw [if_pos (by decide +kernel)]; kernel_rfl) | (rw [if_neg (by decide +kernel)]; exact ⟨rfl, rfl⟩))
    (fun os started H enc _ F => by rw [OpenClaim.pre_eq_preRow]; exact lifted os started H enc F)
theorem plain (f : FuncId) (fn : Func) (hf : Tryd.pinned.checked.prog.funcNamed "loop.example/g00213/laws.FnExactDueOf" = some f) (hfn : Tryd.pinned.checked.prog.funcs[f]? = some fn) :
    false = Tryd.pinned.checked.prog.looks [] ∧ ∀ (j : Nat) t, fn.params[j]? = some t → Tryd.pinned.checked.prog.wantsStandIn t = false := by
  obtain rfl : f = 4 := Option.some.inj ((show Tryd.prog.funcNamed "loop.example/g00213/laws.FnExactDueOf" = some 4 by kernel_rfl).symm.trans hf) |>.symm
  obtain rfl : fn = Tryd.f4 := (Option.some.inj (Tryd.func4.symm.trans hfn)).symm
  refine ⟨by kernel_rfl, fun j t ht => ?_⟩
  rw [Tryd.params4] at ht
  obtain rfl : t = 39 := by simpa using Array.mem_of_getElem? ht
  exact (show Tryd.prog.wantsStandIn 39 = false by kernel_rfl)
theorem proved : Rows.FnExactDueOfCardSaid :=
  Claim7.holds_tied_plain_at .later [] _ _ _ _ said (fun _ h => by cases h) (by kernel_rfl) (fun _ h => by cases h) fnExactDueOf_row_tie rfl ⟨rfl, rfl⟩ (by kernel_rfl) rfl plain (by kernel_rfl)
end Go.Proofs.YtaajaikpkcgalaaDoor.fnExactDueOfDone
