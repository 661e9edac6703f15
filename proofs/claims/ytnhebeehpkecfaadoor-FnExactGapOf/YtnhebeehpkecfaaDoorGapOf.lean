/- The law FnExactGapOf answers true at every input, and each argument reads behind the call as it read ahead of it; no condition. -/
import Derived.Test.YtnhebeehpkecfaaDoorBase
import Derived.Test.YtnhebeehpkecfaaDoorCards
import Derived.Test.YtnhebeehpkecfaaDoorTie
import Derived.Deep.DeepHandedRow
import Derived.LaidHandle
import Derived.LaidLaws
import Derived.Lib.LaidTab
import Derived.Stop.LaidErr
import Derived.Test.YtnhebeehpkecfaaDoorPoo
import Derived.Test.YtnhebeehpkecfaaDoorPlt
import Derived.Lib.SmallJoins
import Derived.Test.YtnhebeehpkecfaaDoorVgi
import Derived.Test.YtnhebeehpkecfaaDoorVgs
import Derived.Test.YtnhebeehpkecfaaDoorPlt
import Derived.Test.YtnhebeehpkecfaaDoorPoo
import Derived.Deep.RegionWith
import Derived.Deep.Cut
import Derived.Deep.CutRange
namespace Go.Proofs.YtnhebeehpkecfaaDoor.fnExactGapOfDone
open Go.ChangeShapes Go.WideShapes Go.ChangeAt Go.RowKit
open Go.ChangeMaps (open_string shut_string)
set_option linter.unusedVariables false

set_option maxRecDepth 20000 in
set_option maxHeartbeats 4000000 in
theorem walk (a0 a1 a2 a3 : Option Addr) (n0 c0 n1 c1 n2 c2 n3 c3 : Nat) (P : Plc) (gu : Int) (w : World) (h : Pin w a0 n0 c0 a1 n1 c1 a2 n2 c2 a3 n3 c3 P) (wgu : (Lit.int .i64 gu).wf = true) (hg : w.cell? ⟨0, 0, none⟩ = some (.iface 112 (.agg #[.pointer (some ⟨1, 86, none⟩)]))) :
    Calls Tryd.prog 3 #[.agg #[.slice a0 n0 c0, .slice a1 n1 c1, .slice a2 n2 c2, .slice a3 n3 c3], .int .i64 gu] w fun e w' => e = .returned (.bool true) ∧ Below w.heap.size w w' := by
  generalize hW : w.alloc (.cells #[.slice a0 n0 c0, .slice a1 n1 c1, .slice a2 n2 c2, .slice a3 n3 c3] 27) = W
  have B0 : Hid (Below w.heap.size w W) := by show Below _ _ _; rw [← hW]; exact al (Below.refl _ _) _
  obtain ⟨s, hS⟩ : ∃ s, w.heap.size = s := ⟨_, rfl⟩
  have Q : Hid (W.cell? ⟨s, 0, none⟩ = some (.slice a0 n0 c0) ∧ W.cell? ⟨s, 1, none⟩ = some (.slice a1 n1 c1) ∧ W.cell? ⟨s, 2, none⟩ = some (.slice a2 n2 c2) ∧ W.cell? ⟨s, 3, none⟩ = some (.slice a3 n3 c3)) := by
    show _ ∧ _
    rw [← hW, ← hS]
    exact ⟨cell_new rfl, cell_new rfl, cell_new rfl, cell_new rfl⟩
  have HP : Hid (Pin W a0 n0 c0 a1 n1 c1 a2 n2 c2 a3 n3 c3 P) := h.stay B0.out
  have HG : Hid (W.cell? ⟨0, 0, none⟩ = some (.iface 112 (.agg #[.pointer (some ⟨1, 86, none⟩)]))) := cell_keep B0.out hg
  clear h hg wgu
  have q0 := Q.out.1
  have q1 := Q.out.2.1
  have q2 := Q.out.2.2.1
  have q3 := Q.out.2.2.2
  go_enter Tryd.func3, Tryd.ntmps3
  go_wp2_with fail
  clear hW hS
  refine (sz_policy _ _ _ _ _ _ _ _ _ _ _ _ P _ HP.out).mono ?_
  rintro e w1 ⟨⟨r, rfl, hr, hs⟩, b1⟩
  by_cases hneg : r < 0
  · go_wp2_with fail
    go_ret
    exact ⟨rfl, on B0.out b1⟩
  have SM : Hid (Small n0 n1 n2 n3 P) := hs (by omega)
  have q0 := cell_keep b1 Q.out.1
  have q1 := cell_keep b1 Q.out.2.1
  have q2 := cell_keep b1 Q.out.2.2.1
  have q3 := cell_keep b1 Q.out.2.2.2
  have B1 : Hid (Below _ W w1) := b1
  clear hs b1
  go_wp2_with fail
  refine (to_policy _ _ _ _ _ _ _ _ _ _ _ _ P _ (HP.out.stay B1.out) SM.out).mono ?_
  rintro e w2 ⟨g0, g1, g2, g3, rfl, m2, b2⟩
  have B2 : Hid (Below _ W w2) := on B1.out b2
  have M2 : Hid (Mde w2 _ _ _ _ _ _ _ _ _ P) := m2
  clear m2 b2
  go_wp2_with fail
  refine (s_gap _ _ _ _ _ _ _ _ _ _ _ _ P _ _ M2.out.pl).mono ?_
  rintro e w3 ⟨rfl, b3⟩
  obtain ⟨p1, hp1⟩ : ∃ p1, (gpR P gu).1 = p1 := ⟨_, rfl⟩
  obtain ⟨p2, hp2⟩ : ∃ p2, (gpR P gu).2 = p2 := ⟨_, rfl⟩
  rw [hp1, hp2]
  have HP1 : Hid ((gpR P gu).1 = p1) := hp1
  have HP2 : Hid ((gpR P gu).2 = p2) := hp2
  have B3 : Hid (Below _ W (w3.alloc (.cells #[.int .i64 p1, .int .i64 p2] 30))) := al (on B2.out b3) _
  have Y : Hid ((w3.alloc (.cells #[.int .i64 p1, .int .i64 p2] 30)).cell? ⟨w3.heap.size, 0, none⟩ = some (.int .i64 p1) ∧ (w3.alloc (.cells #[.int .i64 p1, .int .i64 p2] 30)).cell? ⟨w3.heap.size, 1, none⟩ = some (.int .i64 p2)) := ⟨cell_new rfl, cell_new rfl⟩
  have q0 := cell_keep (on B2.out b3) Q.out.1
  have q1 := cell_keep (on B2.out b3) Q.out.2.1
  have q2 := cell_keep (on B2.out b3) Q.out.2.2.1
  have q3 := cell_keep (on B2.out b3) Q.out.2.2.2
  have lt3 : s < w3.heap.size := block_of_cell q0
  clear b3 M2 hp1 hp2
  go_wp2_with fail
  generalize w3.alloc (.cells #[.int .i64 p1, .int .i64 p2] 30) = W3 at *
  generalize w3.heap.size = s3 at *
  clear q0 q1 q2 q3 lt3
  refine (to_policy _ _ _ _ _ _ _ _ _ _ _ _ P _ (HP.out.stay B3.out) SM.out).mono ?_
  rintro e w4 ⟨k0, k1, k2, k3, rfl, m4, b4⟩
  have B4 : Hid (Below _ W (w4.alloc (.cells #[.slice (some ⟨k0, 0, none⟩) n0 n0, .slice (some ⟨k1, 0, none⟩) n1 n1, .slice (some ⟨k2, 0, none⟩) n2 n2, .slice (some ⟨k3, 0, none⟩) n3 n3] 36))) := al (on B3.out b4) _
  have M4 : Hid (Mde (w4.alloc (.cells #[.slice (some ⟨k0, 0, none⟩) n0 n0, .slice (some ⟨k1, 0, none⟩) n1 n1, .slice (some ⟨k2, 0, none⟩) n2 n2, .slice (some ⟨k3, 0, none⟩) n3 n3] 36)) _ _ _ _ _ _ _ _ _ P) := m4.keep (al (Below.refl _ _) _)
  have X : Hid ((w4.alloc (.cells #[.slice (some ⟨k0, 0, none⟩) n0 n0, .slice (some ⟨k1, 0, none⟩) n1 n1, .slice (some ⟨k2, 0, none⟩) n2 n2, .slice (some ⟨k3, 0, none⟩) n3 n3] 36)).cell? ⟨w4.heap.size, 0, none⟩ = some (.slice (some ⟨k0, 0, none⟩) n0 n0) ∧ (w4.alloc (.cells #[.slice (some ⟨k0, 0, none⟩) n0 n0, .slice (some ⟨k1, 0, none⟩) n1 n1, .slice (some ⟨k2, 0, none⟩) n2 n2, .slice (some ⟨k3, 0, none⟩) n3 n3] 36)).cell? ⟨w4.heap.size, 1, none⟩ = some (.slice (some ⟨k1, 0, none⟩) n1 n1) ∧ (w4.alloc (.cells #[.slice (some ⟨k0, 0, none⟩) n0 n0, .slice (some ⟨k1, 0, none⟩) n1 n1, .slice (some ⟨k2, 0, none⟩) n2 n2, .slice (some ⟨k3, 0, none⟩) n3 n3] 36)).cell? ⟨w4.heap.size, 2, none⟩ = some (.slice (some ⟨k2, 0, none⟩) n2 n2) ∧ (w4.alloc (.cells #[.slice (some ⟨k0, 0, none⟩) n0 n0, .slice (some ⟨k1, 0, none⟩) n1 n1, .slice (some ⟨k2, 0, none⟩) n2 n2, .slice (some ⟨k3, 0, none⟩) n3 n3] 36)).cell? ⟨w4.heap.size, 3, none⟩ = some (.slice (some ⟨k3, 0, none⟩) n3 n3)) := ⟨cell_new rfl, cell_new rfl, cell_new rfl, cell_new rfl⟩
  have Y4 : Hid (_ ∧ _) := ⟨cell_push (.cells #[.slice (some ⟨k0, 0, none⟩) n0 n0, .slice (some ⟨k1, 0, none⟩) n1 n1, .slice (some ⟨k2, 0, none⟩) n2 n2, .slice (some ⟨k3, 0, none⟩) n3 n3] 36) (cell_keep b4 Y.out.1), cell_push (.cells #[.slice (some ⟨k0, 0, none⟩) n0 n0, .slice (some ⟨k1, 0, none⟩) n1 n1, .slice (some ⟨k2, 0, none⟩) n2 n2, .slice (some ⟨k3, 0, none⟩) n3 n3] 36) (cell_keep b4 Y.out.2)⟩
  clear m4 b4
  go_wp2_with fail
  generalize w4.alloc (.cells #[.slice (some ⟨k0, 0, none⟩) n0 n0, .slice (some ⟨k1, 0, none⟩) n1 n1, .slice (some ⟨k2, 0, none⟩) n2 n2, .slice (some ⟨k3, 0, none⟩) n3 n3] 36) = W4 at *
  generalize w4.heap.size = s4 at *
  refine (i_gap _ _ _ _ _ _ _ _ _ _ _ _ P _ _ M4.out.pl (cell_keep B4.out HG.out)).mono ?_
  rintro e w5 ⟨rfl, b5⟩
  rw [HP1.out, HP2.out]
  have B5 : Hid (Below _ W (w5.alloc (.cells #[.int .i64 p1, .int .i64 p2] 30))) := al (on B4.out b5) _
  have D5 : Hid (Below _ W4 (w5.alloc (.cells #[.int .i64 p1, .int .i64 p2] 30))) := al b5 _
  have y0 := cell_keep b5 Y4.out.1
  have y1 := cell_keep b5 Y4.out.2
  have ly : s3 < w5.heap.size := block_of_cell y0
  clear b5
  go_wp2_with fail
  generalize w5.alloc (.cells #[.int .i64 p1, .int .i64 p2] 30) = W5 at *
  clear y0 y1 ly
  refine (eq_intR _ _ _).mono ?_
  rintro e w6 ⟨rfl, b6⟩
  have B6 : Hid (Below _ W w6) := on B5.out b6
  have D6 := on D5.out b6
  have M5 : Hid (Mde w6 _ _ _ _ _ _ _ _ _ P) := M4.out.keep D6
  have B5 := B6
  have q0 := cell_keep B6.out Q.out.1
  have q1 := cell_keep B6.out Q.out.2.1
  have q2 := cell_keep B6.out Q.out.2.2.1
  have q3 := cell_keep B6.out Q.out.2.2.2
  have x0 := cell_keep D6 X.out.1
  have x1 := cell_keep D6 X.out.2.1
  have x2 := cell_keep D6 X.out.2.2.1
  have x3 := cell_keep D6 X.out.2.2.2
  clear b6 D6 B6
  go_wp2_with fail
  go_region_with (first
    | (go_at_call 6; refine (to_policy _ _ _ _ _ _ _ _ _ _ _ _ P _ (HP.out.stay (by first | exact B5.out | exact B5.out.drew | exact B5.out.drew.drew | exact B5.out.drew.drew.drew)) SM.out).mono ?_; rintro e w8 ⟨h0, h1, h2, h3, rfl, m8, b8⟩; (first | have B8 := on B5.out b8 | have B8 := on B5.out.drew b8 | have B8 := on B5.out.drew.drew b8 | have B8 := on B5.out.drew.drew.drew b8); have x0 := cell_keep b8 x0; have x1 := cell_keep b8 x1; have x2 := cell_keep b8 x2; have x3 := cell_keep b8 x3; (first | have N8 := M5.out.keep b8 | have N8 := (M5.out.keep (Below.refl _ _).drew).keep b8 | have N8 := (M5.out.keep (Below.refl _ _).drew.drew).keep b8 | have N8 := (M5.out.keep (Below.refl _ _).drew.drew.drew).keep b8); clear b8)
    | (go_at_call 9; refine (eq_policy _ _ _ _ _ _ _ _ _ _ _ _ P _ _ _ (by first | exact N8 | exact N8.keep (Below.refl _ _).drew | exact N8.keep (Below.refl _ _).drew.drew) (by first | exact m8 | exact m8.keep (Below.refl _ _).drew | exact m8.keep (Below.refl _ _).drew.drew)).mono ?_; rintro e w7 ⟨rfl, b7⟩; (first | have B7 := on B8 b7 | have B7 := on B8.drew b7 | have B7 := on B8.drew.drew b7)))
  all_goals go_wp2_with fail
  all_goals go_ret
  all_goals exact ⟨rfl, by first | exact on B0.out B7 | exact on B0.out B7.drew⟩

theorem gEt : Tryd.prog.globalNamed "errors.errorType" = some 0 := by kernel_rfl
theorem gRt : (Tryd.prog.cutTypes.find? (·.1 == "internal/reflectlite.rtype")).map (·.2) = some 112 := by kernel_rfl
theorem gRow : ((List.range 159).filter fun t => Tryd.prog.rowNamed t [101, 114, 114, 111, 114]) = [86] := by kernel_rfl
theorem gSize : Tryd.prog.types.size = 159 := by kernel_rfl
theorem handle {W : World} (h : laidMetH Tryd.prog Rows.fnExactGapOfRow.laid W) : W.cell? ⟨0, 0, none⟩ = some (.iface 112 (.agg #[.pointer (some ⟨1, 86, none⟩)])) := by
  have h' : laidMet Tryd.prog [] W ∧ handlesMet Tryd.prog Rows.fnExactGapOfRow.laid W := h
  obtain ⟨name, u, ty, e1, e2, e3, e4, e5⟩ := h'.2 _ (List.mem_singleton.2 rfl)
  have en : name = [101, 114, 114, 111, 114] := (Option.some.inj e1).symm
  subst en
  obtain rfl := Option.some.inj (gRt.symm.trans e2)
  have hm : ty ∈ (List.range 159).filter fun t => Tryd.prog.rowNamed t [101, 114, 114, 111, 114] := List.mem_filter.2 ⟨List.mem_range.2 (by rw [← gSize]; exact e3), e4⟩
  rw [gRow] at hm
  obtain rfl := List.mem_singleton.1 hm
  have hh : typeHandle Tryd.prog 86 = .pointer (some ⟨1, 86, none⟩) := by kernel_rfl
  rw [hh] at e5
  simpa using World.var?_cell gEt e5 0

set_option maxRecDepth 100000 in
theorem contract (H : Type) (enc : TypeId × Value → H) (W : World) (base : Nat) (args : Array Value) (ds gs : List (DataW H)) (before : List MemPlace)
    (hval0 : ∀ (j : Nat) t v, Tryd.f3.params[j]? = some t → args[j]? = some v → Value.okWide Tryd.prog W .any base t v)
    (hW : DataW.Whole enc Tryd.prog Tryd.f3.params.toList Rows.fnExactGapOfSpec.vars false W args.toList ds gs before) (hL : laidMetH Tryd.prog Rows.fnExactGapOfRow.laid W) :
    Calls Tryd.prog 3 args W fun e W' => ∃ v, e = .returned v ∧ Rows.fnExactGapOfSpec.post enc Tryd.prog Tryd.f3 false true false false W args v W' := by
  have hval : ∀ (j : Nat) t v, Tryd.f3.params[j]? = some t → args[j]? = some v → Value.okWide Tryd.prog W .any base t v := hval0
  have hW' := hW
  obtain ⟨p, q, hA0, hV, rfl, hfz, hnd⟩ := hW
  have hA : DataW.TrodAll enc Tryd.prog W 0 (fun _ => true) true Tryd.f3.params.toList args.toList ds p := hA0
  rw [Tryd.params3] at hA hval
  obtain ⟨v0, vs0, d0, ds0, p0, q0, hargs, rfl, rfl, h0, r0⟩ := trodAll_cons hA
  obtain ⟨v1, vs1, d1, ds1, p1, q1, rfl, rfl, rfl, h1, r1⟩ := trodAll_cons r0
  obtain ⟨rfl, rfl, rfl⟩ := trodAll_nil r1
  obtain rfl : args = #[v0, v1] := by cases args; simp_all
  obtain ⟨rfl, rfl⟩ := trodVars_none hV
  have k0 := h0
  have lt0 : ∀ x ∈ p0, x.block < W.heap.size := by obtain ⟨m, hm⟩ := k0; exact DataW.trod_lt m _ _ _ hm
  obtain ⟨c0_0, c0_1, c0_2, c0_3, y0_0, y0_1, y0_2, y0_3, m0, rfl, _, _, e0_0, e0_1, e0_2, e0_3⟩ := Go.Joins.open_agg4 Tryd.underlying27 (by kernel_rfl) (by kernel_rfl) (hval 0 27 v0 rfl rfl) h0
  obtain ⟨pa0, pn0, pc0, po, q0, w0_0⟩ := ss_open Tryd.underlying22 Tryd.underlying59 Tryd.underlying2 (by kernel_rfl) (by kernel_rfl) e0_0
  obtain rfl : c0_0 = .slice pa0 pn0 pc0 := by simpa using q0
  obtain ⟨pa1, pn1, pc1, pl, q1, w0_1⟩ := lanes_open2 Tryd.underlying23 Tryd.underlying66 (by kernel_rfl) rfl rfl rfl rfl rfl Tryd.underlying2 Tryd.underlying2 Tryd.underlying2 Tryd.underlying2 Tryd.underlying2 (by kernel_rfl) (by kernel_rfl) (by kernel_rfl) (by kernel_rfl) (by kernel_rfl) e0_1
  obtain rfl : c0_1 = .slice pa1 pn1 pc1 := by simpa using q1
  obtain ⟨pa2, pn2, pc2, pb, q2, w0_2⟩ := pairs_open Tryd.underlying24 Tryd.underlying70 (by kernel_rfl) rfl rfl Tryd.underlying2 Tryd.underlying2 (by kernel_rfl) (by kernel_rfl) e0_2
  obtain rfl : c0_2 = .slice pa2 pn2 pc2 := by simpa using q2
  obtain ⟨pa3, pn3, pc3, pp, q3, w0_3⟩ := pairs_open Tryd.underlying25 Tryd.underlying72 (by kernel_rfl) rfl rfl Tryd.underlying2 Tryd.underlying2 (by kernel_rfl) (by kernel_rfl) e0_3
  obtain rfl : c0_3 = .slice pa3 pn3 pc3 := by simpa using q3
  obtain ⟨a1, rfl, rfl, rfl, w1⟩ := open_int Tryd.underlying2 (hval 1 2 v1 rfl rfl) h1
  clear hA0 hval0
  refine (walk pa0 pa1 pa2 pa3 pn0 pc0 pn1 pc1 pn2 pc2 pn3 pc3 ⟨po, pl, pb, pp⟩ a1 W ⟨w0_0, w0_1, w0_2, w0_3⟩ w1 (handle hL)).mono fun e W' ⟨he, bel⟩ => ?_
  subst he
  exact ⟨_, rfl, _, _, _, [], _, [], hW', trodAll_mk1 (shut_bool Tryd.underlying4 _), (trodAll_cons_mk (Below.trod laidOut (by kernel_rfl) (of_decide_eq_true (by kernel_rfl)) k0 bel lt0) (trodAll_cons_mk (shut_int Tryd.underlying2 w1) trodAll_mk0)), rfl, bel.frame _, fun h => by cases h⟩

theorem laid_met (os : Os) : laidMetH Tryd.prog Rows.fnExactGapOfRow.laid (({ World.holding Tryd.prog os ⟨#[], #[], []⟩ with heap := ((World.holding Tryd.prog os ⟨#[], #[], []⟩).heap.modify 0 fun
      | .cells _ t frozen => .cells #[.iface 112 (.agg #[.pointer (some ⟨1, 86, none⟩)])] t frozen
      | o => o) } : World).forCall (fun _ _ => 0) ⟨#[], #[.agg #[.slice none 0 0, .slice none 0 0, .slice none 0 0, .slice none 0 0], .int .i64 0], []⟩).memory :=
  laidMetH_of_parts (laidMet_nil _ _) (by kernel_rfl)
theorem reads (os : Os) {H : Type} (enc : TypeId × Value → H) : ∃ places, DataW.whole enc Tryd.prog (({ World.holding Tryd.prog os ⟨#[], #[], []⟩ with heap := ((World.holding Tryd.prog os ⟨#[], #[], []⟩).heap.modify 0 fun
      | .cells _ t frozen => .cells #[.iface 112 (.agg #[.pointer (some ⟨1, 86, none⟩)])] t frozen
      | o => o) } : World).forCall (fun _ _ => 0) ⟨#[], #[.agg #[.slice none 0 0, .slice none 0 0, .slice none 0 0, .slice none 0 0], .int .i64 0], []⟩).memory Tryd.f3.params.toList Rows.fnExactGapOfSpec.vars false (#[.agg #[.slice none 0 0, .slice none 0 0, .slice none 0 0, .slice none 0 0], .int .i64 0] : Array Value).toList 8 = some ([.agg [.nil, .nil, .nil, .nil], .lit (.int .i64 0)], [], places) :=
  ⟨[], by kernel_rfl⟩
set_option maxRecDepth 100000 in
theorem lifted (os : Os) (started : os.Started) (H : Type) (enc : TypeId × Value → H) (F : Stop.Interp) :
    ReturnsInHanded {} Tryd.checked os 3 .any ((OpenSpec.ofChange Rows.fnExactGapOfSpec).preRow enc Tryd.prog Tryd.f3 Rows.fnExactGapOfRow.domain false Rows.fnExactGapOfRow.laid) (((OpenSpec.ofChange Rows.fnExactGapOfSpec).at F).post enc Tryd.prog Tryd.f3 false true false false) := by
  obtain ⟨places, hx⟩ := reads os enc
  refine returnsInHanded_of_row (C := Tryd.checked) (s := OpenSpec.ofChange Rows.fnExactGapOfSpec) own started (by kernel_rfl) Tryd.func3
    (witness_row_at (enc := enc) (C := Tryd.checked) false ({ World.holding Tryd.prog os ⟨#[], #[], []⟩ with heap := ((World.holding Tryd.prog os ⟨#[], #[], []⟩).heap.modify 0 fun
      | .cells _ t frozen => .cells #[.iface 112 (.agg #[.pointer (some ⟨1, 86, none⟩)])] t frozen
      | o => o) } : World) #[.agg #[.slice none 0 0, .slice none 0 0, .slice none 0 0, .slice none 0 0], .int .i64 0] rfl (by kernel_rfl) (by kernel_rfl) (by kernel_rfl)
      (OpenSpec.preRow_of_cond 8 hx (by kernel_rfl) (fun k hk => by cases hk) (by kernel_rfl) (laid_met os))) ?_
  intro W base args ds gs before hval hW _ _ _ hL _ _
  exact contract H enc W base args ds gs before hval hW hL

theorem said : Rows.FnExactGapOfSaid :=
  OpenClaim.holds_of_cond 3 Tryd.f3 rfl rfl rfl rfl rfl rfl rfl ⟨rfl, rfl, rfl, rfl, rfl⟩ rfl rfl rfl rfl rfl (by kernel_rfl) Tryd.func3 (by kernel_rfl)
    (of_decide_eq_true (by kernel_rfl)) (by unfold Func.isWrapper; first | (rw [if_pos (by decide +kernel)]; kernel_rfl) | (rw [if_neg (by decide +kernel)]; exact ⟨rfl, rfl⟩))
    (fun os started H enc _ F => by rw [OpenClaim.pre_eq_preRow]; exact lifted os started H enc F)
theorem plain (f : FuncId) (fn : Func) (hf : Tryd.pinned.checked.prog.funcNamed "loop.example/g00213/laws.FnExactGapOf" = some f) (hfn : Tryd.pinned.checked.prog.funcs[f]? = some fn) :
    true = Tryd.pinned.checked.prog.looks [] ∧ ∀ (j : Nat) t, fn.params[j]? = some t → Tryd.pinned.checked.prog.wantsStandIn t = false := by
  obtain rfl : f = 3 := Option.some.inj ((show Tryd.prog.funcNamed "loop.example/g00213/laws.FnExactGapOf" = some 3 by kernel_rfl).symm.trans hf) |>.symm
  obtain rfl : fn = Tryd.f3 := (Option.some.inj (Tryd.func3.symm.trans hfn)).symm
  refine ⟨by kernel_rfl, fun j t ht => ?_⟩
  rw [Tryd.params3] at ht
  have hm : t = 27 ∨ t = 2 := by simpa using Array.mem_of_getElem? ht
  rcases hm with rfl | rfl
  · exact (show Tryd.prog.wantsStandIn 27 = false by kernel_rfl)
  · exact (show Tryd.prog.wantsStandIn 2 = false by kernel_rfl)
theorem proved : Rows.FnExactGapOfCardSaid :=
  Claim7.holds_tied_plain_at .later [] _ _ _ _ said (fun _ h => by cases h) (by kernel_rfl) (fun _ h => by cases h) fnExactGapOf_row_tie rfl ⟨rfl, rfl⟩ (by kernel_rfl) rfl plain (by kernel_rfl)
end Go.Proofs.YtnhebeehpkecfaaDoor.fnExactGapOfDone
