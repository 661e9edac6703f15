/- The law FnCodes answers true at every input, and each argument reads behind the call as it read ahead of it; no condition. -/
import Derived.Test.YtedjnokeknmbaaaDoorBase
import Derived.Test.YtedjnokeknmbaaaDoorCards
import Derived.Test.YtedjnokeknmbaaaDoorTie
import Derived.Deep.DeepHandedRow
import Derived.Lib.LaidTab
import Derived.Stop.LaidErr
import Derived.Test.YtedjnokeknmbaaaDoorCodes
import Derived.Deep.Cut
import Derived.Deep.CutRange
namespace Go.Proofs.YtedjnokeknmbaaaDoor.fnCodesDone
open Go.ChangeShapes Go.WideShapes Go.ChangeAt Go.RowKit
open Go.ChangeMaps (open_string shut_string)
set_option linter.unusedVariables false

set_option maxHeartbeats 4000000 in
theorem walk (a0 : Option Addr) (len0 cap0 : Nat) (z0 : List Int) (w : World) (w0 : IsRow .u8 w a0 len0 cap0 z0)
    (htab : Lib.TabIs Tryd.prog w "internal/strconv.uint64pow10" .u64 Lib.pow10Tab) :
    Calls Tryd.prog 3 #[.slice a0 len0 cap0] w fun e w' => e = .returned (.bool true) ∧ Below w.heap.size w w' := by
  have HT : Hid (Lib.TabIs Tryd.prog w "internal/strconv.uint64pow10" .u64 Lib.pow10Tab) := htab
  have HR : Hid (IsRow .u8 w a0 len0 cap0 z0) := w0
  have hv := field_val
  have hc0 := field_tcode
  have hc1 := field_ttext
  have hc2 := field_icode
  clear w0 htab
  by_cases hbig : 1048576 < (len0 : Int)
  · go_enter Tryd.func3, Tryd.ntmps3
    go_wp2
    go_ret
    exact ⟨rfl, Below.refl _ _⟩
  have hb2 : (len0 : Int) ≤ 1048576 := by omega
  clear hbig
  go_enter Tryd.func3, Tryd.ntmps3
  go_wp2_with (go_at_call 4; go_in)
  refine (drawDec_any HR.out).mono ?_
  rintro e w1 ⟨v, rfl, b1⟩
  have B1 : Hid (Below _ w w1) := b1
  clear b1
  have fi := fun w => impl_decode v w
  have fs := fun w => spec_decode v w
  obtain ⟨c, f0, f1, f2, f3, hd, hcase⟩ : ∃ c f0 f1 f2 f3 : Int, decV v = .agg #[.int .i64 c, .int .i64 f0, .int .i64 f1, .int .i64 f2, .int .i64 f3] ∧ ((c = 0 ∧ insC f0 f1 f2 f3 = 0 ∧ encV f0 f1 f2 f3 = v) ∨ c = 5) := by
    by_cases h : decF v = 0
    · exact ⟨0, _, _, _, _, by unfold decV; rw [if_pos h], .inl ⟨rfl, h, dec_back h⟩⟩
    · exact ⟨5, 0, 0, 0, 0, by unfold decV; rw [if_neg h], .inr rfl⟩
  rw [hd] at fi fs
  clear hd
  go_wp2_with fail
  refine (fi _).mono ?_
  rintro e w2 ⟨rfl, b2⟩
  have B2 : Below w.heap.size w (w2.alloc (.cells #[.int .i64 c, .int .i64 f0, .int .i64 f1, .int .i64 f2, .int .i64 f3] 28)) := al (on B1.out b2) _
  have q0 : (w2.alloc (.cells #[.int .i64 c, .int .i64 f0, .int .i64 f1, .int .i64 f2, .int .i64 f3] 28)).cell? ⟨w2.heap.size, 0, none⟩ = some (.int .i64 c) := cell_new rfl
  clear b2 fi
  go_wp2_with fail
  go_cut [37] from 14 to 37 (fun c wx => c = .bool false ∧ Below w.heap.size w wx)
  case first =>
    rcases hcase with ⟨rfl, hi, he⟩ | rfl
    · have fe := fun w => impl_encode f0 f1 f2 f3 w
      rw [hi, he] at fe
      clear hi he
      have hvv : (v != v) = false := by simp
      first
        | go_region_with (go_at_call 7; refine (fe _).mono ?_; rintro e w3 ⟨rfl, b3⟩; have q0 := cell_keep b3 q0; first | have B3 := on B2 b3 | have B3 := on B2.drew b3 | have B3 := on B2.drew.drew b3)
        | fail
      all_goals (go_wp2_with fail; go_meet; exact ⟨rfl, by first | exact B3 | exact B3.drew⟩)
    · clear hv
      first
        | go_region_with (go_at_call 8; refine (fs _).mono ?_; rintro e w3 ⟨rfl, b3⟩; have q0 := cell_keep b3 q0; first | have B3 := on B2 b3 | have B3 := on B2.drew b3 | have B3 := on B2.drew.drew b3)
        | fail
      all_goals (go_wp2_with fail; go_meet; exact ⟨rfl, by first | exact B3 | exact B3.drew⟩)
  case rest =>
  obtain ⟨rfl, hB3⟩ := hcut
  have HB3 : Hid (Below w.heap.size w _) := hB3
  clear hB3 hcase fs B2 q0
  go_wp2_with fail
  refine (drawEnc_any (HR.out.below HB3.out)).mono ?_
  rintro e w4 ⟨o, d, x, i, rfl, b4⟩
  have B4 : Hid (Below w.heap.size w w4) := on HB3.out b4
  clear b4 HB3
  have fe := fun w => impl_encode o d x i w
  have ff := fun w => spec_insFault o d x i w
  by_cases h0 : insC o d x i = 0
  case neg =>
    generalize insC o d x i = c5 at *
    generalize encV o d x i = z5 at *
    have hcb : (c5 != 0) = true := by simpa using h0
    clear h0
    go_wp2_with fail
    refine (fe _).mono ?_
    rintro e w5 ⟨rfl, b5⟩
    have q0 := cell_keep b5 (cell_new (i := 0) rfl)
    have q1 := cell_keep b5 (cell_new (i := 1) rfl)
    have q2 := cell_keep b5 (cell_new (i := 2) rfl)
    have q3 := cell_keep b5 (cell_new (i := 3) rfl)
    have q0 := cell_push (.cells #[.int .i64 c5, .int .i64 z5] 31) q0
    have q1 := cell_push (.cells #[.int .i64 c5, .int .i64 z5] 31) q1
    have q2 := cell_push (.cells #[.int .i64 c5, .int .i64 z5] 31) q2
    have q3 := cell_push (.cells #[.int .i64 c5, .int .i64 z5] 31) q3
    have p0 : (w5.alloc (.cells #[.int .i64 c5, .int .i64 z5] 31)).cell? ⟨w5.heap.size, 0, none⟩ = some (.int .i64 c5) := cell_new rfl
    have B5 : Below w.heap.size w (w5.alloc (.cells #[.int .i64 c5, .int .i64 z5] 31)) := al (on (al B4.out _) b5) _
    clear b5 fe
    go_wp2_with fail
    first
      | go_region_with (go_at_call 10; refine (ff _).mono ?_; rintro e w6 ⟨rfl, b6⟩; have p0 := cell_keep b6 p0; first | have B6 := on B5 b6 | have B6 := on B5.drew b6 | have B6 := on B5.drew.drew b6)
      | fail
    all_goals go_wp2_with fail
    all_goals go_ret
    all_goals exact ⟨by first | rfl | simp, by first | exact B6 | exact B6.drew⟩
  have hpos : (0 : Int) < ((insS o d x i).size : Int) := by have := insS_pos h0; omega
  have hde := dec_enc h0
  have fd := fun w => impl_decode (encV o d x i) w
  have fo := fun w => impl_opName o w
  have ft := fun w h => impl_insText o d x i w h
  have hb := insC_bounds h0
  have hon : opnV o = .agg #[.int .i64 0, .string (nm o.toNat)] := if_pos ⟨hb.1, hb.2.1⟩
  rw [hde] at fd
  rw [h0] at fe ft
  rw [hon] at fo
  clear ff hde hon hb h0
  generalize encV o d x i = z5 at *
  generalize insS o d x i = S at *
  generalize nm o.toNat = S2 at *
  go_wp2_with fail
  refine (fe _).mono ?_
  rintro e w5 ⟨rfl, b5⟩
  have q0 := cell_keep b5 (cell_new (i := 0) rfl)
  have q1 := cell_keep b5 (cell_new (i := 1) rfl)
  have q2 := cell_keep b5 (cell_new (i := 2) rfl)
  have q3 := cell_keep b5 (cell_new (i := 3) rfl)
  have B5 : Hid (Below w.heap.size w w5) := on (al B4.out _) b5
  have s45 : w4.heap.size < w5.heap.size := block_of_cell q0
  clear b5 fe
  go_wp2_with fail
  refine (fd _).mono ?_
  rintro e w6 ⟨rfl, b6⟩
  have q0 := cell_keep b6 (cell_push _ q0)
  have q1 := cell_keep b6 (cell_push _ q1)
  have q2 := cell_keep b6 (cell_push _ q2)
  have q3 := cell_keep b6 (cell_push _ q3)
  have B6 : Hid (Below w.heap.size w w6) := on (al B5.out _) b6
  have s46 : w4.heap.size < w6.heap.size := block_of_cell q0
  clear b6 fd
  go_wp2_with fail
  refine (fo _).mono ?_
  rintro e w7 ⟨rfl, b7⟩
  have q0 := cell_keep b7 (cell_push _ q0)
  have q1 := cell_keep b7 (cell_push _ q1)
  have q2 := cell_keep b7 (cell_push _ q2)
  have q3 := cell_keep b7 (cell_push _ q3)
  have B7 : Hid (Below w.heap.size w w7) := on (al B6.out _) b7
  clear b7 fo
  go_wp2_with fail
  refine (ft _ (Lib.tabBelow_of_tabIs HT.out _ B7.out)).mono ?_
  rintro e w8 ⟨rfl, b8⟩
  have q3 := cell_keep b8 q3
  have B8 : Hid (Below w.heap.size w w8) := on B7.out b8
  clear b8 ft
  go_wp2_with fail
  refine (offset_any _ _).mono ?_
  rintro e x8 ⟨v8, rfl, l8, u8, rfl⟩
  go_wp2_with fail
  refine (offset_any _ _).mono ?_
  rintro e x9 ⟨v9, rfl, l9, r9, rfl⟩
  go_wp2_with fail
  go_ret
  exact ⟨by simp, B8.out⟩

theorem gTab : Tryd.prog.globalNamed "internal/strconv.uint64pow10" = some 0 := by kernel_rfl
theorem gTabType : (Tryd.prog.globals[0]?).map (·.type) = some 82 := by kernel_rfl
theorem table {W : World} (h : laidMetH Tryd.prog Rows.fnCodesRow.laid W) : Lib.TabIs Tryd.prog W "internal/strconv.uint64pow10" .u64 Lib.pow10Tab := by
  have h' : laidMet Tryd.prog Rows.fnCodesRow.laid W := h
  have h2 := laidMet.tail (laidMet.tail (h'))
  exact Lib.tabIs_of_head (rest := _) gTab gTabType Tryd.underlying82 (by kernel_rfl) (by kernel_rfl) (by kernel_rfl) h2

theorem contract (H : Type) (enc : TypeId × Value → H) (W : World) (base : Nat) (args : Array Value) (ds gs : List (DataW H)) (before : List MemPlace)
    (hval0 : ∀ (j : Nat) t v, Tryd.f3.params[j]? = some t → args[j]? = some v → Value.okWide Tryd.prog W .any base t v)
    (hW : DataW.Whole enc Tryd.prog Tryd.f3.params.toList Rows.fnCodesSpec.vars false W args.toList ds gs before) (hL : laidMetH Tryd.prog Rows.fnCodesRow.laid W) :
    Calls Tryd.prog 3 args W fun e W' => ∃ v, e = .returned v ∧ Rows.fnCodesSpec.post enc Tryd.prog Tryd.f3 false true false false W args v W' := by
  have hval : ∀ (j : Nat) t v, Tryd.f3.params[j]? = some t → args[j]? = some v → Value.okWide Tryd.prog W .any base t v := hval0
  have hW' := hW
  obtain ⟨p, q, hA0, hV, rfl, hfz, hnd⟩ := hW
  have hA : DataW.TrodAll enc Tryd.prog W 0 (fun _ => true) true Tryd.f3.params.toList args.toList ds p := hA0
  rw [Tryd.params3] at hA hval
  obtain ⟨v0, vs0, d0, ds0, p0, q0, hargs, rfl, rfl, h0, r0⟩ := trodAll_cons hA
  obtain ⟨rfl, rfl, rfl⟩ := trodAll_nil r0
  obtain rfl : args = #[v0] := by cases args; simp_all
  obtain ⟨rfl, rfl⟩ := trodVars_none hV
  obtain ⟨a0, len0, cap0, rfl⟩ := okWide_slice Tryd.underlying22 (hval 0 22 v0 rfl rfl)
  have k0 := h0
  have lt0 : ∀ x ∈ p0, x.block < W.heap.size := by obtain ⟨m, hm⟩ := k0; exact DataW.trod_lt m _ _ _ hm
  obtain ⟨z0, w0⟩ : ∃ zs, IsRow .u8 W a0 len0 cap0 zs := by
    obtain ⟨fuel, hf⟩ := h0
    rcases open_ints Tryd.underlying22 Tryd.underlying5 (by kernel_rfl) hf with ⟨hcs, _⟩ | ⟨x, l, c, zs, hcs, _, hl, hm, hz, _, hcell, hwz⟩
    · simp [Value.cells] at hcs
      obtain ⟨rfl, rfl, rfl⟩ := hcs
      exact ⟨[], .inl ⟨rfl, rfl, rfl, rfl⟩⟩
    · simp [Value.cells] at hcs
      obtain ⟨rfl, rfl, rfl⟩ := hcs
      exact ⟨_, IsRow.of_all hl hm (by simpa using hz) hcell hwz⟩
  clear hA0 hval0
  refine (walk a0 len0 cap0 z0 W w0 (table hL)).mono fun e W' ⟨he, bel⟩ => ?_
  subst he
  exact ⟨_, rfl, _, _, _, [], _, [], hW', trodAll_mk1 (shut_bool Tryd.underlying4 _), (trodAll_cons_mk (Below.trod laidOut (by kernel_rfl) (of_decide_eq_true (by kernel_rfl)) k0 bel lt0) trodAll_mk0), rfl, bel.frame _, fun h => by cases h⟩

theorem laid_met (os : Os) : laidMet Tryd.prog Rows.fnCodesRow.laid (({ World.holding Tryd.prog os ⟨#[], #[], []⟩ with heap := ((((World.holding Tryd.prog os ⟨#[], #[], []⟩).heap.modify 2 fun
      | .cells _ t frozen => .cells #[.int .u8 0, .int .u8 1, .int .u8 28, .int .u8 2, .int .u8 29, .int .u8 14, .int .u8 24, .int .u8 3, .int .u8 30, .int .u8 22, .int .u8 20, .int .u8 15, .int .u8 25, .int .u8 17, .int .u8 4, .int .u8 8, .int .u8 31, .int .u8 27, .int .u8 13, .int .u8 23, .int .u8 21, .int .u8 19, .int .u8 16, .int .u8 7, .int .u8 26, .int .u8 12, .int .u8 18, .int .u8 6, .int .u8 11, .int .u8 5, .int .u8 10, .int .u8 9] t frozen
      | o => o).modify 3 fun
      | .cells _ t frozen => .cells #[.int .u8 0, .int .u8 1, .int .u8 56, .int .u8 2, .int .u8 57, .int .u8 49, .int .u8 28, .int .u8 3, .int .u8 61, .int .u8 58, .int .u8 42, .int .u8 50, .int .u8 38, .int .u8 29, .int .u8 17, .int .u8 4, .int .u8 62, .int .u8 47, .int .u8 59, .int .u8 36, .int .u8 45, .int .u8 43, .int .u8 51, .int .u8 22, .int .u8 53, .int .u8 39, .int .u8 33, .int .u8 30, .int .u8 24, .int .u8 18, .int .u8 12, .int .u8 5, .int .u8 63, .int .u8 55, .int .u8 48, .int .u8 27, .int .u8 60, .int .u8 41, .int .u8 37, .int .u8 16, .int .u8 46, .int .u8 35, .int .u8 44, .int .u8 21, .int .u8 52, .int .u8 32, .int .u8 23, .int .u8 11, .int .u8 54, .int .u8 26, .int .u8 40, .int .u8 15, .int .u8 34, .int .u8 20, .int .u8 31, .int .u8 10, .int .u8 25, .int .u8 14, .int .u8 19, .int .u8 9, .int .u8 13, .int .u8 8, .int .u8 7, .int .u8 6] t frozen
      | o => o).modify 0 fun
      | .cells _ t frozen => .cells #[.int .u64 1, .int .u64 10, .int .u64 100, .int .u64 1000, .int .u64 10000, .int .u64 100000, .int .u64 1000000, .int .u64 10000000, .int .u64 100000000, .int .u64 1000000000, .int .u64 10000000000, .int .u64 100000000000, .int .u64 1000000000000, .int .u64 10000000000000, .int .u64 100000000000000, .int .u64 1000000000000000, .int .u64 10000000000000000, .int .u64 100000000000000000, .int .u64 1000000000000000000, .int .u64 10000000000000000000] t frozen
      | o => o) } : World).forCall (fun _ _ => 0) ⟨#[], #[.slice none 0 0], []⟩).memory :=
  laidMet_of_run' 200 (by kernel_rfl) (by kernel_rfl)
theorem reads (os : Os) {H : Type} (enc : TypeId × Value → H) : ∃ places, DataW.whole enc Tryd.prog (({ World.holding Tryd.prog os ⟨#[], #[], []⟩ with heap := ((((World.holding Tryd.prog os ⟨#[], #[], []⟩).heap.modify 2 fun
      | .cells _ t frozen => .cells #[.int .u8 0, .int .u8 1, .int .u8 28, .int .u8 2, .int .u8 29, .int .u8 14, .int .u8 24, .int .u8 3, .int .u8 30, .int .u8 22, .int .u8 20, .int .u8 15, .int .u8 25, .int .u8 17, .int .u8 4, .int .u8 8, .int .u8 31, .int .u8 27, .int .u8 13, .int .u8 23, .int .u8 21, .int .u8 19, .int .u8 16, .int .u8 7, .int .u8 26, .int .u8 12, .int .u8 18, .int .u8 6, .int .u8 11, .int .u8 5, .int .u8 10, .int .u8 9] t frozen
      | o => o).modify 3 fun
      | .cells _ t frozen => .cells #[.int .u8 0, .int .u8 1, .int .u8 56, .int .u8 2, .int .u8 57, .int .u8 49, .int .u8 28, .int .u8 3, .int .u8 61, .int .u8 58, .int .u8 42, .int .u8 50, .int .u8 38, .int .u8 29, .int .u8 17, .int .u8 4, .int .u8 62, .int .u8 47, .int .u8 59, .int .u8 36, .int .u8 45, .int .u8 43, .int .u8 51, .int .u8 22, .int .u8 53, .int .u8 39, .int .u8 33, .int .u8 30, .int .u8 24, .int .u8 18, .int .u8 12, .int .u8 5, .int .u8 63, .int .u8 55, .int .u8 48, .int .u8 27, .int .u8 60, .int .u8 41, .int .u8 37, .int .u8 16, .int .u8 46, .int .u8 35, .int .u8 44, .int .u8 21, .int .u8 52, .int .u8 32, .int .u8 23, .int .u8 11, .int .u8 54, .int .u8 26, .int .u8 40, .int .u8 15, .int .u8 34, .int .u8 20, .int .u8 31, .int .u8 10, .int .u8 25, .int .u8 14, .int .u8 19, .int .u8 9, .int .u8 13, .int .u8 8, .int .u8 7, .int .u8 6] t frozen
      | o => o).modify 0 fun
      | .cells _ t frozen => .cells #[.int .u64 1, .int .u64 10, .int .u64 100, .int .u64 1000, .int .u64 10000, .int .u64 100000, .int .u64 1000000, .int .u64 10000000, .int .u64 100000000, .int .u64 1000000000, .int .u64 10000000000, .int .u64 100000000000, .int .u64 1000000000000, .int .u64 10000000000000, .int .u64 100000000000000, .int .u64 1000000000000000, .int .u64 10000000000000000, .int .u64 100000000000000000, .int .u64 1000000000000000000, .int .u64 10000000000000000000] t frozen
      | o => o) } : World).forCall (fun _ _ => 0) ⟨#[], #[.slice none 0 0], []⟩).memory Tryd.f3.params.toList Rows.fnCodesSpec.vars false (#[.slice none 0 0] : Array Value).toList 8 = some ([.nil], [], places) :=
  ⟨[], by kernel_rfl⟩
set_option maxRecDepth 100000 in
theorem lifted (os : Os) (started : os.Started) (H : Type) (enc : TypeId × Value → H) (F : Stop.Interp) :
    ReturnsInHanded {} Tryd.checked os 3 .any ((OpenSpec.ofChange Rows.fnCodesSpec).preRow enc Tryd.prog Tryd.f3 Rows.fnCodesRow.domain false Rows.fnCodesRow.laid) (((OpenSpec.ofChange Rows.fnCodesSpec).at F).post enc Tryd.prog Tryd.f3 false true false false) := by
  obtain ⟨places, hx⟩ := reads os enc
  refine returnsInHanded_of_row (C := Tryd.checked) (s := OpenSpec.ofChange Rows.fnCodesSpec) own started (by kernel_rfl) Tryd.func3
    (witness_row_at (enc := enc) (C := Tryd.checked) false ({ World.holding Tryd.prog os ⟨#[], #[], []⟩ with heap := ((((World.holding Tryd.prog os ⟨#[], #[], []⟩).heap.modify 2 fun
      | .cells _ t frozen => .cells #[.int .u8 0, .int .u8 1, .int .u8 28, .int .u8 2, .int .u8 29, .int .u8 14, .int .u8 24, .int .u8 3, .int .u8 30, .int .u8 22, .int .u8 20, .int .u8 15, .int .u8 25, .int .u8 17, .int .u8 4, .int .u8 8, .int .u8 31, .int .u8 27, .int .u8 13, .int .u8 23, .int .u8 21, .int .u8 19, .int .u8 16, .int .u8 7, .int .u8 26, .int .u8 12, .int .u8 18, .int .u8 6, .int .u8 11, .int .u8 5, .int .u8 10, .int .u8 9] t frozen
      | o => o).modify 3 fun
      | .cells _ t frozen => .cells #[.int .u8 0, .int .u8 1, .int .u8 56, .int .u8 2, .int .u8 57, .int .u8 49, .int .u8 28, .int .u8 3, .int .u8 61, .int .u8 58, .int .u8 42, .int .u8 50, .int .u8 38, .int .u8 29, .int .u8 17, .int .u8 4, .int .u8 62, .int .u8 47, .int .u8 59, .int .u8 36, .int .u8 45, .int .u8 43, .int .u8 51, .int .u8 22, .int .u8 53, .int .u8 39, .int .u8 33, .int .u8 30, .int .u8 24, .int .u8 18, .int .u8 12, .int .u8 5, .int .u8 63, .int .u8 55, .int .u8 48, .int .u8 27, .int .u8 60, .int .u8 41, .int .u8 37, .int .u8 16, .int .u8 46, .int .u8 35, .int .u8 44, .int .u8 21, .int .u8 52, .int .u8 32, .int .u8 23, .int .u8 11, .int .u8 54, .int .u8 26, .int .u8 40, .int .u8 15, .int .u8 34, .int .u8 20, .int .u8 31, .int .u8 10, .int .u8 25, .int .u8 14, .int .u8 19, .int .u8 9, .int .u8 13, .int .u8 8, .int .u8 7, .int .u8 6] t frozen
      | o => o).modify 0 fun
      | .cells _ t frozen => .cells #[.int .u64 1, .int .u64 10, .int .u64 100, .int .u64 1000, .int .u64 10000, .int .u64 100000, .int .u64 1000000, .int .u64 10000000, .int .u64 100000000, .int .u64 1000000000, .int .u64 10000000000, .int .u64 100000000000, .int .u64 1000000000000, .int .u64 10000000000000, .int .u64 100000000000000, .int .u64 1000000000000000, .int .u64 10000000000000000, .int .u64 100000000000000000, .int .u64 1000000000000000000, .int .u64 10000000000000000000] t frozen
      | o => o) } : World) #[.slice none 0 0] rfl (by kernel_rfl) (by kernel_rfl) (by kernel_rfl)
      (OpenSpec.preRow_of_cond 8 hx (by kernel_rfl) (fun k hk => by cases hk) (by kernel_rfl) (laid_met os))) ?_
  intro W base args ds gs before hval hW _ _ _ hL _ _
  exact contract H enc W base args ds gs before hval hW hL

theorem said : Rows.FnCodesSaid :=
  OpenClaim.holds_of_cond 3 Tryd.f3 rfl rfl rfl rfl rfl rfl rfl ⟨rfl, rfl, rfl, rfl, rfl⟩ rfl rfl rfl rfl rfl (by kernel_rfl) Tryd.func3 (by kernel_rfl)
    (of_decide_eq_true (by kernel_rfl)) (by unfold Func.isWrapper; first | (rw [if_pos (by decide +kernel)]; kernel_rfl) | (rw [if_neg (by decide +kernel)]; exact ⟨rfl, rfl⟩))
    (fun os started H enc _ F => by rw [OpenClaim.pre_eq_preRow]; exact lifted os started H enc F)
theorem plain (f : FuncId) (fn : Func) (hf : Tryd.pinned.checked.prog.funcNamed "loop.example/g00213/laws.FnCodes" = some f) (hfn : Tryd.pinned.checked.prog.funcs[f]? = some fn) :
    false = Tryd.pinned.checked.prog.looks [] ∧ ∀ (j : Nat) t, fn.params[j]? = some t → Tryd.pinned.checked.prog.wantsStandIn t = false := by
  obtain rfl : f = 3 := Option.some.inj ((show Tryd.prog.funcNamed "loop.example/g00213/laws.FnCodes" = some 3 by kernel_rfl).symm.trans hf) |>.symm
  obtain rfl : fn = Tryd.f3 := (Option.some.inj (Tryd.func3.symm.trans hfn)).symm
  refine ⟨by kernel_rfl, fun j t ht => ?_⟩
  rw [Tryd.params3] at ht
  obtain rfl : t = 22 := by simpa using Array.mem_of_getElem? ht
  exact (show Tryd.prog.wantsStandIn 22 = false by kernel_rfl)
theorem proved : Rows.FnCodesCardSaid :=
  Claim7.holds_tied_plain_at .later [] _ _ _ _ said (fun _ h => by cases h) (by kernel_rfl) (fun _ h => by cases h) fnCodes_row_tie rfl ⟨rfl, rfl⟩ (by kernel_rfl) rfl plain (by kernel_rfl)
end Go.Proofs.YtedjnokeknmbaaaDoor.fnCodesDone
