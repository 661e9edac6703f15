/- The law FnEntries answers true at every input, and each argument reads behind the call as it read ahead of it; no condition. -/
import Derived.Test.YtmkhjbiocjomlaaBase
import Derived.Test.YtmkhjbiocjomlaaPdr
import Derived.Deep.Cut
import Derived.Deep.CutRange
import Derived.Deep.RegionWith
namespace Go.Proofs.Ytmkhjbiocjomlaa.fnEntriesDone
open Go.ChangeShapes Go.WideShapes Go.ChangeAt Go.RowKit
open Go.ChangeMaps (open_string shut_string)
set_option linter.unusedVariables false

theorem field_pr0 (x y z : Value) (w : World) : (Instr.field 39 (.agg #[x, y, z]) 0).run Try.prog w = .ok x w := by kernel_rfl
theorem field_pr1 (x y z : Value) (w : World) : (Instr.field 39 (.agg #[x, y, z]) 1).run Try.prog w = .ok (.agg #[y, z]) w := by kernel_rfl

set_option maxHeartbeats 4000000 in
theorem walk (a0 : Option Addr) (len0 cap0 : Nat) (z0 : List Int) (w : World) (w0 : IsRow .u8 w a0 len0 cap0 z0) :
    Calls Try.prog 4 #[.slice a0 len0 cap0] w fun e w' => e = .returned (.bool true) ∧ Below w.heap.size w w' := by
  have HR : Hid (IsRow .u8 w a0 len0 cap0 z0) := w0
  have hf0 := field_pr0
  have hf1 := field_pr1
  have hf2 := field_code
  clear w0
  by_cases hbig : 1048576 < (len0 : Int)
  · go_enter Try.func4, Try.ntmps4
    go_wp2
    go_ret
    exact ⟨rfl, Below.refl _ _⟩
  have hb2 : (len0 : Int) ≤ 1048576 := by omega
  clear hbig
  go_enter Try.func4, Try.ntmps4
  go_wp2_with (go_at_call 14; go_in)
  refine (drawEntryOf_any HR.out).mono ?_
  rintro e w1 ⟨z, rfl, b1⟩
  have B1 : Hid (Below w.heap.size w w1) := b1
  clear b1
  have fi := fun w => impl_entryOf z w
  have fs := fun w => spec_entryOf z w
  cases hw : isW z
  case false =>
    rw [show entC z = 3 by rw [entC, hw]; rfl, show entE z = (0, 0) by rw [entE, hw]; rfl] at fi fs
    simp only at fi fs
    clear hw
    go_wp2_with fail
    refine (fi _).mono ?_
    rintro e w2 ⟨rfl, b2⟩
    have B2 : Below w.heap.size w (w2.alloc (.cells #[.int .i64 3, .int .i64 0, .int .i64 0] 39)) := al (on B1.out b2) _
    have q0 : (w2.alloc (.cells #[.int .i64 3, .int .i64 0, .int .i64 0] 39)).cell? ⟨w2.heap.size, 0, none⟩ = some (.int .i64 3) := cell_new rfl
    clear b2 fi
    go_wp2_with fail
    go_cut [24] from 14 to 24 (fun c wx => c = .bool false ∧ Below w.heap.size w wx ∧ wx.cell? ⟨w2.heap.size, 0, none⟩ = some (.int .i64 3))
    case first =>
      first
        | go_region_with (go_at_call 23; refine (fs _).mono ?_; rintro e w3 ⟨rfl, b3⟩; have q0 := cell_keep b3 q0; first | have B3 := on B2 b3 | have B3 := on B2.drew b3 | have B3 := on B2.drew.drew b3)
        | fail
      all_goals (go_wp2_with fail; go_meet; exact ⟨rfl, by first | exact B3 | exact B3.drew, q0⟩)
    case rest =>
    obtain ⟨rfl, hB3, q0⟩ := hcut
    have HB : Hid (Below w.heap.size w _) := hB3
    clear hB3 fs B2
    go_wp2_with fail
    refine (drawEntryWord_any (HR.out.below HB.out)).mono ?_
    rintro e w4 ⟨a, b, rfl, b4⟩
    have B4 : Hid (Below w.heap.size w w4) := on HB.out b4
    clear b4 HB
    have fe := fun w => impl_entryWord a b w
    have fm := fun w => spec_entryWord a b w
    by_cases h0 : ewC a b = 0
    case neg =>
      generalize ewC a b = c5 at *
      generalize ewV a b = z5 at *
      have hcb : (c5 != 0) = true := by simpa using h0
      clear h0
      go_wp2_with fail
      refine (fe _).mono ?_
      rintro e w5 ⟨rfl, b5⟩
      have q0 := cell_push (.cells #[.int .i64 c5, .int .i64 z5] 31) (cell_keep b5 (cell_new (i := 0) rfl))
      have q1 := cell_push (.cells #[.int .i64 c5, .int .i64 z5] 31) (cell_keep b5 (cell_new (i := 1) rfl))
      have p0 : (w5.alloc (.cells #[.int .i64 c5, .int .i64 z5] 31)).cell? ⟨w5.heap.size, 0, none⟩ = some (.int .i64 c5) := cell_new rfl
      have B5 : Below w.heap.size w (w5.alloc (.cells #[.int .i64 c5, .int .i64 z5] 31)) := al (on (al B4.out _) b5) _
      clear b5 fe
      go_wp2_with fail
      first
        | go_region_with (go_at_call 26; refine (fm _).mono ?_; rintro e w6 ⟨rfl, b6⟩; have p0 := cell_keep b6 p0; first | have B6 := on B5 b6 | have B6 := on B5.drew b6 | have B6 := on B5.drew.drew b6)
        | fail
      all_goals go_wp2_with fail
      all_goals go_ret
      all_goals exact ⟨by first | rfl | simp, by first | exact B6 | exact B6.drew⟩
    obtain ⟨k1, k2⟩ := word_ent h0
    have fo := fun w => impl_entryOf (ewV a b) w
    rw [show entC (ewV a b) = 0 by rw [entC, k1]; rfl, show entE (ewV a b) = (a, b) by rw [entE, k1, k2]; rfl] at fo
    simp only at fo
    rw [h0] at fe
    clear fm k1 k2 h0
    generalize ewV a b = z5 at *
    go_wp2_with fail
    refine (fe _).mono ?_
    rintro e w5 ⟨rfl, b5⟩
    have q0 := cell_push (.cells #[.int .i64 0, .int .i64 z5] 31) (cell_keep b5 (cell_new (i := 0) rfl))
    have q1 := cell_push (.cells #[.int .i64 0, .int .i64 z5] 31) (cell_keep b5 (cell_new (i := 1) rfl))
    have p0 : (w5.alloc (.cells #[.int .i64 0, .int .i64 z5] 31)).cell? ⟨w5.heap.size, 0, none⟩ = some (.int .i64 0) := cell_new rfl
    have p1 : (w5.alloc (.cells #[.int .i64 0, .int .i64 z5] 31)).cell? ⟨w5.heap.size, 1, none⟩ = some (.int .i64 z5) := cell_new rfl
    have B5 : Below w.heap.size w (w5.alloc (.cells #[.int .i64 0, .int .i64 z5] 31)) := al (on (al B4.out _) b5) _
    clear b5 fe
    go_wp2_with fail
    first
      | go_region_with (go_at_call 22; refine (fo _).mono ?_; rintro e w6 ⟨rfl, b6⟩; have p0 := cell_keep b6 p0; have p1 := cell_keep b6 p1; have q0 := cell_keep b6 q0; have q1 := cell_keep b6 q1; first | have B5 := on B5 b6 | have B5 := on B5.drew b6 | have B5 := on B5.drew.drew b6)
      | fail
    all_goals go_wp2_with fail
    all_goals go_ret
    all_goals exact ⟨by first | rfl | simp, by first | exact B5 | exact B5.drew⟩
  case true =>
    obtain ⟨k1, k2, k3, k4⟩ := ent_word hw
    rw [show entC z = 0 by rw [entC, hw]; rfl, show entE z = entP z by rw [entE, hw]; rfl] at fi
    have fw := fun w => impl_entryWord (entP z).1 (entP z).2 w
    rw [k1] at fw
    have fb := fun w => impl_entryOf (ewV (entP z).1 (entP z).2) w
    rw [show entC (ewV (entP z).1 (entP z).2) = 0 by rw [entC, k3]; rfl, show entE (ewV (entP z).1 (entP z).2) = entP z by rw [entE, k3, k4]; rfl] at fb
    clear fs hw k1 k3 k4
    generalize ewV (entP z).1 (entP z).2 = V at *
    generalize (entP z).1 = p at *
    generalize (entP z).2 = q at *
    have hV : ¬ z < V := by omega
    go_wp2_with fail
    refine (fi _).mono ?_
    rintro e w2 ⟨rfl, b2⟩
    have B2 : Below w.heap.size w (w2.alloc (.cells #[.int .i64 0, .int .i64 p, .int .i64 q] 39)) := al (on B1.out b2) _
    have q0 : (w2.alloc (.cells #[.int .i64 0, .int .i64 p, .int .i64 q] 39)).cell? ⟨w2.heap.size, 0, none⟩ = some (.int .i64 0) := cell_new rfl
    have q1 : (w2.alloc (.cells #[.int .i64 0, .int .i64 p, .int .i64 q] 39)).cell? ⟨w2.heap.size, 1, none⟩ = some (.int .i64 p) := cell_new rfl
    have q2 : (w2.alloc (.cells #[.int .i64 0, .int .i64 p, .int .i64 q] 39)).cell? ⟨w2.heap.size, 2, none⟩ = some (.int .i64 q) := cell_new rfl
    clear b2 fi
    go_wp2_with fail
    go_cut [24] from 14 to 24 (fun c wx => c = .bool false ∧ Below w.heap.size w wx ∧ wx.cell? ⟨w2.heap.size, 0, none⟩ = some (.int .i64 0) ∧ wx.cell? ⟨w2.heap.size, 1, none⟩ = some (.int .i64 p) ∧ wx.cell? ⟨w2.heap.size, 2, none⟩ = some (.int .i64 q))
    case first =>
      first
        | go_region_with (fail)
        | fail
      all_goals (go_wp2_with fail; go_meet; exact ⟨rfl, by first | exact B2 | exact B2.drew, q0, q1, q2⟩)
    case rest =>
    obtain ⟨rfl, hB3, q0, q1, q2⟩ := hcut
    have HB3 : Hid (Below w.heap.size w wc) := hB3
    clear hB3 B2
    go_wp2_with fail
    refine (fw _).mono ?_
    rintro e w3 ⟨rfl, b3⟩
    have q0 := cell_push (.cells #[.int .i64 0, .int .i64 V] 31) (cell_keep b3 q0)
    have q1 := cell_push (.cells #[.int .i64 0, .int .i64 V] 31) (cell_keep b3 q1)
    have q2 := cell_push (.cells #[.int .i64 0, .int .i64 V] 31) (cell_keep b3 q2)
    have p0 : (w3.alloc (.cells #[.int .i64 0, .int .i64 V] 31)).cell? ⟨w3.heap.size, 0, none⟩ = some (.int .i64 0) := cell_new rfl
    have p1 : (w3.alloc (.cells #[.int .i64 0, .int .i64 V] 31)).cell? ⟨w3.heap.size, 1, none⟩ = some (.int .i64 V) := cell_new rfl
    have B3 : Below w.heap.size w (w3.alloc (.cells #[.int .i64 0, .int .i64 V] 31)) := al (on HB3.out b3) _
    clear b3 fw HB3
    go_wp2_with fail
    go_cut [48] from 31 to 48 (fun c wx => c = .bool false ∧ Below w.heap.size w wx)
    case first =>
      first
        | go_region_with (go_at_call 22; refine (fb _).mono ?_; rintro e w6 ⟨rfl, b6⟩; have p0 := cell_keep b6 p0; have p1 := cell_keep b6 p1; have q0 := cell_keep b6 q0; have q1 := cell_keep b6 q1; have q2 := cell_keep b6 q2; first | have B3 := on B3 b6 | have B3 := on B3.drew b6 | have B3 := on B3.drew.drew b6)
        | fail
      all_goals (go_wp2_with fail; go_meet; exact ⟨by first | rfl | (simp <;> omega), by first | exact B3 | exact B3.drew⟩)
    case rest =>
    obtain ⟨rfl, hB9⟩ := hcut
    have HB : Hid (Below w.heap.size w _) := hB9
    clear hB9 B3 q0 q1 q2 p0 p1 fb
    go_wp2_with fail
    refine (drawEntryWord_any (HR.out.below HB.out)).mono ?_
    rintro e w4 ⟨a, b, rfl, b4⟩
    have B4 : Hid (Below w.heap.size w w4) := on HB.out b4
    clear b4 HB
    have fe := fun w => impl_entryWord a b w
    have fm := fun w => spec_entryWord a b w
    by_cases h0 : ewC a b = 0
    case neg =>
      generalize ewC a b = c5 at *
      generalize ewV a b = z5 at *
      have hcb : (c5 != 0) = true := by simpa using h0
      clear h0
      go_wp2_with fail
      refine (fe _).mono ?_
      rintro e w5 ⟨rfl, b5⟩
      have q0 := cell_push (.cells #[.int .i64 c5, .int .i64 z5] 31) (cell_keep b5 (cell_new (i := 0) rfl))
      have q1 := cell_push (.cells #[.int .i64 c5, .int .i64 z5] 31) (cell_keep b5 (cell_new (i := 1) rfl))
      have p0 : (w5.alloc (.cells #[.int .i64 c5, .int .i64 z5] 31)).cell? ⟨w5.heap.size, 0, none⟩ = some (.int .i64 c5) := cell_new rfl
      have B5 : Below w.heap.size w (w5.alloc (.cells #[.int .i64 c5, .int .i64 z5] 31)) := al (on (al B4.out _) b5) _
      clear b5 fe
      go_wp2_with fail
      first
        | go_region_with (go_at_call 26; refine (fm _).mono ?_; rintro e w6 ⟨rfl, b6⟩; have p0 := cell_keep b6 p0; first | have B6 := on B5 b6 | have B6 := on B5.drew b6 | have B6 := on B5.drew.drew b6)
        | fail
      all_goals go_wp2_with fail
      all_goals go_ret
      all_goals exact ⟨by first | rfl | simp, by first | exact B6 | exact B6.drew⟩
    obtain ⟨k1, k2⟩ := word_ent h0
    have fo := fun w => impl_entryOf (ewV a b) w
    rw [show entC (ewV a b) = 0 by rw [entC, k1]; rfl, show entE (ewV a b) = (a, b) by rw [entE, k1, k2]; rfl] at fo
    simp only at fo
    rw [h0] at fe
    clear fm k1 k2 h0
    generalize ewV a b = z5 at *
    go_wp2_with fail
    refine (fe _).mono ?_
    rintro e w5 ⟨rfl, b5⟩
    have q0 := cell_push (.cells #[.int .i64 0, .int .i64 z5] 31) (cell_keep b5 (cell_new (i := 0) rfl))
    have q1 := cell_push (.cells #[.int .i64 0, .int .i64 z5] 31) (cell_keep b5 (cell_new (i := 1) rfl))
    have p0 : (w5.alloc (.cells #[.int .i64 0, .int .i64 z5] 31)).cell? ⟨w5.heap.size, 0, none⟩ = some (.int .i64 0) := cell_new rfl
    have p1 : (w5.alloc (.cells #[.int .i64 0, .int .i64 z5] 31)).cell? ⟨w5.heap.size, 1, none⟩ = some (.int .i64 z5) := cell_new rfl
    have B5 : Below w.heap.size w (w5.alloc (.cells #[.int .i64 0, .int .i64 z5] 31)) := al (on (al B4.out _) b5) _
    clear b5 fe
    go_wp2_with fail
    first
      | go_region_with (go_at_call 22; refine (fo _).mono ?_; rintro e w6 ⟨rfl, b6⟩; have p0 := cell_keep b6 p0; have p1 := cell_keep b6 p1; have q0 := cell_keep b6 q0; have q1 := cell_keep b6 q1; first | have B5 := on B5 b6 | have B5 := on B5.drew b6 | have B5 := on B5.drew.drew b6)
      | fail
    all_goals go_wp2_with fail
    all_goals go_ret
    all_goals exact ⟨by first | rfl | simp, by first | exact B5 | exact B5.drew⟩

set_option maxRecDepth 100000 in
theorem lifted (os : Os) (started : os.Started) (H : Type) (enc : TypeId × Value → H) :
    ReturnsInHanded {} Try.checked os 4 .any (Rows.fnEntriesSpec.pre6 enc Try.prog Try.f4 Rows.fnEntriesRow.domain false) (Rows.fnEntriesSpec.post enc Try.prog Try.f4 false true false false) := by
  refine returnsInHanded_of_change (C := Try.checked) own started (by kernel_rfl) Try.func4
    (ChangeSpec.witness6 (enc := enc) (C := Try.checked) false ⟨#[], #[.slice none 0 0], []⟩ 8 (by kernel_rfl) (by kernel_rfl) (by kernel_rfl) (by kernel_rfl)) ?_
  intro W base args ds gs before hval0 hW hcnd _
  have hval : ∀ (j : Nat) t v, Try.f4.params[j]? = some t → args[j]? = some v → Value.okWide Try.prog W .any base t v := hval0
  have hW' := hW
  obtain ⟨p, q, hA0, hV, rfl, hfz, hnd⟩ := hW
  have hA : DataW.TrodAll enc Try.prog W 0 (fun _ => true) true Try.f4.params.toList args.toList ds p := hA0
  rw [Try.params4] at hA hval
  obtain ⟨v0, vs0, d0, ds0, p0, q0, hargs, rfl, rfl, h0, r0⟩ := trodAll_cons hA
  obtain ⟨rfl, rfl, rfl⟩ := trodAll_nil r0
  obtain rfl : args = #[v0] := by cases args; simp_all
  obtain ⟨rfl, rfl⟩ := trodVars_none hV
  obtain ⟨a0, len0, cap0, rfl⟩ := okWide_slice Try.underlying22 (hval 0 22 v0 rfl rfl)
  have k0 := h0
  have lt0 : ∀ x ∈ p0, x.block < W.heap.size := by obtain ⟨m, hm⟩ := k0; exact DataW.trod_lt m _ _ _ hm
  obtain ⟨z0, w0⟩ : ∃ zs, IsRow .u8 W a0 len0 cap0 zs := by
    obtain ⟨fuel, hf⟩ := h0
    rcases open_ints Try.underlying22 Try.underlying5 (by kernel_rfl) hf with ⟨hcs, _⟩ | ⟨x, l, c, zs, hcs, _, hl, hm, hz, _, hcell, hwz⟩
    · simp [Value.cells] at hcs
      obtain ⟨rfl, rfl, rfl⟩ := hcs
      exact ⟨[], .inl ⟨rfl, rfl, rfl, rfl⟩⟩
    · simp [Value.cells] at hcs
      obtain ⟨rfl, rfl, rfl⟩ := hcs
      exact ⟨_, IsRow.of_all hl hm (by simpa using hz) hcell hwz⟩
  clear hA0 hval0
  refine (walk a0 len0 cap0 z0 W w0).mono fun e W' ⟨he, bel⟩ => ?_
  subst he
  exact ⟨_, rfl, _, _, _, [], _, [], hW', trodAll_mk1 (shut_bool Try.underlying4 _), (trodAll_cons_mk (Below.trod laidOut (by kernel_rfl) (of_decide_eq_true (by kernel_rfl)) k0 bel lt0) trodAll_mk0), rfl, bel.frame _, fun h => by cases h⟩

theorem over : Rows.fnEntriesRow.holds Try.pinned (OpenSpec.ofChange Rows.fnEntriesSpec) :=
  OpenClaim.holds_of_wide 4 Try.f4 rfl rfl rfl rfl rfl rfl rfl ⟨rfl, rfl, rfl, rfl, rfl⟩ rfl rfl rfl rfl rfl (by kernel_rfl) Try.func4 (by kernel_rfl)
    (of_decide_eq_true (by kernel_rfl)) (by unfold Func.isWrapper; first | (rw [if_pos (by decide +kernel)]; kernel_rfl) | (rw [if_neg (by decide +kernel)]; exact ⟨rfl, rfl⟩))
    (fun os started H enc _ => lifted os started H enc)

theorem proved : Rows.FnEntriesSaid := over
end Go.Proofs.Ytmkhjbiocjomlaa.fnEntriesDone
