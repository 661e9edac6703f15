/- The law FnStages answers true at every input, and each argument reads behind the call as it read ahead of it; no condition. -/
import Derived.Test.YtighhjkokjpgfaaBase
import Derived.Test.YtighhjkokjpgfaaPst
import Derived.Deep.Cut
import Derived.Deep.CutRange
import Derived.Deep.RegionWith
namespace Go.Proofs.Ytighhjkokjpgfaa.fnStagesDone
open Go.ChangeShapes Go.WideShapes Go.ChangeAt Go.RowKit
open Go.ChangeMaps (open_string shut_string)
set_option linter.unusedVariables false

theorem field_pgr0 (x y : Value) (w : World) : (Instr.field 28 (.agg #[x, y]) 0).run Try.prog w = .ok x w := by kernel_rfl
theorem field_pgr1 (x y : Value) (w : World) : (Instr.field 28 (.agg #[x, y]) 1).run Try.prog w = .ok y w := by kernel_rfl
theorem flt_keep {w w1 : World} {v : Value} {top c : Int} (h : Flt w v top c) (b : Below w.heap.size w w1) : Flt w1 v top c :=
  ⟨fun w2 q => h.1 w2 (on b q), fun w2 q => h.2 w2 (on b q)⟩
theorem drawn_faults {w : World} {base : Nat} {u v : Value} (d1 : Drawn w base u) (d2 : Drawn w base v) :
    ∃ c1 c2, Flt w u 8 c1 ∧ Flt w v 24 c2 ∧ ((if c1 = 0 then c2 else c1) = 0 → ∃ rs qs, (Prs 86 w base u rs ∧ rs.length = 8) ∧ (Prs 86 w base v qs ∧ qs.length = 8) ∧ twoV rs 8 qs = 0) := by
  rcases d2 with ⟨qs, hq, hql⟩ | ⟨a', cap', rfl⟩
  · rcases d1 with ⟨rs, hr, hrl⟩ | ⟨a, cap, rfl⟩
    · exact ⟨_, _, Flt.good hr hrl 8, Flt.good hq hql 24, fun h => ⟨rs, qs, ⟨hr, hrl⟩, ⟨hq, hql⟩, h⟩⟩
    · exact ⟨_, _, Flt.bad a cap 8 (by omega) (by omega), Flt.good hq hql 24, fun h => by simp at h⟩
  · rcases d1 with ⟨rs, hr, hrl⟩ | ⟨a, cap, rfl⟩
    · refine ⟨_, _, Flt.good hr hrl 8, Flt.bad a' cap' 24 (by omega) (by omega), fun h => ?_⟩
      split at h
      · omega
      · next hn => exact absurd h hn
    · exact ⟨_, _, Flt.bad a cap 8 (by omega) (by omega), Flt.bad a' cap' 24 (by omega) (by omega), fun h => by simp at h⟩

set_option maxHeartbeats 4000000 in
theorem walk (a0 : Option Addr) (len0 cap0 : Nat) (z0 : List Int) (w : World) (w0 : IsRow .u8 w a0 len0 cap0 z0) :
    Calls Try.prog 3 #[.slice a0 len0 cap0] w fun e w' => e = .returned (.bool true) ∧ Below w.heap.size w w' := by
  have HR : Hid (IsRow .u8 w a0 len0 cap0 z0) := w0
  have hf0 := field_pgr0
  have hf1 := field_pgr1
  clear w0
  by_cases hbig : 1048576 < (len0 : Int)
  · go_enter Try.func3, Try.ntmps3
    go_wp2
    go_ret
    exact ⟨rfl, Below.refl _ _⟩
  have hb2 : (len0 : Int) ≤ 1048576 := by omega
  clear hbig
  go_enter Try.func3, Try.ntmps3
  go_wp2_with (go_at_call 15; go_in)
  refine (drawCompose_any HR.out).mono ?_
  rintro e w1 ⟨u, v, rfl, d1, d2, b1⟩
  have B1 : Hid (Below w.heap.size w w1) := b1
  obtain ⟨c1, c2, F1, F2, hgood⟩ := drawn_faults d1 d2
  obtain ⟨ua, un, uc, rfl⟩ := d1.shape
  obtain ⟨va, vn, vc, rfl⟩ := d2.shape
  clear b1 HR d1 d2
  by_cases hc : (if c1 = 0 then c2 else c1) = 0
  case neg =>
    generalize hcc : (if c1 = 0 then c2 else c1) = c at *
    have hcb : (c != 0) = true := by simpa using hc
    have fi := impl_composeBad ua va un vn uc vc c1 c2 c w1 F1 F2 hcc.symm hc
    have fs := fun w2 (q : Below w1.heap.size w1 w2) => spec_composeBad ua va un vn uc vc c1 c2 c w2 (flt_keep F1 q) (flt_keep F2 q) hcc.symm hc
    clear hgood F1 F2 hcc hc
    go_wp2_with fail
    refine fi.mono ?_
    rintro e w2 ⟨rfl, b2⟩
    have B2 : Below w1.heap.size w1 (w2.alloc (.cells #[.int .i64 c, .slice none 0 0] 28)) := al b2 _
    have q0 : (w2.alloc (.cells #[.int .i64 c, .slice none 0 0] 28)).cell? ⟨w2.heap.size, 0, none⟩ = some (.int .i64 c) := cell_new rfl
    clear b2 fi
    go_wp2_with fail
    go_region_with (go_at_call 18; refine (fs _ (by first | exact B2 | exact B2.drew)).mono ?_; rintro e w3 ⟨rfl, b3⟩; have q0 := cell_keep b3 q0; first | have B3 := on B2 b3 | have B3 := on B2.drew b3 | have B3 := on B2.drew.drew b3)
    all_goals go_wp2_with fail
    all_goals go_ret
    all_goals exact ⟨by first | rfl | simp, on B1.out (by first | exact B3 | exact B3.drew)⟩
  obtain ⟨rs, qs, ⟨hP, hl⟩, ⟨hQ, kl⟩, htw⟩ := hgood hc
  have HP : Hid (Prs 86 w1 w.heap.size (.slice ua un uc) rs) := hP
  have HQ : Hid (Prs 86 w1 w.heap.size (.slice va vn vc) qs) := hQ
  have fi := impl_compose _ _ rs qs _ _ w1 hP hQ (by omega) (by omega)
  have eL : cmpL rs qs = rs.map (cmpP qs) := if_pos htw
  rw [htw, eL] at fi
  have HLL : Hid ((rs.map (cmpP qs)).length = 8) := by show _ = _; rw [List.length_map]; exact hl
  have fw := fun w2 (q : Below w1.heap.size w1 w2) x k => impl_walkBoth (.slice ua un uc) (.slice va vn vc) rs qs x k w.heap.size w.heap.size w2 (HP.out.keep q) (HQ.out.keep q) (by omega) (by omega)
  have fp := fun (b : Nat) (y : Value) w2 (q : Prs 86 w2 b y (rs.map (cmpP qs))) x k => impl_walkPages y (rs.map (cmpP qs)) x k b w2 q (by have := HLL.out; omega)
  have fsame := fun x k => stages_same htw x k
  have ff := fun (b : Nat) (y : Value) w2 (q : Prs 86 w2 b y (rs.map (cmpP qs))) => impl_fault y (rs.map (cmpP qs)) 24 b w2 q (by have := HLL.out; omega)
  rw [cmp_fault htw] at ff
  have fs := fun w2 (q : Below w1.heap.size w1 w2) => spec_compose (.slice ua un uc) (.slice va vn vc) rs qs w.heap.size w.heap.size w2 (HP.out.keep q) (HQ.out.keep q) (by omega) (by omega)
  rw [htw, eL] at fs
  have fp2 : ∀ (b : Nat) (y : Value) w2 (q : Prs 86 w2 b y (rs.map (cmpP qs))) x k, Calls Try.prog 20 #[y, .int .i64 x, .int .i64 k] w2 fun e w' => e = .returned (.agg #[.int .i64 (wbC rs qs x k), .int .i64 (wbV rs qs x k)]) ∧ Below w2.heap.size w2 w' := by
    intro b y w2 q x k
    rw [(fsame x k).1, (fsame x k).2]
    exact fp b y w2 q x k
  clear fp fsame
  generalize wbC rs qs = C at *
  generalize wbV rs qs = V at *
  generalize rs.map (cmpP qs) = L at *
  clear hP hQ hl kl htw eL hc hgood F1 F2
  go_wp2_with fail
  refine fi.mono ?_
  rintro e w2 ⟨y, rfl, n2, b2⟩
  obtain ⟨ya, yc, hy, _, _, _⟩ := n2.shape
  rw [HLL.out] at hy
  subst hy
  clear fi
  have N3 : Hid (Prs 86 (w2.alloc (.cells #[.int .i64 0, .slice ya 8 yc] 28)) w1.heap.size (.slice ya 8 yc) L) := n2.keep (al (Below.refl _ _) _)
  have B3 : Hid (Below w1.heap.size w1 (w2.alloc (.cells #[.int .i64 0, .slice ya 8 yc] 28))) := al b2 _
  have Q0 : Hid ((w2.alloc (.cells #[.int .i64 0, .slice ya 8 yc] 28)).cell? ⟨w2.heap.size, 0, none⟩ = some (.int .i64 0)) := cell_new rfl
  have Q1 : Hid ((w2.alloc (.cells #[.int .i64 0, .slice ya 8 yc] 28)).cell? ⟨w2.heap.size, 1, none⟩ = some (.slice ya 8 yc)) := cell_new rfl
  clear b2 n2
  go_wp2_with fail
  generalize hw3 : (w2.alloc (.cells #[.int .i64 0, .slice ya 8 yc] 28)) = w3 at *
  have HW3 : Hid (w3.heap.size = w2.heap.size + 1) := by show _ = _; rw [← hw3]; simp
  clear hw3
  go_loopw [6, 7] (fun a _ wr => ∃ t : Nat, t ≤ 22 ∧ a = .int .i64 (3 * (t : Int) - 1) ∧ Below w3.heap.size w3 wr) (fun a _ _ => 22 - ((intOf a + 1) / 3).toNat)
  case atStart => exact ⟨0, Nat.zero_le _, rfl, Below.refl _ _⟩
  case round =>
    obtain ⟨t, ht, rfl, hB⟩ := hrel
    have HB : Hid (Below w3.heap.size w3 wr) := hB
    by_cases hlt : t < 22
    · have hI : 3 * (t : Int) - 1 < 65 := by omega
      have HLT : Hid (t < 22) := hlt
      have hx0 : -1 ≤ 3 * (t : Int) - 1 := by omega
      have HX : Hid (3 * (t : Int) - 1 + 3 = 3 * ((t + 1 : Nat) : Int) - 1) := by show _ = _; omega
      generalize hxx : 3 * (t : Int) - 1 = x at *
      have HXX : Hid (3 * (t : Int) - 1 = x) := hxx
      clear hB hlt hxx
      go_wp2_with fail
      go_loopw [7] (fun c wi => ∃ j : Nat, 1 ≤ j ∧ j ≤ 8 ∧ c = .int .i64 j ∧ Below w3.heap.size w3 wi) (fun c _ => 8 - (intOf c).toNat)
      case atStart => exact ⟨1, Nat.le_refl _, by omega, rfl, HB.out⟩
      case round =>
        obtain ⟨j, hj0, hj, rfl, hBi⟩ := hrel
        have HBi : Hid (Below w3.heap.size w3 _) := hBi
        by_cases hjlt : j < 8
        · have hJ : (j : Int) < 8 := by omega
          have HJ : Hid (j < 8) := hjlt
          have q1 := cell_keep hBi Q1.out
          have BW := on B3.out hBi
          have NW := N3.out.keep hBi
          have hW := fun w2 (q : Below w1.heap.size w1 w2) => fw w2 q x (j : Int)
          have hWp := fun w2 (q : Prs 86 w2 w1.heap.size (.slice ya 8 yc) L) => fp2 _ _ w2 q x (j : Int)
          generalize C x (j : Int) = cc at *
          generalize V x (j : Int) = vv at *
          have BI : Below w3.heap.size w3 _ := hBi
          have NWd : Prs 86 wr.drew w1.heap.size (.slice ya 8 yc) L := NW
          clear hBi hjlt hj0 hj
          go_wp2_with fail
          go_cut [46] from 36 to 46 (fun c wx => c = .bool false ∧ Below w3.heap.size w3 wx)
          case first =>
            go_region_with (first
              | (go_at_call 19; refine (hW _ (by first | exact BW | exact BW.drew | exact BW.drew.drew)).mono ?_; rintro e y5 ⟨rfl, b5⟩; have q1 := cell_keep b5 q1; (first | have BW := on BW b5 | have BW := on BW.drew b5); (first | have BI := on BI b5 | have BI := on BI.drew b5); (first | have NW := Prs.keep NWd b5 | have NW := Prs.keep NW b5))
              | (go_at_call 20; refine (hWp _ (by first | exact NW | exact NWd)).mono ?_; rintro e y5 ⟨rfl, b5⟩; have q1 := cell_keep b5 q1; (first | have BW := on BW b5 | have BW := on BW.drew b5); (first | have BI := on BI b5 | have BI := on BI.drew b5); (first | have NW := Prs.keep NWd b5 | have NW := Prs.keep NW b5)))
            all_goals (go_wp2_with fail; go_meet; exact ⟨by first | rfl | (simp <;> omega), by first | exact BI | exact BI.drew⟩)
          case rest =>
          obtain ⟨rfl, hB9⟩ := hcut
          have HB9 : Hid (Below w3.heap.size w3 _) := hB9
          clear hB9 BI BW NW NWd q1
          go_wp2_with fail
          go_roundw
          case rel => exact ⟨j + 1, by omega, by have := HJ.out; omega, by go_num, HB9.out⟩
          case measure => have := HJ.out; simp [intOf]; omega
        · have hJ : ¬ (j : Int) < 8 := by omega
          clear hBi
          go_wp2_with fail
          go_roundw
          case rel => exact ⟨t + 1, by have := HLT.out; omega, by rw [← HX.out], HBi.out⟩
          case measure => have := HLT.out; have := HXX.out; simp [intOf]; omega
    · have hI : ¬ 3 * (t : Int) - 1 < 65 := by omega
      have q1 := cell_keep hB Q1.out
      have BW := on B3.out hB
      have NW := N3.out.keep hB
      have hFf := fun w2 (q : Prs 86 w2 w1.heap.size (.slice ya 8 yc) L) => ff _ _ w2 q
      have HLL2 : Hid (L.length = 8) := HLL.out
      have NWd : Prs 86 wr.drew w1.heap.size (.slice ya 8 yc) L := NW
      have BI : Below w3.heap.size w3 wr := hB
      clear hB
      go_wp2_with fail
      first
        | go_region_with (first
            | (go_at_call 21; refine (hFf _ (by first | exact NW | exact NWd)).mono ?_; rintro e y5 ⟨rfl, b5⟩; have q1 := cell_keep b5 q1; (first | have BW := on BW b5 | have BW := on BW.drew b5); (first | have BI := on BI b5 | have BI := on BI.drew b5))
            | (go_at_call 18; refine (fs _ (by first | exact BW | exact BW.drew)).mono ?_; rintro e y5 ⟨yy, rfl, n5, b5⟩; obtain ⟨za, zc, hz, _, _, _⟩ := n5.shape; rw [HLL.out] at hz; subst hz; have q1 := cell_keep b5 q1; (first | have BW := on BW b5 | have BW := on BW.drew b5); (first | have BI := on BI b5 | have BI := on BI.drew b5)))
        | fail
      all_goals go_wp2_with fail
      all_goals go_ret
      all_goals exact ⟨by first | rfl | simp, on B1.out (by first | exact BW | exact BW.drew)⟩

set_option maxRecDepth 100000 in
theorem lifted (os : Os) (started : os.Started) (H : Type) (enc : TypeId × Value → H) :
    ReturnsInHanded {} Try.checked os 3 .any (Rows.fnStagesSpec.pre6 enc Try.prog Try.f3 Rows.fnStagesRow.domain false) (Rows.fnStagesSpec.post enc Try.prog Try.f3 false true false false) := by
  refine returnsInHanded_of_change (C := Try.checked) own started (by kernel_rfl) Try.func3
    (ChangeSpec.witness6 (enc := enc) (C := Try.checked) false ⟨#[], #[.slice none 0 0], []⟩ 8 (by kernel_rfl) (by kernel_rfl) (by kernel_rfl) (by kernel_rfl)) ?_
  intro W base args ds gs before hval0 hW hcnd _
  have hval : ∀ (j : Nat) t v, Try.f3.params[j]? = some t → args[j]? = some v → Value.okWide Try.prog W .any base t v := hval0
  have hW' := hW
  obtain ⟨p, q, hA0, hV, rfl, hfz, hnd⟩ := hW
  have hA : DataW.TrodAll enc Try.prog W 0 (fun _ => true) true Try.f3.params.toList args.toList ds p := hA0
  rw [Try.params3] at hA hval
  obtain ⟨v0, vs0, d0, ds0, p0, q0, hargs, rfl, rfl, h0, r0⟩ := trodAll_cons hA
  obtain ⟨rfl, rfl, rfl⟩ := trodAll_nil r0
  obtain rfl : args = #[v0] := by cases args; simp_all
  obtain ⟨rfl, rfl⟩ := trodVars_none hV
  obtain ⟨a0, len0, cap0, rfl⟩ := okWide_slice Try.underlying22 (hval 0 22 v0 rfl rfl)
  have k0 := h0
  have lt0 : ∀ x ∈ p0, x.block < W.heap.size := by obtain ⟨m, hm⟩ := k0; exact DataW.trod_lt m _ _ _ hm
  obtain ⟨z0, w0⟩ : ∃ zs, IsRow .u8 W a0 len0 cap0 zs := by
    obtain ⟨fuel, hf⟩ := h0
    rcases open_ints Try.underlying22 Try.underlying5 (by kernel_rfl) hf with ⟨hcs, _⟩ | ⟨x, l, c, zs, hcs, _, hl, hm, hz, _, hcell, hwz⟩
    · simp [Value.cells] at hcs
      obtain ⟨rfl, rfl, rfl⟩ := hcs
      exact ⟨[], .inl ⟨rfl, rfl, rfl, rfl⟩⟩
    · simp [Value.cells] at hcs
      obtain ⟨rfl, rfl, rfl⟩ := hcs
      exact ⟨_, IsRow.of_all hl hm (by simpa using hz) hcell hwz⟩
  clear hA0 hval0
  refine (walk a0 len0 cap0 z0 W w0).mono fun e W' ⟨he, bel⟩ => ?_
  subst he
  exact ⟨_, rfl, _, _, _, [], _, [], hW', trodAll_mk1 (shut_bool Try.underlying4 _), (trodAll_cons_mk (Below.trod laidOut (by kernel_rfl) (of_decide_eq_true (by kernel_rfl)) k0 bel lt0) trodAll_mk0), rfl, bel.frame _, fun h => by cases h⟩

theorem over : Rows.fnStagesRow.holds Try.pinned (OpenSpec.ofChange Rows.fnStagesSpec) :=
  OpenClaim.holds_of_wide 3 Try.f3 rfl rfl rfl rfl rfl rfl rfl ⟨rfl, rfl, rfl, rfl, rfl⟩ rfl rfl rfl rfl rfl (by kernel_rfl) Try.func3 (by kernel_rfl)
    (of_decide_eq_true (by kernel_rfl)) (by unfold Func.isWrapper; first | (rw [if_pos (by decide +kernel)]; kernel_rfl) | (rw [if_neg (by decide +kernel)]; exact ⟨rfl, rfl⟩))
    (fun os started H enc _ => lifted os started H enc)

theorem proved : Rows.FnStagesSaid := over
end Go.Proofs.Ytighhjkokjpgfaa.fnStagesDone
