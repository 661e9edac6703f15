/- The law FnMemories answers true at every input, and each argument reads behind the call as it read ahead of it; no condition. -/
import Derived.Test.YtedjnokeknmbaaaBase
import Derived.Test.YtedjnokeknmbaaaMlaw
namespace Go.Proofs.Ytedjnokeknmbaaa.fnMemoriesDone
open Go.ChangeShapes Go.WideShapes Go.ChangeAt Go.RowKit
open Go.ChangeMaps (open_string shut_string)
set_option linter.unusedVariables false

set_option maxHeartbeats 4000000 in
theorem walk (a0 : Option Addr) (len0 cap0 : Nat) (z0 : List Int) (w : World) (w0 : IsRow .u8 w a0 len0 cap0 z0) :
    Calls Try.prog 3 #[.slice a0 len0 cap0] w fun e w' => e = .returned (.bool true) ∧ Below w.heap.size w w' := by
  have HR : Hid (IsRow .u8 w a0 len0 cap0 z0) := w0
  have hf0 := field_mem0
  clear w0
  by_cases hbig : 1048576 < (len0 : Int)
  · go_enter Try.func3, Try.ntmps3
    go_wp2
    go_ret
    exact ⟨rfl, Below.refl _ _⟩
  have hb2 : (len0 : Int) ≤ 1048576 := by omega
  clear hbig
  go_enter Try.func3, Try.ntmps3
  go_wp2_with (go_at_call 14; go_in)
  refine (drawWrite_any HR.out).mono ?_
  rintro e w1 ⟨v, x, y, rfl, d1, hx, hy, b1⟩
  have B1 : Hid (Below _ w w1) := b1
  clear b1 HR hy
  unfold isWide at hx
  rcases d1 with ⟨zs, hN, hl⟩ | ⟨av, n, cv, rfl, hn, hf⟩
  case inr =>
    have fi := fun w => impl_writeBad av n cv x y w hn hf
    have fs := fun w => spec_writeBad av n cv x y w hn hf
    clear hn hf hx
    go_wp2_with fail
    refine (fi _).mono ?_
    rintro e w2 ⟨rfl, b2⟩
    have B2 : Below w.heap.size w (w2.alloc (.cells #[.int .i64 1, .slice none 0 0] 28)) := al (on B1.out b2) _
    have q0 : (w2.alloc (.cells #[.int .i64 1, .slice none 0 0] 28)).cell? ⟨w2.heap.size, 0, none⟩ = some (.int .i64 1) := cell_new rfl
    clear b2 fi
    go_wp2_with fail
    go_region_with (go_at_call 17; refine (fs _).mono ?_; rintro e w3 ⟨rfl, b3⟩; have q0 := cell_keep b3 q0; first | have B3 := on B2 b3 | have B3 := on B2.drew b3 | have B3 := on B2.drew.drew b3)
    all_goals go_wp2_with fail
    all_goals go_ret
    all_goals exact ⟨by first | rfl | simp, by first | exact B3 | exact B3.drew⟩
  have fi := fun w b h => impl_write v zs x y b w h hx.1 hx.2
  have fs := fun w b h => spec_write v zs x y b w h hx.1 hx.2
  have HN : Hid (Nums w1 _ v zs) := hN
  by_cases hc0 : loadC zs x [y] = 0
  case neg =>
    generalize loadC zs x [y] = c at *
    generalize loadZ zs x [y] = Z at *
    have hcb : (c != 0) = true := by simpa using hc0
    obtain ⟨av, cv, rfl, _, _, _⟩ := hN.shape
    clear hN hl hc0
    go_wp2_with fail
    refine (fi _ _ HN.out).mono ?_
    rintro e w2 ⟨u, rfl, n2, b2⟩
    obtain ⟨au, cu, rfl, _, _, _⟩ := n2.shape
    have B2 : Below w.heap.size w (w2.alloc (.cells #[.int .i64 c, .slice au Z.length cu] 28)) := al (on B1.out b2) _
    have q0 : (w2.alloc (.cells #[.int .i64 c, .slice au Z.length cu] 28)).cell? ⟨w2.heap.size, 0, none⟩ = some (.int .i64 c) := cell_new rfl
    have N2 : Nums (w2.alloc (.cells #[.int .i64 c, .slice au Z.length cu] 28)) w.heap.size (.slice av zs.length cv) zs := HN.out.keep (on b2 (al (Below.refl _ _) _))
    have N2d : Nums (w2.alloc (.cells #[.int .i64 c, .slice au Z.length cu] 28)).drew w.heap.size (.slice av zs.length cv) zs := N2
    clear b2 fi n2
    go_wp2_with fail
    go_region_with (go_at_call 17; refine (fs _ _ (by first | exact N2 | exact N2d)).mono ?_; rintro e w3 ⟨u3, rfl, n3, b3⟩; have q0 := cell_keep b3 q0; first | have B3 := on B2 b3 | have B3 := on B2.drew b3 | have B3 := on B2.drew.drew b3)
    all_goals go_wp2_with fail
    all_goals go_ret
    all_goals exact ⟨by first | rfl | simp, by first | exact B3 | exact B3.drew⟩
  obtain ⟨hm, hcan⟩ := loadC_zero hc0
  rw [List.length_singleton, can_one] at hcan
  obtain ⟨i0, i1⟩ : 0 ≤ x ∧ x ≤ (zs.length : Int) - 1 := by simpa [inB] using hcan
  obtain ⟨k, rfl⟩ : ∃ k : Nat, x = k := ⟨x.toNat, by omega⟩
  have eZ : loadZ zs k [y] = zs.set k (wd y) := by
    have hc : canB zs.length k [y].length = true := by rw [List.length_singleton, can_one]; exact hcan
    simp only [loadZ, hm, hc]; rfl
  have fl := fun w u b b2 h hy => impl_load v zs k u [y] b b2 w h hy hx.1 hx.2
  rw [eZ, hc0] at fi fl
  clear fs
  have HM : Hid (memV (zs.set k (wd y)) = 0) := memV_set hm k y
  obtain ⟨mm0, mm1, mm2, _⟩ := memV_len hm
  have HK : Hid (k < zs.length) := by show _ < _; omega
  have HS : Hid ((zs.set k (wd y)).getD k 0 = wd y) := getD_set_same zs k (wd y) HK.out
  have HO : Hid (∀ j, k ≠ j → (zs.set k (wd y)).getD j 0 = zs.getD j 0) := fun j h => getD_set_other zs k j (wd y) h
  have HLZ : Hid ((zs.set k (wd y)).length = zs.length) := List.length_set
  obtain ⟨av, cv, rfl, _, _, hgv⟩ := hN.shape
  obtain ⟨gv, rfl⟩ := hgv (by omega)
  have hlI : (zs.length : Int) ≤ 200 := by omega
  generalize zs.set k (wd y) = Z at *
  obtain ⟨n, hn⟩ : ∃ n, zs.length = n := ⟨_, rfl⟩
  rw [hn] at HN fi fl hlI HK HLZ
  have HNL : Hid (zs.length = n ∧ n ≤ 200) := ⟨hn, by omega⟩
  have hki : (k : Int) < (n : Int) := by have := HK.out; omega
  rw [hn]
  clear hc0 hm hcan i0 i1 eZ mm0 mm1 mm2 hl hN hgv hn hx
  go_wp2_with fail
  refine (fi _ _ HN.out).mono ?_
  rintro e w2 ⟨u, rfl, n2, b2⟩
  obtain ⟨au, cu, hu, _, _, _⟩ := n2.shape
  rw [HLZ.out] at hu
  subst hu
  have N2 : Hid (Nums (w2.alloc (.cells #[.int .i64 0, .slice au n cu] 28)) w1.heap.size (.slice au n cu) Z) := n2.keep (al (Below.refl _ _) _)
  have M2 : Hid (Nums (w2.alloc (.cells #[.int .i64 0, .slice au n cu] 28)) w.heap.size (.slice (some ⟨gv, 0, none⟩) n cv) zs) := HN.out.keep (on b2 (al (Below.refl _ _) _))
  have B2 : Hid (Below w.heap.size w (w2.alloc (.cells #[.int .i64 0, .slice au n cu] 28))) := al (on B1.out b2) _
  have Q0 : Hid ((w2.alloc (.cells #[.int .i64 0, .slice au n cu] 28)).cell? ⟨w2.heap.size, 0, none⟩ = some (.int .i64 0)) := cell_new rfl
  have Q1 : Hid ((w2.alloc (.cells #[.int .i64 0, .slice au n cu] 28)).cell? ⟨w2.heap.size, 1, none⟩ = some (.slice au n cu)) := cell_new rfl
  clear b2 fi n2
  go_wp2_with fail
  generalize hw3 : (w2.alloc (.cells #[.int .i64 0, .slice au n cu] 28)) = w3 at *
  have HW3 : Hid (w3.heap.size = w2.heap.size + 1) := by show _ = _; rw [← hw3]; simp
  clear hw3
  go_loopw [7, 8] (fun c _ wr => ∃ j : Nat, j ≤ n ∧ c = .int .i64 j ∧ Below w3.heap.size w3 wr) (fun c _ _ => n - (intOf c).toNat)
  case atStart => exact ⟨0, Nat.zero_le _, rfl, Below.refl _ _⟩
  case round =>
    obtain ⟨j, hj, rfl, hB⟩ := hrel
    have HB : Hid (Below _ w3 wr) := hB
    have q0 := cell_keep hB Q0.out
    have q1 := cell_keep hB Q1.out
    have s3 : w2.heap.size < wr.heap.size := block_of_cell q0
    by_cases hlt : j < n
    · have hJ : (j : Int) < (n : Int) := by omega
      have hji : -9223372036854775808 ≤ (j : Int) ∧ (j : Int) ≤ 9223372036854775807 := by omega
      have HLT : Hid (j < n) := hlt
      have fr := fun w b h => impl_read (.slice au n cu) Z j b w h hji.1 hji.2
      have e1 : readC Z j = 0 := by
        have : inB Z.length (j : Int) = true := by have := HLZ.out; simp [inB]; omega
        simp [readC, HM.out, this]
      have e2 : readX Z j = Z.getD j 0 := by
        have : inB Z.length (j : Int) = true := by have := HLZ.out; simp [inB]; omega
        simp only [readX, HM.out, this, if_true, Int.toNat_natCast]
      rw [e1, e2] at fr
      have m1 := cell_keep hB (M2.out.cell HNL.out.1.symm j hlt)
      have gvs : gv < wr.heap.size := block_of_cell m1
      clear e1 e2 hji hB hlt
      by_cases hjk : k = j
      · subst hjk
        rw [HS.out] at fr
        generalize zs.getD k 0 = z at *
        go_wp2_with fail
        refine (fr _ _ (N2.out.keep HB.out)).mono ?_
        rintro e w4 ⟨rfl, b4⟩
        have q0 := cell_keep b4 q0
        have q1 := cell_keep b4 q1
        have m1 := cell_keep b4 m1
        have gvs : gv < w4.heap.size := block_of_cell m1
        have B4 : Hid (Below _ w3 w4) := on HB.out b4
        clear b4 fr
        go_wp2_with fail
        go_quiet ((go_at_call 19; exact Calls.quiet_of_same (impl_wrap _ _)))
        clear q0 q1 m1
        go_wp2_with fail
        go_roundw
        case rel => exact ⟨k + 1, by have := HLT.out; omega, by go_num, dr (al B4.out _) _⟩
        case measure => have := HLT.out; simp [intOf]; omega
      · have hne : ((j : Int) != (k : Int)) = true := by simp; omega
        have heq : ((j : Int) == (k : Int)) = false := by simp; omega
        rw [HO.out j hjk] at fr
        generalize zs.getD j 0 = z at *
        clear hjk
        go_wp2_with fail
        refine (fr _ _ (N2.out.keep HB.out)).mono ?_
        rintro e w4 ⟨rfl, b4⟩
        have q0 := cell_keep b4 q0
        have q1 := cell_keep b4 q1
        have m1 := cell_keep b4 m1
        have gvs : gv < w4.heap.size := block_of_cell m1
        have B4 : Hid (Below _ w3 w4) := on HB.out b4
        clear b4 fr
        go_wp2_with fail
        go_quiet ((go_at_call 19; exact Calls.quiet_of_same (impl_wrap _ _)))
        clear q0 q1 m1
        go_wp2_with fail
        go_roundw
        case rel => exact ⟨j + 1, by have := HLT.out; omega, by go_num, dr (al B4.out _) _⟩
        case measure => have := HLT.out; simp [intOf]; omega
    · have hJ : ¬ (j : Int) < (n : Int) := by omega
      clear hB
      go_wp2_with fail
      refine (fl _ _ w.heap.size 0 (M2.out.keep (on HB.out (al (Below.refl _ _) _))) (Nums.lit _ _ _ (Nat.zero_le _))).mono ?_
      rintro e w4 ⟨u4, rfl, n4, b4⟩
      obtain ⟨a4, c4, hu4, _, _, _⟩ := n4.shape
      rw [HLZ.out] at hu4
      subst hu4
      have B4 : Hid (Below _ w3 w4) := on (on HB.out (al (Below.refl _ _) _)) b4
      have N4 : Hid (Nums w4 _ _ Z) := n4
      have q0 := cell_keep B4.out Q0.out
      have q1 := cell_keep B4.out Q1.out
      have s4 : w2.heap.size < w4.heap.size := block_of_cell q0
      have fm := fun w b h => impl_memFault (.slice au n cu) Z b w h
      rw [HM.out] at fm
      clear b4 n4 fl
      go_wp2_with fail
      refine (fm _ _ (N2.out.keep (on B4.out (al (Below.refl _ _) _)))).mono ?_
      rintro e wx ⟨rfl, rfl⟩
      go_wp2_with fail
      refine (lw_nums _ _ _ _ _ _ (N4.out.keep (al (Below.refl _ _) _)) (N2.out.keep (on B4.out (al (Below.refl _ _) _)))).mono ?_
      rintro e w5 ⟨rfl, b5⟩
      go_wp2_with fail
      go_ret
      exact ⟨rfl, on (al (on B2.out B4.out) _) b5⟩

set_option maxRecDepth 100000 in
theorem lifted (os : Os) (started : os.Started) (H : Type) (enc : TypeId × Value → H) :
    ReturnsInHanded {} Try.checked os 3 .any (Rows.fnMemoriesSpec.pre6 enc Try.prog Try.f3 Rows.fnMemoriesRow.domain false) (Rows.fnMemoriesSpec.post enc Try.prog Try.f3 false true false false) := by
  refine returnsInHanded_of_change (C := Try.checked) own started (by kernel_rfl) Try.func3
    (ChangeSpec.witness6 (enc := enc) (C := Try.checked) false ⟨#[], #[.slice none 0 0], []⟩ 8 (by kernel_rfl) (by kernel_rfl) (by kernel_rfl) (by kernel_rfl)) ?_
  intro W base args ds gs before hval0 hW hcnd _
  have hval : ∀ (j : Nat) t v, Try.f3.params[j]? = some t → args[j]? = some v → Value.okWide Try.prog W .any base t v := hval0
  have hW' := hW
  obtain ⟨p, q, hA0, hV, rfl, hfz, hnd⟩ := hW
  have hA : DataW.TrodAll enc Try.prog W 0 (fun _ => true) true Try.f3.params.toList args.toList ds p := hA0
  rw [Try.params3] at hA hval
  obtain ⟨v0, vs0, d0, ds0, p0, q0, hargs, rfl, rfl, h0, r0⟩ := trodAll_cons hA
  obtain ⟨rfl, rfl, rfl⟩ := trodAll_nil r0
  obtain rfl : args = #[v0] := by cases args; simp_all
  obtain ⟨rfl, rfl⟩ := trodVars_none hV
  obtain ⟨a0, len0, cap0, rfl⟩ := okWide_slice Try.underlying22 (hval 0 22 v0 rfl rfl)
  have k0 := h0
  have lt0 : ∀ x ∈ p0, x.block < W.heap.size := by obtain ⟨m, hm⟩ := k0; exact DataW.trod_lt m _ _ _ hm
  obtain ⟨z0, w0⟩ : ∃ zs, IsRow .u8 W a0 len0 cap0 zs := by
    obtain ⟨fuel, hf⟩ := h0
    rcases open_ints Try.underlying22 Try.underlying5 (by kernel_rfl) hf with ⟨hcs, _⟩ | ⟨x, l, c, zs, hcs, _, hl, hm, hz, _, hcell, hwz⟩
    · simp [Value.cells] at hcs
      obtain ⟨rfl, rfl, rfl⟩ := hcs
      exact ⟨[], .inl ⟨rfl, rfl, rfl, rfl⟩⟩
    · simp [Value.cells] at hcs
      obtain ⟨rfl, rfl, rfl⟩ := hcs
      exact ⟨_, IsRow.of_all hl hm (by simpa using hz) hcell hwz⟩
  clear hA0 hval0
  refine (walk a0 len0 cap0 z0 W w0).mono fun e W' ⟨he, bel⟩ => ?_
  subst he
  exact ⟨_, rfl, _, _, _, [], _, [], hW', trodAll_mk1 (shut_bool Try.underlying4 _), (trodAll_cons_mk (Below.trod laidOut (by kernel_rfl) (of_decide_eq_true (by kernel_rfl)) k0 bel lt0) trodAll_mk0), rfl, bel.frame _, fun h => by cases h⟩

theorem over : Rows.fnMemoriesRow.holds Try.pinned (OpenSpec.ofChange Rows.fnMemoriesSpec) :=
  OpenClaim.holds_of_wide 3 Try.f3 rfl rfl rfl rfl rfl rfl rfl ⟨rfl, rfl, rfl, rfl, rfl⟩ rfl rfl rfl rfl rfl (by kernel_rfl) Try.func3 (by kernel_rfl)
    (of_decide_eq_true (by kernel_rfl)) (by unfold Func.isWrapper; first | (rw [if_pos (by decide +kernel)]; kernel_rfl) | (rw [if_neg (by decide +kernel)]; exact ⟨rfl, rfl⟩))
    (fun os started H enc _ => lifted os started H enc)

theorem proved : Rows.FnMemoriesSaid := over
end Go.Proofs.Ytedjnokeknmbaaa.fnMemoriesDone
