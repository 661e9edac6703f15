/- The law FnBits answers true at every input, and each argument reads behind the call as it read ahead of it; no condition. -/
import Derived.Test.YtpdeecmbfmhhbaaBase
import Derived.Test.YtpdeecmbfmhhbaaWords
import Derived.Test.YtpdeecmbfmhhbaaWide
namespace Go.Proofs.Ytpdeecmbfmhhbaa.fnBitsDone
open Go.ChangeShapes Go.WideShapes Go.ChangeAt Go.RowKit
open Go.ChangeMaps (open_string shut_string)
set_option linter.unusedVariables false

set_option maxHeartbeats 1000000 in
theorem walk (a0 : Option Addr) (len0 cap0 : Nat) (z0 : List Int) (w : World) (w0 : IsRow .u8 w a0 len0 cap0 z0) :
    Calls Try.prog 4 #[.slice a0 len0 cap0] w fun e w' => e = .returned (.bool true) ∧ Below w.heap.size w w' := by
  have HR : Hid (IsRow .u8 w a0 len0 cap0 z0) := w0
  clear w0
  by_cases hbig : 1048576 < (len0 : Int)
  · go_enter Try.func4, Try.ntmps4
    go_wp2
    go_ret
    exact ⟨rfl, Below.refl _ _⟩
  have hb2 : (len0 : Int) ≤ 1048576 := by omega
  clear hbig
  go_enter Try.func4, Try.ntmps4
  go_wp2_with (go_at_call 13; go_in)
  refine (drawBit_any HR.out).mono ?_
  rintro e w1 ⟨x, a, b, rfl, ua, ub, b1⟩
  go_wp2_with fail
  refine (impl_bit _ _ _ _).mono ?_
  rintro e w2 ⟨rfl, b2⟩
  go_wp2_with fail
  refine (impl_bit _ _ _ _).mono ?_
  rintro e w3 ⟨rfl, b3⟩
  go_wp2_with fail
  refine (impl_bit _ _ _ _).mono ?_
  rintro e w4 ⟨rfl, b4⟩
  go_wp2_with fail
  have B4 : Below w.heap.size w w4 := (((b1.trans (b2.mono b1.size)).alloc (by have := b1.size; have := b2.size; omega) _).trans (b3.mono (by have := b1.size; have := b2.size; simp; omega))).trans (((Below.refl _ _).alloc (by have := b1.size; have := b2.size; have := b3.size; simp at this; omega) _).trans (b4.mono (by have := b1.size; have := b2.size; have := b3.size; simp at this; simp; omega)))
  have hs4 := B4.size
  have R4 : Hid (IsRow .u8 (w4.alloc (.cells #[.int .i64 (bitC 3), .int .i64 (bitV 3 a b)] 32)) a0 len0 cap0 z0) := HR.out.below (B4.alloc hs4 _)
  refine (drawShift_any R4.out).mono ?_
  rintro e w5 ⟨v, k, tt, rfl, uv, uk, b5⟩
  have hA0 : w5.cell? ⟨w2.heap.size, 0, none⟩ = some (.int .i64 (bitC 1)) := cell_keep b5 (cell_push _ (cell_keep b4 (cell_push _ (cell_keep b3 (cell_new rfl)))))
  have hA1 : w5.cell? ⟨w2.heap.size, 1, none⟩ = some (.int .i64 (bitV 1 a b)) := cell_keep b5 (cell_push _ (cell_keep b4 (cell_push _ (cell_keep b3 (cell_new rfl)))))
  have hB1 : w5.cell? ⟨w3.heap.size, 1, none⟩ = some (.int .i64 (bitV 2 a b)) := cell_keep b5 (cell_push _ (cell_keep b4 (cell_new rfl)))
  have hC1 : w5.cell? ⟨w4.heap.size, 1, none⟩ = some (.int .i64 (bitV 3 a b)) := cell_keep b5 (cell_new rfl)
  have B5 : Below w.heap.size w w5 := (B4.alloc hs4 _).trans (b5.mono (by simp; omega))
  clear b1 b2 b3 b4 b5 B4 hs4 R4 HR
  unfold isWide at uv uk
  have f1 : (bitC 1 == 0) = true := by simp [bitC]
  have f2 := bit_wrap a b
  have f3 : (bitV 3 (bitV 3 a b) b == wd a) = true := by rw [beq_iff_eq]; exact bit_back a b
  obtain ⟨m, hm⟩ : ∃ m : Nat, k % 32 = (m : Int) := ⟨(k % 32).toNat, by omega⟩
  have hm32 : m < 32 := by omega
  have hk : (wrap64 (k.tmod 32 + 32)).tmod 32 = (m : Int) := by rw [tmod_32 k, hm]
  have HM : Hid (k % 32 = (m : Int)) := hm
  have g0 : ¬ wrap64 (2 ^ (32 - m)) = 0 := by have := pow_wrap m; omega
  have g1 := shift_test v k m hm
  have g2 : (shrV v k == wd v / 2 ^ m) = true := by rw [beq_iff_eq, shr_eq, hm, Int.toNat_natCast]
  clear uv uk hm ua ub
  have hfield := field_value
  go_wp2_with fail
  refine (impl_shl _ _ _).mono ?_
  rintro e w6 ⟨rfl, rfl⟩
  go_wp2_with fail
  refine (impl_shr _ _ _).mono ?_
  rintro e w6 ⟨rfl, rfl⟩
  go_wp2_with fail
  refine (impl_bit _ _ _ _).mono ?_
  rintro e w7 ⟨rfl, b7⟩
  go_wp2_with fail
  refine (impl_wrap _ _).mono ?_
  rintro e w8 ⟨rfl, rfl⟩
  go_wp2_with fail
  refine (impl_shr _ _ _).mono ?_
  rintro e w9 ⟨rfl, rfl⟩
  go_wp2_with fail
  refine (impl_wrap _ _).mono ?_
  rintro e w10 ⟨rfl, rfl⟩
  go_wp2_with fail
  refine (impl_wrap _ _).mono ?_
  rintro e w11 ⟨rfl, rfl⟩
  go_wp2_with fail
  refine (spec_shl _ _ _).mono ?_
  rintro e w12 ⟨rfl, rfl⟩
  go_wp2
  go_ret
  exact ⟨rfl, B5.trans (b7.mono B5.size)⟩

set_option maxRecDepth 100000 in
theorem lifted (os : Os) (started : os.Started) (H : Type) (enc : TypeId × Value → H) :
    ReturnsInHanded {} Try.checked os 4 .any (Rows.fnBitsSpec.pre6 enc Try.prog Try.f4 Rows.fnBitsRow.domain false) (Rows.fnBitsSpec.post enc Try.prog Try.f4 false true false false) := by
  refine returnsInHanded_of_change (C := Try.checked) own started (by kernel_rfl) Try.func4
    (ChangeSpec.witness6 (enc := enc) (C := Try.checked) false ⟨#[], #[.slice none 0 0], []⟩ 8 (by kernel_rfl) (by kernel_rfl) (by kernel_rfl) (by kernel_rfl)) ?_
  intro W base args ds gs before hval0 hW hcnd _
  have hval : ∀ (j : Nat) t v, Try.f4.params[j]? = some t → args[j]? = some v → Value.okWide Try.prog W .any base t v := hval0
  have hW' := hW
  obtain ⟨p, q, hA0, hV, rfl, hfz, hnd⟩ := hW
  have hA : DataW.TrodAll enc Try.prog W 0 (fun _ => true) true Try.f4.params.toList args.toList ds p := hA0
  rw [Try.params4] at hA hval
  obtain ⟨v0, vs0, d0, ds0, p0, q0, hargs, rfl, rfl, h0, r0⟩ := trodAll_cons hA
  obtain ⟨rfl, rfl, rfl⟩ := trodAll_nil r0
  obtain rfl : args = #[v0] := by cases args; simp_all
  obtain ⟨rfl, rfl⟩ := trodVars_none hV
  obtain ⟨a0, len0, cap0, rfl⟩ := okWide_slice Try.underlying22 (hval 0 22 v0 rfl rfl)
  have k0 := h0
  have lt0 : ∀ x ∈ p0, x.block < W.heap.size := by obtain ⟨m, hm⟩ := k0; exact DataW.trod_lt m _ _ _ hm
  obtain ⟨z0, w0⟩ : ∃ zs, IsRow .u8 W a0 len0 cap0 zs := by
    obtain ⟨fuel, hf⟩ := h0
    rcases open_ints Try.underlying22 Try.underlying5 (by kernel_rfl) hf with ⟨hcs, _⟩ | ⟨x, l, c, zs, hcs, _, hl, hm, hz, _, hcell, hwz⟩
    · simp [Value.cells] at hcs
      obtain ⟨rfl, rfl, rfl⟩ := hcs
      exact ⟨[], .inl ⟨rfl, rfl, rfl, rfl⟩⟩
    · simp [Value.cells] at hcs
      obtain ⟨rfl, rfl, rfl⟩ := hcs
      exact ⟨_, IsRow.of_all hl hm (by simpa using hz) hcell hwz⟩
  clear hA0 hval0
  refine (walk a0 len0 cap0 z0 W w0).mono fun e W' ⟨he, bel⟩ => ?_
  subst he
  exact ⟨_, rfl, _, _, _, [], _, [], hW', trodAll_mk1 (shut_bool Try.underlying4 _), (trodAll_cons_mk (Below.trod laidOut (by kernel_rfl) (of_decide_eq_true (by kernel_rfl)) k0 bel lt0) trodAll_mk0), rfl, bel.frame _, fun h => by cases h⟩

theorem over : Rows.fnBitsRow.holds Try.pinned (OpenSpec.ofChange Rows.fnBitsSpec) :=
  OpenClaim.holds_of_wide 4 Try.f4 rfl rfl rfl rfl rfl rfl rfl ⟨rfl, rfl, rfl, rfl, rfl⟩ rfl rfl rfl rfl rfl (by kernel_rfl) Try.func4 (by kernel_rfl)
    (of_decide_eq_true (by kernel_rfl)) (by unfold Func.isWrapper; first | (rw [if_pos (by decide +kernel)]; kernel_rfl) | (rw [if_neg (by decide +kernel)]; exact ⟨rfl, rfl⟩))
    (fun os started H enc _ => lifted os started H enc)

theorem proved : Rows.FnBitsSaid := over
end Go.Proofs.Ytpdeecmbfmhhbaa.fnBitsDone
