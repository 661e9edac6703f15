/- The law FnWords answers true at every input, and each argument reads behind the call as it read ahead of it; no condition. -/
import Derived.Test.YtpdeecmbfmhhbaaBase
import Derived.Test.YtpdeecmbfmhhbaaWords
import Derived.Test.YtpdeecmbfmhhbaaPrepend
namespace Go.Proofs.Ytpdeecmbfmhhbaa.fnWordsDone
open Go.ChangeShapes Go.WideShapes Go.ChangeAt Go.RowKit
open Go.ChangeMaps (open_string shut_string)
set_option linter.unusedVariables false

set_option maxHeartbeats 2000000 in
theorem walk (a0 : Option Addr) (len0 cap0 : Nat) (z0 : List Int) (w : World) (w0 : IsRow .u8 w a0 len0 cap0 z0) :
    Calls Try.prog 3 #[.slice a0 len0 cap0] w fun e w' => e = .returned (.bool true) ∧ Below w.heap.size w w' := by
  have HR : Hid (IsRow .u8 w a0 len0 cap0 z0) := w0
  clear w0
  by_cases hbig : 1048576 < (len0 : Int)
  · go_enter Try.func3, Try.ntmps3
    go_wp2
    go_ret
    exact ⟨rfl, Below.refl _ _⟩
  have hb2 : (len0 : Int) ≤ 1048576 := by omega
  clear hbig
  go_enter Try.func3, Try.ntmps3
  go_wp2_with (go_at_call 13; go_in)
  refine (drawDiv_any HR.out).mono ?_
  rintro e w1 ⟨a, b, rfl, ua, ub, b1⟩
  go_wp2_with (at_builtin; refine wp_prepend _ rfl _ _ rfl w1.heap.size 4 (by decide) rfl (heap_new _ _) a0 len0 cap0 z0 rfl (HR.out.below (b1.alloc b1.size _)) (by omega) ?_; intro a' len' cap' zs' w2 r2 b2)
  have B2 : Below w.heap.size w w2 := (b1.alloc b1.size _).trans (b2.mono b1.size)
  have R2 : Hid (IsRow .u8 w2 a' len' cap' zs') := r2
  clear b1 b2 r2 HR ua ub
  refine (drawWrap_any R2.out).mono ?_
  rintro e w3 ⟨c, rfl, -, b3⟩
  have B3 : Below w.heap.size w w3 := B2.trans (b3.mono B2.size)
  clear R2 B2 b3
  have f1 : (addV (addV a b) c == addV a (addV b c)) = true := by rw [beq_iff_eq]; exact addV_assoc a b c
  have f2 : (addV a b == addV b a) = true := by rw [beq_iff_eq]; exact addV_comm a b
  have f3 : (mulV a (addV b c) == addV (mulV a b) (mulV a c)) = true := by rw [beq_iff_eq]; exact mulV_addV a b c
  have f4 := (wd_in a).1
  have f5 := (wd_in a).2
  have f6 : (wd (sgn a) != wd a) = false := by rw [wd_sgn]; simp
  have f7 : (addV (mulV (divV a b) b) (remV a b) == wd a) = true := by rw [beq_iff_eq]; exact back a b
  have f8 : (addV a 0 == wd a) = true := by rw [beq_iff_eq]; exact addV_zero a
  go_wp2_with (first
    | (go_at_call 16; refine (impl_wrap _ _).mono ?_; rintro e x ⟨rfl, rfl⟩)
    | (go_at_call 17; refine (impl_add _ _ _).mono ?_; rintro e x ⟨rfl, rfl⟩)
    | (go_at_call 18; refine (impl_mul _ _ _).mono ?_; rintro e x ⟨rfl, rfl⟩)
    | (go_at_call 19; refine (impl_div _ _ _).mono ?_; rintro e x ⟨rfl, rfl⟩)
    | (go_at_call 20; refine (impl_rem _ _ _).mono ?_; rintro e x ⟨rfl, rfl⟩)
    | (go_at_call 21; refine (impl_signed _ _).mono ?_; rintro e x ⟨rfl, rfl⟩)
    | (go_at_call 22; refine (spec_signed _ _).mono ?_; rintro e x ⟨rfl, rfl⟩))
  go_ret
  exact ⟨rfl, B3⟩

set_option maxRecDepth 100000 in
theorem lifted (os : Os) (started : os.Started) (H : Type) (enc : TypeId × Value → H) :
    ReturnsInHanded {} Try.checked os 3 .any (Rows.fnWordsSpec.pre6 enc Try.prog Try.f3 Rows.fnWordsRow.domain false) (Rows.fnWordsSpec.post enc Try.prog Try.f3 false true false false) := by
  refine returnsInHanded_of_change (C := Try.checked) own started (by kernel_rfl) Try.func3
    (ChangeSpec.witness6 (enc := enc) (C := Try.checked) false ⟨#[], #[.slice none 0 0], []⟩ 8 (by kernel_rfl) (by kernel_rfl) (by kernel_rfl) (by kernel_rfl)) ?_
  intro W base args ds gs before hval0 hW hcnd _
  have hval : ∀ (j : Nat) t v, Try.f3.params[j]? = some t → args[j]? = some v → Value.okWide Try.prog W .any base t v := hval0
  have hW' := hW
  obtain ⟨p, q, hA0, hV, rfl, hfz, hnd⟩ := hW
  have hA : DataW.TrodAll enc Try.prog W 0 (fun _ => true) true Try.f3.params.toList args.toList ds p := hA0
  rw [Try.params3] at hA hval
  obtain ⟨v0, vs0, d0, ds0, p0, q0, hargs, rfl, rfl, h0, r0⟩ := trodAll_cons hA
  obtain ⟨rfl, rfl, rfl⟩ := trodAll_nil r0
  obtain rfl : args = #[v0] := by cases args; simp_all
  obtain ⟨rfl, rfl⟩ := trodVars_none hV
  obtain ⟨a0, len0, cap0, rfl⟩ := okWide_slice Try.underlying22 (hval 0 22 v0 rfl rfl)
  have k0 := h0
  have lt0 : ∀ x ∈ p0, x.block < W.heap.size := by obtain ⟨m, hm⟩ := k0; exact DataW.trod_lt m _ _ _ hm
  obtain ⟨z0, w0⟩ : ∃ zs, IsRow .u8 W a0 len0 cap0 zs := by
    obtain ⟨fuel, hf⟩ := h0
    rcases open_ints Try.underlying22 Try.underlying5 (by kernel_rfl) hf with ⟨hcs, _⟩ | ⟨x, l, c, zs, hcs, _, hl, hm, hz, _, hcell, hwz⟩
    · simp [Value.cells] at hcs
      obtain ⟨rfl, rfl, rfl⟩ := hcs
      exact ⟨[], .inl ⟨rfl, rfl, rfl, rfl⟩⟩
    · simp [Value.cells] at hcs
      obtain ⟨rfl, rfl, rfl⟩ := hcs
      exact ⟨_, IsRow.of_all hl hm (by simpa using hz) hcell hwz⟩
  clear hA0 hval0
  refine (walk a0 len0 cap0 z0 W w0).mono fun e W' ⟨he, bel⟩ => ?_
  subst he
  exact ⟨_, rfl, _, _, _, [], _, [], hW', trodAll_mk1 (shut_bool Try.underlying4 _), (trodAll_cons_mk (Below.trod laidOut (by kernel_rfl) (of_decide_eq_true (by kernel_rfl)) k0 bel lt0) trodAll_mk0), rfl, bel.frame _, fun h => by cases h⟩

theorem over : Rows.fnWordsRow.holds Try.pinned (OpenSpec.ofChange Rows.fnWordsSpec) :=
  OpenClaim.holds_of_wide 3 Try.f3 rfl rfl rfl rfl rfl rfl rfl ⟨rfl, rfl, rfl, rfl, rfl⟩ rfl rfl rfl rfl rfl (by kernel_rfl) Try.func3 (by kernel_rfl)
    (of_decide_eq_true (by kernel_rfl)) (by unfold Func.isWrapper; first | (rw [if_pos (by decide +kernel)]; kernel_rfl) | (rw [if_neg (by decide +kernel)]; exact ⟨rfl, rfl⟩))
    (fun os started H enc _ => lifted os started H enc)

theorem proved : Rows.FnWordsSaid := over
end Go.Proofs.Ytpdeecmbfmhhbaa.fnWordsDone
