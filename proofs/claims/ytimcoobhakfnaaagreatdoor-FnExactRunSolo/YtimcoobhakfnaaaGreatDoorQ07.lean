/- Texts of this seat, joined. -/
import Derived.Deep.WholeRow
import Derived.Deep.Cut
import Derived.Test.YtimcoobhakfnaaaGreatDoorQ06
namespace Go.Proofs.YtimcoobhakfnaaaGreatDoor
open Go.RowKit

/-- The table of what ops do, as it lies in memory. -/
def fnA : Array Value := #[.nilFunc, .func (.func 107) #[] #[], .func (.func 126) #[] #[], .func (.func 127) #[] #[], .func (.func 128) #[] #[], .func (.func 129) #[] #[], .func (.func 130) #[] #[], .func (.func 132) #[] #[], .func (.func 133) #[] #[], .func (.func 134) #[] #[], .func (.func 136) #[] #[], .func (.func 137) #[] #[]]
theorem fn_lit : (#[.nilFunc, .func (.func 107) #[] #[], .func (.func 126) #[] #[], .func (.func 127) #[] #[], .func (.func 128) #[] #[], .func (.func 129) #[] #[], .func (.func 130) #[] #[], .func (.func 132) #[] #[], .func (.func 133) #[] #[], .func (.func 134) #[] #[], .func (.func 136) #[] #[], .func (.func 137) #[] #[]] : Array Value) = fnA := rfl
theorem fn_size : fnA.size = 12 := rfl
theorem fn_store (w : World) : (storeCells ⟨w.heap.size + 1, 0, none⟩ fnA.toList 0).run Tryz.prog ((w.alloc (.cells #[.int .i64 0, .int .i64 0] 139)).alloc (.cells #[.nilFunc, .nilFunc, .nilFunc, .nilFunc, .nilFunc, .nilFunc, .nilFunc, .nilFunc, .nilFunc, .nilFunc, .nilFunc, .nilFunc] 176))
    = .ok () ((w.alloc (.cells #[.int .i64 0, .int .i64 0] 139)).alloc (.cells fnA 176)) := by
  have := run_storeCells_new (P := Tryz.prog) (w.alloc (.cells #[.int .i64 0, .int .i64 0] 139)) 176 #[.nilFunc, .nilFunc, .nilFunc, .nilFunc, .nilFunc, .nilFunc, .nilFunc, .nilFunc, .nilFunc, .nilFunc, .nilFunc, .nilFunc] fnA (by kernel_rfl) (by decide) (by kernel_rfl)
  rw [World.size_alloc] at this
  exact this

theorem impl_alu1 (a b : Int) (w : World) : Calls Tryz.prog 109 #[.int .i64 1, .int .i64 a, .int .i64 b] w fun e w' => e = .returned (.agg #[.int .i64 0, .int .i64 (addV a b)]) ∧ Below w.heap.size w w' := by
  generalize hv : (addV a b : Int) = v
  have hcl := fun w => impl_add a b w
  rw [hv] at hcl
  clear hv
  have hs := fn_store w
  have hq := fn_size
  have hk : fnA[1]'(by rw [fn_size]; omega) = .func (.func 107) #[] #[] := rfl
  go_enter Tryz.func109, Tryz.ntmps109
  go_upto_region 3 with fail
  go_step
  go_step
  go_step
  rw [fn_lit]
  go_wp2_with (go_at_call 107; refine (hcl _).mono ?_; rintro e w1 ⟨rfl, rfl⟩)
  exact bodyPost_ret (v := .agg #[.int .i64 0, .int .i64 v]) (by simp [results, Tryz.results109, go_sem]) rfl ⟨rfl, al (al (Below.refl _ _) _) _⟩
theorem impl_alu2 (a b : Int) (w : World) : Calls Tryz.prog 109 #[.int .i64 2, .int .i64 a, .int .i64 b] w fun e w' => e = .returned (.agg #[.int .i64 0, .int .i64 ((a - b) % 4294967296)]) ∧ Below w.heap.size w w' := by
  generalize hv : ((a - b) % 4294967296 : Int) = v
  have hcl := fun w => impl_sub a b w
  rw [hv] at hcl
  clear hv
  have hs := fn_store w
  have hq := fn_size
  have hk : fnA[2]'(by rw [fn_size]; omega) = .func (.func 126) #[] #[] := rfl
  go_enter Tryz.func109, Tryz.ntmps109
  go_upto_region 3 with fail
  go_step
  go_step
  go_step
  rw [fn_lit]
  go_wp2_with (go_at_call 126; refine (hcl _).mono ?_; rintro e w1 ⟨rfl, rfl⟩)
  exact bodyPost_ret (v := .agg #[.int .i64 0, .int .i64 v]) (by simp [results, Tryz.results109, go_sem]) rfl ⟨rfl, al (al (Below.refl _ _) _) _⟩
theorem impl_alu3 (a b : Int) (w : World) : Calls Tryz.prog 109 #[.int .i64 3, .int .i64 a, .int .i64 b] w fun e w' => e = .returned (.agg #[.int .i64 0, .int .i64 (mulV a b)]) ∧ Below w.heap.size w w' := by
  generalize hv : (mulV a b : Int) = v
  have hcl := fun w => impl_mul a b w
  rw [hv] at hcl
  clear hv
  have hs := fn_store w
  have hq := fn_size
  have hk : fnA[3]'(by rw [fn_size]; omega) = .func (.func 127) #[] #[] := rfl
  go_enter Tryz.func109, Tryz.ntmps109
  go_upto_region 3 with fail
  go_step
  go_step
  go_step
  rw [fn_lit]
  go_wp2_with (go_at_call 127; refine (hcl _).mono ?_; rintro e w1 ⟨rfl, rfl⟩)
  exact bodyPost_ret (v := .agg #[.int .i64 0, .int .i64 v]) (by simp [results, Tryz.results109, go_sem]) rfl ⟨rfl, al (al (Below.refl _ _) _) _⟩
theorem impl_alu4 (a b : Int) (w : World) : Calls Tryz.prog 109 #[.int .i64 4, .int .i64 a, .int .i64 b] w fun e w' => e = .returned (.agg #[.int .i64 0, .int .i64 (divV a b)]) ∧ Below w.heap.size w w' := by
  generalize hv : (divV a b : Int) = v
  have hcl := fun w => impl_div a b w
  rw [hv] at hcl
  clear hv
  have hs := fn_store w
  have hq := fn_size
  have hk : fnA[4]'(by rw [fn_size]; omega) = .func (.func 128) #[] #[] := rfl
  go_enter Tryz.func109, Tryz.ntmps109
  go_upto_region 3 with fail
  go_step
  go_step
  go_step
  rw [fn_lit]
  go_wp2_with (go_at_call 128; refine (hcl _).mono ?_; rintro e w1 ⟨rfl, rfl⟩)
  exact bodyPost_ret (v := .agg #[.int .i64 0, .int .i64 v]) (by simp [results, Tryz.results109, go_sem]) rfl ⟨rfl, al (al (Below.refl _ _) _) _⟩
theorem impl_alu5 (a b : Int) (w : World) : Calls Tryz.prog 109 #[.int .i64 5, .int .i64 a, .int .i64 b] w fun e w' => e = .returned (.agg #[.int .i64 0, .int .i64 (remV a b)]) ∧ Below w.heap.size w w' := by
  generalize hv : (remV a b : Int) = v
  have hcl := fun w => impl_rem a b w
  rw [hv] at hcl
  clear hv
  have hs := fn_store w
  have hq := fn_size
  have hk : fnA[5]'(by rw [fn_size]; omega) = .func (.func 129) #[] #[] := rfl
  go_enter Tryz.func109, Tryz.ntmps109
  go_upto_region 3 with fail
  go_step
  go_step
  go_step
  rw [fn_lit]
  go_wp2_with (go_at_call 129; refine (hcl _).mono ?_; rintro e w1 ⟨rfl, rfl⟩)
  exact bodyPost_ret (v := .agg #[.int .i64 0, .int .i64 v]) (by simp [results, Tryz.results109, go_sem]) rfl ⟨rfl, al (al (Below.refl _ _) _) _⟩
theorem impl_alu6 (a b : Int) (w : World) : Calls Tryz.prog 109 #[.int .i64 6, .int .i64 a, .int .i64 b] w fun e w' => e = .returned (.agg #[.int .i64 0, .int .i64 (bitV 1 a b)]) ∧ Below w.heap.size w w' := by
  generalize hv : (bitV 1 a b : Int) = v
  have hcl := fun w => impl_clos1 a b w
  rw [hv] at hcl
  clear hv
  have hs := fn_store w
  have hq := fn_size
  have hk : fnA[6]'(by rw [fn_size]; omega) = .func (.func 130) #[] #[] := rfl
  go_enter Tryz.func109, Tryz.ntmps109
  go_upto_region 3 with fail
  go_step
  go_step
  go_step
  rw [fn_lit]
  go_wp2_with (go_at_call 130; refine (hcl _).mono ?_; rintro e w1 ⟨rfl, hb⟩; obtain ⟨hc, hz⟩ := bcell hb)
  have k0 := cell_keep hb (cell_push _ (cell_new (i := 0) rfl))
  have k1 := cell_keep hb (cell_push _ (cell_new (i := 1) rfl))
  clear hc hz
  exact bodyPost_ret (v := .agg #[.int .i64 0, .int .i64 v]) (by simp [results, Tryz.results109, go_sem, k0, k1]) rfl ⟨rfl, ((on (al (al (Below.refl _ _) _) _) hb).setCell (by simp) _).setCell (by simp) _⟩
theorem impl_alu7 (a b : Int) (w : World) : Calls Tryz.prog 109 #[.int .i64 7, .int .i64 a, .int .i64 b] w fun e w' => e = .returned (.agg #[.int .i64 0, .int .i64 (bitV 2 a b)]) ∧ Below w.heap.size w w' := by
  generalize hv : (bitV 2 a b : Int) = v
  have hcl := fun w => impl_clos2 a b w
  rw [hv] at hcl
  clear hv
  have hs := fn_store w
  have hq := fn_size
  have hk : fnA[7]'(by rw [fn_size]; omega) = .func (.func 132) #[] #[] := rfl
  go_enter Tryz.func109, Tryz.ntmps109
  go_upto_region 3 with fail
  go_step
  go_step
  go_step
  rw [fn_lit]
  go_wp2_with (go_at_call 132; refine (hcl _).mono ?_; rintro e w1 ⟨rfl, hb⟩; obtain ⟨hc, hz⟩ := bcell hb)
  have k0 := cell_keep hb (cell_push _ (cell_new (i := 0) rfl))
  have k1 := cell_keep hb (cell_push _ (cell_new (i := 1) rfl))
  clear hc hz
  exact bodyPost_ret (v := .agg #[.int .i64 0, .int .i64 v]) (by simp [results, Tryz.results109, go_sem, k0, k1]) rfl ⟨rfl, ((on (al (al (Below.refl _ _) _) _) hb).setCell (by simp) _).setCell (by simp) _⟩
theorem impl_alu8 (a b : Int) (w : World) : Calls Tryz.prog 109 #[.int .i64 8, .int .i64 a, .int .i64 b] w fun e w' => e = .returned (.agg #[.int .i64 0, .int .i64 (bitV 3 a b)]) ∧ Below w.heap.size w w' := by
  generalize hv : (bitV 3 a b : Int) = v
  have hcl := fun w => impl_clos3 a b w
  rw [hv] at hcl
  clear hv
  have hs := fn_store w
  have hq := fn_size
  have hk : fnA[8]'(by rw [fn_size]; omega) = .func (.func 133) #[] #[] := rfl
  go_enter Tryz.func109, Tryz.ntmps109
  go_upto_region 3 with fail
  go_step
  go_step
  go_step
  rw [fn_lit]
  go_wp2_with (go_at_call 133; refine (hcl _).mono ?_; rintro e w1 ⟨rfl, hb⟩; obtain ⟨hc, hz⟩ := bcell hb)
  have k0 := cell_keep hb (cell_push _ (cell_new (i := 0) rfl))
  have k1 := cell_keep hb (cell_push _ (cell_new (i := 1) rfl))
  clear hc hz
  exact bodyPost_ret (v := .agg #[.int .i64 0, .int .i64 v]) (by simp [results, Tryz.results109, go_sem, k0, k1]) rfl ⟨rfl, ((on (al (al (Below.refl _ _) _) _) hb).setCell (by simp) _).setCell (by simp) _⟩
theorem impl_alu9 (a b : Int) (w : World) : Calls Tryz.prog 109 #[.int .i64 9, .int .i64 a, .int .i64 b] w fun e w' => e = .returned (.agg #[.int .i64 0, .int .i64 (shlV a b)]) ∧ Below w.heap.size w w' := by
  generalize hv : (shlV a b : Int) = v
  have hcl := fun w => impl_clos4 a b w
  rw [hv] at hcl
  clear hv
  have hs := fn_store w
  have hq := fn_size
  have hk : fnA[9]'(by rw [fn_size]; omega) = .func (.func 134) #[] #[] := rfl
  go_enter Tryz.func109, Tryz.ntmps109
  go_upto_region 3 with fail
  go_step
  go_step
  go_step
  rw [fn_lit]
  go_wp2_with (go_at_call 134; refine (hcl _).mono ?_; rintro e w1 ⟨rfl, rfl⟩)
  exact bodyPost_ret (v := .agg #[.int .i64 0, .int .i64 v]) (by simp [results, Tryz.results109, go_sem]) rfl ⟨rfl, al (al (Below.refl _ _) _) _⟩
theorem impl_alu10 (a b : Int) (w : World) : Calls Tryz.prog 109 #[.int .i64 10, .int .i64 a, .int .i64 b] w fun e w' => e = .returned (.agg #[.int .i64 0, .int .i64 (shrV a b)]) ∧ Below w.heap.size w w' := by
  generalize hv : (shrV a b : Int) = v
  have hcl := fun w => impl_clos5 a b w
  rw [hv] at hcl
  clear hv
  have hs := fn_store w
  have hq := fn_size
  have hk : fnA[10]'(by rw [fn_size]; omega) = .func (.func 136) #[] #[] := rfl
  go_enter Tryz.func109, Tryz.ntmps109
  go_upto_region 3 with fail
  go_step
  go_step
  go_step
  rw [fn_lit]
  go_wp2_with (go_at_call 136; refine (hcl _).mono ?_; rintro e w1 ⟨rfl, rfl⟩)
  exact bodyPost_ret (v := .agg #[.int .i64 0, .int .i64 v]) (by simp [results, Tryz.results109, go_sem]) rfl ⟨rfl, al (al (Below.refl _ _) _) _⟩
theorem impl_alu11 (a b : Int) (w : World) : Calls Tryz.prog 109 #[.int .i64 11, .int .i64 a, .int .i64 b] w fun e w' => e = .returned (.agg #[.int .i64 0, .int .i64 (if sgn a < sgn b then 1 else 0)]) ∧ Below w.heap.size w w' := by
  generalize hv : (if sgn a < sgn b then 1 else 0 : Int) = v
  have hcl := fun w => impl_less a b w
  rw [hv] at hcl
  clear hv
  have hs := fn_store w
  have hq := fn_size
  have hk : fnA[11]'(by rw [fn_size]; omega) = .func (.func 137) #[] #[] := rfl
  go_enter Tryz.func109, Tryz.ntmps109
  go_upto_region 3 with fail
  go_step
  go_step
  go_step
  rw [fn_lit]
  go_wp2_with (go_at_call 137; refine (hcl _).mono ?_; rintro e w1 ⟨rfl, rfl⟩)
  exact bodyPost_ret (v := .agg #[.int .i64 0, .int .i64 v]) (by simp [results, Tryz.results109, go_sem]) rfl ⟨rfl, al (al (Below.refl _ _) _) _⟩

def aluC (op : Int) : Int := if 1 ≤ op ∧ op ≤ 11 then 0 else 3
theorem impl_alu (op a b : Int) (w : World) : Calls Tryz.prog 109 #[.int .i64 op, .int .i64 a, .int .i64 b] w fun e w' => e = .returned (.agg #[.int .i64 (aluC op), .int .i64 (if 1 ≤ op ∧ op ≤ 11 then aluV op a b else 0)]) ∧ Below w.heap.size w w' := by
  by_cases h : 1 ≤ op ∧ op ≤ 11
  · rw [aluC, if_pos h, if_pos h]
    rcases (by omega : op = 1 ∨ op = 2 ∨ op = 3 ∨ op = 4 ∨ op = 5 ∨ op = 6 ∨ op = 7 ∨ op = 8 ∨ op = 9 ∨ op = 10 ∨ op = 11) with rfl | rfl | rfl | rfl | rfl | rfl | rfl | rfl | rfl | rfl | rfl
    · rw [aluV1]; exact impl_alu1 a b w
    · rw [aluV2]; exact impl_alu2 a b w
    · rw [aluV3]; exact impl_alu3 a b w
    · rw [aluV4]; exact impl_alu4 a b w
    · rw [aluV5]; exact impl_alu5 a b w
    · rw [aluV6]; exact impl_alu6 a b w
    · rw [aluV7]; exact impl_alu7 a b w
    · rw [aluV8]; exact impl_alu8 a b w
    · rw [aluV9]; exact impl_alu9 a b w
    · rw [aluV10]; exact impl_alu10 a b w
    · rw [aluV11]; exact impl_alu11 a b w
  · rw [aluC, if_neg h, if_neg h]
    have h : op < 1 ∨ 11 < op := by omega
    rcases h with h | h
    · go_enter Tryz.func109, Tryz.ntmps109
      go_wp2_with fail
      exact bodyPost_ret (v := .agg #[.int .i64 3, .int .i64 0]) (by simp [results, Tryz.results109, go_sem]) rfl ⟨rfl, al (Below.refl _ _) _⟩
    · have h1 : ¬ op < 1 := by omega
      go_enter Tryz.func109, Tryz.ntmps109
      go_wp2_with fail
      exact bodyPost_ret (v := .agg #[.int .i64 3, .int .i64 0]) (by simp [results, Tryz.results109, go_sem]) rfl ⟨rfl, al (Below.refl _ _) _⟩
end Go.Proofs.YtimcoobhakfnaaaGreatDoor
