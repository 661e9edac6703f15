/- Texts of this seat, joined. -/
import Derived.Deep.WholeRow
import Derived.Deep.Cut
import Derived.Test.YtaefollmeoepkaaGreatDoorQ15
import Derived.Test.YtaefollmeoepkaaGreatDoorQ20
namespace Go.Proofs.YtaefollmeoepkaaGreatDoor
open Go.RowKit
theorem source_any {w : World} {a : Option Addr} {len cap : Nat} {zs : List Int} (hr : IsRow .u8 w a len cap zs) :
    Calls Tryz.prog 25 #[.slice a len cap] w fun e w' => e = .returned (.pointer (some ⟨w.heap.size, 0, none⟩)) ∧ Below w.heap.size w w' ∧ Src w' w.heap.size 0 a len cap zs := by
  have HR : Hid (IsRow .u8 w a len cap zs) := hr
  clear hr
  go_enter Tryz.func25, Tryz.ntmps25
  go_wp2
  go_ret
  refine ⟨rfl, (Below.refl _ _).alloc (Nat.le_refl _) _, cell_new rfl, cell_new rfl, ?_, HR.out.turn (Turn.alloc w.heap.size w _) HR.out.block (Nat.le_refl _), HR.out.block, by simp⟩
  simp [go_sem]
def isWord (v : Int) : Prop := 0 ≤ v ∧ v ≤ 4294967295
def isWide (v : Int) : Prop := -9223372036854775808 ≤ v ∧ v ≤ 9223372036854775807
set_option maxHeartbeats 400000 in
theorem word_any {w : World} {b k : Nat} {a : Option Addr} {len cap : Nat} {zs : List Int} (s : Src w b k a len cap zs) (hk : k ≤ 90000) :
    Calls Tryz.prog 95 #[.pointer (some ⟨b, 0, none⟩)] w fun e w' => ∃ v : Int, e = .returned (.int .i64 v) ∧ isWord v ∧ Turn b w w' ∧ Src w' b (k + 5) a len cap zs := by
  go_enter Tryz.func95, Tryz.ntmps95
  go_wp2_with fail
  refine (next_any s (by omega) _).mono ?_
  rintro e w1 ⟨v1, rfl, h1, -, t1, s1⟩
  obtain ⟨l1, u1⟩ := h1 (by omega)
  clear h1
  go_wp2_with fail
  refine (next_any s1 (by omega) _).mono ?_
  rintro e w2 ⟨v2, rfl, h2, -, t2, s2⟩
  obtain ⟨l2, u2⟩ := h2 (by omega)
  clear h2
  go_wp2_with fail
  refine (next_any s2 (by omega) _).mono ?_
  rintro e w3 ⟨v3, rfl, h3, -, t3, s3⟩
  obtain ⟨l3, u3⟩ := h3 (by omega)
  clear h3
  go_wp2_with fail
  refine (next_any s3 (by omega) _).mono ?_
  rintro e w4 ⟨v4, rfl, h4, -, t4, s4⟩
  obtain ⟨l4, u4⟩ := h4 (by omega)
  clear h4
  go_wp2_with fail
  have hb := s4.here
  refine (pick_any (s4.alloc _) (by omega) isWord _ 7 (by omega) (by omega) (by simp) (by omega) ?_).mono ?_
  · intro i hi
    have : i = 0 ∨ i = 1 ∨ i = 2 ∨ i = 3 ∨ i = 4 ∨ i = 5 ∨ i = 6 := by omega
    rcases this with rfl | rfl | rfl | rfl | rfl | rfl | rfl
    all_goals exact ⟨_, cell_new rfl, by unfold isWord; omega⟩
  rintro e w5 ⟨v, rfl, hv, t5, s5⟩
  go_wp2
  go_ret
  exact ⟨v, rfl, hv, (((t1.trans t2).trans t3).trans t4).trans ((Turn.alloc b w4 _).trans t5), s5⟩
theorem chance_any {w : World} {b k : Nat} {a : Option Addr} {len cap : Nat} {zs : List Int} (s : Src w b k a len cap zs) (hk : k ≤ 100000) (n : Int) :
    Calls Tryz.prog 50 #[.pointer (some ⟨b, 0, none⟩), .int .i64 n] w fun e w' => ∃ v : Bool, e = .returned (.bool v) ∧ Turn b w w' ∧ Src w' b (k + 1) a len cap zs := by
  go_enter Tryz.func50, Tryz.ntmps50
  go_wp2_with fail
  refine (next_any s (by omega) _).mono ?_
  rintro e w1 ⟨v1, rfl, -, -, t1, s1⟩
  go_wp2
  go_ret
  exact ⟨_, rfl, t1, s1⟩
def fnA : Array Value := #[.nilFunc, .func (.func 22) #[] #[], .func (.func 141) #[] #[], .func (.func 142) #[] #[], .func (.func 143) #[] #[], .func (.func 144) #[] #[], .func (.func 145) #[] #[], .func (.func 147) #[] #[], .func (.func 148) #[] #[], .func (.func 149) #[] #[], .func (.func 151) #[] #[], .func (.func 152) #[] #[]]
theorem fn_lit : (#[.nilFunc, .func (.func 22) #[] #[], .func (.func 141) #[] #[], .func (.func 142) #[] #[], .func (.func 143) #[] #[], .func (.func 144) #[] #[], .func (.func 145) #[] #[], .func (.func 147) #[] #[], .func (.func 148) #[] #[], .func (.func 149) #[] #[], .func (.func 151) #[] #[], .func (.func 152) #[] #[]] : Array Value) = fnA := rfl
theorem fn_size : fnA.size = 12 := rfl
theorem fn_store (w : World) : (storeCells ⟨w.heap.size + 1, 0, none⟩ fnA.toList 0).run Tryz.prog ((w.alloc (.cells #[.int .i64 0, .int .i64 0] 48)).alloc (.cells #[.nilFunc, .nilFunc, .nilFunc, .nilFunc, .nilFunc, .nilFunc, .nilFunc, .nilFunc, .nilFunc, .nilFunc, .nilFunc, .nilFunc] 187))
    = .ok () ((w.alloc (.cells #[.int .i64 0, .int .i64 0] 48)).alloc (.cells fnA 187)) := by
  have := run_storeCells_new (P := Tryz.prog) (w.alloc (.cells #[.int .i64 0, .int .i64 0] 48)) 187 #[.nilFunc, .nilFunc, .nilFunc, .nilFunc, .nilFunc, .nilFunc, .nilFunc, .nilFunc, .nilFunc, .nilFunc, .nilFunc, .nilFunc] fnA (by kernel_rfl) (by decide) (by kernel_rfl)
  rw [World.size_alloc] at this
  exact this
theorem impl_alu1 (a b : Int) (w : World) : Calls Tryz.prog 112 #[.int .i64 1, .int .i64 a, .int .i64 b] w fun e w' => e = .returned (.agg #[.int .i64 0, .int .i64 (addV a b)]) ∧ Below w.heap.size w w' := by
  generalize hv : (addV a b : Int) = v
  have hcl := fun w => impl_add a b w
  rw [hv] at hcl
  clear hv
  have hs := fn_store w
  have hq := fn_size
  have hk : fnA[1]'(by rw [fn_size]; omega) = .func (.func 22) #[] #[] := rfl
  go_enter Tryz.func112, Tryz.ntmps112
  go_upto_region 3 with fail
  go_step
  go_step
  go_step
  rw [fn_lit]
  go_wp2_with (go_at_call 22; refine (hcl _).mono ?_; rintro e w1 ⟨rfl, rfl⟩)
  exact bodyPost_ret (v := .agg #[.int .i64 0, .int .i64 v]) (by simp [results, Tryz.results112, go_sem]) rfl ⟨rfl, al (al (Below.refl _ _) _) _⟩
theorem impl_alu2 (a b : Int) (w : World) : Calls Tryz.prog 112 #[.int .i64 2, .int .i64 a, .int .i64 b] w fun e w' => e = .returned (.agg #[.int .i64 0, .int .i64 ((a - b) % 4294967296)]) ∧ Below w.heap.size w w' := by
  generalize hv : ((a - b) % 4294967296 : Int) = v
  have hcl := fun w => impl_sub a b w
  rw [hv] at hcl
  clear hv
  have hs := fn_store w
  have hq := fn_size
  have hk : fnA[2]'(by rw [fn_size]; omega) = .func (.func 141) #[] #[] := rfl
  go_enter Tryz.func112, Tryz.ntmps112
  go_upto_region 3 with fail
  go_step
  go_step
  go_step
  rw [fn_lit]
  go_wp2_with (go_at_call 141; refine (hcl _).mono ?_; rintro e w1 ⟨rfl, rfl⟩)
  exact bodyPost_ret (v := .agg #[.int .i64 0, .int .i64 v]) (by simp [results, Tryz.results112, go_sem]) rfl ⟨rfl, al (al (Below.refl _ _) _) _⟩
theorem impl_alu3 (a b : Int) (w : World) : Calls Tryz.prog 112 #[.int .i64 3, .int .i64 a, .int .i64 b] w fun e w' => e = .returned (.agg #[.int .i64 0, .int .i64 (mulV a b)]) ∧ Below w.heap.size w w' := by
  generalize hv : (mulV a b : Int) = v
  have hcl := fun w => impl_mul a b w
  rw [hv] at hcl
  clear hv
  have hs := fn_store w
  have hq := fn_size
  have hk : fnA[3]'(by rw [fn_size]; omega) = .func (.func 142) #[] #[] := rfl
  go_enter Tryz.func112, Tryz.ntmps112
  go_upto_region 3 with fail
  go_step
  go_step
  go_step
  rw [fn_lit]
  go_wp2_with (go_at_call 142; refine (hcl _).mono ?_; rintro e w1 ⟨rfl, rfl⟩)
  exact bodyPost_ret (v := .agg #[.int .i64 0, .int .i64 v]) (by simp [results, Tryz.results112, go_sem]) rfl ⟨rfl, al (al (Below.refl _ _) _) _⟩
theorem impl_alu4 (a b : Int) (w : World) : Calls Tryz.prog 112 #[.int .i64 4, .int .i64 a, .int .i64 b] w fun e w' => e = .returned (.agg #[.int .i64 0, .int .i64 (divV a b)]) ∧ Below w.heap.size w w' := by
  generalize hv : (divV a b : Int) = v
  have hcl := fun w => impl_div a b w
  rw [hv] at hcl
  clear hv
  have hs := fn_store w
  have hq := fn_size
  have hk : fnA[4]'(by rw [fn_size]; omega) = .func (.func 143) #[] #[] := rfl
  go_enter Tryz.func112, Tryz.ntmps112
  go_upto_region 3 with fail
  go_step
  go_step
  go_step
  rw [fn_lit]
  go_wp2_with (go_at_call 143; refine (hcl _).mono ?_; rintro e w1 ⟨rfl, rfl⟩)
  exact bodyPost_ret (v := .agg #[.int .i64 0, .int .i64 v]) (by simp [results, Tryz.results112, go_sem]) rfl ⟨rfl, al (al (Below.refl _ _) _) _⟩
theorem impl_alu5 (a b : Int) (w : World) : Calls Tryz.prog 112 #[.int .i64 5, .int .i64 a, .int .i64 b] w fun e w' => e = .returned (.agg #[.int .i64 0, .int .i64 (remV a b)]) ∧ Below w.heap.size w w' := by
  generalize hv : (remV a b : Int) = v
  have hcl := fun w => impl_rem a b w
  rw [hv] at hcl
  clear hv
  have hs := fn_store w
  have hq := fn_size
  have hk : fnA[5]'(by rw [fn_size]; omega) = .func (.func 144) #[] #[] := rfl
  go_enter Tryz.func112, Tryz.ntmps112
  go_upto_region 3 with fail
  go_step
  go_step
  go_step
  rw [fn_lit]
  go_wp2_with (go_at_call 144; refine (hcl _).mono ?_; rintro e w1 ⟨rfl, rfl⟩)
  exact bodyPost_ret (v := .agg #[.int .i64 0, .int .i64 v]) (by simp [results, Tryz.results112, go_sem]) rfl ⟨rfl, al (al (Below.refl _ _) _) _⟩
theorem impl_alu6 (a b : Int) (w : World) : Calls Tryz.prog 112 #[.int .i64 6, .int .i64 a, .int .i64 b] w fun e w' => e = .returned (.agg #[.int .i64 0, .int .i64 (bitV 1 a b)]) ∧ Below w.heap.size w w' := by
  generalize hv : (bitV 1 a b : Int) = v
  have hcl := fun w => impl_clos1 a b w
  rw [hv] at hcl
  clear hv
  have hs := fn_store w
  have hq := fn_size
  have hk : fnA[6]'(by rw [fn_size]; omega) = .func (.func 145) #[] #[] := rfl
  go_enter Tryz.func112, Tryz.ntmps112
  go_upto_region 3 with fail
  go_step
  go_step
  go_step
  rw [fn_lit]
  go_wp2_with (go_at_call 145; refine (hcl _).mono ?_; rintro e w1 ⟨rfl, hb⟩; obtain ⟨hc, hz⟩ := bcell hb)
  have k0 := cell_keep hb (cell_push _ (cell_new (i := 0) rfl))
  have k1 := cell_keep hb (cell_push _ (cell_new (i := 1) rfl))
  clear hc hz
  exact bodyPost_ret (v := .agg #[.int .i64 0, .int .i64 v]) (by simp [results, Tryz.results112, go_sem, k0, k1]) rfl ⟨rfl, ((on (al (al (Below.refl _ _) _) _) hb).setCell (by simp) _).setCell (by simp) _⟩
theorem impl_alu7 (a b : Int) (w : World) : Calls Tryz.prog 112 #[.int .i64 7, .int .i64 a, .int .i64 b] w fun e w' => e = .returned (.agg #[.int .i64 0, .int .i64 (bitV 2 a b)]) ∧ Below w.heap.size w w' := by
  generalize hv : (bitV 2 a b : Int) = v
  have hcl := fun w => impl_clos2 a b w
  rw [hv] at hcl
  clear hv
  have hs := fn_store w
  have hq := fn_size
  have hk : fnA[7]'(by rw [fn_size]; omega) = .func (.func 147) #[] #[] := rfl
  go_enter Tryz.func112, Tryz.ntmps112
  go_upto_region 3 with fail
  go_step
  go_step
  go_step
  rw [fn_lit]
  go_wp2_with (go_at_call 147; refine (hcl _).mono ?_; rintro e w1 ⟨rfl, hb⟩; obtain ⟨hc, hz⟩ := bcell hb)
  have k0 := cell_keep hb (cell_push _ (cell_new (i := 0) rfl))
  have k1 := cell_keep hb (cell_push _ (cell_new (i := 1) rfl))
  clear hc hz
  exact bodyPost_ret (v := .agg #[.int .i64 0, .int .i64 v]) (by simp [results, Tryz.results112, go_sem, k0, k1]) rfl ⟨rfl, ((on (al (al (Below.refl _ _) _) _) hb).setCell (by simp) _).setCell (by simp) _⟩
theorem impl_alu8 (a b : Int) (w : World) : Calls Tryz.prog 112 #[.int .i64 8, .int .i64 a, .int .i64 b] w fun e w' => e = .returned (.agg #[.int .i64 0, .int .i64 (bitV 3 a b)]) ∧ Below w.heap.size w w' := by
  generalize hv : (bitV 3 a b : Int) = v
  have hcl := fun w => impl_clos3 a b w
  rw [hv] at hcl
  clear hv
  have hs := fn_store w
  have hq := fn_size
  have hk : fnA[8]'(by rw [fn_size]; omega) = .func (.func 148) #[] #[] := rfl
  go_enter Tryz.func112, Tryz.ntmps112
  go_upto_region 3 with fail
  go_step
  go_step
  go_step
  rw [fn_lit]
  go_wp2_with (go_at_call 148; refine (hcl _).mono ?_; rintro e w1 ⟨rfl, hb⟩; obtain ⟨hc, hz⟩ := bcell hb)
  have k0 := cell_keep hb (cell_push _ (cell_new (i := 0) rfl))
  have k1 := cell_keep hb (cell_push _ (cell_new (i := 1) rfl))
  clear hc hz
  exact bodyPost_ret (v := .agg #[.int .i64 0, .int .i64 v]) (by simp [results, Tryz.results112, go_sem, k0, k1]) rfl ⟨rfl, ((on (al (al (Below.refl _ _) _) _) hb).setCell (by simp) _).setCell (by simp) _⟩
theorem impl_alu9 (a b : Int) (w : World) : Calls Tryz.prog 112 #[.int .i64 9, .int .i64 a, .int .i64 b] w fun e w' => e = .returned (.agg #[.int .i64 0, .int .i64 (shlV a b)]) ∧ Below w.heap.size w w' := by
  generalize hv : (shlV a b : Int) = v
  have hcl := fun w => impl_clos4 a b w
  rw [hv] at hcl
  clear hv
  have hs := fn_store w
  have hq := fn_size
  have hk : fnA[9]'(by rw [fn_size]; omega) = .func (.func 149) #[] #[] := rfl
  go_enter Tryz.func112, Tryz.ntmps112
  go_upto_region 3 with fail
  go_step
  go_step
  go_step
  rw [fn_lit]
  go_wp2_with (go_at_call 149; refine (hcl _).mono ?_; rintro e w1 ⟨rfl, rfl⟩)
  exact bodyPost_ret (v := .agg #[.int .i64 0, .int .i64 v]) (by simp [results, Tryz.results112, go_sem]) rfl ⟨rfl, al (al (Below.refl _ _) _) _⟩
theorem impl_alu10 (a b : Int) (w : World) : Calls Tryz.prog 112 #[.int .i64 10, .int .i64 a, .int .i64 b] w fun e w' => e = .returned (.agg #[.int .i64 0, .int .i64 (shrV a b)]) ∧ Below w.heap.size w w' := by
  generalize hv : (shrV a b : Int) = v
  have hcl := fun w => impl_clos5 a b w
  rw [hv] at hcl
  clear hv
  have hs := fn_store w
  have hq := fn_size
  have hk : fnA[10]'(by rw [fn_size]; omega) = .func (.func 151) #[] #[] := rfl
  go_enter Tryz.func112, Tryz.ntmps112
  go_upto_region 3 with fail
  go_step
  go_step
  go_step
  rw [fn_lit]
  go_wp2_with (go_at_call 151; refine (hcl _).mono ?_; rintro e w1 ⟨rfl, rfl⟩)
  exact bodyPost_ret (v := .agg #[.int .i64 0, .int .i64 v]) (by simp [results, Tryz.results112, go_sem]) rfl ⟨rfl, al (al (Below.refl _ _) _) _⟩
theorem impl_alu11 (a b : Int) (w : World) : Calls Tryz.prog 112 #[.int .i64 11, .int .i64 a, .int .i64 b] w fun e w' => e = .returned (.agg #[.int .i64 0, .int .i64 (if sgn a < sgn b then 1 else 0)]) ∧ Below w.heap.size w w' := by
  generalize hv : (if sgn a < sgn b then 1 else 0 : Int) = v
  have hcl := fun w => impl_less a b w
  rw [hv] at hcl
  clear hv
  have hs := fn_store w
  have hq := fn_size
  have hk : fnA[11]'(by rw [fn_size]; omega) = .func (.func 152) #[] #[] := rfl
  go_enter Tryz.func112, Tryz.ntmps112
  go_upto_region 3 with fail
  go_step
  go_step
  go_step
  rw [fn_lit]
  go_wp2_with (go_at_call 152; refine (hcl _).mono ?_; rintro e w1 ⟨rfl, rfl⟩)
  exact bodyPost_ret (v := .agg #[.int .i64 0, .int .i64 v]) (by simp [results, Tryz.results112, go_sem]) rfl ⟨rfl, al (al (Below.refl _ _) _) _⟩
def aluC (op : Int) : Int := if 1 ≤ op ∧ op ≤ 11 then 0 else 3
theorem impl_alu (op a b : Int) (w : World) : Calls Tryz.prog 112 #[.int .i64 op, .int .i64 a, .int .i64 b] w fun e w' => e = .returned (.agg #[.int .i64 (aluC op), .int .i64 (if 1 ≤ op ∧ op ≤ 11 then aluV op a b else 0)]) ∧ Below w.heap.size w w' := by
  by_cases h : 1 ≤ op ∧ op ≤ 11
  · rw [aluC, if_pos h, if_pos h]
    rcases (by omega : op = 1 ∨ op = 2 ∨ op = 3 ∨ op = 4 ∨ op = 5 ∨ op = 6 ∨ op = 7 ∨ op = 8 ∨ op = 9 ∨ op = 10 ∨ op = 11) with rfl | rfl | rfl | rfl | rfl | rfl | rfl | rfl | rfl | rfl | rfl
    · rw [aluV1]; exact impl_alu1 a b w
    · rw [aluV2]; exact impl_alu2 a b w
    · rw [aluV3]; exact impl_alu3 a b w
    · rw [aluV4]; exact impl_alu4 a b w
    · rw [aluV5]; exact impl_alu5 a b w
    · rw [aluV6]; exact impl_alu6 a b w
    · rw [aluV7]; exact impl_alu7 a b w
    · rw [aluV8]; exact impl_alu8 a b w
    · rw [aluV9]; exact impl_alu9 a b w
    · rw [aluV10]; exact impl_alu10 a b w
    · rw [aluV11]; exact impl_alu11 a b w
  · rw [aluC, if_neg h, if_neg h]
    have h : op < 1 ∨ 11 < op := by omega
    rcases h with h | h
    · go_enter Tryz.func112, Tryz.ntmps112
      go_wp2_with fail
      exact bodyPost_ret (v := .agg #[.int .i64 3, .int .i64 0]) (by simp [results, Tryz.results112, go_sem]) rfl ⟨rfl, al (Below.refl _ _) _⟩
    · have h1 : ¬ op < 1 := by omega
      go_enter Tryz.func112, Tryz.ntmps112
      go_wp2_with fail
      exact bodyPost_ret (v := .agg #[.int .i64 3, .int .i64 0]) (by simp [results, Tryz.results112, go_sem]) rfl ⟨rfl, al (Below.refl _ _) _⟩
set_option linter.unusedVariables false
theorem Pags.store {w : World} {base g p cap : Nat} {zs : List Int} (h : Pags w base (.slice (some ⟨g, 0, none⟩) p cap) p zs) (j : Nat) (x : Int) :
    Pags (w.setCell ⟨g, j, none⟩ (.int .i64 x)) base (.slice (some ⟨g, 0, none⟩) p cap) p (zs.set j x) := by
  obtain ⟨h1, h2⟩ := World.ownsRow.stored h j (.int .i64 x)
  unfold Pags
  rw [List.map_set]
  exact h1
theorem Pags.free {w : World} {base g p cap : Nat} {zs : List Int} (h : Pags w base (.slice (some ⟨g, 0, none⟩) p cap) p zs) (j : Nat) : w.frozen? ⟨g, j, none⟩ = false := World.ownsRow.frozenAt h j
theorem Pags.lt {w : World} {base g p cap : Nat} {zs : List Int} (h : Pags w base (.slice (some ⟨g, 0, none⟩) p cap) p zs) : base ≤ g ∧ g < w.heap.size := World.ownsRow.lt h g rfl
end Go.Proofs.YtaefollmeoepkaaGreatDoor
