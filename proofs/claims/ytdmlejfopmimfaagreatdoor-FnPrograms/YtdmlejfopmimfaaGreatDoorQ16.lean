/- Texts of this seat, joined. -/
import Derived.Test.YtdmlejfopmimfaaGreatDoorQ04
import Derived.Test.YtdmlejfopmimfaaGreatDoorQ12
namespace Go.Proofs.YtdmlejfopmimfaaGreatDoor
open Go.RowKit

/-- The word of an instruction, 0 where it has a fault. -/
def encV (op d a imm : Int) : Int := if insC op d a imm = 0 then op * 16777216 + d * 1048576 + a * 65536 + imm else 0

theorem insC_bounds {op d a imm : Int} (h : insC op d a imm = 0) : 1 ≤ op ∧ op ≤ 26 ∧ 0 ≤ d ∧ d ≤ 15 ∧ 0 ≤ a ∧ a ≤ 15 ∧ 0 ≤ imm ∧ imm ≤ 65535 := by
  by_cases g : 1 ≤ op ∧ op ≤ 26 ∧ 0 ≤ d ∧ d ≤ 15 ∧ 0 ≤ a ∧ a ≤ 15 ∧ 0 ≤ imm ∧ imm ≤ 65535
  · exact g
  · rw [insC_3 g] at h; omega

theorem w64 (n : Int) (h : -9223372036854775808 ≤ n ∧ n ≤ 9223372036854775807) : wrap64 n = n := by unfold wrap64; omega
theorem enc_wrap {op d a imm : Int} (h : 1 ≤ op ∧ op ≤ 26 ∧ 0 ≤ d ∧ d ≤ 15 ∧ 0 ≤ a ∧ a ≤ 15 ∧ 0 ≤ imm ∧ imm ≤ 65535) :
    wrap64 (wrap64 (wrap64 (wrap64 (op * 16777216) + wrap64 (d * 1048576)) + wrap64 (a * 65536)) + imm) = op * 16777216 + d * 1048576 + a * 65536 + imm := by
  rw [w64 (op * 16777216) (by omega), w64 (d * 1048576) (by omega), w64 (a * 65536) (by omega), w64 (op * 16777216 + d * 1048576) (by omega), w64 (op * 16777216 + d * 1048576 + a * 65536) (by omega), w64 _ (by omega)]

set_option maxHeartbeats 2000000 in
theorem impl_encode (op d a imm : Int) (w : World) :
    Calls Tryz.prog 52 #[.agg #[.int .i64 op, .int .i64 d, .int .i64 a, .int .i64 imm]] w fun e w' => e = .returned (.agg #[.int .i64 (insC op d a imm), .int .i64 (encV op d a imm)]) ∧ Below w.heap.size w w' := by
  have hf := fun w => impl_insFault op d a imm w
  by_cases h : insC op d a imm = 0
  · have e : encV op d a imm = op * 16777216 + d * 1048576 + a * 65536 + imm := if_pos h
    have ew := enc_wrap (insC_bounds h)
    rw [e]
    clear e
    generalize insC op d a imm = c at *
    subst h
    generalize op * 16777216 + d * 1048576 + a * 65536 + imm = v at *
    go_enter Tryz.func52, Tryz.ntmps52
    go_wp2_with (go_at_call 67; refine (hf _).mono ?_; rintro e w1 ⟨rfl, hb⟩; obtain ⟨hc, hz⟩ := bcell hb)
    exact bodyPost_ret (v := .agg #[.int .i64 0, .int .i64 v]) (by simp [results, Tryz.results52, go_sem, hc, ew]) rfl ⟨rfl, (((((Below.refl _ _).alloc (Nat.le_refl _) _).alloc (by simp) _).trans (hb.mono (by simp; omega))).setCell (by simp) _).setCell (by simp) _⟩
  · have g : (insC op d a imm == 0) = false := beq_eq_false_iff_ne.2 h
    have e : encV op d a imm = 0 := if_neg h
    rw [e]
    clear e h
    generalize insC op d a imm = c at *
    go_enter Tryz.func52, Tryz.ntmps52
    go_wp2_with (go_at_call 67; refine (hf _).mono ?_; rintro e w1 ⟨rfl, hb⟩; obtain ⟨hc, hz⟩ := bcell hb)
    exact bodyPost_ret (v := .agg #[.int .i64 c, .int .i64 0]) (by simp [results, Tryz.results52, go_sem, hc]) rfl ⟨rfl, (((((Below.refl _ _).alloc (Nat.le_refl _) _).alloc (by simp) _).trans (hb.mono (by simp; omega))).setCell (by simp) _).setCell (by simp) _⟩

set_option maxHeartbeats 2000000 in
theorem spec_encode (op d a imm : Int) (w : World) :
    Calls Tryz.prog 34 #[.agg #[.int .i64 op, .int .i64 d, .int .i64 a, .int .i64 imm]] w fun e w' => e = .returned (.agg #[.int .i64 (insC op d a imm), .int .i64 (encV op d a imm)]) ∧ Below w.heap.size w w' := by
  have hf := fun w => spec_insFault op d a imm w
  by_cases h : insC op d a imm = 0
  · have e : encV op d a imm = op * 16777216 + d * 1048576 + a * 65536 + imm := if_pos h
    have ew := enc_wrap (insC_bounds h)
    rw [e]
    clear e
    generalize insC op d a imm = c at *
    subst h
    generalize op * 16777216 + d * 1048576 + a * 65536 + imm = v at *
    go_enter Tryz.func34, Tryz.ntmps34
    go_wp2_with (go_at_call 62; refine (hf _).mono ?_; rintro e w1 ⟨rfl, hb⟩; obtain ⟨hc, hz⟩ := bcell hb)
    exact bodyPost_ret (v := .agg #[.int .i64 0, .int .i64 v]) (by simp [results, Tryz.results34, go_sem, hc, ew]) rfl ⟨rfl, (((((Below.refl _ _).alloc (Nat.le_refl _) _).alloc (by simp) _).trans (hb.mono (by simp; omega))).setCell (by simp) _).setCell (by simp) _⟩
  · have g : (insC op d a imm == 0) = false := beq_eq_false_iff_ne.2 h
    have e : encV op d a imm = 0 := if_neg h
    rw [e]
    clear e h
    generalize insC op d a imm = c at *
    go_enter Tryz.func34, Tryz.ntmps34
    go_wp2_with (go_at_call 62; refine (hf _).mono ?_; rintro e w1 ⟨rfl, hb⟩; obtain ⟨hc, hz⟩ := bcell hb)
    exact bodyPost_ret (v := .agg #[.int .i64 c, .int .i64 0]) (by simp [results, Tryz.results34, go_sem, hc]) rfl ⟨rfl, (((((Below.refl _ _).alloc (Nat.le_refl _) _).alloc (by simp) _).trans (hb.mono (by simp; omega))).setCell (by simp) _).setCell (by simp) _⟩
end Go.Proofs.YtdmlejfopmimfaaGreatDoor
namespace Go.Proofs.YtdmlejfopmimfaaGreatDoor
open Go.RowKit
set_option linter.unusedVariables false

/-- The first op from k on, n of them, that has this name. -/
def opnF (s : ByteArray) : Nat → Nat → Option Nat
  | 0, _ => none
  | n + 1, k => if nm k = s then some k else opnF s n (k + 1)
def opnO : Option Nat → Value
  | some k => .agg #[.int .i64 0, .int .i64 k]
  | none => .agg #[.int .i64 4, .int .i64 0]
def opnR (s : ByteArray) : Value := opnO (opnF s 26 1)
theorem ne_bytes {a b : ByteArray} (h : ¬ a = b) : (a.toList == b.toList) = false := by
  cases e : (a.toList == b.toList)
  · rfl
  · exact absurd ((Go.MapKept.bytes_beq a b).mp ((Go.beq_toListBytes a b).trans e)) h
theorem opnF_hit (s : ByteArray) (j : Nat) (h : j ≤ 26) (e : nm j = s) : opnF s (27 - j) j = some j := by
  obtain ⟨n, hn⟩ : ∃ n, 27 - j = n + 1 := ⟨26 - j, by omega⟩
  rw [hn, opnF, if_pos e]
theorem opnF_on (s : ByteArray) (j : Nat) (h : j ≤ 26) (e : ¬ nm j = s) : opnF s (27 - j) j = opnF s (27 - (j + 1)) (j + 1) := by
  obtain ⟨n, hn⟩ : ∃ n, 27 - j = n + 1 := ⟨26 - j, by omega⟩
  rw [hn, opnF, if_neg e]
  congr 1
  omega
theorem field_textO (x y : Value) (w : World) : (Instr.field 27 (.agg #[x, y]) 1).run Tryz.prog w = .ok y w := by kernel_rfl

/-- The block that a call's answer is laid in stays while others are made. -/
theorem res_stay {w w1 : World} {cs : Array Value} {t : TypeId} (hB : Below (w.alloc (.cells cs t)).heap.size (w.alloc (.cells cs t)) w1) :
    (∀ i v, cs[i]? = some v → w1.cell? ⟨w.heap.size, i, none⟩ = some v) ∧ (∀ i, w1.frozen? ⟨w.heap.size, i, none⟩ = false) ∧ w.heap.size < w1.heap.size := by
  have hs : w.heap.size < w1.heap.size := by have := hB.size; simp at this; omega
  refine ⟨fun i v h => ?_, fun i => ?_, hs⟩
  · rw [hB.cell (p := ⟨w.heap.size, i, none⟩) (by simp)]; exact cell_new h
  · rw [hB.frozen (p := ⟨w.heap.size, i, none⟩) (by simp)]; exact World.frozen?_alloc_at _ _ _ _ rfl
set_option maxHeartbeats 1000000 in
theorem i_opNumber (s : ByteArray) (w : World) :
    Calls Tryz.prog 49 #[.string s] w fun e w' => e = .returned (opnR s) ∧ Below w.heap.size w w' := by
  have ft := field_textO
  go_enter Tryz.func49, Tryz.ntmps49
  go_wp2_with fail
  go_loopw [3] (fun c wr => ∃ j : Nat, 1 ≤ j ∧ j ≤ 27 ∧ c = .int .i64 j ∧ Hid (Below (w.alloc (.cells #[.int .i64 0, .int .i64 0] 62)).heap.size (w.alloc (.cells #[.int .i64 0, .int .i64 0] 62)) wr) ∧ Hid (opnF s 26 1 = opnF s (27 - j) j)) (fun c _ => 27 - (intOf c).toNat)
  case atStart => exact ⟨1, by omega, by omega, rfl, Below.refl _ _, rfl⟩
  case round =>
    obtain ⟨j, h1, h2, rfl, hB, hI⟩ := hrel
    obtain ⟨g1, g2, hs⟩ := res_stay hB.out
    have k0 := g1 0 (.int .i64 0) rfl
    have k1 := g1 1 (.int .i64 0) rfl
    have f0 := g2 0
    have f1 := g2 1
    clear g1 g2
    by_cases hlt : j ≤ 26
    · have hJ : (j : Int) ≤ 26 := by omega
      by_cases he : nm j = s
      · have HE : Hid (nm j = s) := he
        go_wp2_with (go_at_call 68; refine (impl_opName_in j h1 hlt _).mono ?_; rintro e w1 ⟨rfl, hb⟩; obtain ⟨hc, hz⟩ := bcell hb)
        have k0 := cell_keep hb k0
        have k1 := cell_keep hb k1
        exact bodyPost_ret (v := .agg #[.int .i64 0, .int .i64 j]) (by simp [results, Tryz.results49, go_sem, k0, k1]) rfl ⟨by rw [opnR, hI.out, opnF_hit s j hlt HE.out]; rfl, ((on (on (al (Below.refl _ _) _) hB.out) hb).setCell (by simp) _).setCell (by simp) _⟩
      · have HE : Hid (¬ nm j = s) := he
        have he2 := ne_bytes he
        go_wp2_with (go_at_call 68; refine (impl_opName_in j h1 hlt _).mono ?_; rintro e w1 ⟨rfl, hb⟩; obtain ⟨hc, hz⟩ := bcell hb)
        go_roundw
        case rel => exact ⟨j + 1, by omega, by omega, by go_num, on hB.out hb, by show _ = _; rw [hI.out]; exact opnF_on s j hlt HE.out⟩
        case measure => simp [intOf]; omega
    · have hJ : ¬ (j : Int) ≤ 26 := by omega
      obtain rfl : j = 27 := by omega
      go_wp2_with fail
      exact bodyPost_ret (v := .agg #[.int .i64 4, .int .i64 0]) (by simp [results, Tryz.results49, go_sem, k0, k1]) rfl ⟨by rw [opnR, hI.out]; rfl, ((on (al (Below.refl _ _) _) hB.out).setCell (by simp) _).setCell (by simp) _⟩

set_option maxHeartbeats 1000000 in
theorem s_opNumber (s : ByteArray) (w : World) :
    Calls Tryz.prog 58 #[.string s] w fun e w' => e = .returned (opnR s) ∧ Below w.heap.size w w' := by
  go_enter Tryz.func58, Tryz.ntmps58
  go_wp2_with (go_at_call 63; refine (spec_names _).mono ?_; rintro e w1 ⟨rfl, hb, hn⟩; obtain ⟨g, hg⟩ : ∃ g, g = (w.alloc (.cells #[.int .i64 0, .int .i64 0] 62)).heap.size := ⟨_, rfl⟩; rw [← hg] at hn; rw [← hg]; clear hg)
  obtain ⟨g1, g2, hs⟩ := res_stay hb
  have k0 := g1 0 (.int .i64 0) rfl
  have k1 := g1 1 (.int .i64 0) rfl
  have f0 := g2 0
  have f1 := g2 1
  clear g1 g2
  have HB : Hid (Below _ _ w1) := hb
  have HN : Hid (∀ k, k < 27 → w1.cell? ⟨g, k, none⟩ = some (.string (nm k))) := hn
  clear hn hb
  go_loop [4] (fun c => ∃ j : Nat, 1 ≤ j ∧ j ≤ 27 ∧ c = .int .i64 j ∧ Hid (opnF s 26 1 = opnF s (27 - j) j)) (fun c => 27 - (intOf c).toNat)
  case atStart => exact ⟨1, by omega, by omega, rfl, rfl⟩
  case round =>
    obtain ⟨j, h1, h2, rfl, hI⟩ := hrel
    by_cases hlt : j < 27
    · have hJ : (j : Int) < 27 := by omega
      have hk := HN.out j hlt
      by_cases he : nm j = s
      · have HE : Hid (nm j = s) := he
        go_wp2_with fail
        exact bodyPost_ret (v := .agg #[.int .i64 0, .int .i64 j]) (by simp [results, Tryz.results58, go_sem, k0, k1]) rfl ⟨by rw [opnR, hI.out, opnF_hit s j (by omega) HE.out]; rfl, ((on (al (Below.refl _ _) _) HB.out).setCell (by simp) _).setCell (by simp) _⟩
      · have HE : Hid (¬ nm j = s) := he
        have he2 := ne_bytes he
        go_wp2_with fail
        go_round
        case rel => exact ⟨j + 1, by omega, by omega, by go_num, by show _ = _; rw [hI.out]; exact opnF_on s j (by omega) HE.out⟩
        case measure => simp [intOf]; omega
    · have hJ : ¬ (j : Int) < 27 := by omega
      obtain rfl : j = 27 := by omega
      go_wp2_with fail
      exact bodyPost_ret (v := .agg #[.int .i64 4, .int .i64 0]) (by simp [results, Tryz.results58, go_sem, k0, k1]) rfl ⟨by rw [opnR, hI.out]; rfl, ((on (al (Below.refl _ _) _) HB.out).setCell (by simp) _).setCell (by simp) _⟩
end Go.Proofs.YtdmlejfopmimfaaGreatDoor
