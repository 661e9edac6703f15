/- SoloText by the program. -/
import Derived.Test.YtcneipilhlcfkaaDoorStw
import Derived.Test.YtcneipilhlcfkaaDoorHmo
import Derived.Test.YtcneipilhlcfkaaDoorSfa
import Derived.Deep.RegionHeld3
import Derived.Deep.CutRange
namespace Go.Proofs.YtcneipilhlcfkaaDoor
open Go.RowKit
set_option linter.unusedVariables false

theorem i_oneIf (b : Bool) (w : World) : Calls Tryd.prog 44 #[.bool b] w fun e w' => e = .returned (.int .i64 (b2 b)) ∧ w' = w := by
  cases b
  · go_enter Tryd.func44, Tryd.ntmps44
    go_wp2_with fail
    go_ret
    exact ⟨rfl, rfl⟩
  · go_enter Tryd.func44, Tryd.ntmps44
    go_wp2_with fail
    go_ret
    exact ⟨rfl, rfl⟩
theorem i_itoa (z : Int) (h0 : 0 ≤ z) (h1 : z ≤ 4294967295) (w : World) (ht : Lib.TabIs Tryd.prog w "internal/strconv.uint64pow10" .u64 Lib.pow10Tab) :
    Calls Tryd.prog 54 #[.int .i64 z] w fun e w' => e = .returned (.string (bs (Lib.decDigits z.toNat))) ∧ Below w.heap.size w w' := by
  refine (Tryd.strconv_Itoa z (by omega) (by omega) w ht).mono ?_
  rintro e w' ⟨rfl, k, os, rfl⟩
  exact ⟨by rw [Lib.itoa, if_neg (by omega)]; rfl, Lib.below_grow _ w (Nat.le_refl _) k os⟩
theorem ix16_0 (H : Ht) (w : World) : (Instr.index 58 (.agg #[.int .i64 (gt H.regs 0), .int .i64 (gt H.regs 1), .int .i64 (gt H.regs 2), .int .i64 (gt H.regs 3), .int .i64 (gt H.regs 4), .int .i64 (gt H.regs 5), .int .i64 (gt H.regs 6), .int .i64 (gt H.regs 7), .int .i64 (gt H.regs 8), .int .i64 (gt H.regs 9), .int .i64 (gt H.regs 10), .int .i64 (gt H.regs 11), .int .i64 (gt H.regs 12), .int .i64 (gt H.regs 13), .int .i64 (gt H.regs 14), .int .i64 (gt H.regs 15)]) (.int .i64 ((0 : Nat) : Int))).run Tryd.prog w = .ok (.int .i64 (gt H.regs 0)) w := by kernel_rfl
theorem ix16_1 (H : Ht) (w : World) : (Instr.index 58 (.agg #[.int .i64 (gt H.regs 0), .int .i64 (gt H.regs 1), .int .i64 (gt H.regs 2), .int .i64 (gt H.regs 3), .int .i64 (gt H.regs 4), .int .i64 (gt H.regs 5), .int .i64 (gt H.regs 6), .int .i64 (gt H.regs 7), .int .i64 (gt H.regs 8), .int .i64 (gt H.regs 9), .int .i64 (gt H.regs 10), .int .i64 (gt H.regs 11), .int .i64 (gt H.regs 12), .int .i64 (gt H.regs 13), .int .i64 (gt H.regs 14), .int .i64 (gt H.regs 15)]) (.int .i64 ((1 : Nat) : Int))).run Tryd.prog w = .ok (.int .i64 (gt H.regs 1)) w := by kernel_rfl
theorem ix16_2 (H : Ht) (w : World) : (Instr.index 58 (.agg #[.int .i64 (gt H.regs 0), .int .i64 (gt H.regs 1), .int .i64 (gt H.regs 2), .int .i64 (gt H.regs 3), .int .i64 (gt H.regs 4), .int .i64 (gt H.regs 5), .int .i64 (gt H.regs 6), .int .i64 (gt H.regs 7), .int .i64 (gt H.regs 8), .int .i64 (gt H.regs 9), .int .i64 (gt H.regs 10), .int .i64 (gt H.regs 11), .int .i64 (gt H.regs 12), .int .i64 (gt H.regs 13), .int .i64 (gt H.regs 14), .int .i64 (gt H.regs 15)]) (.int .i64 ((2 : Nat) : Int))).run Tryd.prog w = .ok (.int .i64 (gt H.regs 2)) w := by kernel_rfl
theorem ix16_3 (H : Ht) (w : World) : (Instr.index 58 (.agg #[.int .i64 (gt H.regs 0), .int .i64 (gt H.regs 1), .int .i64 (gt H.regs 2), .int .i64 (gt H.regs 3), .int .i64 (gt H.regs 4), .int .i64 (gt H.regs 5), .int .i64 (gt H.regs 6), .int .i64 (gt H.regs 7), .int .i64 (gt H.regs 8), .int .i64 (gt H.regs 9), .int .i64 (gt H.regs 10), .int .i64 (gt H.regs 11), .int .i64 (gt H.regs 12), .int .i64 (gt H.regs 13), .int .i64 (gt H.regs 14), .int .i64 (gt H.regs 15)]) (.int .i64 ((3 : Nat) : Int))).run Tryd.prog w = .ok (.int .i64 (gt H.regs 3)) w := by kernel_rfl
theorem ix16_4 (H : Ht) (w : World) : (Instr.index 58 (.agg #[.int .i64 (gt H.regs 0), .int .i64 (gt H.regs 1), .int .i64 (gt H.regs 2), .int .i64 (gt H.regs 3), .int .i64 (gt H.regs 4), .int .i64 (gt H.regs 5), .int .i64 (gt H.regs 6), .int .i64 (gt H.regs 7), .int .i64 (gt H.regs 8), .int .i64 (gt H.regs 9), .int .i64 (gt H.regs 10), .int .i64 (gt H.regs 11), .int .i64 (gt H.regs 12), .int .i64 (gt H.regs 13), .int .i64 (gt H.regs 14), .int .i64 (gt H.regs 15)]) (.int .i64 ((4 : Nat) : Int))).run Tryd.prog w = .ok (.int .i64 (gt H.regs 4)) w := by kernel_rfl
theorem ix16_5 (H : Ht) (w : World) : (Instr.index 58 (.agg #[.int .i64 (gt H.regs 0), .int .i64 (gt H.regs 1), .int .i64 (gt H.regs 2), .int .i64 (gt H.regs 3), .int .i64 (gt H.regs 4), .int .i64 (gt H.regs 5), .int .i64 (gt H.regs 6), .int .i64 (gt H.regs 7), .int .i64 (gt H.regs 8), .int .i64 (gt H.regs 9), .int .i64 (gt H.regs 10), .int .i64 (gt H.regs 11), .int .i64 (gt H.regs 12), .int .i64 (gt H.regs 13), .int .i64 (gt H.regs 14), .int .i64 (gt H.regs 15)]) (.int .i64 ((5 : Nat) : Int))).run Tryd.prog w = .ok (.int .i64 (gt H.regs 5)) w := by kernel_rfl
theorem ix16_6 (H : Ht) (w : World) : (Instr.index 58 (.agg #[.int .i64 (gt H.regs 0), .int .i64 (gt H.regs 1), .int .i64 (gt H.regs 2), .int .i64 (gt H.regs 3), .int .i64 (gt H.regs 4), .int .i64 (gt H.regs 5), .int .i64 (gt H.regs 6), .int .i64 (gt H.regs 7), .int .i64 (gt H.regs 8), .int .i64 (gt H.regs 9), .int .i64 (gt H.regs 10), .int .i64 (gt H.regs 11), .int .i64 (gt H.regs 12), .int .i64 (gt H.regs 13), .int .i64 (gt H.regs 14), .int .i64 (gt H.regs 15)]) (.int .i64 ((6 : Nat) : Int))).run Tryd.prog w = .ok (.int .i64 (gt H.regs 6)) w := by kernel_rfl
theorem ix16_7 (H : Ht) (w : World) : (Instr.index 58 (.agg #[.int .i64 (gt H.regs 0), .int .i64 (gt H.regs 1), .int .i64 (gt H.regs 2), .int .i64 (gt H.regs 3), .int .i64 (gt H.regs 4), .int .i64 (gt H.regs 5), .int .i64 (gt H.regs 6), .int .i64 (gt H.regs 7), .int .i64 (gt H.regs 8), .int .i64 (gt H.regs 9), .int .i64 (gt H.regs 10), .int .i64 (gt H.regs 11), .int .i64 (gt H.regs 12), .int .i64 (gt H.regs 13), .int .i64 (gt H.regs 14), .int .i64 (gt H.regs 15)]) (.int .i64 ((7 : Nat) : Int))).run Tryd.prog w = .ok (.int .i64 (gt H.regs 7)) w := by kernel_rfl
theorem ix16_8 (H : Ht) (w : World) : (Instr.index 58 (.agg #[.int .i64 (gt H.regs 0), .int .i64 (gt H.regs 1), .int .i64 (gt H.regs 2), .int .i64 (gt H.regs 3), .int .i64 (gt H.regs 4), .int .i64 (gt H.regs 5), .int .i64 (gt H.regs 6), .int .i64 (gt H.regs 7), .int .i64 (gt H.regs 8), .int .i64 (gt H.regs 9), .int .i64 (gt H.regs 10), .int .i64 (gt H.regs 11), .int .i64 (gt H.regs 12), .int .i64 (gt H.regs 13), .int .i64 (gt H.regs 14), .int .i64 (gt H.regs 15)]) (.int .i64 ((8 : Nat) : Int))).run Tryd.prog w = .ok (.int .i64 (gt H.regs 8)) w := by kernel_rfl
theorem ix16_9 (H : Ht) (w : World) : (Instr.index 58 (.agg #[.int .i64 (gt H.regs 0), .int .i64 (gt H.regs 1), .int .i64 (gt H.regs 2), .int .i64 (gt H.regs 3), .int .i64 (gt H.regs 4), .int .i64 (gt H.regs 5), .int .i64 (gt H.regs 6), .int .i64 (gt H.regs 7), .int .i64 (gt H.regs 8), .int .i64 (gt H.regs 9), .int .i64 (gt H.regs 10), .int .i64 (gt H.regs 11), .int .i64 (gt H.regs 12), .int .i64 (gt H.regs 13), .int .i64 (gt H.regs 14), .int .i64 (gt H.regs 15)]) (.int .i64 ((9 : Nat) : Int))).run Tryd.prog w = .ok (.int .i64 (gt H.regs 9)) w := by kernel_rfl
theorem ix16_10 (H : Ht) (w : World) : (Instr.index 58 (.agg #[.int .i64 (gt H.regs 0), .int .i64 (gt H.regs 1), .int .i64 (gt H.regs 2), .int .i64 (gt H.regs 3), .int .i64 (gt H.regs 4), .int .i64 (gt H.regs 5), .int .i64 (gt H.regs 6), .int .i64 (gt H.regs 7), .int .i64 (gt H.regs 8), .int .i64 (gt H.regs 9), .int .i64 (gt H.regs 10), .int .i64 (gt H.regs 11), .int .i64 (gt H.regs 12), .int .i64 (gt H.regs 13), .int .i64 (gt H.regs 14), .int .i64 (gt H.regs 15)]) (.int .i64 ((10 : Nat) : Int))).run Tryd.prog w = .ok (.int .i64 (gt H.regs 10)) w := by kernel_rfl
theorem ix16_11 (H : Ht) (w : World) : (Instr.index 58 (.agg #[.int .i64 (gt H.regs 0), .int .i64 (gt H.regs 1), .int .i64 (gt H.regs 2), .int .i64 (gt H.regs 3), .int .i64 (gt H.regs 4), .int .i64 (gt H.regs 5), .int .i64 (gt H.regs 6), .int .i64 (gt H.regs 7), .int .i64 (gt H.regs 8), .int .i64 (gt H.regs 9), .int .i64 (gt H.regs 10), .int .i64 (gt H.regs 11), .int .i64 (gt H.regs 12), .int .i64 (gt H.regs 13), .int .i64 (gt H.regs 14), .int .i64 (gt H.regs 15)]) (.int .i64 ((11 : Nat) : Int))).run Tryd.prog w = .ok (.int .i64 (gt H.regs 11)) w := by kernel_rfl
theorem ix16_12 (H : Ht) (w : World) : (Instr.index 58 (.agg #[.int .i64 (gt H.regs 0), .int .i64 (gt H.regs 1), .int .i64 (gt H.regs 2), .int .i64 (gt H.regs 3), .int .i64 (gt H.regs 4), .int .i64 (gt H.regs 5), .int .i64 (gt H.regs 6), .int .i64 (gt H.regs 7), .int .i64 (gt H.regs 8), .int .i64 (gt H.regs 9), .int .i64 (gt H.regs 10), .int .i64 (gt H.regs 11), .int .i64 (gt H.regs 12), .int .i64 (gt H.regs 13), .int .i64 (gt H.regs 14), .int .i64 (gt H.regs 15)]) (.int .i64 ((12 : Nat) : Int))).run Tryd.prog w = .ok (.int .i64 (gt H.regs 12)) w := by kernel_rfl
theorem ix16_13 (H : Ht) (w : World) : (Instr.index 58 (.agg #[.int .i64 (gt H.regs 0), .int .i64 (gt H.regs 1), .int .i64 (gt H.regs 2), .int .i64 (gt H.regs 3), .int .i64 (gt H.regs 4), .int .i64 (gt H.regs 5), .int .i64 (gt H.regs 6), .int .i64 (gt H.regs 7), .int .i64 (gt H.regs 8), .int .i64 (gt H.regs 9), .int .i64 (gt H.regs 10), .int .i64 (gt H.regs 11), .int .i64 (gt H.regs 12), .int .i64 (gt H.regs 13), .int .i64 (gt H.regs 14), .int .i64 (gt H.regs 15)]) (.int .i64 ((13 : Nat) : Int))).run Tryd.prog w = .ok (.int .i64 (gt H.regs 13)) w := by kernel_rfl
theorem ix16_14 (H : Ht) (w : World) : (Instr.index 58 (.agg #[.int .i64 (gt H.regs 0), .int .i64 (gt H.regs 1), .int .i64 (gt H.regs 2), .int .i64 (gt H.regs 3), .int .i64 (gt H.regs 4), .int .i64 (gt H.regs 5), .int .i64 (gt H.regs 6), .int .i64 (gt H.regs 7), .int .i64 (gt H.regs 8), .int .i64 (gt H.regs 9), .int .i64 (gt H.regs 10), .int .i64 (gt H.regs 11), .int .i64 (gt H.regs 12), .int .i64 (gt H.regs 13), .int .i64 (gt H.regs 14), .int .i64 (gt H.regs 15)]) (.int .i64 ((14 : Nat) : Int))).run Tryd.prog w = .ok (.int .i64 (gt H.regs 14)) w := by kernel_rfl
theorem ix16_15 (H : Ht) (w : World) : (Instr.index 58 (.agg #[.int .i64 (gt H.regs 0), .int .i64 (gt H.regs 1), .int .i64 (gt H.regs 2), .int .i64 (gt H.regs 3), .int .i64 (gt H.regs 4), .int .i64 (gt H.regs 5), .int .i64 (gt H.regs 6), .int .i64 (gt H.regs 7), .int .i64 (gt H.regs 8), .int .i64 (gt H.regs 9), .int .i64 (gt H.regs 10), .int .i64 (gt H.regs 11), .int .i64 (gt H.regs 12), .int .i64 (gt H.regs 13), .int .i64 (gt H.regs 14), .int .i64 (gt H.regs 15)]) (.int .i64 ((15 : Nat) : Int))).run Tryd.prog w = .ok (.int .i64 (gt H.regs 15)) w := by kernel_rfl
theorem ix16 (H : Ht) (j : Nat) (h : j < 16) (w : World) : (Instr.index 58 (.agg #[.int .i64 (gt H.regs 0), .int .i64 (gt H.regs 1), .int .i64 (gt H.regs 2), .int .i64 (gt H.regs 3), .int .i64 (gt H.regs 4), .int .i64 (gt H.regs 5), .int .i64 (gt H.regs 6), .int .i64 (gt H.regs 7), .int .i64 (gt H.regs 8), .int .i64 (gt H.regs 9), .int .i64 (gt H.regs 10), .int .i64 (gt H.regs 11), .int .i64 (gt H.regs 12), .int .i64 (gt H.regs 13), .int .i64 (gt H.regs 14), .int .i64 (gt H.regs 15)]) (.int .i64 (j : Int))).run Tryd.prog w = .ok (.int .i64 (gt H.regs j)) w := by
  have e : j = 0 ∨ j = 1 ∨ j = 2 ∨ j = 3 ∨ j = 4 ∨ j = 5 ∨ j = 6 ∨ j = 7 ∨ j = 8 ∨ j = 9 ∨ j = 10 ∨ j = 11 ∨ j = 12 ∨ j = 13 ∨ j = 14 ∨ j = 15 := by omega
  rcases e with rfl | rfl | rfl | rfl | rfl | rfl | rfl | rfl | rfl | rfl | rfl | rfl | rfl | rfl | rfl | rfl
  · exact ix16_0 H w
  · exact ix16_1 H w
  · exact ix16_2 H w
  · exact ix16_3 H w
  · exact ix16_4 H w
  · exact ix16_5 H w
  · exact ix16_6 H w
  · exact ix16_7 H w
  · exact ix16_8 H w
  · exact ix16_9 H w
  · exact ix16_10 H w
  · exact ix16_11 H w
  · exact ix16_12 H w
  · exact ix16_13 H w
  · exact ix16_14 H w
  · exact ix16_15 H w
set_option maxRecDepth 20000 in
set_option maxHeartbeats 8000000 in
theorem i_regsLine (q : Nat) (H : Ht) (i o : Value) (w : World) (hv : Vb w q (mca H i o) 63) (hw : H.regs.all isW = true) (ht : Lib.TabIs Tryd.prog w "internal/strconv.uint64pow10" .u64 Lib.pow10Tab) :
    Calls Tryd.prog 45 #[.pointer (some ⟨q, 0, none⟩)] w fun e w' => e = .returned (.string (bs (regsW H.regs))) ∧ Below w.heap.size w w' := by
  obtain ⟨V, hV⟩ : ∃ V, bs (regsW H.regs) = V := ⟨_, rfl⟩
  rw [hV]
  have HV : Hid (bs (regsW H.regs) = V) := hV
  have HW : Hid (H.regs.all isW = true) := hw
  have HT : Hid (Lib.TabIs Tryd.prog w "internal/strconv.uint64pow10" .u64 Lib.pow10Tab) := ht
  have q0 : w.cell? ⟨q, 0, none⟩ = some (.int .i64 (gt H.regs 0)) := hv.cell 0 rfl
  have q1 : w.cell? ⟨q, 1, none⟩ = some (.int .i64 (gt H.regs 1)) := hv.cell 1 rfl
  have q2 : w.cell? ⟨q, 2, none⟩ = some (.int .i64 (gt H.regs 2)) := hv.cell 2 rfl
  have q3 : w.cell? ⟨q, 3, none⟩ = some (.int .i64 (gt H.regs 3)) := hv.cell 3 rfl
  have q4 : w.cell? ⟨q, 4, none⟩ = some (.int .i64 (gt H.regs 4)) := hv.cell 4 rfl
  have q5 : w.cell? ⟨q, 5, none⟩ = some (.int .i64 (gt H.regs 5)) := hv.cell 5 rfl
  have q6 : w.cell? ⟨q, 6, none⟩ = some (.int .i64 (gt H.regs 6)) := hv.cell 6 rfl
  have q7 : w.cell? ⟨q, 7, none⟩ = some (.int .i64 (gt H.regs 7)) := hv.cell 7 rfl
  have q8 : w.cell? ⟨q, 8, none⟩ = some (.int .i64 (gt H.regs 8)) := hv.cell 8 rfl
  have q9 : w.cell? ⟨q, 9, none⟩ = some (.int .i64 (gt H.regs 9)) := hv.cell 9 rfl
  have q10 : w.cell? ⟨q, 10, none⟩ = some (.int .i64 (gt H.regs 10)) := hv.cell 10 rfl
  have q11 : w.cell? ⟨q, 11, none⟩ = some (.int .i64 (gt H.regs 11)) := hv.cell 11 rfl
  have q12 : w.cell? ⟨q, 12, none⟩ = some (.int .i64 (gt H.regs 12)) := hv.cell 12 rfl
  have q13 : w.cell? ⟨q, 13, none⟩ = some (.int .i64 (gt H.regs 13)) := hv.cell 13 rfl
  have q14 : w.cell? ⟨q, 14, none⟩ = some (.int .i64 (gt H.regs 14)) := hv.cell 14 rfl
  have q15 : w.cell? ⟨q, 15, none⟩ = some (.int .i64 (gt H.regs 15)) := hv.cell 15 rfl
  clear hV hv hw ht
  go_enter Tryd.func45, Tryd.ntmps45
  go_wp2_with fail
  clear q0 q1 q2 q3 q4 q5 q6 q7 q8 q9 q10 q11 q12 q13 q14 q15
  go_loopw [3, 10] (fun u i wr => ∃ j : Nat, j ≤ 16 ∧ i = .int .i64 j ∧ u = .string (bs ([114, 101, 103, 115] ++ rgW H.regs j)) ∧ Below w.heap.size w wr) (fun _ i _ => 16 - (intOf i).toNat)
  case atStart => exact ⟨0, Nat.zero_le _, rfl, rfl, Below.refl _ _⟩
  case round =>
    obtain ⟨j, hj, rfl, rfl, hB⟩ := hrel
    have HB : Hid (Below w.heap.size w wr) := hB
    have LL : Hid (([114, 101, 103, 115] ++ rgW H.regs j : List UInt8).length ≤ 250) := by
      show _ ≤ _
      have h1 := rgW_len HW.out j hj
      simp only [List.length_append, List.length_cons, List.length_nil]
      omega
    by_cases hlt : j < 16
    · have hJ : (j : Int) < 16 := by omega
      have HL : Hid (j < 16) := hlt
      have NX : Hid (rgW H.regs (j + 1) = rgW H.regs j ++ rgP H.regs j) := rfl
      have ix := ix16 H j hlt
      obtain ⟨z, hz⟩ : ∃ z, gt H.regs j = z := ⟨_, rfl⟩
      have ZB : Hid (0 ≤ z ∧ z ≤ 4294967295) := by rw [← hz]; exact gt_word HW.out j
      rw [hz] at ix
      obtain ⟨L, hL⟩ : ∃ L, [114, 101, 103, 115] ++ rgW H.regs j = L := ⟨_, rfl⟩
      by_cases h0 : z = 0
      · have EN : Hid (bs ([114, 101, 103, 115] ++ rgW H.regs (j + 1)) = bs L) := by
          show _ = _
          rw [NX.out, rgP, hz, if_pos h0, List.append_nil, hL]
        rw [hL] at LL ⊢
        subst h0
        clear hlt hz hL hB hj
        go_wp2_with fail
        go_roundw
        case rel => exact ⟨j + 1, by have := HL.out; omega, by go_num, by rw [EN.out], HB.out⟩
        case measure => have := HL.out; simp [intOf]; omega
      · obtain ⟨D, hD⟩ : ∃ D, Lib.decDigits z.toNat = D := ⟨_, rfl⟩
        obtain ⟨E, hE⟩ : ∃ E, Lib.decDigits j = E := ⟨_, rfl⟩
        have DL : Hid (D.length ≤ 10 ∧ E.length ≤ 2) := ⟨by rw [← hD]; exact dec_len10 ZB.out.1 ZB.out.2, by rw [← hE]; exact dec_len j 1 (by omega)⟩
        have EN : Hid (bs ([114, 101, 103, 115] ++ rgW H.regs (j + 1)) = bs L ++ (((⟨#[32]⟩ ++ bs E) ++ ⟨#[58]⟩) ++ bs D)) := by
          show _ = _
          rw [NX.out, rgP, hz, if_neg h0, ← List.append_assoc, hL, hD, hE, show (⟨#[32]⟩ : ByteArray) = bs [32] from rfl, show (⟨#[58]⟩ : ByteArray) = bs [58] from rfl, ← bs_app, ← bs_app, ← bs_app, ← bs_app]
          congr 1
          simp
        have TB := Lib.tabBelow_of_tabIs HT.out _ hB
        have IT := i_itoa (j : Int) (by omega) (by omega) wr TB
        rw [show ((j : Int)).toNat = j by omega, hE] at IT
        have FM : Hid (∀ w1, Below wr.heap.size wr w1 → Calls Tryd.prog 55 #[.int .i64 z, .int .i64 10] w1 fun e w' => e = .returned (.string (bs D)) ∧ Below w1.heap.size w1 w') := fun w1 b => by
          have t := i_formatT z ZB.out.1 ZB.out.2 w1 (Lib.tabBelow_of_tabIs HT.out _ (on HB.out b))
          rw [hD] at t
          exact t
        rw [hL] at LL ⊢
        have z1 : ¬ 9223372036854775807 < 1 + (bs E).size := by rw [bs_size]; have := DL.out; omega
        have z2 : ¬ 9223372036854775807 < 1 + (bs E).size + 1 := by rw [bs_size]; have := DL.out; omega
        have z3 : ¬ 9223372036854775807 < 1 + (bs E).size + 1 + (bs D).size := by rw [bs_size, bs_size]; have := DL.out; omega
        have z4 : ¬ 9223372036854775807 < (bs L).size + (1 + (bs E).size + 1 + (bs D).size) := by rw [bs_size, bs_size, bs_size]; have := DL.out; have := LL.out; omega
        have z5 : ¬ 9223372036854775807 ≤ 1 + (bs E).size := by rw [bs_size]; have := DL.out; omega
        clear hlt hz hL hB hj hD hE TB
        go_wp2_with (first | (go_at_call 54; refine IT.mono ?_; clear IT; rintro e w1 ⟨rfl, b1⟩) | (go_at_call 55; refine (FM.out _ b1).mono ?_; rintro e w2 ⟨rfl, b2⟩))
        go_roundw
        case rel => exact ⟨j + 1, by have := HL.out; omega, by go_num, by rw [EN.out], on HB.out (on b1 b2)⟩
        case measure => have := HL.out; simp [intOf]; omega
    · have hJ : ¬ (j : Int) < 16 := by omega
      obtain rfl : j = 16 := by omega
      have EN : Hid (bs ([114, 101, 103, 115] ++ rgW H.regs 16) ++ ⟨#[10]⟩ = V) := by show _ = _; rw [← HV.out, regsW, bs_app ([114, 101, 103, 115] ++ rgW H.regs 16)]; rfl
      have z1 : ¬ 9223372036854775807 < (bs ([114, 101, 103, 115] ++ rgW H.regs 16)).size + 1 := by rw [bs_size]; have := LL.out; omega
      have z2 : ¬ 9223372036854775807 ≤ (bs ([114, 101, 103, 115] ++ rgW H.regs 16)).size := by rw [bs_size]; have := LL.out; omega
      clear hlt hj
      generalize bs ([114, 101, 103, 115] ++ rgW H.regs 16) = S at *
      go_wp2_with fail
      go_ret
      exact ⟨by rw [← EN.out]; rfl, hB⟩
end Go.Proofs.YtcneipilhlcfkaaDoor
