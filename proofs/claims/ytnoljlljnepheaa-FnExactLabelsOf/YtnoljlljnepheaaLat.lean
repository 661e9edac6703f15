/- The laws' text of a mark: an m and digits. -/
import Derived.Test.YtnoljlljnepheaaLas
import Derived.Laws.IdiomStrings
namespace Go.Proofs.Ytnoljlljnepheaa
open Go.RowKit
set_option linter.unusedVariables false

theorem conv_oneL (W : World) (b z : Nat) (hz : z < 256) (v : Int) (hv : v = z) (h : W.cell? ⟨b, 0, none⟩ = some (.int .u8 v)) :
    (convert 50 9 (.slice (some ⟨b, 0, none⟩) 1 1)).run Try.prog W = .ok (.string (bq [UInt8.ofNat z])) W := by
  have := run_convert_bytes_back (P := Try.prog) W 50 9 5 ⟨b, 0, none⟩ 1 [UInt8.ofNat z] (by kernel_rfl) (by kernel_rfl) (by kernel_rfl) (by
    intro j hj
    obtain rfl : j = 0 := by simpa using hj
    have e : ((UInt8.ofNat z).toNat : Int) = v := by rw [UInt8.toNat_ofNat', hv]; omega
    show W.cell? ⟨b, 0 + 0, none⟩ = some (.int .u8 ((UInt8.ofNat z).toNat : Int))
    rw [e]
    exact h)
  exact this
/-- Digits of a number above 0; none of 0. -/
def digL (k : Nat) : Wb := if h : k = 0 then [] else digL (k / 10) ++ [UInt8.ofNat (48 + k % 10)]
termination_by k
decreasing_by omega
theorem digL_0 : digL 0 = [] := by rw [digL, dif_pos rfl]
theorem digL_pos (k : Nat) (h : ¬ k = 0) : digL k = digL (k / 10) ++ [UInt8.ofNat (48 + k % 10)] := by rw [digL, dif_neg h]
theorem digL_len (k : Nat) : (digL k).length ≤ k := by
  induction k using Nat.strongRecOn with
  | _ k ih =>
    by_cases h : k = 0
    · subst h; rw [digL_0]; simp
    · rw [digL_pos k h]
      have := ih (k / 10) (by omega)
      simp
      omega
def mtx (k : Nat) : Wb := if k = 0 then [109, 48] else 109 :: digL k
set_option maxHeartbeats 2000000 in
theorem mark_text (k : Nat) (hk : k ≤ 4611686018427387904) (w : World) :
    Calls Try.prog 24 #[.int .i64 k] w fun e w' => e = .returned (.string (bq (mtx k))) ∧ Below w.heap.size w w' := by
  by_cases h0 : k = 0
  · subst h0
    rw [show bq (mtx 0) = ⟨#[109, 48]⟩ from rfl]
    go_enter Try.func24, Try.ntmps24
    go_wp2_with fail
    go_ret
    exact ⟨rfl, Below.refl _ _⟩
  have hI : ¬ (k : Int) ≤ 0 := by omega
  have HK : Hid (k ≤ 4611686018427387904) := hk
  have HV : Hid (bq (mtx k) = bq [109] ++ bq (digL k)) := by show _ = _; rw [mtx, if_neg h0, ← bq_app]; rfl
  have DL : Hid ((digL k).length ≤ k) := digL_len k
  generalize bq (mtx k) = V at *
  clear hk
  go_enter Try.func24, Try.ntmps24
  go_wp2_with fail
  go_loopw [0, 3] (fun i u wr => ∃ (j : Nat) (s : Wb), i = .int .i64 j ∧ u = .string (bq s) ∧ j ≤ k ∧ Below w.heap.size w wr ∧ Hid (digL j ++ s = digL k)) (fun i _ _ => (intOf i).toNat)
  case atStart => exact ⟨k, [], rfl, rfl, Nat.le_refl _, Below.refl _ _, List.append_nil _⟩
  case round =>
    obtain ⟨j, s, rfl, rfl, hj, hB, hD⟩ := hrel
    have HB : Hid (Below w.heap.size w wr) := hB
    have SL : Hid (s.length ≤ 4611686018427387904) := by
      show _ ≤ _
      have h := congrArg List.length hD.out
      simp at h
      have := DL.out
      have := HK.out
      omega
    have z0 := bq_size s
    by_cases hpos : 0 < j
    · have hJ : 0 < (j : Int) := by omega
      have HP : Hid (0 < j ∧ j ≤ k) := ⟨hpos, hj⟩
      have hjI : (j : Int) ≤ 4611686018427387904 := by have := HK.out; omega
      have e1 : IntKind.i64.wrap ((j : Int) / 10) = ((j / 10 : Nat) : Int) := by rw [IntKind.wrap_i64]; omega
      have DN : Hid (digL (j / 10) ++ ([UInt8.ofNat (48 + j % 10)] ++ s) = digL k) := by
        show _ = _
        rw [← hD.out, digL_pos j (by omega), List.append_assoc]
      have hcv := conv_oneL (wr.alloc (.cells #[.int .u8 (48 + (j : Int) % 10)] 5)) wr.heap.size (48 + j % 10) (by omega) (48 + (j : Int) % 10) (by omega) (cell_new (by simp))
      have BA : Hid (bq ([UInt8.ofNat (48 + j % 10)] ++ s) = bq [UInt8.ofNat (48 + j % 10)] ++ bq s) := bq_app _ _
      have z1 : ¬ 9223372036854775807 < (bq [UInt8.ofNat (48 + j % 10)]).size + (bq s).size := by rw [bq_size, bq_size]; have := SL.out; simp; omega
      generalize UInt8.ofNat (48 + j % 10) = D at *
      clear hB hD hj z0
      go_wp2_with fail
      go_roundw
      case rel => exact ⟨j / 10, [D] ++ s, by rw [show ((j / 10 : Nat) : Int) = (j : Int) / 10 by omega], by rw [BA.out], by have := HP.out; omega, al HB.out _, DN⟩
      case measure => have := HP.out; show ((j : Int) / 10).toNat < ((j : Int)).toNat; omega
    · obtain rfl : j = 0 := by omega
      have SV : Hid (V = bq [109] ++ bq s) := by
        show _ = _
        have h := hD.out
        rw [digL_0, List.nil_append] at h
        rw [HV.out, h]
      have z1 : ¬ 9223372036854775807 < 1 + (bq s).size := by rw [bq_size]; have := SL.out; omega
      have z2 : ¬ 9223372036854775807 < (bq s).size + 1 := by rw [bq_size]; have := SL.out; omega
      clear hD z0 hj
      go_wp2_with fail
      go_ret
      exact ⟨by rw [SV.out]; rfl, HB.out⟩
end Go.Proofs.Ytnoljlljnepheaa
