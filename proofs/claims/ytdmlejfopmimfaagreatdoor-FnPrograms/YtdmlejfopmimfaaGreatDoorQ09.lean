/- Texts of this seat, joined. -/
import Derived.Lib.ItoaNum
import Derived.Laws.IdiomStrings
import Derived.Deep.RegionWith
import Derived.Test.YtdmlejfopmimfaaGreatDoorQ03
namespace Go.Proofs.YtdmlejfopmimfaaGreatDoor
open Go.RowKit

theorem dec_small {n : Nat} (h : n < 10) : Lib.decDigits n = [UInt8.ofNat (48 + n)] := by rw [Lib.decDigits, dif_pos h]
theorem dec_big {n : Nat} (h : ¬ n < 10) : Lib.decDigits n = Lib.decDigits (n / 10) ++ [UInt8.ofNat (48 + n % 10)] := by rw [Lib.decDigits, dif_neg h]

theorem conv_one (W : World) (b z : Nat) (hz : z < 256) (v : Int) (hv : v = z) (h : W.cell? ⟨b, 0, none⟩ = some (.int .u8 v)) :
    (convert 22 9 (.slice (some ⟨b, 0, none⟩) 1 1)).run Tryz.prog W = .ok (.string ⟨#[UInt8.ofNat z]⟩) W := by
  have := run_convert_bytes_back (P := Tryz.prog) W 22 9 5 ⟨b, 0, none⟩ 1 [UInt8.ofNat z] (by kernel_rfl) (by kernel_rfl) (by kernel_rfl) (by
    intro j hj
    obtain rfl : j = 0 := by simpa using hj
    have e : ((UInt8.ofNat z).toNat : Int) = v := by rw [UInt8.toNat_ofNat', hv]; omega
    show W.cell? ⟨b, 0 + 0, none⟩ = some (.int .u8 ((UInt8.ofNat z).toNat : Int))
    rw [e]
    exact h)
  exact this

theorem size_mk (l : List UInt8) : (⟨l.toArray⟩ : ByteArray).size = l.length := by simp [ByteArray.size]
theorem bytes_snoc (l : List UInt8) (D : UInt8) : (⟨(l ++ [D]).toArray⟩ : ByteArray) = ⟨l.toArray⟩ ++ ⟨#[D]⟩ := by
  apply ByteArray.ext
  simp [ByteArray.data_append]
theorem dec_len : ∀ (n k : Nat), n < 10 ^ (k + 1) → (Lib.decDigits n).length ≤ k + 1
  | n, 0, h => by rw [dec_small (by omega)]; simp
  | n, k + 1, h => by
    by_cases hn : n < 10
    · rw [dec_small hn]; simp
    · rw [dec_big hn]
      have := dec_len (n / 10) k (by rw [Nat.pow_succ] at h; omega)
      simp
      omega

theorem spec_digits_small (n : Nat) (h : n < 10) (w : World) : Calls Tryz.prog 42 #[.int .i64 n] w fun e w' => e = .returned (.string ⟨(Lib.decDigits n).toArray⟩) ∧ Below w.heap.size w w' := by
  rw [dec_small h]
  have h1 : (n : Int) < 10 := by omega
  have hcv := conv_one (w.alloc (.cells #[.int .u8 (48 + (n : Int))] 5)) w.heap.size (48 + n) (by omega) (48 + (n : Int)) (by omega) (cell_new (by simp))
  generalize UInt8.ofNat (48 + n) = D at *
  go_enter Tryz.func42, Tryz.ntmps42
  go_wp2
  go_ret
  exact ⟨rfl, al (Below.refl _ _) _⟩

set_option maxHeartbeats 1000000 in
theorem spec_digits_big (n : Nat) (h : ¬ n < 10) (hn : n < 4294967296) (w : World) (ih : ∀ w, Calls Tryz.prog 42 #[.int .i64 ((n / 10 : Nat) : Int)] w fun e w' => e = .returned (.string ⟨(Lib.decDigits (n / 10)).toArray⟩) ∧ Below w.heap.size w w') :
    Calls Tryz.prog 42 #[.int .i64 n] w fun e w' => e = .returned (.string ⟨(Lib.decDigits n).toArray⟩) ∧ Below w.heap.size w w' := by
  rw [dec_big h]
  have h1 : ¬ (n : Int) < 10 := by omega
  have e1 : ((n / 10 : Nat) : Int) = IntKind.i64.wrap ((n : Int) / 10) := by rw [IntKind.wrap_i64]; omega
  have e2 : IntKind.u8.wrap (IntKind.i64.wrap (48 + (n : Int).tmod 10)) = ((48 + n % 10 : Nat) : Int) := by
    rw [IntKind.wrap_i64, IntKind.wrap_u8, Int.tmod_eq_emod_of_nonneg (by omega)]; omega
  rw [e1] at ih
  have hcv := fun W b => conv_one W b (48 + n % 10) (by omega) _ e2
  clear h e1 e2
  generalize UInt8.ofNat (48 + n % 10) = D at *
  have eq : (⟨(Lib.decDigits (n / 10) ++ [D]).toArray⟩ : ByteArray) = ⟨(Lib.decDigits (n / 10)).toArray⟩ ++ ⟨#[D]⟩ := bytes_snoc _ _
  rw [eq]
  have z0 : (⟨(Lib.decDigits (n / 10)).toArray⟩ : ByteArray).size < 9223372036854775807 := by
    have := dec_len (n / 10) 9 (by omega)
    rw [size_mk]
    omega
  clear eq
  generalize (⟨(Lib.decDigits (n / 10)).toArray⟩ : ByteArray) = s at *
  have z1 : ¬ 9223372036854775807 < s.size + 1 := by omega
  have z2 : ¬ 9223372036854775807 ≤ s.size := by omega
  go_enter Tryz.func42, Tryz.ntmps42
  go_wp2
  go_region_with (go_at_call 42; refine (ih _).mono ?_; rintro e w1 ⟨rfl, hb⟩; obtain ⟨hc, hz⟩ := bcell hb)
  all_goals go_wp2
  all_goals go_ret
  all_goals first
    | exact ⟨rfl, al (on (Below.refl _ _) hb) _⟩
    | exact ⟨rfl, al (on (Below.refl _ _).drew hb) _⟩
    | exact ⟨rfl, al (on (Below.refl _ _).drew.drew hb) _⟩
    | exact ⟨rfl, on (al (Below.refl _ _) _) hb⟩
    | exact ⟨rfl, on (al (Below.refl _ _) _).drew hb⟩
    | exact ⟨rfl, on (al (Below.refl _ _) _).drew.drew hb⟩
    | exact ⟨rfl, on (al (Below.refl _ _) _).drew.drew.drew hb⟩

theorem spec_digits (n : Nat) (hn : n < 4294967296) : ∀ w : World, Calls Tryz.prog 42 #[.int .i64 n] w fun e w' => e = .returned (.string ⟨(Lib.decDigits n).toArray⟩) ∧ Below w.heap.size w w' := by
  induction n using Nat.strongRecOn with
  | ind n ih =>
    intro w
    by_cases h : n < 10
    · exact spec_digits_small n h w
    · exact spec_digits_big n h hn w (ih (n / 10) (by omega) (by omega))
end Go.Proofs.YtdmlejfopmimfaaGreatDoor
