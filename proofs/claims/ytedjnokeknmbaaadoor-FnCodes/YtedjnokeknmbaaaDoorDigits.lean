/- The model's digits of a number from 0 on. -/
import Derived.Test.YtedjnokeknmbaaaDoorCells
import Derived.Lib.ItoaNum
import Derived.Laws.IdiomStrings
import Derived.Deep.RegionWith
namespace Go.Proofs.YtedjnokeknmbaaaDoor
open Go.RowKit

theorem dec_small {n : Nat} (h : n < 10) : Lib.decDigits n = [UInt8.ofNat (48 + n)] := by rw [Lib.decDigits, dif_pos h]
theorem dec_big {n : Nat} (h : ¬ n < 10) : Lib.decDigits n = Lib.decDigits (n / 10) ++ [UInt8.ofNat (48 + n % 10)] := by rw [Lib.decDigits, dif_neg h]

theorem conv_one (W : World) (b z : Nat) (hz : z < 256) (v : Int) (hv : v = z) (h : W.cell? ⟨b, 0, none⟩ = some (.int .u8 v)) :
    (convert 22 9 (.slice (some ⟨b, 0, none⟩) 1 1)).run Tryd.prog W = .ok (.string ⟨#[UInt8.ofNat z]⟩) W := by
  have := run_convert_bytes_back (P := Tryd.prog) W 22 9 5 ⟨b, 0, none⟩ 1 [UInt8.ofNat z] (by kernel_rfl) (by kernel_rfl) (by kernel_rfl) (by
    intro j hj
    obtain rfl : j = 0 := by simpa using hj
    have e : ((UInt8.ofNat z).toNat : Int) = v := by rw [UInt8.toNat_ofNat', hv]; omega
    show W.cell? ⟨b, 0 + 0, none⟩ = some (.int .u8 ((UInt8.ofNat z).toNat : Int))
    rw [e]
    exact h)
  exact this

theorem size_mk (l : List UInt8) : (⟨l.toArray⟩ : ByteArray).size = l.length := by simp [ByteArray.size]
theorem bytes_snoc (l : List UInt8) (D : UInt8) : (⟨(l ++ [D]).toArray⟩ : ByteArray) = ⟨l.toArray⟩ ++ ⟨#[D]⟩ := by
  apply ByteArray.ext
  simp [ByteArray.data_append]
theorem dec_len : ∀ (n k : Nat), n < 10 ^ (k + 1) → (Lib.decDigits n).length ≤ k + 1
  | n, 0, h => by rw [dec_small (by omega)]; simp
  | n, k + 1, h => by
    by_cases hn : n < 10
    · rw [dec_small hn]; simp
    · rw [dec_big hn]
      have := dec_len (n / 10) k (by rw [Nat.pow_succ] at h; omega)
      simp
      omega

end Go.Proofs.YtedjnokeknmbaaaDoor
