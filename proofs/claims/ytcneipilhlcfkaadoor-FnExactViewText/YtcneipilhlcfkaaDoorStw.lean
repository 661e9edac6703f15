/- The text of a machine, as a value. -/
import Derived.Test.YtcneipilhlcfkaaDoorStv
import Derived.Test.YtcneipilhlcfkaaDoorHma
import Derived.Test.YtcneipilhlcfkaaDoorHfi
namespace Go.Proofs.YtcneipilhlcfkaaDoor
open Go.RowKit
set_option linter.unusedVariables false

/-- A register with its number, where it is not 0. -/
def rgP (zs : List Int) (j : Nat) : List UInt8 := if gt zs j = 0 then [] else (32 :: Lib.decDigits j) ++ (58 :: Lib.decDigits (gt zs j).toNat)
def rgW (zs : List Int) : Nat → List UInt8
  | 0 => []
  | j + 1 => rgW zs j ++ rgP zs j
def b2 (b : Bool) : Int := if b then 1 else 0
def regsW (zs : List Int) : List UInt8 := [114, 101, 103, 115] ++ rgW zs 16 ++ [10]
def headW (H : Ht) : List UInt8 := nlW [112, 99] [H.pc] ++ nlW [100, 111, 110, 101] [H.done] ++ nlW [104, 97, 108, 116, 101, 100] [b2 H.halted] ++ nlW [119, 97, 105, 116, 105, 110, 103] [b2 H.waiting]
def textW (H : Ht) : List UInt8 := headW H ++ regsW H.regs ++ nlW [111, 117, 116] H.out
theorem gt_word {zs : List Int} (h : zs.all isW = true) (j : Nat) : 0 ≤ gt zs j ∧ gt zs j ≤ 4294967295 := all_at h j
theorem rgP_len {zs : List Int} (h : zs.all isW = true) (j : Nat) (hj : j < 16) : (rgP zs j).length ≤ 14 := by
  unfold rgP
  split
  · simp
  · have h1 := gt_word h j
    have h2 := dec_len10 h1.1 h1.2
    have h3 := dec_len j 1 (by omega)
    simp only [List.length_append, List.length_cons]
    omega
theorem rgW_len {zs : List Int} (h : zs.all isW = true) : ∀ j, j ≤ 16 → (rgW zs j).length ≤ 14 * j := by
  intro j
  induction j with
  | zero => intro _; simp [rgW]
  | succ j ih =>
    intro hj
    have h1 := ih (by omega)
    have h2 := rgP_len h j (by omega)
    rw [rgW, List.length_append]
    omega
theorem b2_word (b : Bool) : isW (b2 b) = true := by cases b <;> decide
end Go.Proofs.YtcneipilhlcfkaaDoor
