/- Chapter 2's model: the text of an instruction. -/
import Derived.Test.YtdogabmehjbphaaDoorIsd
import Derived.Test.YtdogabmehjbphaaDoorNames
import Derived.Test.YtdogabmehjbphaaDoorDigits
namespace Go.Proofs.YtdogabmehjbphaaDoor
open Go.RowKit

def decB (n : Nat) : ByteArray := ⟨(Lib.decDigits n).toArray⟩
/-- A field that is told stands behind a blank. -/
def told (s : ByteArray) (bare : Bool) (t : ByteArray) : ByteArray := if bare then s else s ++ ⟨#[32]⟩ ++ t
/-- The text of an instruction without a fault. -/
def insT (k d a i : Nat) : ByteArray := told (told (told (nm k) (bareD k) (decB d)) (bareA k) (decB a)) (bareI k) (decB i)
theorem nm_len (k : Nat) (h : k < 27) : (nm k).size ≤ 5 := by
  match k, h with
  | 0, _ => exact (by decide)
  | 1, _ => exact (by decide)
  | 2, _ => exact (by decide)
  | 3, _ => exact (by decide)
  | 4, _ => exact (by decide)
  | 5, _ => exact (by decide)
  | 6, _ => exact (by decide)
  | 7, _ => exact (by decide)
  | 8, _ => exact (by decide)
  | 9, _ => exact (by decide)
  | 10, _ => exact (by decide)
  | 11, _ => exact (by decide)
  | 12, _ => exact (by decide)
  | 13, _ => exact (by decide)
  | 14, _ => exact (by decide)
  | 15, _ => exact (by decide)
  | 16, _ => exact (by decide)
  | 17, _ => exact (by decide)
  | 18, _ => exact (by decide)
  | 19, _ => exact (by decide)
  | 20, _ => exact (by decide)
  | 21, _ => exact (by decide)
  | 22, _ => exact (by decide)
  | 23, _ => exact (by decide)
  | 24, _ => exact (by decide)
  | 25, _ => exact (by decide)
  | 26, _ => exact (by decide)
  | k + 27, h => exact absurd h (by omega)
theorem decB_len (n : Nat) (h : n < 100000) : (decB n).size ≤ 5 := by
  unfold decB
  rw [size_mk]
  exact dec_len n 4 (by omega)
theorem bare_cases (op : Int) : (bareD op = false ∧ bareA op = false ∧ bareI op = false) ∨ (bareD op = false ∧ bareA op = true ∧ bareI op = false) ∨ (bareD op = true ∧ bareA op = false ∧ bareI op = false) ∨ (bareD op = true ∧ bareA op = true ∧ bareI op = true) := by
  simp only [bareD, bareA, bareI, decide_eq_true_eq, decide_eq_false_iff_not]
  omega

end Go.Proofs.YtdogabmehjbphaaDoor
