/- A word of a memory is read, by program and model. -/
import Derived.Test.YtlibaciemhpkbaaMem
namespace Go.Proofs.Ytlibaciemhpkbaa
open Go.RowKit
set_option linter.unusedVariables false

def inB (n : Nat) (at_ : Int) : Bool := decide (0 ≤ at_) && decide (at_ ≤ (n : Int) - 1)
def readC (zs : List Int) (at_ : Int) : Int := if memV zs = 0 then (if inB zs.length at_ then 0 else 7) else memV zs
def readX (zs : List Int) (at_ : Int) : Int := if memV zs = 0 then (if inB zs.length at_ then zs.getD at_.toNat 0 else 0) else 0

def placesB (n : Nat) (at_ size : Int) : Bool := decide (size = 0) || (decide (0 ≤ at_) && decide (size ≤ (n : Int) - at_))

theorem places_one (n : Nat) (at_ : Int) : placesB n at_ 1 = inB n at_ := by
  rw [Bool.eq_iff_iff]
  simp [placesB, inB]
  omega

theorem memV_len {zs : List Int} (h : memV zs = 0) : zs.length % 8 = 0 ∧ 8 ≤ zs.length ∧ zs.length ≤ 192 ∧ zs.all isW = true := by
  unfold memV at h
  split at h
  · next hf =>
    have hf' := of_decide_eq_true hf
    split at h
    · next ha => exact ⟨hf'.1, hf'.2.1, hf'.2.2, ha⟩
    · omega
  · omega
theorem all_getD {zs : List Int} (h : zs.all isW = true) (i : Nat) (hi : i < zs.length) : 0 ≤ zs.getD i 0 ∧ zs.getD i 0 ≤ 4294967295 := by
  rw [List.all_eq_true] at h
  have := h _ (List.getElem_mem hi)
  rw [List.getD, List.getElem?_eq_getElem hi]
  simpa [isW] using this

end Go.Proofs.Ytlibaciemhpkbaa
