/- A new machine: the program's. -/
import Derived.Test.YtaajaikpkcgalaaDoorHob
import Derived.Deep.Cut
namespace Go.Proofs.YtaajaikpkcgalaaDoor
open Go.RowKit
set_option linter.unusedVariables false

def newR (zs : List Int) : Int × Ht := if 40 < zs.length then (2, voidH) else (if zs.all isW then (0, newV zs) else (3, voidH))
theorem newR_tot (zs : List Int) : totH (newR zs).2 ≤ 1000 := by
  unfold newR
  split
  · simp [totH, voidH]
  · split
    · simp [totH, newV]; omega
    · simp [totH, voidH]

/-- The cells of a new machine. -/
def mnw (a : Option Addr) (n k : Nat) : Array Value := #[.int .i64 0, .int .i64 0, .int .i64 0, .int .i64 0, .int .i64 0, .int .i64 0, .int .i64 0, .int .i64 0, .int .i64 0, .int .i64 0, .int .i64 0, .int .i64 0, .int .i64 0, .int .i64 0, .int .i64 0, .int .i64 0, .int .i64 0, .int .i64 0, .int .i64 0, .int .i64 0, .int .i64 0, .int .i64 0, .int .i64 0, .int .i64 0, .int .i64 0, .int .i64 0, .int .i64 0, .int .i64 0, .bool false, .bool false, .bool false, .int .i64 0, .slice a n k, .slice none 0 0]
theorem mnw_lit (a : Option Addr) (n k : Nat) : #[.int .i64 0, .int .i64 0, .int .i64 0, .int .i64 0, .int .i64 0, .int .i64 0, .int .i64 0, .int .i64 0, .int .i64 0, .int .i64 0, .int .i64 0, .int .i64 0, .int .i64 0, .int .i64 0, .int .i64 0, .int .i64 0, .int .i64 0, .int .i64 0, .int .i64 0, .int .i64 0, .int .i64 0, .int .i64 0, .int .i64 0, .int .i64 0, .int .i64 0, .int .i64 0, .int .i64 0, .int .i64 0, .bool false, .bool false, .bool false, .int .i64 0, .slice a n k, .slice none 0 0] = mnw a n k := rfl
theorem mnw_eq (zs : List Int) (a : Option Addr) (n k : Nat) : mnw a n k = mca (newV zs) (.slice a n k) (.slice none 0 0) := rfl
theorem mnw_size (a : Option Addr) (n k : Nat) : (mnw a n k).size = 34 := rfl
theorem mnw_store (a : Option Addr) (n k : Nat) (w : World) : (storeCells ⟨w.heap.size, 0, none⟩ (mnw a n k).toList 0).run Tryd.prog (w.alloc (.cells #[.int .i64 0, .int .i64 0, .int .i64 0, .int .i64 0, .int .i64 0, .int .i64 0, .int .i64 0, .int .i64 0, .int .i64 0, .int .i64 0, .int .i64 0, .int .i64 0, .int .i64 0, .int .i64 0, .int .i64 0, .int .i64 0, .int .i64 0, .int .i64 0, .int .i64 0, .int .i64 0, .int .i64 0, .int .i64 0, .int .i64 0, .int .i64 0, .int .i64 0, .int .i64 0, .int .i64 0, .int .i64 0, .bool false, .bool false, .bool false, .int .i64 0, .slice none 0 0, .slice none 0 0] 56)) = .ok () (w.alloc (.cells (mnw a n k) 56)) :=
  run_storeCells_new (P := Tryd.prog) w 56 #[.int .i64 0, .int .i64 0, .int .i64 0, .int .i64 0, .int .i64 0, .int .i64 0, .int .i64 0, .int .i64 0, .int .i64 0, .int .i64 0, .int .i64 0, .int .i64 0, .int .i64 0, .int .i64 0, .int .i64 0, .int .i64 0, .int .i64 0, .int .i64 0, .int .i64 0, .int .i64 0, .int .i64 0, .int .i64 0, .int .i64 0, .int .i64 0, .int .i64 0, .int .i64 0, .int .i64 0, .int .i64 0, .bool false, .bool false, .bool false, .int .i64 0, .slice none 0 0, .slice none 0 0] (mnw a n k) (by kernel_rfl) rfl (by simp [mnw, Value.oneCell'])

end Go.Proofs.YtaajaikpkcgalaaDoor
