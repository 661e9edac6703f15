/- What the functions on words answer, one contract a function: BitWords of the program and of the model, and the comparison of two results. -/
import Derived.Test.YtpdeecmbfmhhbaaBase
namespace Go.Proofs.Ytpdeecmbfmhhbaa
open Go.RowKit

def bitC (op : Int) : Int := if op = 1 then 0 else if op = 2 then 0 else if op = 3 then 0 else 3
def bitV (op a b : Int) : Int :=
  if op = 1 then wrap64 (bits BinOp.and IntKind.u32 (a % 4294967296) (b % 4294967296))
  else if op = 2 then wrap64 (bits BinOp.or IntKind.u32 (a % 4294967296) (b % 4294967296))
  else if op = 3 then wrap64 (bits BinOp.xor IntKind.u32 (a % 4294967296) (b % 4294967296))
  else 0
theorem bitC_no {op : Int} (h1 : ¬ op = 1) (h2 : ¬ op = 2) (h3 : ¬ op = 3) : bitC op = 3 := by simp [bitC, h1, h2, h3]
theorem bitV_no {op : Int} (a b : Int) (h1 : ¬ op = 1) (h2 : ¬ op = 2) (h3 : ¬ op = 3) : bitV op a b = 0 := by simp [bitV, h1, h2, h3]

theorem spec_bit (op a b : Int) (w : World) :
    Calls Try.prog 33 #[.int .i64 op, .int .i64 a, .int .i64 b] w fun e w' => e = .returned (.agg #[.int .i64 (bitC op), .int .i64 (bitV op a b)]) ∧ Below w.heap.size w w' := by
  by_cases h1 : op = 1
  · subst h1
    go_enter Try.func33, Try.ntmps33
    go_wp2
    exact bodyPost_ret (v := .agg #[.int .i64 (bitC 1), .int .i64 (bitV 1 a b)]) (by simp [results, Try.results33, go_sem]; simp [bitC, bitV]) rfl ⟨rfl, (Below.refl _ _).alloc (Nat.le_refl _) _⟩
  by_cases h2 : op = 2
  · subst h2
    go_enter Try.func33, Try.ntmps33
    go_wp2
    exact bodyPost_ret (v := .agg #[.int .i64 (bitC 2), .int .i64 (bitV 2 a b)]) (by simp [results, Try.results33, go_sem]; simp [bitC, bitV]) rfl ⟨rfl, (Below.refl _ _).alloc (Nat.le_refl _) _⟩
  by_cases h3 : op = 3
  · subst h3
    go_enter Try.func33, Try.ntmps33
    go_wp2
    exact bodyPost_ret (v := .agg #[.int .i64 (bitC 3), .int .i64 (bitV 3 a b)]) (by simp [results, Try.results33, go_sem]; simp [bitC, bitV]) rfl ⟨rfl, (Below.refl _ _).alloc (Nat.le_refl _) _⟩
  rw [bitC_no h1 h2 h3, bitV_no a b h1 h2 h3]
  have g1 : (op == 1) = false := beq_eq_false_iff_ne.2 h1
  have g2 : (op == 2) = false := beq_eq_false_iff_ne.2 h2
  have g3 : (op == 3) = false := beq_eq_false_iff_ne.2 h3
  clear h1 h2 h3
  go_enter Try.func33, Try.ntmps33
  go_wp2
  exact bodyPost_ret (v := .agg #[.int .i64 3, .int .i64 0]) (by simp [results, Try.results33, go_sem]) rfl ⟨rfl, (Below.refl _ _).alloc (Nat.le_refl _) _⟩

theorem impl_bit (op a b : Int) (w : World) :
    Calls Try.prog 24 #[.int .i64 op, .int .i64 a, .int .i64 b] w fun e w' => e = .returned (.agg #[.int .i64 (bitC op), .int .i64 (bitV op a b)]) ∧ Below w.heap.size w w' := by
  by_cases h1 : op = 1
  · subst h1
    go_enter Try.func24, Try.ntmps24
    go_wp2
    exact bodyPost_ret (v := .agg #[.int .i64 (bitC 1), .int .i64 (bitV 1 a b)]) (by simp [results, Try.results24, go_sem]; simp [bitC, bitV]) rfl ⟨rfl, (Below.refl _ _).alloc (Nat.le_refl _) _⟩
  by_cases h2 : op = 2
  · subst h2
    go_enter Try.func24, Try.ntmps24
    go_wp2
    exact bodyPost_ret (v := .agg #[.int .i64 (bitC 2), .int .i64 (bitV 2 a b)]) (by simp [results, Try.results24, go_sem]; simp [bitC, bitV]) rfl ⟨rfl, (Below.refl _ _).alloc (Nat.le_refl _) _⟩
  by_cases h3 : op = 3
  · subst h3
    go_enter Try.func24, Try.ntmps24
    go_wp2
    exact bodyPost_ret (v := .agg #[.int .i64 (bitC 3), .int .i64 (bitV 3 a b)]) (by simp [results, Try.results24, go_sem]; simp [bitC, bitV]) rfl ⟨rfl, (Below.refl _ _).alloc (Nat.le_refl _) _⟩
  rw [bitC_no h1 h2 h3, bitV_no a b h1 h2 h3]
  have g1 : (op == 1) = false := beq_eq_false_iff_ne.2 h1
  have g2 : (op == 2) = false := beq_eq_false_iff_ne.2 h2
  have g3 : (op == 3) = false := beq_eq_false_iff_ne.2 h3
  clear h1 h2 h3
  go_enter Try.func24, Try.ntmps24
  go_wp2
  exact bodyPost_ret (v := .agg #[.int .i64 3, .int .i64 0]) (by simp [results, Try.results24, go_sem]) rfl ⟨rfl, (Below.refl _ _).alloc (Nat.le_refl _) _⟩

theorem eq_same (a b : Int) (w : World) :
    Calls Try.prog 34 #[.agg #[.int .i64 a, .int .i64 b], .agg #[.int .i64 a, .int .i64 b]] w fun e w' => e = .returned (.bool true) ∧ Below w.heap.size w w' := by
  go_enter Try.func34, Try.ntmps34
  go_wp2
  go_ret
  exact ⟨rfl, ((Below.refl _ _).alloc (Nat.le_refl _) _).alloc (by simp) _⟩
end Go.Proofs.Ytpdeecmbfmhhbaa
