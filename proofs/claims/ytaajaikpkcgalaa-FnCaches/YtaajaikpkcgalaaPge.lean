/- Entries of a guest's own table: what a word tells, and the word that tells it, by program and model. -/
import Derived.Test.YtaajaikpkcgalaaPgs4
namespace Go.Proofs.Ytaajaikpkcgalaa
open Go.RowKit
set_option linter.unusedVariables false

theorem ret2 {a b c d : Int} (h1 : a = c) (h2 : b = d) : Ending.returned (.agg #[.int .i64 a, .int .i64 b]) = .returned (.agg #[.int .i64 c, .int .i64 d]) := by rw [h1, h2]

/-- The page that leads to a page for kinds; nowhere, if there are none. -/
def forP (to k : Int) : Int × Int := if k = 0 then (-1, 0) else (to, k)

theorem spec_none (w : World) : Calls Try.prog 50 #[] w fun e w' => e = .returned (.agg #[.int .i64 (-1), .int .i64 0]) ∧ Below w.heap.size w w' := by
  go_enter Try.func50, Try.ntmps50
  go_wp2_with fail
  exact bodyPost_ret (v := .agg #[.int .i64 (-1), .int .i64 0]) (by simp [results, Try.results50, go_sem]) rfl ⟨rfl, al (Below.refl _ _) _⟩

/-- The page that a word tells. -/
def entP (z : Int) : Int × Int := if z % 8 = 0 ∨ 8 ≤ z / 8 then (-1, 0) else (z / 8, z % 8)
def entC (z : Int) : Int := if isW z then 0 else 3
def entE (z : Int) : Int × Int := if isW z then entP z else (0, 0)
theorem isW_true {z : Int} (h : isW z = true) : 0 ≤ z ∧ z ≤ 4294967295 := by simpa [isW] using h

/-- Code and value of EntryWord. -/
def ewC (a b : Int) : Int := if pgC 8 a b = 0 then (if a ≠ -1 ∧ b = 0 then 1 else 0) else pgC 8 a b
def ewV (a b : Int) : Int := if ewC a b = 0 ∧ a ≠ -1 then a * 8 + b else 0

end Go.Proofs.Ytaajaikpkcgalaa
