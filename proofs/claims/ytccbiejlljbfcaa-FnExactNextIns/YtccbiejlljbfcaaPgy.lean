/- WalkBoth, by program and model. -/
import Derived.Test.YtccbiejlljbfcaaPgx
namespace Go.Proofs.Ytccbiejlljbfcaa
open Go.RowKit
set_option linter.unusedVariables false

theorem IsPairs.max {w : World} {a : Option Addr} {len cap : Nat} {rs : List (Int × Int)} (h : IsPairs w a len cap rs) : len ≤ 9223372036854775807 := by
  rcases h with ⟨_, h1, _, _⟩ | ⟨x, _, h1, h2, _⟩
  · omega
  · unfold maxLen at h2; omega

/-- The fault of two lists. -/
def twoV (rs : List (Int × Int)) (top : Int) (qs : List (Int × Int)) : Int := if pgsV rs top = 0 then pgsV qs 24 else pgsV rs top
def wbC (rs qs : List (Int × Int)) (x k : Int) : Int := if twoV rs 8 qs = 0 then (thr [rs, qs] x k).1 else twoV rs 8 qs
def wbV (rs qs : List (Int × Int)) (x k : Int) : Int := if twoV rs 8 qs = 0 then (thr [rs, qs] x k).2 else 0
theorem twoV_zero {rs qs : List (Int × Int)} {top : Int} (h : twoV rs top qs = 0) : pgsV rs top = 0 ∧ pgsV qs 24 = 0 := by
  unfold twoV at h
  split at h
  · next h1 => exact ⟨h1, h⟩
  · next h1 => exact absurd h h1
theorem okTo_mono {rs : List (Int × Int)} {t : Int} {j : Nat} (h : okTo t rs j) (ht : t ≤ 24) : okTo 24 rs j := by
  intro i hi
  obtain ⟨p1, p2, p3, p4, p5⟩ := pgC_zero (h i hi)
  exact pgC_ok (by omega) (by omega)
theorem pgsV_mono {rs : List (Int × Int)} {t : Int} (h : pgsV rs t = 0) : pgsV rs 24 = 0 := by
  obtain ⟨h1, h2, h3, h4⟩ := pgsV_zero h
  exact pgsV_ok (by omega) (by omega) h3 (okTo_mono h4 h2)

end Go.Proofs.Ytccbiejlljbfcaa
