/- Draws of entries. -/
import Derived.Test.YtaajaikpkcgalaaWide
import Derived.Test.YtaajaikpkcgalaaPge
namespace Go.Proofs.Ytaajaikpkcgalaa
open Go.RowKit
set_option linter.unusedVariables false

/-- An entry is told by its word; what a word tells is told by the least such word. -/
theorem ent_word {z : Int} (h : isW z = true) : ewC (entP z).1 (entP z).2 = 0 ∧ ewV (entP z).1 (entP z).2 ≤ z ∧ isW (ewV (entP z).1 (entP z).2) = true ∧ entP (ewV (entP z).1 (entP z).2) = entP z := by
  obtain ⟨h0, h1⟩ := isW_true h
  by_cases hc : z % 8 = 0 ∨ 8 ≤ z / 8
  · have e : entP z = (-1, 0) := if_pos hc
    rw [e]
    exact ⟨by decide, h0, by decide, by decide⟩
  · have e : entP z = (z / 8, z % 8) := if_neg hc
    have hp : pgC 8 (z / 8) (z % 8) = 0 := pgC_ok (by omega) (by omega)
    have hw : ewC (z / 8) (z % 8) = 0 := by rw [ewC, if_pos hp, if_neg (by omega)]
    have hv : ewV (z / 8) (z % 8) = z := by rw [ewV, if_pos (by omega)]; omega
    rw [e]
    simp only
    rw [hw, hv]
    exact ⟨rfl, Int.le_refl _, h, e⟩
theorem word_ent {a b : Int} (h : ewC a b = 0) : isW (ewV a b) = true ∧ entP (ewV a b) = (a, b) := by
  by_cases hp : pgC 8 a b = 0
  case neg => rw [ewC, if_neg hp] at h; exact absurd h hp
  obtain ⟨p1, p2, p3, p4, p5⟩ := pgC_zero hp
  by_cases ha : a = -1
  · have hb := p5 ha
    subst ha hb
    exact ⟨by decide, by decide⟩
  · have hb : b ≠ 0 := by
      intro hb
      rw [ewC, if_pos hp, if_pos ⟨ha, hb⟩] at h
      omega
    have hv : ewV a b = a * 8 + b := if_pos ⟨h, ha⟩
    rw [hv]
    refine ⟨by unfold isW; simp; omega, ?_⟩
    rw [entP, if_neg (by omega), show (a * 8 + b) / 8 = a by omega, show (a * 8 + b) % 8 = b by omega]
end Go.Proofs.Ytaajaikpkcgalaa
