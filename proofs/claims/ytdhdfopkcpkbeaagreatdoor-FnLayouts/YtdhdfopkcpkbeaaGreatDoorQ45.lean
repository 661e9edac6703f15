/- Texts of this seat, joined. -/
import Derived.Test.YtdhdfopkcpkbeaaGreatDoorQ42
namespace Go.Proofs.YtdhdfopkcpkbeaaGreatDoor
open Go.RowKit
set_option linter.unusedVariables false

/-- A number is set in the first place of a row: rows in that block have it, all others stay. -/
def hit0 (g : Nat) (u : Int) (x : Value) (zs : List Int) : List Int := if x.ownBlock = some g then zs.set 0 u else zs
theorem Nums.hit {w : World} {base g : Nat} {x : Value} {zs : List Int} (h : Nums w base x zs) (u : Int) : Nums (w.setCell ⟨g, 0, none⟩ (.int .i64 u)) base x (hit0 g u x zs) := by
  unfold hit0
  by_cases e : x.ownBlock = some g
  · rw [if_pos e]
    obtain ⟨a, cap, rfl, _, _, _⟩ := h.shape
    have h' := h
    obtain ⟨h1, ⟨hv, h3⟩ | ⟨g', cap', cur, hv, rest⟩⟩ := h
    · rw [hv] at e; cases e
    · rw [hv] at e
      cases e
      cases hv
      have s := (World.ownsRow.stored h' 0 (.int .i64 u)).1
      unfold Nums
      rw [List.length_set, ← List.map_set] at *
      exact s
  · rw [if_neg e]
    exact h.put _ _ e
theorem So.hit {w : World} {base g : Nat} {v : Value} {oss : List (List Int)} (h : So w base v oss) (hg : ∃ B x zs, Nums w B x zs ∧ x.ownBlock = some g) (u : Int) : ∃ oss', So (w.setCell ⟨g, 0, none⟩ (.int .i64 u)) base v oss' ∧ oss'.length = oss.length ∧ ∀ i, (oss'.getD i []).length ≤ (oss.getD i []).length := by
  obtain ⟨xs, h0, h1, h2⟩ := h
  obtain ⟨B, x, zs, hx, hxg⟩ := hg
  refine ⟨(List.range oss.length).map fun i => hit0 g u (xs.getD i (.slice none 0 0)) (oss.getD i []), ⟨xs, by simp [h0], ?_, fun i hi => ?_⟩, by simp, fun i => ?_⟩
  · rw [List.length_map, List.length_range]
    refine World.ownsRow.kept h1 (grown_set w _ _) ?_
    rcases own_types h1 hx (by decide) with e | e
    · exact .inl e
    · exact .inr (by rw [hxg] at e; exact e)
  · rw [List.length_map, List.length_range] at hi
    rw [show ((List.range oss.length).map fun i => hit0 g u (xs.getD i (.slice none 0 0)) (oss.getD i [])).getD i [] = hit0 g u (xs.getD i (.slice none 0 0)) (oss.getD i []) by rw [List.getD, List.getElem?_map, List.getElem?_range hi]; rfl]
    exact (h2 i hi).hit u
  · by_cases hi : i < oss.length
    · rw [show ((List.range oss.length).map fun i => hit0 g u (xs.getD i (.slice none 0 0)) (oss.getD i [])).getD i [] = hit0 g u (xs.getD i (.slice none 0 0)) (oss.getD i []) by rw [List.getD, List.getElem?_map, List.getElem?_range hi]; rfl]
      unfold hit0
      split
      · rw [List.length_set]; exact Nat.le_refl _
      · exact Nat.le_refl _
    · rw [List.getD, List.getElem?_eq_none (by simp; omega)]
      exact Nat.zero_le _
/-- The first slice of a slice of slices. -/
theorem So.first {w : World} {base n cap : Nat} {a : Option Addr} {oss : List (List Int)} (h : So w base (.slice a n cap) oss) (hn : 0 < oss.length) : ∃ g a1 c1, a = some ⟨g, 0, none⟩ ∧ w.cell? ⟨g, 0, none⟩ = some (.slice a1 (oss.getD 0 []).length c1) ∧ w.frozen? ⟨g, 0, none⟩ = false ∧ Nums w base (.slice a1 (oss.getD 0 []).length c1) (oss.getD 0 []) := by
  obtain ⟨xs, h0, h1, h2⟩ := h
  obtain ⟨a1, c1, hs, _⟩ := (h2 0 hn).shape
  have h1' := h1
  obtain ⟨k1, ⟨hv, k3⟩ | ⟨g, c, cur, hv, _, _, k4, k5, _⟩⟩ := h1
  · omega
  · cases hv
    refine ⟨g, a1, c1, rfl, ?_, World.ownsRow.frozenAt h1' 0, by have := h2 0 hn; rw [hs] at this; exact this⟩
    rw [World.ownsRow.cellAt h1' 0 (by omega), ← hs, List.getD, List.getElem?_eq_getElem (by omega)]
    rfl
/-- The first slice made nil. -/
theorem So.nil0 {w : World} {base g n cap : Nat} {oss : List (List Int)} (h : So w base (.slice (some ⟨g, 0, none⟩) n cap) oss) : ∃ oss', So (w.setCell ⟨g, 0, none⟩ (.slice none 0 0)) base (.slice (some ⟨g, 0, none⟩) n cap) oss' ∧ oss'.length = oss.length ∧ ∀ i, (oss'.getD i []).length ≤ (oss.getD i []).length := by
  obtain ⟨xs, h0, h1, h2⟩ := h
  have hn : n = oss.length := by
    obtain ⟨k1, ⟨hv, k3⟩ | ⟨g', c, cur, hv, _⟩⟩ := h1
    · cases hv
    · cases hv; rfl
  subst hn
  have s := (World.ownsRow.stored h1 0 (.slice none 0 0)).1
  refine ⟨oss.set 0 [], ⟨xs.set 0 (.slice none 0 0), by simp [h0], by rw [List.length_set]; exact s, fun i hi => ?_⟩, by simp, fun i => ?_⟩
  · rw [List.length_set] at hi
    have hk : ∀ {u : Value} {rs : List Int}, Nums w base u rs → Nums (w.setCell ⟨g, 0, none⟩ (.slice none 0 0)) base u rs := fun hu => hu.kept (grown_set w _ _) (own_types hu h1 (by decide))
    by_cases e : i = 0
    · subst e
      have e1 : (xs.set 0 (.slice none 0 0)).getD 0 (.slice none 0 0) = .slice none 0 0 := by cases xs <;> rfl
      have e2 : (oss.set 0 []).getD 0 [] = [] := by cases oss <;> rfl
      rw [e1, e2]
      exact Nums.nil _ _
    · have e1 : (xs.set 0 (.slice none 0 0)).getD i (.slice none 0 0) = xs.getD i (.slice none 0 0) := by rw [List.getD, List.getD, List.getElem?_set_ne (by omega)]
      have e2 : (oss.set 0 []).getD i [] = oss.getD i [] := by rw [List.getD, List.getD, List.getElem?_set_ne (by omega)]
      rw [e1, e2]
      exact hk (h2 i hi)
  · by_cases e : i = 0
    · subst e
      have e2 : (oss.set 0 []).getD 0 [] = [] := by cases oss <;> rfl
      rw [e2]; exact Nat.zero_le _
    · rw [show (oss.set 0 []).getD i [] = oss.getD i [] by rw [List.getD, List.getD, List.getElem?_set_ne (by omega)]]
      exact Nat.le_refl _
end Go.Proofs.YtdhdfopkcpkbeaaGreatDoor
