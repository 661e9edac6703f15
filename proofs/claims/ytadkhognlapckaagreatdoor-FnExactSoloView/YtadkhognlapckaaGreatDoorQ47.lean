/- Texts of this seat, joined. -/
import Derived.Test.YtadkhognlapckaaGreatDoorQ46
namespace Go.Proofs.YtadkhognlapckaaGreatDoor
open Go.RowKit
set_option linter.unusedVariables false

/-- What a list of lanes keeps to: each has two ends, its places are 5 or 6, and no two use one page of a guest. -/
def LnOk (l : Ln) : Prop := ¬ l.fr = l.dst ∧ (5 ≤ l.af ∧ l.af ≤ 6) ∧ (5 ≤ l.tt ∧ l.tt ≤ 6)
def LnsOk (ls : List Ln) : Prop := (∀ l ∈ ls, LnOk l) ∧ ls.Pairwise fun o l => usesV o l.fr l.af = false ∧ usesV o l.dst l.tt = false
theorem lane_ok (own : List (List Int)) (ahead : List Ln) (l : Ln) (h : laneV own ahead l = 0) : LnOk l ∧ ∀ o ∈ ahead, usesV o l.fr l.af = false ∧ usesV o l.dst l.tt = false := by
  rw [laneV] at h
  split at h
  · rename_i h1
    split at h
    · cases h
    · rename_i h2
      split at h
      · cases h
      · split at h
        · cases h
        · rename_i h4
          rw [endsV] at h1
          split at h1
          · cases h1
          · split at h1
            · cases h1
            · rename_i h5
              simp only [not_or, Bool.not_eq_false] at h2
              have a1 : 5 ≤ l.af ∧ l.af ≤ 6 := by simpa [atOk] using h2.2.1
              have a2 : 5 ≤ l.tt ∧ l.tt ≤ 6 := by simpa [atOk] using h2.2.2
              refine ⟨⟨h5, a1, a2⟩, fun o ho => ?_⟩
              have := h4
              simp only [List.any_eq_true, not_exists, not_and, Bool.not_eq_true] at this
              have hm := this o ho
              unfold meetV at hm
              simp only [Bool.or_eq_false_iff] at hm
              exact ⟨hm.1.2, hm.2⟩
  · rename_i h1
    exact absurd h h1
theorem lanes_ok (own : List (List Int)) : ∀ (ls ahead : List Ln), lanesV own ahead ls = 0 → LnsOk ls ∧ ∀ l ∈ ls, ∀ o ∈ ahead, usesV o l.fr l.af = false ∧ usesV o l.dst l.tt = false := by
  intro ls
  induction ls with
  | nil => intro ahead _; exact ⟨⟨fun l hl => (by cases hl), List.Pairwise.nil⟩, fun l hl => (by cases hl)⟩
  | cons a t ih =>
    intro ahead h
    rw [lanesV] at h
    split at h
    · rename_i h1
      obtain ⟨k1, k2⟩ := lane_ok own ahead a h1
      obtain ⟨⟨i1, i2⟩, i3⟩ := ih _ h
      refine ⟨⟨fun l hl => ?_, List.pairwise_cons.2 ⟨fun l hl => i3 l hl a (by simp), i2⟩⟩, fun l hl o ho => ?_⟩
      · rcases List.mem_cons.1 hl with rfl | hl
        · exact k1
        · exact i1 l hl
      · rcases List.mem_cons.1 hl with rfl | hl
        · exact k2 o ho
        · exact i3 l hl o (List.mem_append_left _ ho)
    · rename_i h1
      exact absurd h h1
theorem ask_guest (P : Plc) (g : Int) (h : askV P g = 0) : 0 ≤ g ∧ g < P.own.length := by
  unfold askV at h
  split at h
  · split at h
    · cases h
    · rename_i h1
      exact (isG_iff _ _).1 (by simpa using h1)
  · rename_i h1; exact absurd h h1
theorem pf_own (P : Plc) (h : pfV P = 0) (j : Nat) (hj : j < P.own.length) : 1 ≤ (P.own.getD j []).length ∧ (P.own.getD j []).length ≤ 5 ∧ ∀ x ∈ P.own.getD j [], 0 ≤ x ∧ x ≤ 23 :=
  guests_all P.own (pf_parts P h).2.1 _ (getD_mem P.own [] j hj)
end Go.Proofs.YtadkhognlapckaaGreatDoor
