/- Words of pages, as values. -/
import Derived.Test.YtnhhbpemdgdaiaaGreatDoorPfv
import Derived.Test.YtnhhbpemdgdaiaaGreatDoorOwh
import Derived.Test.YtnhhbpemdgdaiaaGreatDoorCut
import Derived.Test.YtnhhbpemdgdaiaaGreatDoorWla
import Derived.Test.YtnhhbpemdgdaiaaGreatDoorIntr
namespace Go.Proofs.YtnhhbpemdgdaiaaGreatDoor
open Go.RowKit
set_option linter.unusedVariables false

theorem wordsL_len (ms : List Int) (hm : ms.length = 192) : ∀ ps : List Int, (∀ x ∈ ps, 0 ≤ x ∧ x ≤ 23) → (wordsL ms ps).length = ps.length * 8
  | [], _ => by simp [wordsL]
  | p :: t, h => by
    have h1 := wordsL_len ms hm t (fun x hx => h x (List.mem_cons_of_mem _ hx))
    have h2 := h p (by simp)
    rw [wordsL, List.length_append, h1, eight_length ms 24 p.toNat (by omega) (by omega), List.length_cons]
    omega
def wordsC (P : Plc) (ms : List Int) (g : Int) : Int := if askV P g = 0 then (if wholeB ms = true then 0 else 1) else askV P g
def wordsZ (P : Plc) (ms : List Int) (g : Int) : List Int := if wordsC P ms g = 0 then wordsL ms (P.own.getD g.toNat []) else []
theorem words_ask (P : Plc) (ms : List Int) (g : Int) (h : wordsC P ms g = 0) : askV P g = 0 ∧ wholeB ms = true := by
  unfold wordsC at h
  split at h
  · rename_i h1
    split at h
    · rename_i h2; exact ⟨h1, h2⟩
    · cases h
  · rename_i h1; exact absurd h h1
theorem words_len (P : Plc) (ms : List Int) (g : Int) : (wordsZ P ms g).length ≤ 40 := by
  unfold wordsZ
  split
  · rename_i h
    have ha := (words_ask P ms g h).1
    have := (pf_own P (ask_pf P g ha) g.toNat (by have := ask_guest P g ha; omega)).2.1
    have := wordsL_le ms (P.own.getD g.toNat [])
    omega
  · exact Nat.zero_le _
def lwordsC (P : Plc) (ms : List Int) (l : Int) : Int := if pfV P = 0 then (if 0 ≤ l ∧ l < P.lanes.length then (if wholeB ms = true then 0 else 1) else 4) else pfV P
def lwordsZ (P : Plc) (ms : List Int) (l : Int) : List Int := if lwordsC P ms l = 0 then wordsL ms [(P.lanes.getD l.toNat lz).pg] else []
theorem lwords_len (P : Plc) (ms : List Int) (l : Int) : (lwordsZ P ms l).length ≤ 8 := by
  unfold lwordsZ
  split
  · have := wordsL_le ms [(P.lanes.getD l.toNat lz).pg]
    simpa using this
  · exact Nat.zero_le _
theorem lane_pg (own : List (List Int)) : ∀ (ls ahead : List Ln), lanesV own ahead ls = 0 → ∀ l ∈ ls, 0 ≤ l.pg ∧ l.pg ≤ 23 := by
  intro ls
  induction ls with
  | nil => intro _ _ l hl; cases hl
  | cons a t ih =>
    intro ahead h l hl
    rw [lanesV] at h
    split at h
    · rename_i h1
      rcases List.mem_cons.1 hl with rfl | hl
      · rw [laneV] at h1
        split at h1
        · split at h1
          · cases h1
          · rename_i h2
            simp only [not_or, Bool.not_eq_false] at h2
            simpa [pgOk] using h2.1
        · rename_i h2
          exact absurd h1 h2
      · exact ih _ h l hl
    · rename_i h1
      exact absurd h h1
theorem pf_page (P : Plc) (h : pfV P = 0) (j : Nat) (hj : j < P.lanes.length) : 0 ≤ (P.lanes.getD j lz).pg ∧ (P.lanes.getD j lz).pg ≤ 23 :=
  lane_pg _ _ _ (pf_parts P h).2.2.1 _ (getD_mem P.lanes lz j hj)

end Go.Proofs.YtnhhbpemdgdaiaaGreatDoor
