/- Texts of this seat, joined. -/
import Derived.Test.YtdhdfopkcpkbeaaGreatDoorQ37
namespace Go.Proofs.YtdhdfopkcpkbeaaGreatDoor
open Go.RowKit
set_option linter.unusedVariables false

/-- What a lane says of the page k of a guest. -/
def matchL (g k : Int) (l : Ln) : Option (Int × Int) := if l.fr = g ∧ l.af = k then some (l.pg, 3) else if l.dst = g ∧ l.tt = k then some (l.pg, 1) else none
def firstM (g k : Int) : List Ln → Int × Int
  | [] => (-1, 0)
  | l :: t => match matchL g k l with | some x => x | none => firstM g k t
/-- The page k of a guest who owns ow. -/
def pageV (ow : List Int) (ls : List Ln) (g : Int) (k : Nat) : Int × Int := if k < ow.length then (ow.getD k 0, 7) else firstM g k ls
def pforL (ow : List Int) (ls : List Ln) (g : Int) (j : Nat) : List (Int × Int) := (List.range j).map (pageV ow ls g)
theorem pforL_len (ow : List Int) (ls : List Ln) (g : Int) (j : Nat) : (pforL ow ls g j).length = j := by simp [pforL]
theorem pforL_succ (ow : List Int) (ls : List Ln) (g : Int) (j : Nat) : pforL ow ls g (j + 1) = pforL ow ls g j ++ [((pageV ow ls g j).1, (pageV ow ls g j).2)] := by
  simp [pforL, List.range_succ]
theorem firstM_step (g k : Int) (ls : List Ln) (j : Nat) (h : j < ls.length) : firstM g k (ls.drop j) = match matchL g k (ls.getD j lz) with | some x => x | none => firstM g k (ls.drop (j + 1)) := by
  rw [drop_cons_getD ls lz j h, firstM]
theorem ask_guest (P : Plc) (g : Int) (h : askV P g = 0) : 0 ≤ g ∧ g < P.own.length := by
  unfold askV at h
  split at h
  · split at h
    · cases h
    · rename_i h1
      exact (isG_iff _ _).1 (by simpa using h1)
  · rename_i h1; exact absurd h h1
theorem pf_own (P : Plc) (h : pfV P = 0) (j : Nat) (hj : j < P.own.length) : 1 ≤ (P.own.getD j []).length ∧ (P.own.getD j []).length ≤ 5 ∧ ∀ x ∈ P.own.getD j [], 0 ≤ x ∧ x ≤ 23 :=
  guests_all P.own (pf_parts P h).2.1 _ (getD_mem P.own [] j hj)
end Go.Proofs.YtdhdfopkcpkbeaaGreatDoor
