/- Texts of this seat, joined. -/
import Derived.Test.YtdhdfopkcpkbeaaGreatDoorQ08
import Derived.Test.YtdhdfopkcpkbeaaGreatDoorQ09
namespace Go.Proofs.YtdhdfopkcpkbeaaGreatDoor
open Go.RowKit
set_option linter.unusedVariables false

/-- A policy: Own, Lanes, Bells, Plan. -/
structure Plc where
  own : List (List Int)
  lanes : List Ln
  bells : List (Int × Int)
  plan : List (Int × Int)

def pgOk (x : Int) : Bool := decide (0 ≤ x) && decide (x ≤ 23)
def guestsV : List (List Int) → Int
  | [] => 0
  | o :: t => if o.length < 1 ∨ 5 < o.length then 2 else if o.all pgOk = false then 3 else guestsV t
def dupF (seen : List Int) : List Int → Bool
  | [] => false
  | z :: t => if z ∈ seen then true else dupF (seen ++ [z]) t
def ownerFrom (i : Int) : List (List Int) → Int → Int
  | [], _ => -1
  | o :: t, pg => if pg ∈ o then i else ownerFrom (i + 1) t pg
def isG (n : Nat) (g : Int) : Bool := decide (0 ≤ g) && decide (g ≤ (n : Int) - 1)
def endsV (n : Nat) (f t : Int) : Int := if isG n f = false ∨ isG n t = false then 4 else if f = t then 1 else 0
def usesV (l : Ln) (g p : Int) : Bool := decide (l.fr = g ∧ l.af = p ∨ l.dst = g ∧ l.tt = p)
def meetV (o l : Ln) : Bool := decide (o.pg = l.pg) || usesV o l.fr l.af || usesV o l.dst l.tt
def atOk (x : Int) : Bool := decide (5 ≤ x) && decide (x ≤ 6)
def stOk (x : Int) : Bool := decide (1 ≤ x) && decide (x ≤ 50)
def laneV (own : List (List Int)) (ahead : List Ln) (l : Ln) : Int :=
  if endsV own.length l.fr l.dst = 0 then
    if pgOk l.pg = false ∨ atOk l.af = false ∨ atOk l.tt = false then 3
    else if 0 ≤ ownerFrom 0 own l.pg then 6 else if ahead.any (fun o => meetV o l) then 6 else 0
  else endsV own.length l.fr l.dst
def lanesV (own : List (List Int)) (ahead : List Ln) : List Ln → Int
  | [] => 0
  | l :: t => if laneV own ahead l = 0 then lanesV own (ahead ++ [l]) t else laneV own ahead l
def bellV (n : Nat) (ahead : List (Int × Int)) (b : Int × Int) : Int := if endsV n b.1 b.2 = 0 then (if b ∈ ahead then 6 else 0) else endsV n b.1 b.2
def bellsV (n : Nat) (ahead : List (Int × Int)) : List (Int × Int) → Int
  | [] => 0
  | b :: t => if bellV n ahead b = 0 then bellsV n (ahead ++ [b]) t else bellV n ahead b
def slotV (n : Nat) (s : Int × Int) : Int := if isG n s.1 = false then 4 else if stOk s.2 = false then 3 else 0
def slotsV (n : Nat) : List (Int × Int) → Int
  | [] => 0
  | s :: t => if slotV n s = 0 then slotsV n t else slotV n s
def g1V (own : List (List Int)) : Int := if own.length < 1 ∨ 3 < own.length then 2 else guestsV own
def g2V (own : List (List Int)) : Int := if dupF [] own.flatten then 6 else 0
def g3V (P : Plc) : Int := if 4 < P.lanes.length ∨ 4 < P.bells.length then 2 else 0
def g6V (P : Plc) : Int := if P.plan.length < 1 ∨ 8 < P.plan.length then 2 else slotsV P.own.length P.plan
/-- The first of two codes that is not 0. -/
def orV (a b : Int) : Int := if a = 0 then b else a
def ownsV (P : Plc) : Int := orV (g1V P.own) (g2V P.own)
def linksV (P : Plc) : Int := orV (g3V P) (lanesV P.own [] P.lanes)
def restV (P : Plc) : Int := orV (bellsV P.own.length [] P.bells) (g6V P)
def pfV (P : Plc) : Int := orV (ownsV P) (orV (linksV P) (restV P))

theorem take_succ_getD {α : Type} (zs : List α) (d : α) (j : Nat) (h : j < zs.length) : zs.take (j + 1) = zs.take j ++ [zs.getD j d] := by
  rw [List.take_add_one, List.getElem?_eq_getElem h, List.getD, List.getElem?_eq_getElem h]
  simp
theorem drop_cons_getD {α : Type} (zs : List α) (d : α) (j : Nat) (h : j < zs.length) : zs.drop j = zs.getD j d :: zs.drop (j + 1) := by
  rw [List.drop_eq_getElem_cons h, List.getD, List.getElem?_eq_getElem h]
  simp
theorem guests_step (own : List (List Int)) (j : Nat) (h : j < own.length) : guestsV (own.drop j) =
    if (own.getD j []).length < 1 ∨ 5 < (own.getD j []).length then 2 else if (own.getD j []).all pgOk = false then 3 else guestsV (own.drop (j + 1)) := by
  rw [drop_cons_getD own [] j h, guestsV]
theorem all_step (zs : List Int) (f : Int → Bool) (j : Nat) (h : j < zs.length) : (zs.drop j).all f = (f (zs.getD j 0) && (zs.drop (j + 1)).all f) := by
  rw [drop_cons_getD zs 0 j h, List.all_cons]
theorem any_step {α : Type} (d : α) (zs : List α) (f : α → Bool) (j : Nat) (h : j < zs.length) : (zs.drop j).any f = (f (zs.getD j d) || (zs.drop (j + 1)).any f) := by
  rw [drop_cons_getD zs d j h, List.any_cons]
theorem owner_step (own : List (List Int)) (pg : Int) (j : Nat) (h : j < own.length) : ownerFrom j (own.drop j) pg = if pg ∈ own.getD j [] then (j : Int) else ownerFrom ((j + 1 : Nat) : Int) (own.drop (j + 1)) pg := by
  rw [drop_cons_getD own [] j h, ownerFrom]
  rfl
theorem lanes_step (own : List (List Int)) (zs : List Ln) (j : Nat) (h : j < zs.length) : lanesV own (zs.take j) (zs.drop j) =
    if laneV own (zs.take j) (zs.getD j lz) = 0 then lanesV own (zs.take (j + 1)) (zs.drop (j + 1)) else laneV own (zs.take j) (zs.getD j lz) := by
  rw [drop_cons_getD zs lz j h, lanesV, take_succ_getD zs lz j h]
theorem bells_step (n : Nat) (zs : List (Int × Int)) (j : Nat) (h : j < zs.length) : bellsV n (zs.take j) (zs.drop j) =
    if bellV n (zs.take j) (zs.getD j (0, 0)) = 0 then bellsV n (zs.take (j + 1)) (zs.drop (j + 1)) else bellV n (zs.take j) (zs.getD j (0, 0)) := by
  rw [drop_cons_getD zs (0, 0) j h, bellsV, take_succ_getD zs (0, 0) j h]
theorem slots_step (n : Nat) (zs : List (Int × Int)) (j : Nat) (h : j < zs.length) : slotsV n (zs.drop j) =
    if slotV n (zs.getD j (0, 0)) = 0 then slotsV n (zs.drop (j + 1)) else slotV n (zs.getD j (0, 0)) := by
  rw [drop_cons_getD zs (0, 0) j h, slotsV]
/-- What is seen of the pages, and what is left, at the page k of the guest i. -/
def seenAt (own : List (List Int)) (i k : Nat) : List Int := (own.take i).flatten ++ (own.getD i []).take k
def leftAt (own : List (List Int)) (i k : Nat) : List Int := (own.getD i []).drop k ++ (own.drop (i + 1)).flatten
theorem dup_step (own : List (List Int)) (i k : Nat) (h : k < (own.getD i []).length) : dupF (seenAt own i k) (leftAt own i k) =
    if (own.getD i []).getD k 0 ∈ seenAt own i k then true else dupF (seenAt own i (k + 1)) (leftAt own i (k + 1)) := by
  unfold leftAt seenAt
  rw [drop_cons_getD _ 0 k h, List.cons_append, dupF, take_succ_getD _ 0 k h, List.append_assoc]
theorem guests_all (own : List (List Int)) (h : guestsV own = 0) : ∀ o ∈ own, 1 ≤ o.length ∧ o.length ≤ 5 ∧ ∀ x ∈ o, 0 ≤ x ∧ x ≤ 23 := by
  induction own with
  | nil => intro o ho; cases ho
  | cons a t ih =>
    rw [guestsV] at h
    split at h
    · cases h
    · rename_i h1
      split at h
      · cases h
      · rename_i h2
        intro o ho
        rcases List.mem_cons.1 ho with rfl | ho
        · refine ⟨by omega, by omega, fun x hx => ?_⟩
          have h3 : o.all pgOk = true := by simpa using h2
          have := (List.all_eq_true.1 h3) x hx
          simpa [pgOk] using this
        · exact ih h o ho
theorem owner_range (own : List (List Int)) (pg : Int) : ∀ i : Int, 0 ≤ i → ownerFrom i own pg = -1 ∨ (i ≤ ownerFrom i own pg ∧ ownerFrom i own pg < i + own.length) := by
  induction own with
  | nil => intro i _; exact .inl rfl
  | cons o t ih =>
    intro i hi
    rw [ownerFrom]
    split
    · right; simp; omega
    · rcases ih (i + 1) (by omega) with h | h
      · exact .inl h
      · right; simp only [List.length_cons]; omega
end Go.Proofs.YtdhdfopkcpkbeaaGreatDoor
