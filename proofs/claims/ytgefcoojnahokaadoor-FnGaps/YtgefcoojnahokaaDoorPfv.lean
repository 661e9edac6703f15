/- The pages of a guest, as values: told page by page, and told by laying lanes one behind the other. -/
import Derived.Test.YtgefcoojnahokaaDoorFrl
namespace Go.Proofs.YtgefcoojnahokaaDoor
open Go.RowKit
set_option linter.unusedVariables false

/-- What a lane says of the page k of a guest. -/
def matchL (g k : Int) (l : Ln) : Option (Int × Int) := if l.fr = g ∧ l.af = k then some (l.pg, 3) else if l.dst = g ∧ l.tt = k then some (l.pg, 1) else none
def firstM (g k : Int) : List Ln → Int × Int
  | [] => (-1, 0)
  | l :: t => match matchL g k l with | some x => x | none => firstM g k t
/-- The page k of a guest who owns ow. -/
def pageV (ow : List Int) (ls : List Ln) (g : Int) (k : Nat) : Int × Int := if k < ow.length then (ow.getD k 0, 7) else firstM g k ls
def pforL (ow : List Int) (ls : List Ln) (g : Int) (j : Nat) : List (Int × Int) := (List.range j).map (pageV ow ls g)
theorem pforL_len (ow : List Int) (ls : List Ln) (g : Int) (j : Nat) : (pforL ow ls g j).length = j := by simp [pforL]
theorem pforL_succ (ow : List Int) (ls : List Ln) (g : Int) (j : Nat) : pforL ow ls g (j + 1) = pforL ow ls g j ++ [((pageV ow ls g j).1, (pageV ow ls g j).2)] := by
  simp [pforL, List.range_succ]
/-- A lane laid into a list of pages. -/
def set1 (g : Int) (o : List (Int × Int)) (l : Ln) : List (Int × Int) := if l.fr = g then o.set l.af.toNat (l.pg, 3) else o
def set2 (g : Int) (o : List (Int × Int)) (l : Ln) : List (Int × Int) := if l.dst = g then o.set l.tt.toNat (l.pg, 1) else o
def layL (g : Int) (o : List (Int × Int)) : List Ln → List (Int × Int)
  | [] => o
  | l :: t => layL g (set2 g (set1 g o l) l) t
def ownL (o : List (Int × Int)) (ow : List Int) : Nat → List (Int × Int)
  | 0 => o
  | j + 1 => (ownL o ow j).set j (ow.getD j 0, 7)
def pforM (ow : List Int) (ls : List Ln) (g : Int) : List (Int × Int) := layL g (ownL (List.replicate 8 (-1, 0)) ow ow.length) ls
theorem set1_len (g : Int) (o : List (Int × Int)) (l : Ln) : (set1 g o l).length = o.length := by unfold set1; split <;> simp
theorem set2_len (g : Int) (o : List (Int × Int)) (l : Ln) : (set2 g o l).length = o.length := by unfold set2; split <;> simp
theorem layL_len (g : Int) (ls : List Ln) : ∀ o, (layL g o ls).length = o.length := by
  induction ls with
  | nil => intro o; rfl
  | cons l t ih => intro o; rw [layL, ih, set2_len, set1_len]
theorem ownL_len (o : List (Int × Int)) (ow : List Int) : ∀ j, (ownL o ow j).length = o.length
  | 0 => rfl
  | j + 1 => by rw [ownL, List.length_set, ownL_len o ow j]
theorem getD_set_pair (o : List (Int × Int)) (i k : Nat) (x : Int × Int) (hi : i < o.length) : (o.set i x).getD k (0, 0) = if i = k then x else o.getD k (0, 0) := by
  by_cases h : i = k
  · subst h
    simp [List.getD, hi]
  · rw [if_neg h]
    simp [List.getD, List.getElem?_set_ne h]
theorem ownL_get (o : List (Int × Int)) (ow : List Int) (k : Nat) : ∀ j, j ≤ o.length → (ownL o ow j).getD k (0, 0) = if k < j then (ow.getD k 0, 7) else o.getD k (0, 0)
  | 0 => fun _ => by simp [ownL]
  | j + 1 => fun h => by
    rw [ownL, getD_set_pair _ _ _ _ (by rw [ownL_len]; omega), ownL_get o ow k j (by omega)]
    by_cases e : j = k
    · subst e; simp
    · rw [if_neg e]
      by_cases h2 : k < j
      · rw [if_pos h2, if_pos (by omega)]
      · rw [if_neg h2, if_neg (by omega)]
theorem layL_step (g : Int) (o : List (Int × Int)) (ls : List Ln) (j : Nat) (h : j < ls.length) : layL g o (ls.drop j) = layL g (set2 g (set1 g o (ls.getD j lz)) (ls.getD j lz)) (ls.drop (j + 1)) := by
  rw [drop_cons_getD ls lz j h, layL]
theorem firstM_step (g k : Int) (ls : List Ln) (j : Nat) (h : j < ls.length) : firstM g k (ls.drop j) = match matchL g k (ls.getD j lz) with | some x => x | none => firstM g k (ls.drop (j + 1)) := by
  rw [drop_cons_getD ls lz j h, firstM]
theorem set12_get (g : Int) (o : List (Int × Int)) (l : Ln) (k : Nat) (hf : ¬ l.fr = l.dst) (h1 : 0 ≤ l.af ∧ l.af < 8) (h2 : 0 ≤ l.tt ∧ l.tt < 8) (ho : o.length = 8) :
    (set2 g (set1 g o l) l).getD k (0, 0) = match matchL g k l with | some x => x | none => o.getD k (0, 0) := by
  by_cases e1 : l.fr = g
  · have e2 : ¬ l.dst = g := fun e => hf (by rw [e1, e])
    have hs : set2 g (set1 g o l) l = o.set l.af.toNat (l.pg, 3) := by unfold set2 set1; rw [if_neg e2, if_pos e1]
    rw [hs, getD_set_pair _ _ _ _ (by omega)]
    by_cases e3 : l.af = k
    · have hm : matchL g k l = some (l.pg, 3) := by unfold matchL; rw [if_pos ⟨e1, e3⟩]
      rw [hm, if_pos (by omega)]
    · have hm : matchL g k l = none := by unfold matchL; rw [if_neg (fun h => e3 h.2), if_neg (fun h => e2 h.1)]
      rw [hm, if_neg (by omega)]
  · by_cases e2 : l.dst = g
    · have hs : set2 g (set1 g o l) l = o.set l.tt.toNat (l.pg, 1) := by unfold set2 set1; rw [if_pos e2, if_neg e1]
      rw [hs, getD_set_pair _ _ _ _ (by omega)]
      by_cases e3 : l.tt = k
      · have hm : matchL g k l = some (l.pg, 1) := by unfold matchL; rw [if_neg (fun h => e1 h.1), if_pos ⟨e2, e3⟩]
        rw [hm, if_pos (by omega)]
      · have hm : matchL g k l = none := by unfold matchL; rw [if_neg (fun h => e1 h.1), if_neg (fun h => e3 h.2)]
        rw [hm, if_neg (by omega)]
    · have hs : set2 g (set1 g o l) l = o := by unfold set2 set1; rw [if_neg e2, if_neg e1]
      have hm : matchL g k l = none := by unfold matchL; rw [if_neg (fun h => e1 h.1), if_neg (fun h => e2 h.1)]
      rw [hs, hm]
/-- What a list of lanes keeps to: each has two ends, its places are 5 or 6, and no two use one page of a guest. -/
def LnOk (l : Ln) : Prop := ¬ l.fr = l.dst ∧ (5 ≤ l.af ∧ l.af ≤ 6) ∧ (5 ≤ l.tt ∧ l.tt ≤ 6)
def LnsOk (ls : List Ln) : Prop := (∀ l ∈ ls, LnOk l) ∧ ls.Pairwise fun o l => usesV o l.fr l.af = false ∧ usesV o l.dst l.tt = false
theorem match_uses (g k : Int) (l : Ln) : (matchL g k l).isSome = usesV l g k := by
  unfold matchL usesV
  by_cases h1 : l.fr = g ∧ l.af = k
  · rw [if_pos h1]; simp [h1]
  · rw [if_neg h1]
    by_cases h2 : l.dst = g ∧ l.tt = k
    · rw [if_pos h2]; simp [h2]
    · rw [if_neg h2]; simp [h1, h2]
theorem match_two (g k : Int) (o l : Ln) (h1 : usesV o l.fr l.af = false) (h2 : usesV o l.dst l.tt = false) (ho : (matchL g k o).isSome = true) : matchL g k l = none := by
  rw [match_uses] at ho
  cases hm : matchL g k l with
  | none => rfl
  | some x =>
    have hl : usesV l g k = true := by rw [← match_uses, hm]; rfl
    unfold usesV at hl
    simp only [decide_eq_true_eq] at hl
    rcases hl with ⟨e1, e2⟩ | ⟨e1, e2⟩
    · rw [e1, e2, ho] at h1; cases h1
    · rw [e1, e2, ho] at h2; cases h2
theorem first_none (g k : Int) (ls : List Ln) (h : ∀ l ∈ ls, matchL g k l = none) : firstM g k ls = (-1, 0) := by
  induction ls with
  | nil => rfl
  | cons l t ih => rw [firstM, h l (by simp)]; exact ih (fun l hl => h l (List.mem_cons_of_mem _ hl))
theorem layL_get (g : Int) (k : Nat) (ls : List Ln) : ∀ o : List (Int × Int), o.length = 8 → LnsOk ls →
    (layL g o ls).getD k (0, 0) = if ∃ l ∈ ls, (matchL g k l).isSome = true then firstM g k ls else o.getD k (0, 0) := by
  induction ls with
  | nil => intro o _ _; simp [layL]
  | cons l t ih =>
    intro o ho hk
    obtain ⟨hl1, hl2, hl3⟩ := hk.1 l (by simp)
    have hp := List.pairwise_cons.1 hk.2
    have ht : LnsOk t := ⟨fun x hx => hk.1 x (List.mem_cons_of_mem _ hx), hp.2⟩
    rw [layL, ih _ (by rw [set2_len, set1_len]; exact ho) ht, set12_get g o l k hl1 ⟨by omega, by omega⟩ ⟨by omega, by omega⟩ ho, firstM]
    cases hm : matchL g k l with
    | some x =>
      have hn : ¬ ∃ l' ∈ t, (matchL g k l').isSome = true := by
        rintro ⟨l', h1, h2⟩
        have := match_two g k l l' (hp.1 l' h1).1 (hp.1 l' h1).2 (by rw [hm]; rfl)
        rw [this] at h2; cases h2
      rw [if_neg hn, if_pos ⟨l, by simp, by rw [hm]; rfl⟩]
    | none =>
      by_cases he : ∃ l' ∈ t, (matchL g k l').isSome = true
      · obtain ⟨l', h1, h2⟩ := he
        rw [if_pos ⟨l', h1, h2⟩, if_pos ⟨l', List.mem_cons_of_mem _ h1, h2⟩]
      · rw [if_neg he, if_neg]
        rintro ⟨l', h1, h2⟩
        rcases List.mem_cons.1 h1 with rfl | h1
        · rw [hm] at h2; cases h2
        · exact he ⟨l', h1, h2⟩
theorem pfor_eq (ow : List Int) (ls : List Ln) (g : Int) (ho : ow.length ≤ 5) (hk : LnsOk ls) : pforM ow ls g = pforL ow ls g 8 := by
  apply List.ext_getElem
  · rw [pforM, layL_len, ownL_len, pforL_len]; simp
  · intro k h1 h2
    have e : ∀ (x : List (Int × Int)) (h : k < x.length), x[k] = x.getD k (0, 0) := fun x h => by simp [List.getD, h]
    rw [e _ h1, e _ h2, pforM, layL_get g k ls _ (by rw [ownL_len]; simp) hk, ownL_get _ _ _ _ (by simp; omega)]
    have hk8 : k < 8 := by rw [pforL_len] at h2; exact h2
    have e2 : (pforL ow ls g 8).getD k (0, 0) = pageV ow ls g k := by simp [pforL, List.getD, hk8]
    rw [e2, pageV]
    by_cases hlt : k < ow.length
    · rw [if_pos hlt, if_neg]
      · rw [if_pos hlt]
      · rintro ⟨l, hl, hm⟩
        have hok := hk.1 l hl
        rw [match_uses] at hm
        unfold usesV at hm
        simp only [decide_eq_true_eq] at hm
        have := hok.2.1; have := hok.2.2
        omega
    · rw [if_neg hlt, if_neg hlt]
      by_cases he : ∃ l ∈ ls, (matchL g k l).isSome = true
      · rw [if_pos he]
      · rw [if_neg he, first_none g k ls]
        · rw [List.getD, List.getElem?_replicate, if_pos hk8]; rfl
        · intro l hl
          cases hm : matchL g k l with
          | none => rfl
          | some x => exact absurd ⟨l, hl, by rw [hm]; rfl⟩ he
theorem lane_ok (own : List (List Int)) (ahead : List Ln) (l : Ln) (h : laneV own ahead l = 0) : LnOk l ∧ ∀ o ∈ ahead, usesV o l.fr l.af = false ∧ usesV o l.dst l.tt = false := by
  rw [laneV] at h
  split at h
  · rename_i h1
    split at h
    · cases h
    · rename_i h2
      split at h
      · cases h
      · split at h
        · cases h
        · rename_i h4
          rw [endsV] at h1
          split at h1
          · cases h1
          · split at h1
            · cases h1
            · rename_i h5
              simp only [not_or, Bool.not_eq_false] at h2
              have a1 : 5 ≤ l.af ∧ l.af ≤ 6 := by simpa [atOk] using h2.2.1
              have a2 : 5 ≤ l.tt ∧ l.tt ≤ 6 := by simpa [atOk] using h2.2.2
              refine ⟨⟨h5, a1, a2⟩, fun o ho => ?_⟩
              have := h4
              simp only [List.any_eq_true, not_exists, not_and, Bool.not_eq_true] at this
              have hm := this o ho
              unfold meetV at hm
              simp only [Bool.or_eq_false_iff] at hm
              exact ⟨hm.1.2, hm.2⟩
  · rename_i h1
    exact absurd h h1
theorem lanes_ok (own : List (List Int)) : ∀ (ls ahead : List Ln), lanesV own ahead ls = 0 → LnsOk ls ∧ ∀ l ∈ ls, ∀ o ∈ ahead, usesV o l.fr l.af = false ∧ usesV o l.dst l.tt = false := by
  intro ls
  induction ls with
  | nil => intro ahead _; exact ⟨⟨fun l hl => (by cases hl), List.Pairwise.nil⟩, fun l hl => (by cases hl)⟩
  | cons a t ih =>
    intro ahead h
    rw [lanesV] at h
    split at h
    · rename_i h1
      obtain ⟨k1, k2⟩ := lane_ok own ahead a h1
      obtain ⟨⟨i1, i2⟩, i3⟩ := ih _ h
      refine ⟨⟨fun l hl => ?_, List.pairwise_cons.2 ⟨fun l hl => i3 l hl a (by simp), i2⟩⟩, fun l hl o ho => ?_⟩
      · rcases List.mem_cons.1 hl with rfl | hl
        · exact k1
        · exact i1 l hl
      · rcases List.mem_cons.1 hl with rfl | hl
        · exact k2 o ho
        · exact i3 l hl o (List.mem_append_left _ ho)
    · rename_i h1
      exact absurd h h1
theorem pf_lanes (P : Plc) (h : pfV P = 0) : LnsOk P.lanes := (lanes_ok _ _ _ (pf_parts P h).2.2.1).1
def pforZ (P : Plc) (g : Int) : List (Int × Int) := if askV P g = 0 then pforL (P.own.getD g.toNat []) P.lanes g 8 else []
theorem pfor_len (P : Plc) (g : Int) : (pforZ P g).length ≤ 8 := by
  unfold pforZ
  split
  · rw [pforL_len]; exact Nat.le_refl _
  · exact Nat.zero_le _
theorem ask_guest (P : Plc) (g : Int) (h : askV P g = 0) : 0 ≤ g ∧ g < P.own.length := by
  unfold askV at h
  split at h
  · split at h
    · cases h
    · rename_i h1
      exact (isG_iff _ _).1 (by simpa using h1)
  · rename_i h1; exact absurd h h1
theorem pf_own (P : Plc) (h : pfV P = 0) (j : Nat) (hj : j < P.own.length) : 1 ≤ (P.own.getD j []).length ∧ (P.own.getD j []).length ≤ 5 ∧ ∀ x ∈ P.own.getD j [], 0 ≤ x ∧ x ≤ 23 :=
  guests_all P.own (pf_parts P h).2.1 _ (getD_mem P.own [] j hj)
end Go.Proofs.YtgefcoojnahokaaDoor
