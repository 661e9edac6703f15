/- A policy's text, as a value. -/
import Derived.Test.YtnggkofddokplaaGreatDoorPol
import Derived.Test.YtnggkofddokplaaGreatDoorStv
namespace Go.Proofs.YtnggkofddokplaaGreatDoor
open Go.RowKit
set_option linter.unusedVariables false

def wdOwn : List UInt8 := [111, 119, 110]
def wdLane : List UInt8 := [108, 97, 110, 101]
def wdBell : List UInt8 := [98, 101, 108, 108]
def wdSlot : List UInt8 := [115, 108, 111, 116]
/-- A line for each list of numbers. -/
def lsW (wd : List UInt8) (ls : List (List Int)) : List UInt8 := ls.flatMap (nlW wd)
def ln5 (l : Ln) : List Int := [l.fr, l.dst, l.pg, l.af, l.tt]
def pr2 (p : Int × Int) : List Int := [p.1, p.2]
/-- Numbers that a line holds. -/
def LkOk (zs : List Int) : Prop := zs.length ≤ 40 ∧ zs.all isW = true
theorem ls_next (wd : List UInt8) (ls : List (List Int)) (j : Nat) (h : j < ls.length) : lsW wd (ls.take (j + 1)) = lsW wd (ls.take j) ++ nlW wd (ls.getD j []) := by
  rw [List.take_add_one, List.getElem?_eq_getElem h, List.getD_eq_getElem?_getD, List.getElem?_eq_getElem h]
  simp only [lsW, Option.toList, Option.getD, List.flatMap_append, List.flatMap_cons, List.flatMap_nil, List.append_nil]
theorem ls_len {wd : List UInt8} (hl : wd.length ≤ 10) {ls : List (List Int)} (h : ∀ zs ∈ ls, LkOk zs) : (lsW wd ls).length ≤ 500 * ls.length := by
  induction ls with
  | nil => simp [lsW]
  | cons x t ih =>
    have h1 := h x (by simp)
    have h2 := nl_len h1.2 h1.1 hl
    have h3 := ih fun y hy => h y (by simp [hy])
    simp only [lsW, List.flatMap_cons, List.length_append, List.length_cons] at *
    omega
theorem ls_take {wd : List UInt8} (hl : wd.length ≤ 10) {ls : List (List Int)} (h : ∀ zs ∈ ls, LkOk zs) (hn : ls.length ≤ 8) (j : Nat) : (lsW wd (ls.take j)).length ≤ 4000 := by
  have := ls_len (ls := ls.take j) hl fun y hy => h y (List.mem_of_mem_take hy)
  have : (ls.take j).length ≤ ls.length := by rw [List.length_take]; omega
  omega
theorem lk_at {ls : List (List Int)} (h : ∀ zs ∈ ls, LkOk zs) {j : Nat} (hj : j < ls.length) : LkOk (ls.getD j []) := h _ (getD_mem ls [] j hj)
theorem isW_of {z : Int} (h0 : 0 ≤ z) (h1 : z ≤ 4294967295) : isW z = true := isW_iff.2 ⟨h0, h1⟩
theorem fm_isG {n : Nat} {g : Int} (h : isG n g = true) (hn : n ≤ 3) : isW g = true := by
  simp [isG] at h
  exact isW_of h.1 (by omega)
theorem fm_ends {n : Nat} {f t : Int} (h : endsV n f t = 0) (hn : n ≤ 3) : isW f = true ∧ isW t = true := by
  unfold endsV at h
  split at h
  · cases h
  · rename_i h1
    simp only [not_or, Bool.not_eq_false] at h1
    exact ⟨fm_isG h1.1 hn, fm_isG h1.2 hn⟩
theorem fm_guests (own : List (List Int)) (h : guestsV own = 0) : ∀ o ∈ own, LkOk o := by
  induction own with
  | nil => intro o ho; cases ho
  | cons a t ih =>
    rw [guestsV] at h
    split at h
    · cases h
    · rename_i h1
      split at h
      · cases h
      · rename_i h2
        intro o ho
        rcases List.mem_cons.1 ho with rfl | ho
        · refine ⟨by omega, ?_⟩
          have h3 : o.all pgOk = true := by simpa using h2
          rw [List.all_eq_true] at h3 ⊢
          intro x hx
          have := h3 x hx
          simp [pgOk] at this
          exact isW_of this.1 (by omega)
        · exact ih h o ho
theorem fm_lane {own : List (List Int)} {ahead : List Ln} {l : Ln} (h : laneV own ahead l = 0) (hn : own.length ≤ 3) : LkOk (ln5 l) := by
  unfold laneV at h
  split at h
  · rename_i h1
    have e := fm_ends h1 hn
    split at h
    · cases h
    · rename_i h2
      simp only [not_or, Bool.not_eq_false] at h2
      obtain ⟨a1, a2, a3⟩ := h2
      simp [pgOk] at a1
      simp [atOk] at a2 a3
      exact ⟨by simp [ln5], by simp [ln5, e.1, e.2, isW_of a1.1 (by omega), isW_of (z := l.af) (by omega) (by omega), isW_of (z := l.tt) (by omega) (by omega)]⟩
  · rename_i h1; exact absurd h h1
theorem fm_lanes (own : List (List Int)) (hn : own.length ≤ 3) (ls : List Ln) : ∀ ahead, lanesV own ahead ls = 0 → ∀ l ∈ ls, LkOk (ln5 l) := by
  induction ls with
  | nil => intro _ _ l hl; cases hl
  | cons a t ih =>
    intro ahead h l hl
    rw [lanesV] at h
    split at h
    · rename_i h1
      rcases List.mem_cons.1 hl with rfl | hl
      · exact fm_lane h1 hn
      · exact ih _ h l hl
    · rename_i h1; exact absurd h h1
theorem fm_bells (n : Nat) (hn : n ≤ 3) (ls : List (Int × Int)) : ∀ ahead, bellsV n ahead ls = 0 → ∀ l ∈ ls, LkOk (pr2 l) := by
  induction ls with
  | nil => intro _ _ l hl; cases hl
  | cons a t ih =>
    intro ahead h l hl
    rw [bellsV] at h
    split at h
    · rename_i h1
      rcases List.mem_cons.1 hl with rfl | hl
      · unfold bellV at h1
        split at h1
        · rename_i h2
          have e := fm_ends h2 hn
          exact ⟨by simp [pr2], by simp [pr2, e.1, e.2]⟩
        · rename_i h2; exact absurd h1 h2
      · exact ih _ h l hl
    · rename_i h1; exact absurd h h1
theorem fm_slots (n : Nat) (hn : n ≤ 3) (ls : List (Int × Int)) (h : slotsV n ls = 0) : ∀ l ∈ ls, LkOk (pr2 l) := by
  induction ls with
  | nil => intro l hl; cases hl
  | cons a t ih =>
    intro l hl
    rw [slotsV] at h
    split at h
    · rename_i h1
      rcases List.mem_cons.1 hl with rfl | hl
      · unfold slotV at h1
        split at h1
        · cases h1
        · rename_i h2
          split at h1
          · cases h1
          · rename_i h3
            have g1 := fm_isG (by simpa using h2) hn
            have g2 : stOk l.2 = true := by simpa using h3
            simp [stOk] at g2
            exact ⟨by simp [pr2], by simp [pr2, g1, isW_of (z := l.2) (by omega) (by omega)]⟩
      · exact ih h l hl
    · rename_i h1; exact absurd h h1
/-- What a policy without fault holds, as lists of numbers. -/
structure Fm (P : Plc) : Prop where
  o3 : P.own.length ≤ 3
  l4 : P.lanes.length ≤ 4
  b4 : P.bells.length ≤ 4
  s8 : P.plan.length ≤ 8
  ok0 : ∀ zs ∈ P.own, LkOk zs
  ok1 : ∀ zs ∈ P.lanes.map ln5, LkOk zs
  ok2 : ∀ zs ∈ P.bells.map pr2, LkOk zs
  ok3 : ∀ zs ∈ P.plan.map pr2, LkOk zs
theorem fm_of {P : Plc} (h : pfV P = 0) : Fm P := by
  have h1 := (or_zero h).1
  have h2 := (or_zero (or_zero h).2).1
  have h3 := (or_zero (or_zero h).2).2
  have h4 := (or_zero h1).1
  have h5 := (or_zero h2).1
  have h6 := (or_zero h2).2
  have h7 := (or_zero h3).1
  have h8 := (or_zero h3).2
  unfold g1V at h4
  split at h4
  · cases h4
  · rename_i k1
    unfold g3V at h5
    split at h5
    · cases h5
    · rename_i k2
      unfold g6V at h8
      split at h8
      · cases h8
      · rename_i k3
        have n3 : P.own.length ≤ 3 := by omega
        refine ⟨n3, by omega, by omega, by omega, fm_guests _ h4, ?_, ?_, ?_⟩
        · intro zs hz
          obtain ⟨l, hl, rfl⟩ := List.mem_map.1 hz
          exact fm_lanes _ n3 _ _ h6 l hl
        · intro zs hz
          obtain ⟨l, hl, rfl⟩ := List.mem_map.1 hz
          exact fm_bells _ n3 _ _ h7 l hl
        · intro zs hz
          obtain ⟨l, hl, rfl⟩ := List.mem_map.1 hz
          exact fm_slots _ n3 _ h8 l hl
def fm0 (P : Plc) (j : Nat) : List UInt8 := lsW wdOwn (P.own.take j)
def fm1 (P : Plc) (j : Nat) : List UInt8 := lsW wdOwn P.own ++ lsW wdLane ((P.lanes.map ln5).take j)
def fm2 (P : Plc) (j : Nat) : List UInt8 := (lsW wdOwn P.own ++ lsW wdLane (P.lanes.map ln5)) ++ lsW wdBell ((P.bells.map pr2).take j)
def fm3 (P : Plc) (j : Nat) : List UInt8 := ((lsW wdOwn P.own ++ lsW wdLane (P.lanes.map ln5)) ++ lsW wdBell (P.bells.map pr2)) ++ lsW wdSlot ((P.plan.map pr2).take j)
def fmW (P : Plc) : List UInt8 := fm3 P P.plan.length
theorem fm0_next {P : Plc} {j : Nat} (h : j < P.own.length) : fm0 P (j + 1) = fm0 P j ++ nlW wdOwn (P.own.getD j []) := ls_next _ _ _ h
theorem fm1_zero {P : Plc} : fm0 P P.own.length = fm1 P 0 := by simp [fm0, fm1, lsW]
theorem fm2_zero {P : Plc} : fm1 P P.lanes.length = fm2 P 0 := by
  have : (P.lanes.map ln5).take P.lanes.length = P.lanes.map ln5 := List.take_of_length_le (by simp)
  simp only [fm1, fm2, this]
  simp [lsW]
theorem fm3_zero {P : Plc} : fm2 P P.bells.length = fm3 P 0 := by
  have : (P.bells.map pr2).take P.bells.length = P.bells.map pr2 := List.take_of_length_le (by simp)
  simp only [fm2, fm3, this]
  simp [lsW]
theorem map_getD {α : Type} (f : α → List Int) (zs : List α) (d : α) (j : Nat) (h : j < zs.length) : (zs.map f).getD j [] = f (zs.getD j d) := by
  simp [List.getD, h]
theorem fm1_next {P : Plc} {j : Nat} (h : j < P.lanes.length) : fm1 P (j + 1) = fm1 P j ++ nlW wdLane (ln5 (P.lanes.getD j lz)) := by
  rw [fm1, ls_next _ _ _ (by simpa using h), map_getD ln5 P.lanes lz j h, ← List.append_assoc]
  rfl
theorem fm2_next {P : Plc} {j : Nat} (h : j < P.bells.length) : fm2 P (j + 1) = fm2 P j ++ nlW wdBell (pr2 (P.bells.getD j (0, 0))) := by
  rw [fm2, ls_next _ _ _ (by simpa using h), map_getD pr2 P.bells (0, 0) j h, ← List.append_assoc]
  rfl
theorem fm3_next {P : Plc} {j : Nat} (h : j < P.plan.length) : fm3 P (j + 1) = fm3 P j ++ nlW wdSlot (pr2 (P.plan.getD j (0, 0))) := by
  rw [fm3, ls_next _ _ _ (by simpa using h), map_getD pr2 P.plan (0, 0) j h, ← List.append_assoc]
  rfl
theorem fm0_len {P : Plc} (h : Fm P) (j : Nat) : (fm0 P j).length ≤ 16000 := by
  have := ls_take (wd := wdOwn) (by decide) h.ok0 (by have := h.o3; omega) j
  unfold fm0; omega
theorem fm1_len {P : Plc} (h : Fm P) (j : Nat) : (fm1 P j).length ≤ 16000 := by
  have h1 := fm0_len h P.own.length
  have := ls_take (wd := wdOwn) (by decide) h.ok0 (by have := h.o3; omega) P.own.length
  have := ls_take (wd := wdLane) (by decide) h.ok1 (by have := h.l4; simp; omega) j
  rw [List.take_length] at *
  rw [fm1, List.length_append]; omega
theorem fm2_len {P : Plc} (h : Fm P) (j : Nat) : (fm2 P j).length ≤ 16000 := by
  have := ls_take (wd := wdOwn) (by decide) h.ok0 (by have := h.o3; omega) P.own.length
  have h2 := ls_take (wd := wdLane) (by decide) h.ok1 (by have := h.l4; simp; omega) (P.lanes.map ln5).length
  have := ls_take (wd := wdBell) (by decide) h.ok2 (by have := h.b4; simp; omega) j
  rw [List.take_length] at *
  rw [fm2, List.length_append, List.length_append]; omega
theorem fm3_len {P : Plc} (h : Fm P) (j : Nat) : (fm3 P j).length ≤ 16000 := by
  have := ls_take (wd := wdOwn) (by decide) h.ok0 (by have := h.o3; omega) P.own.length
  have h2 := ls_take (wd := wdLane) (by decide) h.ok1 (by have := h.l4; simp; omega) (P.lanes.map ln5).length
  have h3 := ls_take (wd := wdBell) (by decide) h.ok2 (by have := h.b4; simp; omega) (P.bells.map pr2).length
  have := ls_take (wd := wdSlot) (by decide) h.ok3 (by have := h.s8; simp; omega) j
  rw [List.take_length] at *
  rw [fm3, List.length_append, List.length_append, List.length_append]; omega
def fmR (P : Plc) : Int × List UInt8 := if pfV P = 0 then (0, fmW P) else (pfV P, [])
end Go.Proofs.YtnggkofddokplaaGreatDoor
