/- Texts of this seat, joined. -/
import Derived.Lib.IndexMore
import Derived.Lib.Split
import Derived.Lib.ItoaNum
import Derived.Lib.ParseIntB
import Derived.Lib.IndexBytes
import Derived.Test.YtkfcofjmjbkekaaGreatDoorQ11
import Derived.Test.YtkfcofjmjbkekaaGreatDoorQ28
import Derived.Test.YtkfcofjmjbkekaaGreatDoorQ33
namespace Go.Proofs.YtkfcofjmjbkekaaGreatDoor
open Go.RowKit
set_option linter.unusedVariables false

def wdOwn : List UInt8 := [111, 119, 110]
def wdLane : List UInt8 := [108, 97, 110, 101]
def wdBell : List UInt8 := [98, 101, 108, 108]
def wdSlot : List UInt8 := [115, 108, 111, 116]
/-- A line for each list of numbers. -/
def lsW (wd : List UInt8) (ls : List (List Int)) : List UInt8 := ls.flatMap (nlW wd)
def ln5 (l : Ln) : List Int := [l.fr, l.dst, l.pg, l.af, l.tt]
def pr2 (p : Int × Int) : List Int := [p.1, p.2]
/-- Numbers that a line holds. -/
def LkOk (zs : List Int) : Prop := zs.length ≤ 40 ∧ zs.all isW = true
theorem ls_next (wd : List UInt8) (ls : List (List Int)) (j : Nat) (h : j < ls.length) : lsW wd (ls.take (j + 1)) = lsW wd (ls.take j) ++ nlW wd (ls.getD j []) := by
  rw [List.take_add_one, List.getElem?_eq_getElem h, List.getD_eq_getElem?_getD, List.getElem?_eq_getElem h]
  simp only [lsW, Option.toList, Option.getD, List.flatMap_append, List.flatMap_cons, List.flatMap_nil, List.append_nil]
theorem ls_len {wd : List UInt8} (hl : wd.length ≤ 10) {ls : List (List Int)} (h : ∀ zs ∈ ls, LkOk zs) : (lsW wd ls).length ≤ 500 * ls.length := by
  induction ls with
  | nil => simp [lsW]
  | cons x t ih =>
    have h1 := h x (by simp)
    have h2 := nl_len h1.2 h1.1 hl
    have h3 := ih fun y hy => h y (by simp [hy])
    simp only [lsW, List.flatMap_cons, List.length_append, List.length_cons] at *
    omega
theorem ls_take {wd : List UInt8} (hl : wd.length ≤ 10) {ls : List (List Int)} (h : ∀ zs ∈ ls, LkOk zs) (hn : ls.length ≤ 8) (j : Nat) : (lsW wd (ls.take j)).length ≤ 4000 := by
  have := ls_len (ls := ls.take j) hl fun y hy => h y (List.mem_of_mem_take hy)
  have : (ls.take j).length ≤ ls.length := by rw [List.length_take]; omega
  omega
theorem lk_at {ls : List (List Int)} (h : ∀ zs ∈ ls, LkOk zs) {j : Nat} (hj : j < ls.length) : LkOk (ls.getD j []) := h _ (getD_mem ls [] j hj)
theorem isW_of {z : Int} (h0 : 0 ≤ z) (h1 : z ≤ 4294967295) : isW z = true := isW_iff.2 ⟨h0, h1⟩
theorem fm_isG {n : Nat} {g : Int} (h : isG n g = true) (hn : n ≤ 3) : isW g = true := by
  simp [isG] at h
  exact isW_of h.1 (by omega)
theorem fm_ends {n : Nat} {f t : Int} (h : endsV n f t = 0) (hn : n ≤ 3) : isW f = true ∧ isW t = true := by
  unfold endsV at h
  split at h
  · cases h
  · rename_i h1
    simp only [not_or, Bool.not_eq_false] at h1
    exact ⟨fm_isG h1.1 hn, fm_isG h1.2 hn⟩
theorem fm_guests (own : List (List Int)) (h : guestsV own = 0) : ∀ o ∈ own, LkOk o := by
  induction own with
  | nil => intro o ho; cases ho
  | cons a t ih =>
    rw [guestsV] at h
    split at h
    · cases h
    · rename_i h1
      split at h
      · cases h
      · rename_i h2
        intro o ho
        rcases List.mem_cons.1 ho with rfl | ho
        · refine ⟨by omega, ?_⟩
          have h3 : o.all pgOk = true := by simpa using h2
          rw [List.all_eq_true] at h3 ⊢
          intro x hx
          have := h3 x hx
          simp [pgOk] at this
          exact isW_of this.1 (by omega)
        · exact ih h o ho
theorem fm_lane {own : List (List Int)} {ahead : List Ln} {l : Ln} (h : laneV own ahead l = 0) (hn : own.length ≤ 3) : LkOk (ln5 l) := by
  unfold laneV at h
  split at h
  · rename_i h1
    have e := fm_ends h1 hn
    split at h
    · cases h
    · rename_i h2
      simp only [not_or, Bool.not_eq_false] at h2
      obtain ⟨a1, a2, a3⟩ := h2
      simp [pgOk] at a1
      simp [atOk] at a2 a3
      exact ⟨by simp [ln5], by simp [ln5, e.1, e.2, isW_of a1.1 (by omega), isW_of (z := l.af) (by omega) (by omega), isW_of (z := l.tt) (by omega) (by omega)]⟩
  · rename_i h1; exact absurd h h1
theorem fm_lanes (own : List (List Int)) (hn : own.length ≤ 3) (ls : List Ln) : ∀ ahead, lanesV own ahead ls = 0 → ∀ l ∈ ls, LkOk (ln5 l) := by
  induction ls with
  | nil => intro _ _ l hl; cases hl
  | cons a t ih =>
    intro ahead h l hl
    rw [lanesV] at h
    split at h
    · rename_i h1
      rcases List.mem_cons.1 hl with rfl | hl
      · exact fm_lane h1 hn
      · exact ih _ h l hl
    · rename_i h1; exact absurd h h1
theorem fm_bells (n : Nat) (hn : n ≤ 3) (ls : List (Int × Int)) : ∀ ahead, bellsV n ahead ls = 0 → ∀ l ∈ ls, LkOk (pr2 l) := by
  induction ls with
  | nil => intro _ _ l hl; cases hl
  | cons a t ih =>
    intro ahead h l hl
    rw [bellsV] at h
    split at h
    · rename_i h1
      rcases List.mem_cons.1 hl with rfl | hl
      · unfold bellV at h1
        split at h1
        · rename_i h2
          have e := fm_ends h2 hn
          exact ⟨by simp [pr2], by simp [pr2, e.1, e.2]⟩
        · rename_i h2; exact absurd h1 h2
      · exact ih _ h l hl
    · rename_i h1; exact absurd h h1
theorem fm_slots (n : Nat) (hn : n ≤ 3) (ls : List (Int × Int)) (h : slotsV n ls = 0) : ∀ l ∈ ls, LkOk (pr2 l) := by
  induction ls with
  | nil => intro l hl; cases hl
  | cons a t ih =>
    intro l hl
    rw [slotsV] at h
    split at h
    · rename_i h1
      rcases List.mem_cons.1 hl with rfl | hl
      · unfold slotV at h1
        split at h1
        · cases h1
        · rename_i h2
          split at h1
          · cases h1
          · rename_i h3
            have g1 := fm_isG (by simpa using h2) hn
            have g2 : stOk l.2 = true := by simpa using h3
            simp [stOk] at g2
            exact ⟨by simp [pr2], by simp [pr2, g1, isW_of (z := l.2) (by omega) (by omega)]⟩
      · exact ih h l hl
    · rename_i h1; exact absurd h h1
/-- What a policy without fault holds, as lists of numbers. -/
structure Fm (P : Plc) : Prop where
  o3 : P.own.length ≤ 3
  l4 : P.lanes.length ≤ 4
  b4 : P.bells.length ≤ 4
  s8 : P.plan.length ≤ 8
  ok0 : ∀ zs ∈ P.own, LkOk zs
  ok1 : ∀ zs ∈ P.lanes.map ln5, LkOk zs
  ok2 : ∀ zs ∈ P.bells.map pr2, LkOk zs
  ok3 : ∀ zs ∈ P.plan.map pr2, LkOk zs
theorem fm_of {P : Plc} (h : pfV P = 0) : Fm P := by
  have h1 := (or_zero h).1
  have h2 := (or_zero (or_zero h).2).1
  have h3 := (or_zero (or_zero h).2).2
  have h4 := (or_zero h1).1
  have h5 := (or_zero h2).1
  have h6 := (or_zero h2).2
  have h7 := (or_zero h3).1
  have h8 := (or_zero h3).2
  unfold g1V at h4
  split at h4
  · cases h4
  · rename_i k1
    unfold g3V at h5
    split at h5
    · cases h5
    · rename_i k2
      unfold g6V at h8
      split at h8
      · cases h8
      · rename_i k3
        have n3 : P.own.length ≤ 3 := by omega
        refine ⟨n3, by omega, by omega, by omega, fm_guests _ h4, ?_, ?_, ?_⟩
        · intro zs hz
          obtain ⟨l, hl, rfl⟩ := List.mem_map.1 hz
          exact fm_lanes _ n3 _ _ h6 l hl
        · intro zs hz
          obtain ⟨l, hl, rfl⟩ := List.mem_map.1 hz
          exact fm_bells _ n3 _ _ h7 l hl
        · intro zs hz
          obtain ⟨l, hl, rfl⟩ := List.mem_map.1 hz
          exact fm_slots _ n3 _ h8 l hl
def fm0 (P : Plc) (j : Nat) : List UInt8 := lsW wdOwn (P.own.take j)
def fm1 (P : Plc) (j : Nat) : List UInt8 := lsW wdOwn P.own ++ lsW wdLane ((P.lanes.map ln5).take j)
def fm2 (P : Plc) (j : Nat) : List UInt8 := (lsW wdOwn P.own ++ lsW wdLane (P.lanes.map ln5)) ++ lsW wdBell ((P.bells.map pr2).take j)
def fm3 (P : Plc) (j : Nat) : List UInt8 := ((lsW wdOwn P.own ++ lsW wdLane (P.lanes.map ln5)) ++ lsW wdBell (P.bells.map pr2)) ++ lsW wdSlot ((P.plan.map pr2).take j)
def fmW (P : Plc) : List UInt8 := fm3 P P.plan.length
theorem fm0_next {P : Plc} {j : Nat} (h : j < P.own.length) : fm0 P (j + 1) = fm0 P j ++ nlW wdOwn (P.own.getD j []) := ls_next _ _ _ h
theorem fm1_zero {P : Plc} : fm0 P P.own.length = fm1 P 0 := by simp [fm0, fm1, lsW]
theorem fm2_zero {P : Plc} : fm1 P P.lanes.length = fm2 P 0 := by
  have : (P.lanes.map ln5).take P.lanes.length = P.lanes.map ln5 := List.take_of_length_le (by simp)
  simp only [fm1, fm2, this]
  simp [lsW]
theorem fm3_zero {P : Plc} : fm2 P P.bells.length = fm3 P 0 := by
  have : (P.bells.map pr2).take P.bells.length = P.bells.map pr2 := List.take_of_length_le (by simp)
  simp only [fm2, fm3, this]
  simp [lsW]
theorem map_getD {α : Type} (f : α → List Int) (zs : List α) (d : α) (j : Nat) (h : j < zs.length) : (zs.map f).getD j [] = f (zs.getD j d) := by
  simp [List.getD, h]
theorem fm1_next {P : Plc} {j : Nat} (h : j < P.lanes.length) : fm1 P (j + 1) = fm1 P j ++ nlW wdLane (ln5 (P.lanes.getD j lz)) := by
  rw [fm1, ls_next _ _ _ (by simpa using h), map_getD ln5 P.lanes lz j h, ← List.append_assoc]
  rfl
theorem fm2_next {P : Plc} {j : Nat} (h : j < P.bells.length) : fm2 P (j + 1) = fm2 P j ++ nlW wdBell (pr2 (P.bells.getD j (0, 0))) := by
  rw [fm2, ls_next _ _ _ (by simpa using h), map_getD pr2 P.bells (0, 0) j h, ← List.append_assoc]
  rfl
theorem fm3_next {P : Plc} {j : Nat} (h : j < P.plan.length) : fm3 P (j + 1) = fm3 P j ++ nlW wdSlot (pr2 (P.plan.getD j (0, 0))) := by
  rw [fm3, ls_next _ _ _ (by simpa using h), map_getD pr2 P.plan (0, 0) j h, ← List.append_assoc]
  rfl
theorem fm0_len {P : Plc} (h : Fm P) (j : Nat) : (fm0 P j).length ≤ 16000 := by
  have := ls_take (wd := wdOwn) (by decide) h.ok0 (by have := h.o3; omega) j
  unfold fm0; omega
theorem fm1_len {P : Plc} (h : Fm P) (j : Nat) : (fm1 P j).length ≤ 16000 := by
  have h1 := fm0_len h P.own.length
  have := ls_take (wd := wdOwn) (by decide) h.ok0 (by have := h.o3; omega) P.own.length
  have := ls_take (wd := wdLane) (by decide) h.ok1 (by have := h.l4; simp; omega) j
  rw [List.take_length] at *
  rw [fm1, List.length_append]; omega
theorem fm2_len {P : Plc} (h : Fm P) (j : Nat) : (fm2 P j).length ≤ 16000 := by
  have := ls_take (wd := wdOwn) (by decide) h.ok0 (by have := h.o3; omega) P.own.length
  have h2 := ls_take (wd := wdLane) (by decide) h.ok1 (by have := h.l4; simp; omega) (P.lanes.map ln5).length
  have := ls_take (wd := wdBell) (by decide) h.ok2 (by have := h.b4; simp; omega) j
  rw [List.take_length] at *
  rw [fm2, List.length_append, List.length_append]; omega
theorem fm3_len {P : Plc} (h : Fm P) (j : Nat) : (fm3 P j).length ≤ 16000 := by
  have := ls_take (wd := wdOwn) (by decide) h.ok0 (by have := h.o3; omega) P.own.length
  have h2 := ls_take (wd := wdLane) (by decide) h.ok1 (by have := h.l4; simp; omega) (P.lanes.map ln5).length
  have h3 := ls_take (wd := wdBell) (by decide) h.ok2 (by have := h.b4; simp; omega) (P.bells.map pr2).length
  have := ls_take (wd := wdSlot) (by decide) h.ok3 (by have := h.s8; simp; omega) j
  rw [List.take_length] at *
  rw [fm3, List.length_append, List.length_append, List.length_append]; omega
def fmR (P : Plc) : Int × List UInt8 := if pfV P = 0 then (0, fmW P) else (pfV P, [])
end Go.Proofs.YtkfcofjmjbkekaaGreatDoor
namespace Go.Proofs.YtkfcofjmjbkekaaGreatDoor
open Go.RowKit
set_option linter.unusedVariables false

/-! Pieces of a text. -/
def befP (c : UInt8) (l : Wb) : Wb := l.takeWhile fun x => x != c
def aftP (c : UInt8) (l : Wb) : Wb := l.drop ((befP c l).length + 1)
theorem spl_consP (s c : UInt8) (r cur : Wb) : spl s (c :: r) cur = if c = s then cur :: spl s r [] else spl s r (cur ++ [c]) := rfl
theorem spl_bef (c : UInt8) : ∀ (l cur : Wb), spl c l cur = if c ∈ l then (cur ++ befP c l) :: spl c (aftP c l) [] else [cur ++ l] := by
  intro l
  induction l with
  | nil => intro cur; simp [spl]
  | cons x r ih =>
    intro cur
    rw [spl_consP]
    by_cases h : x = c
    · subst h
      simp [befP, aftP]
    · have h' : ¬ c = x := fun e => h e.symm
      rw [if_neg h, ih]
      have hb : befP c (x :: r) = x :: befP c r := by unfold befP; rw [List.takeWhile_cons, if_pos (by simpa using h)]
      have ha : aftP c (x :: r) = aftP c r := by unfold aftP; rw [hb]; rfl
      simp [h', hb, ha]
theorem aft_short (c : UInt8) (l : Wb) (h : c ∈ l) : (aftP c l).length < l.length := by
  unfold aftP
  rw [List.length_drop]
  have : 0 < l.length := List.length_pos_of_mem h
  omega
theorem bef_len (c : UInt8) (l : Wb) : (befP c l).length ≤ l.length := (List.takeWhile_sublist _).length_le
theorem index_bef (c : UInt8) : ∀ l : Wb, Lib.index l [c] = if c ∈ l then ((befP c l).length : Int) else -1 := by
  intro l
  rw [Lib.index_one]
  induction l with
  | nil => simp [Lib.indexByte]
  | cons x r ih =>
    unfold Lib.indexByte
    by_cases h : x = c
    · subst h; simp [befP]
    · have h' : ¬ c = x := fun e => h e.symm
      have hb : befP c (x :: r) = x :: befP c r := by unfold befP; rw [List.takeWhile_cons, if_pos (by simpa using h)]
      have e : (x == c) = false := by simpa using h
      rw [e, ih, hb]
      by_cases hm : c ∈ r
      · have : (((befP c r).length : Int) == -1) = false := by rw [beq_eq_false_iff_ne]; omega
        simp [hm, this]
      · simp [hm, h']
theorem take_bef (c : UInt8) (l : Wb) : l.take (befP c l).length = befP c l := by
  unfold befP
  induction l with
  | nil => rfl
  | cons x r ih =>
    rw [List.takeWhile_cons]
    split
    · rw [List.length_cons, List.take_succ_cons, ih]
    · rfl
theorem cut_bef (c : UInt8) (l : Wb) : Lib.cut l [c] = if c ∈ l then (befP c l, aftP c l, true) else (l, [], false) := by
  unfold Lib.cut
  rw [index_bef]
  by_cases h : c ∈ l
  · rw [if_pos h, if_pos h, if_pos (by omega), Int.toNat_natCast, take_bef]
    rfl
  · rw [if_neg h, if_neg h, if_neg (by omega)]
theorem splitK_spl (c : UInt8) : ∀ (n : Nat) (l : Wb), l.length < n → Lib.splitK [c] 0 (Lib.countFrom [c] n l) l = spl c l [] := by
  intro n
  induction n with
  | zero => intro l h; omega
  | succ n ih =>
    intro l h
    rw [spl_bef, Lib.countFrom, index_bef]
    by_cases hm : c ∈ l
    · have e : (((befP c l).length : Int) == -1) = false := by rw [beq_eq_false_iff_ne]; omega
      have hd : l.drop ((befP c l).length + [c].length) = aftP c l := rfl
      rw [if_pos hm, if_pos hm, e, Int.toNat_natCast, hd]
      simp only [Bool.false_eq_true, if_false]
      rw [Nat.add_comm, Lib.splitK, index_bef, if_pos hm, e, Int.toNat_natCast, hd, ih _ (by have := aft_short c l hm; omega)]
      simp only [Bool.false_eq_true, if_false, Nat.add_zero, take_bef, List.nil_append]
    · rw [if_neg hm, if_neg hm]
      rfl
theorem split_spl (c : UInt8) (l : Wb) : Lib.split l [c] = spl c l [] := splitK_spl c _ l (Nat.lt_succ_self _)

/-! Numbers of a line. -/
def dgP (c : UInt8) : Bool := decide (48 ≤ c.toNat) && decide (c.toNat ≤ 57)
def vlP (l : Wb) : Nat := l.foldl (fun n c => n * 10 + (c.toNat - 48)) 0
def okP (w : Wb) : Prop := 1 ≤ w.length ∧ w.length ≤ 3 ∧ ¬ (1 < w.length ∧ w.getD 0 0 = 48) ∧ w.all dgP = true
instance (w : Wb) : Decidable (okP w) := by unfold okP; infer_instance
def nmP (w : Wb) : Option Int := if okP w then some (vlP w : Nat) else none
theorem dg_u8 {c : UInt8} (h : dgP c = true) : ∃ k, k < 10 ∧ c = UInt8.ofNat (48 + k) ∧ c.toNat = 48 + k := by
  simp [dgP] at h
  refine ⟨c.toNat - 48, by omega, ?_, by omega⟩
  have e : 48 + (c.toNat - 48) = c.toNat := by omega
  rw [e]
  exact (UInt8.ofNat_toNat).symm
theorem u8_dg (k : Nat) (h : k < 10) : (UInt8.ofNat (48 + k)).toNat = 48 + k := by
  rw [UInt8.toNat_ofNat']; omega
theorem ok_dec {w : Wb} (h : okP w) : vlP w < 1000 ∧ Lib.decDigits (vlP w) = w := by
  obtain ⟨h1, h2, h3, h4⟩ := h
  match w, h1, h2, h3, h4 with
  | [a], _, _, _, h4 =>
    have ha : dgP a = true := by simpa using h4
    obtain ⟨k, hk, rfl, hn⟩ := dg_u8 ha
    have hv : vlP [UInt8.ofNat (48 + k)] = k := by show 0 * 10 + (_ - 48) = k; omega
    rw [hv]
    exact ⟨by omega, by rw [Lib.decDigits, dif_pos hk]⟩
  | [a, b], _, _, h3, h4 =>
    have hab : dgP a = true ∧ dgP b = true := by simpa using h4
    obtain ⟨k, hk, rfl, hn⟩ := dg_u8 hab.1
    obtain ⟨j, hj, rfl, hm⟩ := dg_u8 hab.2
    have h0 : k ≠ 0 := fun e => h3 ⟨by simp, by subst e; rfl⟩
    have hv : vlP [UInt8.ofNat (48 + k), UInt8.ofNat (48 + j)] = k * 10 + j := by show (0 * 10 + (_ - 48)) * 10 + (_ - 48) = _; omega
    rw [hv]
    refine ⟨by omega, ?_⟩
    rw [Lib.decDigits, dif_neg (by omega), Lib.decDigits, dif_pos (by omega)]
    have e1 : (k * 10 + j) / 10 = k := by omega
    have e2 : (k * 10 + j) % 10 = j := by omega
    rw [e1, e2]
    rfl
  | [a, b, c], _, _, h3, h4 =>
    have hab : dgP a = true ∧ dgP b = true ∧ dgP c = true := by simpa using h4
    obtain ⟨k, hk, rfl, hn⟩ := dg_u8 hab.1
    obtain ⟨j, hj, rfl, hm⟩ := dg_u8 hab.2.1
    obtain ⟨i, hi, rfl, hp⟩ := dg_u8 hab.2.2
    have h0 : k ≠ 0 := fun e => h3 ⟨by simp, by subst e; rfl⟩
    have hv : vlP [UInt8.ofNat (48 + k), UInt8.ofNat (48 + j), UInt8.ofNat (48 + i)] = (k * 10 + j) * 10 + i := by show ((0 * 10 + (_ - 48)) * 10 + (_ - 48)) * 10 + (_ - 48) = _; omega
    rw [hv]
    refine ⟨by omega, ?_⟩
    rw [Lib.decDigits, dif_neg (by omega), Lib.decDigits, dif_neg (by omega), Lib.decDigits, dif_pos (by omega)]
    have e1 : ((k * 10 + j) * 10 + i) / 10 / 10 = k := by omega
    have e2 : ((k * 10 + j) * 10 + i) / 10 % 10 = j := by omega
    have e3 : ((k * 10 + j) * 10 + i) % 10 = i := by omega
    rw [e1, e2, e3]
    rfl
theorem dec_ok (n : Nat) (h : n < 1000) : okP (Lib.decDigits n) ∧ vlP (Lib.decDigits n) = n := by
  have dg : ∀ k, k < 10 → dgP (UInt8.ofNat (48 + k)) = true := fun k hk => by simp [dgP]; omega
  have ne : ∀ k, k < 10 → k ≠ 0 → ¬ UInt8.ofNat (48 + k) = 48 := fun k hk h0 e => by
    have := congrArg UInt8.toNat e
    rw [u8_dg k hk] at this
    have : (48 : UInt8).toNat = 48 := rfl
    omega
  by_cases h1 : n < 10
  · rw [Lib.decDigits, dif_pos h1]
    exact ⟨⟨by simp, by simp, by simp, by rw [List.all_cons, dg n h1]; rfl⟩, by show 0 * 10 + (_ - 48) = n; rw [u8_dg n h1]; omega⟩
  · by_cases h2 : n < 100
    · rw [Lib.decDigits, dif_neg h1, Lib.decDigits, dif_pos (by omega)]
      have a := u8_dg (n / 10) (by omega)
      have b := u8_dg (n % 10) (by omega)
      exact ⟨⟨by simp, by simp, fun e => ne (n / 10) (by omega) (by omega) e.2, by rw [List.cons_append, List.nil_append, List.all_cons, dg (n / 10) (by omega), List.all_cons, dg (n % 10) (by omega)]; rfl⟩, by show (0 * 10 + (_ - 48)) * 10 + (_ - 48) = n; rw [a, b]; omega⟩
    · rw [Lib.decDigits, dif_neg h1, Lib.decDigits, dif_neg (by omega), Lib.decDigits, dif_pos (by omega)]
      have a := u8_dg (n / 10 / 10) (by omega)
      have b := u8_dg (n / 10 % 10) (by omega)
      have c := u8_dg (n % 10) (by omega)
      exact ⟨⟨by simp, by simp, fun e => ne (n / 10 / 10) (by omega) (by omega) e.2, by rw [List.cons_append, List.nil_append, List.cons_append, List.cons_append, List.nil_append, List.all_cons, dg (n / 10 / 10) (by omega), List.all_cons, dg (n / 10 % 10) (by omega), List.all_cons, dg (n % 10) (by omega)]; rfl⟩, by show ((0 * 10 + (_ - 48)) * 10 + (_ - 48)) * 10 + (_ - 48) = n; rw [a, b, c]; omega⟩
theorem nm_some {w : Wb} {z : Int} (h : nmP w = some z) : 0 ≤ z ∧ z ≤ 999 ∧ Lib.decDigits z.toNat = w ∧ z = (vlP w : Nat) ∧ okP w := by
  unfold nmP at h
  split at h
  · rename_i ho
    cases h
    have := ok_dec ho
    exact ⟨by omega, by omega, by rw [Int.toNat_natCast]; exact this.2, rfl, ho⟩
  · cases h
theorem nm_none {w : Wb} (h : nmP w = none) (z : Int) (h0 : 0 ≤ z) (h1 : z ≤ 999) : Lib.decDigits z.toNat ≠ w := fun e => by
  have := dec_ok z.toNat (by omega)
  rw [e] at this
  unfold nmP at h
  rw [if_pos this.1] at h
  cases h
theorem mag_dg : ∀ (l : Wb) (acc : Nat), l.all dgP = true → acc < 10 ^ 15 → l.length ≤ 3 → Lib.parseUintM 18446744073709551615 acc l = .ok (l.foldl (fun n c => n * 10 + (c.toNat - 48)) acc) := by
  have main : ∀ (k : Nat) (l : Wb) (acc : Nat), k ≤ 3 → l.length = k → l.all dgP = true → acc < 10 ^ (18 - k) → Lib.parseUintM 18446744073709551615 acc l = .ok (l.foldl (fun n c => n * 10 + (c.toNat - 48)) acc) := by
    intro k
    induction k with
    | zero => intro l acc _ hl _ _; rw [List.eq_nil_of_length_eq_zero hl]; rfl
    | succ k ih =>
      intro l acc hk hl ha hb
      match l, hl with
      | c :: r, hl =>
        rw [List.all_cons, Bool.and_eq_true] at ha
        have hc := ha.1
        simp [dgP] at hc
        have e : 10 ^ (18 - k) = 10 ^ (18 - (k + 1)) * 10 := by rw [← Nat.pow_succ]; congr 1; omega
        have p : 10 ^ (18 - (k + 1)) ≤ 10 ^ 17 := Nat.pow_le_pow_right (by decide) (by omega)
        have hx : acc < 100000000000000000 := by have : (10 : Nat) ^ 17 = 100000000000000000 := rfl; omega
        rw [Lib.parseUintM, if_pos hc, if_neg (by omega), if_neg (by omega)]
        rw [ih r _ (by omega) (by simpa using hl) ha.2 (by omega)]
        rfl
  intro l acc ha hb hl
  refine main l.length l acc hl rfl ha (Nat.lt_of_lt_of_le hb (Nat.pow_le_pow_right (by decide) (by omega)))
theorem ok_parse {w : Wb} (h : okP w) : Lib.parseIntB 64 w = .ok (vlP w : Nat) := by
  have hv := (ok_dec h).1
  obtain ⟨h1, h2, _, h4⟩ := h
  match w, h1 with
  | c :: r, _ =>
    have hc : dgP c = true := by rw [List.all_cons, Bool.and_eq_true] at h4; exact h4.1
    simp [dgP] at hc
    have hm := mag_dg (c :: r) 0 h4 (by decide) h2
    have e64 : (2 : Nat) ^ 64 - 1 = 18446744073709551615 := rfl
    have e63 : (2 : Nat) ^ (64 - 1) = 9223372036854775808 := rfl
    have n1 : ¬ (c.toNat = 43 ∨ c.toNat = 45) := by omega
    have n2 : ¬ c.toNat = 45 := by omega
    have hu : Lib.parseUintB 64 (c :: r) = .ok (vlP (c :: r)) := by
      unfold Lib.parseUintB
      rw [if_neg (by simp), e64, hm]
      rfl
    simp only [Lib.parseIntB]
    rw [if_neg n1, hu]
    simp only [n2, e63]
    rw [if_neg (by omega), if_neg (by omega), if_neg (fun h => h)]

/-! Lines. -/
def wdO : Wb := [111, 119, 110]
def wdL : Wb := [108, 97, 110, 101]
def wdB : Wb := [98, 101, 108, 108]
def wdS : Wb := [115, 108, 111, 116]
def fmP (w : Wb) (n : Nat) : Option Nat :=
  if w = wdO ∧ 1 ≤ n ∧ n ≤ 9 then some 0 else if w = wdL ∧ n = 5 then some 1 else if w = wdB ∧ n = 2 then some 2 else if w = wdS ∧ n = 2 then some 3 else none
def nsP : List Wb → Option (List Int)
  | [] => some []
  | w :: t => match nmP w, nsP t with
    | some z, some zs => some (z :: zs)
    | _, _ => none
def lnO (l : Wb) : Option (Nat × List Int) := match fmP ((spl 32 l []).getD 0 []) ((spl 32 l []).length - 1), nsP ((spl 32 l []).drop 1) with
  | some k, some zs => some (k, zs)
  | _, _ => none
theorem nsP_len : ∀ (ws : List Wb) (zs : List Int), nsP ws = some zs → zs.length = ws.length
  | [], zs, h => by cases h; rfl
  | w :: t, zs, h => by
    unfold nsP at h
    split at h
    · rename_i z zs' e1 e2
      cases h
      rw [List.length_cons, List.length_cons, nsP_len t zs' e2]
    · cases h
theorem ns_range : ∀ (ws : List Wb) (zs : List Int), nsP ws = some zs → ∀ z ∈ zs, 0 ≤ z ∧ z ≤ 999
  | [], zs, h => by cases h; intro z hz; cases hz
  | w :: t, zs, h => by
    unfold nsP at h
    split at h
    · rename_i z zs' e1 e2
      cases h
      intro x hx
      rcases List.mem_cons.1 hx with rfl | hx
      · have := nm_some e1; exact ⟨this.1, this.2.1⟩
      · exact ns_range t zs' e2 x hx
    · cases h
/-- The numbers of the first words. -/
theorem ns_take (ws : List Wb) (j : Nat) (zs : List Int) (hj : j < ws.length) (h : nsP (ws.take j) = some zs) : nsP (ws.take (j + 1)) = match nmP (ws.getD j []) with | some z => some (zs ++ [z]) | none => none := by
  induction ws generalizing j zs with
  | nil => simp at hj
  | cons w t ih =>
    cases j with
    | zero =>
      rw [List.take_zero] at h
      cases h
      show nsP [w] = _
      rw [nsP, nsP]
      show _ = match nmP w with | some z => some [z] | none => none
      cases nmP w <;> rfl
    | succ j =>
      rw [List.take_succ_cons] at h ⊢
      rw [nsP] at h ⊢
      cases hn : nmP w with
      | none => rw [hn] at h; cases h
      | some z =>
        rw [hn] at h
        cases ht : nsP (t.take j) with
        | none => rw [ht] at h; cases h
        | some zs' =>
          rw [ht] at h
          cases h
          rw [ih j zs' (by simpa using hj) ht]
          show _ = match nmP (t.getD j []) with | some z' => some (z :: zs' ++ [z']) | none => none
          cases nmP (t.getD j []) <;> rfl
theorem ns_bad (ws : List Wb) (j : Nat) (hj : j < ws.length) (h : nmP (ws.getD j []) = none) : nsP ws = none := by
  induction ws generalizing j with
  | nil => simp at hj
  | cons w t ih =>
    rw [nsP]
    cases j with
    | zero => rw [show nmP w = none from h]
    | succ j =>
      rw [ih j (by simpa using hj) h]
      cases nmP w <;> rfl
def adP (P : Plc) (k : Nat) (z : List Int) : Plc :=
  if k = 0 then ⟨P.own ++ [z], P.lanes, P.bells, P.plan⟩ else if k = 1 then ⟨P.own, P.lanes ++ [⟨z.getD 0 0, z.getD 1 0, z.getD 2 0, z.getD 3 0, z.getD 4 0⟩], P.bells, P.plan⟩
  else if k = 2 then ⟨P.own, P.lanes, P.bells ++ [(z.getD 0 0, z.getD 1 0)], P.plan⟩ else ⟨P.own, P.lanes, P.bells, P.plan ++ [(z.getD 0 0, z.getD 1 0)]⟩
/-- The pieces between line feeds, read: the least form that may follow, how many lines are read. -/
def rdP : List Wb → Nat → Nat → Plc → Int × Nat × Plc
  | [], _, _, P => (0, 0, P)
  | x :: r, k, i, P => if r = [] then (if x = [] then (0, 0, P) else (5, i, P)) else match lnO x with
    | none => (5, i, P)
    | some (f, zs) => if f < k then (5, i, P) else rdP r f (i + 1) (adP P f zs)
def vdP : Plc := ⟨[], [], [], []⟩
def ppV (tx : Wb) : Int × Nat × Plc := if 1000 < tx.length then (2, 0, vdP) else
  if (rdP (spl 10 tx []) 0 0 vdP).1 = 0 then (if pfV (rdP (spl 10 tx []) 0 0 vdP).2.2 = 0 then (0, 0, (rdP (spl 10 tx []) 0 0 vdP).2.2) else (pfV (rdP (spl 10 tx []) 0 0 vdP).2.2, 0, vdP))
  else ((rdP (spl 10 tx []) 0 0 vdP).1, (rdP (spl 10 tx []) 0 0 vdP).2.1, vdP)
theorem fm_lt {w : Wb} {n k : Nat} (h : fmP w n = some k) : k < 4 ∧ (k = 0 → 1 ≤ n ∧ n ≤ 9) ∧ (k = 1 → n = 5) ∧ (k = 2 → n = 2) ∧ (k = 3 → n = 2) := by
  unfold fmP at h
  split at h
  · cases h; rename_i e; simp; omega
  · split at h
    · cases h; rename_i e; simp; omega
    · split at h
      · cases h; rename_i e; simp; omega
      · split at h
        · cases h; rename_i e; simp; omega
        · cases h
theorem rd_end (k i : Nat) (P : Plc) : rdP (spl 10 [] []) k i P = (0, 0, P) := rfl
theorem rd_step (tx : Wb) (h : tx ≠ []) (k i : Nat) (P : Plc) : rdP (spl 10 tx []) k i P = if 10 ∈ tx then (match lnO (befP 10 tx) with
    | none => (5, i, P)
    | some (f, zs) => if f < k then (5, i, P) else rdP (spl 10 (aftP 10 tx) []) f (i + 1) (adP P f zs)) else (5, i, P) := by
  rw [spl_bef]
  by_cases hm : 10 ∈ tx
  · rw [if_pos hm, if_pos hm, rdP, if_neg (spl_ne 10 _ _)]
    rfl
  · rw [if_neg hm, if_neg hm, rdP, if_pos rfl, if_neg (by simpa using h)]
theorem rd_at (L : List Wb) (i k : Nat) (P : Plc) (h : i + 1 < L.length) : rdP (L.drop i) k i P = match lnO (L.getD i []) with
    | none => (5, i, P)
    | some (f, zs) => if f < k then (5, i, P) else rdP (L.drop (i + 1)) f (i + 1) (adP P f zs) := by
  rw [List.drop_eq_getElem_cons (by omega), rdP, if_neg (by intro e; have := congrArg List.length e; rw [List.length_drop] at this; simp at this; omega)]
  have e : L.getD i [] = L[i] := by rw [List.getD, List.getElem?_eq_getElem (by omega)]; rfl
  rw [e]
theorem rd_last (L : List Wb) (i k : Nat) (P : Plc) (h : i + 1 = L.length) : rdP (L.drop i) k i P = if L.getD i [] = [] then (0, 0, P) else (5, i, P) := by
  have hd : L.drop (i + 1) = [] := List.drop_eq_nil_of_le (by omega)
  rw [List.drop_eq_getElem_cons (by omega), rdP, hd, if_pos rfl]
  have e : L.getD i [] = L[i] := by rw [List.getD, List.getElem?_eq_getElem (by omega)]; rfl
  rw [e]
structure SmP (P : Plc) (i : Nat) : Prop where
  own : P.own.length ≤ i
  lanes : P.lanes.length ≤ i
  bells : P.bells.length ≤ i
  plan : P.plan.length ≤ i
theorem SmP.next {P : Plc} {i : Nat} (h : SmP P i) (k : Nat) (z : List Int) : SmP (adP P k z) (i + 1) := by
  have := h.own; have := h.lanes; have := h.bells; have := h.plan
  unfold adP
  split
  · exact ⟨by simp; omega, by show P.lanes.length ≤ _; omega, by show P.bells.length ≤ _; omega, by show P.plan.length ≤ _; omega⟩
  · split
    · exact ⟨by show P.own.length ≤ _; omega, by simp; omega, by show P.bells.length ≤ _; omega, by show P.plan.length ≤ _; omega⟩
    · split
      · exact ⟨by show P.own.length ≤ _; omega, by show P.lanes.length ≤ _; omega, by simp; omega, by show P.plan.length ≤ _; omega⟩
      · exact ⟨by show P.own.length ≤ _; omega, by show P.lanes.length ≤ _; omega, by show P.bells.length ≤ _; omega, by simp; omega⟩
end Go.Proofs.YtkfcofjmjbkekaaGreatDoor
namespace Go.Proofs.YtkfcofjmjbkekaaGreatDoor
open Go.RowKit
set_option linter.unusedVariables false

/-- A number is set in the first place of a row: rows in that block have it, all others stay. -/
def hit0 (g : Nat) (u : Int) (x : Value) (zs : List Int) : List Int := if x.ownBlock = some g then zs.set 0 u else zs
theorem Nums.hit {w : World} {base g : Nat} {x : Value} {zs : List Int} (h : Nums w base x zs) (u : Int) : Nums (w.setCell ⟨g, 0, none⟩ (.int .i64 u)) base x (hit0 g u x zs) := by
  unfold hit0
  by_cases e : x.ownBlock = some g
  · rw [if_pos e]
    obtain ⟨a, cap, rfl, _, _, _⟩ := h.shape
    have h' := h
    obtain ⟨h1, ⟨hv, h3⟩ | ⟨g', cap', cur, hv, rest⟩⟩ := h
    · rw [hv] at e; cases e
    · rw [hv] at e
      cases e
      cases hv
      have s := (World.ownsRow.stored h' 0 (.int .i64 u)).1
      unfold Nums
      rw [List.length_set, ← List.map_set] at *
      exact s
  · rw [if_neg e]
    exact h.put _ _ e
theorem So.hit {w : World} {base g : Nat} {v : Value} {oss : List (List Int)} (h : So w base v oss) (hg : ∃ B x zs, Nums w B x zs ∧ x.ownBlock = some g) (u : Int) : ∃ oss', So (w.setCell ⟨g, 0, none⟩ (.int .i64 u)) base v oss' := by
  obtain ⟨xs, h0, h1, h2⟩ := h
  obtain ⟨B, x, zs, hx, hxg⟩ := hg
  refine ⟨(List.range oss.length).map fun i => hit0 g u (xs.getD i (.slice none 0 0)) (oss.getD i []), xs, by simp [h0], ?_, fun i hi => ?_⟩
  · rw [List.length_map, List.length_range]
    refine World.ownsRow.kept h1 (grown_set w _ _) ?_
    rcases own_types h1 hx (by decide) with e | e
    · exact .inl e
    · exact .inr (by rw [hxg] at e; exact e)
  · rw [List.length_map, List.length_range] at hi
    rw [show ((List.range oss.length).map fun i => hit0 g u (xs.getD i (.slice none 0 0)) (oss.getD i [])).getD i [] = hit0 g u (xs.getD i (.slice none 0 0)) (oss.getD i []) by rw [List.getD, List.getElem?_map, List.getElem?_range hi]; rfl]
    exact (h2 i hi).hit u
/-- The first slice of a slice of slices. -/
theorem So.first {w : World} {base n cap : Nat} {a : Option Addr} {oss : List (List Int)} (h : So w base (.slice a n cap) oss) (hn : 0 < oss.length) : ∃ g a1 c1, a = some ⟨g, 0, none⟩ ∧ w.cell? ⟨g, 0, none⟩ = some (.slice a1 (oss.getD 0 []).length c1) ∧ w.frozen? ⟨g, 0, none⟩ = false ∧ Nums w base (.slice a1 (oss.getD 0 []).length c1) (oss.getD 0 []) := by
  obtain ⟨xs, h0, h1, h2⟩ := h
  obtain ⟨a1, c1, hs, _⟩ := (h2 0 hn).shape
  have h1' := h1
  obtain ⟨k1, ⟨hv, k3⟩ | ⟨g, c, cur, hv, _, _, k4, k5, _⟩⟩ := h1
  · omega
  · cases hv
    refine ⟨g, a1, c1, rfl, ?_, World.ownsRow.frozenAt h1' 0, by have := h2 0 hn; rw [hs] at this; exact this⟩
    rw [World.ownsRow.cellAt h1' 0 (by omega), ← hs, List.getD, List.getElem?_eq_getElem (by omega)]
    rfl
/-- The first slice made nil. -/
theorem So.nil0 {w : World} {base g n cap : Nat} {oss : List (List Int)} (h : So w base (.slice (some ⟨g, 0, none⟩) n cap) oss) : ∃ oss', So (w.setCell ⟨g, 0, none⟩ (.slice none 0 0)) base (.slice (some ⟨g, 0, none⟩) n cap) oss' := by
  obtain ⟨xs, h0, h1, h2⟩ := h
  have hn : n = oss.length := by
    obtain ⟨k1, ⟨hv, k3⟩ | ⟨g', c, cur, hv, _⟩⟩ := h1
    · cases hv
    · cases hv; rfl
  subst hn
  have s := (World.ownsRow.stored h1 0 (.slice none 0 0)).1
  refine ⟨oss.set 0 [], xs.set 0 (.slice none 0 0), by simp [h0], by rw [List.length_set]; exact s, fun i hi => ?_⟩
  rw [List.length_set] at hi
  have hk : ∀ {u : Value} {rs : List Int}, Nums w base u rs → Nums (w.setCell ⟨g, 0, none⟩ (.slice none 0 0)) base u rs := fun hu => hu.kept (grown_set w _ _) (own_types hu h1 (by decide))
  by_cases e : i = 0
  · subst e
    have e1 : (xs.set 0 (.slice none 0 0)).getD 0 (.slice none 0 0) = .slice none 0 0 := by cases xs <;> rfl
    have e2 : (oss.set 0 []).getD 0 [] = [] := by cases oss <;> rfl
    rw [e1, e2]
    exact Nums.nil _ _
  · have e1 : (xs.set 0 (.slice none 0 0)).getD i (.slice none 0 0) = xs.getD i (.slice none 0 0) := by rw [List.getD, List.getD, List.getElem?_set_ne (by omega)]
    have e2 : (oss.set 0 []).getD i [] = oss.getD i [] := by rw [List.getD, List.getD, List.getElem?_set_ne (by omega)]
    rw [e1, e2]
    exact hk (h2 i hi)
end Go.Proofs.YtkfcofjmjbkekaaGreatDoor
