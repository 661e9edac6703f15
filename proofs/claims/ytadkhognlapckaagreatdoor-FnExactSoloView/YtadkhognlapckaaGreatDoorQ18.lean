/- Texts of this seat, joined. -/
import Derived.Test.YtadkhognlapckaaGreatDoorQ05
import Derived.Test.YtadkhognlapckaaGreatDoorQ10
namespace Go.Proofs.YtadkhognlapckaaGreatDoor
open Go.RowKit
set_option linter.unusedVariables false

/-- The fault of one entry. -/
def pgC (top a b : Int) : Int := if -1 ≤ a ∧ a ≤ top - 1 ∧ 0 ≤ b ∧ b ≤ 7 then (if a = -1 ∧ b ≠ 0 then 1 else 0) else 3
theorem pgC_range {top a b : Int} (h : ¬ (-1 ≤ a ∧ a ≤ top - 1 ∧ 0 ≤ b ∧ b ≤ 7)) : pgC top a b = 3 := if_neg h
theorem pgC_form {top a b : Int} (h : -1 ≤ a ∧ a ≤ top - 1 ∧ 0 ≤ b ∧ b ≤ 7) (k : a = -1 ∧ b ≠ 0) : pgC top a b = 1 := by rw [pgC, if_pos h, if_pos k]
theorem pgC_ok {top a b : Int} (h : -1 ≤ a ∧ a ≤ top - 1 ∧ 0 ≤ b ∧ b ≤ 7) (k : ¬ (a = -1 ∧ b ≠ 0)) : pgC top a b = 0 := by rw [pgC, if_pos h, if_neg k]
/-- The first fault of a list's entries. -/
def firstC (top : Int) : List (Int × Int) → Int
  | [] => 0
  | r :: t => if pgC top r.1 r.2 = 0 then firstC top t else pgC top r.1 r.2
def okTo (top : Int) (rs : List (Int × Int)) (j : Nat) : Prop := ∀ i, i < j → pgC top (rs.getD i (0, 0)).1 (rs.getD i (0, 0)).2 = 0
theorem okTo_succ {top : Int} {rs : List (Int × Int)} {j : Nat} (h : okTo top rs j) (k : pgC top (rs.getD j (0, 0)).1 (rs.getD j (0, 0)).2 = 0) : okTo top rs (j + 1) := by
  intro i hi
  by_cases e : i = j
  · subst e; exact k
  · exact h i (by omega)
theorem firstC_ok {top : Int} {rs : List (Int × Int)} (h : okTo top rs rs.length) : firstC top rs = 0 := by
  induction rs with
  | nil => rfl
  | cons r t ih =>
    have h0 := h 0 (by simp)
    have ht : okTo top t t.length := fun i hi => by simpa using h (i + 1) (by simpa using hi)
    rw [firstC, if_pos (by simpa using h0), ih ht]
theorem firstC_at {top : Int} {rs : List (Int × Int)} {j : Nat} (hj : j < rs.length) (h : okTo top rs j) (k : pgC top (rs.getD j (0, 0)).1 (rs.getD j (0, 0)).2 ≠ 0) : firstC top rs = pgC top (rs.getD j (0, 0)).1 (rs.getD j (0, 0)).2 := by
  induction rs generalizing j with
  | nil => simp at hj
  | cons r t ih =>
    cases j with
    | zero =>
      have k' : ¬ pgC top r.1 r.2 = 0 := by simpa using k
      rw [firstC, if_neg k']
      simp
    | succ j =>
      have h0 : pgC top r.1 r.2 = 0 := by simpa using h 0 (by omega)
      rw [firstC, if_pos h0, ih (j := j) (by simpa using hj) (fun i hi => by simpa using h (i + 1) (by omega)) (by simpa using k)]
      simp
/-- What PagesFault answers. -/
def pgsV (rs : List (Int × Int)) (top : Int) : Int := if 1 ≤ top ∧ top ≤ 24 then (if rs.length = 8 then firstC top rs else 1) else 3
set_option maxHeartbeats 1000000 in
theorem impl_pageFault (a b top : Int) (w : World) : Calls Tryz.prog 93 #[.agg #[.int .i64 a, .int .i64 b], .int .i64 top] w fun e w' => e = .returned (.int .i64 (pgC top a b)) ∧ Below w.heap.size w w' := by
  by_cases h1 : a < -1
  case pos =>
    rw [pgC_range (by omega)]
    go_enter Tryz.func93, Tryz.ntmps93
    go_wp2_with fail
    go_ret
    exact ⟨rfl, al (Below.refl _ _) _⟩
  by_cases h2 : top ≤ a
  case pos =>
    rw [pgC_range (by omega)]
    go_enter Tryz.func93, Tryz.ntmps93
    go_wp2_with fail
    go_ret
    exact ⟨rfl, al (Below.refl _ _) _⟩
  by_cases h3 : b < 0
  case pos =>
    rw [pgC_range (by omega)]
    go_enter Tryz.func93, Tryz.ntmps93
    go_wp2_with fail
    go_ret
    exact ⟨rfl, al (Below.refl _ _) _⟩
  by_cases h4 : 7 < b
  case pos =>
    rw [pgC_range (by omega)]
    go_enter Tryz.func93, Tryz.ntmps93
    go_wp2_with fail
    go_ret
    exact ⟨rfl, al (Below.refl _ _) _⟩
  by_cases h5 : a = -1
  case neg =>
    rw [pgC_ok (by omega) (by omega)]
    have g5 : (a == -1) = false := beq_eq_false_iff_ne.2 h5
    clear h5
    go_enter Tryz.func93, Tryz.ntmps93
    go_wp2_with fail
    go_ret
    exact ⟨rfl, al (Below.refl _ _) _⟩
  by_cases h6 : b = 0
  case neg =>
    rw [pgC_form (by omega) (by omega)]
    have g6 : (b != 0) = true := by simpa using h6
    subst h5
    clear h6
    go_enter Tryz.func93, Tryz.ntmps93
    go_wp2_with fail
    go_ret
    exact ⟨rfl, al (Below.refl _ _) _⟩
  rw [pgC_ok (by omega) (by omega)]
  subst h5 h6
  clear h1 h3 h4
  go_enter Tryz.func93, Tryz.ntmps93
  go_wp2_with fail
  go_ret
  exact ⟨rfl, al (Below.refl _ _) _⟩

/-- A list of another length: its entries are not asked. -/
theorem impl_faultBad (a : Option Addr) (n cap : Nat) (top : Int) (w : World) (hn : n ≠ 8) (hm : n ≤ 1048576) (h1 : 1 ≤ top) (h2 : top ≤ 24) :
    Calls Tryz.prog 72 #[.slice a n cap, .int .i64 top] w fun e w' => e = .returned (.int .i64 1) ∧ w' = w := by
  have g : ((n : Int) != 8) = true := by simp; omega
  have hi : (n : Int) ≤ 1048576 := by omega
  have k1 : ¬ top < 1 := by omega
  have k2 : ¬ 24 < top := by omega
  go_enter Tryz.func72, Tryz.ntmps72
  go_wp2_with fail
  go_ret
  exact ⟨rfl, rfl⟩

set_option maxHeartbeats 2000000 in
theorem impl_fault (v : Value) (rs : List (Int × Int)) (top : Int) (b : Nat) (w : World) (h : Prs 125 w b v rs) (hm : rs.length ≤ 1048576) :
    Calls Tryz.prog 72 #[v, .int .i64 top] w fun e w' => e = .returned (.int .i64 (pgsV rs top)) ∧ Below w.heap.size w w' := by
  obtain ⟨a, cap, rfl, l1, l2, hg⟩ := h.shape
  by_cases h1 : top < 1
  case pos =>
    rw [pgsV, if_neg (by omega)]
    clear h
    go_enter Tryz.func72, Tryz.ntmps72
    go_wp2_with fail
    go_ret
    exact ⟨rfl, Below.refl _ _⟩
  by_cases h2 : 24 < top
  case pos =>
    rw [pgsV, if_neg (by omega)]
    clear h
    go_enter Tryz.func72, Tryz.ntmps72
    go_wp2_with fail
    go_ret
    exact ⟨rfl, Below.refl _ _⟩
  by_cases hl : rs.length = 8
  case neg =>
    rw [pgsV, if_pos (by omega), if_neg hl]
    refine (impl_faultBad _ _ _ _ _ hl hm (by omega) (by omega)).mono ?_
    rintro e w' ⟨rfl, rfl⟩
    exact ⟨rfl, Below.refl _ _⟩
  rw [pgsV, if_pos (by omega), if_pos hl]
  rw [hl] at hg ⊢
  have HZ : Hid (Prs 125 w b (.slice a 8 cap) rs) := by show Prs 125 _ _ _ _; rw [← hl]; exact h
  have HN : Hid (rs.length = 8) := hl
  obtain ⟨g, rfl⟩ := hg (by omega)
  clear h hl l1 l2 hg hm
  go_enter Tryz.func72, Tryz.ntmps72
  go_wp2_with fail
  go_loopw [6, 7, 19] (fun _ _ c wr => ∃ j : Nat, j ≤ 8 ∧ c = .int .i64 j ∧ okTo top rs j ∧ Below w.heap.size w wr) (fun _ _ c _ => 8 - (intOf c).toNat)
  case atStart => exact ⟨0, Nat.zero_le _, rfl, fun i hi => by omega, Below.refl _ _⟩
  case round =>
    obtain ⟨j, hj, rfl, hA, hB⟩ := hrel
    have HB : Hid (Below _ _ _) := hB
    have HA : Hid (okTo top rs j) := hA
    by_cases hlt : j < 8
    · have c1 := cell_keep hB (HZ.out.cell HN.out.symm j hlt).1
      have c2 := cell_keep hB (HZ.out.cell HN.out.symm j hlt).2
      have hI : (j : Int) < 8 := by omega
      have HL : Hid (j < 8) := hlt
      have hF := fun w => impl_pageFault (rs.getD j (0, 0)).1 (rs.getD j (0, 0)).2 top w
      have HS : Hid (pgC top (rs.getD j (0, 0)).1 (rs.getD j (0, 0)).2 = 0 → okTo top rs (j + 1)) := okTo_succ hA
      have HT : Hid (pgC top (rs.getD j (0, 0)).1 (rs.getD j (0, 0)).2 ≠ 0 → firstC top rs = pgC top (rs.getD j (0, 0)).1 (rs.getD j (0, 0)).2) := firstC_at (by have := HN.out; omega) hA
      generalize (rs.getD j (0, 0)).1 = p at *
      generalize (rs.getD j (0, 0)).2 = q at *
      generalize pgC top p q = c at *
      clear hB hlt hA
      by_cases hc : c = 0
      · have HS2 : Hid (okTo top rs (j + 1)) := HS.out hc
        subst hc
        clear HS HT
        go_wp2_with fail
        refine (hF _).mono ?_
        rintro e w5 ⟨rfl, b5⟩
        have B5 : Hid (Below w.heap.size w w5) := by first | exact on (al HB.out _) b5 | exact on HB.out b5
        clear b5 hF
        go_wp2_with fail
        go_roundw
        case rel => exact ⟨j + 1, by have := HL.out; omega, by go_num, HS2.out, B5.out⟩
        case measure => have := HL.out; simp [intOf]; omega
      · have hc2 : (c != 0) = true := by simpa using hc
        have HT2 : Hid (firstC top rs = c) := HT.out hc
        clear hc HT HS
        go_wp2_with fail
        refine (hF _).mono ?_
        rintro e w5 ⟨rfl, b5⟩
        have B5 : Hid (Below w.heap.size w w5) := by first | exact on (al HB.out _) b5 | exact on HB.out b5
        clear b5 hF
        go_wp2_with fail
        go_ret
        exact ⟨by rw [HT2.out]; rfl, B5.out⟩
    · have hI : ¬ (j : Int) < 8 := by omega
      obtain rfl : j = 8 := by omega
      have HE : Hid (firstC top rs = 0) := firstC_ok (by rw [HN.out]; exact hA)
      clear hB hA
      go_wp2_with fail
      go_ret
      exact ⟨by rw [HE.out]; rfl, HB.out⟩
end Go.Proofs.YtadkhognlapckaaGreatDoor
