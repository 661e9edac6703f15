/- Entries of a guest's own table: what a word tells, and the word that tells it, by program and model. -/
import Derived.Test.YtmkhjbiocjomlaaPgs4
namespace Go.Proofs.Ytmkhjbiocjomlaa
open Go.RowKit
set_option linter.unusedVariables false

theorem ret2 {a b c d : Int} (h1 : a = c) (h2 : b = d) : Ending.returned (.agg #[.int .i64 a, .int .i64 b]) = .returned (.agg #[.int .i64 c, .int .i64 d]) := by rw [h1, h2]

/-- The page that leads to a page for kinds; nowhere, if there are none. -/
def forP (to k : Int) : Int × Int := if k = 0 then (-1, 0) else (to, k)

theorem impl_pageFor (to k : Int) (w : World) : Calls Try.prog 64 #[.int .i64 to, .int .i64 k] w fun e w' => e = .returned (.agg #[.int .i64 (forP to k).1, .int .i64 (forP to k).2]) ∧ Below w.heap.size w w' := by
  by_cases h : k = 0
  · subst h
    rw [forP, if_pos rfl]
    go_enter Try.func64, Try.ntmps64
    go_wp2_with fail
    exact bodyPost_ret (v := .agg #[.int .i64 (-1), .int .i64 0]) (by simp [results, Try.results64, go_sem]) rfl ⟨rfl, al (Below.refl _ _) _⟩
  · rw [forP, if_neg h]
    have g : (k == 0) = false := beq_eq_false_iff_ne.2 h
    go_enter Try.func64, Try.ntmps64
    go_wp2_with fail
    exact bodyPost_ret (v := .agg #[.int .i64 to, .int .i64 k]) (by simp [results, Try.results64, go_sem]) rfl ⟨rfl, al (Below.refl _ _) _⟩

theorem spec_none (w : World) : Calls Try.prog 57 #[] w fun e w' => e = .returned (.agg #[.int .i64 (-1), .int .i64 0]) ∧ Below w.heap.size w w' := by
  go_enter Try.func57, Try.ntmps57
  go_wp2_with fail
  exact bodyPost_ret (v := .agg #[.int .i64 (-1), .int .i64 0]) (by simp [results, Try.results57, go_sem]) rfl ⟨rfl, al (Below.refl _ _) _⟩

/-- The page that a word tells. -/
def entP (z : Int) : Int × Int := if z % 8 = 0 ∨ 8 ≤ z / 8 then (-1, 0) else (z / 8, z % 8)
def entC (z : Int) : Int := if isW z then 0 else 3
def entE (z : Int) : Int × Int := if isW z then entP z else (0, 0)
theorem isW_true {z : Int} (h : isW z = true) : 0 ≤ z ∧ z ≤ 4294967295 := by simpa [isW] using h

theorem spec_entry (z : Int) (w : World) (h0 : 0 ≤ z) (h1 : z ≤ 4294967295) : Calls Try.prog 66 #[.int .i64 z] w fun e w' => e = .returned (.agg #[.int .i64 (entP z).1, .int .i64 (entP z).2]) ∧ Below w.heap.size w w' := by
  by_cases h : z % 8 = 0
  · rw [entP, if_pos (.inl h)]
    have g : (z % 8 == 0) = true := by simpa using h
    go_enter Try.func66, Try.ntmps66
    go_wp2_with fail
    refine (spec_none _).mono ?_
    rintro e w1 ⟨rfl, b1⟩
    have k0 : w1.cell? ⟨w.heap.size, 0, none⟩ = some (.int .i64 0) := cell_keep b1 (by simp)
    have k1 : w1.cell? ⟨w.heap.size, 1, none⟩ = some (.int .i64 0) := cell_keep b1 (by simp)
    have f0 : w1.frozen? ⟨w.heap.size, 0, none⟩ = false := by rw [(bcell b1).2 _ _ (by simp; omega)]; simp
    have f1 : w1.frozen? ⟨w.heap.size, 1, none⟩ = false := by rw [(bcell b1).2 _ _ (by simp; omega)]; simp
    go_wp2_with fail
    exact bodyPost_ret (v := .agg #[.int .i64 (-1), .int .i64 0]) (by simp [results, Try.results66, go_sem, k0, k1]) rfl ⟨rfl, ((on (al (al (Below.refl _ _) _) _) b1).setCell (by simp) _).setCell (by simp) _⟩
  have g : (z % 8 == 0) = false := by simpa using h
  by_cases k : 8 ≤ z / 8
  · rw [entP, if_pos (.inr k)]
    go_enter Try.func66, Try.ntmps66
    go_wp2_with fail
    refine (spec_none _).mono ?_
    rintro e w1 ⟨rfl, b1⟩
    have k0 : w1.cell? ⟨w.heap.size, 0, none⟩ = some (.int .i64 0) := cell_keep b1 (by simp)
    have k1 : w1.cell? ⟨w.heap.size, 1, none⟩ = some (.int .i64 0) := cell_keep b1 (by simp)
    have f0 : w1.frozen? ⟨w.heap.size, 0, none⟩ = false := by rw [(bcell b1).2 _ _ (by simp; omega)]; simp
    have f1 : w1.frozen? ⟨w.heap.size, 1, none⟩ = false := by rw [(bcell b1).2 _ _ (by simp; omega)]; simp
    go_wp2_with fail
    exact bodyPost_ret (v := .agg #[.int .i64 (-1), .int .i64 0]) (by simp [results, Try.results66, go_sem, k0, k1]) rfl ⟨rfl, ((on (al (al (Below.refl _ _) _) _) b1).setCell (by simp) _).setCell (by simp) _⟩
  · rw [entP, if_neg (by omega)]
    go_enter Try.func66, Try.ntmps66
    go_wp2_with fail
    exact bodyPost_ret (v := .agg #[.int .i64 (z / 8), .int .i64 (z % 8)]) (by simp [results, Try.results66, go_sem]) rfl ⟨rfl, al (al (Below.refl _ _) _) _⟩

theorem spec_entryOf (z : Int) (w : World) : Calls Try.prog 23 #[.int .i64 z] w fun e w' => e = .returned (.agg #[.int .i64 (entC z), .int .i64 (entE z).1, .int .i64 (entE z).2]) ∧ Below w.heap.size w w' := by
  cases h : isW z
  · rw [show entC z = 3 by simp [entC, h], show entE z = (0, 0) by simp [entE, h]]
    unfold isW at h
    go_enter Try.func23, Try.ntmps23
    go_wp2_with (go_at_call 65; refine (spec_in _ _ _ _).mono ?_; rintro e x ⟨rfl, rfl⟩; rw [h])
    exact bodyPost_ret (v := .agg #[.int .i64 3, .int .i64 0, .int .i64 0]) (by simp [results, Try.results23, go_sem]) rfl ⟨rfl, al (Below.refl _ _) _⟩
  · rw [show entC z = 0 by simp [entC, h], show entE z = entP z by simp [entE, h]]
    obtain ⟨h0, h1⟩ := isW_true h
    have hF := fun w => spec_entry z w h0 h1
    unfold isW at h
    generalize (entP z).1 = p at *
    generalize (entP z).2 = q at *
    go_enter Try.func23, Try.ntmps23
    go_wp2_with (go_at_call 65; refine (spec_in _ _ _ _).mono ?_; rintro e x ⟨rfl, rfl⟩; rw [h])
    refine (hF _).mono ?_
    rintro e w1 ⟨rfl, b1⟩
    obtain ⟨c1, z1⟩ := bcell b1
    go_wp2_with fail
    exact bodyPost_ret (v := .agg #[.int .i64 0, .int .i64 p, .int .i64 q]) (by simp [results, Try.results23, go_sem, c1]) rfl ⟨rfl, (((on (al (Below.refl _ _) _) b1).setCell (by simp) _).setCell (by simp) _).setCell (by simp) _⟩

theorem impl_entryOf (z : Int) (w : World) : Calls Try.prog 22 #[.int .i64 z] w fun e w' => e = .returned (.agg #[.int .i64 (entC z), .int .i64 (entE z).1, .int .i64 (entE z).2]) ∧ Below w.heap.size w w' := by
  cases h : isW z
  · rw [show entC z = 3 by simp [entC, h], show entE z = (0, 0) by simp [entE, h]]
    go_enter Try.func22, Try.ntmps22
    go_wp2_with (go_at_call 63; refine (impl_isWord _ _).mono ?_; rintro e x ⟨rfl, rfl⟩; rw [h])
    exact bodyPost_ret (v := .agg #[.int .i64 3, .int .i64 0, .int .i64 0]) (by simp [results, Try.results22, go_sem]) rfl ⟨rfl, al (Below.refl _ _) _⟩
  · rw [show entC z = 0 by simp [entC, h], show entE z = entP z by simp [entE, h]]
    obtain ⟨h0, h1⟩ := isW_true h
    by_cases k : 8 ≤ z / 8
    · rw [entP, if_pos (.inr k)]
      go_enter Try.func22, Try.ntmps22
      go_wp2_with (go_at_call 63; refine (impl_isWord _ _).mono ?_; rintro e x ⟨rfl, rfl⟩; rw [h])
      exact bodyPost_ret (v := .agg #[.int .i64 0, .int .i64 (-1), .int .i64 0]) (by simp [results, Try.results22, go_sem]) rfl ⟨rfl, al (Below.refl _ _) _⟩
    · have hF := fun w => impl_pageFor (z / 8) (z % 8) w
      have e : entP z = forP (z / 8) (z % 8) := by
        unfold entP forP
        by_cases h8 : z % 8 = 0
        · rw [if_pos (.inl h8), if_pos h8]
        · rw [if_neg (by omega), if_neg h8]
      rw [e]
      generalize (forP (z / 8) (z % 8)).1 = p at *
      generalize (forP (z / 8) (z % 8)).2 = q at *
      clear e
      go_enter Try.func22, Try.ntmps22
      go_wp2_with (go_at_call 63; refine (impl_isWord _ _).mono ?_; rintro e x ⟨rfl, rfl⟩; rw [h])
      refine (hF _).mono ?_
      rintro e w1 ⟨rfl, b1⟩
      obtain ⟨c1, z1⟩ := bcell b1
      go_wp2_with fail
      exact bodyPost_ret (v := .agg #[.int .i64 0, .int .i64 p, .int .i64 q]) (by simp [results, Try.results22, go_sem, c1]) rfl ⟨rfl, (((on (al (Below.refl _ _) _) b1).setCell (by simp) _).setCell (by simp) _).setCell (by simp) _⟩

/-- Code and value of EntryWord. -/
def ewC (a b : Int) : Int := if pgC 8 a b = 0 then (if a ≠ -1 ∧ b = 0 then 1 else 0) else pgC 8 a b
def ewV (a b : Int) : Int := if ewC a b = 0 ∧ a ≠ -1 then a * 8 + b else 0

set_option maxHeartbeats 1000000 in
theorem impl_entryWord (a b : Int) (w : World) : Calls Try.prog 24 #[.agg #[.int .i64 a, .int .i64 b]] w fun e w' => e = .returned (.agg #[.int .i64 (ewC a b), .int .i64 (ewV a b)]) ∧ Below w.heap.size w w' := by
  have hF := fun w => impl_pageFault a b 8 w
  by_cases h : pgC 8 a b = 0
  case neg =>
    have hc : ewC a b = pgC 8 a b := if_neg h
    have hv : ewV a b = 0 := if_neg (by rw [hc]; omega)
    have g : (pgC 8 a b != 0) = true := by simpa using h
    rw [hc, hv]
    clear hc hv h
    generalize pgC 8 a b = c at *
    go_enter Try.func24, Try.ntmps24
    go_wp2_with fail
    refine (hF _).mono ?_
    rintro e w1 ⟨rfl, b1⟩
    obtain ⟨c1, z1⟩ := bcell b1
    go_wp2_with fail
    exact bodyPost_ret (v := .agg #[.int .i64 c, .int .i64 0]) (by simp [results, Try.results24, go_sem, c1]) rfl ⟨rfl, ((on (al (al (Below.refl _ _) _) _) b1).setCell (by simp) _).setCell (by simp) _⟩
  obtain ⟨p1, p2, p3, p4, p5⟩ := pgC_zero h
  rw [h] at hF
  by_cases ha : a = -1
  · have hc : ewC a b = 0 := by rw [ewC, if_pos h, if_neg (by omega)]
    have hv : ewV a b = 0 := if_neg (by omega)
    rw [hc, hv]
    subst ha
    clear hc hv h p1 p2 p3 p4 p5
    go_enter Try.func24, Try.ntmps24
    go_wp2_with fail
    refine (hF _).mono ?_
    rintro e w1 ⟨rfl, b1⟩
    obtain ⟨c1, z1⟩ := bcell b1
    go_wp2_with fail
    exact bodyPost_ret (v := .agg #[.int .i64 0, .int .i64 0]) (by simp [results, Try.results24, go_sem, c1]) rfl ⟨rfl, ((on (al (al (Below.refl _ _) _) _) b1).setCell (by simp) _).setCell (by simp) _⟩
  have ga : (a == -1) = false := beq_eq_false_iff_ne.2 ha
  by_cases hb : b = 0
  · have hc : ewC a b = 1 := by rw [ewC, if_pos h, if_pos (by omega)]
    have hv : ewV a b = 0 := if_neg (by omega)
    rw [hc, hv]
    subst hb
    clear hc hv h p1 p2 p3 p4 p5 ha
    go_enter Try.func24, Try.ntmps24
    go_wp2_with fail
    refine (hF _).mono ?_
    rintro e w1 ⟨rfl, b1⟩
    obtain ⟨c1, z1⟩ := bcell b1
    go_wp2_with fail
    exact bodyPost_ret (v := .agg #[.int .i64 1, .int .i64 0]) (by simp [results, Try.results24, go_sem, c1]) rfl ⟨rfl, ((on (al (al (Below.refl _ _) _) _) b1).setCell (by simp) _).setCell (by simp) _⟩
  · have hc : ewC a b = 0 := by rw [ewC, if_pos h, if_neg (by omega)]
    have hv : ewV a b = a * 8 + b := if_pos (by omega)
    have gb : (b == 0) = false := beq_eq_false_iff_ne.2 hb
    rw [hc, hv]
    clear hc hv h p5 hb ha
    go_enter Try.func24, Try.ntmps24
    go_wp2_with fail
    refine (hF _).mono ?_
    rintro e w1 ⟨rfl, b1⟩
    obtain ⟨c1, z1⟩ := bcell b1
    go_wp2_with fail
    exact bodyPost_ret (v := .agg #[.int .i64 0, .int .i64 (a * 8 + b)]) (by simp [results, Try.results24, go_sem, c1]) rfl ⟨rfl, ((on (al (al (Below.refl _ _) _) _) b1).setCell (by simp) _).setCell (by simp) _⟩

set_option maxHeartbeats 1000000 in
theorem spec_entryWord (a b : Int) (w : World) : Calls Try.prog 26 #[.agg #[.int .i64 a, .int .i64 b]] w fun e w' => e = .returned (.agg #[.int .i64 (ewC a b), .int .i64 (ewV a b)]) ∧ Below w.heap.size w w' := by
  by_cases k1 : (decide (-1 ≤ a) && decide (a ≤ 7)) = true
  case neg =>
    rw [Bool.not_eq_true] at k1
    have h3 : pgC 8 a b = 3 := pgC_range (by simp at k1; omega)
    have hc : ewC a b = 3 := by rw [ewC, h3]; rfl
    have hv : ewV a b = 0 := if_neg (by omega)
    rw [hc, hv]
    clear hc hv h3
    go_enter Try.func26, Try.ntmps26
    go_wp2_with (go_at_call 65; refine (spec_in _ _ _ _).mono ?_; rintro e x ⟨rfl, rfl⟩; rw [k1])
    exact bodyPost_ret (v := .agg #[.int .i64 3, .int .i64 0]) (by simp [results, Try.results26, go_sem]) rfl ⟨rfl, al (al (Below.refl _ _) _) _⟩
  by_cases k2 : (decide (0 ≤ b) && decide (b ≤ 7)) = true
  case neg =>
    rw [Bool.not_eq_true] at k2
    have h3 : pgC 8 a b = 3 := pgC_range (by simp at k2; omega)
    have hc : ewC a b = 3 := by rw [ewC, h3]; rfl
    have hv : ewV a b = 0 := if_neg (by omega)
    rw [hc, hv]
    clear hc hv h3
    go_enter Try.func26, Try.ntmps26
    go_wp2_with (go_at_call 65; refine (spec_in _ _ _ _).mono ?_; rintro e x ⟨rfl, rfl⟩; first | rw [k1] | rw [k2])
    exact bodyPost_ret (v := .agg #[.int .i64 3, .int .i64 0]) (by simp [results, Try.results26, go_sem]) rfl ⟨rfl, al (al (Below.refl _ _) _) _⟩
  have b1 : -1 ≤ a ∧ a ≤ 7 := by simpa using k1
  have b2 : 0 ≤ b ∧ b ≤ 7 := by simpa using k2
  obtain ⟨p1, p2⟩ := b1
  obtain ⟨p3, p4⟩ := b2
  by_cases ha : a = -1
  · by_cases hb : b = 0
    · have h : pgC 8 a b = 0 := pgC_ok (by omega) (by omega)
      have hc : ewC a b = 0 := by rw [ewC, if_pos h, if_neg (by omega)]
      have hv : ewV a b = 0 := if_neg (by omega)
      rw [hc, hv]
      subst ha hb
      clear hc hv h p1 p2 p3 p4
      go_enter Try.func26, Try.ntmps26
      go_wp2_with (go_at_call 65; refine (spec_in _ _ _ _).mono ?_; rintro e x ⟨rfl, rfl⟩; first | rw [k1] | rw [k2])
      exact bodyPost_ret (v := .agg #[.int .i64 0, .int .i64 0]) (by simp [results, Try.results26, go_sem]) rfl ⟨rfl, al (al (Below.refl _ _) _) _⟩
    · have h : pgC 8 a b = 1 := pgC_form (by omega) (by omega)
      have hc : ewC a b = 1 := by rw [ewC, h]; rfl
      have hv : ewV a b = 0 := if_neg (by omega)
      have gb : (b == 0) = false := beq_eq_false_iff_ne.2 hb
      rw [hc, hv]
      subst ha
      clear hc hv h p1 p2 p3 p4 hb
      go_enter Try.func26, Try.ntmps26
      go_wp2_with (go_at_call 65; refine (spec_in _ _ _ _).mono ?_; rintro e x ⟨rfl, rfl⟩; first | rw [k1] | rw [k2])
      exact bodyPost_ret (v := .agg #[.int .i64 1, .int .i64 0]) (by simp [results, Try.results26, go_sem]) rfl ⟨rfl, al (al (Below.refl _ _) _) _⟩
  have gn : ¬ a < 0 := by omega
  have gd : decide (a < 0) = false := by simp; omega
  have h : pgC 8 a b = 0 := pgC_ok (by omega) (by omega)
  by_cases hb : b = 0
  · have hc : ewC a b = 1 := by rw [ewC, if_pos h, if_pos (by omega)]
    have hv : ewV a b = 0 := if_neg (by omega)
    rw [hc, hv]
    subst hb
    clear hc hv h p1 p2 p3 p4 ha
    go_enter Try.func26, Try.ntmps26
    go_wp2_with (go_at_call 65; refine (spec_in _ _ _ _).mono ?_; rintro e x ⟨rfl, rfl⟩; first | rw [k1] | rw [k2])
    exact bodyPost_ret (v := .agg #[.int .i64 1, .int .i64 0]) (by simp [results, Try.results26, go_sem]) rfl ⟨rfl, al (al (Below.refl _ _) _) _⟩
  · have hc : ewC a b = 0 := by rw [ewC, if_pos h, if_neg (by omega)]
    have hv : ewV a b = 8 * a + b := by rw [ewV, if_pos (by omega)]; omega
    have gb : (b == 0) = false := beq_eq_false_iff_ne.2 hb
    rw [hc, hv]
    clear hc hv h hb ha
    go_enter Try.func26, Try.ntmps26
    go_wp2_with (go_at_call 65; refine (spec_in _ _ _ _).mono ?_; rintro e x ⟨rfl, rfl⟩; first | rw [k1] | rw [k2])
    exact bodyPost_ret (v := .agg #[.int .i64 0, .int .i64 (8 * a + b)]) (by simp [results, Try.results26, go_sem]) rfl ⟨rfl, al (al (Below.refl _ _) _) _⟩

theorem eq_pageR (c a b : Int) (w : World) : Calls Try.prog 31 #[.agg #[.int .i64 c, .int .i64 a, .int .i64 b], .agg #[.int .i64 c, .int .i64 a, .int .i64 b]] w fun e w' => e = .returned (.bool true) ∧ Below w.heap.size w w' := by
  go_enter Try.func31, Try.ntmps31
  go_wp2_with fail
  refine (eq_page _ _ _).mono ?_
  rintro e w1 ⟨rfl, b1⟩
  go_wp2_with fail
  go_ret
  exact ⟨rfl, on (al (al (Below.refl _ _) _) _) b1⟩
end Go.Proofs.Ytmkhjbiocjomlaa
