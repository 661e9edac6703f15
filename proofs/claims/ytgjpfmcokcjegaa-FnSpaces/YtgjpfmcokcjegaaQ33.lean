/- Texts of this seat, joined. -/
import Derived.Test.YtgjpfmcokcjegaaQ12
import Derived.Test.YtgjpfmcokcjegaaQ18
import Derived.Test.YtgjpfmcokcjegaaQ26
import Derived.Test.YtgjpfmcokcjegaaQ31
namespace Go.Proofs.Ytgjpfmcokcjegaa
open Go.RowKit
set_option linter.unusedVariables false
def beyB (ps : List (Int × Int)) (n : Nat) : Bool := ps.any fun p => decide (((n / 8 : Nat) : Int) ≤ p.1)
def seenC (H : Ht) (ps : List (Int × Int)) (zs : List Int) : Int := if hfV H = 0 then (if pgsV ps 24 = 0 then (if memV zs = 0 then (if beyB ps zs.length then 1 else 0) else 1) else pgsV ps 24) else hfV H
def tabV (H : Ht) : Int := H.csr.getD 10 0
def tpg (H : Ht) (ps : List (Int × Int)) : Int × Int := ps.getD (tabV H - 1).toNat (0, 0)
def strL : List (Int × Int) := [(0, 7), (1, 7), (2, 7), (3, 7), (4, 7), (5, 7), (6, 7), (7, 7)]
def noB (H : Ht) (ps : List (Int × Int)) : Bool := decide (tabV H = 8) || (bits BinOp.and .i64 (tpg H ps).2 1 == 0)
def spC (H : Ht) (ps : List (Int × Int)) : Int := if tabV H = 0 then 0 else if noB H ps then 7 else 0
def spP (H : Ht) (ps : List (Int × Int)) (zs : List Int) : List (Int × Int) := if tabV H = 0 then strL else if noB H ps then [] else (eight zs (tpg H ps).1.toNat).map entP
def behC (ps : List (Int × Int)) (y k : Int) : Int := if y / 8 = 7 then (if k = 4 then 9 else 0) else wkC ps y k
def behV (ps : List (Int × Int)) (y k : Int) : Int := if y / 8 = 7 then (if k = 4 then 0 else 1000 + y % 8) else wkV ps y k
def plC (H : Ht) (ps : List (Int × Int)) (zs : List Int) (x k : Int) : Int := if spC H ps = 0 then (if wkC (spP H ps zs) x k = 0 then behC ps (wkV (spP H ps zs) x k) k else wkC (spP H ps zs) x k) else spC H ps
def plV (H : Ht) (ps : List (Int × Int)) (zs : List Int) (x k : Int) : Int := if spC H ps = 0 then (if wkC (spP H ps zs) x k = 0 then behV ps (wkV (spP H ps zs) x k) k else 0) else 0
structure Sn (H : Ht) (ps : List (Int × Int)) (zs : List Int) (p : Nat) : Prop where
  hok : Hok H
  l8 : ps.length = 8
  ok : okTo 24 ps 8
  zl : zs.length = p * 8
  p1 : 1 ≤ p
  p24 : p ≤ 24
  zw : zs.all isW = true
  tl : ∀ j, j < 8 → (ps.getD j (0, 0)).1 < p
  t0 : 0 ≤ tabV H
  t8 : tabV H ≤ 8
theorem seen_ok {H : Ht} {ps : List (Int × Int)} {zs : List Int} (h : seenC H ps zs = 0) : ∃ p, Sn H ps zs p := by
  unfold seenC at h
  split at h
  · rename_i h1
    split at h
    · rename_i h2
      split at h
      · rename_i h3
        split at h
        · exact absurd h (by decide)
        · rename_i h4
          obtain ⟨_, _, hl, ho⟩ := pgsV_zero h2
          have hk := hok_of h1
          unfold memV at h3
          split at h3
          · rename_i hf
            split at h3
            · rename_i hw
              unfold formB at hf
              have hf := of_decide_eq_true hf
              have ht := hk.st
              unfold standC at ht
              simp at ht
              refine ⟨zs.length / 8, hk, hl, ho, by omega, by omega, by omega, hw, fun j hj => ?_, (all_at hk.cw 10).1, by unfold tabV; simp; omega⟩
              have hb : beyB ps zs.length = false := by simpa using h4
              unfold beyB at hb
              rw [List.any_eq_false] at hb
              have := hb (ps.getD j (0, 0)) (by rw [List.getD, List.getElem?_eq_getElem (by omega)]; exact List.getElem_mem _)
              simp at this
              simpa using this
            · exact absurd h3 (by decide)
          · exact absurd h3 (by decide)
      · exact absurd h (by decide)
    · rename_i h2; exact absurd h h2
  · rename_i h1; exact absurd h h1
theorem okTo_up {ps : List (Int × Int)} {n : Nat} (h : okTo 8 ps n) : okTo 24 ps n := fun i hi => by
  have := pgC_zero (h i hi)
  exact pgC_ok ⟨by omega, by omega, by omega, by omega⟩ (fun e => e.2 (this.2.2.2.2 e.1))
theorem okTo_str : okTo 8 strL 8 := fun i hi => by
  have e : i = 0 ∨ i = 1 ∨ i = 2 ∨ i = 3 ∨ i = 4 ∨ i = 5 ∨ i = 6 ∨ i = 7 := by omega
  rcases e with rfl | rfl | rfl | rfl | rfl | rfl | rfl | rfl <;> rfl
theorem okTo_ent {zs : List Int} (hl : zs.length = 8) (hw : zs.all isW = true) : okTo 8 (zs.map entP) 8 := fun i hi => by
  have hm := List.all_eq_true.1 hw _ (List.getElem_mem (l := zs) (n := i) (by omega))
  obtain ⟨h0, h1⟩ := isW_true hm
  rw [List.getD, List.getElem?_map, List.getElem?_eq_getElem (by omega)]
  simp only [Option.map_some, Option.getD_some]
  unfold entP
  split
  · rfl
  · rename_i h
    exact pgC_ok ⟨by simp; omega, by simp; omega, by simp; omega, by simp; omega⟩ (by simp; omega)
theorem all_eight {zs : List Int} (h : zs.all isW = true) (j : Nat) : (eight zs j).all isW = true := by
  rw [List.all_eq_true] at h ⊢
  intro x hx
  exact h x (List.mem_of_mem_drop (List.mem_of_mem_take hx))
theorem tpg_in {H : Ht} {ps : List (Int × Int)} {zs : List Int} {p : Nat} (s : Sn H ps zs p) (hz : ¬ tabV H = 0) : pgC 24 (tpg H ps).1 (tpg H ps).2 = 0 ∧ (tpg H ps).1 < p := by
  have h0 := s.t0
  have h8 := s.t8
  have hj : (tabV H - 1).toNat < 8 := by omega
  exact ⟨s.ok _ hj, s.tl _ hj⟩
theorem tpg_to {H : Ht} {ps : List (Int × Int)} {zs : List Int} {p : Nat} (s : Sn H ps zs p) (hz : ¬ tabV H = 0) (hn : noB H ps = false) : ∃ q : Nat, q < p ∧ (tpg H ps).1 = (q : Int) := by
  obtain ⟨h1, h2⟩ := tpg_in s hz
  have h3 := pgC_zero h1
  have h4 : (tpg H ps).1 ≠ -1 := by
    intro e
    have := h3.2.2.2.2 e
    unfold noB at hn
    rw [this, band_zero] at hn
    simp at hn
  exact ⟨(tpg H ps).1.toNat, by omega, by omega⟩
theorem sp_ok {H : Ht} {ps : List (Int × Int)} {zs : List Int} {p : Nat} (s : Sn H ps zs p) (h : spC H ps = 0) : (spP H ps zs).length = 8 ∧ okTo 8 (spP H ps zs) 8 := by
  by_cases ht : tabV H = 0
  · have e : spP H ps zs = strL := if_pos ht
    rw [e]
    exact ⟨rfl, okTo_str⟩
  · unfold spC at h
    rw [if_neg ht] at h
    cases hn : noB H ps
    · obtain ⟨q, hq, e1⟩ := tpg_to s ht hn
      have e : spP H ps zs = (eight zs q).map entP := by
        unfold spP
        rw [if_neg ht, hn, e1]
        simp
      rw [e]
      have l := eight_length zs p q s.zl hq
      exact ⟨by simp [l], okTo_ent l (all_eight s.zw q)⟩
    · rw [hn] at h
      exact absurd h (by decide)
theorem sp_goes {rs : List (Int × Int)} {x k : Int} (ho : okTo 8 rs 8) (hk : kindB k = true) (h : wkC rs x k = 0) : goesB rs x k = true ∧ wkV rs x k = goesTo rs x ∧ 0 ≤ wkV rs x k ∧ wkV rs x k ≤ 63 := by
  have hg : goesB rs x k = true := by
    cases hg : goesB rs x k
    · unfold wkC at h
      rw [hk, hg] at h
      exact absurd h (by rcases kind_cases hk with rfl | rfl | rfl <;> decide)
    · rfl
  have e : wkV rs x k = goesTo rs x := by simp [wkV, hk, hg]
  obtain ⟨h0, h1, h2, h3⟩ := goes_in ho hg
  refine ⟨hg, e, ?_, ?_⟩ <;> rw [e] <;> unfold goesTo <;> omega
theorem goesV_no {rs : List (Int × Int)} {x k : Int} (hk : kindB k = true) (h : ¬ wkC rs x k = 0) : goesV rs x k = -1 ∧ wkC rs x k = kindV k := by
  cases hg : goesB rs x k
  · simp [wkC, goesV, hk, hg]
  · exact absurd (by simp [wkC, hk, hg]) h
theorem goesV_yes {rs : List (Int × Int)} {x k : Int} (hk : kindB k = true) (h : wkC rs x k = 0) : goesV rs x k = wkV rs x k := by
  cases hg : goesB rs x k
  · unfold wkC at h
    rw [hk, hg] at h
    exact absurd h (by rcases kind_cases hk with rfl | rfl | rfl <;> decide)
  · simp [wkV, goesV, hk, hg]
end Go.Proofs.Ytgjpfmcokcjegaa
