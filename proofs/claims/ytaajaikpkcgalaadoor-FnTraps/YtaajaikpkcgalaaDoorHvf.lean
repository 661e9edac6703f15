/- Machines as values: what is set, trapped and gone back from has no fault, and what is got then. -/
import Derived.Test.YtaajaikpkcgalaaDoorHob
import Derived.Test.YtaajaikpkcgalaaDoorHse
namespace Go.Proofs.YtaajaikpkcgalaaDoor
open Go.RowKit
set_option linter.unusedVariables false

theorem all_set {zs : List Int} {n : Nat} {u : Int} (h : zs.all isW = true) (hu : isW u = true) : (zs.set n u).all isW = true := by
  rw [List.all_eq_true] at h ⊢
  intro x hx
  rcases List.mem_or_eq_of_mem_set hx with h1 | h1
  · exact h x h1
  · rw [h1]; exact hu
theorem gt_isW {zs : List Int} (h : zs.all isW = true) (n : Nat) : isW (gt zs n) = true := isW_iff.2 (all_at h n)
theorem stand_parts {zs : List Int} : standC zs = true ↔ gt zs 0 ≤ 3 ∧ gt zs 7 ≤ 7 ∧ gt zs 10 ≤ 8 ∧ gt zs 6 = 0 ∧ gt zs 8 = 0 := by
  unfold standC
  simp only [Bool.and_eq_true, decide_eq_true_eq]
  exact ⟨fun h => ⟨h.1.1.1.1, h.1.1.1.2, h.1.1.2, h.1.2, h.2⟩, fun h => ⟨⟨⟨⟨h.1, h.2.1⟩, h.2.2.1⟩, h.2.2.2.1⟩, h.2.2.2.2⟩⟩
theorem stand_word (k x : Int) (h0 : 0 ≤ x) (h1 : x ≤ 4294967295) : isW (standV k x) = true := by
  rw [isW_iff]
  unfold standV
  repeat' split
  all_goals omega
theorem wd_word (x : Int) : 0 ≤ wd x ∧ wd x ≤ 4294967295 := by unfold wd; omega

theorem setV_hok {H : Ht} (K : Hok H) (k x : Int) (h0 : 0 ≤ k) (h10 : k ≤ 10) : Hok (setV H k x) := by
  obtain ⟨n, rfl⟩ : ∃ n : Nat, k = n := ⟨k.toNat, by omega⟩
  have hw := wd_word x
  have hl : n < H.csr.length := by have := K.c11; omega
  refine ⟨K.r16, by simp [setV, K.c11], K.r0, K.rw, K.pw, all_set K.cw (stand_word _ _ hw.1 hw.2), K.iw, K.ow, K.i40, K.o40, K.d0, K.d9, ?_⟩
  have s := stand_parts.1 K.st
  have g : ∀ j, gt (setV H (n : Int) x).csr j = if j = n then standV n (wd x) else gt H.csr j := fun j => gt_set _ _ _ _ hl
  rw [stand_parts, g, g, g, g, g]
  generalize wd x = u at *
  refine ⟨?_, ?_, ?_, ?_, ?_⟩
  · split
    · rename_i e; subst e; simp [standV]; omega
    · exact s.1
  · split
    · rename_i e; subst e; simp [standV]; omega
    · exact s.2.1
  · split
    · rename_i e; subst e; simp only [standV]; simp; split <;> omega
    · exact s.2.2.1
  · split
    · rename_i e; subst e; simp [standV]
    · exact s.2.2.2.1
  · split
    · rename_i e; subst e; simp [standV]
    · exact s.2.2.2.2

theorem trapV_gt {H : Ht} (hc : H.csr.length = 11) (k x : Int) (j : Nat) : gt (trapV H k x).csr j = if j = 0 then gt H.csr 0 % 2 * 2 else if j = 4 then x else if j = 3 then k else if j = 2 then H.pc else gt H.csr j := by
  show gt ((((H.csr.set 2 H.pc).set 3 k).set 4 x).set 0 _) j = _
  rw [gt_set _ _ _ _ (by simp; omega), gt_set _ _ _ _ (by simp; omega), gt_set _ _ _ _ (by simp; omega), gt_set _ _ _ _ (by omega)]
  rfl
theorem trapV_hok {H : Ht} (K : Hok H) (k x : Int) (h0 : 0 ≤ k) (h31 : k ≤ 31) (hx : isW x = true) : Hok (trapV H k x) := by
  have z := all_at K.cw 0
  have g := trapV_gt K.c11 k x
  have s := stand_parts.1 K.st
  refine ⟨K.r16, by simp [trapV, K.c11], K.r0, K.rw, gt_isW K.cw 1, all_set (all_set (all_set (all_set K.cw K.pw) (isW_iff.2 (by omega))) hx) (isW_iff.2 ?_), K.iw, K.ow, K.i40, K.o40, K.d0, K.d9, ?_⟩
  · show 0 ≤ gt H.csr 0 % 2 * 2 ∧ _
    omega
  · rw [stand_parts, g, g, g, g, g]
    simp
    refine ⟨by omega, s.2.1, s.2.2.1, s.2.2.2.1, s.2.2.2.2⟩
theorem backV_gt {H : Ht} (hc : H.csr.length = 11) (j : Nat) : gt (backV H).csr j = if j = 0 then 2 + gt H.csr 0 / 2 else gt H.csr j := by
  show gt (H.csr.set 0 _) j = _
  rw [gt_set _ _ _ _ (by omega)]
  rfl
theorem backV_hok {H : Ht} (K : Hok H) : Hok (backV H) := by
  have z := all_at K.cw 0
  have g := backV_gt K.c11
  have s := stand_parts.1 K.st
  refine ⟨K.r16, by simp [backV, K.c11], K.r0, K.rw, gt_isW K.cw 2, all_set K.cw (isW_iff.2 ?_), K.iw, K.ow, K.i40, K.o40, K.d0, K.d9, ?_⟩
  · have := s.1
    show 0 ≤ 2 + gt H.csr 0 / 2 ∧ 2 + gt H.csr 0 / 2 ≤ 4294967295
    have z0 : 0 ≤ gt H.csr 0 := z.1
    omega
  · rw [stand_parts, g, g, g, g, g]
    simp
    have z0 : 0 ≤ gt H.csr 0 := z.1
    refine ⟨by omega, s.2.1, s.2.2.1, s.2.2.2.1, s.2.2.2.2⟩
/-- What a trap and the way back leave. -/
theorem trap_back {H : Ht} (K : Hok H) (k x : Int) :
    (trapV H k x).pc = gt H.csr 1 ∧ dueV (trapV H k x) = -1 ∧ (backV (trapV H k x)).pc = H.pc ∧ gt (backV (trapV H k x)).csr 0 = 2 + gt H.csr 0 % 2 ∧ (backV (trapV H k x)).regs = H.regs ∧ (backV (trapV H k x)).done = H.done ∧
      getV (trapV H k x) 3 = k ∧ getV (trapV H k x) 2 = H.pc ∧ (trapV H k x).waiting = false := by
  have g := trapV_gt K.c11 k x
  refine ⟨rfl, ?_, ?_, ?_, rfl, rfl, ?_, ?_, rfl⟩
  · unfold dueV
    refine if_pos (.inl ?_)
    show gt (trapV H k x).csr 0 % 2 = 0
    rw [g]
    simp
  · show gt (trapV H k x).csr 2 = H.pc
    rw [g]
    rfl
  · rw [backV_gt (by simp [trapV, K.c11]), g]
    simp
  · show gt (trapV H k x).csr 3 = k
    rw [g]
    rfl
  · show gt (trapV H k x).csr 2 = H.pc
    rw [g]
    rfl
/-- What is set is got, and no other number turns. -/
theorem set_other {H : Ht} (K : Hok H) (k x : Int) (h0 : 0 ≤ k) (h10 : k ≤ 10) (i : Nat) (hi : i < 11) (hne : (i : Int) ≠ k) (h6 : i ≠ 6) : getV (setV H k x) i = getV H i := by
  obtain ⟨n, rfl⟩ : ∃ n : Nat, k = n := ⟨k.toNat, by omega⟩
  have e6 : ¬ (i : Int) = 6 := by omega
  simp only [getV, if_neg e6]
  by_cases e8 : (i : Int) = 8
  · rw [if_pos e8, if_pos e8]
    rfl
  · rw [if_neg e8, if_neg e8]
    show gt (H.csr.set n _) i = gt H.csr i
    rw [gt_set _ _ _ _ (by have := K.c11; omega), if_neg (by omega)]
theorem set_again {H : Ht} (K : Hok H) (k x : Int) (h0 : 0 ≤ k) (h10 : k ≤ 10) : getV (setV (setV H k x) k x) k = getV (setV H k x) k := by
  obtain ⟨n, rfl⟩ : ∃ n : Nat, k = n := ⟨k.toNat, by omega⟩
  have hl : n < H.csr.length := by have := K.c11; omega
  have hl2 : n < (setV H (n : Int) x).csr.length := by simp [setV, hl]
  have g1 : ∀ j, gt (setV H (n : Int) x).csr j = if j = n then standV n (wd x) else gt H.csr j := fun j => gt_set _ _ _ _ hl
  have g2 : ∀ j, gt (setV (setV H (n : Int) x) (n : Int) x).csr j = if j = n then standV n (wd x) else gt (setV H (n : Int) x).csr j := fun j => gt_set _ _ _ _ hl2
  unfold getV
  split
  · unfold pendV
    have e9 : (setV (setV H (n : Int) x) (n : Int) x).csr.getD 9 0 = (setV H (n : Int) x).csr.getD 9 0 := by
      show gt _ 9 = gt _ 9
      rw [g2, if_neg (by omega)]
    have er : (setV (setV H (n : Int) x) (n : Int) x).rung = (setV H (n : Int) x).rung := by
      show ((H.rung && _) && _) = (H.rung && _)
      rw [Bool.and_assoc, Bool.and_self]
    rw [e9, er]
    rfl
  · split
    · rfl
    · show gt _ n = gt _ n
      rw [g2, if_pos rfl, g1, if_pos rfl]
theorem set_scratch {H : Ht} (K : Hok H) (x : Int) : getV (setV H 5 x) 5 = wd x := by
  show gt (H.csr.set 5 _) 5 = wd x
  rw [gt_set _ _ _ _ (by have := K.c11; omega), if_pos rfl]
  simp [standV]
theorem set_time {H : Ht} (x : Int) : getV (setV H 8 x) 8 = H.done := rfl
end Go.Proofs.YtaajaikpkcgalaaDoor
