/- Texts of this seat, joined. -/
import Derived.Test.YtdhdfopkcpkbeaaGreatDoorQ01
import Derived.Test.YtdhdfopkcpkbeaaGreatDoorQ02
import Derived.Test.YtdhdfopkcpkbeaaGreatDoorQ06
import Derived.Test.YtdhdfopkcpkbeaaGreatDoorQ22
namespace Go.Proofs.YtdhdfopkcpkbeaaGreatDoor
open Go.RowKit

theorem field_value (x y : Value) (w : World) : (Instr.field 45 (.agg #[x, y]) 1).run Tryz.prog w = .ok y w := by kernel_rfl
theorem impl_wrap (n : Int) (w : World) : Calls Tryz.prog 12 #[.int .i64 n] w fun e w' => e = .returned (.int .i64 (wd n)) ∧ w' = w := by
  go_enter Tryz.func12, Tryz.ntmps12
  go_wp2
  go_ret
  exact ⟨rfl, rfl⟩
end Go.Proofs.YtdhdfopkcpkbeaaGreatDoor
namespace Go.Proofs.YtdhdfopkcpkbeaaGreatDoor
open Go.RowKit

/-- The code of an instruction's fault. -/
def insC (op d a imm : Int) : Int :=
  if 1 ≤ op ∧ op ≤ 26 ∧ 0 ≤ d ∧ d ≤ 15 ∧ 0 ≤ a ∧ a ≤ 15 ∧ 0 ≤ imm ∧ imm ≤ 65535 then
    if (op ≠ 13 ∧ op ≠ 19 ∧ op ≠ 21 ∨ a = 0) ∧ (op ≠ 22 ∨ d = 0) ∧ (op < 23 ∨ d = 0 ∧ a = 0 ∧ imm = 0) ∧ (11 < op ∨ imm ≤ 15) ∧ (op ≠ 21 ∧ op ≠ 22 ∨ imm ≤ 10) then 0 else 1
  else 3
theorem insC_3 {op d a imm : Int} (h : ¬ (1 ≤ op ∧ op ≤ 26 ∧ 0 ≤ d ∧ d ≤ 15 ∧ 0 ≤ a ∧ a ≤ 15 ∧ 0 ≤ imm ∧ imm ≤ 65535)) : insC op d a imm = 3 := if_neg h
theorem insC_zero {op d a imm : Int} (h : 1 ≤ op ∧ op ≤ 26 ∧ 0 ≤ d ∧ d ≤ 15 ∧ 0 ≤ a ∧ a ≤ 15 ∧ 0 ≤ imm ∧ imm ≤ 65535) :
    insC op d a imm = 0 ↔ (op ≠ 13 ∧ op ≠ 19 ∧ op ≠ 21 ∨ a = 0) ∧ (op ≠ 22 ∨ d = 0) ∧ (op < 23 ∨ d = 0 ∧ a = 0 ∧ imm = 0) ∧ (11 < op ∨ imm ≤ 15) ∧ (op ≠ 21 ∧ op ≠ 22 ∨ imm ≤ 10) := by
  rw [insC, if_pos h]
  split
  · rename_i g; exact ⟨fun _ => g, fun _ => rfl⟩
  · rename_i g; exact ⟨fun e => by omega, fun e => absurd e g⟩

/-- The ops in classes, as the tests ask them. -/
theorem op_class {op : Int} (h : 1 ≤ op ∧ op ≤ 26) : op = 13 ∨ op = 19 ∨ op = 21 ∨ op = 22 ∨ op = 23 ∨ op = 24 ∨ op = 25 ∨ op = 26 ∨
    ((op == 13) = false ∧ (op == 19) = false ∧ (op == 21) = false ∧ (op == 22) = false ∧ (op == 23) = false ∧ (op == 24) = false ∧ (op == 25) = false ∧ (op == 26) = false ∧ Hid (op ≠ 13 ∧ op ≠ 19 ∧ op ≠ 21 ∧ op < 22 ∧ 1 ≤ op)) := by
  simp only [beq_eq_false_iff_ne, Hid]
  omega

end Go.Proofs.YtdhdfopkcpkbeaaGreatDoor
namespace Go.Proofs.YtdhdfopkcpkbeaaGreatDoor
open Go.RowKit
set_option linter.unusedVariables false

def isW (z : Int) : Bool := decide (0 ≤ z) && decide (z ≤ 4294967295)
def formB (n : Nat) : Bool := decide (n % 8 = 0 ∧ 8 ≤ n ∧ n ≤ 192)
def memV (zs : List Int) : Int := if formB zs.length then (if zs.all isW then 0 else 3) else 1

theorem isW_wd (z : Int) : (wd z == z) = isW z := by
  have h := wd_in z
  rw [Bool.eq_iff_iff]
  simp only [isW, beq_iff_eq, Bool.and_eq_true, decide_eq_true_eq]
  constructor
  · intro e
    rw [e] at h
    omega
  · intro e
    unfold wd
    omega
theorem all_take (zs : List Int) (j : Nat) (h : j < zs.length) : (zs.take (j + 1)).all isW = ((zs.take j).all isW && isW (zs.getD j 0)) := by
  rw [List.take_succ_eq_append_getElem h, List.all_append, List.getD, List.getElem?_eq_getElem h]
  simp
theorem all_not (zs : List Int) (j : Nat) (h : j < zs.length) (hz : isW (zs.getD j 0) = false) : zs.all isW = false := by
  rw [List.getD, List.getElem?_eq_getElem h] at hz
  rw [List.all_eq_false]
  exact ⟨_, List.getElem_mem h, by simpa using hz⟩

theorem impl_isWord (z : Int) (w : World) : Calls Tryz.prog 38 #[.int .i64 z] w fun e w' => e = .returned (.bool (isW z)) ∧ w' = w := by
  rw [← isW_wd]
  go_enter Tryz.func38, Tryz.ntmps38
  go_wp2_with (go_at_call 12; refine (impl_wrap _ _).mono ?_; rintro e x ⟨rfl, rfl⟩)
  go_ret
  exact ⟨rfl, rfl⟩

theorem ret_i {a b : Int} (h : a = b) : Ending.returned (.int .i64 a) = .returned (.int .i64 b) := by rw [h]
theorem memV_form {zs : List Int} {n : Nat} (hn : zs.length = n) (h : formB n = false) : memV zs = 1 := by simp [memV, hn, h]
theorem memV_not {zs : List Int} {n : Nat} (hn : zs.length = n) (h : formB n = true) (ha : zs.all isW = false) : memV zs = 3 := by simp [memV, hn, h, ha]
theorem memV_ok {zs : List Int} {n : Nat} (hn : zs.length = n) (h : formB n = true) (ha : zs.all isW = true) : memV zs = 0 := by simp [memV, hn, h, ha]

set_option maxHeartbeats 1000000 in
theorem impl_memFault (v : Value) (zs : List Int) (b : Nat) (w : World) (h : Nums w b v zs) :
    Calls Tryz.prog 14 #[v] w fun e w' => e = .returned (.int .i64 (memV zs)) ∧ w' = w := by
  obtain ⟨a, cap, rfl, l1, l2, hg⟩ := h.shape
  have HZ : Hid (Nums w b _ zs) := h
  clear h
  obtain ⟨n, hn⟩ : ∃ n, zs.length = n := ⟨_, rfl⟩
  rw [hn] at HZ l1 hg ⊢
  have HN : Hid (zs.length = n) := hn
  have hl : (n : Int) ≤ 9223372036854775807 := by unfold maxLen at l2; omega
  clear hn l1 l2
  by_cases h2 : 1 ≤ n
  case neg =>
    have hf : Hid (formB n = false) := by show _ = _; simp [formB]; omega
    obtain rfl : n = 0 := by omega
    clear h2
    go_enter Tryz.func14, Tryz.ntmps14
    go_wp2_with fail
    go_ret
    exact ⟨ret_i (memV_form HN.out hf.out).symm, rfl⟩
  have hI2 : ¬ (n : Int) = 0 := by omega
  by_cases h3 : n ≤ 192
  case neg =>
    have hf : Hid (formB n = false) := by show _ = _; simp [formB, h3]
    have hI : (192 : Int) < (n : Int) := by omega
    clear h2 h3
    go_enter Tryz.func14, Tryz.ntmps14
    go_wp2_with fail
    go_ret
    exact ⟨ret_i (memV_form HN.out hf.out).symm, rfl⟩
  have hI : ¬ (192 : Int) < (n : Int) := by omega
  by_cases h1 : n % 8 = 0
  case neg =>
    have hf : Hid (formB n = false) := by show _ = _; simp [formB, h1]
    have hI8 : (((n : Int) % 8) != 0) = true := by simp; omega
    clear h1 h2 h3
    go_enter Tryz.func14, Tryz.ntmps14
    go_wp2_with fail
    go_ret
    exact ⟨ret_i (memV_form HN.out hf.out).symm, rfl⟩
  have hI1 : (n : Int) % 8 = 0 := by omega
  have hf : Hid (formB n = true) := by show _ = _; simp [formB, h1, h3]; omega
  obtain ⟨g, rfl⟩ := hg (by omega)
  clear h1 h2 h3 hg
  go_enter Tryz.func14, Tryz.ntmps14
  go_wp2_with fail
  go_loop [4, 21] (fun _ i => ∃ j : Nat, j ≤ n ∧ i = .int .i64 j ∧ Hid ((zs.take j).all isW = true)) (fun _ i => n - (intOf i).toNat)
  case atStart => exact ⟨0, Nat.zero_le _, rfl, rfl⟩
  case round =>
    obtain ⟨j, hj, rfl, hA⟩ := hrel
    by_cases hlt : j < n
    · have c1 := HZ.out.cell HN.out.symm j hlt
      have hJ : (j : Int) < (n : Int) := by omega
      have HL : Hid (j < zs.length) := by show _ < _; have := HN.out; omega
      obtain ⟨z, hz⟩ : ∃ z, zs.getD j 0 = z := ⟨_, rfl⟩
      rw [hz] at c1
      have HZZ : Hid (zs.getD j 0 = z) := hz
      clear hz hlt
      cases hw : isW z
      · have HW : Hid (isW z = false) := hw
        go_wp2_with (go_at_call 38; refine (impl_isWord _ _).mono ?_; rintro e x ⟨rfl, rfl⟩; rw [hw])
        go_ret
        exact ⟨ret_i (memV_not HN.out hf.out (all_not zs j HL.out (by rw [HZZ.out]; exact HW.out))).symm, rfl⟩
      · have HW : Hid (isW z = true) := hw
        go_wp2_with (go_at_call 38; refine (impl_isWord _ _).mono ?_; rintro e x ⟨rfl, rfl⟩; rw [hw])
        go_round
        case rel => exact ⟨j + 1, by have := HL.out; have := HN.out; omega, by go_num, by show _ = _; rw [all_take zs j HL.out, hA.out, HZZ.out, HW.out]; rfl⟩
        case measure => have := HL.out; have := HN.out; simp [intOf]; omega
    · have hJ : ¬ (j : Int) < (n : Int) := by omega
      obtain rfl : j = n := by omega
      go_wp2_with fail
      go_ret
      exact ⟨ret_i (memV_ok HN.out hf.out (by have := hA.out; rwa [List.take_of_length_le (Nat.le_of_eq HN.out)] at this)).symm, rfl⟩
end Go.Proofs.YtdhdfopkcpkbeaaGreatDoor
namespace Go.Proofs.YtdhdfopkcpkbeaaGreatDoor
open Go.RowKit
set_option linter.unusedVariables false

/-- The fault of one entry. -/
def pgC (top a b : Int) : Int := if -1 ≤ a ∧ a ≤ top - 1 ∧ 0 ≤ b ∧ b ≤ 7 then (if a = -1 ∧ b ≠ 0 then 1 else 0) else 3
theorem pgC_range {top a b : Int} (h : ¬ (-1 ≤ a ∧ a ≤ top - 1 ∧ 0 ≤ b ∧ b ≤ 7)) : pgC top a b = 3 := if_neg h
theorem pgC_form {top a b : Int} (h : -1 ≤ a ∧ a ≤ top - 1 ∧ 0 ≤ b ∧ b ≤ 7) (k : a = -1 ∧ b ≠ 0) : pgC top a b = 1 := by rw [pgC, if_pos h, if_pos k]
theorem pgC_ok {top a b : Int} (h : -1 ≤ a ∧ a ≤ top - 1 ∧ 0 ≤ b ∧ b ≤ 7) (k : ¬ (a = -1 ∧ b ≠ 0)) : pgC top a b = 0 := by rw [pgC, if_pos h, if_neg k]
theorem pgC_zero {top a b : Int} (h : pgC top a b = 0) : -1 ≤ a ∧ a ≤ top - 1 ∧ 0 ≤ b ∧ b ≤ 7 ∧ (a = -1 → b = 0) := by
  unfold pgC at h
  split at h
  · split at h <;> omega
  · omega
/-- The first fault of a list's entries. -/
def firstC (top : Int) : List (Int × Int) → Int
  | [] => 0
  | r :: t => if pgC top r.1 r.2 = 0 then firstC top t else pgC top r.1 r.2
def okTo (top : Int) (rs : List (Int × Int)) (j : Nat) : Prop := ∀ i, i < j → pgC top (rs.getD i (0, 0)).1 (rs.getD i (0, 0)).2 = 0
theorem okTo_succ {top : Int} {rs : List (Int × Int)} {j : Nat} (h : okTo top rs j) (k : pgC top (rs.getD j (0, 0)).1 (rs.getD j (0, 0)).2 = 0) : okTo top rs (j + 1) := by
  intro i hi
  by_cases e : i = j
  · subst e; exact k
  · exact h i (by omega)
theorem firstC_ok {top : Int} {rs : List (Int × Int)} (h : okTo top rs rs.length) : firstC top rs = 0 := by
  induction rs with
  | nil => rfl
  | cons r t ih =>
    have h0 := h 0 (by simp)
    have ht : okTo top t t.length := fun i hi => by simpa using h (i + 1) (by simpa using hi)
    rw [firstC, if_pos (by simpa using h0), ih ht]
theorem firstC_at {top : Int} {rs : List (Int × Int)} {j : Nat} (hj : j < rs.length) (h : okTo top rs j) (k : pgC top (rs.getD j (0, 0)).1 (rs.getD j (0, 0)).2 ≠ 0) : firstC top rs = pgC top (rs.getD j (0, 0)).1 (rs.getD j (0, 0)).2 := by
  induction rs generalizing j with
  | nil => simp at hj
  | cons r t ih =>
    cases j with
    | zero =>
      have k' : ¬ pgC top r.1 r.2 = 0 := by simpa using k
      rw [firstC, if_neg k']
      simp
    | succ j =>
      have h0 : pgC top r.1 r.2 = 0 := by simpa using h 0 (by omega)
      rw [firstC, if_pos h0, ih (j := j) (by simpa using hj) (fun i hi => by simpa using h (i + 1) (by omega)) (by simpa using k)]
      simp
theorem firstC_zero {top : Int} {rs : List (Int × Int)} (h : firstC top rs = 0) : okTo top rs rs.length := by
  induction rs with
  | nil => intro i hi; simp at hi
  | cons r t ih =>
    rw [firstC] at h
    by_cases k : pgC top r.1 r.2 = 0
    · rw [if_pos k] at h
      intro i hi
      cases i with
      | zero => simpa using k
      | succ i => simpa using ih h i (by simpa using hi)
    · rw [if_neg k] at h
      exact absurd h k

/-- What PagesFault answers. -/
def pgsV (rs : List (Int × Int)) (top : Int) : Int := if 1 ≤ top ∧ top ≤ 24 then (if rs.length = 8 then firstC top rs else 1) else 3
theorem pgsV_zero {rs : List (Int × Int)} {top : Int} (h : pgsV rs top = 0) : 1 ≤ top ∧ top ≤ 24 ∧ rs.length = 8 ∧ okTo top rs 8 := by
  unfold pgsV at h
  split at h
  · next ht =>
    split at h
    · next hl => exact ⟨ht.1, ht.2, hl, by have := firstC_zero h; rwa [hl] at this⟩
    · omega
  · omega
theorem pgsV_ok {rs : List (Int × Int)} {top : Int} (h1 : 1 ≤ top) (h2 : top ≤ 24) (hl : rs.length = 8) (h : okTo top rs 8) : pgsV rs top = 0 := by
  rw [pgsV, if_pos ⟨h1, h2⟩, if_pos hl, firstC_ok (by rwa [hl])]

set_option maxHeartbeats 1000000 in
theorem impl_pageFault (a b top : Int) (w : World) : Calls Tryz.prog 46 #[.agg #[.int .i64 a, .int .i64 b], .int .i64 top] w fun e w' => e = .returned (.int .i64 (pgC top a b)) ∧ Below w.heap.size w w' := by
  by_cases h1 : a < -1
  case pos =>
    rw [pgC_range (by omega)]
    go_enter Tryz.func46, Tryz.ntmps46
    go_wp2_with fail
    go_ret
    exact ⟨rfl, al (Below.refl _ _) _⟩
  by_cases h2 : top ≤ a
  case pos =>
    rw [pgC_range (by omega)]
    go_enter Tryz.func46, Tryz.ntmps46
    go_wp2_with fail
    go_ret
    exact ⟨rfl, al (Below.refl _ _) _⟩
  by_cases h3 : b < 0
  case pos =>
    rw [pgC_range (by omega)]
    go_enter Tryz.func46, Tryz.ntmps46
    go_wp2_with fail
    go_ret
    exact ⟨rfl, al (Below.refl _ _) _⟩
  by_cases h4 : 7 < b
  case pos =>
    rw [pgC_range (by omega)]
    go_enter Tryz.func46, Tryz.ntmps46
    go_wp2_with fail
    go_ret
    exact ⟨rfl, al (Below.refl _ _) _⟩
  by_cases h5 : a = -1
  case neg =>
    rw [pgC_ok (by omega) (by omega)]
    have g5 : (a == -1) = false := beq_eq_false_iff_ne.2 h5
    clear h5
    go_enter Tryz.func46, Tryz.ntmps46
    go_wp2_with fail
    go_ret
    exact ⟨rfl, al (Below.refl _ _) _⟩
  by_cases h6 : b = 0
  case neg =>
    rw [pgC_form (by omega) (by omega)]
    have g6 : (b != 0) = true := by simpa using h6
    subst h5
    clear h6
    go_enter Tryz.func46, Tryz.ntmps46
    go_wp2_with fail
    go_ret
    exact ⟨rfl, al (Below.refl _ _) _⟩
  rw [pgC_ok (by omega) (by omega)]
  subst h5 h6
  clear h1 h3 h4
  go_enter Tryz.func46, Tryz.ntmps46
  go_wp2_with fail
  go_ret
  exact ⟨rfl, al (Below.refl _ _) _⟩

/-- A list of another length: its entries are not asked. -/
theorem impl_faultBad (a : Option Addr) (n cap : Nat) (top : Int) (w : World) (hn : n ≠ 8) (hm : n ≤ 1048576) (h1 : 1 ≤ top) (h2 : top ≤ 24) :
    Calls Tryz.prog 24 #[.slice a n cap, .int .i64 top] w fun e w' => e = .returned (.int .i64 1) ∧ w' = w := by
  have g : ((n : Int) != 8) = true := by simp; omega
  have hi : (n : Int) ≤ 1048576 := by omega
  have k1 : ¬ top < 1 := by omega
  have k2 : ¬ 24 < top := by omega
  go_enter Tryz.func24, Tryz.ntmps24
  go_wp2_with fail
  go_ret
  exact ⟨rfl, rfl⟩

set_option maxHeartbeats 2000000 in
theorem impl_fault (v : Value) (rs : List (Int × Int)) (top : Int) (b : Nat) (w : World) (h : Prs 96 w b v rs) (hm : rs.length ≤ 1048576) :
    Calls Tryz.prog 24 #[v, .int .i64 top] w fun e w' => e = .returned (.int .i64 (pgsV rs top)) ∧ Below w.heap.size w w' := by
  obtain ⟨a, cap, rfl, l1, l2, hg⟩ := h.shape
  by_cases h1 : top < 1
  case pos =>
    rw [pgsV, if_neg (by omega)]
    clear h
    go_enter Tryz.func24, Tryz.ntmps24
    go_wp2_with fail
    go_ret
    exact ⟨rfl, Below.refl _ _⟩
  by_cases h2 : 24 < top
  case pos =>
    rw [pgsV, if_neg (by omega)]
    clear h
    go_enter Tryz.func24, Tryz.ntmps24
    go_wp2_with fail
    go_ret
    exact ⟨rfl, Below.refl _ _⟩
  by_cases hl : rs.length = 8
  case neg =>
    rw [pgsV, if_pos (by omega), if_neg hl]
    refine (impl_faultBad _ _ _ _ _ hl hm (by omega) (by omega)).mono ?_
    rintro e w' ⟨rfl, rfl⟩
    exact ⟨rfl, Below.refl _ _⟩
  rw [pgsV, if_pos (by omega), if_pos hl]
  rw [hl] at hg ⊢
  have HZ : Hid (Prs 96 w b (.slice a 8 cap) rs) := by show Prs 96 _ _ _ _; rw [← hl]; exact h
  have HN : Hid (rs.length = 8) := hl
  obtain ⟨g, rfl⟩ := hg (by omega)
  clear h hl l1 l2 hg hm
  go_enter Tryz.func24, Tryz.ntmps24
  go_wp2_with fail
  go_loopw [6, 7, 19] (fun _ _ c wr => ∃ j : Nat, j ≤ 8 ∧ c = .int .i64 j ∧ okTo top rs j ∧ Below w.heap.size w wr) (fun _ _ c _ => 8 - (intOf c).toNat)
  case atStart => exact ⟨0, Nat.zero_le _, rfl, fun i hi => by omega, Below.refl _ _⟩
  case round =>
    obtain ⟨j, hj, rfl, hA, hB⟩ := hrel
    have HB : Hid (Below _ _ _) := hB
    have HA : Hid (okTo top rs j) := hA
    by_cases hlt : j < 8
    · have c1 := cell_keep hB (HZ.out.cell HN.out.symm j hlt).1
      have c2 := cell_keep hB (HZ.out.cell HN.out.symm j hlt).2
      have hI : (j : Int) < 8 := by omega
      have HL : Hid (j < 8) := hlt
      have hF := fun w => impl_pageFault (rs.getD j (0, 0)).1 (rs.getD j (0, 0)).2 top w
      have HS : Hid (pgC top (rs.getD j (0, 0)).1 (rs.getD j (0, 0)).2 = 0 → okTo top rs (j + 1)) := okTo_succ hA
      have HT : Hid (pgC top (rs.getD j (0, 0)).1 (rs.getD j (0, 0)).2 ≠ 0 → firstC top rs = pgC top (rs.getD j (0, 0)).1 (rs.getD j (0, 0)).2) := firstC_at (by have := HN.out; omega) hA
      generalize (rs.getD j (0, 0)).1 = p at *
      generalize (rs.getD j (0, 0)).2 = q at *
      generalize pgC top p q = c at *
      clear hB hlt hA
      by_cases hc : c = 0
      · have HS2 : Hid (okTo top rs (j + 1)) := HS.out hc
        subst hc
        clear HS HT
        go_wp2_with fail
        refine (hF _).mono ?_
        rintro e w5 ⟨rfl, b5⟩
        have B5 : Hid (Below w.heap.size w w5) := by first | exact on (al HB.out _) b5 | exact on HB.out b5
        clear b5 hF
        go_wp2_with fail
        go_roundw
        case rel => exact ⟨j + 1, by have := HL.out; omega, by go_num, HS2.out, B5.out⟩
        case measure => have := HL.out; simp [intOf]; omega
      · have hc2 : (c != 0) = true := by simpa using hc
        have HT2 : Hid (firstC top rs = c) := HT.out hc
        clear hc HT HS
        go_wp2_with fail
        refine (hF _).mono ?_
        rintro e w5 ⟨rfl, b5⟩
        have B5 : Hid (Below w.heap.size w w5) := by first | exact on (al HB.out _) b5 | exact on HB.out b5
        clear b5 hF
        go_wp2_with fail
        go_ret
        exact ⟨by rw [HT2.out]; rfl, B5.out⟩
    · have hI : ¬ (j : Int) < 8 := by omega
      obtain rfl : j = 8 := by omega
      have HE : Hid (firstC top rs = 0) := firstC_ok (by rw [HN.out]; exact hA)
      clear hB hA
      go_wp2_with fail
      go_ret
      exact ⟨by rw [HE.out]; rfl, HB.out⟩
end Go.Proofs.YtdhdfopkcpkbeaaGreatDoor
