/- A program's machine: what is pending. -/
import Derived.Test.YtaajaikpkcgalaaDoorHha
import Derived.BigQuiet
import Derived.Deep.QuietTactic
namespace Go.Proofs.YtaajaikpkcgalaaDoor
open Go.RowKit
set_option linter.unusedVariables false

theorem pend_eq (H : Ht) (a b c : Int) (ha : (if gt H.csr 9 ≠ 0 ∧ gt H.csr 9 ≤ H.done then (1 : Int) else 0) = a) (hb : (if H.rung then (2 : Int) else 0) = b) (hc : (if 0 < H.inn.length then (4 : Int) else 0) = c) : a + b + c = pendV H := by
  subst ha hb hc
  rfl
set_option maxRecDepth 20000 in
set_option maxHeartbeats 4000000 in
theorem i_pending (m : Nat) (i o : Value) (H : Ht) (b : Nat) (w : World) (hv : Vb w m (mca H i o) 56) (hi : Nums w b i H.inn) :
    Calls Tryd.prog 50 #[.pointer (some ⟨m, 0, none⟩)] w fun e w' => e = .returned (.int .i64 (pendV H)) ∧ w' = w := by
  obtain ⟨a2, k2, rfl, _⟩ := hi.shape
  have hl : (H.inn.length : Int) ≤ 9223372036854775807 := by have := hi.lens; unfold maxLen at this; omega
  obtain ⟨z9, h9⟩ : ∃ z, gt H.csr 9 = z := ⟨_, rfl⟩
  obtain ⟨d, hd⟩ : ∃ z, H.done = z := ⟨_, rfl⟩
  obtain ⟨n2, hn2⟩ : ∃ z, H.inn.length = z := ⟨_, rfl⟩
  have Z9 : Hid (gt H.csr 9 = z9 ∧ H.done = d ∧ H.inn.length = n2) := ⟨h9, hd, hn2⟩
  have c9 : w.cell? ⟨m, 26, none⟩ = some (.int .i64 z9) := by rw [← h9]; exact hv.cell 26 rfl
  have cd : w.cell? ⟨m, 31, none⟩ = some (.int .i64 d) := by rw [← hd]; exact hv.cell 31 rfl
  have cr : w.cell? ⟨m, 30, none⟩ = some (.bool H.rung) := hv.cell 30 rfl
  have ci : w.cell? ⟨m, 32, none⟩ = some (.slice a2 n2 k2) := by rw [← hn2]; exact hv.cell 32 rfl
  rw [hn2] at hl
  clear hv hi
  clear h9 hd hn2
  by_cases h0 : z9 = 0
  · have PA : Hid ((if gt H.csr 9 ≠ 0 ∧ gt H.csr 9 ≤ H.done then (1 : Int) else 0) = 0) := by show _ = _; rw [Z9.out.1, if_neg (fun k => k.1 h0)]
    subst h0
    cases hru : H.rung
    · have PB : Hid ((if H.rung then (2 : Int) else 0) = 0) := by show _ = _; rw [hru]; rfl
      rw [hru] at cr
      by_cases hn : 0 < n2
      · have PC : Hid ((if 0 < H.inn.length then (4 : Int) else 0) = 4) := by show _ = _; rw [Z9.out.2.2, if_pos hn]
        have hI : (0 : Int) < (n2 : Int) := by omega
        go_enter Tryd.func50, Tryd.ntmps50
        go_wp2_with fail
        go_ret
        exact ⟨ret_i ((by decide : (4 : Int) = 0 + 0 + 4).trans (pend_eq H 0 0 4 PA.out PB.out PC.out)), rfl⟩
      · have PC : Hid ((if 0 < H.inn.length then (4 : Int) else 0) = 0) := by show _ = _; rw [Z9.out.2.2, if_neg hn]
        have hI : ¬ (0 : Int) < (n2 : Int) := by omega
        go_enter Tryd.func50, Tryd.ntmps50
        go_wp2_with fail
        go_ret
        exact ⟨ret_i ((by decide : (0 : Int) = 0 + 0 + 0).trans (pend_eq H 0 0 0 PA.out PB.out PC.out)), rfl⟩
    · have PB : Hid ((if H.rung then (2 : Int) else 0) = 2) := by show _ = _; rw [hru]; rfl
      rw [hru] at cr
      by_cases hn : 0 < n2
      · have PC : Hid ((if 0 < H.inn.length then (4 : Int) else 0) = 4) := by show _ = _; rw [Z9.out.2.2, if_pos hn]
        have hI : (0 : Int) < (n2 : Int) := by omega
        go_enter Tryd.func50, Tryd.ntmps50
        go_wp2_with fail
        go_ret
        exact ⟨ret_i ((by decide : (6 : Int) = 0 + 2 + 4).trans (pend_eq H 0 2 4 PA.out PB.out PC.out)), rfl⟩
      · have PC : Hid ((if 0 < H.inn.length then (4 : Int) else 0) = 0) := by show _ = _; rw [Z9.out.2.2, if_neg hn]
        have hI : ¬ (0 : Int) < (n2 : Int) := by omega
        go_enter Tryd.func50, Tryd.ntmps50
        go_wp2_with fail
        go_ret
        exact ⟨ret_i ((by decide : (2 : Int) = 0 + 2 + 0).trans (pend_eq H 0 2 0 PA.out PB.out PC.out)), rfl⟩
  have hI0 : (z9 != 0) = true := by simp [h0]
  by_cases h1 : z9 ≤ d
  · have PA : Hid ((if gt H.csr 9 ≠ 0 ∧ gt H.csr 9 ≤ H.done then (1 : Int) else 0) = 1) := by show _ = _; rw [Z9.out.1, Z9.out.2.1, if_pos ⟨h0, h1⟩]
    cases hru : H.rung
    · have PB : Hid ((if H.rung then (2 : Int) else 0) = 0) := by show _ = _; rw [hru]; rfl
      rw [hru] at cr
      by_cases hn : 0 < n2
      · have PC : Hid ((if 0 < H.inn.length then (4 : Int) else 0) = 4) := by show _ = _; rw [Z9.out.2.2, if_pos hn]
        have hI : (0 : Int) < (n2 : Int) := by omega
        go_enter Tryd.func50, Tryd.ntmps50
        go_wp2_with fail
        go_ret
        exact ⟨ret_i ((by decide : (5 : Int) = 1 + 0 + 4).trans (pend_eq H 1 0 4 PA.out PB.out PC.out)), rfl⟩
      · have PC : Hid ((if 0 < H.inn.length then (4 : Int) else 0) = 0) := by show _ = _; rw [Z9.out.2.2, if_neg hn]
        have hI : ¬ (0 : Int) < (n2 : Int) := by omega
        go_enter Tryd.func50, Tryd.ntmps50
        go_wp2_with fail
        go_ret
        exact ⟨ret_i ((by decide : (1 : Int) = 1 + 0 + 0).trans (pend_eq H 1 0 0 PA.out PB.out PC.out)), rfl⟩
    · have PB : Hid ((if H.rung then (2 : Int) else 0) = 2) := by show _ = _; rw [hru]; rfl
      rw [hru] at cr
      by_cases hn : 0 < n2
      · have PC : Hid ((if 0 < H.inn.length then (4 : Int) else 0) = 4) := by show _ = _; rw [Z9.out.2.2, if_pos hn]
        have hI : (0 : Int) < (n2 : Int) := by omega
        go_enter Tryd.func50, Tryd.ntmps50
        go_wp2_with fail
        go_ret
        exact ⟨ret_i ((by decide : (7 : Int) = 1 + 2 + 4).trans (pend_eq H 1 2 4 PA.out PB.out PC.out)), rfl⟩
      · have PC : Hid ((if 0 < H.inn.length then (4 : Int) else 0) = 0) := by show _ = _; rw [Z9.out.2.2, if_neg hn]
        have hI : ¬ (0 : Int) < (n2 : Int) := by omega
        go_enter Tryd.func50, Tryd.ntmps50
        go_wp2_with fail
        go_ret
        exact ⟨ret_i ((by decide : (3 : Int) = 1 + 2 + 0).trans (pend_eq H 1 2 0 PA.out PB.out PC.out)), rfl⟩
  · have PA : Hid ((if gt H.csr 9 ≠ 0 ∧ gt H.csr 9 ≤ H.done then (1 : Int) else 0) = 0) := by show _ = _; rw [Z9.out.1, Z9.out.2.1, if_neg (fun k => h1 k.2)]
    have hI1 : d < z9 := by omega
    cases hru : H.rung
    · have PB : Hid ((if H.rung then (2 : Int) else 0) = 0) := by show _ = _; rw [hru]; rfl
      rw [hru] at cr
      by_cases hn : 0 < n2
      · have PC : Hid ((if 0 < H.inn.length then (4 : Int) else 0) = 4) := by show _ = _; rw [Z9.out.2.2, if_pos hn]
        have hI : (0 : Int) < (n2 : Int) := by omega
        go_enter Tryd.func50, Tryd.ntmps50
        go_wp2_with fail
        go_ret
        exact ⟨ret_i ((by decide : (4 : Int) = 0 + 0 + 4).trans (pend_eq H 0 0 4 PA.out PB.out PC.out)), rfl⟩
      · have PC : Hid ((if 0 < H.inn.length then (4 : Int) else 0) = 0) := by show _ = _; rw [Z9.out.2.2, if_neg hn]
        have hI : ¬ (0 : Int) < (n2 : Int) := by omega
        go_enter Tryd.func50, Tryd.ntmps50
        go_wp2_with fail
        go_ret
        exact ⟨ret_i ((by decide : (0 : Int) = 0 + 0 + 0).trans (pend_eq H 0 0 0 PA.out PB.out PC.out)), rfl⟩
    · have PB : Hid ((if H.rung then (2 : Int) else 0) = 2) := by show _ = _; rw [hru]; rfl
      rw [hru] at cr
      by_cases hn : 0 < n2
      · have PC : Hid ((if 0 < H.inn.length then (4 : Int) else 0) = 4) := by show _ = _; rw [Z9.out.2.2, if_pos hn]
        have hI : (0 : Int) < (n2 : Int) := by omega
        go_enter Tryd.func50, Tryd.ntmps50
        go_wp2_with fail
        go_ret
        exact ⟨ret_i ((by decide : (6 : Int) = 0 + 2 + 4).trans (pend_eq H 0 2 4 PA.out PB.out PC.out)), rfl⟩
      · have PC : Hid ((if 0 < H.inn.length then (4 : Int) else 0) = 0) := by show _ = _; rw [Z9.out.2.2, if_neg hn]
        have hI : ¬ (0 : Int) < (n2 : Int) := by omega
        go_enter Tryd.func50, Tryd.ntmps50
        go_wp2_with fail
        go_ret
        exact ⟨ret_i ((by decide : (2 : Int) = 0 + 2 + 0).trans (pend_eq H 0 2 0 PA.out PB.out PC.out)), rfl⟩
set_option maxRecDepth 20000 in
set_option maxHeartbeats 4000000 in
theorem s_pending (q : Nat) (r c i o : Value) (H : Ht) (b : Nat) (w : World) (h : Hm w b r c i o H) (hv : Vb w q #[r, .int .i64 H.pc, c, .bool H.halted, .bool H.waiting, .bool H.rung, .int .i64 H.done, i, o] 26) (hc : H.csr.length = 11) :
    Calls Tryd.prog 51 #[.pointer (some ⟨q, 0, none⟩)] w fun e w' => e = .returned (.int .i64 (pendV H)) ∧ Below w.heap.size w w' := by
  obtain ⟨a1, k1, rfl, _, _, g1⟩ := h.c.shape
  obtain ⟨a2, k2, rfl, _⟩ := h.i.shape
  obtain ⟨y1, rfl⟩ := g1 (by omega)
  have hl : (H.inn.length : Int) ≤ 9223372036854775807 := by have := h.i.lens; unfold maxLen at this; omega
  obtain ⟨z9, h9⟩ : ∃ z, gt H.csr 9 = z := ⟨_, rfl⟩
  obtain ⟨d, hd⟩ : ∃ z, H.done = z := ⟨_, rfl⟩
  obtain ⟨n2, hn2⟩ : ∃ z, H.inn.length = z := ⟨_, rfl⟩
  have Z9 : Hid (gt H.csr 9 = z9 ∧ H.done = d ∧ H.inn.length = n2) := ⟨h9, hd, hn2⟩
  have c9 : w.cell? ⟨y1, 9, none⟩ = some (.int .i64 z9) := by rw [← h9]; exact h.c.cell rfl 9 (by omega)
  have cd : w.cell? ⟨q, 6, none⟩ = some (.int .i64 d) := by rw [← hd]; exact hv.cell 6 rfl
  have cr : w.cell? ⟨q, 5, none⟩ = some (.bool H.rung) := hv.cell 5 rfl
  have ci : w.cell? ⟨q, 7, none⟩ = some (.slice a2 n2 k2) := by rw [← hn2]; exact hv.cell 7 rfl
  have cs : w.cell? ⟨q, 2, none⟩ = some (.slice (some ⟨y1, 0, none⟩) 11 k1) := by rw [← hc]; exact hv.cell 2 rfl
  rw [hn2] at hl
  clear hv h g1 hc
  clear h9 hd hn2
  by_cases h0 : z9 = 0
  · have PA : Hid ((if gt H.csr 9 ≠ 0 ∧ gt H.csr 9 ≤ H.done then (1 : Int) else 0) = 0) := by show _ = _; rw [Z9.out.1, if_neg (fun k => k.1 h0)]
    subst h0
    cases hru : H.rung
    · have PB : Hid ((if H.rung then (2 : Int) else 0) = 0) := by show _ = _; rw [hru]; rfl
      rw [hru] at cr
      by_cases hn : 0 < n2
      · have PC : Hid ((if 0 < H.inn.length then (4 : Int) else 0) = 4) := by show _ = _; rw [Z9.out.2.2, if_pos hn]
        have hI : (0 : Int) < (n2 : Int) := by omega
        go_enter Tryd.func51, Tryd.ntmps51
        go_wp2_with fail
        go_quiet (fail)
        go_wp2_with fail
        go_ret
        exact ⟨ret_i ((by decide : (4 : Int) = 0 + 0 + 4).trans (pend_eq H 0 0 4 PA.out PB.out PC.out)), dr (Below.refl _ _) _⟩
      · have PC : Hid ((if 0 < H.inn.length then (4 : Int) else 0) = 0) := by show _ = _; rw [Z9.out.2.2, if_neg hn]
        have hI : ¬ (0 : Int) < (n2 : Int) := by omega
        go_enter Tryd.func51, Tryd.ntmps51
        go_wp2_with fail
        go_quiet (fail)
        go_wp2_with fail
        go_ret
        exact ⟨ret_i ((by decide : (0 : Int) = 0 + 0 + 0).trans (pend_eq H 0 0 0 PA.out PB.out PC.out)), dr (Below.refl _ _) _⟩
    · have PB : Hid ((if H.rung then (2 : Int) else 0) = 2) := by show _ = _; rw [hru]; rfl
      rw [hru] at cr
      by_cases hn : 0 < n2
      · have PC : Hid ((if 0 < H.inn.length then (4 : Int) else 0) = 4) := by show _ = _; rw [Z9.out.2.2, if_pos hn]
        have hI : (0 : Int) < (n2 : Int) := by omega
        go_enter Tryd.func51, Tryd.ntmps51
        go_wp2_with fail
        go_quiet (fail)
        go_wp2_with fail
        go_ret
        exact ⟨ret_i ((by decide : (6 : Int) = 0 + 2 + 4).trans (pend_eq H 0 2 4 PA.out PB.out PC.out)), dr (Below.refl _ _) _⟩
      · have PC : Hid ((if 0 < H.inn.length then (4 : Int) else 0) = 0) := by show _ = _; rw [Z9.out.2.2, if_neg hn]
        have hI : ¬ (0 : Int) < (n2 : Int) := by omega
        go_enter Tryd.func51, Tryd.ntmps51
        go_wp2_with fail
        go_quiet (fail)
        go_wp2_with fail
        go_ret
        exact ⟨ret_i ((by decide : (2 : Int) = 0 + 2 + 0).trans (pend_eq H 0 2 0 PA.out PB.out PC.out)), dr (Below.refl _ _) _⟩
  have hI0 : (z9 != 0) = true := by simp [h0]
  by_cases h1 : z9 ≤ d
  · have PA : Hid ((if gt H.csr 9 ≠ 0 ∧ gt H.csr 9 ≤ H.done then (1 : Int) else 0) = 1) := by show _ = _; rw [Z9.out.1, Z9.out.2.1, if_pos ⟨h0, h1⟩]
    cases hru : H.rung
    · have PB : Hid ((if H.rung then (2 : Int) else 0) = 0) := by show _ = _; rw [hru]; rfl
      rw [hru] at cr
      by_cases hn : 0 < n2
      · have PC : Hid ((if 0 < H.inn.length then (4 : Int) else 0) = 4) := by show _ = _; rw [Z9.out.2.2, if_pos hn]
        have hI : (0 : Int) < (n2 : Int) := by omega
        go_enter Tryd.func51, Tryd.ntmps51
        go_wp2_with fail
        go_quiet (fail)
        go_wp2_with fail
        go_ret
        exact ⟨ret_i ((by decide : (5 : Int) = 1 + 0 + 4).trans (pend_eq H 1 0 4 PA.out PB.out PC.out)), dr (Below.refl _ _) _⟩
      · have PC : Hid ((if 0 < H.inn.length then (4 : Int) else 0) = 0) := by show _ = _; rw [Z9.out.2.2, if_neg hn]
        have hI : ¬ (0 : Int) < (n2 : Int) := by omega
        go_enter Tryd.func51, Tryd.ntmps51
        go_wp2_with fail
        go_quiet (fail)
        go_wp2_with fail
        go_ret
        exact ⟨ret_i ((by decide : (1 : Int) = 1 + 0 + 0).trans (pend_eq H 1 0 0 PA.out PB.out PC.out)), dr (Below.refl _ _) _⟩
    · have PB : Hid ((if H.rung then (2 : Int) else 0) = 2) := by show _ = _; rw [hru]; rfl
      rw [hru] at cr
      by_cases hn : 0 < n2
      · have PC : Hid ((if 0 < H.inn.length then (4 : Int) else 0) = 4) := by show _ = _; rw [Z9.out.2.2, if_pos hn]
        have hI : (0 : Int) < (n2 : Int) := by omega
        go_enter Tryd.func51, Tryd.ntmps51
        go_wp2_with fail
        go_quiet (fail)
        go_wp2_with fail
        go_ret
        exact ⟨ret_i ((by decide : (7 : Int) = 1 + 2 + 4).trans (pend_eq H 1 2 4 PA.out PB.out PC.out)), dr (Below.refl _ _) _⟩
      · have PC : Hid ((if 0 < H.inn.length then (4 : Int) else 0) = 0) := by show _ = _; rw [Z9.out.2.2, if_neg hn]
        have hI : ¬ (0 : Int) < (n2 : Int) := by omega
        go_enter Tryd.func51, Tryd.ntmps51
        go_wp2_with fail
        go_quiet (fail)
        go_wp2_with fail
        go_ret
        exact ⟨ret_i ((by decide : (3 : Int) = 1 + 2 + 0).trans (pend_eq H 1 2 0 PA.out PB.out PC.out)), dr (Below.refl _ _) _⟩
  · have PA : Hid ((if gt H.csr 9 ≠ 0 ∧ gt H.csr 9 ≤ H.done then (1 : Int) else 0) = 0) := by show _ = _; rw [Z9.out.1, Z9.out.2.1, if_neg (fun k => h1 k.2)]
    have hI1 : d < z9 := by omega
    cases hru : H.rung
    · have PB : Hid ((if H.rung then (2 : Int) else 0) = 0) := by show _ = _; rw [hru]; rfl
      rw [hru] at cr
      by_cases hn : 0 < n2
      · have PC : Hid ((if 0 < H.inn.length then (4 : Int) else 0) = 4) := by show _ = _; rw [Z9.out.2.2, if_pos hn]
        have hI : (0 : Int) < (n2 : Int) := by omega
        go_enter Tryd.func51, Tryd.ntmps51
        go_wp2_with fail
        go_quiet (fail)
        go_wp2_with fail
        go_ret
        exact ⟨ret_i ((by decide : (4 : Int) = 0 + 0 + 4).trans (pend_eq H 0 0 4 PA.out PB.out PC.out)), dr (Below.refl _ _) _⟩
      · have PC : Hid ((if 0 < H.inn.length then (4 : Int) else 0) = 0) := by show _ = _; rw [Z9.out.2.2, if_neg hn]
        have hI : ¬ (0 : Int) < (n2 : Int) := by omega
        go_enter Tryd.func51, Tryd.ntmps51
        go_wp2_with fail
        go_quiet (fail)
        go_wp2_with fail
        go_ret
        exact ⟨ret_i ((by decide : (0 : Int) = 0 + 0 + 0).trans (pend_eq H 0 0 0 PA.out PB.out PC.out)), dr (Below.refl _ _) _⟩
    · have PB : Hid ((if H.rung then (2 : Int) else 0) = 2) := by show _ = _; rw [hru]; rfl
      rw [hru] at cr
      by_cases hn : 0 < n2
      · have PC : Hid ((if 0 < H.inn.length then (4 : Int) else 0) = 4) := by show _ = _; rw [Z9.out.2.2, if_pos hn]
        have hI : (0 : Int) < (n2 : Int) := by omega
        go_enter Tryd.func51, Tryd.ntmps51
        go_wp2_with fail
        go_quiet (fail)
        go_wp2_with fail
        go_ret
        exact ⟨ret_i ((by decide : (6 : Int) = 0 + 2 + 4).trans (pend_eq H 0 2 4 PA.out PB.out PC.out)), dr (Below.refl _ _) _⟩
      · have PC : Hid ((if 0 < H.inn.length then (4 : Int) else 0) = 0) := by show _ = _; rw [Z9.out.2.2, if_neg hn]
        have hI : ¬ (0 : Int) < (n2 : Int) := by omega
        go_enter Tryd.func51, Tryd.ntmps51
        go_wp2_with fail
        go_quiet (fail)
        go_wp2_with fail
        go_ret
        exact ⟨ret_i ((by decide : (2 : Int) = 0 + 2 + 0).trans (pend_eq H 0 2 0 PA.out PB.out PC.out)), dr (Below.refl _ _) _⟩
end Go.Proofs.YtaajaikpkcgalaaDoor
