/- Texts of this seat, joined. -/
import Derived.Test.YthnaggeilbcioaaGreatDoorQ04
namespace Go.Proofs.YthnaggeilbcioaaGreatDoor
open Go.RowKit
set_option linter.unusedVariables false

def wholeB (ms : List Int) : Bool := decide (ms.length = 192) && decide (memV ms = 0)
theorem i_whole (v : Value) (ms : List Int) (b : Nat) (w : World) (h : Nums w b v ms) :
    Calls Tryz.prog 59 #[v, .int .i64 24] w fun e w' => e = .returned (.bool (wholeB ms)) ∧ w' = w := by
  obtain ⟨a, cap, rfl, l1, l2, hg⟩ := h.shape
  have HM : Hid (Nums w b _ ms) := h
  unfold wholeB
  have hl : (ms.length : Int) ≤ 9223372036854775807 := by unfold maxLen at l2; omega
  obtain ⟨n, hn⟩ : ∃ n, ms.length = n := ⟨_, rfl⟩
  rw [hn] at HM hl ⊢
  clear h l1 l2 hg
  by_cases h1 : n = 192
  · rw [decide_eq_true h1, Bool.true_and]
    have h1i : (n : Int) = 192 := by omega
    have HM2 : Hid (Nums w b (.slice a 192 cap) ms) := by rw [h1] at HM; exact HM
    subst h1
    clear hn h1i
    by_cases h2 : memV ms = 0
    · go_enter Tryz.func59, Tryz.ntmps59
      go_wp2_with (go_at_call 99; refine (impl_memFault _ ms b _ HM2.out).mono ?_; rintro e w ⟨rfl, rfl⟩; rw [h2])
      go_ret
      exact ⟨by first | rfl | simp [h2], rfl⟩
    · have h4 : decide (memV ms = 0) = false := decide_eq_false h2
      rw [h4]
      obtain ⟨mv, hmv⟩ : ∃ mv, memV ms = mv := ⟨_, rfl⟩
      rw [hmv] at h2
      have HMV : Hid (memV ms = mv) := hmv
      clear hmv h4
      have h5 : (mv == 0) = false := by simpa using h2
      go_enter Tryz.func59, Tryz.ntmps59
      go_wp2_with (go_at_call 99; refine (impl_memFault _ ms b _ HM2.out).mono ?_; rintro e w ⟨rfl, rfl⟩; rw [HMV.out])
      go_ret
      exact ⟨by first | rfl | simp [h5], rfl⟩
  · have h1i : ¬ (n : Int) = 192 := by omega
    rw [decide_eq_false h1, Bool.false_and]
    clear hn
    go_enter Tryz.func59, Tryz.ntmps59
    go_wp2_with fail
    go_ret
    exact ⟨by first | rfl | simp_all, rfl⟩
theorem l7_whole (v : Value) (ms : List Int) (b : Nat) (w : World) (h : Nums w b v ms) :
    Calls Tryz.prog 44 #[v] w fun e w' => e = .returned (.bool (wholeB ms)) ∧ w' = w := by
  obtain ⟨a, cap, rfl, l1, l2, hg⟩ := h.shape
  have HM : Hid (Nums w b _ ms) := h
  unfold wholeB
  have hl : (ms.length : Int) ≤ 9223372036854775807 := by unfold maxLen at l2; omega
  obtain ⟨n, hn⟩ : ∃ n, ms.length = n := ⟨_, rfl⟩
  rw [hn] at HM hl ⊢
  clear h l1 l2 hg
  by_cases h2 : memV ms = 0
  · rw [decide_eq_true h2, Bool.and_true]
    clear hn
    go_enter Tryz.func44, Tryz.ntmps44
    go_wp2_with (go_at_call 90; refine (spec_memFault _ ms b _ HM.out).mono ?_; rintro e w ⟨rfl, rfl⟩; rw [h2])
    go_ret
    exact ⟨congrArg (fun b => Ending.returned (.bool b)) (by apply Bool.eq_iff_iff.2; simp; omega), rfl⟩
  · have h4 : decide (memV ms = 0) = false := decide_eq_false h2
    rw [h4, Bool.and_false]
    obtain ⟨mv, hmv⟩ : ∃ mv, memV ms = mv := ⟨_, rfl⟩
    rw [hmv] at h2
    have HMV : Hid (memV ms = mv) := hmv
    have h5 : (mv == 0) = false := by simpa using h2
    clear hn hmv h4
    go_enter Tryz.func44, Tryz.ntmps44
    go_wp2_with (go_at_call 90; refine (spec_memFault _ ms b _ HM.out).mono ?_; rintro e w ⟨rfl, rfl⟩; rw [HMV.out])
    go_ret
    exact ⟨by first | rfl | simp [h5], rfl⟩
end Go.Proofs.YthnaggeilbcioaaGreatDoor
