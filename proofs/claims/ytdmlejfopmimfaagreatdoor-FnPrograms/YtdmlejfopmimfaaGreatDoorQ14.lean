/- Texts of this seat, joined. -/
import Derived.Deep.RegionWith
import Derived.Test.YtdmlejfopmimfaaGreatDoorQ04
namespace Go.Proofs.YtdmlejfopmimfaaGreatDoor
open Go.RowKit
set_option linter.unusedVariables false

set_option maxHeartbeats 1000000 in
theorem lw_numsD (v u : Value) (zs : List Int) (b c : Nat) (w : World) (h : Nums w b v zs) (k : Nums w c u zs) :
    Calls Tryz.prog 9 #[v, u] w fun e w' => e = .returned (.bool true) ∧ ∃ nq, w' = w.drewN nq := by
  obtain ⟨a, cap, rfl, l1, l2, hg⟩ := h.shape
  obtain ⟨a', cap', rfl, m1, m2, hg'⟩ := k.shape
  have HZ : Hid (Nums w b _ zs) := h
  have KZ : Hid (Nums w c _ zs) := k
  have hl : (zs.length : Int) ≤ 9223372036854775807 := by unfold maxLen at l2; omega
  clear h k
  obtain ⟨n, hn⟩ : ∃ n, zs.length = n := ⟨_, rfl⟩
  rw [hn] at HZ KZ hl l1 m1 hg hg' ⊢
  have HN : Hid (zs.length = n) := hn
  clear hn l1 m1 l2 m2
  go_enter Tryz.func9, Tryz.ntmps9
  go_wp2_with fail
  go_loopw [5] (fun i wr => ∃ j : Nat, j ≤ n ∧ i = .int .i64 j ∧ ∃ nq, wr = w.drewN nq) (fun i _ => n - (intOf i).toNat)
  case atStart => exact ⟨0, Nat.zero_le _, rfl, 0, rfl⟩
  case round =>
    obtain ⟨j, hj, rfl, nq, rfl⟩ := hrel
    by_cases hlt : j < n
    · obtain ⟨g, rfl⟩ := hg (by omega)
      obtain ⟨g', rfl⟩ := hg' (by omega)
      have c1 := HZ.out.cell HN.out.symm j hlt
      have c2 := KZ.out.cell HN.out.symm j hlt
      have hI : (j : Int) < (n : Int) := by omega
      have HL : Hid (j < n) := hlt
      clear hlt hg hg'
      go_wp2_with fail
      go_quiet (fail)
      go_wp2_with fail
      go_roundw
      case rel => exact ⟨j + 1, by have := HL.out; omega, by go_num, ⟨_, rfl⟩⟩
      case measure => have := HL.out; simp [intOf]; omega
    · have hI : ¬ (j : Int) < (n : Int) := by omega
      go_wp2_with fail
      go_ret
      exact ⟨rfl, nq, rfl⟩
end Go.Proofs.YtdmlejfopmimfaaGreatDoor
