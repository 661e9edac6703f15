/- What FnMemories asks besides: two lists held against one another, and a memory behind a write. -/
import Derived.Test.YtedjnokeknmbaaaMdraws
import Derived.Deep.RegionWith
namespace Go.Proofs.Ytedjnokeknmbaaa
open Go.RowKit
set_option linter.unusedVariables false

set_option maxHeartbeats 1000000 in
theorem lw_nums (v u : Value) (zs : List Int) (b c : Nat) (w : World) (h : Nums w b v zs) (k : Nums w c u zs) :
    Calls Try.prog 22 #[v, u] w fun e w' => e = .returned (.bool true) ∧ Below w.heap.size w w' := by
  obtain ⟨a, cap, rfl, l1, l2, hg⟩ := h.shape
  obtain ⟨a', cap', rfl, m1, m2, hg'⟩ := k.shape
  have HZ : Hid (Nums w b _ zs) := h
  have KZ : Hid (Nums w c _ zs) := k
  have hl : (zs.length : Int) ≤ 9223372036854775807 := by unfold maxLen at l2; omega
  clear h k
  obtain ⟨n, hn⟩ : ∃ n, zs.length = n := ⟨_, rfl⟩
  rw [hn] at HZ KZ hl l1 m1 hg hg' ⊢
  have HN : Hid (zs.length = n) := hn
  clear hn l1 m1 l2 m2
  go_enter Try.func22, Try.ntmps22
  go_wp2_with fail
  go_loopw [5] (fun i wr => ∃ j : Nat, j ≤ n ∧ i = .int .i64 j ∧ Below w.heap.size w wr) (fun i _ => n - (intOf i).toNat)
  case atStart => exact ⟨0, Nat.zero_le _, rfl, Below.refl _ _⟩
  case round =>
    obtain ⟨j, hj, rfl, hB⟩ := hrel
    have HB : Hid (Below _ _ _) := hB
    by_cases hlt : j < n
    · obtain ⟨g, rfl⟩ := hg (by omega)
      obtain ⟨g', rfl⟩ := hg' (by omega)
      have c1 := HZ.out.cell HN.out.symm j hlt
      have c2 := KZ.out.cell HN.out.symm j hlt
      have c1' := cell_keep hB c1
      have c2' := cell_keep hB c2
      have hI : (j : Int) < (n : Int) := by omega
      have HL : Hid (j < n) := hlt
      clear hB hlt c1 c2 hg hg'
      go_wp2_with fail
      go_quiet (fail)
      go_wp2_with fail
      go_roundw
      case rel => exact ⟨j + 1, by have := HL.out; omega, by go_num, dr HB.out _⟩
      case measure => have := HL.out; simp [intOf]; omega
    · have hI : ¬ (j : Int) < (n : Int) := by omega
      clear hB
      go_wp2_with fail
      go_ret
      exact ⟨rfl, HB.out⟩


theorem loadC_zero {zs ys : List Int} {x : Int} (h : loadC zs x ys = 0) : memV zs = 0 ∧ canB zs.length x ys.length = true := by
  unfold loadC at h
  split at h
  · next hm =>
    refine ⟨hm, ?_⟩
    cases hc : canB zs.length x ys.length
    · rw [hc] at h; simp at h
    · rfl
  · next hm => exact absurd h hm
theorem wd_isW (x : Int) : isW (wd x) = true := by
  have := wd_in x
  simp [isW]
  omega
theorem memV_set {zs : List Int} (h : memV zs = 0) (k : Nat) (x : Int) : memV (zs.set k (wd x)) = 0 := by
  obtain ⟨h1, h2, h3, h4⟩ := memV_len h
  have hf : formB (zs.set k (wd x)).length = true := by rw [List.length_set]; simp [formB]; omega
  refine memV_ok rfl hf ?_
  rw [List.all_eq_true] at h4 ⊢
  intro z hz
  rcases List.mem_or_eq_of_mem_set hz with hz | rfl
  · exact h4 z hz
  · exact wd_isW x
theorem getD_set_same (zs : List Int) (k : Nat) (x : Int) (h : k < zs.length) : (zs.set k x).getD k 0 = x := by
  simp [List.getD, h]
theorem getD_set_other (zs : List Int) (k j : Nat) (x : Int) (h : k ≠ j) : (zs.set k x).getD j 0 = zs.getD j 0 := by
  simp [List.getD, h]
theorem field_mem0 (x y : Value) (w : World) : (Instr.field 28 (.agg #[x, y]) 0).run Try.prog w = .ok x w := by kernel_rfl
end Go.Proofs.Ytedjnokeknmbaaa
