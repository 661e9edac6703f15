/- FlushCache by program and model. -/
import Derived.Test.YtaajaikpkcgalaaFiw
namespace Go.Proofs.Ytaajaikpkcgalaa
open Go.RowKit
set_option linter.unusedVariables false

/-- The store without the hits of a tag on the pages below j. -/
def flJ (s : List (Int × Qd)) (t : Int) (j : Nat) : List (Int × Qd) := s.filter fun e => !(e.2.tag == t && decide (e.2.page < (j : Int)))
theorem flJ_zero (s : List (Int × Qd)) (t : Int) (h : ∀ e ∈ s, 0 ≤ e.2.tag ∧ e.2.tag ≤ 9 ∧ 0 ≤ e.2.page ∧ e.2.page ≤ 7) : flJ s t 0 = s := by
  unfold flJ
  rw [List.filter_eq_self]
  intro e he
  have := h e he
  simp
  right
  omega
theorem flJ_step (s : List (Int × Qd)) (t : Int) (j : Nat) : drp (flJ s t j) t j = flJ s t (j + 1) := by
  unfold drp flJ
  rw [List.filter_filter]
  congr 1
  funext e
  rw [Bool.eq_iff_iff]
  simp only [sel, Bool.and_eq_true, Bool.not_eq_true', Bool.and_eq_false_iff, beq_eq_false_iff_ne, decide_eq_false_iff_not]
  omega
def notTag (t : Int) (q : Qd) : Bool := !(q.tag == t)
theorem flJ_hits (s : List (Int × Qd)) (t : Int) (h : ∀ e ∈ s, 0 ≤ e.2.tag ∧ e.2.tag ≤ 9 ∧ 0 ≤ e.2.page ∧ e.2.page ≤ 7) : hitsOf (flJ s t 8) = (hitsOf s).filter (notTag t) := by
  unfold hitsOf flJ
  rw [List.filter_map]
  congr 1
  apply List.filter_congr
  intro e he
  have := h e he
  have hp : decide (e.2.page < ((8 : Nat) : Int)) = true := by simp; omega
  rw [hp]
  simp [notTag]

set_option maxRecDepth 100000 in
set_option maxHeartbeats 2000000 in
theorem impl_flush (t : Int) (s : List (Int × Qd)) (nx : Int) (base sb mb n : Nat) (w : World) (S : St w base sb mb n s nx) (wt : wfI t) :
    Calls Try.prog 28 #[.pointer (some ⟨sb, 0, none⟩), .int .i64 t] w fun e w' => e = .returned (.tuple #[]) ∧ St w' base sb mb n (flJ s t 8) nx ∧ Below base w w' := by
  have HS : Hid (St w base sb mb n s nx) := S
  have HK : Hid (flJ s t 0 = s) := flJ_zero s t S.hm.keys
  have HW : Hid (wfI t) := wt
  clear S wt
  go_enter Try.func28, Try.ntmps28
  go_wp2_with fail
  go_loopw [5] (fun c wr => ∃ j : Nat, j ≤ 8 ∧ c = .int .i64 j ∧ St wr base sb mb n (flJ s t j) nx ∧ Below base w wr) (fun c _ => 8 - (intOf c).toNat)
  case atStart => exact ⟨0, Nat.zero_le _, rfl, by rw [HK.out]; exact HS.out, Below.refl _ _⟩
  case round =>
    obtain ⟨j, hj, rfl, hS, hB⟩ := hrel
    have SR : Hid (St wr base sb mb n (flJ s t j) nx) := hS
    have HB : Hid (Below base w wr) := hB
    by_cases hlt : j < 8
    case neg =>
      have hI : ¬ (j : Int) < 8 := by omega
      obtain rfl : j = 8 := by omega
      clear hS hB
      go_wp2_with fail
      go_end0
      exact ⟨rfl, SR.out, HB.out⟩
    have hI : (j : Int) < 8 := by omega
    have s0 := hS.c0
    have gs : sb < wr.heap.size := block_of_cell s0
    obtain ⟨y, hdel, HY, GY⟩ := hS.hm.del HW.out (wf_small (by omega) (by omega) : wfI (j : Int)) 0
    rw [flJ_step] at HY
    have HE : Hid (St y base sb mb n (flJ s t (j + 1)) nx ∧ Below base w y) := ⟨⟨HY, cell_onMap hS.hm GY hS.c0, cell_onMap hS.hm GY hS.c1, frozen_onMap hS.hm GY hS.c1 hS.f1, hS.b1, hS.b2⟩,
      hB.grown GY (Nat.le_trans hS.b1 (Nat.le_of_lt gs)) (fun k hk => by cases hk; exact hS.b2)⟩
    have HLT : Hid (j < 8) := hlt
    clear HY GY hS hB hlt
    go_wp2_with fail
    go_roundw
    case rel => exact ⟨j + 1, by have := HLT.out; omega, by go_num, HE.out.1, HE.out.2⟩
    case measure => have := HLT.out; simp [intOf]; omega
end Go.Proofs.Ytaajaikpkcgalaa
