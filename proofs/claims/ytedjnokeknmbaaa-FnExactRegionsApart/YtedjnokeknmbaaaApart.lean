/- Regions that are apart, by program and model. -/
import Derived.Test.YtedjnokeknmbaaaRegs
namespace Go.Proofs.Ytedjnokeknmbaaa
open Go.RowKit
set_option linter.unusedVariables false

def okB (rs : List (Int × Int)) (i : Nat) : Bool := regB (rs.getD i (0, 0)).1 (rs.getD i (0, 0)).2 && (rs.take i).all fun o => !crossB (rs.getD i (0, 0)).1 (rs.getD i (0, 0)).2 o.1 o.2
def apartB (rs : List (Int × Int)) : Bool := (List.range rs.length).all (okB rs)

theorem ok_succ {rs : List (Int × Int)} {j : Nat} (h : (List.range j).all (okB rs) = true) (k : okB rs j = true) : (List.range (j + 1)).all (okB rs) = true := by
  rw [List.range_succ, List.all_append, h]
  simp [k]
theorem ok_not {rs : List (Int × Int)} {j : Nat} (hj : j < rs.length) (k : okB rs j = false) : apartB rs = false := by
  unfold apartB
  rw [List.all_eq_false]
  exact ⟨j, List.mem_range.2 hj, by simp [k]⟩
theorem ok_reg {rs : List (Int × Int)} {j k : Nat} (h : (List.range j).all (okB rs) = true) (hk : k < j) : regB (rs.getD k (0, 0)).1 (rs.getD k (0, 0)).2 = true := by
  have := List.all_eq_true.1 h k (List.mem_range.2 hk)
  unfold okB at this
  rw [Bool.and_eq_true] at this
  exact this.1
theorem pos_take (rs : List (Int × Int)) (j : Nat) (h : j < rs.length) : (rs.take (j + 1)).filter (fun r => decide (0 < r.2)) = (rs.take j).filter (fun r => decide (0 < r.2)) ++ (if 0 < (rs.getD j (0, 0)).2 then [((rs.getD j (0, 0)).1, (rs.getD j (0, 0)).2)] else []) := by
  rw [List.take_succ_eq_append_getElem h, List.filter_append, List.getD, List.getElem?_eq_getElem h]
  congr 1
  by_cases k : 0 < (rs[j]).2 <;> simp [k]
theorem any_all {rs : List (Int × Int)} {j : Nat} (a b : Int) (hab : regB a b = true) (h : (List.range j).all (okB rs) = true) (hj : j ≤ rs.length) :
    (((rs.take j).filter (fun r => decide (0 < r.2))).any fun o => meetB a b o.1 o.2) = !((rs.take j).all fun o => !crossB a b o.1 o.2) := by
  rw [Bool.eq_iff_iff]
  simp only [List.any_eq_true, List.mem_filter, Bool.not_eq_true', List.all_eq_false, decide_eq_true_eq]
  constructor
  · rintro ⟨o, ⟨ho, hp⟩, hm⟩
    refine ⟨o, ho, ?_⟩
    rw [meet_out] at hm
    simp only [Bool.and_eq_true] at hm
    simp [hm.2]
  · rintro ⟨o, ho, hc0⟩
    have hc : crossB a b o.1 o.2 = true := by simpa using hc0
    have hp : 0 < o.2 := by
      have := of_decide_eq_true hc
      exact this.2.1
    refine ⟨o, ⟨ho, hp⟩, ?_⟩
    obtain ⟨k, hk, rfl⟩ := List.getElem_of_mem ho
    have hk2 : k < j := by simp at hk; omega
    have := ok_reg h hk2
    rw [List.getD, List.getElem?_eq_getElem (by omega)] at this
    rw [meet_out, hab, hc]
    simpa using this
theorem cross_take (rs : List (Int × Int)) (a b : Int) (k : Nat) (h : k < rs.length) : ((rs.take (k + 1)).all fun o => !crossB a b o.1 o.2) = (((rs.take k).all fun o => !crossB a b o.1 o.2) && !crossB a b (rs.getD k (0, 0)).1 (rs.getD k (0, 0)).2) := by
  rw [List.take_succ_eq_append_getElem h, List.all_append, List.getD, List.getElem?_eq_getElem h]
  simp

set_option maxHeartbeats 2000000 in
theorem impl_meets (a b : Int) (v : Value) (qs : List (Int × Int)) (base : Nat) (w : World) (h : Prs 51 w base v qs) (hq : qs.length ≤ 1048576) :
    Calls Try.prog 68 #[.agg #[.int .i64 a, .int .i64 b], v] w fun e w' => e = .returned (.bool (qs.any fun o => meetB a b o.1 o.2)) ∧ Below w.heap.size w w' := by
  obtain ⟨ad, cap, rfl, l1, l2, hg⟩ := h.shape
  have HZ : Hid (Prs _ w base _ qs) := h
  clear h
  obtain ⟨n, hn⟩ : ∃ n, qs.length = n := ⟨_, rfl⟩
  rw [hn] at HZ l1 hg hq ⊢
  have HN : Hid (qs.length = n) := hn
  have hqi : (n : Int) ≤ 1048576 := by omega
  clear hn l1 l2 hq
  go_enter Try.func68, Try.ntmps68
  go_wp2_with fail
  go_loopw [6, 9] (fun _ c wr => ∃ j : Nat, j ≤ n ∧ c = .int .i64 j ∧ Hid (((qs.take j).any fun o => meetB a b o.1 o.2) = false) ∧ Below w.heap.size w wr ∧ wr.cell? ⟨w.heap.size, 0, none⟩ = some (.int .i64 a) ∧ wr.cell? ⟨w.heap.size, 1, none⟩ = some (.int .i64 b)) (fun _ c _ => n - (intOf c).toNat)
  case atStart => exact ⟨0, Nat.zero_le _, rfl, rfl, al (Below.refl _ _) _, by simp, by simp⟩
  case round =>
    obtain ⟨j, hj, rfl, hA, hB, q0, q1⟩ := hrel
    have HB : Hid (Below _ _ _) := hB
    by_cases hlt : j < n
    · obtain ⟨g, rfl⟩ := hg (by omega)
      have c1 := cell_keep hB (HZ.out.cell HN.out.symm j hlt).1
      have c2 := cell_keep hB (HZ.out.cell HN.out.symm j hlt).2
      have hI : (j : Int) < (n : Int) := by omega
      have HL : Hid (j < qs.length) := by show _ < _; have := HN.out; omega
      have hT : Hid (((qs.take (j + 1)).any fun o => meetB a b o.1 o.2) = meetB a b (qs.getD j (0, 0)).1 (qs.getD j (0, 0)).2) := by
        show _ = _
        rw [List.take_succ_eq_append_getElem HL.out, List.any_append, hA.out, List.getD, List.getElem?_eq_getElem HL.out]
        simp
      have hF := fun w => impl_meet a b (qs.getD j (0, 0)).1 (qs.getD j (0, 0)).2 w
      have hY : Hid (meetB a b (qs.getD j (0, 0)).1 (qs.getD j (0, 0)).2 = true → (qs.any fun o => meetB a b o.1 o.2) = true) := by
        intro hm
        rw [List.any_eq_true]
        exact ⟨qs[j]'HL.out, List.getElem_mem HL.out, by rw [List.getD, List.getElem?_eq_getElem HL.out] at hm; exact hm⟩
      generalize (qs.getD j (0, 0)).1 = p at *
      generalize (qs.getD j (0, 0)).2 = q at *
      have s0 : w.heap.size < wr.heap.size := block_of_cell q0
      clear hB hlt hg
      cases hm : meetB a b p q
      · rw [hm] at hF
        go_wp2_with fail
        refine (hF _).mono ?_
        rintro e w5 ⟨rfl, b5⟩
        have q0 := cell_keep b5 (cell_push _ q0)
        have q1 := cell_keep b5 (cell_push _ q1)
        have B5 : Hid (Below _ w w5) := on (al HB.out _) b5
        clear b5
        go_wp2_with fail
        go_roundw
        case rel => exact ⟨j + 1, by have := HL.out; have := HN.out; omega, by go_num, by show _ = _; rw [hT.out, hm], B5.out, q0, q1⟩
        case measure => have := HL.out; have := HN.out; simp [intOf]; omega
      · rw [hm] at hF
        go_wp2_with fail
        refine (hF _).mono ?_
        rintro e w5 ⟨rfl, b5⟩
        have B5 : Hid (Below _ w w5) := on (al HB.out _) b5
        clear b5
        go_wp2_with fail
        go_ret
        exact ⟨by rw [hY.out hm]; rfl, B5.out⟩
    · have hI : ¬ (j : Int) < (n : Int) := by omega
      obtain rfl : j = n := by omega
      clear hB
      go_wp2_with fail
      go_ret
      refine ⟨?_, HB.out⟩
      have := hA.out
      rw [List.take_of_length_le (Nat.le_of_eq HN.out)] at this
      rw [this]
      rfl
end Go.Proofs.Ytedjnokeknmbaaa
