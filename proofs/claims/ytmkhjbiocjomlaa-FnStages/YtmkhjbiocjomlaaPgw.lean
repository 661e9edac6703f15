/- Walks through one list of pages, by program and model. -/
import Derived.Test.YtmkhjbiocjomlaaPge
namespace Go.Proofs.Ytmkhjbiocjomlaa
open Go.RowKit
set_option linter.unusedVariables false

abbrev band (x y : Int) : Int := bits BinOp.and .i64 x y
def kindB (k : Int) : Bool := decide (k = 1 ∨ k = 2 ∨ k = 4)
def kindV (k : Int) : Int := if k = 1 then 7 else if k = 2 then 8 else if k = 4 then 9 else 0
theorem kind_cases {k : Int} (h : kindB k = true) : k = 1 ∨ k = 2 ∨ k = 4 := of_decide_eq_true h
theorem kind_not {k : Int} (h : kindB k = false) : (k == 1) = false ∧ (k == 2) = false ∧ (k == 4) = false := by
  have := of_decide_eq_false h
  simp
  omega
theorem band_zero (k : Int) : bits BinOp.and .i64 0 k = 0 := by
  show IntKind.i64.wrap ((BitVec.ofInt 64 0 &&& BitVec.ofInt 64 k).toNat : Int) = 0
  rw [BitVec.toNat_and]
  simp [IntKind.wrap_i64]

theorem impl_kind (k : Int) (w : World) : Calls Try.prog 78 #[.int .i64 k] w fun e w' => e = .returned (.tuple #[.int .i64 (kindV k), .bool (kindB k)]) ∧ w' = w := by
  cases h : kindB k
  · obtain ⟨h1, h2, h4⟩ := kind_not h
    have hv : kindV k = 0 := by simp at h1 h2 h4; simp [kindV, h1, h2, h4]
    rw [hv]
    clear hv h
    go_enter Try.func78, Try.ntmps78
    go_wp2_with fail
    go_ret2
    exact ⟨rfl, rfl⟩
  · rcases kind_cases h with rfl | rfl | rfl
    all_goals
      go_enter Try.func78, Try.ntmps78
      go_wp2_with fail
      go_ret2
      exact ⟨rfl, rfl⟩

theorem spec_kind (k : Int) (w : World) : Calls Try.prog 69 #[.int .i64 k] w fun e w' => e = .returned (.bool (kindB k)) ∧ w' = w := by
  cases h : kindB k
  · obtain ⟨h1, h2, h4⟩ := kind_not h
    clear h
    go_enter Try.func69, Try.ntmps69
    go_wp2_with fail
    go_ret
    exact ⟨rfl, rfl⟩
  · rcases kind_cases h with rfl | rfl | rfl
    all_goals
      go_enter Try.func69, Try.ntmps69
      go_wp2_with fail
      go_ret
      exact ⟨rfl, rfl⟩

theorem spec_kindV (k : Int) (w : World) (h : kindB k = true) : Calls Try.prog 71 #[.int .i64 k] w fun e w' => e = .returned (.int .i64 (kindV k)) ∧ w' = w := by
  rcases kind_cases h with rfl | rfl | rfl
  all_goals
    go_enter Try.func71, Try.ntmps71
    go_wp2_with fail
    go_ret
    exact ⟨rfl, rfl⟩

/-- Where a place leads in one list, for a kind that there is. -/
def goesB (rs : List (Int × Int)) (at_ k : Int) : Bool := decide (0 ≤ at_) && decide (at_ ≤ 63) && !(bits BinOp.and .i64 (rs.getD (at_ / 8).toNat (0, 0)).2 k == 0)
def goesTo (rs : List (Int × Int)) (at_ : Int) : Int := (rs.getD (at_ / 8).toNat (0, 0)).1 * 8 + at_ % 8
/-- Code and value of a walk through a list without a fault. -/
def wkC (rs : List (Int × Int)) (at_ k : Int) : Int := if kindB k then (if goesB rs at_ k then 0 else kindV k) else 3
def wkV (rs : List (Int × Int)) (at_ k : Int) : Int := if kindB k then (if goesB rs at_ k then goesTo rs at_ else 0) else 0
theorem okTo_at {rs : List (Int × Int)} {t : Int} (h : okTo t rs 8) {x : Int} (h0 : 0 ≤ x) (h1 : x ≤ 63) : pgC t (rs.getD (x / 8).toNat (0, 0)).1 (rs.getD (x / 8).toNat (0, 0)).2 = 0 := h _ (by omega)
theorem goes_in {rs : List (Int × Int)} {t : Int} (h : okTo t rs 8) {x k : Int} (hg : goesB rs x k = true) : 0 ≤ x ∧ x ≤ 63 ∧ 0 ≤ (rs.getD (x / 8).toNat (0, 0)).1 ∧ (rs.getD (x / 8).toNat (0, 0)).1 ≤ t - 1 := by
  unfold goesB at hg
  simp only [Bool.and_eq_true, decide_eq_true_eq, Bool.not_eq_true', beq_eq_false_iff_ne] at hg
  obtain ⟨⟨h0, h1⟩, h2⟩ := hg
  have hz := pgC_zero (okTo_at h h0 h1)
  refine ⟨h0, h1, ?_, hz.2.1⟩
  apply Classical.byContradiction
  intro hn
  have : (rs.getD (x / 8).toNat (0, 0)).2 = 0 := hz.2.2.2.2 (by omega)
  rw [this, band_zero] at h2
  exact h2 rfl

set_option maxHeartbeats 1000000 in
theorem impl_walk (v : Value) (rs : List (Int × Int)) (x k : Int) (b : Nat) (w : World) (h : Prs 37 w b v rs) (hl : rs.length = 8) (ho : okTo 24 rs 8) :
    Calls Try.prog 59 #[v, .int .i64 x, .int .i64 k] w fun e w' => e = .returned (.agg #[.int .i64 (wkC rs x k), .int .i64 (wkV rs x k)]) ∧ Below w.heap.size w w' := by
  obtain ⟨a, cap, rfl, l1, l2, hg⟩ := h.shape
  obtain ⟨g, rfl⟩ := hg (by omega)
  rw [hl]
  have HZ : Hid (Prs 37 w b (.slice (some ⟨g, 0, none⟩) 8 cap) rs) := by show Prs 37 _ _ _ _; rw [← hl]; exact h
  have HL : Hid (rs.length = 8) := hl
  clear l1 l2 hg h hl
  cases hk : kindB k
  · have e1 : wkC rs x k = 3 := by simp [wkC, hk]
    have e2 : wkV rs x k = 0 := by simp [wkV, hk]
    rw [e1, e2]
    clear e1 e2
    go_enter Try.func59, Try.ntmps59
    go_wp2_with (go_at_call 78; refine (impl_kind _ _).mono ?_; rintro e w1 ⟨rfl, rfl⟩; rw [hk])
    exact bodyPost_ret (v := .agg #[.int .i64 3, .int .i64 0]) (by simp [results, Try.results59, go_sem]) rfl ⟨rfl, al (Below.refl _ _) _⟩
  generalize hkv : kindV k = kv at *
  have HKV : Hid (kindV k = kv) := hkv
  by_cases h1 : x < 0
  · have hgo : goesB rs x k = false := by unfold goesB; simp; omega
    have e1 : wkC rs x k = kv := by simp [wkC, hk, hgo, hkv]
    have e2 : wkV rs x k = 0 := by simp [wkV, hk, hgo]
    rw [e1, e2]
    clear e1 e2 hgo hkv
    go_enter Try.func59, Try.ntmps59
    go_wp2_with (go_at_call 78; refine (impl_kind _ _).mono ?_; rintro e w1 ⟨rfl, rfl⟩; rw [hk, HKV.out])
    exact bodyPost_ret (v := .agg #[.int .i64 kv, .int .i64 0]) (by simp [results, Try.results59, go_sem]) rfl ⟨rfl, al (Below.refl _ _) _⟩
  by_cases h2 : 64 ≤ x
  · have hgo : goesB rs x k = false := by unfold goesB; simp; omega
    have e1 : wkC rs x k = kv := by simp [wkC, hk, hgo, hkv]
    have e2 : wkV rs x k = 0 := by simp [wkV, hk, hgo]
    rw [e1, e2]
    clear e1 e2 hgo hkv
    go_enter Try.func59, Try.ntmps59
    go_wp2_with (go_at_call 78; refine (impl_kind _ _).mono ?_; rintro e w1 ⟨rfl, rfl⟩; rw [hk, HKV.out])
    exact bodyPost_ret (v := .agg #[.int .i64 kv, .int .i64 0]) (by simp [results, Try.results59, go_sem]) rfl ⟨rfl, al (Below.refl _ _) _⟩
  have h3 : 0 ≤ x := by omega
  have h4 : x ≤ 63 := by omega
  have hz := pgC_zero (okTo_at ho h3 h4)
  have c1 := (HZ.out.cell HL.out.symm (x / 8).toNat (by omega)).1
  have c2 := (HZ.out.cell HL.out.symm (x / 8).toNat (by omega)).2
  have gb : g < w.heap.size := block_of_cell c1
  have q0 : 0 ≤ x / 8 := by omega
  have q1 : x / 8 < 8 := by omega
  have HG : Hid (goesB rs x k = !(bits BinOp.and .i64 (rs.getD (x / 8).toNat (0, 0)).2 k == 0)) := by show _ = _; unfold goesB; simp [h3, h4]
  have HT : Hid (goesTo rs x = (rs.getD (x / 8).toNat (0, 0)).1 * 8 + x % 8) := rfl
  generalize (rs.getD (x / 8).toNat (0, 0)).1 = p at *
  generalize (rs.getD (x / 8).toNat (0, 0)).2 = q at *
  obtain ⟨p1, p2, p3, p4, p5⟩ := hz
  cases hq : (bits BinOp.and .i64 q k == 0)
  · have hgo : goesB rs x k = true := by rw [HG.out, hq]; rfl
    have e1 : wkC rs x k = 0 := by simp [wkC, hk, hgo]
    have e2 : wkV rs x k = p * 8 + x % 8 := by simp [wkV, hk, hgo, HT.out]
    rw [e1, e2]
    clear e1 e2 hgo hkv p3 p4 p5
    go_enter Try.func59, Try.ntmps59
    go_wp2_with (go_at_call 78; refine (impl_kind _ _).mono ?_; rintro e w1 ⟨rfl, rfl⟩; rw [hk, HKV.out])
    exact bodyPost_ret (v := .agg #[.int .i64 0, .int .i64 (p * 8 + x % 8)]) (by simp [results, Try.results59, go_sem]) rfl ⟨rfl, al (al (Below.refl _ _) _) _⟩
  · have hgo : goesB rs x k = false := by rw [HG.out, hq]; rfl
    have e1 : wkC rs x k = kv := by simp [wkC, hk, hgo, hkv]
    have e2 : wkV rs x k = 0 := by simp [wkV, hk, hgo]
    rw [e1, e2]
    clear e1 e2 hgo hkv p3 p4 p5
    go_enter Try.func59, Try.ntmps59
    go_wp2_with (go_at_call 78; refine (impl_kind _ _).mono ?_; rintro e w1 ⟨rfl, rfl⟩; rw [hk, HKV.out])
    exact bodyPost_ret (v := .agg #[.int .i64 kv, .int .i64 0]) (by simp [results, Try.results59, go_sem]) rfl ⟨rfl, al (al (Below.refl _ _) _) _⟩
end Go.Proofs.Ytmkhjbiocjomlaa
