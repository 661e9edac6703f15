/- Texts of this seat, joined. -/
import Derived.Test.YtgjpfmcokcjegaaQ29
namespace Go.Proofs.Ytgjpfmcokcjegaa
open Go.RowKit
set_option linter.unusedVariables false
def goesV (rs : List (Int × Int)) (x k : Int) : Int := if goesB rs x k then goesTo rs x else -1
set_option maxHeartbeats 1000000 in
theorem spec_l4walk (v : Value) (rs : List (Int × Int)) (x k : Int) (b : Nat) (w : World) (h : Prs 73 w b v rs) (hl : rs.length = 8) (ho : okTo 24 rs 8) :
    Calls Try.prog 49 #[v, .int .i64 x, .int .i64 k] w fun e w' => e = .returned (.int .i64 (goesV rs x k)) ∧ Below w.heap.size w w' := by
  obtain ⟨a, cap, rfl, l1, l2, hg⟩ := h.shape
  obtain ⟨g, rfl⟩ := hg (by omega)
  rw [hl]
  have HZ : Hid (Prs 73 w b (.slice (some ⟨g, 0, none⟩) 8 cap) rs) := by show Prs 73 _ _ _ _; rw [← hl]; exact h
  have HL : Hid (rs.length = 8) := hl
  clear l1 l2 hg h hl
  by_cases h1 : (decide (0 ≤ x) && decide (x ≤ 63)) = true
  case neg =>
    rw [Bool.not_eq_true] at h1
    have hgo : goesB rs x k = false := by unfold goesB; rw [h1]; rfl
    have e1 : goesV rs x k = -1 := by simp [goesV, hgo]
    rw [e1]
    clear e1 hgo
    go_enter Try.func49, Try.ntmps49
    go_wp2_with (go_at_call 58; refine (spec_in _ _ _ _).mono ?_; rintro e y ⟨rfl, rfl⟩; rw [h1])
    go_ret
    exact ⟨rfl, Below.refl _ _⟩
  have h2 : 0 ≤ x ∧ x ≤ 63 := by simpa using h1
  obtain ⟨h3, h4⟩ := h2
  have hz := pgC_zero (okTo_at ho h3 h4)
  have c1 := (HZ.out.cell HL.out.symm (x / 8).toNat (by omega)).1
  have c2 := (HZ.out.cell HL.out.symm (x / 8).toNat (by omega)).2
  have gb : g < w.heap.size := block_of_cell c1
  have q0 : 0 ≤ x / 8 := by omega
  have q1 : x / 8 < 8 := by omega
  have HG : Hid (goesB rs x k = !(bits BinOp.and .i64 (rs.getD (x / 8).toNat (0, 0)).2 k == 0)) := by show _ = _; unfold goesB; simp [h3, h4]
  have HT : Hid (goesTo rs x = (rs.getD (x / 8).toNat (0, 0)).1 * 8 + x % 8) := rfl
  generalize (rs.getD (x / 8).toNat (0, 0)).1 = p at *
  generalize (rs.getD (x / 8).toNat (0, 0)).2 = q at *
  obtain ⟨p1, p2, p3, p4, p5⟩ := hz
  by_cases hp : p < 0
  · have hq0 : q = 0 := p5 (by omega)
    have hgo : goesB rs x k = false := by rw [HG.out, hq0, band_zero]; rfl
    have e1 : goesV rs x k = -1 := by simp [goesV, hgo]
    rw [e1]
    clear e1 hgo p3 p4 p5 hq0
    go_enter Try.func49, Try.ntmps49
    go_wp2_with (go_at_call 58; refine (spec_in _ _ _ _).mono ?_; rintro e y ⟨rfl, rfl⟩; rw [h1])
    go_ret
    exact ⟨rfl, al (Below.refl _ _) _⟩
  cases hq : (bits BinOp.and .i64 q k == 0)
  · have hgo : goesB rs x k = true := by rw [HG.out, hq]; rfl
    have e1 : goesV rs x k = p * 8 + x % 8 := by simp [goesV, hgo, HT.out]
    rw [e1]
    clear e1 hgo p3 p4 p5
    go_enter Try.func49, Try.ntmps49
    go_wp2_with (go_at_call 58; refine (spec_in _ _ _ _).mono ?_; rintro e y ⟨rfl, rfl⟩; rw [h1])
    go_ret
    exact ⟨rfl, al (Below.refl _ _) _⟩
  · have hgo : goesB rs x k = false := by rw [HG.out, hq]; rfl
    have e1 : goesV rs x k = -1 := by simp [goesV, hgo]
    rw [e1]
    clear e1 hgo p3 p4 p5
    go_enter Try.func49, Try.ntmps49
    go_wp2_with (go_at_call 58; refine (spec_in _ _ _ _).mono ?_; rintro e y ⟨rfl, rfl⟩; rw [h1])
    go_ret
    exact ⟨rfl, al (Below.refl _ _) _⟩
end Go.Proofs.Ytgjpfmcokcjegaa
