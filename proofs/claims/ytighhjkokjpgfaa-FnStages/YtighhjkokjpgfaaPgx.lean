/- Walks by the model. -/
import Derived.Test.YtighhjkokjpgfaaPgu
namespace Go.Proofs.Ytighhjkokjpgfaa
open Go.RowKit
set_option linter.unusedVariables false

def goesV (rs : List (Int × Int)) (x k : Int) : Int := if goesB rs x k then goesTo rs x else -1

set_option maxHeartbeats 1000000 in
theorem spec_l4walk (v : Value) (rs : List (Int × Int)) (x k : Int) (b : Nat) (w : World) (h : Prs 86 w b v rs) (hl : rs.length = 8) (ho : okTo 24 rs 8) :
    Calls Try.prog 90 #[v, .int .i64 x, .int .i64 k] w fun e w' => e = .returned (.int .i64 (goesV rs x k)) ∧ Below w.heap.size w w' := by
  obtain ⟨a, cap, rfl, l1, l2, hg⟩ := h.shape
  obtain ⟨g, rfl⟩ := hg (by omega)
  rw [hl]
  have HZ : Hid (Prs 86 w b (.slice (some ⟨g, 0, none⟩) 8 cap) rs) := by show Prs 86 _ _ _ _; rw [← hl]; exact h
  have HL : Hid (rs.length = 8) := hl
  clear l1 l2 hg h hl
  by_cases h1 : (decide (0 ≤ x) && decide (x ≤ 63)) = true
  case neg =>
    rw [Bool.not_eq_true] at h1
    have hgo : goesB rs x k = false := by unfold goesB; rw [h1]; rfl
    have e1 : goesV rs x k = -1 := by simp [goesV, hgo]
    rw [e1]
    clear e1 hgo
    go_enter Try.func90, Try.ntmps90
    go_wp2_with (go_at_call 81; refine (spec_in _ _ _ _).mono ?_; rintro e y ⟨rfl, rfl⟩; rw [h1])
    go_ret
    exact ⟨rfl, Below.refl _ _⟩
  have h2 : 0 ≤ x ∧ x ≤ 63 := by simpa using h1
  obtain ⟨h3, h4⟩ := h2
  have hz := pgC_zero (okTo_at ho h3 h4)
  have c1 := (HZ.out.cell HL.out.symm (x / 8).toNat (by omega)).1
  have c2 := (HZ.out.cell HL.out.symm (x / 8).toNat (by omega)).2
  have gb : g < w.heap.size := block_of_cell c1
  have q0 : 0 ≤ x / 8 := by omega
  have q1 : x / 8 < 8 := by omega
  have HG : Hid (goesB rs x k = !(bits BinOp.and .i64 (rs.getD (x / 8).toNat (0, 0)).2 k == 0)) := by show _ = _; unfold goesB; simp [h3, h4]
  have HT : Hid (goesTo rs x = (rs.getD (x / 8).toNat (0, 0)).1 * 8 + x % 8) := rfl
  generalize (rs.getD (x / 8).toNat (0, 0)).1 = p at *
  generalize (rs.getD (x / 8).toNat (0, 0)).2 = q at *
  obtain ⟨p1, p2, p3, p4, p5⟩ := hz
  by_cases hp : p < 0
  · have hq0 : q = 0 := p5 (by omega)
    have hgo : goesB rs x k = false := by rw [HG.out, hq0, band_zero]; rfl
    have e1 : goesV rs x k = -1 := by simp [goesV, hgo]
    rw [e1]
    clear e1 hgo p3 p4 p5 hq0
    go_enter Try.func90, Try.ntmps90
    go_wp2_with (go_at_call 81; refine (spec_in _ _ _ _).mono ?_; rintro e y ⟨rfl, rfl⟩; rw [h1])
    go_ret
    exact ⟨rfl, al (Below.refl _ _) _⟩
  cases hq : (bits BinOp.and .i64 q k == 0)
  · have hgo : goesB rs x k = true := by rw [HG.out, hq]; rfl
    have e1 : goesV rs x k = p * 8 + x % 8 := by simp [goesV, hgo, HT.out]
    rw [e1]
    clear e1 hgo p3 p4 p5
    go_enter Try.func90, Try.ntmps90
    go_wp2_with (go_at_call 81; refine (spec_in _ _ _ _).mono ?_; rintro e y ⟨rfl, rfl⟩; rw [h1])
    go_ret
    exact ⟨rfl, al (Below.refl _ _) _⟩
  · have hgo : goesB rs x k = false := by rw [HG.out, hq]; rfl
    have e1 : goesV rs x k = -1 := by simp [goesV, hgo]
    rw [e1]
    clear e1 hgo p3 p4 p5
    go_enter Try.func90, Try.ntmps90
    go_wp2_with (go_at_call 81; refine (spec_in _ _ _ _).mono ?_; rintro e y ⟨rfl, rfl⟩; rw [h1])
    go_ret
    exact ⟨rfl, al (Below.refl _ _) _⟩

set_option maxHeartbeats 1000000 in
theorem spec_walkPages (v : Value) (rs : List (Int × Int)) (x k : Int) (b : Nat) (w : World) (h : Prs 86 w b v rs) (hm : rs.length ≤ 1048576) :
    Calls Try.prog 35 #[v, .int .i64 x, .int .i64 k] w fun e w' => e = .returned (.agg #[.int .i64 (wpC rs x k), .int .i64 (wpV rs x k)]) ∧ Below w.heap.size w w' := by
  have hF := fun u (q : Below w.heap.size w u) => spec_fault v rs 24 b u (h.keep q) hm
  by_cases hc : pgsV rs 24 = 0
  case neg =>
    have e1 : wpC rs x k = pgsV rs 24 := if_neg hc
    have e2 : wpV rs x k = 0 := if_neg hc
    rw [e1, e2]
    have g : (pgsV rs 24 != 0) = true := by simpa using hc
    clear e1 e2 hc
    generalize pgsV rs 24 = c at *
    obtain ⟨a, cap, rfl, l1, l2, hg⟩ := h.shape
    clear h l1 l2 hg
    go_enter Try.func35, Try.ntmps35
    go_wp2_with fail
    refine (hF _ (al (Below.refl _ _) _)).mono ?_
    rintro e w1 ⟨rfl, rfl⟩
    clear hF
    go_wp2_with fail
    exact bodyPost_ret (v := .agg #[.int .i64 c, .int .i64 0]) (by simp [results, Try.results35, go_sem]) rfl ⟨rfl, al (Below.refl _ _) _⟩
  have e1 : wpC rs x k = wkC rs x k := if_pos hc
  have e2 : wpV rs x k = wkV rs x k := if_pos hc
  obtain ⟨_, _, hl8, hok⟩ := pgsV_zero hc
  rw [e1, e2]
  rw [hc] at hF
  clear e1 e2 hc
  cases hk : kindB k
  · have e1 : wkC rs x k = 3 := by simp [wkC, hk]
    have e2 : wkV rs x k = 0 := by simp [wkV, hk]
    rw [e1, e2]
    obtain ⟨a, cap, rfl, l1, l2, hg⟩ := h.shape
    clear e1 e2 h l1 l2 hg hl8 hok hm
    go_enter Try.func35, Try.ntmps35
    go_wp2_with fail
    refine (hF _ (al (Below.refl _ _) _)).mono ?_
    rintro e w1 ⟨rfl, rfl⟩
    clear hF
    go_wp2_with (go_at_call 89; refine (spec_kind _ _).mono ?_; rintro e w1 ⟨rfl, rfl⟩; rw [hk])
    exact bodyPost_ret (v := .agg #[.int .i64 3, .int .i64 0]) (by simp [results, Try.results35, go_sem]) rfl ⟨rfl, al (Below.refl _ _) _⟩
  have hW := fun u (q : Below w.heap.size w u) => spec_l4walk v rs x k b u (h.keep q) hl8 hok
  cases hg : goesB rs x k
  · have e1 : wkC rs x k = kindV k := by simp [wkC, hk, hg]
    have e2 : wkV rs x k = 0 := by simp [wkV, hk, hg]
    have e3 : goesV rs x k = -1 := by simp [goesV, hg]
    rw [e3] at hW
    rw [e1, e2]
    obtain ⟨a, cap, rfl, l1, l2, hgg⟩ := h.shape
    have hV := fun w => spec_kindV k w hk
    generalize kindV k = kv at *
    clear e1 e2 e3 hg h l1 l2 hgg hl8 hok hm
    go_enter Try.func35, Try.ntmps35
    go_wp2_with fail
    refine (hF _ (al (Below.refl _ _) _)).mono ?_
    rintro e w1 ⟨rfl, rfl⟩
    clear hF
    go_wp2_with (go_at_call 89; refine (spec_kind _ _).mono ?_; rintro e w1 ⟨rfl, rfl⟩; rw [hk])
    refine (hW _ (al (Below.refl _ _) _)).mono ?_
    rintro e w2 ⟨rfl, b2⟩
    have k0 := cell_keep b2 (cell_new (i := 0) rfl)
    have k1 := cell_keep b2 (cell_new (i := 1) rfl)
    have B2 : Hid (Below w.heap.size w w2) := on (al (Below.refl _ _) _) b2
    have z0 : w2.frozen? ⟨w.heap.size, 0, none⟩ = false := by rw [(bcell b2).2 _ _ (by simp)]; simp
    have z1 : w2.frozen? ⟨w.heap.size, 1, none⟩ = false := by rw [(bcell b2).2 _ _ (by simp)]; simp
    clear b2 hW
    go_wp2_with fail
    refine (hV _).mono ?_
    rintro e w3 ⟨rfl, rfl⟩
    go_wp2_with fail
    exact bodyPost_ret (v := .agg #[.int .i64 kv, .int .i64 0]) (by simp [results, Try.results35, go_sem, k0, k1]) rfl ⟨rfl, (B2.out.setCell (by simp) _).setCell (by simp) _⟩
  · have e1 : wkC rs x k = 0 := by simp [wkC, hk, hg]
    have e2 : wkV rs x k = goesTo rs x := by simp [wkV, hk, hg]
    have e3 : goesV rs x k = goesTo rs x := by simp [goesV, hg]
    obtain ⟨r1, r2, r3, r4⟩ := goes_in hok hg
    have hn : ¬ goesTo rs x < 0 := by unfold goesTo; omega
    rw [e3] at hW
    rw [e1, e2]
    obtain ⟨a, cap, rfl, l1, l2, hgg⟩ := h.shape
    generalize goesTo rs x = y at *
    clear e1 e2 e3 hg h l1 l2 hgg hl8 hok hm r1 r2 r3 r4
    go_enter Try.func35, Try.ntmps35
    go_wp2_with fail
    refine (hF _ (al (Below.refl _ _) _)).mono ?_
    rintro e w1 ⟨rfl, rfl⟩
    clear hF
    go_wp2_with (go_at_call 89; refine (spec_kind _ _).mono ?_; rintro e w1 ⟨rfl, rfl⟩; rw [hk])
    refine (hW _ (al (Below.refl _ _) _)).mono ?_
    rintro e w2 ⟨rfl, b2⟩
    have k0 := cell_keep b2 (cell_new (i := 0) rfl)
    have k1 := cell_keep b2 (cell_new (i := 1) rfl)
    have B2 : Hid (Below w.heap.size w w2) := on (al (Below.refl _ _) _) b2
    have z0 : w2.frozen? ⟨w.heap.size, 0, none⟩ = false := by rw [(bcell b2).2 _ _ (by simp)]; simp
    have z1 : w2.frozen? ⟨w.heap.size, 1, none⟩ = false := by rw [(bcell b2).2 _ _ (by simp)]; simp
    clear b2 hW
    go_wp2_with fail
    exact bodyPost_ret (v := .agg #[.int .i64 0, .int .i64 y]) (by simp [results, Try.results35, go_sem, k0, k1]) rfl ⟨rfl, (B2.out.setCell (by simp) _).setCell (by simp) _⟩
end Go.Proofs.Ytighhjkokjpgfaa
