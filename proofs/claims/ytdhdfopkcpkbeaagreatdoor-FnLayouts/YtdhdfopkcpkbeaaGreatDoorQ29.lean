/- Texts of this seat, joined. -/
import Derived.Test.YtdhdfopkcpkbeaaGreatDoorQ24
namespace Go.Proofs.YtdhdfopkcpkbeaaGreatDoor
open Go.RowKit
set_option linter.unusedVariables false

/-- Code and value of WalkPages. -/
def wpC (rs : List (Int × Int)) (x k : Int) : Int := if pgsV rs 24 = 0 then wkC rs x k else pgsV rs 24
def wpV (rs : List (Int × Int)) (x k : Int) : Int := if pgsV rs 24 = 0 then wkV rs x k else 0
theorem thr_one (rs : List (Int × Int)) (x k : Int) : thr [rs] x k = (wkC rs x k, wkV rs x k) := by
  rw [thr]
  split
  · next h => rw [thr, h]
  · rfl
set_option maxHeartbeats 1000000 in
theorem impl_walkPages (v : Value) (rs : List (Int × Int)) (x k : Int) (b : Nat) (w : World) (h : Prs 96 w b v rs) (hm : rs.length ≤ 1048576) :
    Calls Tryz.prog 11 #[v, .int .i64 x, .int .i64 k] w fun e w' => e = .returned (.agg #[.int .i64 (wpC rs x k), .int .i64 (wpV rs x k)]) ∧ Below w.heap.size w w' := by
  have hF := fun u (q : Below w.heap.size w u) => impl_fault v rs 24 b u (h.keep q) hm
  by_cases hc : pgsV rs 24 = 0
  case neg =>
    have e1 : wpC rs x k = pgsV rs 24 := if_neg hc
    have e2 : wpV rs x k = 0 := if_neg hc
    rw [e1, e2]
    have g : (pgsV rs 24 != 0) = true := by simpa using hc
    clear e1 e2 hc
    generalize pgsV rs 24 = c at *
    obtain ⟨a, cap, rfl, l1, l2, hg⟩ := h.shape
    clear h l1 l2 hg
    go_enter Tryz.func11, Tryz.ntmps11
    go_wp2_with fail
    refine (hF _ (al (Below.refl _ _) _)).mono ?_
    rintro e w1 ⟨rfl, b1⟩
    have k0 := cell_keep b1 (cell_new (i := 0) rfl)
    have k1 := cell_keep b1 (cell_new (i := 1) rfl)
    have B1 : Hid (Below w.heap.size w w1) := on (al (Below.refl _ _) _) b1
    have z0 : w1.frozen? ⟨w.heap.size, 0, none⟩ = false := by rw [(bcell b1).2 _ _ (by simp)]; simp
    have z1 : w1.frozen? ⟨w.heap.size, 1, none⟩ = false := by rw [(bcell b1).2 _ _ (by simp)]; simp
    clear b1 hF
    go_wp2_with fail
    exact bodyPost_ret (v := .agg #[.int .i64 c, .int .i64 0]) (by simp [results, Tryz.results11, go_sem, k0, k1]) rfl ⟨rfl, (B1.out.setCell (by simp) _).setCell (by simp) _⟩
  have e1 : wpC rs x k = wkC rs x k := if_pos hc
  have e2 : wpV rs x k = wkV rs x k := if_pos hc
  obtain ⟨_, _, hl8, hok⟩ := pgsV_zero hc
  rw [e1, e2]
  rw [hc] at hF
  have HT := thr_one rs x k
  have ht := fun S w (hS : S < w.heap.size) hh => impl_through x k S 1 [rs] w rfl (by omega) hS hh
  rw [HT] at ht
  simp only at ht
  have HP : Hid (Prs 96 w b v rs) := h
  have HO : Hid (rs.length = 8 ∧ okTo 24 rs 8) := ⟨hl8, hok⟩
  obtain ⟨a, cap, hv, l1, l2, hg⟩ := h.shape
  generalize rs.length = n at hv
  generalize wkC rs x k = c at *
  generalize wkV rs x k = y at *
  subst hv
  clear h hc e1 e2 HT hl8 hok l1 l2 hg hm
  go_enter Tryz.func11, Tryz.ntmps11
  go_wp2_with fail
  refine (hF _ (al (Below.refl _ _) _)).mono ?_
  rintro e w1 ⟨rfl, b1⟩
  have k0 := cell_keep b1 (cell_new (i := 0) rfl)
  have k1 := cell_keep b1 (cell_new (i := 1) rfl)
  have s0 : w.heap.size < w1.heap.size := block_of_cell k0
  have B1 : Hid (Below w.heap.size w w1) := on (al (Below.refl _ _) _) b1
  have z0 : w1.frozen? ⟨w.heap.size, 0, none⟩ = false := by rw [(bcell b1).2 _ _ (by simp)]; simp
  have z1 : w1.frozen? ⟨w.heap.size, 1, none⟩ = false := by rw [(bcell b1).2 _ _ (by simp)]; simp
  clear b1 hF
  go_wp2_with fail
  refine (ht _ _ (by simp) ?_).mono ?_
  · intro j hj
    obtain rfl : j = 0 := by omega
    exact ⟨_, b, cell_new rfl, HP.out.keep (al B1.out _), HO.out.1, HO.out.2⟩
  rintro e w2 ⟨rfl, b2⟩
  have k0 := cell_keep b2 (cell_push _ k0)
  have k1 := cell_keep b2 (cell_push _ k1)
  have z0 : w2.frozen? ⟨w.heap.size, 0, none⟩ = false := by rw [(on (al (Below.refl _ _) _) b2).frozen (p := ⟨w.heap.size, 0, none⟩) s0]; exact z0
  have z1 : w2.frozen? ⟨w.heap.size, 1, none⟩ = false := by rw [(on (al (Below.refl _ _) _) b2).frozen (p := ⟨w.heap.size, 1, none⟩) s0]; exact z1
  have B2 : Hid (Below w.heap.size w w2) := on (al B1.out _) b2
  clear b2 ht
  go_wp2_with fail
  exact bodyPost_ret (v := .agg #[.int .i64 c, .int .i64 y]) (by simp [results, Tryz.results11, go_sem, k0, k1]) rfl ⟨rfl, (B2.out.setCell (by simp) _).setCell (by simp) _⟩
end Go.Proofs.YtdhdfopkcpkbeaaGreatDoor
