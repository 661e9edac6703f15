/- WalkBoth, by program and model. -/
import Derived.Test.YtighhjkokjpgfaaPgx
namespace Go.Proofs.Ytighhjkokjpgfaa
open Go.RowKit
set_option linter.unusedVariables false

theorem IsPairs.max {w : World} {a : Option Addr} {len cap : Nat} {rs : List (Int × Int)} (h : IsPairs w a len cap rs) : len ≤ 9223372036854775807 := by
  rcases h with ⟨_, h1, _, _⟩ | ⟨x, _, h1, h2, _⟩
  · omega
  · unfold maxLen at h2; omega

/-- The fault of two lists. -/
def twoV (rs : List (Int × Int)) (top : Int) (qs : List (Int × Int)) : Int := if pgsV rs top = 0 then pgsV qs 24 else pgsV rs top
def wbC (rs qs : List (Int × Int)) (x k : Int) : Int := if twoV rs 8 qs = 0 then (thr [rs, qs] x k).1 else twoV rs 8 qs
def wbV (rs qs : List (Int × Int)) (x k : Int) : Int := if twoV rs 8 qs = 0 then (thr [rs, qs] x k).2 else 0
theorem twoV_zero {rs qs : List (Int × Int)} {top : Int} (h : twoV rs top qs = 0) : pgsV rs top = 0 ∧ pgsV qs 24 = 0 := by
  unfold twoV at h
  split at h
  · next h1 => exact ⟨h1, h⟩
  · next h1 => exact absurd h h1
theorem okTo_mono {rs : List (Int × Int)} {t : Int} {j : Nat} (h : okTo t rs j) (ht : t ≤ 24) : okTo 24 rs j := by
  intro i hi
  obtain ⟨p1, p2, p3, p4, p5⟩ := pgC_zero (h i hi)
  exact pgC_ok (by omega) (by omega)
theorem pgsV_mono {rs : List (Int × Int)} {t : Int} (h : pgsV rs t = 0) : pgsV rs 24 = 0 := by
  obtain ⟨h1, h2, h3, h4⟩ := pgsV_zero h
  exact pgsV_ok (by omega) (by omega) h3 (okTo_mono h4 h2)

set_option maxHeartbeats 1000000 in
theorem impl_two (v u : Value) (rs qs : List (Int × Int)) (top : Int) (b b' : Nat) (w : World) (h : Prs 86 w b v rs) (k : Prs 86 w b' u qs) (hm : rs.length ≤ 1048576) (km : qs.length ≤ 1048576) :
    Calls Try.prog 62 #[v, .int .i64 top, u] w fun e w' => e = .returned (.int .i64 (twoV rs top qs)) ∧ Below w.heap.size w w' := by
  have hF := impl_fault v rs top b w h hm
  have kF := fun w1 (q : Below w.heap.size w w1) => impl_fault u qs 24 b' w1 (k.keep q) km
  obtain ⟨a, cap, rfl, _, _, _⟩ := h.shape
  obtain ⟨a', cap', rfl, _, _, _⟩ := k.shape
  unfold twoV
  clear h k
  by_cases hc : pgsV rs top = 0
  · rw [if_pos hc]
    rw [hc] at hF
    clear hc
    generalize pgsV qs 24 = c at *
    go_enter Try.func62, Try.ntmps62
    go_wp2_with fail
    refine hF.mono ?_
    rintro e w1 ⟨rfl, b1⟩
    go_wp2_with fail
    refine (kF _ b1).mono ?_
    rintro e w2 ⟨rfl, b2⟩
    go_wp2_with fail
    go_ret
    exact ⟨rfl, on b1 b2⟩
  · rw [if_neg hc]
    have g : (pgsV rs top != 0) = true := by simpa using hc
    generalize pgsV rs top = c at *
    clear hc kF
    go_enter Try.func62, Try.ntmps62
    go_wp2_with fail
    refine hF.mono ?_
    rintro e w1 ⟨rfl, b1⟩
    go_wp2_with fail
    go_ret
    exact ⟨rfl, b1⟩

set_option maxHeartbeats 1000000 in
theorem spec_two (v u : Value) (rs qs : List (Int × Int)) (b b' : Nat) (w : World) (h : Prs 86 w b v rs) (k : Prs 86 w b' u qs) (hm : rs.length ≤ 1048576) (km : qs.length ≤ 1048576) :
    Calls Try.prog 64 #[v, u] w fun e w' => e = .returned (.int .i64 (twoV rs 8 qs)) ∧ w' = w := by
  have hF := spec_fault v rs 8 b w h hm
  have kF := spec_fault u qs 24 b' w k km
  obtain ⟨a, cap, rfl, _, _, _⟩ := h.shape
  obtain ⟨a', cap', rfl, _, _, _⟩ := k.shape
  unfold twoV
  clear h k
  by_cases hc : pgsV rs 8 = 0
  · rw [if_pos hc]
    rw [hc] at hF
    clear hc
    generalize pgsV qs 24 = c at *
    go_enter Try.func64, Try.ntmps64
    go_wp2_with fail
    refine hF.mono ?_
    rintro e w1 ⟨rfl, rfl⟩
    go_wp2_with fail
    refine kF.mono ?_
    rintro e w2 ⟨rfl, rfl⟩
    go_wp2_with fail
    go_ret
    exact ⟨rfl, rfl⟩
  · rw [if_neg hc]
    have g : (pgsV rs 8 != 0) = true := by simpa using hc
    generalize pgsV rs 8 = c at *
    clear hc kF
    go_enter Try.func64, Try.ntmps64
    go_wp2_with fail
    refine hF.mono ?_
    rintro e w1 ⟨rfl, rfl⟩
    go_wp2_with fail
    go_ret
    exact ⟨rfl, rfl⟩

set_option maxHeartbeats 1000000 in
theorem impl_walkBoth (v u : Value) (rs qs : List (Int × Int)) (x k : Int) (b b' : Nat) (w : World) (h : Prs 86 w b v rs) (kk : Prs 86 w b' u qs) (hm : rs.length ≤ 1048576) (km : qs.length ≤ 1048576) :
    Calls Try.prog 19 #[v, u, .int .i64 x, .int .i64 k] w fun e w' => e = .returned (.agg #[.int .i64 (wbC rs qs x k), .int .i64 (wbV rs qs x k)]) ∧ Below w.heap.size w w' := by
  have hF := fun w1 (q : Below w.heap.size w w1) => impl_two v u rs qs 8 b b' w1 (h.keep q) (kk.keep q) hm km
  by_cases hc : twoV rs 8 qs = 0
  case neg =>
    have e1 : wbC rs qs x k = twoV rs 8 qs := if_neg hc
    have e2 : wbV rs qs x k = 0 := if_neg hc
    rw [e1, e2]
    have g : (twoV rs 8 qs != 0) = true := by simpa using hc
    clear e1 e2 hc
    generalize twoV rs 8 qs = c at *
    obtain ⟨a, cap, rfl, _, _, _⟩ := h.shape
    obtain ⟨a', cap', rfl, _, _, _⟩ := kk.shape
    clear h kk
    go_enter Try.func19, Try.ntmps19
    go_wp2_with fail
    refine (hF _ (al (Below.refl _ _) _)).mono ?_
    rintro e w1 ⟨rfl, b1⟩
    have k0 := cell_keep b1 (cell_new (i := 0) rfl)
    have k1 := cell_keep b1 (cell_new (i := 1) rfl)
    have B1 : Hid (Below w.heap.size w w1) := on (al (Below.refl _ _) _) b1
    have z0 : w1.frozen? ⟨w.heap.size, 0, none⟩ = false := by rw [(bcell b1).2 _ _ (by simp)]; simp
    have z1 : w1.frozen? ⟨w.heap.size, 1, none⟩ = false := by rw [(bcell b1).2 _ _ (by simp)]; simp
    clear b1 hF
    go_wp2_with fail
    exact bodyPost_ret (v := .agg #[.int .i64 c, .int .i64 0]) (by simp [results, Try.results19, go_sem, k0, k1]) rfl ⟨rfl, (B1.out.setCell (by simp) _).setCell (by simp) _⟩
  have e1 : wbC rs qs x k = (thr [rs, qs] x k).1 := if_pos hc
  have e2 : wbV rs qs x k = (thr [rs, qs] x k).2 := if_pos hc
  obtain ⟨z1, z2⟩ := twoV_zero hc
  obtain ⟨_, _, hl8, hok⟩ := pgsV_zero (pgsV_mono z1)
  obtain ⟨_, _, kl8, kok⟩ := pgsV_zero z2
  rw [e1, e2]
  rw [hc] at hF
  have ht := fun S w (hS : S < w.heap.size) hh => impl_through x k S 2 [rs, qs] w rfl (by omega) hS hh
  have HP : Hid (Prs 86 w b v rs) := h
  have KP : Hid (Prs 86 w b' u qs) := kk
  have HO : Hid ((rs.length = 8 ∧ okTo 24 rs 8) ∧ qs.length = 8 ∧ okTo 24 qs 8) := ⟨⟨hl8, hok⟩, kl8, kok⟩
  obtain ⟨a, cap, hv, _, _, _⟩ := h.shape
  obtain ⟨a', cap', hu, _, _, _⟩ := kk.shape
  generalize rs.length = n at hv
  generalize qs.length = n' at hu
  generalize (thr [rs, qs] x k).1 = c at *
  generalize (thr [rs, qs] x k).2 = y at *
  subst hv hu
  clear h kk hc e1 e2 hl8 hok kl8 kok hm km z1 z2
  go_enter Try.func19, Try.ntmps19
  go_wp2_with fail
  refine (hF _ (al (Below.refl _ _) _)).mono ?_
  rintro e w1 ⟨rfl, b1⟩
  have k0 := cell_keep b1 (cell_new (i := 0) rfl)
  have k1 := cell_keep b1 (cell_new (i := 1) rfl)
  have s0 : w.heap.size < w1.heap.size := block_of_cell k0
  have B1 : Hid (Below w.heap.size w w1) := on (al (Below.refl _ _) _) b1
  have z0 : w1.frozen? ⟨w.heap.size, 0, none⟩ = false := by rw [(bcell b1).2 _ _ (by simp)]; simp
  have z1 : w1.frozen? ⟨w.heap.size, 1, none⟩ = false := by rw [(bcell b1).2 _ _ (by simp)]; simp
  clear b1 hF
  go_wp2_with fail
  refine (ht _ _ (by simp) ?_).mono ?_
  · intro j hj
    have hj2 : j = 0 ∨ j = 1 := by omega
    rcases hj2 with rfl | rfl
    · exact ⟨_, b, cell_new rfl, HP.out.keep (al B1.out _), HO.out.1.1, HO.out.1.2⟩
    · exact ⟨_, b', cell_new rfl, KP.out.keep (al B1.out _), HO.out.2.1, HO.out.2.2⟩
  rintro e w2 ⟨rfl, b2⟩
  have k0 := cell_keep b2 (cell_push _ k0)
  have k1 := cell_keep b2 (cell_push _ k1)
  have z0 : w2.frozen? ⟨w.heap.size, 0, none⟩ = false := by rw [(on (al (Below.refl _ _) _) b2).frozen (p := ⟨w.heap.size, 0, none⟩) s0]; exact z0
  have z1 : w2.frozen? ⟨w.heap.size, 1, none⟩ = false := by rw [(on (al (Below.refl _ _) _) b2).frozen (p := ⟨w.heap.size, 1, none⟩) s0]; exact z1
  have B2 : Hid (Below w.heap.size w w2) := on (al B1.out _) b2
  clear b2 ht
  go_wp2_with fail
  exact bodyPost_ret (v := .agg #[.int .i64 c, .int .i64 y]) (by simp [results, Try.results19, go_sem, k0, k1]) rfl ⟨rfl, (B2.out.setCell (by simp) _).setCell (by simp) _⟩

set_option maxHeartbeats 1000000 in
theorem spec_walkBoth (v u : Value) (rs qs : List (Int × Int)) (x k : Int) (b b' : Nat) (w : World) (h : Prs 86 w b v rs) (kk : Prs 86 w b' u qs) (hm : rs.length ≤ 1048576) (km : qs.length ≤ 1048576) :
    Calls Try.prog 39 #[v, u, .int .i64 x, .int .i64 k] w fun e w' => e = .returned (.agg #[.int .i64 (wbC rs qs x k), .int .i64 (wbV rs qs x k)]) ∧ Below w.heap.size w w' := by
  have hF := fun w1 (q : Below w.heap.size w w1) => spec_two v u rs qs b b' w1 (h.keep q) (kk.keep q) hm km
  by_cases hc : twoV rs 8 qs = 0
  case neg =>
    have e1 : wbC rs qs x k = twoV rs 8 qs := if_neg hc
    have e2 : wbV rs qs x k = 0 := if_neg hc
    rw [e1, e2]
    have g : (twoV rs 8 qs != 0) = true := by simpa using hc
    clear e1 e2 hc
    generalize twoV rs 8 qs = c at *
    obtain ⟨a, cap, rfl, _, _, _⟩ := h.shape
    obtain ⟨a', cap', rfl, _, _, _⟩ := kk.shape
    clear h kk
    go_enter Try.func39, Try.ntmps39
    go_wp2_with fail
    refine (hF _ (al (Below.refl _ _) _)).mono ?_
    rintro e w1 ⟨rfl, rfl⟩
    clear hF
    go_wp2_with fail
    exact bodyPost_ret (v := .agg #[.int .i64 c, .int .i64 0]) (by simp [results, Try.results39, go_sem]) rfl ⟨rfl, al (Below.refl _ _) _⟩
  obtain ⟨z1, z2⟩ := twoV_zero hc
  have z3 := pgsV_mono z1
  have hW := fun w1 (q : Below w.heap.size w w1) => spec_walkPages v rs x k b w1 (h.keep q) hm
  have kW := fun y w1 (q : Below w.heap.size w w1) => spec_walkPages u qs y k b' w1 (kk.keep q) km
  simp only [wpC, wpV, z2, z3, if_true] at hW kW
  have e1 : wbC rs qs x k = if wkC rs x k = 0 then wkC qs (wkV rs x k) k else wkC rs x k := by rw [wbC, if_pos hc, thr_two]; split <;> rfl
  have e2 : wbV rs qs x k = if wkC rs x k = 0 then wkV qs (wkV rs x k) k else wkV rs x k := by rw [wbV, if_pos hc, thr_two]; split <;> rfl
  rw [hc] at hF
  rw [e1, e2]
  obtain ⟨a, cap, rfl, _, _, _⟩ := h.shape
  obtain ⟨a', cap', rfl, _, _, _⟩ := kk.shape
  have kW := kW (wkV rs x k)
  generalize wkC qs (wkV rs x k) k = c2 at *
  generalize wkV qs (wkV rs x k) k = y2 at *
  generalize wkC rs x k = c1 at *
  generalize wkV rs x k = y1 at *
  clear h kk hc e1 e2 hm km z1 z2 z3
  by_cases hc1 : c1 = 0
  · rw [if_pos hc1, if_pos hc1]
    subst hc1
    go_enter Try.func39, Try.ntmps39
    go_wp2_with fail
    refine (hF _ (al (Below.refl _ _) _)).mono ?_
    rintro e w1 ⟨rfl, rfl⟩
    clear hF
    go_wp2_with fail
    refine (hW _ (al (Below.refl _ _) _)).mono ?_
    rintro e w2 ⟨rfl, b2⟩
    have k0 := cell_keep b2 (cell_new (i := 0) rfl)
    have k1 := cell_keep b2 (cell_new (i := 1) rfl)
    have s0 : w.heap.size < w2.heap.size := block_of_cell k0
    have B2 : Hid (Below w.heap.size w w2) := on (al (Below.refl _ _) _) b2
    have z0 : w2.frozen? ⟨w.heap.size, 0, none⟩ = false := by rw [(bcell b2).2 _ _ (by simp)]; simp
    have z1 : w2.frozen? ⟨w.heap.size, 1, none⟩ = false := by rw [(bcell b2).2 _ _ (by simp)]; simp
    clear b2 hW
    go_wp2_with fail
    refine (kW _ (al B2.out _)).mono ?_
    rintro e w3 ⟨rfl, b3⟩
    have k0 := cell_keep b3 (cell_push _ k0)
    have k1 := cell_keep b3 (cell_push _ k1)
    have z0 : w3.frozen? ⟨w.heap.size, 0, none⟩ = false := by rw [(on (al (Below.refl _ _) _) b3).frozen (p := ⟨w.heap.size, 0, none⟩) s0]; exact z0
    have z1 : w3.frozen? ⟨w.heap.size, 1, none⟩ = false := by rw [(on (al (Below.refl _ _) _) b3).frozen (p := ⟨w.heap.size, 1, none⟩) s0]; exact z1
    have B3 : Hid (Below w.heap.size w w3) := on (al B2.out _) b3
    clear b3 kW
    go_wp2_with fail
    exact bodyPost_ret (v := .agg #[.int .i64 c2, .int .i64 y2]) (by simp [results, Try.results39, go_sem, k0, k1]) rfl ⟨rfl, (B3.out.setCell (by simp) _).setCell (by simp) _⟩
  · rw [if_neg hc1, if_neg hc1]
    have g : (c1 != 0) = true := by simpa using hc1
    clear kW hc1
    go_enter Try.func39, Try.ntmps39
    go_wp2_with fail
    refine (hF _ (al (Below.refl _ _) _)).mono ?_
    rintro e w1 ⟨rfl, rfl⟩
    clear hF
    go_wp2_with fail
    refine (hW _ (al (Below.refl _ _) _)).mono ?_
    rintro e w2 ⟨rfl, b2⟩
    have k0 := cell_keep b2 (cell_new (i := 0) rfl)
    have k1 := cell_keep b2 (cell_new (i := 1) rfl)
    have s0 : w.heap.size < w2.heap.size := block_of_cell k0
    have B2 : Hid (Below w.heap.size w w2) := on (al (Below.refl _ _) _) b2
    have z0 : w2.frozen? ⟨w.heap.size, 0, none⟩ = false := by rw [(bcell b2).2 _ _ (by simp)]; simp
    have z1 : w2.frozen? ⟨w.heap.size, 1, none⟩ = false := by rw [(bcell b2).2 _ _ (by simp)]; simp
    clear b2 hW
    go_wp2_with fail
    exact bodyPost_ret (v := .agg #[.int .i64 c1, .int .i64 y1]) (by simp [results, Try.results39, go_sem, k0, k1, s0]) rfl ⟨rfl, al ((B2.out.setCell (by simp) _).setCell (by simp) _) _⟩
end Go.Proofs.Ytighhjkokjpgfaa
