/- Words are put into a memory. -/
import Derived.Test.YtedjnokeknmbaaaCut
namespace Go.Proofs.Ytedjnokeknmbaaa
open Go.RowKit
set_option linter.unusedVariables false

/-- The first j of ys stand in zs from place a on. -/
def putN (zs : List Int) (a : Nat) (ys : List Int) : Nat → List Int
  | 0 => zs
  | j + 1 => (putN zs a ys j).set (a + j) (wd (ys.getD j 0))
theorem putN_length (zs : List Int) (a : Nat) (ys : List Int) (j : Nat) : (putN zs a ys j).length = zs.length := by
  induction j with
  | zero => rfl
  | succ j ih => simp [putN, ih]

theorem Pags.store {w : World} {base g p cap : Nat} {zs : List Int} (h : Pags w base (.slice (some ⟨g, 0, none⟩) p cap) p zs) (j : Nat) (x : Int) :
    Pags (w.setCell ⟨g, j, none⟩ (.int .i64 x)) base (.slice (some ⟨g, 0, none⟩) p cap) p (zs.set j x) := by
  obtain ⟨h1, h2⟩ := World.ownsRow.stored h j (.int .i64 x)
  unfold Pags
  rw [List.map_set]
  exact h1
theorem Pags.free {w : World} {base g p cap : Nat} {zs : List Int} (h : Pags w base (.slice (some ⟨g, 0, none⟩) p cap) p zs) (j : Nat) : w.frozen? ⟨g, j, none⟩ = false := World.ownsRow.frozenAt h j
theorem Pags.lt {w : World} {base g p cap : Nat} {zs : List Int} (h : Pags w base (.slice (some ⟨g, 0, none⟩) p cap) p zs) : base ≤ g ∧ g < w.heap.size := World.ownsRow.lt h g rfl

set_option maxHeartbeats 2000000 in
theorem impl_with (gm n cap : Nat) (zs : List Int) (b p a : Nat) (v : Value) (ys : List Int) (b2 : Nat) (w : World) (h : Nums w b (.slice (some ⟨gm, 0, none⟩) n cap) zs) (hy : Nums w b2 v ys) (hz : zs.length = p * 8) (hp : p ≤ 24) (hp0 : 1 ≤ p) (ha : a + ys.length ≤ zs.length ∨ ys.length = 0) (ha2 : (a : Int) ≤ 9223372036854775807) :
    Calls Try.prog 61 #[.slice (some ⟨gm, 0, none⟩) n cap, .int .i64 a, v] w fun e w' => ∃ u, e = .returned u ∧ Nums w' w.heap.size u (putN zs a ys ys.length) ∧ Below w.heap.size w w' := by
  obtain ⟨av, cv, rfl, _, _, hg⟩ := hy.shape
  have HY : Hid (Nums w b2 _ ys) := hy
  have HM : Hid (Nums w b _ zs) := h
  have HZ : Hid (zs.length = p * 8 ∧ 1 ≤ p ∧ p ≤ 24) := ⟨hz, hp0, hp⟩
  have HA : Hid (a + ys.length ≤ zs.length ∨ ys.length = 0) := ha
  obtain ⟨m, hm⟩ : ∃ m, ys.length = m := ⟨_, rfl⟩
  rw [hm] at HY hg HA ⊢
  have HYL : Hid (ys.length = m) := hm
  have hmi : (m : Int) ≤ 192 := by omega
  clear h hy hz hp hp0 hm ha
  go_enter Try.func61, Try.ntmps61
  go_wp2_with fail
  refine (impl_cut _ _ _ _ _ _ _ HM.out HZ.out.1 HZ.out.2.2 HZ.out.2.1).mono ?_
  rintro e w1 ⟨g, rfl, p1, b1⟩
  have P1 : Hid (Pags w1 _ _ p zs) := p1
  have B1 : Hid (Below _ w w1) := b1
  clear p1 b1
  go_wp2_with fail
  go_loopw [8, 9, 10, 15] (fun _ _ _ c wr => ∃ j : Nat, j ≤ m ∧ c = .int .i64 j ∧ Pags wr w.heap.size (.slice (some ⟨g, 0, none⟩) p p) p (putN zs a ys j) ∧ Below w.heap.size w wr) (fun _ _ _ c _ => m - (intOf c).toNat)
  case atStart => exact ⟨0, Nat.zero_le _, rfl, P1.out, B1.out⟩
  case round =>
    obtain ⟨j, hj, rfl, hP, hB⟩ := hrel
    have HP : Hid (Pags wr _ _ p _) := hP
    have HB : Hid (Below _ _ _) := hB
    by_cases hlt : j < m
    · obtain ⟨gy, rfl⟩ := hg (by omega)
      have c1 := cell_keep hB (HY.out.cell HYL.out.symm j hlt)
      have hq1 : a + j < p * 8 := by have := HA.out; have := HZ.out; omega
      have c2 := hP.cell (a + j) hq1
      have f2 := hP.free (a + j)
      obtain ⟨q, r, hqr, hr8⟩ : ∃ q r, a + j = q * 8 + r ∧ r < 8 := ⟨(a + j) / 8, (a + j) % 8, by omega, by omega⟩
      have hJ : (j : Int) < (m : Int) := by omega
      have hq : ((a : Int) + (j : Int)) / 8 = (q : Int) := by omega
      have hr : ((a : Int) + (j : Int)) % 8 = (r : Int) := by omega
      have hqp : (q : Int) < (p : Int) := by omega
      have hr8' : (r : Int) < 8 := by omega
      have HQ : Hid (a + j = q * 8 + r) := hqr
      have HLT : Hid (j < m) := hlt
      have hai : (a : Int) ≤ 192 := by have := HZ.out; omega
      have e1 : ((a : Int) + (j : Int)).tdiv 8 = (q : Int) := by rw [Int.tdiv_eq_ediv_of_nonneg (by omega)]; exact hq
      have e2 : ((a : Int) + (j : Int)).tmod 8 = (r : Int) := by rw [Int.tmod_eq_emod_of_nonneg (by omega)]; exact hr
      have e3 : IntKind.i64.wrap (q : Int) = (q : Int) := by rw [IntKind.wrap_i64]; have := HZ.out; omega
      have e4 : IntKind.i64.wrap (r : Int) = (r : Int) := by rw [IntKind.wrap_i64]; omega
      rw [hqr] at c2 f2
      obtain ⟨y, hy⟩ : ∃ y, ys.getD j 0 = y := ⟨_, rfl⟩
      have HYY : Hid (ys.getD j 0 = y) := hy
      rw [hy] at c1
      clear hP hB hlt hy hqr hr8 hq1
      go_wp2_with fail
      go_region_with (go_at_call 19; refine (impl_wrap _ _).mono ?_; rintro e x ⟨rfl, rfl⟩)
      have PB : Hid (Pags (wr.setCell ⟨g, q * 8 + r, none⟩ (.int .i64 (wd y))) w.heap.size (.slice (some ⟨g, 0, none⟩) p p) p (putN zs a ys (j + 1))) := by
        have h1 := HP.out.store (q * 8 + r) (wd y)
        rw [← HQ.out, ← HYY.out] at h1
        rw [← HQ.out, ← HYY.out]
        exact h1
      have BB : Hid (Below w.heap.size w (wr.setCell ⟨g, q * 8 + r, none⟩ (.int .i64 (wd y)))) := HB.out.setCell HP.out.lt.1 _
      clear c1 c2 f2 hq hr e1 e2 e3 e4
      go_wp2_with fail
      go_roundw
      case rel => exact ⟨j + 1, by have := HLT.out; omega, by go_num, PB.out, BB.out.drew⟩
      case measure => have := HLT.out; simp [intOf]; omega
    · have hJ : ¬ (j : Int) < (m : Int) := by omega
      obtain rfl : j = m := by omega
      clear hP hB
      go_wp2_with fail
      refine (impl_join _ _ _ _ _ _ HP.out HZ.out.2.2).mono ?_
      rintro e w2 ⟨u, rfl, n2, b2⟩
      have N2 : Hid (Nums w2 _ u _) := n2.mono HB.out.size
      have B2 : Hid (Below _ w w2) := on HB.out b2
      clear n2 b2
      go_wp2_with fail
      go_ret
      exact ⟨_, rfl, N2.out, B2.out⟩
end Go.Proofs.Ytedjnokeknmbaaa
