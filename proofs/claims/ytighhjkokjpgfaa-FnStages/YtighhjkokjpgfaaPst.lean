/- Two stages lead where the composed one leads; what composing two drawn lists answers where one has a fault. -/
import Derived.Test.YtighhjkokjpgfaaPcs
import Derived.Test.YtighhjkokjpgfaaPdb
namespace Go.Proofs.Ytighhjkokjpgfaa
open Go.RowKit
set_option linter.unusedVariables false

theorem band_fin : ∀ x y : Fin 8, (0 ≤ bits BinOp.and .i64 (x.val : Int) (y.val : Int) ∧ bits BinOp.and .i64 (x.val : Int) (y.val : Int) ≤ 7) ∧ (∀ k ∈ [(1 : Int), 2, 4], (bits BinOp.and .i64 (bits BinOp.and .i64 (x.val : Int) (y.val : Int)) k == 0) = (bits BinOp.and .i64 (x.val : Int) k == 0 || bits BinOp.and .i64 (y.val : Int) k == 0)) := by decide +kernel
theorem band_in {x y : Int} (h0 : 0 ≤ x) (h1 : x ≤ 7) (g0 : 0 ≤ y) (g1 : y ≤ 7) : 0 ≤ bits BinOp.and .i64 x y ∧ bits BinOp.and .i64 x y ≤ 7 := by
  obtain ⟨X, rfl⟩ : ∃ X : Fin 8, x = (X.val : Int) := ⟨⟨x.toNat, by omega⟩, by simp; omega⟩
  obtain ⟨Y, rfl⟩ : ∃ Y : Fin 8, y = (Y.val : Int) := ⟨⟨y.toNat, by omega⟩, by simp; omega⟩
  exact (band_fin X Y).1
theorem band_kind {x y k : Int} (h0 : 0 ≤ x) (h1 : x ≤ 7) (g0 : 0 ≤ y) (g1 : y ≤ 7) (hk : kindB k = true) : (bits BinOp.and .i64 (bits BinOp.and .i64 x y) k == 0) = (bits BinOp.and .i64 x k == 0 || bits BinOp.and .i64 y k == 0) := by
  obtain ⟨X, rfl⟩ : ∃ X : Fin 8, x = (X.val : Int) := ⟨⟨x.toNat, by omega⟩, by simp; omega⟩
  obtain ⟨Y, rfl⟩ : ∃ Y : Fin 8, y = (Y.val : Int) := ⟨⟨y.toNat, by omega⟩, by simp; omega⟩
  exact (band_fin X Y).2 k (by rcases kind_cases hk with rfl | rfl | rfl <;> simp)

theorem getD_map (f : Int × Int → Int × Int) (rs : List (Int × Int)) (i : Nat) (h : i < rs.length) : (rs.map f).getD i (0, 0) = f (rs.getD i (0, 0)) := by
  rw [List.getD, List.getD, List.getElem?_map, List.getElem?_eq_getElem h]
  rfl
/-- An entry of the composed list. -/
theorem cmp_at {rs qs : List (Int × Int)} (h : okTo 8 rs 8) (k : okTo 24 qs 8) {i : Nat} (hi : i < 8) :
    ((rs.getD i (0, 0)).1 = -1 ∧ (rs.getD i (0, 0)).2 = 0 ∧ cmpP qs (rs.getD i (0, 0)) = (-1, 0)) ∨
    ∃ A : Nat, A < 8 ∧ (rs.getD i (0, 0)).1 = A ∧ cmpP qs (rs.getD i (0, 0)) = forP (qs.getD A (0, 0)).1 (bits BinOp.and .i64 (rs.getD i (0, 0)).2 (qs.getD A (0, 0)).2) := by
  obtain ⟨p1, p2, p3, p4, p5⟩ := pgC_zero (h i hi)
  generalize rs.getD i (0, 0) = r at *
  by_cases hr : r.1 = -1
  · exact .inl ⟨hr, p5 hr, if_pos hr⟩
  · refine .inr ⟨r.1.toNat, by omega, by omega, ?_⟩
    rw [cmpP, if_neg hr]
theorem cmp_ok {rs qs : List (Int × Int)} (hl : rs.length = 8) (h : okTo 8 rs 8) (k : okTo 24 qs 8) : okTo 24 (rs.map (cmpP qs)) 8 := by
  intro i hi
  rw [getD_map _ _ _ (by omega)]
  obtain ⟨p1, p2, p3, p4, p5⟩ := pgC_zero (h i hi)
  rcases cmp_at h k hi with ⟨_, _, e⟩ | ⟨A, hA, e0, e⟩
  · rw [e]; decide
  · rw [e]
    obtain ⟨q1, q2, q3, q4, q5⟩ := pgC_zero (k A hA)
    generalize qs.getD A (0, 0) = t at *
    generalize (rs.getD i (0, 0)).2 = x at *
    have hb := band_in p3 p4 q3 q4
    unfold forP
    split
    · decide
    · next hz =>
      refine pgC_ok ⟨q1, q2, hb.1, hb.2⟩ ?_
      rintro ⟨ht, _⟩
      apply hz
      rw [q5 ht, band_zeroR]
theorem cmp_fault {rs qs : List (Int × Int)} (h : twoV rs 8 qs = 0) : pgsV (rs.map (cmpP qs)) 24 = 0 := by
  obtain ⟨z1, z2⟩ := twoV_zero h
  obtain ⟨_, _, hl, ho⟩ := pgsV_zero z1
  obtain ⟨_, _, kl, ko⟩ := pgsV_zero z2
  exact pgsV_ok (by omega) (by omega) (by rw [List.length_map]; exact hl) (cmp_ok hl ho ko)

theorem kindV_ne {k : Int} (h : kindB k = true) : kindV k ≠ 0 := by
  rcases kind_cases h with rfl | rfl | rfl <;> decide
theorem forP_snd (t m : Int) : (forP t m).2 = m := by
  unfold forP
  split
  · next h => exact h.symm
  · rfl

/-- Both stages lead where the composed one leads. -/
theorem stages_same {rs qs : List (Int × Int)} (h : twoV rs 8 qs = 0) (x k : Int) : wbC rs qs x k = wpC (rs.map (cmpP qs)) x k ∧ wbV rs qs x k = wpV (rs.map (cmpP qs)) x k := by
  have hf := cmp_fault h
  obtain ⟨z1, z2⟩ := twoV_zero h
  obtain ⟨_, _, hl, ho⟩ := pgsV_zero z1
  obtain ⟨_, _, kl, ko⟩ := pgsV_zero z2
  rw [wbC, wbV, wpC, wpV, if_pos h, if_pos h, if_pos hf, if_pos hf, thr_two]
  cases hk : kindB k
  · have e : ∀ l y, wkC l y k = 3 ∧ wkV l y k = 0 := fun l y => ⟨by simp [wkC, hk], by simp [wkV, hk]⟩
    rw [(e rs x).1, (e rs x).2, (e _ x).1, (e _ x).2]
    exact ⟨rfl, rfl⟩
  · have eT : ∀ l y, goesB l y k = true → wkC l y k = 0 ∧ wkV l y k = goesTo l y := fun l y hg => ⟨by simp [wkC, hk, hg], by simp [wkV, hk, hg]⟩
    have eF : ∀ l y, goesB l y k = false → wkC l y k = kindV k ∧ wkV l y k = 0 := fun l y hg => ⟨by simp [wkC, hk, hg], by simp [wkV, hk, hg]⟩
    have hn := kindV_ne hk
    by_cases hx : 0 ≤ x ∧ x ≤ 63
    case neg =>
      have hg : ∀ l, goesB l x k = false := fun l => by
        unfold goesB
        have : (decide (0 ≤ x) && decide (x ≤ 63)) = false := by simp; omega
        rw [this]; rfl
      rw [(eF rs x (hg _)).1, (eF rs x (hg _)).2, (eF _ x (hg _)).1, (eF _ x (hg _)).2, if_neg hn]
      exact ⟨rfl, rfl⟩
    obtain ⟨x0, x1⟩ := hx
    have hi : (x / 8).toNat < 8 := by omega
    have gx : ∀ l, goesB l x k = !(bits BinOp.and .i64 (l.getD (x / 8).toNat (0, 0)).2 k == 0) := fun l => by unfold goesB; simp [x0, x1]
    have gL := gx (rs.map (cmpP qs))
    rw [getD_map _ _ _ (by omega)] at gL
    have tL : goesTo (rs.map (cmpP qs)) x = (cmpP qs (rs.getD (x / 8).toNat (0, 0))).1 * 8 + x % 8 := by unfold goesTo; rw [getD_map _ _ _ (by omega)]
    obtain ⟨p1, p2, p3, p4, p5⟩ := pgC_zero (ho _ hi)
    rcases cmp_at ho ko hi with ⟨r1, r2, e⟩ | ⟨A, hA, e0, e⟩
    · have g1 : goesB rs x k = false := by rw [gx, r2, band_zero]; rfl
      have g2 : goesB (rs.map (cmpP qs)) x k = false := by rw [gL, e, band_zero]; rfl
      rw [(eF _ _ g1).1, (eF _ _ g1).2, (eF _ _ g2).1, (eF _ _ g2).2, if_neg hn]
      exact ⟨rfl, rfl⟩
    · obtain ⟨q1, q2, q3, q4, q5⟩ := pgC_zero (ko A hA)
      rw [e, forP_snd, band_kind p3 p4 q3 q4 hk] at gL
      rw [e] at tL
      cases c1 : (bits BinOp.and .i64 (rs.getD (x / 8).toNat (0, 0)).2 k == 0)
      · have g1 : goesB rs x k = true := by rw [gx, c1]; rfl
        rw [(eT _ _ g1).1, (eT _ _ g1).2, if_pos rfl]
        have t1 : goesTo rs x = (A : Int) * 8 + x % 8 := by unfold goesTo; rw [e0]
        have y8 : (((A : Int) * 8 + x % 8) / 8).toNat = A := by omega
        have y9 : ((A : Int) * 8 + x % 8) % 8 = x % 8 := by omega
        have gq : goesB qs ((A : Int) * 8 + x % 8) k = !(bits BinOp.and .i64 (qs.getD A (0, 0)).2 k == 0) := by
          unfold goesB
          rw [y8]
          have : (decide (0 ≤ (A : Int) * 8 + x % 8) && decide ((A : Int) * 8 + x % 8 ≤ 63)) = true := by simp; omega
          rw [this, Bool.true_and]
        rw [c1, Bool.false_or] at gL
        cases c2 : (bits BinOp.and .i64 (qs.getD A (0, 0)).2 k == 0)
        · have g2 : goesB qs ((A : Int) * 8 + x % 8) k = true := by rw [gq, c2]; rfl
          have g3 : goesB (rs.map (cmpP qs)) x k = true := by rw [gL, c2]; rfl
          rw [t1, (eT _ _ g2).1, (eT _ _ g2).2, (eT _ _ g3).1, (eT _ _ g3).2]
          refine ⟨rfl, ?_⟩
          rw [tL]
          unfold goesTo
          rw [y8, y9]
          have hm : ¬ bits BinOp.and .i64 (rs.getD (x / 8).toNat (0, 0)).2 (qs.getD A (0, 0)).2 = 0 := by
            intro hz
            have := band_kind p3 p4 q3 q4 hk
            rw [hz, band_zero, c1, c2] at this
            simp at this
          rw [forP, if_neg hm]
        · have g2 : goesB qs ((A : Int) * 8 + x % 8) k = false := by rw [gq, c2]; rfl
          have g3 : goesB (rs.map (cmpP qs)) x k = false := by rw [gL, c2]; rfl
          rw [t1, (eF _ _ g2).1, (eF _ _ g2).2, (eF _ _ g3).1, (eF _ _ g3).2]
          exact ⟨rfl, rfl⟩
      · have g1 : goesB rs x k = false := by rw [gx, c1]; rfl
        have g3 : goesB (rs.map (cmpP qs)) x k = false := by rw [gL, c1]; rfl
        rw [(eF _ _ g1).1, (eF _ _ g1).2, (eF _ _ g3).1, (eF _ _ g3).2, if_neg hn]
        exact ⟨rfl, rfl⟩

/-- The fault of a drawn list, by program and model. -/
def Flt (w : World) (v : Value) (top c : Int) : Prop :=
  (∀ w1, Below w.heap.size w w1 → Calls Try.prog 21 #[v, .int .i64 top] w1 fun e w' => e = .returned (.int .i64 c) ∧ Below w1.heap.size w1 w') ∧
  ∀ w1, Below w.heap.size w w1 → Calls Try.prog 25 #[v, .int .i64 top] w1 fun e w' => e = .returned (.int .i64 c) ∧ w' = w1
theorem Flt.good {w : World} {base : Nat} {v : Value} {rs : List (Int × Int)} (h : Prs 86 w base v rs) (hl : rs.length = 8) (top : Int) : Flt w v top (pgsV rs top) :=
  ⟨fun w1 b => impl_fault v rs top base w1 (h.keep b) (by omega), fun w1 b => spec_fault v rs top base w1 (h.keep b) (by omega)⟩
theorem Flt.bad {w : World} (a : Option Addr) (cap : Nat) (top : Int) (h1 : 1 ≤ top) (h2 : top ≤ 24) : Flt w (.slice a 7 cap) top 1 := by
  refine ⟨fun w1 b => ?_, fun w1 b => spec_faultBad _ _ _ _ _ (by omega) (by omega) h1 h2⟩
  refine (impl_faultBad _ _ _ _ _ (by omega) (by omega) h1 h2).mono ?_
  rintro e w' ⟨rfl, rfl⟩
  exact ⟨rfl, Below.refl _ _⟩

set_option maxHeartbeats 1000000 in
theorem impl_composeBad (a a' : Option Addr) (n n' cap cap' : Nat) (c1 c2 c : Int) (w : World) (h : Flt w (.slice a n cap) 8 c1) (k : Flt w (.slice a' n' cap') 24 c2) (hc : c = if c1 = 0 then c2 else c1) (hn : c ≠ 0) :
    Calls Try.prog 17 #[.slice a n cap, .slice a' n' cap'] w fun e w' => e = .returned (.agg #[.int .i64 c, .slice none 0 0]) ∧ Below w.heap.size w w' := by
  have hT : ∀ w1, Below w.heap.size w w1 → Calls Try.prog 62 #[.slice a n cap, .int .i64 8, .slice a' n' cap'] w1 fun e w' => e = .returned (.int .i64 c) ∧ Below w1.heap.size w1 w' := by
    intro w1 b1
    have hF := h.1 w1 b1
    have kF := fun w2 (q : Below w1.heap.size w1 w2) => k.1 w2 (on b1 q)
    clear h k
    by_cases h1 : c1 = 0
    · rw [if_pos h1] at hc
      subst h1 hc
      go_enter Try.func62, Try.ntmps62
      go_wp2_with fail
      refine hF.mono ?_
      rintro e w2 ⟨rfl, b2⟩
      go_wp2_with fail
      refine (kF _ b2).mono ?_
      rintro e w3 ⟨rfl, b3⟩
      go_wp2_with fail
      go_ret
      exact ⟨rfl, on b2 b3⟩
    · rw [if_neg h1] at hc
      subst hc
      have g : (c != 0) = true := by simpa using h1
      clear kF h1 hn
      go_enter Try.func62, Try.ntmps62
      go_wp2_with fail
      refine hF.mono ?_
      rintro e w2 ⟨rfl, b2⟩
      go_wp2_with fail
      go_ret
      exact ⟨rfl, b2⟩
  have g : (c != 0) = true := by simpa using hn
  clear h k hc hn
  go_enter Try.func17, Try.ntmps17
  go_wp2_with fail
  refine (hT _ (al (Below.refl _ _) _)).mono ?_
  rintro e w1 ⟨rfl, b1⟩
  have k0 := cell_keep b1 (cell_new (i := 0) rfl)
  have k1 := cell_keep b1 (cell_new (i := 1) rfl)
  have B1 : Hid (Below w.heap.size w w1) := on (al (Below.refl _ _) _) b1
  have z0 : w1.frozen? ⟨w.heap.size, 0, none⟩ = false := by rw [(bcell b1).2 _ _ (by simp)]; simp
  have z1 : w1.frozen? ⟨w.heap.size, 1, none⟩ = false := by rw [(bcell b1).2 _ _ (by simp)]; simp
  clear b1 hT
  go_wp2_with fail
  exact bodyPost_ret (v := .agg #[.int .i64 c, .slice none 0 0]) (by simp [results, Try.results17, go_sem, k0, k1]) rfl ⟨rfl, (B1.out.setCell (by simp) _).setCell (by simp) _⟩

set_option maxHeartbeats 1000000 in
theorem spec_composeBad (a a' : Option Addr) (n n' cap cap' : Nat) (c1 c2 c : Int) (w : World) (h : Flt w (.slice a n cap) 8 c1) (k : Flt w (.slice a' n' cap') 24 c2) (hc : c = if c1 = 0 then c2 else c1) (hn : c ≠ 0) :
    Calls Try.prog 18 #[.slice a n cap, .slice a' n' cap'] w fun e w' => e = .returned (.agg #[.int .i64 c, .slice none 0 0]) ∧ Below w.heap.size w w' := by
  have hT : ∀ w1, Below w.heap.size w w1 → Calls Try.prog 64 #[.slice a n cap, .slice a' n' cap'] w1 fun e w' => e = .returned (.int .i64 c) ∧ w' = w1 := by
    intro w1 b1
    have hF := h.2 w1 b1
    have kF := k.2 w1 b1
    clear h k
    by_cases h1 : c1 = 0
    · rw [if_pos h1] at hc
      subst h1 hc
      go_enter Try.func64, Try.ntmps64
      go_wp2_with fail
      refine hF.mono ?_
      rintro e w2 ⟨rfl, rfl⟩
      go_wp2_with fail
      refine kF.mono ?_
      rintro e w3 ⟨rfl, rfl⟩
      go_wp2_with fail
      go_ret
      exact ⟨rfl, rfl⟩
    · rw [if_neg h1] at hc
      subst hc
      have g : (c != 0) = true := by simpa using h1
      clear kF h1 hn
      go_enter Try.func64, Try.ntmps64
      go_wp2_with fail
      refine hF.mono ?_
      rintro e w2 ⟨rfl, rfl⟩
      go_wp2_with fail
      go_ret
      exact ⟨rfl, rfl⟩
  have g : (c != 0) = true := by simpa using hn
  clear h k hc hn
  go_enter Try.func18, Try.ntmps18
  go_wp2_with fail
  refine (hT _ (al (Below.refl _ _) _)).mono ?_
  rintro e w1 ⟨rfl, rfl⟩
  clear hT
  go_wp2_with fail
  exact bodyPost_ret (v := .agg #[.int .i64 c, .slice none 0 0]) (by simp [results, Try.results18, go_sem]) rfl ⟨rfl, al (Below.refl _ _) _⟩
end Go.Proofs.Ytighhjkokjpgfaa
