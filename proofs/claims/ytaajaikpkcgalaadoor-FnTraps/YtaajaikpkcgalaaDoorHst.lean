/- Numbers of a machine that are set: the model's. -/
import Derived.Test.YtaajaikpkcgalaaDoorHsm
namespace Go.Proofs.YtaajaikpkcgalaaDoor
open Go.RowKit
set_option linter.unusedVariables false

theorem s_wrap (n : Int) (w : World) : Calls Tryd.prog 57 #[.int .i64 n] w fun e w' => e = .returned (.int .i64 (wd n)) ∧ w' = w := by
  go_enter Tryd.func57, Tryd.ntmps57
  go_wp2
  go_ret
  exact ⟨rfl, rfl⟩
theorem hwd_in (x : Int) : 0 ≤ wd x ∧ wd x ≤ 4294967295 := by unfold wd; omega
theorem set_same (zs : List Int) (n : Nat) (u : Int) (hn : n < zs.length) (h : gt zs n = u) : zs.set n u = zs := by
  subst h
  unfold gt
  rw [List.getD_eq_getElem?_getD, List.getElem?_eq_getElem hn]
  simp
theorem stand_zero {H : Ht} (K : Hok H) : gt H.csr 6 = 0 ∧ gt H.csr 8 = 0 := by
  have := K.st
  simp only [standC, Bool.and_eq_true, decide_eq_true_eq] at this
  exact ⟨this.1.2, this.2⟩
theorem setV_eq (H : Ht) (k x : Int) : setV H k x = stH H k.toNat (standV k (wd x)) (H.rung && !(decide (k = 6) && decide (2 ≤ wd x % 4))) := rfl

set_option maxRecDepth 20000 in
set_option maxHeartbeats 8000000 in
theorem s_set (q : Nat) (r c i o : Value) (H : Ht) (k x : Int) (b : Nat) (w : World) (h : Hm w b r c i o H) (A : Ha r c i o) (hv : Vb w q #[r, .int .i64 H.pc, c, .bool H.halted, .bool H.waiting, .bool H.rung, .int .i64 H.done, i, o] 26) (hq : ∀ k, Own4 r c i o k → k ≠ q) (K : Hok H) (h0 : 0 ≤ k) (h10 : k ≤ 10) :
    Calls Tryd.prog 55 #[.pointer (some ⟨q, 0, none⟩), .int .i64 k, .int .i64 x] w fun e w' => e = .returned (.tuple #[]) ∧ Sv w w' b q r c i o (setV H k x) := by
  rw [setV_eq]
  have S0 : Hid (Sv w w b q r c i o H) := ⟨h, hv, Mq.refl _ _⟩
  obtain ⟨a1, k1, rfl, _, _, g1⟩ := h.c.shape
  have hc := K.c11
  obtain ⟨y1, rfl⟩ := g1 (by omega)
  have HC : Hid (H.csr.length = 11) := hc
  rw [hc] at h hv hq A S0 ⊢
  have HA : Hid (Ha r _ i o) := A
  have HQ : Hid (∀ k, Own4 r (.slice (some ⟨y1, 0, none⟩) 11 k1) i o k → k ≠ q) := hq
  have QY : Hid (q ≠ y1) := fun e => hq y1 (.inr (.inl rfl)) e.symm
  have ZZ : Hid (gt H.csr 6 = 0 ∧ gt H.csr 8 = 0) := stand_zero K
  obtain ⟨u, hu⟩ : ∃ u, wd x = u := ⟨_, rfl⟩
  have HU : Hid (wd x = u) := hu
  have u0 : 0 ≤ u := by rw [← hu]; exact (hwd_in x).1
  have u9 : u ≤ 4294967295 := by rw [← hu]; exact (hwd_in x).2
  rw [hu]
  have t4 : u.tmod 4 = u % 4 := Int.tmod_eq_emod_of_nonneg u0
  have t8 : u.tmod 8 = u % 8 := Int.tmod_eq_emod_of_nonneg u0
  have v2 := hv.cell 2 rfl
  have v5 := hv.cell 5 rfl
  have f5 := hv.free 5
  have CE : Hid (∀ n, n < 11 → w.cell? ⟨y1, n, none⟩ = some (.int .i64 (gt H.csr n))) := fun n hn => h.c.cell hc.symm n hn
  have FE : Hid (∀ n, w.frozen? ⟨y1, n, none⟩ = false) := fun n => h.c.free hc.symm n
  clear h hv hq A g1 K hc hu
  by_cases k0 : k = 0
  · subst k0
    have cc := CE.out 0 (by decide)
    have ff := FE.out 0
    go_enter Tryd.func55, Tryd.ntmps55
    go_wp2_with (go_at_call 57; refine (s_wrap _ _).mono ?_; rintro e y ⟨rfl, hy⟩; rw [hy]; clear hy y; rw [HU.out])
    go_end0
    refine ⟨rfl, ?_⟩
    have e : stH H (0 : Int).toNat (standV 0 u) (H.rung && !(decide ((0 : Int) = 6) && decide (2 ≤ u % 4))) = { H with csr := H.csr.set 0 (u % 4) } := by simp [stH, standV]
    rw [e]
    exact S0.out.csr HA.out QY.out 0 _
  by_cases k7 : k = 7
  · subst k7
    have cc := CE.out 7 (by decide)
    have ff := FE.out 7
    go_enter Tryd.func55, Tryd.ntmps55
    go_wp2_with (go_at_call 57; refine (s_wrap _ _).mono ?_; rintro e y ⟨rfl, hy⟩; rw [hy]; clear hy y; rw [HU.out])
    go_end0
    refine ⟨rfl, ?_⟩
    have e : stH H (7 : Int).toNat (standV 7 u) (H.rung && !(decide ((7 : Int) = 6) && decide (2 ≤ u % 4))) = { H with csr := H.csr.set 7 (u % 8) } := by simp [stH, standV]
    rw [e]
    exact S0.out.csr HA.out QY.out 7 _
  by_cases k10 : k = 10
  · subst k10
    have cc := CE.out 10 (by decide)
    have ff := FE.out 10
    have qy : q ≠ y1 := QY.out
    by_cases h8 : u ≤ 8
    · have H8 : Hid (u ≤ 8) := h8
      go_enter Tryd.func55, Tryd.ntmps55
      go_wp2_with (go_at_call 57; refine (s_wrap _ _).mono ?_; rintro e y ⟨rfl, hy⟩; rw [hy]; clear hy y; rw [HU.out])
      go_end0
      refine ⟨rfl, ?_⟩
      have e : stH H (10 : Int).toNat (standV 10 u) (H.rung && !(decide ((10 : Int) = 6) && decide (2 ≤ u % 4))) = { H with csr := (H.csr.set 10 0).set 10 u } := by
        have := H8.out
        simp [stH, standV, show ¬ 8 < u by omega]
      rw [e]
      exact (S0.out.csr HA.out QY.out 10 0).csr HA.out QY.out 10 u
    · have H8 : Hid (8 < u) := by show _ < _; omega
      go_enter Tryd.func55, Tryd.ntmps55
      go_wp2_with (go_at_call 57; refine (s_wrap _ _).mono ?_; rintro e y ⟨rfl, hy⟩; rw [hy]; clear hy y; rw [HU.out])
      go_end0
      refine ⟨rfl, ?_⟩
      have e : stH H (10 : Int).toNat (standV 10 u) (H.rung && !(decide ((10 : Int) = 6) && decide (2 ≤ u % 4))) = { H with csr := H.csr.set 10 0 } := by
        simp [stH, standV, H8.out]
      rw [e]
      exact S0.out.csr HA.out QY.out 10 0
  by_cases k6 : k = 6
  · subst k6
    have E6 : Hid (∀ rr, stH H (6 : Int).toNat (standV 6 u) rr = { H with rung := rr }) := fun rr => by
      have : H.csr.set 6 0 = H.csr := set_same _ _ _ (by have := HC.out; omega) ZZ.out.1
      simp [stH, standV, this]
    cases hr : H.rung
    · have HR : Hid (H.rung = false) := hr
      rw [hr] at v5
      go_enter Tryd.func55, Tryd.ntmps55
      go_wp2_with (go_at_call 57; refine (s_wrap _ _).mono ?_; rintro e y ⟨rfl, hy⟩; rw [hy]; clear hy y; rw [HU.out])
      go_end0
      refine ⟨rfl, ?_⟩
      rw [E6.out, Bool.false_and]
      exact S0.out.rung HQ.out false
    · rw [hr] at v5
      by_cases h2 : u % 4 < 2
      · have H2 : Hid (decide (2 ≤ u % 4) = false) := decide_eq_false (by omega)
        go_enter Tryd.func55, Tryd.ntmps55
        go_wp2_with (go_at_call 57; refine (s_wrap _ _).mono ?_; rintro e y ⟨rfl, hy⟩; rw [hy]; clear hy y; rw [HU.out])
        go_end0
        refine ⟨rfl, ?_⟩
        rw [E6.out, H2.out]
        exact S0.out.rung HQ.out true
      · have H2 : Hid (decide (2 ≤ u % 4) = true) := decide_eq_true (by omega)
        go_enter Tryd.func55, Tryd.ntmps55
        go_wp2_with (go_at_call 57; refine (s_wrap _ _).mono ?_; rintro e y ⟨rfl, hy⟩; rw [hy]; clear hy y; rw [HU.out])
        go_end0
        refine ⟨rfl, ?_⟩
        rw [E6.out, H2.out, show decide (u % 4 < 2) = false from decide_eq_false (by have := of_decide_eq_true H2.out; omega)]
        exact S0.out.rung HQ.out false
  by_cases k8 : k = 8
  · subst k8
    go_enter Tryd.func55, Tryd.ntmps55
    go_wp2_with (go_at_call 57; refine (s_wrap _ _).mono ?_; rintro e y ⟨rfl, hy⟩; rw [hy]; clear hy y; rw [HU.out])
    go_end0
    refine ⟨rfl, ?_⟩
    have e : stH H (8 : Int).toNat (standV 8 u) (H.rung && !(decide ((8 : Int) = 6) && decide (2 ≤ u % 4))) = H := by
      have : H.csr.set 8 0 = H.csr := set_same _ _ _ (by have := HC.out; omega) ZZ.out.2
      simp [stH, standV, this]
    rw [e]
    exact S0.out
  obtain ⟨n, rfl⟩ : ∃ n : Nat, k = n := ⟨k.toNat, by omega⟩
  have cc := CE.out n (by omega)
  have ff := FE.out n
  have hI : (n : Int) < 11 := by omega
  have E : Hid (stH H (n : Int).toNat (standV n u) (H.rung && !(decide ((n : Int) = 6) && decide (2 ≤ u % 4))) = { H with csr := H.csr.set n u }) := by
    show _ = _
    have n0 : ¬ n = 0 := by omega
    simp [stH, standV, n0, k7, k10, k6, k8]
  go_enter Tryd.func55, Tryd.ntmps55
  go_wp2_with (go_at_call 57; refine (s_wrap _ _).mono ?_; rintro e y ⟨rfl, hy⟩; rw [hy]; clear hy y; rw [HU.out])
  go_end0
  refine ⟨rfl, ?_⟩
  rw [E.out]
  exact S0.out.csr HA.out QY.out n _
end Go.Proofs.YtaajaikpkcgalaaDoor
