/- Numbers that are set in a machine, whatever stands there: the model's. -/
import Derived.Test.YtaajaikpkcgalaaDoorHst
namespace Go.Proofs.YtaajaikpkcgalaaDoor
open Go.RowKit
set_option linter.unusedVariables false

set_option maxRecDepth 20000 in
set_option maxHeartbeats 8000000 in
theorem s_set_any (q : Nat) (r c i o : Value) (H : Ht) (k x : Int) (b : Nat) (w : World) (h : Hm w b r c i o H) (A : Ha r c i o) (hv : Vb w q #[r, .int .i64 H.pc, c, .bool H.halted, .bool H.waiting, .bool H.rung, .int .i64 H.done, i, o] 26) (hq : ∀ k, Own4 r c i o k → k ≠ q) (hc : H.csr.length = 11) (h0 : 0 ≤ k) (h10 : k ≤ 10) :
    Calls Tryd.prog 55 #[.pointer (some ⟨q, 0, none⟩), .int .i64 k, .int .i64 x] w fun e w' => e = .returned (.tuple #[]) ∧ ∃ H', Sv w w' b q r c i o H' ∧ H'.regs.length = H.regs.length ∧ H'.csr.length = 11 := by
  have S0 : Hid (Sv w w b q r c i o H) := ⟨h, hv, Mq.refl _ _⟩
  obtain ⟨a1, k1, rfl, _, _, g1⟩ := h.c.shape
  obtain ⟨y1, rfl⟩ := g1 (by omega)
  have HC : Hid (H.csr.length = 11) := hc
  rw [hc] at h hv hq A S0 ⊢
  have HA : Hid (Ha r _ i o) := A
  have HQ : Hid (∀ k, Own4 r (.slice (some ⟨y1, 0, none⟩) 11 k1) i o k → k ≠ q) := hq
  have QY : Hid (q ≠ y1) := fun e => hq y1 (.inr (.inl rfl)) e.symm
  obtain ⟨u, hu⟩ : ∃ u, wd x = u := ⟨_, rfl⟩
  have HU : Hid (wd x = u) := hu
  have u0 : 0 ≤ u := by rw [← hu]; exact (hwd_in x).1
  have u9 : u ≤ 4294967295 := by rw [← hu]; exact (hwd_in x).2
  have t4 : u.tmod 4 = u % 4 := Int.tmod_eq_emod_of_nonneg u0
  have t8 : u.tmod 8 = u % 8 := Int.tmod_eq_emod_of_nonneg u0
  have v2 := hv.cell 2 rfl
  have v5 := hv.cell 5 rfl
  have f5 := hv.free 5
  have CE : Hid (∀ n, n < 11 → w.cell? ⟨y1, n, none⟩ = some (.int .i64 (gt H.csr n))) := fun n hn => h.c.cell hc.symm n hn
  have FE : Hid (∀ n, w.frozen? ⟨y1, n, none⟩ = false) := fun n => h.c.free hc.symm n
  clear h hv hq A g1 hc hu
  by_cases k0 : k = 0
  · subst k0
    have cc := CE.out 0 (by decide)
    have ff := FE.out 0
    go_enter Tryd.func55, Tryd.ntmps55
    go_wp2_with (go_at_call 57; refine (s_wrap _ _).mono ?_; rintro e y ⟨rfl, hy⟩; rw [hy]; clear hy y; rw [HU.out])
    go_end0
    exact ⟨rfl, _, S0.out.csr HA.out QY.out 0 _, rfl, by first | exact HC.out | simpa using HC.out⟩
  by_cases k7 : k = 7
  · subst k7
    have cc := CE.out 7 (by decide)
    have ff := FE.out 7
    go_enter Tryd.func55, Tryd.ntmps55
    go_wp2_with (go_at_call 57; refine (s_wrap _ _).mono ?_; rintro e y ⟨rfl, hy⟩; rw [hy]; clear hy y; rw [HU.out])
    go_end0
    exact ⟨rfl, _, S0.out.csr HA.out QY.out 7 _, rfl, by first | exact HC.out | simpa using HC.out⟩
  by_cases k10 : k = 10
  · subst k10
    have cc := CE.out 10 (by decide)
    have ff := FE.out 10
    have qy : q ≠ y1 := QY.out
    by_cases h8 : u ≤ 8
    · have H8 : Hid (u ≤ 8) := h8
      go_enter Tryd.func55, Tryd.ntmps55
      go_wp2_with (go_at_call 57; refine (s_wrap _ _).mono ?_; rintro e y ⟨rfl, hy⟩; rw [hy]; clear hy y; rw [HU.out])
      go_end0
      exact ⟨rfl, _, (S0.out.csr HA.out QY.out 10 0).csr HA.out QY.out 10 u, rfl, by first | exact HC.out | simpa using HC.out⟩
    · have H8 : Hid (8 < u) := by show _ < _; omega
      go_enter Tryd.func55, Tryd.ntmps55
      go_wp2_with (go_at_call 57; refine (s_wrap _ _).mono ?_; rintro e y ⟨rfl, hy⟩; rw [hy]; clear hy y; rw [HU.out])
      go_end0
      exact ⟨rfl, _, S0.out.csr HA.out QY.out 10 0, rfl, by first | exact HC.out | simpa using HC.out⟩
  by_cases k6 : k = 6
  · subst k6
    cases hr : H.rung
    · have HR : Hid (H.rung = false) := hr
      rw [hr] at v5
      go_enter Tryd.func55, Tryd.ntmps55
      go_wp2_with (go_at_call 57; refine (s_wrap _ _).mono ?_; rintro e y ⟨rfl, hy⟩; rw [hy]; clear hy y; rw [HU.out])
      go_end0
      exact ⟨rfl, _, S0.out.rung HQ.out false, rfl, by first | exact HC.out | simpa using HC.out⟩
    · rw [hr] at v5
      by_cases h2 : u % 4 < 2
      · have H2 : Hid (decide (2 ≤ u % 4) = false) := decide_eq_false (by omega)
        go_enter Tryd.func55, Tryd.ntmps55
        go_wp2_with (go_at_call 57; refine (s_wrap _ _).mono ?_; rintro e y ⟨rfl, hy⟩; rw [hy]; clear hy y; rw [HU.out])
        go_end0
        exact ⟨rfl, _, S0.out.rung HQ.out true, rfl, by first | exact HC.out | simpa using HC.out⟩
      · have H2 : Hid (decide (2 ≤ u % 4) = true) := decide_eq_true (by omega)
        go_enter Tryd.func55, Tryd.ntmps55
        go_wp2_with (go_at_call 57; refine (s_wrap _ _).mono ?_; rintro e y ⟨rfl, hy⟩; rw [hy]; clear hy y; rw [HU.out])
        go_end0
        rw [show decide (u % 4 < 2) = false from decide_eq_false (by have := of_decide_eq_true H2.out; omega)]
        exact ⟨rfl, _, S0.out.rung HQ.out false, rfl, by first | exact HC.out | simpa using HC.out⟩
  by_cases k8 : k = 8
  · subst k8
    go_enter Tryd.func55, Tryd.ntmps55
    go_wp2_with (go_at_call 57; refine (s_wrap _ _).mono ?_; rintro e y ⟨rfl, hy⟩; rw [hy]; clear hy y; rw [HU.out])
    go_end0
    exact ⟨rfl, _, S0.out, rfl, by first | exact HC.out | simpa using HC.out⟩
  obtain ⟨n, rfl⟩ : ∃ n : Nat, k = n := ⟨k.toNat, by omega⟩
  have cc := CE.out n (by omega)
  have ff := FE.out n
  have hI : (n : Int) < 11 := by omega
  go_enter Tryd.func55, Tryd.ntmps55
  go_wp2_with (go_at_call 57; refine (s_wrap _ _).mono ?_; rintro e y ⟨rfl, hy⟩; rw [hy]; clear hy y; rw [HU.out])
  go_end0
  exact ⟨rfl, _, S0.out.csr HA.out QY.out n _, rfl, by first | exact HC.out | simpa using HC.out⟩
end Go.Proofs.YtaajaikpkcgalaaDoor
