/- Texts of this seat, joined. -/
import Derived.Test.YtggejbphdadckaaGreatDoorQ18
namespace Go.Proofs.YtggejbphdadckaaGreatDoor
open Go.RowKit
set_option linter.unusedVariables false
theorem addr_ne {g a b : Nat} (h : a ≠ b) : (⟨g, a, none⟩ : Addr) ≠ ⟨g, b, none⟩ := fun e => h (congrArg Addr.off e)
theorem Msm.d {w : World} {g j : Nat} {S : Hsx} (h : Msm w g j S) : (0 < S.r.2 → 0 < S.c.2 → S.r.1 ≠ S.c.1) ∧ (0 < S.r.2 → 0 < S.i.2 → S.r.1 ≠ S.i.1) ∧ (0 < S.r.2 → 0 < S.o.2 → S.r.1 ≠ S.o.1) ∧ (0 < S.c.2 → 0 < S.i.2 → S.c.1 ≠ S.i.1) ∧ (0 < S.c.2 → 0 < S.o.2 → S.c.1 ≠ S.o.1) ∧ (0 < S.i.2 → 0 < S.o.2 → S.i.1 ≠ S.o.1) := by
  have := h.apart
  simp only [Hsx.all, List.pairwise_cons, List.mem_cons, List.not_mem_nil, or_false, forall_eq_or_imp, forall_eq] at this
  obtain ⟨⟨a1, a2, a3⟩, ⟨a4, a5⟩, a6, _⟩ := this
  exact ⟨a1, a2, a3, a4, a5, a6⟩
set_option maxHeartbeats 4000000 in
theorem mx_harts (a : Option Addr) (g n c : Nat) (S : Nat → Hsx) (k : Int) (w : World) (h : Mm w g n S) (ha : 0 < n → a = some ⟨g, 0, none⟩) (hn : n ≤ 1048576) (hk : 0 ≤ k) (hz : k ≤ 2000000000000) :
    Calls Tryz.prog 32 #[.slice a n c, .int .i64 k] w fun e w' => e = .returned (.int .i64 (k + (tN g S n).length)) ∧ Mx (tN g S n) k w w' := by
  have HT : Hid (Mm w g n S) := h
  have HA : Hid (0 < n → a = some ⟨g, 0, none⟩) := ha
  have NK : Hid (n ≤ 1048576 ∧ 0 ≤ k ∧ k ≤ 2000000000000) := ⟨hn, hk, hz⟩
  have hn' : (n : Int) ≤ 1048576 := by omega
  clear h ha hn hz
  go_enter Tryz.func32, Tryz.ntmps32
  go_wp2_with fail
  clear hk
  go_loopw [1, 5] (fun q i wr => ∃ (j : Nat) (kk : Int), j ≤ n ∧ i = .int .i64 j ∧ q = .int .i64 kk ∧ 0 ≤ kk ∧ kk ≤ k + 5000000 * j ∧ kk = k + (tN g S j).length ∧ Mx (tN g S j) k w wr) (fun _ i _ => n - (intOf i).toNat)
  case atStart => exact ⟨0, k, Nat.zero_le _, rfl, rfl, NK.out.2.1, by omega, by simp [tN], Mx.refl _ _⟩
  case round =>
    obtain ⟨j, kk, hj, rfl, rfl, hp, hq, hl, hM⟩ := hrel
    have M0 : Hid (Mx (tN g S j) k w wr) := hM
    have KL : Hid (kk = k + (tN g S j).length) := hl
    have KQ : Hid (0 ≤ kk ∧ kk ≤ k + 5000000 * j) := ⟨hp, hq⟩
    by_cases hlt : j < n
    · obtain rfl := HA.out (by omega)
      have HL : Hid (j < n) := hlt
      have hI : (j : Int) < (n : Int) := by omega
      obtain ⟨t0, dd⟩ := HT.out.next hM hlt
      have T0 : Hid (Msm wr g j (S j)) := t0
      have DD : Hid (∀ x ∈ tN g S j, ∀ y ∈ hN g j (S j), x.1 ≠ y.1) := dd
      have KB : Hid (0 ≤ kk ∧ kk ≤ 8000000000000) := ⟨hp, by have := NK.out; omega⟩
      have SM : Hid ((S j).r.2 ≤ 1048576 ∧ (S j).c.2 ≤ 1048576 ∧ (S j).i.2 ≤ 1048576 ∧ (S j).o.2 ≤ 1048576) := ⟨t0.small _ (by simp [Hsx.all]), t0.small _ (by simp [Hsx.all]), t0.small _ (by simp [Hsx.all]), t0.small _ (by simp [Hsx.all])⟩
      have OF : Hid ((0 < (S j).r.2 → (S j).r.1 ≠ g) ∧ (0 < (S j).c.2 → (S j).c.1 ≠ g) ∧ (0 < (S j).i.2 → (S j).i.1 ≠ g) ∧ (0 < (S j).o.2 → (S j).o.1 ≠ g)) := ⟨t0.off _ (by simp [Hsx.all]), t0.off _ (by simp [Hsx.all]), t0.off _ (by simp [Hsx.all]), t0.off _ (by simp [Hsx.all])⟩
      obtain ⟨s, hs⟩ : ∃ s, S j = s := ⟨_, rfl⟩
      rw [hs] at T0 DD SM OF
      have HS : Hid (S j = s) := hs
      obtain ⟨⟨gr, m0⟩, ⟨gc, m2⟩, ⟨gi, m7⟩, ⟨go, m8⟩⟩ := s
      have DI : Hid ((0 < m0 → 0 < m2 → gr ≠ gc) ∧ (0 < m0 → 0 < m7 → gr ≠ gi) ∧ (0 < m0 → 0 < m8 → gr ≠ go) ∧ (0 < m2 → 0 < m7 → gc ≠ gi) ∧ (0 < m2 → 0 < m8 → gc ≠ go) ∧ (0 < m7 → 0 < m8 → gi ≠ go)) := T0.out.d
      have SM' : Hid (m0 ≤ 1048576 ∧ m2 ≤ 1048576 ∧ m7 ≤ 1048576 ∧ m8 ≤ 1048576) := SM.out
      have OF' : Hid ((0 < m0 → gr ≠ g) ∧ (0 < m2 → gc ≠ g) ∧ (0 < m7 → gi ≠ g) ∧ (0 < m8 → go ≠ g)) := OF.out
      clear SM OF dd t0 hM hlt hp hq hl hs
      obtain ⟨a0, k0, w0, b0⟩ := T0.out.c0
      obtain ⟨⟨z1, w1⟩, f1⟩ := T0.out.c1
      obtain ⟨a2, k2', w2, b2⟩ := T0.out.c2
      obtain ⟨⟨y3, w3⟩, f3⟩ := T0.out.c3
      obtain ⟨⟨y4, w4⟩, f4⟩ := T0.out.c4
      obtain ⟨⟨y5, w5⟩, f5⟩ := T0.out.c5
      obtain ⟨⟨z6, w6⟩, f6⟩ := T0.out.c6
      obtain ⟨a7, k7', w7, b7⟩ := T0.out.c7
      obtain ⟨a8, k8', w8, b8⟩ := T0.out.c8
      have WW : Hid (wr.cell? ⟨g, j * 9 + 1, none⟩ = some (.int .i64 z1) ∧ wr.cell? ⟨g, j * 9 + 2, none⟩ = some (.slice a2 m2 k2') ∧ wr.cell? ⟨g, j * 9 + 3, none⟩ = some (.bool y3) ∧ wr.cell? ⟨g, j * 9 + 4, none⟩ = some (.bool y4) ∧ wr.cell? ⟨g, j * 9 + 5, none⟩ = some (.bool y5) ∧ wr.cell? ⟨g, j * 9 + 6, none⟩ = some (.int .i64 z6) ∧ wr.cell? ⟨g, j * 9 + 7, none⟩ = some (.slice a7 m7 k7') ∧ wr.cell? ⟨g, j * 9 + 8, none⟩ = some (.slice a8 m8 k8')) := ⟨w1, w2, w3, w4, w5, w6, w7, w8⟩
      have FF : Hid (wr.frozen? ⟨g, j * 9 + 1, none⟩ = false ∧ wr.frozen? ⟨g, j * 9 + 3, none⟩ = false ∧ wr.frozen? ⟨g, j * 9 + 4, none⟩ = false ∧ wr.frozen? ⟨g, j * 9 + 5, none⟩ = false ∧ wr.frozen? ⟨g, j * 9 + 6, none⟩ = false) := ⟨f1, f3, f4, f5, f6⟩
      have MB : Hid (Mg wr gr 1 a0 m0 ∧ Mg wr gc 1 a2 m2 ∧ Mg wr gi 1 a7 m7 ∧ Mg wr go 1 a8 m8) := ⟨b0, b2, b7, b8⟩
      have GB : Hid (g < wr.heap.size) := block_of_cell w1
      have c0 : wr.cell? ⟨g, j * 9, none⟩ = some (.slice a0 m0 k0) := w0
      have AB : Hid (∀ t, t ≠ 1 → Av (cN gr m0 ++ [(⟨g, j * 9 + 1, none⟩, false)]) ⟨g, j * 9 + t, none⟩) := fun t ht => (Av.cn OF'.out.1).app (Av.one (addr_ne (by omega)))
      have AC : Hid (∀ t, t ≠ 1 → Av ((cN gr m0 ++ [(⟨g, j * 9 + 1, none⟩, false)]) ++ cN gc m2) ⟨g, j * 9 + t, none⟩) := fun t ht => (AB.out t ht).app (Av.cn OF'.out.2.1)
      clear b0 b2 b7 b8 w0 w1 w2 w3 w4 w5 w6 w7 w8 f1 f3 f4 f5 f6
      go_wp2_with fail
      clear c0
      refine (mx_nums _ _ _ gr _ _ MB.out.1 KB.out.1 (by have := KB.out.2; have := SM'.out.1; omega)).mono ?_
      rintro e v1 ⟨rfl, mm⟩
      have M1 : Hid (Mx (cN gr m0) kk wr v1) := mm
      obtain ⟨k1, hk1⟩ : ∃ k1, kk + (m0 : Int) = k1 := ⟨_, rfl⟩
      have K1 : Hid (kk + (m0 : Int) = k1) := hk1
      rw [hk1]
      have p1 : 0 ≤ k1 := by have := KB.out; omega
      have p2 : k1 ≤ 4611686018427387904 := by have := KB.out; have := SM'.out; omega
      have c1 := mm.out _ _ WW.out.1 (Av.cn OF'.out.1)
      have f1 : v1.frozen? ⟨g, j * 9 + 1, none⟩ = false := by rw [mm.free _ GB.out]; exact FF.out.1
      have c2 := mm.out _ _ WW.out.2.1 (Av.cn OF'.out.1)
      have E1 : Hid (Mx (cN gr m0 ++ [(⟨g, j * 9 + 1, none⟩, false)]) kk wr (v1.setCell ⟨g, j * 9 + 1, none⟩ (.int .i64 k1))) := mm.moreN WW.out.1 (Av.cn OF'.out.1) (by rw [cN_len]; exact hk1.symm)
      clear mm hk1
      go_wp2_with fail
      clear c1 f1 c2
      refine (mx_nums _ _ _ gc _ _ (MB.out.2.1.mx E1.out fun h => (Ab.cn fun h' => DI.out.1 h' h).app (Ab.one fun e => OF'.out.2.1 h e.symm)) (by omega) (by have := KB.out; have := K1.out; have := SM'.out; omega)).mono ?_
      rintro e v2 ⟨rfl, mm⟩
      have M2 : Hid (Mx ((cN gr m0 ++ [(⟨g, j * 9 + 1, none⟩, false)]) ++ cN gc m2) kk wr v2) := E1.out.nums mm (by have := K1.out; simp only [List.length_append, List.length_singleton, cN_len]; omega) fun h => (Ab.cn fun h' => DI.out.1 h' h).app (Ab.one fun e => OF'.out.2.1 h e.symm)
      obtain ⟨k2, hk2⟩ : ∃ k2, k1 + 1 + (m2 : Int) = k2 := ⟨_, rfl⟩
      have K2 : Hid (kk + m0 + 1 + m2 = k2) := by have := K1.out; show _ = _; omega
      rw [hk2]
      clear mm hk2 E1 p1 p2
      have p1 : 0 ≤ k2 := by have := KB.out; have := K2.out; omega
      have p2 : k2 ≤ 4611686018427387904 := by have := KB.out; have := K2.out; have := SM'.out; omega
      have c3 := M2.out.out _ _ WW.out.2.2.1 (AC.out 3 (by decide))
      have c4 := M2.out.out _ _ WW.out.2.2.2.1 (AC.out 4 (by decide))
      have c5 := M2.out.out _ _ WW.out.2.2.2.2.1 (AC.out 5 (by decide))
      have c6 := M2.out.out _ _ WW.out.2.2.2.2.2.1 (AC.out 6 (by decide))
      have c7 := M2.out.out _ _ WW.out.2.2.2.2.2.2.1 (AC.out 7 (by decide))
      have f3 : v2.frozen? ⟨g, j * 9 + 3, none⟩ = false := by rw [M2.out.free _ GB.out]; exact FF.out.2.1
      have f4 : v2.frozen? ⟨g, j * 9 + 4, none⟩ = false := by rw [M2.out.free _ GB.out]; exact FF.out.2.2.1
      have f5 : v2.frozen? ⟨g, j * 9 + 5, none⟩ = false := by rw [M2.out.free _ GB.out]; exact FF.out.2.2.2.1
      have f6 : v2.frozen? ⟨g, j * 9 + 6, none⟩ = false := by rw [M2.out.free _ GB.out]; exact FF.out.2.2.2.2
      have LC : Hid (((cN gr m0 ++ [((⟨g, j * 9 + 1, none⟩ : Addr), false)]) ++ cN gc m2).length = m0 + 1 + m2) := by show _ = _; simp only [List.length_append, List.length_singleton, cN_len]
      have E2 : Hid (Mx (hN2 g j ⟨(gr, m0), (gc, m2), (gi, m7), (go, m8)⟩) kk wr ((((v2.setCell ⟨g, j * 9 + 3, none⟩ (.bool (k2 % 3 == 0))).setCell ⟨g, j * 9 + 4, none⟩ (.bool ((k2 + 1) % 3 == 0))).setCell ⟨g, j * 9 + 5, none⟩ (.bool ((k2 + 1 + 1) % 3 == 0))).setCell ⟨g, j * 9 + 6, none⟩ (.int .i64 (k2 + 1 + 1 + 1)))) := by
        have lc := LC.out
        have e2 := K2.out
        have x3 := M2.out.moreB (B := (k2 % 3 == 0)) WW.out.2.2.1 (AC.out 3 (by decide)) (by rw [lc]; congr 2; omega)
        have x4 := x3.moreB (B := ((k2 + 1) % 3 == 0)) WW.out.2.2.2.1 ((AC.out 4 (by decide)).app (Av.one (addr_ne (by omega)))) (by rw [List.length_append, lc, List.length_singleton]; congr 2; omega)
        have x5 := x4.moreB (B := ((k2 + 1 + 1) % 3 == 0)) WW.out.2.2.2.2.1 (((AC.out 5 (by decide)).app (Av.one (addr_ne (by omega)))).app (Av.one (addr_ne (by omega)))) (by rw [List.length_append, List.length_append, lc, List.length_singleton, List.length_singleton]; congr 2; omega)
        exact x5.moreN WW.out.2.2.2.2.2.1 ((((AC.out 6 (by decide)).app (Av.one (addr_ne (by omega)))).app (Av.one (addr_ne (by omega)))).app (Av.one (addr_ne (by omega)))) (by rw [List.length_append, List.length_append, List.length_append, lc, List.length_singleton, List.length_singleton, List.length_singleton]; omega)
      have LD : Hid ((hN2 g j ⟨(gr, m0), (gc, m2), (gi, m7), (go, m8)⟩).length = m0 + 1 + m2 + 4) := by show _ = _; simp only [hN2, hN1, List.length_append, List.length_singleton, cN_len]
      have AD : Hid (∀ p : Nat, (0 < m0 → gr ≠ p) → (0 < m2 → gc ≠ p) → g ≠ p → Ab (hN2 g j ⟨(gr, m0), (gc, m2), (gi, m7), (go, m8)⟩) p) := fun p h1 h2 h3 => ((((((Ab.cn h1).app (Ab.one h3)).app (Ab.cn h2)).app (Ab.one h3)).app (Ab.one h3)).app (Ab.one h3)).app (Ab.one h3)
      go_wp2_with fail
      clear c3 f3 c4 f4 c5 f5 c6 f6 c7
      refine (mx_nums _ _ _ gi _ _ (MB.out.2.2.1.mx E2.out fun h => AD.out gi (fun h' => DI.out.2.1 h' h) (fun h' => DI.out.2.2.2.1 h' h) fun e => OF'.out.2.2.1 h e.symm) (by omega) (by have := KB.out; have := K2.out; have := SM'.out; omega)).mono ?_
      rintro e v3 ⟨rfl, mm⟩
      have M3 : Hid (Mx (hN2 g j ⟨(gr, m0), (gc, m2), (gi, m7), (go, m8)⟩ ++ cN gi m7) kk wr v3) := E2.out.nums mm (by have := K2.out; rw [LD.out]; omega) fun h => AD.out gi (fun h' => DI.out.2.1 h' h) (fun h' => DI.out.2.2.2.1 h' h) fun e => OF'.out.2.2.1 h e.symm
      obtain ⟨k3, hk3⟩ : ∃ k3, k2 + 1 + 1 + 1 + 1 + (m7 : Int) = k3 := ⟨_, rfl⟩
      have K3 : Hid (kk + m0 + 1 + m2 + 4 + m7 = k3) := by have := K2.out; show _ = _; omega
      rw [hk3]
      clear mm hk3 E2 p1 p2
      have p1 : 0 ≤ k3 := by have := KB.out; have := K3.out; omega
      have p2 : k3 ≤ 4611686018427387904 := by have := KB.out; have := K3.out; have := SM'.out; omega
      have c8 : v3.cell? ⟨g, j * 9 + 8, none⟩ = some (.slice a8 m8 k8') := M3.out.out _ _ WW.out.2.2.2.2.2.2.2 ((((((AC.out 8 (by decide)).app (Av.one (addr_ne (by omega)))).app (Av.one (addr_ne (by omega)))).app (Av.one (addr_ne (by omega)))).app (Av.one (addr_ne (by omega)))).app (Av.cn OF'.out.2.2.1))
      go_wp2_with fail
      clear c8
      have A8 : Hid (0 < m8 → Ab (hN2 g j ⟨(gr, m0), (gc, m2), (gi, m7), (go, m8)⟩ ++ cN gi m7) go) := fun h => (AD.out go (fun h' => DI.out.2.2.1 h' h) (fun h' => DI.out.2.2.2.2.1 h' h) fun e => OF'.out.2.2.2 h e.symm).app (Ab.cn fun h' => DI.out.2.2.2.2.2 h' h)
      refine (mx_nums _ _ _ go _ _ (MB.out.2.2.2.mx M3.out A8.out) (by omega) (by have := KB.out; have := K3.out; have := SM'.out; omega)).mono ?_
      rintro e v4 ⟨rfl, mm⟩
      have M4 : Hid (Mx (hN g j ⟨(gr, m0), (gc, m2), (gi, m7), (go, m8)⟩) kk wr v4) := M3.out.nums mm (by have := K3.out; rw [List.length_append, LD.out, cN_len]; omega) A8.out
      have M5 : Hid (Mx (tN g S (j + 1)) k w v4) := by
        show Mx (tN g S j ++ hN g j (S j)) k w v4
        rw [HS.out]
        exact M0.out.trans (by rw [← KL.out]; exact M4.out) DD.out
      obtain ⟨k4, hk4⟩ : ∃ k4, k3 + (m8 : Int) = k4 := ⟨_, rfl⟩
      have K4 : Hid (0 ≤ k4 ∧ k4 ≤ k + 5000000 * ((j + 1 : Nat) : Int)) := ⟨by omega, by have := SM'.out; have := K3.out; have := KQ.out; omega⟩
      have K5 : Hid (k4 = k + (tN g S (j + 1)).length) := by
        show k4 = k + ((tN g S j ++ hN g j (S j)).length : Int)
        have := KL.out; have := K3.out
        rw [HS.out, List.length_append, hN, List.length_append, List.length_append, LD.out, cN_len, cN_len]
        show k4 = k + (((tN g S j).length + (m0 + 1 + m2 + 4 + m7 + m8) : Nat) : Int)
        omega
      rw [hk4]
      clear mm hk4 p1 p2
      go_wp2_with fail
      go_roundw
      case rel => exact ⟨j + 1, k4, by have := HL.out; omega, by go_num, rfl, K4.out.1, K4.out.2, K5.out, M5.out⟩
      case measure => have := HL.out; simp [intOf]; omega
    · have hI : ¬ (j : Int) < (n : Int) := by omega
      obtain rfl : j = n := by omega
      clear hM hp hq hl
      go_wp2_with fail
      go_ret
      exact ⟨by rw [KL.out]; rfl, M0.out⟩
end Go.Proofs.YtggejbphdadckaaGreatDoor
