/- Texts of this seat, joined. -/
import Derived.Test.YthebikoahfcdaaaGreatDoorQ12
import Derived.Test.YthebikoahfcdaaaGreatDoorQ23
namespace Go.Proofs.YthebikoahfcdaaaGreatDoor
open Go.RowKit
set_option linter.unusedVariables false

set_option maxHeartbeats 2000000 in
theorem sz_hartO (kk : Int) (a0 a1 a2 a3 : Option Addr) (n0 c0 n1 c1 n2 c2 n3 c3 : Nat) (H : Ht) (w : World) (h : Hin w a0 n0 c0 a1 n1 c1 a2 n2 c2 a3 n3 c3 H) (q1 : 0 ≤ kk) (q2 : kk ≤ 1048576) :
    Calls Tryz.prog 40 #[.agg #[.slice a0 n0 c0, .int .i64 H.pc, .slice a1 n1 c1, .bool H.halted, .bool H.waiting, .bool H.rung, .int .i64 H.done, .slice a2 n2 c2, .slice a3 n3 c3], .int .i64 kk] w fun e w' => (∃ r : Int, e = .returned (.int .i64 r) ∧ r ≤ 1048576 ∧ (0 ≤ r → Hs n0 n1 n2 n3)) ∧ Below w.heap.size w w' := by
  have L0 : Hid (n0 ≤ 9223372036854775807) := h.regs.ln.2
  have L1 : Hid (n1 ≤ 9223372036854775807) := h.csr.ln.2
  have L2 : Hid (n2 ≤ 9223372036854775807) := h.inn.ln.2
  have L3 : Hid (n3 ≤ 9223372036854775807) := h.out.ln.2
  have KK : Hid (0 ≤ kk ∧ kk ≤ 1048576) := ⟨q1, q2⟩
  clear h
  by_cases h0 : kk - n0 < 0
  · have H0 : Hid (kk - n0 < 0) := h0
    go_enter Tryz.func40, Tryz.ntmps40
    go_wp2_with fail
    refine (szn _ _ _ _ _ L0.out KK.out.1 KK.out.2).mono ?_
    rintro e w2 ⟨rfl, rfl⟩
    rw [if_pos H0.out]
    go_wp2_with fail
    go_ret
    exact ⟨⟨-1, rfl, by omega, fun h => by omega⟩, al (Below.refl _ _) _⟩
  have H0 : Hid (¬ kk - n0 < 0) := h0
  obtain ⟨r0, hr0⟩ : ∃ r0 : Int, kk - n0 = r0 := ⟨_, rfl⟩
  have E0 : Hid (0 ≤ r0 ∧ r0 ≤ 1048576) := ⟨by omega, by omega⟩
  have e0 : 0 ≤ r0 := E0.out.1
  have K0 : Hid (kk - n0 = r0) := hr0
  by_cases h1 : r0 - n1 < 0
  · have H1 : Hid (r0 - n1 < 0) := h1
    clear hr0 h0
    go_enter Tryz.func40, Tryz.ntmps40
    go_wp2_with fail
    refine (szn _ _ _ _ _ L0.out KK.out.1 KK.out.2).mono ?_
    rintro e w2 ⟨rfl, rfl⟩
    rw [if_neg (by have := H0.out; omega), K0.out]
    go_wp2_with fail
    refine (szn _ _ _ _ _ L1.out E0.out.1 E0.out.2).mono ?_
    rintro e w2 ⟨rfl, rfl⟩
    rw [if_pos H1.out]
    go_wp2_with fail
    go_ret
    exact ⟨⟨-1, rfl, by omega, fun h => by omega⟩, al (Below.refl _ _) _⟩
  have H1 : Hid (¬ r0 - n1 < 0) := h1
  obtain ⟨r1, hr1⟩ : ∃ r1 : Int, r0 - n1 = r1 := ⟨_, rfl⟩
  have E1 : Hid (0 ≤ r1 ∧ r1 ≤ 1048576) := ⟨by omega, by omega⟩
  have e1 : 0 ≤ r1 := E1.out.1
  have K1 : Hid (r0 - n1 = r1) := hr1
  by_cases h2 : r1 - n2 < 0
  · have H2 : Hid (r1 - n2 < 0) := h2
    clear hr0 h0 hr1 h1
    go_enter Tryz.func40, Tryz.ntmps40
    go_wp2_with fail
    refine (szn _ _ _ _ _ L0.out KK.out.1 KK.out.2).mono ?_
    rintro e w2 ⟨rfl, rfl⟩
    rw [if_neg (by have := H0.out; omega), K0.out]
    go_wp2_with fail
    refine (szn _ _ _ _ _ L1.out E0.out.1 E0.out.2).mono ?_
    rintro e w2 ⟨rfl, rfl⟩
    rw [if_neg (by have := H1.out; omega), K1.out]
    go_wp2_with fail
    refine (szn _ _ _ _ _ L2.out E1.out.1 E1.out.2).mono ?_
    rintro e w2 ⟨rfl, rfl⟩
    rw [if_pos H2.out]
    go_wp2_with fail
    go_ret
    exact ⟨⟨-1, rfl, by omega, fun h => by omega⟩, al (Below.refl _ _) _⟩
  have H2 : Hid (¬ r1 - n2 < 0) := h2
  obtain ⟨r2, hr2⟩ : ∃ r2 : Int, r1 - n2 = r2 := ⟨_, rfl⟩
  have E2 : Hid (0 ≤ r2 ∧ r2 ≤ 1048576) := ⟨by omega, by omega⟩
  have e2 : 0 ≤ r2 := E2.out.1
  have K2 : Hid (r1 - n2 = r2) := hr2
  by_cases h3 : r2 - n3 < 0
  · have H3 : Hid (r2 - n3 < 0) := h3
    clear hr0 h0 hr1 h1 hr2 h2
    go_enter Tryz.func40, Tryz.ntmps40
    go_wp2_with fail
    refine (szn _ _ _ _ _ L0.out KK.out.1 KK.out.2).mono ?_
    rintro e w2 ⟨rfl, rfl⟩
    rw [if_neg (by have := H0.out; omega), K0.out]
    go_wp2_with fail
    refine (szn _ _ _ _ _ L1.out E0.out.1 E0.out.2).mono ?_
    rintro e w2 ⟨rfl, rfl⟩
    rw [if_neg (by have := H1.out; omega), K1.out]
    go_wp2_with fail
    refine (szn _ _ _ _ _ L2.out E1.out.1 E1.out.2).mono ?_
    rintro e w2 ⟨rfl, rfl⟩
    rw [if_neg (by have := H2.out; omega), K2.out]
    go_wp2_with fail
    refine (szn _ _ _ _ _ L3.out E2.out.1 E2.out.2).mono ?_
    rintro e w2 ⟨rfl, rfl⟩
    rw [if_pos H3.out]
    go_wp2_with fail
    go_ret
    exact ⟨⟨-1, rfl, by omega, fun h => by omega⟩, al (Below.refl _ _) _⟩
  have H3 : Hid (¬ r2 - n3 < 0) := h3
  obtain ⟨r3, hr3⟩ : ∃ r3 : Int, r2 - n3 = r3 := ⟨_, rfl⟩
  have E3 : Hid (0 ≤ r3 ∧ r3 ≤ 1048576) := ⟨by omega, by omega⟩
  have e3 : 0 ≤ r3 := E3.out.1
  have K3 : Hid (r2 - n3 = r3) := hr3
  have SM : Hid (Hs n0 n1 n2 n3) := ⟨by omega, by omega, by omega, by omega⟩
  clear hr0 h0 hr1 h1 hr2 h2 hr3 h3
  go_enter Tryz.func40, Tryz.ntmps40
  go_wp2_with fail
  refine (szn _ _ _ _ _ L0.out KK.out.1 KK.out.2).mono ?_
  rintro e w2 ⟨rfl, rfl⟩
  rw [if_neg (by have := H0.out; omega), K0.out]
  go_wp2_with fail
  refine (szn _ _ _ _ _ L1.out E0.out.1 E0.out.2).mono ?_
  rintro e w2 ⟨rfl, rfl⟩
  rw [if_neg (by have := H1.out; omega), K1.out]
  go_wp2_with fail
  refine (szn _ _ _ _ _ L2.out E1.out.1 E1.out.2).mono ?_
  rintro e w2 ⟨rfl, rfl⟩
  rw [if_neg (by have := H2.out; omega), K2.out]
  go_wp2_with fail
  refine (szn _ _ _ _ _ L3.out E2.out.1 E2.out.2).mono ?_
  rintro e w2 ⟨rfl, rfl⟩
  rw [if_neg (by have := H3.out; omega), K3.out]
  go_wp2_with fail
  go_ret
  exact ⟨⟨_, rfl, E3.out.2, fun _ => SM.out⟩, al (Below.refl _ _) _⟩
/-- How great machines that came in may be. -/
def Hsm (H : Ht) : Prop := Hs H.regs.length H.csr.length H.inn.length H.out.length
theorem Hin.lens {w : World} {a0 : Option Addr} {n0 c0 : Nat} {a1 : Option Addr} {n1 c1 : Nat} {a2 : Option Addr} {n2 c2 : Nat} {a3 : Option Addr} {n3 c3 : Nat} {H : Ht} (h : Hin w a0 n0 c0 a1 n1 c1 a2 n2 c2 a3 n3 c3 H) : n0 = H.regs.length ∧ n1 = H.csr.length ∧ n2 = H.inn.length ∧ n3 = H.out.length :=
  ⟨h.regs.lens.1, h.csr.lens.1, h.inn.lens.1, h.out.lens.1⟩
set_option maxRecDepth 20000 in
set_option maxHeartbeats 4000000 in
theorem sz_harts (a : Option Addr) (n c : Nat) (k : Int) (hs : List Ht) (w : World) (h : IsHs w a n c hs) (h1 : 0 ≤ k) (h2 : k ≤ 1048576) :
    Calls Tryz.prog 15 #[.slice a n c, .int .i64 k] w fun e w' => (∃ r : Int, e = .returned (.int .i64 r) ∧ r ≤ 1048576 ∧ (0 ≤ r → n ≤ 1048576 ∧ ∀ i, i < n → Hsm (hs.getD i voidH))) ∧ Below w.heap.size w w' := by
  have HR : Hid (IsHs w a n c hs) := h
  have hmax : (n : Int) ≤ 9223372036854775807 := by have := h.len.2; omega
  clear h
  by_cases hk : k - n < 0
  · go_enter Tryz.func15, Tryz.ntmps15
    go_wp2_with fail
    go_ret
    exact ⟨⟨-1, rfl, by omega, fun h => by omega⟩, Below.refl _ _⟩
  have HN : Hid (n ≤ 1048576) := by show _ ≤ _; omega
  have hb0 : 0 ≤ k - n := by omega
  have hb1 : k - n ≤ 1048576 := by omega
  go_enter Tryz.func15, Tryz.ntmps15
  go_wp2_with fail
  generalize k - (n : Int) = r0 at *
  clear hk h1 h2
  go_loopw [1, 5] (fun u c wr => ∃ (j : Nat) (r : Int), j ≤ n ∧ c = .int .i64 j ∧ u = .int .i64 r ∧ 0 ≤ r ∧ r ≤ 1048576 ∧ Hid (∀ i, i < j → Hsm (hs.getD i voidH)) ∧ Below w.heap.size w wr) (fun _ c _ => n - (intOf c).toNat)
  case atStart => exact ⟨0, r0, Nat.zero_le _, rfl, rfl, hb0, hb1, fun i hi => absurd hi (Nat.not_lt_zero _), Below.refl _ _⟩
  case round =>
    obtain ⟨j, r, hj, rfl, rfl, hr0, hr1, hI, hB⟩ := hrel
    by_cases hlt : j < n
    · obtain ⟨x, a0, a1, a2, a3, n0, k0, n1, k1, n2, k2, n3, k3, rfl, k1', k2'⟩ := (HR.out.stay hB).at j hlt
      have HI2 : Hid (Hin wr a0 n0 k0 a1 n1 k1 a2 n2 k2 a3 n3 k3 (hs.getD j voidH)) := k2'
      obtain ⟨H, hH⟩ : ∃ H, hs.getD j voidH = H := ⟨_, rfl⟩
      rw [hH] at k1' HI2
      have HH : Hid (hs.getD j voidH = H) := hH
      have y0 := k1'.c0
      have y1 := k1'.c1
      have y2 := k1'.c2
      have y3 := k1'.c3
      have y4 := k1'.c4
      have y5 := k1'.c5
      have y6 := k1'.c6
      have y7 := k1'.c7
      have y8 := k1'.c8
      have HB : Hid (Below w.heap.size w wr) := hB
      have hJ : (j : Int) < (n : Int) := by omega
      have HLT : Hid (j < n) := hlt
      have HR1 : Hid (0 ≤ r ∧ r ≤ 1048576) := ⟨hr0, hr1⟩
      clear k1' k2' hlt hB hH
      go_wp2_with fail
      refine (sz_hartO _ _ _ _ _ _ _ _ _ _ _ _ _ H _ HI2.out HR1.out.1 HR1.out.2).mono ?_
      rintro e w2 ⟨⟨r2, rfl, hr2, hs2⟩, b2⟩
      have B2 : Hid (Below w.heap.size w w2) := on HB.out b2
      clear b2 y0 y1 y2 y3 y4 y5 y6 y7 y8
      by_cases hz : r2 < 0
      · go_wp2_with fail
        go_ret
        exact ⟨⟨-1, rfl, by omega, fun h => by omega⟩, B2.out⟩
      · have HS2 : Hid (Hsm H) := by
          have e := HI2.out.lens
          have t := hs2 (by omega)
          show Hsm H
          unfold Hsm
          rw [← e.1, ← e.2.1, ← e.2.2.1, ← e.2.2.2]
          exact t
        have z0 : 0 ≤ r2 := by omega
        have R2 : Hid (0 ≤ r2 ∧ r2 ≤ 1048576) := ⟨by omega, hr2⟩
        clear hs2 hr2
        go_wp2_with fail
        go_roundw
        case rel =>
          refine ⟨j + 1, r2, by have := HLT.out; omega, by go_num, rfl, R2.out.1, R2.out.2, fun i hi => ?_, B2.out⟩
          rcases Nat.lt_or_ge i j with h | h
          · exact hI.out i h
          · obtain rfl : i = j := by omega
            rw [HH.out]
            exact HS2.out
        case measure => have := HLT.out; simp [intOf]; omega
    · have hJ : ¬ (j : Int) < (n : Int) := by omega
      have HJ : Hid (j = n) := by show _ = _; omega
      clear hlt
      go_wp2_with fail
      go_ret
      exact ⟨⟨r, rfl, hr1, fun _ => ⟨HN.out, fun i hi => hI.out i (by have := HJ.out; omega)⟩⟩, hB⟩
end Go.Proofs.YthebikoahfcdaaaGreatDoor
