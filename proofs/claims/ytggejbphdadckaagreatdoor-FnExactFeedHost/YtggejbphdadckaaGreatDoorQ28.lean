/- Texts of this seat, joined. -/
import Derived.Deep.RegionHeld3
import Derived.Deep.WholeRow
import Derived.Deep.MidRow
import Derived.Test.YtggejbphdadckaaGreatDoorQ06
import Derived.Test.YtggejbphdadckaaGreatDoorQ09
import Derived.Test.YtggejbphdadckaaGreatDoorQ10
import Derived.Test.YtggejbphdadckaaGreatDoorQ14
import Derived.Test.YtggejbphdadckaaGreatDoorQ17
import Derived.Test.YtggejbphdadckaaGreatDoorQ18
import Derived.Test.YtggejbphdadckaaGreatDoorQ27
namespace Go.Proofs.YtggejbphdadckaaGreatDoor
open Go.RowKit
set_option linter.unusedVariables false

set_option maxHeartbeats 2000000 in
theorem sz_hartO (kk : Int) (a0 a1 a2 a3 : Option Addr) (n0 c0 n1 c1 n2 c2 n3 c3 : Nat) (H : Ht) (w : World) (h : Hin w a0 n0 c0 a1 n1 c1 a2 n2 c2 a3 n3 c3 H) (q1 : 0 ≤ kk) (q2 : kk ≤ 1048576) :
    Calls Tryz.prog 38 #[.agg #[.slice a0 n0 c0, .int .i64 H.pc, .slice a1 n1 c1, .bool H.halted, .bool H.waiting, .bool H.rung, .int .i64 H.done, .slice a2 n2 c2, .slice a3 n3 c3], .int .i64 kk] w fun e w' => (∃ r : Int, e = .returned (.int .i64 r) ∧ r ≤ 1048576 ∧ (0 ≤ r → Hs n0 n1 n2 n3)) ∧ Below w.heap.size w w' := by
  have L0 : Hid (n0 ≤ 9223372036854775807) := h.regs.ln.2
  have L1 : Hid (n1 ≤ 9223372036854775807) := h.csr.ln.2
  have L2 : Hid (n2 ≤ 9223372036854775807) := h.inn.ln.2
  have L3 : Hid (n3 ≤ 9223372036854775807) := h.out.ln.2
  have KK : Hid (0 ≤ kk ∧ kk ≤ 1048576) := ⟨q1, q2⟩
  clear h
  by_cases h0 : kk - n0 < 0
  · have H0 : Hid (kk - n0 < 0) := h0
    go_enter Tryz.func38, Tryz.ntmps38
    go_wp2_with fail
    refine (szn _ _ _ _ _ L0.out KK.out.1 KK.out.2).mono ?_
    rintro e w2 ⟨rfl, rfl⟩
    rw [if_pos H0.out]
    go_wp2_with fail
    go_ret
    exact ⟨⟨-1, rfl, by omega, fun h => by omega⟩, al (Below.refl _ _) _⟩
  have H0 : Hid (¬ kk - n0 < 0) := h0
  obtain ⟨r0, hr0⟩ : ∃ r0 : Int, kk - n0 = r0 := ⟨_, rfl⟩
  have E0 : Hid (0 ≤ r0 ∧ r0 ≤ 1048576) := ⟨by omega, by omega⟩
  have e0 : 0 ≤ r0 := E0.out.1
  have K0 : Hid (kk - n0 = r0) := hr0
  by_cases h1 : r0 - n1 < 0
  · have H1 : Hid (r0 - n1 < 0) := h1
    clear hr0 h0
    go_enter Tryz.func38, Tryz.ntmps38
    go_wp2_with fail
    refine (szn _ _ _ _ _ L0.out KK.out.1 KK.out.2).mono ?_
    rintro e w2 ⟨rfl, rfl⟩
    rw [if_neg (by have := H0.out; omega), K0.out]
    go_wp2_with fail
    refine (szn _ _ _ _ _ L1.out E0.out.1 E0.out.2).mono ?_
    rintro e w2 ⟨rfl, rfl⟩
    rw [if_pos H1.out]
    go_wp2_with fail
    go_ret
    exact ⟨⟨-1, rfl, by omega, fun h => by omega⟩, al (Below.refl _ _) _⟩
  have H1 : Hid (¬ r0 - n1 < 0) := h1
  obtain ⟨r1, hr1⟩ : ∃ r1 : Int, r0 - n1 = r1 := ⟨_, rfl⟩
  have E1 : Hid (0 ≤ r1 ∧ r1 ≤ 1048576) := ⟨by omega, by omega⟩
  have e1 : 0 ≤ r1 := E1.out.1
  have K1 : Hid (r0 - n1 = r1) := hr1
  by_cases h2 : r1 - n2 < 0
  · have H2 : Hid (r1 - n2 < 0) := h2
    clear hr0 h0 hr1 h1
    go_enter Tryz.func38, Tryz.ntmps38
    go_wp2_with fail
    refine (szn _ _ _ _ _ L0.out KK.out.1 KK.out.2).mono ?_
    rintro e w2 ⟨rfl, rfl⟩
    rw [if_neg (by have := H0.out; omega), K0.out]
    go_wp2_with fail
    refine (szn _ _ _ _ _ L1.out E0.out.1 E0.out.2).mono ?_
    rintro e w2 ⟨rfl, rfl⟩
    rw [if_neg (by have := H1.out; omega), K1.out]
    go_wp2_with fail
    refine (szn _ _ _ _ _ L2.out E1.out.1 E1.out.2).mono ?_
    rintro e w2 ⟨rfl, rfl⟩
    rw [if_pos H2.out]
    go_wp2_with fail
    go_ret
    exact ⟨⟨-1, rfl, by omega, fun h => by omega⟩, al (Below.refl _ _) _⟩
  have H2 : Hid (¬ r1 - n2 < 0) := h2
  obtain ⟨r2, hr2⟩ : ∃ r2 : Int, r1 - n2 = r2 := ⟨_, rfl⟩
  have E2 : Hid (0 ≤ r2 ∧ r2 ≤ 1048576) := ⟨by omega, by omega⟩
  have e2 : 0 ≤ r2 := E2.out.1
  have K2 : Hid (r1 - n2 = r2) := hr2
  by_cases h3 : r2 - n3 < 0
  · have H3 : Hid (r2 - n3 < 0) := h3
    clear hr0 h0 hr1 h1 hr2 h2
    go_enter Tryz.func38, Tryz.ntmps38
    go_wp2_with fail
    refine (szn _ _ _ _ _ L0.out KK.out.1 KK.out.2).mono ?_
    rintro e w2 ⟨rfl, rfl⟩
    rw [if_neg (by have := H0.out; omega), K0.out]
    go_wp2_with fail
    refine (szn _ _ _ _ _ L1.out E0.out.1 E0.out.2).mono ?_
    rintro e w2 ⟨rfl, rfl⟩
    rw [if_neg (by have := H1.out; omega), K1.out]
    go_wp2_with fail
    refine (szn _ _ _ _ _ L2.out E1.out.1 E1.out.2).mono ?_
    rintro e w2 ⟨rfl, rfl⟩
    rw [if_neg (by have := H2.out; omega), K2.out]
    go_wp2_with fail
    refine (szn _ _ _ _ _ L3.out E2.out.1 E2.out.2).mono ?_
    rintro e w2 ⟨rfl, rfl⟩
    rw [if_pos H3.out]
    go_wp2_with fail
    go_ret
    exact ⟨⟨-1, rfl, by omega, fun h => by omega⟩, al (Below.refl _ _) _⟩
  have H3 : Hid (¬ r2 - n3 < 0) := h3
  obtain ⟨r3, hr3⟩ : ∃ r3 : Int, r2 - n3 = r3 := ⟨_, rfl⟩
  have E3 : Hid (0 ≤ r3 ∧ r3 ≤ 1048576) := ⟨by omega, by omega⟩
  have e3 : 0 ≤ r3 := E3.out.1
  have K3 : Hid (r2 - n3 = r3) := hr3
  have SM : Hid (Hs n0 n1 n2 n3) := ⟨by omega, by omega, by omega, by omega⟩
  clear hr0 h0 hr1 h1 hr2 h2 hr3 h3
  go_enter Tryz.func38, Tryz.ntmps38
  go_wp2_with fail
  refine (szn _ _ _ _ _ L0.out KK.out.1 KK.out.2).mono ?_
  rintro e w2 ⟨rfl, rfl⟩
  rw [if_neg (by have := H0.out; omega), K0.out]
  go_wp2_with fail
  refine (szn _ _ _ _ _ L1.out E0.out.1 E0.out.2).mono ?_
  rintro e w2 ⟨rfl, rfl⟩
  rw [if_neg (by have := H1.out; omega), K1.out]
  go_wp2_with fail
  refine (szn _ _ _ _ _ L2.out E1.out.1 E1.out.2).mono ?_
  rintro e w2 ⟨rfl, rfl⟩
  rw [if_neg (by have := H2.out; omega), K2.out]
  go_wp2_with fail
  refine (szn _ _ _ _ _ L3.out E2.out.1 E2.out.2).mono ?_
  rintro e w2 ⟨rfl, rfl⟩
  rw [if_neg (by have := H3.out; omega), K3.out]
  go_wp2_with fail
  go_ret
  exact ⟨⟨_, rfl, E3.out.2, fun _ => SM.out⟩, al (Below.refl _ _) _⟩
/-- How great machines that came in may be. -/
def Hsm (H : Ht) : Prop := Hs H.regs.length H.csr.length H.inn.length H.out.length
theorem Hin.lens {w : World} {a0 : Option Addr} {n0 c0 : Nat} {a1 : Option Addr} {n1 c1 : Nat} {a2 : Option Addr} {n2 c2 : Nat} {a3 : Option Addr} {n3 c3 : Nat} {H : Ht} (h : Hin w a0 n0 c0 a1 n1 c1 a2 n2 c2 a3 n3 c3 H) : n0 = H.regs.length ∧ n1 = H.csr.length ∧ n2 = H.inn.length ∧ n3 = H.out.length :=
  ⟨h.regs.lens.1, h.csr.lens.1, h.inn.lens.1, h.out.lens.1⟩
set_option maxRecDepth 20000 in
set_option maxHeartbeats 4000000 in
theorem sz_harts (a : Option Addr) (n c : Nat) (k : Int) (hs : List Ht) (w : World) (h : IsHs w a n c hs) (h1 : 0 ≤ k) (h2 : k ≤ 1048576) :
    Calls Tryz.prog 18 #[.slice a n c, .int .i64 k] w fun e w' => (∃ r : Int, e = .returned (.int .i64 r) ∧ r ≤ 1048576 ∧ (0 ≤ r → n ≤ 1048576 ∧ ∀ i, i < n → Hsm (hs.getD i voidH))) ∧ Below w.heap.size w w' := by
  have HR : Hid (IsHs w a n c hs) := h
  have hmax : (n : Int) ≤ 9223372036854775807 := by have := h.len.2; omega
  clear h
  by_cases hk : k - n < 0
  · go_enter Tryz.func18, Tryz.ntmps18
    go_wp2_with fail
    go_ret
    exact ⟨⟨-1, rfl, by omega, fun h => by omega⟩, Below.refl _ _⟩
  have HN : Hid (n ≤ 1048576) := by show _ ≤ _; omega
  have hb0 : 0 ≤ k - n := by omega
  have hb1 : k - n ≤ 1048576 := by omega
  go_enter Tryz.func18, Tryz.ntmps18
  go_wp2_with fail
  generalize k - (n : Int) = r0 at *
  clear hk h1 h2
  go_loopw [1, 5] (fun u c wr => ∃ (j : Nat) (r : Int), j ≤ n ∧ c = .int .i64 j ∧ u = .int .i64 r ∧ 0 ≤ r ∧ r ≤ 1048576 ∧ Hid (∀ i, i < j → Hsm (hs.getD i voidH)) ∧ Below w.heap.size w wr) (fun _ c _ => n - (intOf c).toNat)
  case atStart => exact ⟨0, r0, Nat.zero_le _, rfl, rfl, hb0, hb1, fun i hi => absurd hi (Nat.not_lt_zero _), Below.refl _ _⟩
  case round =>
    obtain ⟨j, r, hj, rfl, rfl, hr0, hr1, hI, hB⟩ := hrel
    by_cases hlt : j < n
    · obtain ⟨x, a0, a1, a2, a3, n0, k0, n1, k1, n2, k2, n3, k3, rfl, k1', k2'⟩ := (HR.out.stay hB).at j hlt
      have HI2 : Hid (Hin wr a0 n0 k0 a1 n1 k1 a2 n2 k2 a3 n3 k3 (hs.getD j voidH)) := k2'
      obtain ⟨H, hH⟩ : ∃ H, hs.getD j voidH = H := ⟨_, rfl⟩
      rw [hH] at k1' HI2
      have HH : Hid (hs.getD j voidH = H) := hH
      have y0 := k1'.c0
      have y1 := k1'.c1
      have y2 := k1'.c2
      have y3 := k1'.c3
      have y4 := k1'.c4
      have y5 := k1'.c5
      have y6 := k1'.c6
      have y7 := k1'.c7
      have y8 := k1'.c8
      have HB : Hid (Below w.heap.size w wr) := hB
      have hJ : (j : Int) < (n : Int) := by omega
      have HLT : Hid (j < n) := hlt
      have HR1 : Hid (0 ≤ r ∧ r ≤ 1048576) := ⟨hr0, hr1⟩
      clear k1' k2' hlt hB hH
      go_wp2_with fail
      refine (sz_hartO _ _ _ _ _ _ _ _ _ _ _ _ _ H _ HI2.out HR1.out.1 HR1.out.2).mono ?_
      rintro e w2 ⟨⟨r2, rfl, hr2, hs2⟩, b2⟩
      have B2 : Hid (Below w.heap.size w w2) := on HB.out b2
      clear b2 y0 y1 y2 y3 y4 y5 y6 y7 y8
      by_cases hz : r2 < 0
      · go_wp2_with fail
        go_ret
        exact ⟨⟨-1, rfl, by omega, fun h => by omega⟩, B2.out⟩
      · have HS2 : Hid (Hsm H) := by
          have e := HI2.out.lens
          have t := hs2 (by omega)
          show Hsm H
          unfold Hsm
          rw [← e.1, ← e.2.1, ← e.2.2.1, ← e.2.2.2]
          exact t
        have z0 : 0 ≤ r2 := by omega
        have R2 : Hid (0 ≤ r2 ∧ r2 ≤ 1048576) := ⟨by omega, hr2⟩
        clear hs2 hr2
        go_wp2_with fail
        go_roundw
        case rel =>
          refine ⟨j + 1, r2, by have := HLT.out; omega, by go_num, rfl, R2.out.1, R2.out.2, fun i hi => ?_, B2.out⟩
          rcases Nat.lt_or_ge i j with h | h
          · exact hI.out i h
          · obtain rfl : i = j := by omega
            rw [HH.out]
            exact HS2.out
        case measure => have := HLT.out; simp [intOf]; omega
    · have hJ : ¬ (j : Int) < (n : Int) := by omega
      have HJ : Hid (j = n) := by show _ = _; omega
      clear hlt
      go_wp2_with fail
      go_ret
      exact ⟨⟨r, rfl, hr1, fun _ => ⟨HN.out, fun i hi => hI.out i (by have := HJ.out; omega)⟩⟩, hB⟩
end Go.Proofs.YtggejbphdadckaaGreatDoor
namespace Go.Proofs.YtggejbphdadckaaGreatDoor
open Go.RowKit
set_option linter.unusedVariables false

def SvN (n : Nat) (W : World) (q : Nat) (w' : World) : Prop := Mq (fun k => k = q) W w' ∧ w'.there q 0 n
theorem SvN.step {n : Nat} {W w w' : World} {q : Nat} (h : SvN n W q w) (hq : q < W.heap.size) (b : Below w.heap.size w w') : SvN n W q w' :=
  ⟨h.1.trans (Mq.of (below_grown b none) fun k e => by cases e), there_below h.2 (Nat.lt_of_lt_of_le hq h.1.size) b⟩
theorem SvN.set {n : Nat} {W w : World} {q : Nat} (h : SvN n W q w) (vs : List Value) : SvN n W q (w.setCells q 0 vs) := ⟨h.1.trans (mq_cells q vs w 0), World.there_setCells h.2 _ _ _⟩
end Go.Proofs.YtggejbphdadckaaGreatDoor
namespace Go.Proofs.YtggejbphdadckaaGreatDoor
open Go.RowKit
set_option linter.unusedVariables false

theorem thereB {w w' : World} {q o n : Nat} (h : w.there q o n) (hq : q < w.heap.size) (b : Below w.heap.size w w') : w'.there q o n := fun j hj => by
  obtain ⟨h1, h2⟩ := h j hj
  refine ⟨?_, ?_⟩
  · rw [b.cell (p := ⟨q, o + j, none⟩) hq]; exact h1
  · rw [b.frozen (p := ⟨q, o + j, none⟩) hq]; exact h2
theorem mqC (q : Nat) : ∀ (vs : List Value) (w : World) (o : Nat), Mq (fun k => k = q) w (w.setCells q o vs)
  | [], w, o => Mq.refl _ _
  | v :: vs, w, o => ((Mq.refl (fun k => k = q) w).set ⟨q, o, none⟩ v rfl).trans (mqC q vs _ (o + 1))
/-- Machines in a list of the call's own, with their lists. -/
def Hl (w : World) (base : Nat) (v : Value) (hs : List Ht) : Prop :=
  (v = .slice none 0 0 ∧ hs = []) ∨
  ∃ g cap, v = .slice (some ⟨g, 0, none⟩) hs.length cap ∧ hs.length ≤ cap ∧ cap ≤ maxLen ∧ base ≤ g ∧ ∀ k, k < hs.length → ∃ r c i o, Hc w ⟨g, k * 9, none⟩ r c i o (hs.getD k voidH) ∧ Hm w base r c i o (hs.getD k voidH) ∧ Ha r c i o
theorem Hl.keep {w w' : World} {base : Nat} {v : Value} {hs : List Ht} (h : Hl w base v hs) (b : Below w.heap.size w w') : Hl w' base v hs := by
  rcases h with h | ⟨g, cap, h1, h2, h3, h4, h5⟩
  · exact .inl h
  · refine .inr ⟨g, cap, h1, h2, h3, h4, fun k hk => ?_⟩
    obtain ⟨r, c, i, o, g1, g2, g3⟩ := h5 k hk
    exact ⟨r, c, i, o, g1.stay b, g2.keep b, g3⟩
theorem Hl.mono {w : World} {base base' : Nat} {v : Value} {hs : List Ht} (h : Hl w base v hs) (hb : base' ≤ base) : Hl w base' v hs := by
  rcases h with h | ⟨g, cap, h1, h2, h3, h4, h5⟩
  · exact .inl h
  · refine .inr ⟨g, cap, h1, h2, h3, Nat.le_trans hb h4, fun k hk => ?_⟩
    obtain ⟨r, c, i, o, g1, g2, g3⟩ := h5 k hk
    exact ⟨r, c, i, o, g1, g2.mono hb, g3⟩
theorem Hl.shape {w : World} {base : Nat} {v : Value} {hs : List Ht} (h : Hl w base v hs) : ∃ a cap, v = .slice a hs.length cap ∧ hs.length ≤ cap ∧ cap ≤ maxLen ∧ (0 < hs.length → ∃ g, a = some ⟨g, 0, none⟩) := by
  rcases h with ⟨rfl, rfl⟩ | ⟨g, cap, h1, h2, h3, _⟩
  · exact ⟨none, 0, rfl, Nat.le_refl _, by unfold maxLen; omega, fun h => by simp at h⟩
  · exact ⟨_, cap, h1, h2, h3, fun _ => ⟨g, rfl⟩⟩
theorem Hl.at {w : World} {base : Nat} {g n cap : Nat} {hs : List Ht} (h : Hl w base (.slice (some ⟨g, 0, none⟩) n cap) hs) (k : Nat) (hk : k < hs.length) : ∃ r c i o, Hc w ⟨g, k * 9, none⟩ r c i o (hs.getD k voidH) ∧ Hm w base r c i o (hs.getD k voidH) ∧ Ha r c i o := by
  rcases h with ⟨h, _⟩ | ⟨g', cap', h1, h2, h3, h4, h5⟩
  · cases h
  · simp at h1
    obtain ⟨rfl, _⟩ := h1
    exact h5 k hk
theorem info_hart : (Tryz.prog.info? 60).map (fun i => (i.zero, i.size, i.bytes)) = some (some (.agg #[.slice none 0 0, .int .i64 0, .slice none 0 0, .bool false, .bool false, .bool false, .int .i64 0, .slice none 0 0, .slice none 0 0]), 9, 120) := by kernel_rfl
theorem Hc.put {w : World} {p : Addr} {r c i o : Value} {H : Ht} {g off : Nat} {vs : List Value} (h : Hc w p r c i o H) (hs : p.spot = none) (hn : p.block = g → p.off + 9 ≤ off ∨ off + vs.length ≤ p.off) : Hc (w.setCells g off vs) p r c i o H := by
  have k : ∀ (q : Addr), q.block = p.block → p.off ≤ q.off → q.off < p.off + 9 → (w.setCells g off vs).cell? q = w.cell? q := fun q hq h1 h2 => World.cell?_setCells_out _ _ _ _ _ fun e _ => by have := hn (hq.symm.trans e); omega
  exact ⟨(k p rfl (Nat.le_refl _) (by omega)).trans h.c0, (k ⟨p.block, p.off + 1, none⟩ rfl (Nat.le_add_right _ _) (Nat.add_lt_add_left (by decide) _)).trans h.c1, (k ⟨p.block, p.off + 2, none⟩ rfl (Nat.le_add_right _ _) (Nat.add_lt_add_left (by decide) _)).trans h.c2, (k ⟨p.block, p.off + 3, none⟩ rfl (Nat.le_add_right _ _) (Nat.add_lt_add_left (by decide) _)).trans h.c3, (k ⟨p.block, p.off + 4, none⟩ rfl (Nat.le_add_right _ _) (Nat.add_lt_add_left (by decide) _)).trans h.c4, (k ⟨p.block, p.off + 5, none⟩ rfl (Nat.le_add_right _ _) (Nat.add_lt_add_left (by decide) _)).trans h.c5, (k ⟨p.block, p.off + 6, none⟩ rfl (Nat.le_add_right _ _) (Nat.add_lt_add_left (by decide) _)).trans h.c6, (k ⟨p.block, p.off + 7, none⟩ rfl (Nat.le_add_right _ _) (Nat.add_lt_add_left (by decide) _)).trans h.c7, (k ⟨p.block, p.off + 8, none⟩ rfl (Nat.le_add_right _ _) (Nat.add_lt_add_left (by decide) _)).trans h.c8⟩
theorem Hc.new {w : World} {g off : Nat} {r c i o : Value} {H : Ht} (ht : w.there g off 9) : Hc (w.setCells g off [r, .int .i64 H.pc, c, .bool H.halted, .bool H.waiting, .bool H.rung, .int .i64 H.done, i, o]) ⟨g, off, none⟩ r c i o H := by
  have k := World.rangeAt_setCells_same w g off [r, .int .i64 H.pc, c, .bool H.halted, .bool H.waiting, .bool H.rung, .int .i64 H.done, i, o] ht
  exact ⟨k 0 _ rfl, k 1 _ rfl, k 2 _ rfl, k 3 _ rfl, k 4 _ rfl, k 5 _ rfl, k 6 _ rfl, k 7 _ rfl, k 8 _ rfl⟩
set_option maxRecDepth 20000 in
set_option maxHeartbeats 4000000 in
theorem to_hartsT (a : Option Addr) (len cap : Nat) (hs : List Ht) (w : World) (h : IsHs w a len cap hs) (hl : len ≤ 1048576) (hS : ∀ i, i < len → Hsm (hs.getD i voidH)) :
    Calls Tryz.prog 24 #[.slice a len cap] w fun e w' => ∃ g, e = .returned (.slice (some ⟨g, 0, none⟩) len len) ∧ Hl w' w.heap.size (.slice (some ⟨g, 0, none⟩) len len) hs ∧ Below w.heap.size w w' ∧ w'.there g 0 (len * 9) ∧ g < w'.heap.size := by
  obtain ⟨i, hi, hz0, hz1, hz2⟩ := info_parts info_hart
  have hlen : Hid (len = hs.length) := h.len.1
  have HR : Hid (IsHs w a len cap hs) := h
  have HSS : Hid (∀ i, i < len → Hsm (hs.getD i voidH)) := hS
  have HSM : Hid (len ≤ 1048576) := hl
  clear h hS
  go_enter Tryz.func24, Tryz.ntmps24
  go_wp2_with (at_make; refine wpList_make_full _ rfl _ _ 38 rfl w.heap.size 60 i _ 9 Tryz.underlying38 hi hz0 hz1 _ _ _ _ len rfl rfl rfl rfl (by rw [hz2]; omega) (by unfold maxLen; omega) (Nat.le_refl _) ?_; intro w1 hown hgrow)
  obtain ⟨g, hg⟩ : ∃ g, w.heap.size = g := ⟨_, rfl⟩
  have HG : Hid (w.heap.size = g) := hg
  have T1 : Hid (w1.there g 0 (len * 9)) := by
    show w1.there _ _ _
    rw [← hg]
    intro k hk
    have hl := hown.1
    rw [Nat.zero_add]
    refine ⟨?_, World.ownsRow.frozenAt hown k⟩
    rw [World.ownsRow.cellAt hown k (by omega), List.getElem?_eq_getElem (by omega)]
    rfl
  have B1 : Hid (Below w.heap.size w w1) := (Below.refl _ _).grown hgrow (Nat.le_refl _) (by simp)
  have G1 : Hid (g < w1.heap.size) := by
    have := (World.ownsRow.lt hown w.heap.size rfl).2
    show _ < _
    rw [← hg]
    exact this
  clear hown hgrow hi hz0 hz1 hz2
  rw [hg]
  clear hg
  go_wp2_with fail
  go_loopw [4] (fun c wr => ∃ (j : Nat), j ≤ len ∧ c = .int .i64 j ∧ wr.there g 0 (len * 9) ∧ Below w.heap.size w wr ∧ g < wr.heap.size ∧
    (∀ k, k < j → ∃ r c i o, Hc wr ⟨g, k * 9, none⟩ r c i o (hs.getD k voidH) ∧ Hm wr (g + 1) r c i o (hs.getD k voidH) ∧ Ha r c i o)) (fun c _ => len - (intOf c).toNat)
  case atStart => exact ⟨0, Nat.zero_le _, rfl, T1.out, B1.out, G1.out, fun i hi => absurd hi (Nat.not_lt_zero _)⟩
  case round =>
    obtain ⟨j, hj, rfl, hT, hB, hG, hV⟩ := hrel
    have HT : Hid (wr.there g 0 (len * 9)) := hT
    have HB : Hid (Below w.heap.size w wr) := hB
    have HGL : Hid (g < wr.heap.size) := hG
    have HV : Hid (∀ k, k < j → ∃ r c i o, Hc wr ⟨g, k * 9, none⟩ r c i o (hs.getD k voidH) ∧ Hm wr (g + 1) r c i o (hs.getD k voidH) ∧ Ha r c i o) := hV
    have hl2 : (len : Int) ≤ 1048576 := by have := HSM.out; omega
    by_cases hlt : j < len
    · obtain ⟨x, a0, a1, a2, a3, n0, k0, n1, k1, n2, k2, n3, k3, rfl, k1', k2'⟩ := (HR.out.stay hB).at j hlt
      obtain ⟨H, hH⟩ : ∃ H, hs.getD j voidH = H := ⟨_, rfl⟩
      rw [hH] at k1' k2'
      have HI2 : Hid (Hin wr a0 n0 k0 a1 n1 k1 a2 n2 k2 a3 n3 k3 H) := k2'
      have HS2 : Hid (Hs n0 n1 n2 n3) := by
        have e := k2'.lens
        have t := HSS.out j hlt
        rw [hH] at t
        unfold Hsm at t
        rw [← e.1, ← e.2.1, ← e.2.2.1, ← e.2.2.2] at t
        exact t
      have HH : Hid (hs.getD j voidH = H) := hH
      have y0 := k1'.c0
      have y1 := k1'.c1
      have y2 := k1'.c2
      have y3 := k1'.c3
      have y4 := k1'.c4
      have y5 := k1'.c5
      have y6 := k1'.c6
      have y7 := k1'.c7
      have y8 := k1'.c8
      have hI : (j : Int) < (len : Int) := by omega
      have HL : Hid (j < len) := hlt
      clear k1' k2' hlt hB hH hT hG hV
      go_wp2_with fail
      refine (to_hart _ _ _ _ _ _ _ _ _ _ _ _ H _ HI2.out HS2.out).mono ?_
      rintro e w2 ⟨r, c, i, o, rfl, m2, A2, b2⟩
      have M2 : Hid (Hm w2 (g + 1) r c i o H) := m2.mono (by have := HGL.out; omega)
      have HA2 : Hid (Ha r c i o) := A2
      have T2 : Hid (w2.there g 0 (len * 9)) := thereB HT.out HGL.out b2
      have B2 : Hid (Below w.heap.size w w2) := on HB.out b2
      have V2 : Hid (∀ k, k < j → ∃ r c i o, Hc w2 ⟨g, k * 9, none⟩ r c i o (hs.getD k voidH) ∧ Hm w2 (g + 1) r c i o (hs.getD k voidH) ∧ Ha r c i o) := fun k hk => by
        obtain ⟨r, c, i, o, g1, g2, g3⟩ := HV.out k hk
        exact ⟨r, c, i, o, g1.stay b2, g2.keep b2, g3⟩
      have S2 : Hid (wr.heap.size ≤ w2.heap.size) := b2.size
      obtain ⟨xr, lr, rfl, _⟩ := m2.r.shape
      obtain ⟨xc, lc, rfl, _⟩ := m2.c.shape
      obtain ⟨xi, li, rfl, _⟩ := m2.i.shape
      obtain ⟨xo, lo, rfl, _⟩ := m2.o.shape
      generalize hn0 : H.regs.length = m0 at *
      generalize hn1 : H.csr.length = m1 at *
      generalize hn2 : H.inn.length = mi at *
      generalize hn3 : H.out.length = mo at *
      clear m2 A2 b2 y0 y1 y2 y3 y4 y5 y6 y7 y8 hn0 hn1 hn2 hn3
      have T9 : Hid (w2.there g (j * 9) 9) := fun k hk => by
        have := T2.out (j * 9 + k) (by have := HL.out; omega)
        rwa [Nat.zero_add] at this
      have FIN : Hid ((w2.setCells g (j * 9) [.slice xr m0 lr, .int .i64 H.pc, .slice xc m1 lc, .bool H.halted, .bool H.waiting, .bool H.rung, .int .i64 H.done, .slice xi mi li, .slice xo mo lo]).there g 0 (len * 9) ∧ Below w.heap.size w (w2.setCells g (j * 9) [.slice xr m0 lr, .int .i64 H.pc, .slice xc m1 lc, .bool H.halted, .bool H.waiting, .bool H.rung, .int .i64 H.done, .slice xi mi li, .slice xo mo lo]) ∧ g < (w2.setCells g (j * 9) [.slice xr m0 lr, .int .i64 H.pc, .slice xc m1 lc, .bool H.halted, .bool H.waiting, .bool H.rung, .int .i64 H.done, .slice xi mi li, .slice xo mo lo]).heap.size ∧ ∀ k, k < j + 1 → ∃ r c i o, Hc (w2.setCells g (j * 9) [.slice xr m0 lr, .int .i64 H.pc, .slice xc m1 lc, .bool H.halted, .bool H.waiting, .bool H.rung, .int .i64 H.done, .slice xi mi li, .slice xo mo lo]) ⟨g, k * 9, none⟩ r c i o (hs.getD k voidH) ∧ Hm (w2.setCells g (j * 9) [.slice xr m0 lr, .int .i64 H.pc, .slice xc m1 lc, .bool H.halted, .bool H.waiting, .bool H.rung, .int .i64 H.done, .slice xi mi li, .slice xo mo lo]) (g + 1) r c i o (hs.getD k voidH) ∧ Ha r c i o) := by
        have MQ := mqC g [.slice xr m0 lr, .int .i64 H.pc, .slice xc m1 lc, .bool H.halted, .bool H.waiting, .bool H.rung, .int .i64 H.done, .slice xi mi li, .slice xo mo lo] w2 (j * 9)
        refine ⟨World.there_setCells T2.out _ _ _, Mq.under B2.out MQ fun k e => by have := HG.out; omega, Nat.lt_of_lt_of_le (Nat.lt_of_lt_of_le HGL.out S2.out) MQ.size, fun k hk => ?_⟩
        rcases Nat.lt_or_ge k j with h | h
        · obtain ⟨r, c, i, o, g1, g2, g3⟩ := V2.out k h
          exact ⟨r, c, i, o, g1.put rfl (fun _ => .inl (show k * 9 + 9 ≤ j * 9 by omega)), MQ.hm g2 (fun q e f => by have := g2.own q e; have : q = g := f; omega), g3⟩
        · obtain rfl : k = j := by omega
          refine ⟨_, _, _, _, ?_, ?_, HA2.out⟩
          · rw [HH.out]; exact Hc.new T9.out
          · rw [HH.out]; exact MQ.hm M2.out (fun q e f => by have := M2.out.own q e; have : q = g := f; omega)
      obtain ⟨v0, p0⟩ : ∃ v, w2.cell? ⟨g, j * 9, none⟩ = some v := Option.isSome_iff_exists.1 (T9.out 0 (by decide)).1
      have f0 : w2.frozen? ⟨g, j * 9, none⟩ = false := (T9.out 0 (by decide)).2
      obtain ⟨v1, p1⟩ : ∃ v, w2.cell? ⟨g, j * 9 + 1, none⟩ = some v := Option.isSome_iff_exists.1 (T9.out 1 (by decide)).1
      have f1 : w2.frozen? ⟨g, j * 9 + 1, none⟩ = false := (T9.out 1 (by decide)).2
      obtain ⟨v2, p2⟩ : ∃ v, w2.cell? ⟨g, j * 9 + 2, none⟩ = some v := Option.isSome_iff_exists.1 (T9.out 2 (by decide)).1
      have f2 : w2.frozen? ⟨g, j * 9 + 2, none⟩ = false := (T9.out 2 (by decide)).2
      obtain ⟨v3, p3⟩ : ∃ v, w2.cell? ⟨g, j * 9 + 3, none⟩ = some v := Option.isSome_iff_exists.1 (T9.out 3 (by decide)).1
      have f3 : w2.frozen? ⟨g, j * 9 + 3, none⟩ = false := (T9.out 3 (by decide)).2
      obtain ⟨v4, p4⟩ : ∃ v, w2.cell? ⟨g, j * 9 + 4, none⟩ = some v := Option.isSome_iff_exists.1 (T9.out 4 (by decide)).1
      have f4 : w2.frozen? ⟨g, j * 9 + 4, none⟩ = false := (T9.out 4 (by decide)).2
      obtain ⟨v5, p5⟩ : ∃ v, w2.cell? ⟨g, j * 9 + 5, none⟩ = some v := Option.isSome_iff_exists.1 (T9.out 5 (by decide)).1
      have f5 : w2.frozen? ⟨g, j * 9 + 5, none⟩ = false := (T9.out 5 (by decide)).2
      obtain ⟨v6, p6⟩ : ∃ v, w2.cell? ⟨g, j * 9 + 6, none⟩ = some v := Option.isSome_iff_exists.1 (T9.out 6 (by decide)).1
      have f6 : w2.frozen? ⟨g, j * 9 + 6, none⟩ = false := (T9.out 6 (by decide)).2
      obtain ⟨v7, p7⟩ : ∃ v, w2.cell? ⟨g, j * 9 + 7, none⟩ = some v := Option.isSome_iff_exists.1 (T9.out 7 (by decide)).1
      have f7 : w2.frozen? ⟨g, j * 9 + 7, none⟩ = false := (T9.out 7 (by decide)).2
      obtain ⟨v8, p8⟩ : ∃ v, w2.cell? ⟨g, j * 9 + 8, none⟩ = some v := Option.isSome_iff_exists.1 (T9.out 8 (by decide)).1
      have f8 : w2.frozen? ⟨g, j * 9 + 8, none⟩ = false := (T9.out 8 (by decide)).2
      have gl : g < w2.heap.size := Nat.lt_of_lt_of_le HGL.out S2.out
      go_wp2_with fail
      go_roundw
      case rel => exact ⟨j + 1, by have := HL.out; omega, by go_num, FIN.out⟩
      case measure => have := HL.out; simp [intOf]; omega
    · have hJ : ¬ (j : Int) < (len : Int) := by omega
      have HJ : Hid (j = len) := by show _ = _; omega
      clear hlt hT hG
      go_wp2_with fail
      go_ret
      refine ⟨g, rfl, .inr ⟨g, len, by rw [← hlen.out], by have := hlen.out; omega, by have := HSM.out; unfold maxLen; omega, Nat.le_of_eq HG.out, fun k hk => ?_⟩, hB, HT.out, HGL.out⟩
      obtain ⟨r, c, i, o, g1, g2, g3⟩ := hV k (by have := HJ.out; have := hlen.out; omega)
      exact ⟨r, c, i, o, g1, g2.mono (by have := HG.out; omega), g3⟩
end Go.Proofs.YtggejbphdadckaaGreatDoor
namespace Go.Proofs.YtggejbphdadckaaGreatDoor
open Go.RowKit
set_option linter.unusedVariables false

def hartsV : List Ht → Int
  | [] => 0
  | h :: t => if hfV h = 0 then hartsV t else hfV h
theorem harts_step (hs : List Ht) (j : Nat) (h : j < hs.length) : hartsV (hs.drop j) = if hfV (hs.getD j voidH) = 0 then hartsV (hs.drop (j + 1)) else hfV (hs.getD j voidH) := by
  rw [drop_cons_getD hs voidH j h, hartsV]
def hoV (X : Hst) : Int :=
  if pfV X.pol = 0 then
    if wholeB X.mem = true ∧ X.harts.length = X.pol.own.length then
      if hartsV X.harts = 0 then
        if ckOk X.clock = true then (if (tS X.pol X.clock).1 = X.slot ∧ (tS X.pol X.clock).2 = X.left then 0 else 1) else 3
      else hartsV X.harts
    else 1
  else pfV X.pol
theorem ho_ok {X : Hst} (h : hoV X = 0) : pfV X.pol = 0 ∧ 0 ≤ X.clock ∧ X.clock ≤ 1000000 := by
  unfold hoV at h
  split at h
  · rename_i h1
    split at h
    · split at h
      · split at h
        · rename_i h4
          unfold ckOk at h4
          simp at h4
          exact ⟨h1, h4⟩
        · cases h
      · rename_i h3
        exact absurd h h3
    · cases h
  · rename_i h1
    exact absurd h h1
/-- A host that is read: the policy, the memory, the machines. -/
structure Oj (w : World) (base : Nat) (a0 : Option Addr) (n0 c0 : Nat) (a1 : Option Addr) (n1 c1 : Nat) (a2 : Option Addr) (n2 c2 : Nat) (a3 : Option Addr) (n3 c3 : Nat) (m h : Value) (X : Hst) : Prop where
  pol : Pl w a0 n0 c0 a1 n1 c1 a2 n2 c2 a3 n3 c3 X.pol
  mem : Nums w base m X.mem
  harts : Hl w base h X.harts
theorem Oj.keep {w w' : World} {base : Nat} {a0 : Option Addr} {n0 c0 : Nat} {a1 : Option Addr} {n1 c1 : Nat} {a2 : Option Addr} {n2 c2 : Nat} {a3 : Option Addr} {n3 c3 : Nat} {m h : Value} {X : Hst} (d : Oj w base a0 n0 c0 a1 n1 c1 a2 n2 c2 a3 n3 c3 m h X) (b : Below w.heap.size w w') : Oj w' base a0 n0 c0 a1 n1 c1 a2 n2 c2 a3 n3 c3 m h X :=
  ⟨d.pol.stay b, d.mem.keep b, d.harts.keep b⟩
end Go.Proofs.YtggejbphdadckaaGreatDoor
