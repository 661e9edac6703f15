/- Texts of this seat, joined. -/
import Derived.Test.YtggejbphdadckaaGreatDoorQ36
namespace Go.Proofs.YtggejbphdadckaaGreatDoor
open Go.RowKit
set_option linter.unusedVariables false
structure Oh (w : World) (a0 a1 a2 a3 a4 a5 : Option Addr) (n0 n1 n2 n3 n4 n5 g0 g1 g2 g3 g4 g5 : Nat) (R : List (Nat × Nat)) (S : Nat → Hsx) : Prop where
  pol : Ph w a0 a1 a2 a3 n0 n1 n2 n3 g0 g1 g2 g3 R
  at4 : 0 < n4 → a4 = some ⟨g4, 0, none⟩
  at5 : 0 < n5 → a5 = some ⟨g5, 0, none⟩
  mach : ∀ j, j < n5 → Mzm w g5 j (S j)
  s4 : n4 ≤ 1048576
  s5 : n5 ≤ 1048576
theorem Oh.keep {w w' : World} {a0 a1 a2 a3 a4 a5 : Option Addr} {n0 n1 n2 n3 n4 n5 g0 g1 g2 g3 g4 g5 : Nat} {R : List (Nat × Nat)} {S : Nat → Hsx} (h : Oh w a0 a1 a2 a3 a4 a5 n0 n1 n2 n3 n4 n5 g0 g1 g2 g3 g4 g5 R S) (b : Below w.heap.size w w') : Oh w' a0 a1 a2 a3 a4 a5 n0 n1 n2 n3 n4 n5 g0 g1 g2 g3 g4 g5 R S :=
  { h with pol := h.pol.keep b, mach := fun j hj => (h.mach j hj).keep b }
theorem tN_heads {w : World} {g n : Nat} {S : Nat → Hsx} (h : Mm w g n S) {j t : Nat} (hj : j < n) (ht : t = 0 ∨ t = 2 ∨ t = 7 ∨ t = 8) : Av (tN g S n) ⟨g, j * 9 + t, none⟩ := fun x hx e => by
  obtain ⟨i, hi, hx⟩ := tN_mem hx
  have off := (h.one i hi).off
  simp only [hN, hN2, hN1, List.mem_append, List.mem_singleton] at hx
  rcases hx with (((((((hx | hx) | hx) | hx) | hx) | hx) | hx) | hx) | hx
  · exact off (S i).r (by simp [Hsx.all]) (cN_pos hx) (by rw [← cN_block hx, e])
  · have e3 : i * 9 + 1 = j * 9 + t := by rw [hx] at e; exact congrArg Addr.off e
    omega
  · exact off (S i).c (by simp [Hsx.all]) (cN_pos hx) (by rw [← cN_block hx, e])
  · have e3 : i * 9 + 3 = j * 9 + t := by rw [hx] at e; exact congrArg Addr.off e
    omega
  · have e3 : i * 9 + 4 = j * 9 + t := by rw [hx] at e; exact congrArg Addr.off e
    omega
  · have e3 : i * 9 + 5 = j * 9 + t := by rw [hx] at e; exact congrArg Addr.off e
    omega
  · have e3 : i * 9 + 6 = j * 9 + t := by rw [hx] at e; exact congrArg Addr.off e
    omega
  · exact off (S i).i (by simp [Hsx.all]) (cN_pos hx) (by rw [← cN_block hx, e])
  · exact off (S i).o (by simp [Hsx.all]) (cN_pos hx) (by rw [← cN_block hx, e])
theorem Og.oh {w w' : World} {a0 a1 a2 a3 a4 a5 : Option Addr} {n0 n1 n2 n3 n4 n5 g0 g1 g2 g3 g4 g5 : Nat} {R : List (Nat × Nat)} {S : Nat → Hsx} {k : Int} (h : Og w a0 a1 a2 a3 a4 a5 n0 n1 n2 n3 n4 n5 g0 g1 g2 g3 g4 g5 R S) (m : Mx (oN g1 g2 g3 g4 g5 n1 n2 n3 n4 n5 R S) k w w') : Oh w' a0 a1 a2 a3 a4 a5 n0 n1 n2 n3 n4 n5 g0 g1 g2 g3 g4 g5 R S := by
  refine ⟨h.pol.ph m fun h0 => ?_, h.mem.at, h.at5, fun j hj => ?_, h.s4, h.s5⟩
  · intro x hx
    simp only [oN, List.mem_append] at hx
    rcases hx with (hx | hx) | hx
    · exact h.pol.heads h0 x hx
    · exact h.h0 h0 x (List.mem_append_left _ hx)
    · exact h.h0 h0 x (List.mem_append_right _ hx)
  · have hv : ∀ t, (t = 0 ∨ t = 2 ∨ t = 7 ∨ t = 8) → Av (oN g1 g2 g3 g4 g5 n1 n2 n3 n4 n5 R S) ⟨g5, j * 9 + t, none⟩ := fun t ht => (Ab.av (h.dg (by omega))).app (tN_heads h.mach hj ht)
    have o := h.mach.one j hj
    exact ⟨o.c0.hd m (hv 0 (by omega)), o.c2.hd m (hv 2 (by omega)), o.c7.hd m (hv 7 (by omega)), o.c8.hd m (hv 8 (by omega)), o.small⟩
theorem Ph.total {w : World} {a0 a1 a2 a3 : Option Addr} {n0 n1 n2 n3 g0 g1 g2 g3 : Nat} {R : List (Nat × Nat)} (h : Ph w a0 a1 a2 a3 n0 n1 n2 n3 g0 g1 g2 g3 R) : ((pN g1 g2 g3 n1 n2 n3 R).length : Int) ≤ 1100000000000 := by
  have h1 : (rN R).length ≤ 1048576 * n0 := by rw [← h.len]; exact rN_len h.small
  have := h.s0; have := h.s1; have := h.s2; have := h.s3
  rw [pN_len]; omega
set_option maxHeartbeats 4000000 in
theorem hx_host (a0 a1 a2 a3 a4 a5 : Option Addr) (n0 n1 n2 n3 n4 n5 c0 c1 c2 c3 c4 c5 g0 g1 g2 g3 g4 g5 : Nat) (x y z : Int) (R : List (Nat × Nat)) (S : Nat → Hsx) (k : Int) (w : World) (h : Oh w a0 a1 a2 a3 a4 a5 n0 n1 n2 n3 n4 n5 g0 g1 g2 g3 g4 g5 R S) (hx : Hx (oN g1 g2 g3 g4 g5 n1 n2 n3 n4 n5 R S) k w) (hk : 0 ≤ k) (hz : k ≤ 1048576) :
    Calls Tryz.prog 33 #[.agg #[.slice a0 n0 c0, .slice a1 n1 c1, .slice a2 n2 c2, .slice a3 n3 c3, .slice a4 n4 c4, .slice a5 n5 c5, .int .i64 x, .int .i64 y, .int .i64 z], .int .i64 k] w fun e w' => e = .returned (.int .i64 (k + (oN g1 g2 g3 g4 g5 n1 n2 n3 n4 n5 R S).length)) ∧ Below w.heap.size w w' := by
  generalize hW : (w.alloc (.cells #[.slice a0 n0 c0, .slice a1 n1 c1, .slice a2 n2 c2, .slice a3 n3 c3, .slice a4 n4 c4, .slice a5 n5 c5, .int .i64 x, .int .i64 y, .int .i64 z] 40)) = W
  have BW : Hid (Below w.heap.size w W) := by show Below _ _ _; rw [← hW]; exact al (Below.refl _ _) _
  obtain ⟨s, hS⟩ : ∃ s, w.heap.size = s := ⟨_, rfl⟩
  have q0 : W.cell? ⟨s, 0, none⟩ = some (.slice a0 n0 c0) := by rw [← hW, ← hS]; exact cell_new rfl
  have q1 : W.cell? ⟨s, 1, none⟩ = some (.slice a1 n1 c1) := by rw [← hW, ← hS]; exact cell_new rfl
  have q2 : W.cell? ⟨s, 2, none⟩ = some (.slice a2 n2 c2) := by rw [← hW, ← hS]; exact cell_new rfl
  have q3 : W.cell? ⟨s, 3, none⟩ = some (.slice a3 n3 c3) := by rw [← hW, ← hS]; exact cell_new rfl
  have Q4 : Hid (W.cell? ⟨s, 4, none⟩ = some (.slice a4 n4 c4)) := by show _ = _; rw [← hW, ← hS]; exact cell_new rfl
  have Q5 : Hid (W.cell? ⟨s, 5, none⟩ = some (.slice a5 n5 c5)) := by show _ = _; rw [← hW, ← hS]; exact cell_new rfl
  have HM : Hid (Oh W a0 a1 a2 a3 a4 a5 n0 n1 n2 n3 n4 n5 g0 g1 g2 g3 g4 g5 R S) := h.keep BW.out
  have HX : Hid (Hx (oN g1 g2 g3 g4 g5 n1 n2 n3 n4 n5 R S) k W) := hx.keep BW.out
  have TL := h.pol.total
  have KZ : Hid (0 ≤ k ∧ k ≤ 1048576) := ⟨hk, hz⟩
  obtain ⟨r0, hr0⟩ : ∃ r0, k + ((pN g1 g2 g3 n1 n2 n3 R).length : Int) = r0 := ⟨_, rfl⟩
  obtain ⟨r1, hr1⟩ : ∃ r1, r0 + (n4 : Int) = r1 := ⟨_, rfl⟩
  obtain ⟨r2, hr2⟩ : ∃ r2, r1 + ((tN g5 S n5).length : Int) = r2 := ⟨_, rfl⟩
  have RR : Hid (k + ((pN g1 g2 g3 n1 n2 n3 R).length : Int) = r0 ∧ r0 + (n4 : Int) = r1 ∧ r1 + ((tN g5 S n5).length : Int) = r2) := ⟨hr0, hr1, hr2⟩
  have p0 : 0 ≤ r0 := by omega
  have p1 : 0 ≤ r1 := by omega
  have p2 : 0 ≤ r2 := by omega
  have B1 : Hid (r0 ≤ 1200000000000 ∧ r1 ≤ 1300000000000) := ⟨by omega, by have := h.s4; omega⟩
  have X0 : Hid (Hx (pN g1 g2 g3 n1 n2 n3 R) k W) := HX.out.left.left
  have X1 : Hid (Hx (cN g4 n4) r0 W) := by have := HX.out.left.right; rw [hr0] at this; exact this
  have X2 : Hid (Hx (tN g5 S n5) r1 W) := by
    have := HX.out.right
    rw [List.length_append, cN_len, show k + (((pN g1 g2 g3 n1 n2 n3 R).length + n4 : Nat) : Int) = r1 by omega] at this; exact this
  have EL : Hid (k + ((oN g1 g2 g3 g4 g5 n1 n2 n3 n4 n5 R S).length : Int) = r2) := by show _ = _; rw [oN, List.length_append, List.length_append, cN_len]; omega
  clear h hx TL hr0 hr1 hr2
  go_enter Tryz.func33, Tryz.ntmps33
  go_wp2_with fail
  clear hW hS q0 q1 q2 q3
  refine (hx_policy _ _ _ _ _ _ _ _ _ _ _ _ g0 g1 g2 g3 R _ _ HM.out.pol X0.out KZ.out.1 KZ.out.2).mono ?_
  rintro e w1 ⟨rfl, b1⟩
  have C1 : Hid (Below W.heap.size W w1) := b1
  have q4 := cell_keep b1 Q4.out
  have q5 := cell_keep b1 Q5.out
  rw [RR.out.1]
  clear b1
  go_wp2_with fail
  refine (hx_nums _ _ _ g4 _ _ (X1.out.keep C1.out) HM.out.at4 p0 (by have := RR.out; have := B1.out; omega)).mono ?_
  rintro e w2 ⟨rfl, rfl⟩
  rw [RR.out.2.1]
  go_wp2_with fail
  refine (hx_harts _ g5 _ _ S _ _ (fun j hj => (HM.out.mach j hj).keep C1.out) (X2.out.keep C1.out) HM.out.at5 HM.out.s5 p1 (by have := B1.out; omega)).mono ?_
  rintro e w3 ⟨rfl, rfl⟩
  rw [RR.out.2.2]
  go_wp2_with fail
  go_ret
  exact ⟨by rw [EL.out]; rfl, on BW.out C1.out⟩
end Go.Proofs.YtggejbphdadckaaGreatDoor
