/- Texts of this seat, joined. -/
import Derived.Test.YtcdbhhhihhdghaaGreatDoorQ30
namespace Go.Proofs.YtcdbhhhihhdghaaGreatDoor
open Go.RowKit
set_option linter.unusedVariables false

theorem Hx.keep {L : List (Addr × Bool)} {k : Int} {w w' : World} (h : Hx L k w) (b : Below w.heap.size w w') : Hx L k w' := fun i x e => cell_keep b (h i x e)
/-- Where the lists of a policy lie. -/
structure Ph (w : World) (a0 a1 a2 a3 : Option Addr) (n0 n1 n2 n3 g0 g1 g2 g3 : Nat) (R : List (Nat × Nat)) : Prop where
  heads : ∀ (i : Nat) (r : Nat × Nat), R[i]? = some r → ∃ a c, w.cell? ⟨g0, i, none⟩ = some (.slice a r.2 c) ∧ (0 < r.2 → a = some ⟨r.1, 0, none⟩)
  small : ∀ r ∈ R, r.2 ≤ 1048576
  len : R.length = n0
  at0 : 0 < n0 → a0 = some ⟨g0, 0, none⟩
  at1 : 0 < n1 → a1 = some ⟨g1, 0, none⟩
  at2 : 0 < n2 → a2 = some ⟨g2, 0, none⟩
  at3 : 0 < n3 → a3 = some ⟨g3, 0, none⟩
  s0 : n0 ≤ 1048576
  s1 : n1 ≤ 1048576
  s2 : n2 ≤ 1048576
  s3 : n3 ≤ 1048576
theorem Ph.keep {w w' : World} {a0 a1 a2 a3 : Option Addr} {n0 n1 n2 n3 g0 g1 g2 g3 : Nat} {R : List (Nat × Nat)} (h : Ph w a0 a1 a2 a3 n0 n1 n2 n3 g0 g1 g2 g3 R) (b : Below w.heap.size w w') : Ph w' a0 a1 a2 a3 n0 n1 n2 n3 g0 g1 g2 g3 R :=
  { h with heads := fun i r e => by obtain ⟨a, c, k1, k2⟩ := h.heads i r e; exact ⟨a, c, cell_keep b k1, k2⟩ }
/-- Once it is marked (and other things with it, but not the heads of its rows). -/
theorem Pg.ph {w w' : World} {a0 a1 a2 a3 : Option Addr} {n0 n1 n2 n3 g0 g1 g2 g3 : Nat} {R : List (Nat × Nat)} {L : List (Addr × Bool)} {k : Int} (h : Pg w a0 a1 a2 a3 n0 n1 n2 n3 g0 g1 g2 g3 R) (m : Mx L k w w') (hL : 0 < n0 → ∀ x ∈ L, x.1.block ≠ g0) : Ph w' a0 a1 a2 a3 n0 n1 n2 n3 g0 g1 g2 g3 R :=
  ⟨fun i r e => by
    obtain ⟨a, c, k1, k2⟩ := h.own.row i r e
    have h0 : 0 < n0 := by rw [← h.len]; exact Nat.lt_of_le_of_lt (Nat.zero_le i) (List.getElem?_eq_some_iff.1 e).1
    exact ⟨a, c, m.out _ _ k1 fun x hx e2 => hL h0 x hx (by rw [e2]), k2.at⟩,
   h.own.small, h.len, h.at0, h.lanes.at, h.bells.at, h.plan.at, h.s0, h.s1, h.s2, h.s3⟩
theorem Pg.heads {w : World} {a0 a1 a2 a3 : Option Addr} {n0 n1 n2 n3 g0 g1 g2 g3 : Nat} {R : List (Nat × Nat)} (h : Pg w a0 a1 a2 a3 n0 n1 n2 n3 g0 g1 g2 g3 R) (h0 : 0 < n0) : ∀ x ∈ pN g1 g2 g3 n1 n2 n3 R, x.1.block ≠ g0 :=
  off2 (off2 (off2 (fun x hx => by obtain ⟨r, hr, hp, e1, _⟩ := h.own.cells hx; rw [e1]; exact h.own.off r hr hp)
    (fun x hx => by obtain ⟨e1, hn, _⟩ := h.lanes.cells hx; rw [e1]; exact h.h1 h0 hn))
    (fun x hx => by obtain ⟨e1, hn, _⟩ := h.bells.cells hx; rw [e1]; exact h.h2 h0 hn))
    (fun x hx => by obtain ⟨e1, hn, _⟩ := h.plan.cells hx; rw [e1]; exact h.h3 h0 hn)

set_option maxHeartbeats 2000000 in
theorem hx_policy (a0 a1 a2 a3 : Option Addr) (n0 n1 n2 n3 c0 c1 c2 c3 g0 g1 g2 g3 : Nat) (R : List (Nat × Nat)) (k : Int) (w : World) (h : Ph w a0 a1 a2 a3 n0 n1 n2 n3 g0 g1 g2 g3 R) (hx : Hx (pN g1 g2 g3 n1 n2 n3 R) k w) (hk : 0 ≤ k) (hz : k ≤ 1048576) :
    Calls Tryz.prog 19 #[.agg #[.slice a0 n0 c0, .slice a1 n1 c1, .slice a2 n2 c2, .slice a3 n3 c3], .int .i64 k] w fun e w' => e = .returned (.int .i64 (k + (pN g1 g2 g3 n1 n2 n3 R).length)) ∧ Below w.heap.size w w' := by
  generalize hW : (w.alloc (.cells #[.slice a0 n0 c0, .slice a1 n1 c1, .slice a2 n2 c2, .slice a3 n3 c3] 27)) = W
  have BW : Hid (Below w.heap.size w W) := by show Below _ _ _; rw [← hW]; exact al (Below.refl _ _) _
  obtain ⟨s, hS⟩ : ∃ s, w.heap.size = s := ⟨_, rfl⟩
  have Q : Hid (W.cell? ⟨s, 0, none⟩ = some (.slice a0 n0 c0) ∧ W.cell? ⟨s, 1, none⟩ = some (.slice a1 n1 c1) ∧ W.cell? ⟨s, 2, none⟩ = some (.slice a2 n2 c2) ∧ W.cell? ⟨s, 3, none⟩ = some (.slice a3 n3 c3)) := by
    show _ ∧ _
    rw [← hW, ← hS]
    exact ⟨cell_new rfl, cell_new rfl, cell_new rfl, cell_new rfl⟩
  have HM : Hid (Ph W a0 a1 a2 a3 n0 n1 n2 n3 g0 g1 g2 g3 R) := h.keep BW.out
  have HX : Hid (Hx (pN g1 g2 g3 n1 n2 n3 R) k W) := hx.keep BW.out
  have RL : Hid ((rN R).length ≤ 1048576 * n0) := by show _ ≤ _; rw [← h.len]; exact rN_len h.small
  have KZ : Hid (0 ≤ k ∧ k ≤ 1048576) := ⟨hk, hz⟩
  have q0 := Q.out.1
  have q1 := Q.out.2.1
  have q2 := Q.out.2.2.1
  have q3 := Q.out.2.2.2
  clear h hx
  obtain ⟨r0, hr0⟩ : ∃ r0, k + ((rN R).length : Int) = r0 := ⟨_, rfl⟩
  obtain ⟨r1, hr1⟩ : ∃ r1, r0 + ((5 * n1 : Nat) : Int) = r1 := ⟨_, rfl⟩
  obtain ⟨r2, hr2⟩ : ∃ r2, r1 + ((2 * n2 : Nat) : Int) = r2 := ⟨_, rfl⟩
  obtain ⟨r3, hr3⟩ : ∃ r3, r2 + ((2 * n3 : Nat) : Int) = r3 := ⟨_, rfl⟩
  have R0 : Hid (k + ((rN R).length : Int) = r0 ∧ r0 + ((5 * n1 : Nat) : Int) = r1 ∧ r1 + ((2 * n2 : Nat) : Int) = r2 ∧ r2 + ((2 * n3 : Nat) : Int) = r3) := ⟨hr0, hr1, hr2, hr3⟩
  have X0 : Hid (Hx (rN R) k W) := HX.out.left.left.left
  have X1 : Hid (Hx (cN g1 (n1 * 5)) r0 W) := by have := HX.out.left.left.right; rw [hr0] at this; exact this
  have X2 : Hid (Hx (cN g2 (n2 * 2)) r1 W) := by
    have := HX.out.left.right
    rw [List.length_append, cN_len, show k + (((rN R).length + n1 * 5 : Nat) : Int) = r1 by omega] at this; exact this
  have X3 : Hid (Hx (cN g3 (n3 * 2)) r2 W) := by
    have := HX.out.right
    rw [List.length_append, List.length_append, cN_len, cN_len, show k + (((rN R).length + n1 * 5 + n2 * 2 : Nat) : Int) = r2 by omega] at this; exact this
  have EL : Hid (k + ((pN g1 g2 g3 n1 n2 n3 R).length : Int) = r3) := by show _ = _; rw [pN_len]; omega
  have B : Hid (0 ≤ r0 ∧ 0 ≤ r1 ∧ 0 ≤ r2 ∧ 0 ≤ r3 ∧ r3 ≤ 2199023255552) := by
    have := RL.out; have := HM.out.s0; have := HM.out.s1; have := HM.out.s2; have := HM.out.s3
    refine ⟨?_, ?_, ?_, ?_, ?_⟩ <;> omega
  have p0 : 0 ≤ r0 := B.out.1
  have p1 : 0 ≤ r1 := B.out.2.1
  have p2 : 0 ≤ r2 := B.out.2.2.1
  have p3 : 0 ≤ r3 := B.out.2.2.2.1
  clear hr0 hr1 hr2 hr3
  go_enter Tryz.func19, Tryz.ntmps19
  go_wp2_with fail
  clear hW hS
  refine (hx_rows _ _ _ _ _ _ _ X0.out HM.out.len HM.out.at0 HM.out.heads HM.out.small HM.out.s0 KZ.out.1 (by have := KZ.out.2; omega)).mono ?_
  rintro e w1 ⟨rfl, rfl⟩
  rw [R0.out.1]
  go_wp2_with fail
  refine (hx_lanes _ _ _ g1 _ _ X1.out HM.out.at1 p0 (by have := R0.out; have := B.out; omega)).mono ?_
  rintro e w2 ⟨rfl, rfl⟩
  rw [R0.out.2.1]
  go_wp2_with fail
  refine (hx_bells _ _ _ g2 _ _ X2.out HM.out.at2 p1 (by have := R0.out; have := B.out; omega)).mono ?_
  rintro e w3 ⟨rfl, rfl⟩
  rw [R0.out.2.2.1]
  go_wp2_with fail
  refine (hx_slots _ _ _ g3 _ _ X3.out HM.out.at3 p2 (by have := R0.out; have := B.out; omega)).mono ?_
  rintro e w4 ⟨rfl, rfl⟩
  rw [R0.out.2.2.2]
  go_wp2_with fail
  go_ret
  exact ⟨by rw [EL.out]; rfl, BW.out⟩

end Go.Proofs.YtcdbhhhihhdghaaGreatDoor
