/- Texts of this seat, joined. -/
import Derived.Test.YtcdbhhhihhdghaaGreatDoorQ28
namespace Go.Proofs.YtcdbhhhihhdghaaGreatDoor
open Go.RowKit
set_option linter.unusedVariables false

theorem off2 {L M : List (Addr × Bool)} {s : Nat} (h1 : ∀ x ∈ L, x.1.block ≠ s) (h2 : ∀ x ∈ M, x.1.block ≠ s) : ∀ x ∈ L ++ M, x.1.block ≠ s := fun x hx =>
  (List.mem_append.1 hx).elim (h1 x) (h2 x)
theorem Mx.pre {L : List (Addr × Bool)} {k : Int} {a b c : World} (h : Mx [] k a b) (m : Mx L k b c) : Mx L k a c := by
  have := h.trans (M := L) (by simpa using m) (by simp)
  simpa using this
theorem Mg.lt {w : World} {g sz n : Nat} {a : Option Addr} (h : Mg w g sz a n) (hs : 0 < sz) (hn : 0 < n) : g < w.heap.size := by
  obtain ⟨_, h3⟩ := h hn
  obtain ⟨⟨z, hz⟩, _⟩ := h3 0 (Nat.mul_pos hn hs)
  exact block_of_cell hz
theorem Mg.at {w : World} {g sz n : Nat} {a : Option Addr} (h : Mg w g sz a n) (hn : 0 < n) : a = some ⟨g, 0, none⟩ := (h hn).1
theorem Mg.cells {w : World} {g sz n : Nat} {a : Option Addr} (h : Mg w g sz a n) {x : Addr × Bool} (hx : x ∈ cN g (n * sz)) : x.1.block = g ∧ 0 < n ∧ g < w.heap.size := by
  have hp := cN_pos hx
  have h1 : 0 < n := Nat.pos_of_mul_pos_right hp
  have h2 : 0 < sz := Nat.pos_of_mul_pos_left hp
  exact ⟨cN_block hx, h1, h.lt h2 h1⟩
theorem Rg.cells {w : World} {g : Nat} {R : List (Nat × Nat)} (h : Rg w g R) {x : Addr × Bool} (hx : x ∈ rN R) : ∃ r ∈ R, 0 < r.2 ∧ x.1.block = r.1 ∧ r.1 < w.heap.size := by
  obtain ⟨r, hr, hp, hb⟩ := rN_mem hx
  obtain ⟨i, hi, e⟩ := List.mem_iff_getElem.1 hr
  obtain ⟨a, c, _, k2⟩ := h.row i r (by rw [List.getElem?_eq_getElem hi, e])
  exact ⟨r, hr, hp, hb, k2.lt (by decide) hp⟩
/-- A policy that may be marked: the blocks of its lists are all others. -/
structure Pg (w : World) (a0 a1 a2 a3 : Option Addr) (n0 n1 n2 n3 g0 g1 g2 g3 : Nat) (R : List (Nat × Nat)) : Prop where
  own : Rg w g0 R
  len : R.length = n0
  at0 : 0 < n0 → a0 = some ⟨g0, 0, none⟩
  lanes : Mg w g1 5 a1 n1
  bells : Mg w g2 2 a2 n2
  plan : Mg w g3 2 a3 n3
  s0 : n0 ≤ 1048576
  s1 : n1 ≤ 1048576
  s2 : n2 ≤ 1048576
  s3 : n3 ≤ 1048576
  d1 : 0 < n1 → ∀ r ∈ R, 0 < r.2 → r.1 ≠ g1
  d2 : 0 < n2 → ∀ r ∈ R, 0 < r.2 → r.1 ≠ g2
  d3 : 0 < n3 → ∀ r ∈ R, 0 < r.2 → r.1 ≠ g3
  d12 : 0 < n1 → 0 < n2 → g1 ≠ g2
  d13 : 0 < n1 → 0 < n3 → g1 ≠ g3
  d23 : 0 < n2 → 0 < n3 → g2 ≠ g3
  h1 : 0 < n0 → 0 < n1 → g1 ≠ g0
  h2 : 0 < n0 → 0 < n2 → g2 ≠ g0
  h3 : 0 < n0 → 0 < n3 → g3 ≠ g0
def pN (g1 g2 g3 n1 n2 n3 : Nat) (R : List (Nat × Nat)) : List (Addr × Bool) := ((rN R ++ cN g1 (n1 * 5)) ++ cN g2 (n2 * 2)) ++ cN g3 (n3 * 2)
theorem pN_len (g1 g2 g3 n1 n2 n3 : Nat) (R : List (Nat × Nat)) : ((pN g1 g2 g3 n1 n2 n3 R).length : Int) = (rN R).length + (5 * n1 : Nat) + (2 * n2 : Nat) + (2 * n3 : Nat) := by
  simp only [pN, List.length_append, cN_len]; omega
theorem Rg.alloc {w : World} {g : Nat} {R : List (Nat × Nat)} (h : Rg w g R) (o : Obj) : Rg (w.alloc o) g R := h.mx ((Mx.refl 0 w).alloc o) (by simp) (by simp)
theorem Mg.alloc {w : World} {g sz n : Nat} {a : Option Addr} (h : Mg w g sz a n) (o : Obj) : Mg (w.alloc o) g sz a n := h.mx ((Mx.refl 0 w).alloc o) (by simp)
theorem Pg.alloc {w : World} {a0 a1 a2 a3 : Option Addr} {n0 n1 n2 n3 g0 g1 g2 g3 : Nat} {R : List (Nat × Nat)} (h : Pg w a0 a1 a2 a3 n0 n1 n2 n3 g0 g1 g2 g3 R) (o : Obj) : Pg (w.alloc o) a0 a1 a2 a3 n0 n1 n2 n3 g0 g1 g2 g3 R :=
  { h with own := h.own.alloc o, lanes := h.lanes.alloc o, bells := h.bells.alloc o, plan := h.plan.alloc o }

set_option maxHeartbeats 2000000 in
theorem mx_policy (a0 a1 a2 a3 : Option Addr) (n0 n1 n2 n3 c0 c1 c2 c3 g0 g1 g2 g3 : Nat) (R : List (Nat × Nat)) (k : Int) (w : World) (h : Pg w a0 a1 a2 a3 n0 n1 n2 n3 g0 g1 g2 g3 R) (hk : 0 ≤ k) (hz : k ≤ 1048576) :
    Calls Tryz.prog 18 #[.agg #[.slice a0 n0 c0, .slice a1 n1 c1, .slice a2 n2 c2, .slice a3 n3 c3], .int .i64 k] w fun e w' => e = .returned (.int .i64 (k + (pN g1 g2 g3 n1 n2 n3 R).length)) ∧ Mx (pN g1 g2 g3 n1 n2 n3 R) k w w' := by
  generalize hW : (w.alloc (.cells #[.slice a0 n0 c0, .slice a1 n1 c1, .slice a2 n2 c2, .slice a3 n3 c3] 27)) = W
  have MW : Hid (Mx [] k w W) := by show Mx _ _ _ _; rw [← hW]; exact (Mx.refl _ _).alloc _
  obtain ⟨s, hS⟩ : ∃ s, w.heap.size = s := ⟨_, rfl⟩
  have Q : Hid (W.cell? ⟨s, 0, none⟩ = some (.slice a0 n0 c0) ∧ W.cell? ⟨s, 1, none⟩ = some (.slice a1 n1 c1) ∧ W.cell? ⟨s, 2, none⟩ = some (.slice a2 n2 c2) ∧ W.cell? ⟨s, 3, none⟩ = some (.slice a3 n3 c3)) := by
    show _ ∧ _
    rw [← hW, ← hS]
    exact ⟨cell_new rfl, cell_new rfl, cell_new rfl, cell_new rfl⟩
  have HM : Hid (Pg W a0 a1 a2 a3 n0 n1 n2 n3 g0 g1 g2 g3 R) := by show Pg ..; rw [← hW]; exact h.alloc _
  have L0 : Hid (∀ x ∈ rN R, x.1.block ≠ s) := fun x hx => by obtain ⟨r, _, _, e1, e2⟩ := h.own.cells hx; omega
  have L1 : Hid (∀ x ∈ cN g1 (n1 * 5), x.1.block ≠ s) := fun x hx => by obtain ⟨e1, _, e2⟩ := h.lanes.cells hx; omega
  have L2 : Hid (∀ x ∈ cN g2 (n2 * 2), x.1.block ≠ s) := fun x hx => by obtain ⟨e1, _, e2⟩ := h.bells.cells hx; omega
  have RL : Hid ((rN R).length ≤ 1048576 * n0) := by show _ ≤ _; rw [← h.len]; exact rN_len h.own.small
  have D01 : Hid (∀ x ∈ rN R, ∀ y ∈ cN g1 (n1 * 5), x.1 ≠ y.1) := fun x hx y hy e => by
    obtain ⟨r, hr, hp, e1, _⟩ := h.own.cells hx; obtain ⟨e2, hn, _⟩ := h.lanes.cells hy
    exact h.d1 hn r hr hp (by rw [← e1, ← e2, e])
  have D02 : Hid (∀ x ∈ rN R ++ cN g1 (n1 * 5), ∀ y ∈ cN g2 (n2 * 2), x.1 ≠ y.1) := fun x hx y hy e => by
    obtain ⟨e2, hn, _⟩ := h.bells.cells hy
    rcases List.mem_append.1 hx with hx | hx
    · obtain ⟨r, hr, hp, e1, _⟩ := h.own.cells hx
      exact h.d2 hn r hr hp (by rw [← e1, ← e2, e])
    · obtain ⟨e1, hm, _⟩ := h.lanes.cells hx
      exact h.d12 hm hn (by rw [← e1, ← e2, e])
  have D03 : Hid (∀ x ∈ (rN R ++ cN g1 (n1 * 5)) ++ cN g2 (n2 * 2), ∀ y ∈ cN g3 (n3 * 2), x.1 ≠ y.1) := fun x hx y hy e => by
    obtain ⟨e2, hn, _⟩ := h.plan.cells hy
    rcases List.mem_append.1 hx with hx | hx
    · rcases List.mem_append.1 hx with hx | hx
      · obtain ⟨r, hr, hp, e1, _⟩ := h.own.cells hx
        exact h.d3 hn r hr hp (by rw [← e1, ← e2, e])
      · obtain ⟨e1, hm, _⟩ := h.lanes.cells hx
        exact h.d13 hm hn (by rw [← e1, ← e2, e])
    · obtain ⟨e1, hm, _⟩ := h.bells.cells hx
      exact h.d23 hm hn (by rw [← e1, ← e2, e])
  have SM : Hid (n0 ≤ 1048576 ∧ n1 ≤ 1048576 ∧ n2 ≤ 1048576 ∧ n3 ≤ 1048576) := ⟨h.s0, h.s1, h.s2, h.s3⟩
  clear h
  have q0 := Q.out.1
  have KZ : Hid (0 ≤ k ∧ k ≤ 1048576) := ⟨hk, hz⟩
  go_enter Tryz.func18, Tryz.ntmps18
  go_wp2_with fail
  clear hW hS
  refine (mx_rows _ _ _ _ _ _ _ HM.out.own HM.out.len HM.out.at0 SM.out.1 KZ.out.1 (by have := KZ.out.2; omega)).mono ?_
  rintro e w1 ⟨rfl, m1⟩
  have M1 : Hid (Mx (rN R) k W w1) := m1
  have q1 := m1.out _ _ Q.out.2.1 (fun x hx e => L0.out x hx (by rw [e]))
  obtain ⟨r0, hr0⟩ : ∃ r0, k + ((rN R).length : Int) = r0 := ⟨_, rfl⟩
  have R0 : Hid (k + ((rN R).length : Int) = r0) := hr0
  have B0 : Hid (0 ≤ r0 ∧ r0 ≤ 1048576 + 1048576 * n0) := ⟨by have := KZ.out; omega, by have := KZ.out; have := RL.out; omega⟩
  rw [hr0]
  clear m1 hr0 q0
  go_wp2_with fail
  refine (mx_lanes _ _ _ g1 _ _ (HM.out.lanes.mx M1.out fun hn x hx e => by obtain ⟨r, hr, hp, e1, _⟩ := HM.out.own.cells hx; exact HM.out.d1 hn r hr hp (by rw [← e1, e])) B0.out.1 (by have := B0.out.2; have := SM.out; omega)).mono ?_
  rintro e w2 ⟨rfl, m2⟩
  have M2 : Hid (Mx (rN R ++ cN g1 (n1 * 5)) k W w2) := M1.out.trans (by rw [R0.out]; exact m2) D01.out
  have q2 := M2.out.out _ _ Q.out.2.2.1 (fun x hx e => off2 L0.out L1.out x hx (by rw [e]))
  obtain ⟨r1, hr1⟩ : ∃ r1, r0 + ((5 * n1 : Nat) : Int) = r1 := ⟨_, rfl⟩
  have R1 : Hid (k + ((rN R ++ cN g1 (n1 * 5)).length : Int) = r1) := by show _ = _; have := R0.out; simp only [List.length_append, cN_len]; omega
  have B1 : Hid (0 ≤ r1 ∧ r1 ≤ 1048576 + 1048576 * n0 + 5 * n1) := ⟨by have := B0.out; omega, by have := B0.out; omega⟩
  rw [hr1]
  clear m2 hr1 q1
  go_wp2_with fail
  refine (mx_bells _ _ _ g2 _ _ (HM.out.bells.mx M2.out fun hn x hx e => by
    rcases List.mem_append.1 hx with hx | hx
    · obtain ⟨r, hr, hp, e1, _⟩ := HM.out.own.cells hx; exact HM.out.d2 hn r hr hp (by rw [← e1, e])
    · obtain ⟨e1, hm, _⟩ := HM.out.lanes.cells hx; exact HM.out.d12 hm hn (by rw [← e1, e])) B1.out.1 (by have := B1.out.2; have := SM.out; omega)).mono ?_
  rintro e w3 ⟨rfl, m3⟩
  have M3 : Hid (Mx ((rN R ++ cN g1 (n1 * 5)) ++ cN g2 (n2 * 2)) k W w3) := M2.out.trans (by rw [R1.out]; exact m3) D02.out
  have q3 := M3.out.out _ _ Q.out.2.2.2 (fun x hx e => off2 (off2 L0.out L1.out) L2.out x hx (by rw [e]))
  obtain ⟨r2, hr2⟩ : ∃ r2, r1 + ((2 * n2 : Nat) : Int) = r2 := ⟨_, rfl⟩
  have R2 : Hid (k + (((rN R ++ cN g1 (n1 * 5)) ++ cN g2 (n2 * 2)).length : Int) = r2) := by show _ = _; have := R1.out; rw [List.length_append, cN_len]; omega
  have B2 : Hid (0 ≤ r2 ∧ r2 ≤ 1048576 + 1048576 * n0 + 5 * n1 + 2 * n2) := ⟨by have := B1.out; omega, by have := B1.out; omega⟩
  rw [hr2]
  clear m3 hr2 q2
  go_wp2_with fail
  refine (mx_slots _ _ _ g3 _ _ (HM.out.plan.mx M3.out fun hn x hx e => by
    rcases List.mem_append.1 hx with hx | hx
    · rcases List.mem_append.1 hx with hx | hx
      · obtain ⟨r, hr, hp, e1, _⟩ := HM.out.own.cells hx; exact HM.out.d3 hn r hr hp (by rw [← e1, e])
      · obtain ⟨e1, hm, _⟩ := HM.out.lanes.cells hx; exact HM.out.d13 hm hn (by rw [← e1, e])
    · obtain ⟨e1, hm, _⟩ := HM.out.bells.cells hx; exact HM.out.d23 hm hn (by rw [← e1, e])) B2.out.1 (by have := B2.out.2; have := SM.out; omega)).mono ?_
  rintro e w4 ⟨rfl, m4⟩
  have M4 : Hid (Mx (pN g1 g2 g3 n1 n2 n3 R) k w w4) := MW.out.pre (M3.out.trans (by rw [R2.out]; exact m4) D03.out)
  obtain ⟨r3, hr3⟩ : ∃ r3, r2 + ((2 * n3 : Nat) : Int) = r3 := ⟨_, rfl⟩
  have R3 : Hid (k + ((pN g1 g2 g3 n1 n2 n3 R).length : Int) = r3) := by show _ = _; have := R2.out; rw [pN, List.length_append, cN_len]; omega
  rw [hr3]
  clear m4 hr3 q3
  go_wp2_with fail
  go_ret
  exact ⟨by rw [R3.out]; rfl, M4.out⟩

end Go.Proofs.YtcdbhhhihhdghaaGreatDoor
