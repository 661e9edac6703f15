/- Texts of this seat, joined. -/
import Derived.Test.YtggejbphdadckaaGreatDoorQ35
namespace Go.Proofs.YtggejbphdadckaaGreatDoor
open Go.RowKit
set_option linter.unusedVariables false
def oN (g1 g2 g3 g4 g5 n1 n2 n3 n4 n5 : Nat) (R : List (Nat × Nat)) (S : Nat → Hsx) : List (Addr × Bool) := (pN g1 g2 g3 n1 n2 n3 R ++ cN g4 n4) ++ tN g5 S n5
structure Og (w : World) (a0 a1 a2 a3 a4 a5 : Option Addr) (n0 n1 n2 n3 n4 n5 g0 g1 g2 g3 g4 g5 : Nat) (R : List (Nat × Nat)) (S : Nat → Hsx) : Prop where
  pol : Pg w a0 a1 a2 a3 n0 n1 n2 n3 g0 g1 g2 g3 R
  mem : Mg w g4 1 a4 n4
  mach : Mm w g5 n5 S
  at5 : 0 < n5 → a5 = some ⟨g5, 0, none⟩
  s4 : n4 ≤ 1048576
  s5 : n5 ≤ 1048576
  dm : 0 < n4 → Ab (pN g1 g2 g3 n1 n2 n3 R) g4
  dg : 0 < n5 → Ab (pN g1 g2 g3 n1 n2 n3 R ++ cN g4 n4) g5
  dl : ∀ j, j < n5 → ∀ l ∈ (S j).all, 0 < l.2 → Ab (pN g1 g2 g3 n1 n2 n3 R ++ cN g4 n4) l.1
  h0 : 0 < n0 → Ab (cN g4 n4 ++ tN g5 S n5) g0
theorem Mm.mx {w w' : World} {g n : Nat} {S : Nat → Hsx} {L : List (Addr × Bool)} {k : Int} (h : Mm w g n S) (m : Mx L k w w') (hg : 0 < n → Ab L g) (hl : ∀ j, j < n → ∀ l ∈ (S j).all, 0 < l.2 → Ab L l.1) : Mm w' g n S :=
  ⟨fun j hj => (h.one j hj).mx m (fun t _ => Ab.av (hg (by omega))) (hl j hj), h.apart⟩
theorem Mm.alloc {w : World} {g n : Nat} {S : Nat → Hsx} (h : Mm w g n S) (o : Obj) : Mm (w.alloc o) g n S := h.mx ((Mx.refl 0 w).alloc o) (fun _ x hx => by simp at hx) (fun _ _ _ _ _ x hx => by simp at hx)
theorem Og.alloc {w : World} {a0 a1 a2 a3 a4 a5 : Option Addr} {n0 n1 n2 n3 n4 n5 g0 g1 g2 g3 g4 g5 : Nat} {R : List (Nat × Nat)} {S : Nat → Hsx} (h : Og w a0 a1 a2 a3 a4 a5 n0 n1 n2 n3 n4 n5 g0 g1 g2 g3 g4 g5 R S) (o : Obj) : Og (w.alloc o) a0 a1 a2 a3 a4 a5 n0 n1 n2 n3 n4 n5 g0 g1 g2 g3 g4 g5 R S :=
  { h with pol := h.pol.alloc o, mem := h.mem.alloc o, mach := h.mach.alloc o }
theorem Pg.lt {w : World} {a0 a1 a2 a3 : Option Addr} {n0 n1 n2 n3 g0 g1 g2 g3 : Nat} {R : List (Nat × Nat)} (h : Pg w a0 a1 a2 a3 n0 n1 n2 n3 g0 g1 g2 g3 R) : ∀ x ∈ pN g1 g2 g3 n1 n2 n3 R, x.1.block < w.heap.size := fun x hx => by
  simp only [pN, List.mem_append] at hx
  rcases hx with ((hx | hx) | hx) | hx
  · obtain ⟨r, _, _, e1, e2⟩ := h.own.cells hx; omega
  · obtain ⟨e1, _, e2⟩ := h.lanes.cells hx; omega
  · obtain ⟨e1, _, e2⟩ := h.bells.cells hx; omega
  · obtain ⟨e1, _, e2⟩ := h.plan.cells hx; omega
theorem Pg.total {w : World} {a0 a1 a2 a3 : Option Addr} {n0 n1 n2 n3 g0 g1 g2 g3 : Nat} {R : List (Nat × Nat)} (h : Pg w a0 a1 a2 a3 n0 n1 n2 n3 g0 g1 g2 g3 R) : ((pN g1 g2 g3 n1 n2 n3 R).length : Int) ≤ 1100000000000 := by
  have h1 : (rN R).length ≤ 1048576 * n0 := by rw [← h.len]; exact rN_len h.own.small
  have := h.s0; have := h.s1; have := h.s2; have := h.s3
  rw [pN_len]; omega
theorem Og.apart {w : World} {a0 a1 a2 a3 a4 a5 : Option Addr} {n0 n1 n2 n3 n4 n5 g0 g1 g2 g3 g4 g5 : Nat} {R : List (Nat × Nat)} {S : Nat → Hsx} (h : Og w a0 a1 a2 a3 a4 a5 n0 n1 n2 n3 n4 n5 g0 g1 g2 g3 g4 g5 R S) : ∀ x ∈ pN g1 g2 g3 n1 n2 n3 R ++ cN g4 n4, ∀ y ∈ tN g5 S n5, x.1 ≠ y.1 := fun x hx y hy e => by
  obtain ⟨i, hi, hy⟩ := tN_mem hy
  rcases hN_mem hy with ⟨l, hl, hp, hb⟩ | ⟨t, ht, e2⟩
  · exact h.dl i hi l hl hp x hx (by rw [e, hb])
  · exact h.dg (by omega) x hx (by rw [e, e2])
set_option maxHeartbeats 4000000 in
theorem mx_host (a0 a1 a2 a3 a4 a5 : Option Addr) (n0 n1 n2 n3 n4 n5 c0 c1 c2 c3 c4 c5 g0 g1 g2 g3 g4 g5 : Nat) (x y z : Int) (R : List (Nat × Nat)) (S : Nat → Hsx) (k : Int) (w : World) (h : Og w a0 a1 a2 a3 a4 a5 n0 n1 n2 n3 n4 n5 g0 g1 g2 g3 g4 g5 R S) (hk : 0 ≤ k) (hz : k ≤ 1048576) :
    Calls Tryz.prog 12 #[.agg #[.slice a0 n0 c0, .slice a1 n1 c1, .slice a2 n2 c2, .slice a3 n3 c3, .slice a4 n4 c4, .slice a5 n5 c5, .int .i64 x, .int .i64 y, .int .i64 z], .int .i64 k] w fun e w' => e = .returned (.int .i64 (k + (oN g1 g2 g3 g4 g5 n1 n2 n3 n4 n5 R S).length)) ∧ Mx (oN g1 g2 g3 g4 g5 n1 n2 n3 n4 n5 R S) k w w' := by
  generalize hW : (w.alloc (.cells #[.slice a0 n0 c0, .slice a1 n1 c1, .slice a2 n2 c2, .slice a3 n3 c3, .slice a4 n4 c4, .slice a5 n5 c5, .int .i64 x, .int .i64 y, .int .i64 z] 40)) = W
  have MW : Hid (Mx [] k w W) := by show Mx _ _ _ _; rw [← hW]; exact (Mx.refl _ _).alloc _
  obtain ⟨s, hS⟩ : ∃ s, w.heap.size = s := ⟨_, rfl⟩
  have q0 : W.cell? ⟨s, 0, none⟩ = some (.slice a0 n0 c0) := by rw [← hW, ← hS]; exact cell_new rfl
  have q1 : W.cell? ⟨s, 1, none⟩ = some (.slice a1 n1 c1) := by rw [← hW, ← hS]; exact cell_new rfl
  have q2 : W.cell? ⟨s, 2, none⟩ = some (.slice a2 n2 c2) := by rw [← hW, ← hS]; exact cell_new rfl
  have q3 : W.cell? ⟨s, 3, none⟩ = some (.slice a3 n3 c3) := by rw [← hW, ← hS]; exact cell_new rfl
  have Q4 : Hid (W.cell? ⟨s, 4, none⟩ = some (.slice a4 n4 c4)) := by show _ = _; rw [← hW, ← hS]; exact cell_new rfl
  have Q5 : Hid (W.cell? ⟨s, 5, none⟩ = some (.slice a5 n5 c5)) := by show _ = _; rw [← hW, ← hS]; exact cell_new rfl
  have HM : Hid (Og W a0 a1 a2 a3 a4 a5 n0 n1 n2 n3 n4 n5 g0 g1 g2 g3 g4 g5 R S) := by show Og ..; rw [← hW]; exact h.alloc _
  have L0 : Hid (Ab (pN g1 g2 g3 n1 n2 n3 R) s) := fun x hx => by have := h.pol.lt x hx; omega
  have L1 : Hid (Ab (pN g1 g2 g3 n1 n2 n3 R ++ cN g4 n4) s) := L0.out.app (Ab.cn fun h0 => by have := h.mem.lt (by decide) h0; omega)
  have TL : Hid (((pN g1 g2 g3 n1 n2 n3 R).length : Int) ≤ 1100000000000) := h.pol.total
  have KZ : Hid (0 ≤ k ∧ k ≤ 1048576) := ⟨hk, hz⟩
  clear h
  go_enter Tryz.func12, Tryz.ntmps12
  go_wp2_with fail
  clear hW hS q0 q1 q2 q3
  refine (mx_policy _ _ _ _ _ _ _ _ _ _ _ _ g0 g1 g2 g3 R _ _ HM.out.pol KZ.out.1 KZ.out.2).mono ?_
  rintro e w1 ⟨rfl, m1⟩
  have M1 : Hid (Mx (pN g1 g2 g3 n1 n2 n3 R) k W w1) := m1
  have q4 := m1.out _ _ Q4.out (Ab.av L0.out)
  obtain ⟨r0, hr0⟩ : ∃ r0, k + ((pN g1 g2 g3 n1 n2 n3 R).length : Int) = r0 := ⟨_, rfl⟩
  have R0 : Hid (k + ((pN g1 g2 g3 n1 n2 n3 R).length : Int) = r0) := hr0
  have B0 : Hid (0 ≤ r0 ∧ r0 ≤ 1200000000000) := ⟨by have := KZ.out; omega, by have := KZ.out; have := TL.out; omega⟩
  rw [hr0]
  clear m1 hr0
  go_wp2_with fail
  clear q4
  refine (mx_nums _ _ _ g4 _ _ (HM.out.mem.mx M1.out HM.out.dm) B0.out.1 (by have := B0.out.2; have := HM.out.s4; omega)).mono ?_
  rintro e w2 ⟨rfl, m2⟩
  have M2 : Hid (Mx (pN g1 g2 g3 n1 n2 n3 R ++ cN g4 n4) k W w2) := M1.out.nums m2 R0.out.symm HM.out.dm
  have q5 := M2.out.out _ _ Q5.out (Ab.av L1.out)
  obtain ⟨r1, hr1⟩ : ∃ r1, r0 + (n4 : Int) = r1 := ⟨_, rfl⟩
  have R1 : Hid (k + ((pN g1 g2 g3 n1 n2 n3 R ++ cN g4 n4).length : Int) = r1) := by show _ = _; have := R0.out; rw [List.length_append, cN_len]; omega
  have B1 : Hid (0 ≤ r1 ∧ r1 ≤ 1300000000000) := ⟨by have := B0.out; omega, by have := B0.out; have := HM.out.s4; omega⟩
  rw [hr1]
  clear m2 hr1
  go_wp2_with fail
  clear q5
  refine (mx_harts _ g5 _ _ S _ _ (HM.out.mach.mx M2.out HM.out.dg HM.out.dl) HM.out.at5 HM.out.s5 B1.out.1 (by have := B1.out.2; omega)).mono ?_
  rintro e w3 ⟨rfl, m3⟩
  have M3 : Hid (Mx (oN g1 g2 g3 g4 g5 n1 n2 n3 n4 n5 R S) k w w3) := MW.out.pre (M2.out.trans (by rw [R1.out]; exact m3) HM.out.apart)
  obtain ⟨r2, hr2⟩ : ∃ r2, r1 + ((tN g5 S n5).length : Int) = r2 := ⟨_, rfl⟩
  have R2 : Hid (k + ((oN g1 g2 g3 g4 g5 n1 n2 n3 n4 n5 R S).length : Int) = r2) := by show _ = _; have := R1.out; rw [oN, List.length_append]; omega
  rw [hr2]
  clear m3 hr2
  go_wp2_with fail
  go_ret
  exact ⟨by rw [R2.out]; rfl, M3.out⟩
end Go.Proofs.YtggejbphdadckaaGreatDoor
