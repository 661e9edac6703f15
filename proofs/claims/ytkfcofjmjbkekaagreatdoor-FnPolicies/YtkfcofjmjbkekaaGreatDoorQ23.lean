/- Texts of this seat, joined. -/
import Derived.Test.YtkfcofjmjbkekaaGreatDoorQ21
namespace Go.Proofs.YtkfcofjmjbkekaaGreatDoor
open Go.RowKit
set_option linter.unusedVariables false

theorem off2 {L M : List (Addr × Bool)} {s : Nat} (h1 : ∀ x ∈ L, x.1.block ≠ s) (h2 : ∀ x ∈ M, x.1.block ≠ s) : ∀ x ∈ L ++ M, x.1.block ≠ s := fun x hx =>
  (List.mem_append.1 hx).elim (h1 x) (h2 x)
theorem Mx.pre {L : List (Addr × Bool)} {k : Int} {a b c : World} (h : Mx [] k a b) (m : Mx L k b c) : Mx L k a c := by
  have := h.trans (M := L) (by simpa using m) (by simp)
  simpa using this
theorem Mg.lt {w : World} {g sz n : Nat} {a : Option Addr} (h : Mg w g sz a n) (hs : 0 < sz) (hn : 0 < n) : g < w.heap.size := by
  obtain ⟨_, h3⟩ := h hn
  obtain ⟨⟨z, hz⟩, _⟩ := h3 0 (Nat.mul_pos hn hs)
  exact block_of_cell hz
theorem Mg.at {w : World} {g sz n : Nat} {a : Option Addr} (h : Mg w g sz a n) (hn : 0 < n) : a = some ⟨g, 0, none⟩ := (h hn).1
theorem Mg.cells {w : World} {g sz n : Nat} {a : Option Addr} (h : Mg w g sz a n) {x : Addr × Bool} (hx : x ∈ cN g (n * sz)) : x.1.block = g ∧ 0 < n ∧ g < w.heap.size := by
  have hp := cN_pos hx
  have h1 : 0 < n := Nat.pos_of_mul_pos_right hp
  have h2 : 0 < sz := Nat.pos_of_mul_pos_left hp
  exact ⟨cN_block hx, h1, h.lt h2 h1⟩
theorem Rg.cells {w : World} {g : Nat} {R : List (Nat × Nat)} (h : Rg w g R) {x : Addr × Bool} (hx : x ∈ rN R) : ∃ r ∈ R, 0 < r.2 ∧ x.1.block = r.1 ∧ r.1 < w.heap.size := by
  obtain ⟨r, hr, hp, hb⟩ := rN_mem hx
  obtain ⟨i, hi, e⟩ := List.mem_iff_getElem.1 hr
  obtain ⟨a, c, _, k2⟩ := h.row i r (by rw [List.getElem?_eq_getElem hi, e])
  exact ⟨r, hr, hp, hb, k2.lt (by decide) hp⟩
/-- A policy that may be marked: the blocks of its lists are all others. -/
structure Pg (w : World) (a0 a1 a2 a3 : Option Addr) (n0 n1 n2 n3 g0 g1 g2 g3 : Nat) (R : List (Nat × Nat)) : Prop where
  own : Rg w g0 R
  len : R.length = n0
  at0 : 0 < n0 → a0 = some ⟨g0, 0, none⟩
  lanes : Mg w g1 5 a1 n1
  bells : Mg w g2 2 a2 n2
  plan : Mg w g3 2 a3 n3
  s0 : n0 ≤ 1048576
  s1 : n1 ≤ 1048576
  s2 : n2 ≤ 1048576
  s3 : n3 ≤ 1048576
  d1 : 0 < n1 → ∀ r ∈ R, 0 < r.2 → r.1 ≠ g1
  d2 : 0 < n2 → ∀ r ∈ R, 0 < r.2 → r.1 ≠ g2
  d3 : 0 < n3 → ∀ r ∈ R, 0 < r.2 → r.1 ≠ g3
  d12 : 0 < n1 → 0 < n2 → g1 ≠ g2
  d13 : 0 < n1 → 0 < n3 → g1 ≠ g3
  d23 : 0 < n2 → 0 < n3 → g2 ≠ g3
  h1 : 0 < n0 → 0 < n1 → g1 ≠ g0
  h2 : 0 < n0 → 0 < n2 → g2 ≠ g0
  h3 : 0 < n0 → 0 < n3 → g3 ≠ g0
def pN (g1 g2 g3 n1 n2 n3 : Nat) (R : List (Nat × Nat)) : List (Addr × Bool) := ((rN R ++ cN g1 (n1 * 5)) ++ cN g2 (n2 * 2)) ++ cN g3 (n3 * 2)
theorem Rg.alloc {w : World} {g : Nat} {R : List (Nat × Nat)} (h : Rg w g R) (o : Obj) : Rg (w.alloc o) g R := h.mx ((Mx.refl 0 w).alloc o) (by simp) (by simp)
theorem Mg.alloc {w : World} {g sz n : Nat} {a : Option Addr} (h : Mg w g sz a n) (o : Obj) : Mg (w.alloc o) g sz a n := h.mx ((Mx.refl 0 w).alloc o) (by simp)
theorem Pg.alloc {w : World} {a0 a1 a2 a3 : Option Addr} {n0 n1 n2 n3 g0 g1 g2 g3 : Nat} {R : List (Nat × Nat)} (h : Pg w a0 a1 a2 a3 n0 n1 n2 n3 g0 g1 g2 g3 R) (o : Obj) : Pg (w.alloc o) a0 a1 a2 a3 n0 n1 n2 n3 g0 g1 g2 g3 R :=
  { h with own := h.own.alloc o, lanes := h.lanes.alloc o, bells := h.bells.alloc o, plan := h.plan.alloc o }

end Go.Proofs.YtkfcofjmjbkekaaGreatDoor
