/- Texts of this seat, joined. -/
import Derived.Test.YtcdbhhhihhdghaaGreatDoorQ37
namespace Go.Proofs.YtcdbhhhihhdghaaGreatDoor
open Go.RowKit
set_option linter.unusedVariables false

/-- A host that may be marked: all its lists lie in blocks of their own. -/
structure Og (w : World) (a0 a1 a2 a3 a4 a5 : Option Addr) (n0 n1 n2 n3 n4 n5 g0 g1 g2 g3 g4 g5 : Nat) (R : List (Nat × Nat)) (S : Nat → Hsx) : Prop where
  pol : Pg w a0 a1 a2 a3 n0 n1 n2 n3 g0 g1 g2 g3 R
  mem : Mg w g4 1 a4 n4
  mach : Mm w g5 n5 S
  at5 : 0 < n5 → a5 = some ⟨g5, 0, none⟩
  s4 : n4 ≤ 1048576
  s5 : n5 ≤ 1048576
  dm : 0 < n4 → Ab (pN g1 g2 g3 n1 n2 n3 R) g4
  dg : 0 < n5 → Ab (pN g1 g2 g3 n1 n2 n3 R ++ cN g4 n4) g5
  dl : ∀ j, j < n5 → ∀ l ∈ (S j).all, 0 < l.2 → Ab (pN g1 g2 g3 n1 n2 n3 R ++ cN g4 n4) l.1
  h0 : 0 < n0 → Ab (cN g4 n4 ++ tN g5 S n5) g0
theorem Mm.mx {w w' : World} {g n : Nat} {S : Nat → Hsx} {L : List (Addr × Bool)} {k : Int} (h : Mm w g n S) (m : Mx L k w w') (hg : 0 < n → Ab L g) (hl : ∀ j, j < n → ∀ l ∈ (S j).all, 0 < l.2 → Ab L l.1) : Mm w' g n S :=
  ⟨fun j hj => (h.one j hj).mx m (fun t _ => Ab.av (hg (by omega))) (hl j hj), h.apart⟩
theorem Mm.alloc {w : World} {g n : Nat} {S : Nat → Hsx} (h : Mm w g n S) (o : Obj) : Mm (w.alloc o) g n S := h.mx ((Mx.refl 0 w).alloc o) (fun _ x hx => by simp at hx) (fun _ _ _ _ _ x hx => by simp at hx)
theorem Og.alloc {w : World} {a0 a1 a2 a3 a4 a5 : Option Addr} {n0 n1 n2 n3 n4 n5 g0 g1 g2 g3 g4 g5 : Nat} {R : List (Nat × Nat)} {S : Nat → Hsx} (h : Og w a0 a1 a2 a3 a4 a5 n0 n1 n2 n3 n4 n5 g0 g1 g2 g3 g4 g5 R S) (o : Obj) : Og (w.alloc o) a0 a1 a2 a3 a4 a5 n0 n1 n2 n3 n4 n5 g0 g1 g2 g3 g4 g5 R S :=
  { h with pol := h.pol.alloc o, mem := h.mem.alloc o, mach := h.mach.alloc o }
theorem Pg.lt {w : World} {a0 a1 a2 a3 : Option Addr} {n0 n1 n2 n3 g0 g1 g2 g3 : Nat} {R : List (Nat × Nat)} (h : Pg w a0 a1 a2 a3 n0 n1 n2 n3 g0 g1 g2 g3 R) : ∀ x ∈ pN g1 g2 g3 n1 n2 n3 R, x.1.block < w.heap.size := fun x hx => by
  simp only [pN, List.mem_append] at hx
  rcases hx with ((hx | hx) | hx) | hx
  · obtain ⟨r, _, _, e1, e2⟩ := h.own.cells hx; omega
  · obtain ⟨e1, _, e2⟩ := h.lanes.cells hx; omega
  · obtain ⟨e1, _, e2⟩ := h.bells.cells hx; omega
  · obtain ⟨e1, _, e2⟩ := h.plan.cells hx; omega
theorem Og.apart {w : World} {a0 a1 a2 a3 a4 a5 : Option Addr} {n0 n1 n2 n3 n4 n5 g0 g1 g2 g3 g4 g5 : Nat} {R : List (Nat × Nat)} {S : Nat → Hsx} (h : Og w a0 a1 a2 a3 a4 a5 n0 n1 n2 n3 n4 n5 g0 g1 g2 g3 g4 g5 R S) : ∀ x ∈ pN g1 g2 g3 n1 n2 n3 R ++ cN g4 n4, ∀ y ∈ tN g5 S n5, x.1 ≠ y.1 := fun x hx y hy e => by
  obtain ⟨i, hi, hy⟩ := tN_mem hy
  rcases hN_mem hy with ⟨l, hl, hp, hb⟩ | ⟨t, ht, e2⟩
  · exact h.dl i hi l hl hp x hx (by rw [e, hb])
  · exact h.dg (by omega) x hx (by rw [e, e2])

end Go.Proofs.YtcdbhhhihhdghaaGreatDoor
