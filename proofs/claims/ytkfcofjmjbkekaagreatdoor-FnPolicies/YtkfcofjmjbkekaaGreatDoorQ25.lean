/- Texts of this seat, joined. -/
import Derived.Test.YtkfcofjmjbkekaaGreatDoorQ23
namespace Go.Proofs.YtkfcofjmjbkekaaGreatDoor
open Go.RowKit
set_option linter.unusedVariables false

theorem Hx.keep {L : List (Addr × Bool)} {k : Int} {w w' : World} (h : Hx L k w) (b : Below w.heap.size w w') : Hx L k w' := fun i x e => cell_keep b (h i x e)
/-- Where the lists of a policy lie. -/
structure Ph (w : World) (a0 a1 a2 a3 : Option Addr) (n0 n1 n2 n3 g0 g1 g2 g3 : Nat) (R : List (Nat × Nat)) : Prop where
  heads : ∀ (i : Nat) (r : Nat × Nat), R[i]? = some r → ∃ a c, w.cell? ⟨g0, i, none⟩ = some (.slice a r.2 c) ∧ (0 < r.2 → a = some ⟨r.1, 0, none⟩)
  small : ∀ r ∈ R, r.2 ≤ 1048576
  len : R.length = n0
  at0 : 0 < n0 → a0 = some ⟨g0, 0, none⟩
  at1 : 0 < n1 → a1 = some ⟨g1, 0, none⟩
  at2 : 0 < n2 → a2 = some ⟨g2, 0, none⟩
  at3 : 0 < n3 → a3 = some ⟨g3, 0, none⟩
  s0 : n0 ≤ 1048576
  s1 : n1 ≤ 1048576
  s2 : n2 ≤ 1048576
  s3 : n3 ≤ 1048576
theorem Ph.keep {w w' : World} {a0 a1 a2 a3 : Option Addr} {n0 n1 n2 n3 g0 g1 g2 g3 : Nat} {R : List (Nat × Nat)} (h : Ph w a0 a1 a2 a3 n0 n1 n2 n3 g0 g1 g2 g3 R) (b : Below w.heap.size w w') : Ph w' a0 a1 a2 a3 n0 n1 n2 n3 g0 g1 g2 g3 R :=
  { h with heads := fun i r e => by obtain ⟨a, c, k1, k2⟩ := h.heads i r e; exact ⟨a, c, cell_keep b k1, k2⟩ }
theorem Pg.heads {w : World} {a0 a1 a2 a3 : Option Addr} {n0 n1 n2 n3 g0 g1 g2 g3 : Nat} {R : List (Nat × Nat)} (h : Pg w a0 a1 a2 a3 n0 n1 n2 n3 g0 g1 g2 g3 R) (h0 : 0 < n0) : ∀ x ∈ pN g1 g2 g3 n1 n2 n3 R, x.1.block ≠ g0 :=
  off2 (off2 (off2 (fun x hx => by obtain ⟨r, hr, hp, e1, _⟩ := h.own.cells hx; rw [e1]; exact h.own.off r hr hp)
    (fun x hx => by obtain ⟨e1, hn, _⟩ := h.lanes.cells hx; rw [e1]; exact h.h1 h0 hn))
    (fun x hx => by obtain ⟨e1, hn, _⟩ := h.bells.cells hx; rw [e1]; exact h.h2 h0 hn))
    (fun x hx => by obtain ⟨e1, hn, _⟩ := h.plan.cells hx; rw [e1]; exact h.h3 h0 hn)

end Go.Proofs.YtkfcofjmjbkekaaGreatDoor
