/- Texts of this seat, joined. -/
import Derived.Test.YtkfcofjmjbkekaaGreatDoorQ27
namespace Go.Proofs.YtkfcofjmjbkekaaGreatDoor
open Go.RowKit
set_option linter.unusedVariables false

def Hd (w : World) (p : Addr) (l : Nat × Nat) : Prop := ∃ a c, w.cell? p = some (.slice a l.2 c) ∧ (0 < l.2 → a = some ⟨l.1, 0, none⟩)
theorem Hd.keep {w w' : World} {p : Addr} {l : Nat × Nat} (h : Hd w p l) (b : Below w.heap.size w w') : Hd w' p l := by
  obtain ⟨a, c, k1, k2⟩ := h; exact ⟨a, c, cell_keep b k1, k2⟩
theorem Lxm.hd {w w' : World} {p : Addr} {l : Nat × Nat} {L : List (Addr × Bool)} {k : Int} (h : Lxm w p l) (m : Mx L k w w') (hv : Av L p) : Hd w' p l := by
  obtain ⟨a, c, k1, k2⟩ := h; exact ⟨a, c, m.out _ _ k1 hv, k2.at⟩
/-- Where the lists of a machine lie. -/
structure Mzm (w : World) (g j : Nat) (S : Hsx) : Prop where
  c0 : Hd w ⟨g, j * 9, none⟩ S.r
  c2 : Hd w ⟨g, j * 9 + 2, none⟩ S.c
  c7 : Hd w ⟨g, j * 9 + 7, none⟩ S.i
  c8 : Hd w ⟨g, j * 9 + 8, none⟩ S.o
  small : ∀ l ∈ S.all, l.2 ≤ 1048576
theorem Mzm.keep {w w' : World} {g j : Nat} {S : Hsx} (h : Mzm w g j S) (b : Below w.heap.size w w') : Mzm w' g j S := ⟨h.c0.keep b, h.c2.keep b, h.c7.keep b, h.c8.keep b, h.small⟩
end Go.Proofs.YtkfcofjmjbkekaaGreatDoor
