/- Texts of this seat, joined. -/
import Derived.Test.YtkfcofjmjbkekaaGreatDoorQ11
namespace Go.Proofs.YtkfcofjmjbkekaaGreatDoor
open Go.RowKit
set_option linter.unusedVariables false

theorem cN_pos {g n : Nat} {x : Addr × Bool} (h : x ∈ cN g n) : 0 < n := by
  simp only [cN, List.mem_map, List.mem_range] at h; obtain ⟨j, hj, _⟩ := h; omega
/-- The cells of rows: of each its block and its length. -/
def rN (R : List (Nat × Nat)) : List (Addr × Bool) := R.flatMap fun r => cN r.1 r.2
theorem rN_mem {R : List (Nat × Nat)} {x : Addr × Bool} (h : x ∈ rN R) : ∃ r ∈ R, 0 < r.2 ∧ x.1.block = r.1 := by
  simp only [rN, List.mem_flatMap] at h
  obtain ⟨r, hr, hx⟩ := h
  exact ⟨r, hr, cN_pos hx, cN_block hx⟩
/-- Rows of numbers that may be marked: their heads lie in the block g, each row in a block of its own. -/
structure Rg (w : World) (g : Nat) (R : List (Nat × Nat)) : Prop where
  row : ∀ (i : Nat) (r : Nat × Nat), R[i]? = some r → ∃ a c, w.cell? ⟨g, i, none⟩ = some (.slice a r.2 c) ∧ Mg w r.1 1 a r.2
  small : ∀ r ∈ R, r.2 ≤ 1048576
  apart : R.Pairwise fun r s => 0 < r.2 → 0 < s.2 → r.1 ≠ s.1
  off : ∀ r ∈ R, 0 < r.2 → r.1 ≠ g
theorem Rg.mx {w w' : World} {g : Nat} {R : List (Nat × Nat)} {L : List (Addr × Bool)} {k : Int} (h : Rg w g R) (m : Mx L k w w') (hg : ∀ x ∈ L, x.1.block ≠ g) (hr : ∀ r ∈ R, 0 < r.2 → ∀ x ∈ L, x.1.block ≠ r.1) : Rg w' g R := by
  refine ⟨fun i r e => ?_, h.small, h.apart, h.off⟩
  obtain ⟨a, c, k1, k2⟩ := h.row i r e
  exact ⟨a, c, m.out _ _ k1 fun x hx e2 => hg x hx (by rw [e2]), k2.mx m fun h0 => hr r (List.mem_of_getElem? e) h0⟩
theorem Rg.next {w wr : World} {g j : Nat} {R : List (Nat × Nat)} {r : Nat × Nat} {k : Int} (h : Rg w g R) (m : Mx (rN (R.take j)) k w wr) (e : R[j]? = some r) :
    (∃ a c, wr.cell? ⟨g, j, none⟩ = some (.slice a r.2 c) ∧ Mg wr r.1 1 a r.2) ∧ ∀ x ∈ rN (R.take j), ∀ y ∈ cN r.1 r.2, x.1 ≠ y.1 := by
  obtain ⟨a, c, k1, k2⟩ := h.row j r e
  have hd : 0 < r.2 → ∀ x ∈ rN (R.take j), x.1.block ≠ r.1 := by
    intro h0 x hx
    obtain ⟨s, hs, hp, hb⟩ := rN_mem hx
    obtain ⟨i, hi, rfl⟩ := List.mem_take_iff_getElem.1 hs
    obtain ⟨hj, rfl⟩ := List.getElem?_eq_some_iff.1 e
    rw [hb]
    exact List.pairwise_iff_getElem.1 h.apart i j (by omega) hj (by omega) hp h0
  refine ⟨⟨a, c, m.out _ _ k1 fun x hx e2 => ?_, k2.mx m hd⟩, fun x hx y hy e2 => ?_⟩
  · obtain ⟨s, hs, hp, hb⟩ := rN_mem hx
    exact h.off s (List.mem_of_mem_take hs) hp (by rw [← hb, e2])
  · exact hd (cN_pos hy) x hx (by rw [e2, cN_block hy])

end Go.Proofs.YtkfcofjmjbkekaaGreatDoor
