/- Texts of this seat, joined. -/
import Derived.Test.YtdhdfopkcpkbeaaGreatDoorQ01
namespace Go.Proofs.YtdhdfopkcpkbeaaGreatDoor
open Go.RowKit

theorem block_of_cell {w : World} {p : Addr} {v : Value} (h : w.cell? p = some v) : p.block < w.heap.size := by
  apply Classical.byContradiction
  intro hn
  have hz : w.heap[p.block]? = none := by simp; omega
  simp [World.cell?, hz] at h
theorem cell_keep {w w' : World} (b : Below w.heap.size w w') {p : Addr} {v : Value} (h : w.cell? p = some v) : w'.cell? p = some v := by
  rw [b.cell (block_of_cell h)]; exact h
theorem cell_push {w : World} (o : Obj) {p : Addr} {v : Value} (h : w.cell? p = some v) : (w.alloc o).cell? p = some v := by
  rw [World.cell?_alloc_lt w o p (block_of_cell h)]; exact h

theorem cell_new {w : World} {cs : Array Value} {t : TypeId} {i : Nat} {v : Value} (h : cs[i]? = some v) : (w.alloc (.cells cs t)).cell? ⟨w.heap.size, i, none⟩ = some v := by
  rw [World.cell?_alloc_new]; exact h

theorem on {a b c : World} (h : Below a.heap.size a b) (k : Below b.heap.size b c) : Below a.heap.size a c := h.trans (k.mono h.size)
theorem al {a b : World} (h : Below a.heap.size a b) (o : Obj) : Below a.heap.size a (b.alloc o) := h.alloc h.size o
end Go.Proofs.YtdhdfopkcpkbeaaGreatDoor
