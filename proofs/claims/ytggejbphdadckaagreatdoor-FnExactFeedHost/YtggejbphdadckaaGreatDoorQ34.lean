/- Texts of this seat, joined. -/
import Derived.Deep.RegionHeld3
import Derived.Deep.AppendSrc
import Derived.Test.YtggejbphdadckaaGreatDoorQ32
namespace Go.Proofs.YtggejbphdadckaaGreatDoor
open Go.RowKit
set_option linter.unusedVariables false
structure Nx (W w : World) (s : Nat) (zs : List Int) (A B C D : Option Value) : Prop where
  mq : Mq (fun k => k = s) W w
  th : w.there s 0 10
  a : ∀ v, A = some v → Nums w W.heap.size v (List.replicate 16 0)
  b : ∀ v, B = some v → Nums w W.heap.size v (List.replicate 11 0)
  c : D = none → ∀ v, C = some v → Nums w W.heap.size v []
  d : ∀ v, D = some v → Nums w W.heap.size v zs
  ac : D = none → ∀ v u, A = some v → C = some u → Apt v u
  bc : D = none → ∀ v u, B = some v → C = some u → Apt v u
  ab : ∀ v u, A = some v → B = some u → Apt v u
  ad : ∀ v u, A = some v → D = some u → Apt v u
  bd : ∀ v u, B = some v → D = some u → Apt v u
theorem Nx.app {W w w' : World} {s : Nat} {zs : List Int} {A B : Option Value} {v v' : Value} (h : Nx W w s zs A B (some v) none) (hs : s < W.heap.size) (n : Nums w' W.heap.size v' zs) (g : w.grownBy w' v.ownBlock) (ho : v' = v ∨ v'.ownBlock = some w.heap.size) : Nx W w' s zs A B (some v) (some v') := by
  have apt : ∀ (u : Value) (ys : List Int), Nums w W.heap.size u ys → Apt u v → Apt u v' := fun u ys hu ha => by
    rcases ho with e | e
    · rw [e]; exact ha
    · refine .inr fun f => ?_
      rw [e] at f
      have := (hu.lt _ f).2
      omega
  have hl : ∀ k, v.ownBlock = some k → W.heap.size ≤ k ∧ k < w.heap.size := (h.c rfl v rfl).lt
  refine ⟨⟨g.os.trans h.mq.os, g.tape.trans h.mq.tape, g.output.trans h.mq.output, Nat.le_trans h.mq.size g.size, fun k hk hn => (g.block k (Nat.lt_of_lt_of_le hk h.mq.size) (fun e => by have := (hl k e.symm).1; omega)).trans (h.mq.block k hk hn)⟩, ?_, fun u e => (h.a u e).kept g (h.ac rfl u v e rfl), fun u e => (h.b u e).kept g (h.bc rfl u v e rfl), (by intro e; cases e), fun u e => by cases e; exact n, (by intro e; cases e), (by intro e; cases e), h.ab, fun u x f k => by cases k; exact apt u _ (h.a u f) (h.ac rfl u v f rfl), fun u x f k => by cases k; exact apt u _ (h.b u f) (h.bc rfl u v f rfl)⟩
  intro j hj
  obtain ⟨h1, h2⟩ := h.th j hj
  have hb : w'.heap[s]? = w.heap[s]? := g.block s (Nat.lt_of_lt_of_le hs h.mq.size) (fun e => by have := (hl s e.symm).1; omega)
  have e1 : w'.cell? ⟨s, 0 + j, none⟩ = w.cell? ⟨s, 0 + j, none⟩ := by simp only [World.cell?, hb]
  have e2 : w'.frozen? ⟨s, 0 + j, none⟩ = w.frozen? ⟨s, 0 + j, none⟩ := World.frozen?_of_block (w := w) hb
  exact ⟨by rw [e1]; exact h1, by rw [e2]; exact h2⟩
end Go.Proofs.YtggejbphdadckaaGreatDoor
