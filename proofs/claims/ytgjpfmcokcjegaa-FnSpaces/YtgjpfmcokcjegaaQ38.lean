/- Texts of this seat, joined. -/
import Derived.Deep.RegionHeld3
import Derived.Test.YtgjpfmcokcjegaaQ07
import Derived.Test.YtgjpfmcokcjegaaQ36
namespace Go.Proofs.Ytgjpfmcokcjegaa
open Go.RowKit
set_option linter.unusedVariables false
theorem step_make {ops : Array Oper} {o : Oper} {act : Act} {w : World} {K : Act → World → Prop} {Q : Exit → Act → World → Prop} {E : Prop} (hgd : o.guard = none) (l c : Operand)
    (ho : o.op = Op.makeSlice 24 l c) (n : Nat) (hl : act.eval l = .int .i64 n) (hc : act.eval c = .int .i64 n) (hn : n ≤ 1000)
    (h : ∀ v w', Nums w' w.heap.size v (List.replicate n 0) → Below w.heap.size w w' → K (act.put o.dst v) w') :
    if Region.wanted o (yielded ops act.tmps) = true then Oper.wp Try.prog o act w K Q else E := by
  have hw : Region.wanted o (yielded ops act.tmps) = true := by simp [Region.wanted, hgd]
  rw [if_pos hw]
  obtain ⟨i, hi, hz0, hz1, hz2⟩ := info_parts info_i64
  obtain ⟨w', hrun, r1, r2⟩ := run_make_full (P := Try.prog) w w.heap.size 24 2 i _ 1 Try.underlying24 hi hz0 hz1 .i64 .i64 n (by rw [hz2]; omega) (by unfold maxLen; omega) (Nat.le_refl _)
  unfold Oper.wp
  simp [execOp, ho, hl, hc, hrun, Result.andThen]
  refine h _ w' (Nums.made r1 (by rw [Nat.mul_one, show (Value.int .i64 0).cells = #[.int .i64 0] from rfl, toList_madeCells_one]; simp)) ((Below.refl _ _).grown r2 (Nat.le_refl _) (by simp))
structure Nq (W w : World) (s : Nat) (zs : List Int) (A B C D : Option Value) : Prop where
  mq : Mq (fun k => k = s) W w
  th : w.there s 0 10
  a : ∀ v, A = some v → Nums w W.heap.size v (List.replicate 16 0)
  b : ∀ v, B = some v → Nums w W.heap.size v (List.replicate 11 0)
  c : D = none → ∀ v, C = some v → Nums w W.heap.size v []
  d : ∀ v, D = some v → Nums w W.heap.size v zs
  ac : D = none → ∀ v u, A = some v → C = some u → Apt v u
  bc : D = none → ∀ v u, B = some v → C = some u → Apt v u
theorem Nq.grow {W w w' : World} {s : Nat} {zs : List Int} {A B C D : Option Value} (h : Nq W w s zs A B C D) (hs : s < W.heap.size) (b : Below w.heap.size w w') : Nq W w' s zs A B C D :=
  ⟨h.mq.trans (Mq.of (below_grown b none) fun k e => by cases e), there_below h.th (Nat.lt_of_lt_of_le hs h.mq.size) b, fun v e => (h.a v e).keep b, fun v e => (h.b v e).keep b, fun e v f => (h.c e v f).keep b, fun v e => (h.d v e).keep b, h.ac, h.bc⟩
theorem Nq.mkA {W w w' : World} {s : Nat} {zs : List Int} {B C D : Option Value} {v : Value} (h : Nq W w s zs none B C D) (hs : s < W.heap.size) (n : Nums w' w.heap.size v (List.replicate 16 0)) (b : Below w.heap.size w w') : Nq W w' s zs (some v) B C D :=
  let g := h.grow hs b
  ⟨g.mq, g.th, fun u e => by cases e; exact n.mono h.mq.size, g.b, g.c, g.d, fun e u x f k => by cases f; exact ((h.c e x k).apt n (Nat.le_refl _)).swap, g.bc⟩
theorem Nq.mkB {W w w' : World} {s : Nat} {zs : List Int} {A C D : Option Value} {v : Value} (h : Nq W w s zs A none C D) (hs : s < W.heap.size) (n : Nums w' w.heap.size v (List.replicate 11 0)) (b : Below w.heap.size w w') : Nq W w' s zs A (some v) C D :=
  let g := h.grow hs b
  ⟨g.mq, g.th, g.a, fun u e => by cases e; exact n.mono h.mq.size, g.c, g.d, g.ac, fun e u x f k => by cases f; exact ((h.c e x k).apt n (Nat.le_refl _)).swap⟩
theorem Nq.mkC {W w w' : World} {s : Nat} {zs : List Int} {A B : Option Value} {v : Value} (h : Nq W w s zs A B none none) (hs : s < W.heap.size) (n : Nums w' w.heap.size v []) (b : Below w.heap.size w w') : Nq W w' s zs A B (some v) none :=
  let g := h.grow hs b
  ⟨g.mq, g.th, g.a, g.b, fun _ u e => by cases e; exact n.mono h.mq.size, g.d, fun e u x f k => by cases k; exact (h.a u f).apt n (Nat.le_refl _), fun e u x f k => by cases k; exact (h.b u f).apt n (Nat.le_refl _)⟩
theorem Nq.app {W w w' : World} {s : Nat} {zs : List Int} {A B : Option Value} {v v' : Value} (h : Nq W w s zs A B (some v) none) (hs : s < W.heap.size) (n : Nums w' W.heap.size v' zs) (g : w.grownBy w' v.ownBlock) : Nq W w' s zs A B (some v) (some v') := by
  have hl : ∀ k, v.ownBlock = some k → W.heap.size ≤ k ∧ k < w.heap.size := (h.c rfl v rfl).lt
  refine ⟨⟨g.os.trans h.mq.os, g.tape.trans h.mq.tape, g.output.trans h.mq.output, Nat.le_trans h.mq.size g.size, fun k hk hn => (g.block k (Nat.lt_of_lt_of_le hk h.mq.size) (fun e => by have := (hl k e.symm).1; omega)).trans (h.mq.block k hk hn)⟩, ?_, fun u e => (h.a u e).kept g (h.ac rfl u v e rfl), fun u e => (h.b u e).kept g (h.bc rfl u v e rfl), (by intro e; cases e), fun u e => by cases e; exact n, (by intro e; cases e), (by intro e; cases e)⟩
  intro j hj
  obtain ⟨h1, h2⟩ := h.th j hj
  have hb : w'.heap[s]? = w.heap[s]? := g.block s (Nat.lt_of_lt_of_le hs h.mq.size) (fun e => by have := (hl s e.symm).1; omega)
  have e1 : w'.cell? ⟨s, 0 + j, none⟩ = w.cell? ⟨s, 0 + j, none⟩ := by simp only [World.cell?, hb]
  have e2 : w'.frozen? ⟨s, 0 + j, none⟩ = w.frozen? ⟨s, 0 + j, none⟩ := World.frozen?_of_block (w := w) hb
  exact ⟨by rw [e1]; exact h1, by rw [e2]; exact h2⟩
end Go.Proofs.Ytgjpfmcokcjegaa
