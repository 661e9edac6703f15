/- FillCache by the model, and what a law keeps of answers. -/
import Derived.Test.YtaajaikpkcgalaaFis
namespace Go.Proofs.Ytaajaikpkcgalaa
open Go.RowKit
set_option linter.unusedVariables false

/-- An answer that is read alone. -/
structure Rd (w : World) (R : Nat) (c v : Int) (f : Bool) (s : Value) : Prop where
  r0 : w.cell? ⟨R, 0, none⟩ = some (.int .i64 c)
  r1 : w.cell? ⟨R, 1, none⟩ = some (.int .i64 v)
  r2 : w.cell? ⟨R, 2, none⟩ = some (.bool f)
  r3 : w.cell? ⟨R, 3, none⟩ = some s
theorem Rd.lt {w : World} {R : Nat} {c v : Int} {f : Bool} {s : Value} (h : Rd w R c v f s) : R < w.heap.size := block_of_cell h.r0
theorem Rd.keep {w w' : World} {R : Nat} {c v : Int} {f : Bool} {s : Value} (h : Rd w R c v f s) (hb : Below w.heap.size w w') : Rd w' R c v f s := ⟨cell_keep hb h.r0, cell_keep hb h.r1, cell_keep hb h.r2, cell_keep hb h.r3⟩
theorem Rd.grown {w w' : World} {R : Nat} {c v : Int} {f : Bool} {s : Value} {row : Option Nat} (h : Rd w R c v f s) (hg : w.grownBy w' row) (hn : some R ≠ row) : Rd w' R c v f s := by
  have hh : ∀ i, w'.cell? ⟨R, i, none⟩ = w.cell? ⟨R, i, none⟩ := fun i => World.cell?_of_block (w := w) (hg.block R h.lt hn)
  exact ⟨(hh 0).trans h.r0, (hh 1).trans h.r1, (hh 2).trans h.r2, (hh 3).trans h.r3⟩
theorem Rd.new (w : World) (c v : Int) (f : Bool) (s : Value) : Rd (w.alloc (.cells #[.int .i64 c, .int .i64 v, .bool f, s] 29)) w.heap.size c v f s := ⟨cell_new rfl, cell_new rfl, cell_new rfl, cell_new rfl⟩
/-- A hit that is read alone. -/
structure Rh (w : World) (R : Nat) (q : Qd) : Prop where
  h0 : w.cell? ⟨R, 0, none⟩ = some (.int .i64 q.tag)
  h1 : w.cell? ⟨R, 1, none⟩ = some (.int .i64 q.page)
  h2 : w.cell? ⟨R, 2, none⟩ = some (.int .i64 q.to)
  h3 : w.cell? ⟨R, 3, none⟩ = some (.int .i64 q.kinds)
theorem Rh.lt {w : World} {R : Nat} {q : Qd} (h : Rh w R q) : R < w.heap.size := block_of_cell h.h0
theorem Rh.keep {w w' : World} {R : Nat} {q : Qd} (h : Rh w R q) (hb : Below w.heap.size w w') : Rh w' R q := ⟨cell_keep hb h.h0, cell_keep hb h.h1, cell_keep hb h.h2, cell_keep hb h.h3⟩
theorem Rh.grown {w w' : World} {R : Nat} {q : Qd} {row : Option Nat} (h : Rh w R q) (hg : w.grownBy w' row) (hn : some R ≠ row) : Rh w' R q := by
  have hh : ∀ i, w'.cell? ⟨R, i, none⟩ = w.cell? ⟨R, i, none⟩ := fun i => World.cell?_of_block (w := w) (hg.block R h.lt hn)
  exact ⟨(hh 0).trans h.h0, (hh 1).trans h.h1, (hh 2).trans h.h2, (hh 3).trans h.h3⟩

/-- What a law keeps: the model's answer at A, the program's at G, the argument x, and that all lie apart (the first below M, the argument below N, the third from N on). -/
structure Ev (W u : World) (A G M N : Nat) (c : Int) (v0 v1 x : Value) (Z Y rs : List Qd) (b0 b1 bx : Nat) : Prop where
  ra : Rd u A c 0 false v0
  rg : Rd u G c 0 false v1
  n0 : Qs 65 u b0 v0 Z
  n1 : Qs 65 u b1 v1 Y
  nx : Qs 65 u bx x rs
  bl : Below W.heap.size W u
  kW : W.heap.size ≤ M
  kM : M ≤ N
  kA : A < M
  k0 : ∀ k, v0.ownBlock = some k → k < M
  kx : M ≤ bx
  lx : ∀ k, x.ownBlock = some k → k < N
  k1 : N ≤ b1
  kG : N ≤ G
  nG : v1.ownBlock ≠ some G
theorem Ev.keep {W u u' : World} {A G M N : Nat} {c : Int} {v0 v1 x : Value} {Z Y rs : List Qd} {b0 b1 bx : Nat} (h : Ev W u A G M N c v0 v1 x Z Y rs b0 b1 bx) (hb : Below u.heap.size u u') : Ev W u' A G M N c v0 v1 x Z Y rs b0 b1 bx :=
  ⟨h.ra.keep hb, h.rg.keep hb, h.n0.keep hb, h.n1.keep hb, h.nx.keep hb, on h.bl hb, h.kW, h.kM, h.kA, h.k0, h.kx, h.lx, h.k1, h.kG, h.nG⟩
/-- The argument is written into. -/
theorem Ev.markX {W u u' : World} {A G M N : Nat} {c : Int} {v0 v1 x : Value} {Z Y rs ys : List Qd} {b0 b1 bx : Nat} (h : Ev W u A G M N c v0 v1 x Z Y rs b0 b1 bx) (hg : u.grownBy u' x.ownBlock) (hq : Qs 65 u' bx x ys) : Ev W u' A G M N c v0 v1 x Z Y ys b0 b1 bx := by
  have q1 := h.kA
  have q2 := h.kx
  have q3 := h.k1
  have q4 := h.kG
  have q5 := h.kM
  refine ⟨h.ra.grown hg fun e => ?_, h.rg.grown hg fun e => ?_, h.n0.kept hg ?_, h.n1.kept hg ?_, hq, h.bl.grown hg h.bl.size fun k e => ?_, h.kW, h.kM, h.kA, h.k0, h.kx, h.lx, h.k1, h.kG, h.nG⟩
  · have := (h.nx.lt _ e.symm).1; omega
  · have := h.lx _ e.symm; omega
  · cases e0 : v0.ownBlock with
    | none => exact .inl rfl
    | some k => refine .inr fun e => ?_; have := h.k0 k e0; have := (h.nx.lt k e.symm).1; omega
  · cases e1 : v1.ownBlock with
    | none => exact .inl rfl
    | some k => refine .inr fun e => ?_; have := (h.n1.lt k e1).1; have := h.lx k e.symm; omega
  · have := (h.nx.lt k e).1; have := h.kW; omega
/-- The program's answer is written into. -/
theorem Ev.mark1 {W u u' : World} {A G M N : Nat} {c : Int} {v0 v1 x : Value} {Z Y rs ys : List Qd} {b0 b1 bx : Nat} (h : Ev W u A G M N c v0 v1 x Z Y rs b0 b1 bx) (hg : u.grownBy u' v1.ownBlock) (hq : Qs 65 u' b1 v1 ys) : Ev W u' A G M N c v0 v1 x Z ys rs b0 b1 bx := by
  have q1 := h.kA
  have q2 := h.kx
  have q3 := h.k1
  have q4 := h.kG
  have q5 := h.kM
  refine ⟨h.ra.grown hg fun e => ?_, h.rg.grown hg fun e => h.nG e.symm, h.n0.kept hg ?_, hq, h.nx.kept hg ?_, h.bl.grown hg h.bl.size fun k e => ?_, h.kW, h.kM, h.kA, h.k0, h.kx, h.lx, h.k1, h.kG, h.nG⟩
  · have := (h.n1.lt _ e.symm).1; omega
  · cases e0 : v0.ownBlock with
    | none => exact .inl rfl
    | some k => refine .inr fun e => ?_; have := h.k0 k e0; have := (h.n1.lt k e.symm).1; omega
  · cases e1 : x.ownBlock with
    | none => exact .inl rfl
    | some k => refine .inr fun e => ?_; have := h.lx k e1; have := (h.n1.lt k e.symm).1; omega
  · have := (h.n1.lt k e).1; have := h.kW; omega

theorem fcL_len (rs : List Qd) (q : Qd) : (fcL rs q).length ≤ 13 := by
  unfold fcL
  split
  · next h =>
    by_cases hc : cfV rs = 0
    · have := (cfV_apart hc).2
      rw [← skp_goAt rs q hc, List.length_append]
      have := skp_len (goAt rs q) rs 0
      simp
      omega
    · unfold fcC at h
      rw [if_neg hc] at h
      exact absurd h hc
  · simp
end Go.Proofs.Ytaajaikpkcgalaa
