/- Texts of this seat, joined. -/
import Derived.Test.YtgacbocibeihiaaGreatDoorQ19
import Derived.Test.YtgacbocibeihiaaGreatDoorQ28
namespace Go.Proofs.YtgacbocibeihiaaGreatDoor
open Go.RowKit
set_option linter.unusedVariables false

/-- From one world to another: blocks outside of S stay. -/
structure Mq (S : Nat → Prop) (w w' : World) : Prop where
  os : w'.os = w.os
  tape : w'.tape = w.tape
  output : w'.output = w.output
  size : w.heap.size ≤ w'.heap.size
  block : ∀ k, k < w.heap.size → ¬ S k → w'.heap[k]? = w.heap[k]?
theorem Mq.of {S : Nat → Prop} {w w' : World} {row : Option Nat} (g : w.grownBy w' row) (h : ∀ k, some k = row → S k) : Mq S w w' :=
  ⟨g.os, g.tape, g.output, g.size, fun k hk hn => g.block k hk fun e => hn (h k e)⟩
theorem Mq.trans {S : Nat → Prop} {a b c : World} (h : Mq S a b) (k : Mq S b c) : Mq S a c :=
  ⟨k.os.trans h.os, k.tape.trans h.tape, k.output.trans h.output, Nat.le_trans h.size k.size, fun i hi hn => (k.block i (Nat.lt_of_lt_of_le hi h.size) hn).trans (h.block i hi hn)⟩
theorem Mq.vb {S : Nat → Prop} {w w' : World} {q : Nat} {cs : Array Value} {t : TypeId} (m : Mq S w w') (h : Vb w q cs t) (hn : ¬ S q) : Vb w' q cs t := (m.block q h.lt hn).trans h
theorem Mq.nums {S : Nat → Prop} {w w' : World} {base : Nat} {v : Value} {zs : List Int} (m : Mq S w w') (h : Nums w base v zs) (hn : ∀ k, v.ownBlock = some k → ¬ S k) : Nums w' base v zs := by
  obtain ⟨h1, h2 | ⟨g, cap, cur, hv, hg, hr, rest⟩⟩ := h
  · exact ⟨h1, .inl h2⟩
  · refine ⟨h1, .inr ⟨g, cap, cur, hv, hg, ?_, rest⟩⟩
    rw [m.block g ((Array.getElem?_eq_some_iff.1 hr).1) (hn g (by rw [hv]; rfl))]
    exact hr
theorem Mq.below {S : Nat → Prop} {a w w' : World} (h : Below a.heap.size a w) (m : Mq S w w') (hn : ∀ k, S k → a.heap.size ≤ k) : Below a.heap.size a w' :=
  ⟨m.os.trans h.os, m.tape.trans h.tape, m.output.trans h.output, Nat.le_trans h.size m.size, fun k hk => (m.block k (Nat.lt_of_lt_of_le hk h.size) (fun s => by have := hn k s; omega)).trans (h.block k hk)⟩
/-- The blocks of four lists. -/
def Own4 (r c i o : Value) (k : Nat) : Prop := r.ownBlock = some k ∨ c.ownBlock = some k ∨ i.ownBlock = some k ∨ o.ownBlock = some k
theorem Mq.hm {S : Nat → Prop} {w w' : World} {base : Nat} {r c i o : Value} {H : Ht} (m : Mq S w w') (h : Hm w base r c i o H) (hn : ∀ k, Own4 r c i o k → ¬ S k) : Hm w' base r c i o H :=
  ⟨m.nums h.r fun k e => hn k (.inl e), m.nums h.c fun k e => hn k (.inr (.inl e)), m.nums h.i fun k e => hn k (.inr (.inr (.inl e))), m.nums h.o fun k e => hn k (.inr (.inr (.inr e)))⟩
theorem Hm.own {w : World} {base : Nat} {r c i o : Value} {H : Ht} (h : Hm w base r c i o H) (k : Nat) (e : Own4 r c i o k) : base ≤ k ∧ k < w.heap.size := by
  rcases e with e | e | e | e
  · exact h.r.lt k e
  · exact h.c.lt k e
  · exact h.i.lt k e
  · exact h.o.lt k e

end Go.Proofs.YtgacbocibeihiaaGreatDoor
namespace Go.Proofs.YtgacbocibeihiaaGreatDoor
open Go.RowKit Go.ChangeShapes Go.WideShapes Go.ChangeAt
set_option linter.unusedVariables false

/-- The nine cells of a machine at a place. -/
structure Hc (w : World) (p : Addr) (r c i o : Value) (H : Ht) : Prop where
  c0 : w.cell? p = some r
  c1 : w.cell? ⟨p.block, p.off + 1, none⟩ = some (.int .i64 H.pc)
  c2 : w.cell? ⟨p.block, p.off + 2, none⟩ = some c
  c3 : w.cell? ⟨p.block, p.off + 3, none⟩ = some (.bool H.halted)
  c4 : w.cell? ⟨p.block, p.off + 4, none⟩ = some (.bool H.waiting)
  c5 : w.cell? ⟨p.block, p.off + 5, none⟩ = some (.bool H.rung)
  c6 : w.cell? ⟨p.block, p.off + 6, none⟩ = some (.int .i64 H.done)
  c7 : w.cell? ⟨p.block, p.off + 7, none⟩ = some i
  c8 : w.cell? ⟨p.block, p.off + 8, none⟩ = some o
theorem Hc.stay {w : World} {p : Addr} {r c i o : Value} {H : Ht} {w' : World} (h : Hc w p r c i o H) (b : Below w.heap.size w w') : Hc w' p r c i o H :=
  ⟨cell_keep b h.c0, cell_keep b h.c1, cell_keep b h.c2, cell_keep b h.c3, cell_keep b h.c4, cell_keep b h.c5, cell_keep b h.c6, cell_keep b h.c7, cell_keep b h.c8⟩
/-- Machines that came in. -/
def IsHs (w : World) (a : Option Addr) (n c : Nat) (hs : List Ht) : Prop :=
  (a = none ∧ n = 0 ∧ c = 0 ∧ hs = []) ∨
  ∃ x, a = some x ∧ n ≤ c ∧ c ≤ maxLen ∧ hs.length = n ∧ ∀ i, i < n → ∃ (a0 a1 a2 a3 : Option Addr) (n0 k0 n1 k1 n2 k2 n3 k3 : Nat), Hc w (x.add (i * 9)) (.slice a0 n0 k0) (.slice a1 n1 k1) (.slice a2 n2 k2) (.slice a3 n3 k3) (hs.getD i voidH) ∧ Hin w a0 n0 k0 a1 n1 k1 a2 n2 k2 a3 n3 k3 (hs.getD i voidH)
theorem IsHs.stay {w w' : World} {a : Option Addr} {n c : Nat} {hs : List Ht} (h : IsHs w a n c hs) (b : Below w.heap.size w w') : IsHs w' a n c hs := by
  rcases h with h | ⟨x, h1, h2, h3, h4, h5⟩
  · exact .inl h
  · refine .inr ⟨x, h1, h2, h3, h4, fun i hi => ?_⟩
    obtain ⟨a0, a1, a2, a3, n0, k0, n1, k1, n2, k2, n3, k3, g1, g2⟩ := h5 i hi
    exact ⟨a0, a1, a2, a3, n0, k0, n1, k1, n2, k2, n3, k3, g1.stay b, g2.stay b⟩
theorem IsHs.len {w : World} {a : Option Addr} {n c : Nat} {hs : List Ht} (h : IsHs w a n c hs) : n = hs.length ∧ n ≤ 9223372036854775807 := by
  rcases h with ⟨_, h1, _, rfl⟩ | ⟨x, h1, h2, h3, h4, _⟩
  · exact ⟨by simpa using h1, by omega⟩
  · exact ⟨h4.symm, by unfold maxLen at h3; omega⟩
theorem IsHs.at {w : World} {a : Option Addr} {n c : Nat} {hs : List Ht} (h : IsHs w a n c hs) (i : Nat) (hi : i < n) : ∃ (x : Addr) (a0 a1 a2 a3 : Option Addr) (n0 k0 n1 k1 n2 k2 n3 k3 : Nat), a = some x ∧ Hc w (x.add (i * 9)) (.slice a0 n0 k0) (.slice a1 n1 k1) (.slice a2 n2 k2) (.slice a3 n3 k3) (hs.getD i voidH) ∧ Hin w a0 n0 k0 a1 n1 k1 a2 n2 k2 a3 n3 k3 (hs.getD i voidH) := by
  rcases h with ⟨_, h1, _, _⟩ | ⟨x, h1, h2, h3, h4, h5⟩
  · omega
  · obtain ⟨a0, a1, a2, a3, n0, k0, n1, k1, n2, k2, n3, k3, g⟩ := h5 i hi
    exact ⟨x, a0, a1, a2, a3, n0, k0, n1, k1, n2, k2, n3, k3, h1, g⟩
set_option maxHeartbeats 1000000 in
theorem harts_open {K : Type} {enc : TypeId × Value → K} {P : Program} {w : World} {base : Nat} {held : Bool} {t e : TypeId} {f0 f1 f2 f3 f4 f5 f6 f7 f8 : Field} {v : Value} {fuel : Nat} {x : DataW K × List MemPlace} {e0 e2 e7 e8 : TypeId}
    (ht : P.underlying t = some (.slice e)) (hs : P.underlying e = some (.struct #[f0, f1, f2, f3, f4, f5, f6, f7, f8])) (hone : Go.Deep.oneCellFields P #[f0, f1, f2, f3, f4, f5, f6, f7, f8] = true) (ce : P.cellsOf e = 9)
    (u0 : P.underlying f0.type = some (.slice e0)) (u1 : P.underlying f1.type = some (.int .i64)) (u2 : P.underlying f2.type = some (.slice e2)) (u3 : P.underlying f3.type = some .bool) (u4 : P.underlying f4.type = some .bool) (u5 : P.underlying f5.type = some .bool)
    (u6 : P.underlying f6.type = some (.int .i64)) (u7 : P.underlying f7.type = some (.slice e7)) (u8 : P.underlying f8.type = some (.slice e8))
    (i0 : P.underlying e0 = some (.int .i64)) (i2 : P.underlying e2 = some (.int .i64)) (i7 : P.underlying e7 = some (.int .i64)) (i8 : P.underlying e8 = some (.int .i64))
    (c0 : P.cellsOf e0 = 1) (c2 : P.cellsOf e2 = 1) (c7 : P.cellsOf e7 = 1) (c8 : P.cellsOf e8 = 1)
    (h : DataW.trod enc P w base (fun _ => true) held fuel t [v] = some x) : ∃ a len cap hs, v = .slice a len cap ∧ IsHs w a len cap hs := by
  rcases Go.Deep.open_slice ht h with h0 | ⟨a, len, cap, m, n, D, Pl, hv, hb, hl, hm, hmm, rfl, hx⟩
  · exact ⟨none, 0, 0, [], by simpa using h0.1, .inl ⟨rfl, rfl, rfl, rfl⟩⟩
  have hlm : len ≤ m := by rw [hmm]; split <;> omega
  have each : ∀ i, i < len → ∃ (H : Ht) (a0 a1 a2 a3 : Option Addr) (n0 k0 n1 k1 n2 k2 n3 k3 : Nat), Hc w (a.add (i * 9)) (.slice a0 n0 k0) (.slice a1 n1 k1) (.slice a2 n2 k2) (.slice a3 n3 k3) H ∧ Hin w a0 n0 k0 a1 n1 k1 a2 n2 k2 a3 n3 k3 H := by
    intro i hi
    obtain ⟨cs', h1, h2⟩ := hx i (by omega)
    rw [ce] at h1
    obtain ⟨_, hlen, hcell⟩ := World.cells?_some h1
    obtain ⟨v0, v1, v2, v3, v4, v5, v6, v7, v8, rfl⟩ := list9 (show cs'.length = 9 from hlen)
    obtain ⟨a0, a1, a2, a3, n0, k0, n1, k1, n2, k2, n3, k3, H, e, hin⟩ := hart_trod hs hone u0 u1 u2 u3 u4 u5 u6 u7 u8 i0 i2 i7 i8 c0 c2 c7 c8 h2
    simp at e
    obtain ⟨rfl, rfl, rfl, rfl, rfl, rfl, rfl, rfl, rfl⟩ := e
    exact ⟨H, a0, a1, a2, a3, n0, _, n1, _, n2, _, n3, _, ⟨hcell 0 (by simp), hcell 1 (by simp), hcell 2 (by simp), hcell 3 (by simp), hcell 4 (by simp), hcell 5 (by simp), hcell 6 (by simp), hcell 7 (by simp), hcell 8 (by simp)⟩, hin⟩
  refine ⟨some a, len, cap, (List.range len).map fun i => if h : i < len then Classical.choose (each i h) else voidH, by simpa using hv, .inr ⟨a, rfl, hl, hm, by simp, fun i hi => ?_⟩⟩
  have e : ((List.range len).map fun i => if h : i < len then Classical.choose (each i h) else voidH).getD i voidH = Classical.choose (each i hi) := by
    simp [List.getD, hi]
  rw [e]
  exact Classical.choose_spec (each i hi)
theorem hlen9 {l : List Value} (h : (Array.mk l).size = 9) : l.length = 9 := by simpa using h
/-- A host, as a value. -/
structure Hst where
  pol : Plc
  mem : List Int
  harts : List Ht
  slot : Int
  left : Int
  clock : Int
/-- A host that came in. -/
structure Oi (w : World) (a0 : Option Addr) (n0 c0 : Nat) (a1 : Option Addr) (n1 c1 : Nat) (a2 : Option Addr) (n2 c2 : Nat) (a3 : Option Addr) (n3 c3 : Nat) (a4 : Option Addr) (n4 c4 : Nat) (a5 : Option Addr) (n5 c5 : Nat) (X : Hst) : Prop where
  pol : Pin w a0 n0 c0 a1 n1 c1 a2 n2 c2 a3 n3 c3 X.pol
  mem : IsRow .i64 w a4 n4 c4 X.mem
  harts : IsHs w a5 n5 c5 X.harts
theorem Oi.stay {w w' : World} {a0 a1 a2 a3 a4 a5 : Option Addr} {n0 c0 n1 c1 n2 c2 n3 c3 n4 c4 n5 c5 : Nat} {X : Hst} (h : Oi w a0 n0 c0 a1 n1 c1 a2 n2 c2 a3 n3 c3 a4 n4 c4 a5 n5 c5 X) (b : Below w.heap.size w w') : Oi w' a0 n0 c0 a1 n1 c1 a2 n2 c2 a3 n3 c3 a4 n4 c4 a5 n5 c5 X :=
  ⟨h.pol.stay b, h.mem.stay b, h.harts.stay b⟩
set_option maxRecDepth 100000 in
set_option maxHeartbeats 4000000 in
theorem host_open {K : Type} {enc : TypeId × Value → K} {w : World} {base : Nat} {held : Bool} {r : Reach} {b0 : Nat} {v : Value} {d : DataW K} {p : List MemPlace}
    (hv : Value.okWide Tryz.prog w r b0 31 v) (h : DataW.Trod enc Tryz.prog w base (fun _ => true) held 31 v d p) :
    ∃ (a0 a1 a2 a3 a4 a5 : Option Addr) (n0 c0 n1 c1 n2 c2 n3 c3 n4 c4 n5 c5 : Nat) (X : Hst), v = .agg #[.slice a0 n0 c0, .slice a1 n1 c1, .slice a2 n2 c2, .slice a3 n3 c3, .slice a4 n4 c4, .slice a5 n5 c5, .int .i64 X.slot, .int .i64 X.left, .int .i64 X.clock] ∧
      Oi w a0 n0 c0 a1 n1 c1 a2 n2 c2 a3 n3 c3 a4 n4 c4 a5 n5 c5 X := by
  obtain ⟨cs, rfl, hsz⟩ := okWide_struct Tryz.underlying31 hv
  obtain ⟨l⟩ := cs
  obtain ⟨v0, v1, v2, v3, v4, v5, v6, v7, v8, rfl⟩ := list9 (hlen9 (hsz.trans (show Tryz.prog.cellsOf 31 = 9 by kernel_rfl)))
  obtain ⟨fuel, hf⟩ := h
  obtain ⟨xs, n, _, hx, hl, hlen, hg⟩ := DataW.trod_struct Tryz.underlying31 hf
  have h6 : xs.length = 6 := by simpa using hlen
  obtain ⟨z0, z1, z2, z3, z4, z5, rfl⟩ : ∃ a b c d e f, xs = [a, b, c, d, e, f] := by
    match xs, h6 with
    | [a, b, c, d, e, f], _ => exact ⟨a, b, c, d, e, f, rfl⟩
  have G0 := hg 0 _ rfl
  have G1 := hg 1 _ rfl
  have G2 := hg 2 _ rfl
  have G3 := hg 3 _ rfl
  have G4 := hg 4 _ rfl
  have G5 := hg 5 _ rfl
  simp [Value.cells, show Tryz.prog.cellsOf 27 = 4 by kernel_rfl] at G0
  simp [Value.cells, show Tryz.prog.cellsOf 28 = 1 by kernel_rfl] at G1
  simp [Value.cells, show Tryz.prog.cellsOf 29 = 1 by kernel_rfl] at G2
  simp [Value.cells, show Tryz.prog.cellsOf 2 = 1 by kernel_rfl] at G3 G4 G5
  obtain ⟨ys, m, _, hy, hl2, hlen2, hp⟩ := DataW.trod_struct Tryz.underlying27 G0
  have h4 : ys.length = 4 := by simpa using hlen2
  obtain ⟨y0, y1, y2, y3, rfl⟩ : ∃ a b c d, ys = [a, b, c, d] := by
    match ys, h4 with
    | [a, b, c, d], _ => exact ⟨a, b, c, d, rfl⟩
  have P0 := hp 0 _ rfl
  have P1 := hp 1 _ rfl
  have P2 := hp 2 _ rfl
  have P3 := hp 3 _ rfl
  simp [show Tryz.prog.cellsOf 22 = 1 by kernel_rfl] at P0
  simp [show Tryz.prog.cellsOf 23 = 1 by kernel_rfl] at P1
  simp [show Tryz.prog.cellsOf 24 = 1 by kernel_rfl] at P2
  simp [show Tryz.prog.cellsOf 25 = 1 by kernel_rfl] at P3
  have k2 : Tryz.prog.cellsOf 2 = 1 := by kernel_rfl
  obtain ⟨a0, n0, c0, po, q0, w0⟩ := ss_open Tryz.underlying22 Tryz.underlying28 Tryz.underlying2 (by kernel_rfl) (by kernel_rfl) P0
  obtain ⟨a1, n1, c1, pl, q1, w1⟩ := lanes_open2 Tryz.underlying23 Tryz.underlying112 (by kernel_rfl) rfl rfl rfl rfl rfl Tryz.underlying2 Tryz.underlying2 Tryz.underlying2 Tryz.underlying2 Tryz.underlying2 k2 k2 k2 k2 k2 P1
  obtain ⟨a2, n2, c2, pb, q2, w2⟩ := pairs_open Tryz.underlying24 Tryz.underlying116 (by kernel_rfl) rfl rfl Tryz.underlying2 Tryz.underlying2 k2 k2 P2
  obtain ⟨a3, n3, c3, pp, q3, w3⟩ := pairs_open Tryz.underlying25 Tryz.underlying118 (by kernel_rfl) rfl rfl Tryz.underlying2 Tryz.underlying2 k2 k2 P3
  obtain ⟨a4, n4, c4, ms, e4, w4⟩ := rn_open Tryz.underlying28 Tryz.underlying2 k2 G1
  obtain ⟨a5, n5, c5, hs, e5, w5⟩ := harts_open Tryz.underlying29 Tryz.underlying81 (by kernel_rfl) (by kernel_rfl) Tryz.underlying28 Tryz.underlying2 Tryz.underlying28 Tryz.underlying4 Tryz.underlying4 Tryz.underlying4 Tryz.underlying2 Tryz.underlying28 Tryz.underlying28 Tryz.underlying2 Tryz.underlying2 Tryz.underlying2 Tryz.underlying2 k2 k2 k2 k2 G2
  obtain ⟨sl, s3, _, _⟩ := DataW.trod_int Tryz.underlying2 G3
  obtain ⟨le, s4, _, _⟩ := DataW.trod_int Tryz.underlying2 G4
  obtain ⟨cl, s5, _, _⟩ := DataW.trod_int Tryz.underlying2 G5
  simp at q0 q1 q2 q3 s3 s4 s5
  subst q0 q1 q2 q3 e4 e5 s3 s4 s5
  exact ⟨a0, a1, a2, a3, a4, a5, n0, c0, n1, c1, n2, c2, n3, c3, n4, c4, n5, c5, ⟨⟨po, pl, pb, pp⟩, ms, hs, sl, le, cl⟩, rfl, ⟨⟨w0, w1, w2, w3⟩, w4, w5⟩⟩
end Go.Proofs.YtgacbocibeihiaaGreatDoor
