/- Texts of this seat, joined. -/
import Derived.Deep.RegionHeld3
import Derived.Deep.WholeRow
import Derived.Lib.BufferMore
import Derived.Test.YtggejbphdadckaaGreatDoorQ12
import Derived.Test.YtggejbphdadckaaGreatDoorQ13
import Derived.Test.YtggejbphdadckaaGreatDoorQ14
namespace Go.Proofs.YtggejbphdadckaaGreatDoor
open Go.RowKit
set_option linter.unusedVariables false

set_option maxRecDepth 20000 in
theorem i_clone (a : Option Addr) (n cap : Nat) (zs : List Int) (w : World) (h : Rn w a n cap zs) (hn : n ≤ 100000000) :
    Calls Tryz.prog 91 #[.slice a n cap] w fun e w' => ∃ v, e = .returned v ∧ Nums w' w.heap.size v zs ∧ Below w.heap.size w w' := by
  cases a with
  | none =>
    obtain ⟨h1, h2, h3⟩ : n = 0 ∧ cap = 0 ∧ zs = [] := by
      rcases h with ⟨_, h1, h2, h3⟩ | ⟨x, e, _⟩
      · exact ⟨h1, h2, h3⟩
      · cases e
    subst h1 h2 h3
    have hnil : ∀ W, (binOp .eql 28 (.slice none 0 0) (.slice none 0 0)).run Tryz.prog W = .ok (.bool true) W := fun W => Lib.run_eql_slice_nil_nil W _ _ Tryz.underlying28
    go_enter Tryz.func91, Tryz.ntmps91
    go_wp2_with fail
    go_ret
    exact ⟨_, rfl, Nums.nil _ _, Below.refl _ _⟩
  | some x =>
    have HR : Hid (Rn w (some x) n cap zs) := h
    have HL : Hid (n ≤ 100000000) := hn
    clear h hn
    have hnil : ∀ W, (binOp .eql 28 (.slice (some x) n cap) (.slice none 0 0)).run Tryz.prog W = .ok (.bool false) W := fun W => Lib.run_eql_slice_some_nil W _ _ _ Tryz.underlying28
    go_enter Tryz.func91, Tryz.ntmps91
    go_wp2_with (at_builtin; refine wp_appx _ rfl _ _ rfl w.heap.size _ [] rfl (nums_none _ _ (Nat.le_refl _)) x n cap zs rfl (HR.out.stay (al (Below.refl _ _) _)) (by have := HL.out; simp; omega) (by simp) ?_; intro v' w' hN' hG')
    have B : Below w.heap.size w w' := below_of_grown (al (Below.refl _ _) _) hG' (nums_none _ _ (Nat.le_refl _)) (Nat.le_refl _)
    go_wp2_with fail
    go_ret
    exact ⟨_, rfl, by simpa using hN', B⟩

/-- A number of a list. -/
def gt (zs : List Int) (j : Nat) : Int := zs.getD j 0
/-- The cells of a machine. -/
def mca (H : Ht) (i o : Value) : Array Value := #[.int .i64 (gt H.regs 0), .int .i64 (gt H.regs 1), .int .i64 (gt H.regs 2), .int .i64 (gt H.regs 3), .int .i64 (gt H.regs 4), .int .i64 (gt H.regs 5), .int .i64 (gt H.regs 6), .int .i64 (gt H.regs 7), .int .i64 (gt H.regs 8), .int .i64 (gt H.regs 9), .int .i64 (gt H.regs 10), .int .i64 (gt H.regs 11), .int .i64 (gt H.regs 12), .int .i64 (gt H.regs 13), .int .i64 (gt H.regs 14), .int .i64 (gt H.regs 15), .int .i64 H.pc, .int .i64 (gt H.csr 0), .int .i64 (gt H.csr 1), .int .i64 (gt H.csr 2), .int .i64 (gt H.csr 3), .int .i64 (gt H.csr 4), .int .i64 (gt H.csr 5), .int .i64 (gt H.csr 6), .int .i64 (gt H.csr 7), .int .i64 (gt H.csr 8), .int .i64 (gt H.csr 9), .int .i64 (gt H.csr 10), .bool H.halted, .bool H.waiting, .bool H.rung, .int .i64 H.done, i, o]
theorem mca_size (H : Ht) (i o : Value) : (mca H i o).size = 34 := rfl
theorem mca_lit (H : Ht) (i o : Value) : #[.int .i64 (gt H.regs 0), .int .i64 (gt H.regs 1), .int .i64 (gt H.regs 2), .int .i64 (gt H.regs 3), .int .i64 (gt H.regs 4), .int .i64 (gt H.regs 5), .int .i64 (gt H.regs 6), .int .i64 (gt H.regs 7), .int .i64 (gt H.regs 8), .int .i64 (gt H.regs 9), .int .i64 (gt H.regs 10), .int .i64 (gt H.regs 11), .int .i64 (gt H.regs 12), .int .i64 (gt H.regs 13), .int .i64 (gt H.regs 14), .int .i64 (gt H.regs 15), .int .i64 H.pc, .int .i64 (gt H.csr 0), .int .i64 (gt H.csr 1), .int .i64 (gt H.csr 2), .int .i64 (gt H.csr 3), .int .i64 (gt H.csr 4), .int .i64 (gt H.csr 5), .int .i64 (gt H.csr 6), .int .i64 (gt H.csr 7), .int .i64 (gt H.csr 8), .int .i64 (gt H.csr 9), .int .i64 (gt H.csr 10), .bool H.halted, .bool H.waiting, .bool H.rung, .int .i64 H.done, i, o] = mca H i o := rfl
theorem mca_one (H : Ht) (i o : Value) (hi : i.oneCell' = true) (ho : o.oneCell' = true) : (mca H i o).all (·.oneCell') = true := by
  have h1 : ∀ z : Int, (Value.int .i64 z).oneCell' = true := fun _ => rfl
  have h2 : ∀ z : Bool, (Value.bool z).oneCell' = true := fun _ => rfl
  simp [mca, h1, h2, hi, ho]
end Go.Proofs.YtggejbphdadckaaGreatDoor
namespace Go.Proofs.YtggejbphdadckaaGreatDoor
open Go.RowKit Go.ChangeShapes Go.WideShapes Go.ChangeAt
set_option linter.unusedVariables false

/-- The nine cells of a machine at a place. -/
structure Hc (w : World) (p : Addr) (r c i o : Value) (H : Ht) : Prop where
  c0 : w.cell? p = some r
  c1 : w.cell? ⟨p.block, p.off + 1, none⟩ = some (.int .i64 H.pc)
  c2 : w.cell? ⟨p.block, p.off + 2, none⟩ = some c
  c3 : w.cell? ⟨p.block, p.off + 3, none⟩ = some (.bool H.halted)
  c4 : w.cell? ⟨p.block, p.off + 4, none⟩ = some (.bool H.waiting)
  c5 : w.cell? ⟨p.block, p.off + 5, none⟩ = some (.bool H.rung)
  c6 : w.cell? ⟨p.block, p.off + 6, none⟩ = some (.int .i64 H.done)
  c7 : w.cell? ⟨p.block, p.off + 7, none⟩ = some i
  c8 : w.cell? ⟨p.block, p.off + 8, none⟩ = some o
theorem Hc.stay {w : World} {p : Addr} {r c i o : Value} {H : Ht} {w' : World} (h : Hc w p r c i o H) (b : Below w.heap.size w w') : Hc w' p r c i o H :=
  ⟨cell_keep b h.c0, cell_keep b h.c1, cell_keep b h.c2, cell_keep b h.c3, cell_keep b h.c4, cell_keep b h.c5, cell_keep b h.c6, cell_keep b h.c7, cell_keep b h.c8⟩
/-- Machines that came in. -/
def IsHs (w : World) (a : Option Addr) (n c : Nat) (hs : List Ht) : Prop :=
  (a = none ∧ n = 0 ∧ c = 0 ∧ hs = []) ∨
  ∃ x, a = some x ∧ n ≤ c ∧ c ≤ maxLen ∧ hs.length = n ∧ ∀ i, i < n → ∃ (a0 a1 a2 a3 : Option Addr) (n0 k0 n1 k1 n2 k2 n3 k3 : Nat), Hc w (x.add (i * 9)) (.slice a0 n0 k0) (.slice a1 n1 k1) (.slice a2 n2 k2) (.slice a3 n3 k3) (hs.getD i voidH) ∧ Hin w a0 n0 k0 a1 n1 k1 a2 n2 k2 a3 n3 k3 (hs.getD i voidH)
theorem IsHs.stay {w w' : World} {a : Option Addr} {n c : Nat} {hs : List Ht} (h : IsHs w a n c hs) (b : Below w.heap.size w w') : IsHs w' a n c hs := by
  rcases h with h | ⟨x, h1, h2, h3, h4, h5⟩
  · exact .inl h
  · refine .inr ⟨x, h1, h2, h3, h4, fun i hi => ?_⟩
    obtain ⟨a0, a1, a2, a3, n0, k0, n1, k1, n2, k2, n3, k3, g1, g2⟩ := h5 i hi
    exact ⟨a0, a1, a2, a3, n0, k0, n1, k1, n2, k2, n3, k3, g1.stay b, g2.stay b⟩
theorem IsHs.len {w : World} {a : Option Addr} {n c : Nat} {hs : List Ht} (h : IsHs w a n c hs) : n = hs.length ∧ n ≤ 9223372036854775807 := by
  rcases h with ⟨_, h1, _, rfl⟩ | ⟨x, h1, h2, h3, h4, _⟩
  · exact ⟨by simpa using h1, by omega⟩
  · exact ⟨h4.symm, by unfold maxLen at h3; omega⟩
theorem IsHs.at {w : World} {a : Option Addr} {n c : Nat} {hs : List Ht} (h : IsHs w a n c hs) (i : Nat) (hi : i < n) : ∃ (x : Addr) (a0 a1 a2 a3 : Option Addr) (n0 k0 n1 k1 n2 k2 n3 k3 : Nat), a = some x ∧ Hc w (x.add (i * 9)) (.slice a0 n0 k0) (.slice a1 n1 k1) (.slice a2 n2 k2) (.slice a3 n3 k3) (hs.getD i voidH) ∧ Hin w a0 n0 k0 a1 n1 k1 a2 n2 k2 a3 n3 k3 (hs.getD i voidH) := by
  rcases h with ⟨_, h1, _, _⟩ | ⟨x, h1, h2, h3, h4, h5⟩
  · omega
  · obtain ⟨a0, a1, a2, a3, n0, k0, n1, k1, n2, k2, n3, k3, g⟩ := h5 i hi
    exact ⟨x, a0, a1, a2, a3, n0, k0, n1, k1, n2, k2, n3, k3, h1, g⟩
set_option maxHeartbeats 1000000 in
theorem harts_open {K : Type} {enc : TypeId × Value → K} {P : Program} {w : World} {base : Nat} {held : Bool} {t e : TypeId} {f0 f1 f2 f3 f4 f5 f6 f7 f8 : Field} {v : Value} {fuel : Nat} {x : DataW K × List MemPlace} {e0 e2 e7 e8 : TypeId}
    (ht : P.underlying t = some (.slice e)) (hs : P.underlying e = some (.struct #[f0, f1, f2, f3, f4, f5, f6, f7, f8])) (hone : Go.Deep.oneCellFields P #[f0, f1, f2, f3, f4, f5, f6, f7, f8] = true) (ce : P.cellsOf e = 9)
    (u0 : P.underlying f0.type = some (.slice e0)) (u1 : P.underlying f1.type = some (.int .i64)) (u2 : P.underlying f2.type = some (.slice e2)) (u3 : P.underlying f3.type = some .bool) (u4 : P.underlying f4.type = some .bool) (u5 : P.underlying f5.type = some .bool)
    (u6 : P.underlying f6.type = some (.int .i64)) (u7 : P.underlying f7.type = some (.slice e7)) (u8 : P.underlying f8.type = some (.slice e8))
    (i0 : P.underlying e0 = some (.int .i64)) (i2 : P.underlying e2 = some (.int .i64)) (i7 : P.underlying e7 = some (.int .i64)) (i8 : P.underlying e8 = some (.int .i64))
    (c0 : P.cellsOf e0 = 1) (c2 : P.cellsOf e2 = 1) (c7 : P.cellsOf e7 = 1) (c8 : P.cellsOf e8 = 1)
    (h : DataW.trod enc P w base (fun _ => true) held fuel t [v] = some x) : ∃ a len cap hs, v = .slice a len cap ∧ IsHs w a len cap hs := by
  rcases Go.Deep.open_slice ht h with h0 | ⟨a, len, cap, m, n, D, Pl, hv, hb, hl, hm, hmm, rfl, hx⟩
  · exact ⟨none, 0, 0, [], by simpa using h0.1, .inl ⟨rfl, rfl, rfl, rfl⟩⟩
  have hlm : len ≤ m := by rw [hmm]; split <;> omega
  have each : ∀ i, i < len → ∃ (H : Ht) (a0 a1 a2 a3 : Option Addr) (n0 k0 n1 k1 n2 k2 n3 k3 : Nat), Hc w (a.add (i * 9)) (.slice a0 n0 k0) (.slice a1 n1 k1) (.slice a2 n2 k2) (.slice a3 n3 k3) H ∧ Hin w a0 n0 k0 a1 n1 k1 a2 n2 k2 a3 n3 k3 H := by
    intro i hi
    obtain ⟨cs', h1, h2⟩ := hx i (by omega)
    rw [ce] at h1
    obtain ⟨_, hlen, hcell⟩ := World.cells?_some h1
    obtain ⟨v0, v1, v2, v3, v4, v5, v6, v7, v8, rfl⟩ := list9 (show cs'.length = 9 from hlen)
    obtain ⟨a0, a1, a2, a3, n0, k0, n1, k1, n2, k2, n3, k3, H, e, hin⟩ := hart_trod hs hone u0 u1 u2 u3 u4 u5 u6 u7 u8 i0 i2 i7 i8 c0 c2 c7 c8 h2
    simp at e
    obtain ⟨rfl, rfl, rfl, rfl, rfl, rfl, rfl, rfl, rfl⟩ := e
    exact ⟨H, a0, a1, a2, a3, n0, _, n1, _, n2, _, n3, _, ⟨hcell 0 (by simp), hcell 1 (by simp), hcell 2 (by simp), hcell 3 (by simp), hcell 4 (by simp), hcell 5 (by simp), hcell 6 (by simp), hcell 7 (by simp), hcell 8 (by simp)⟩, hin⟩
  refine ⟨some a, len, cap, (List.range len).map fun i => if h : i < len then Classical.choose (each i h) else voidH, by simpa using hv, .inr ⟨a, rfl, hl, hm, by simp, fun i hi => ?_⟩⟩
  have e : ((List.range len).map fun i => if h : i < len then Classical.choose (each i h) else voidH).getD i voidH = Classical.choose (each i hi) := by
    simp [List.getD, hi]
  rw [e]
  exact Classical.choose_spec (each i hi)
theorem hlen9 {l : List Value} (h : (Array.mk l).size = 9) : l.length = 9 := by simpa using h
/-- A host, as a value. -/
structure Hst where
  pol : Plc
  mem : List Int
  harts : List Ht
  slot : Int
  left : Int
  clock : Int
/-- A host that came in. -/
structure Oi (w : World) (a0 : Option Addr) (n0 c0 : Nat) (a1 : Option Addr) (n1 c1 : Nat) (a2 : Option Addr) (n2 c2 : Nat) (a3 : Option Addr) (n3 c3 : Nat) (a4 : Option Addr) (n4 c4 : Nat) (a5 : Option Addr) (n5 c5 : Nat) (X : Hst) : Prop where
  pol : Pin w a0 n0 c0 a1 n1 c1 a2 n2 c2 a3 n3 c3 X.pol
  mem : IsRow .i64 w a4 n4 c4 X.mem
  harts : IsHs w a5 n5 c5 X.harts
theorem Oi.stay {w w' : World} {a0 a1 a2 a3 a4 a5 : Option Addr} {n0 c0 n1 c1 n2 c2 n3 c3 n4 c4 n5 c5 : Nat} {X : Hst} (h : Oi w a0 n0 c0 a1 n1 c1 a2 n2 c2 a3 n3 c3 a4 n4 c4 a5 n5 c5 X) (b : Below w.heap.size w w') : Oi w' a0 n0 c0 a1 n1 c1 a2 n2 c2 a3 n3 c3 a4 n4 c4 a5 n5 c5 X :=
  ⟨h.pol.stay b, h.mem.stay b, h.harts.stay b⟩
set_option maxRecDepth 100000 in
set_option maxHeartbeats 4000000 in
theorem host_open {K : Type} {enc : TypeId × Value → K} {w : World} {base : Nat} {held : Bool} {r : Reach} {b0 : Nat} {v : Value} {d : DataW K} {p : List MemPlace}
    (hv : Value.okWide Tryz.prog w r b0 31 v) (h : DataW.Trod enc Tryz.prog w base (fun _ => true) held 31 v d p) :
    ∃ (a0 a1 a2 a3 a4 a5 : Option Addr) (n0 c0 n1 c1 n2 c2 n3 c3 n4 c4 n5 c5 : Nat) (X : Hst), v = .agg #[.slice a0 n0 c0, .slice a1 n1 c1, .slice a2 n2 c2, .slice a3 n3 c3, .slice a4 n4 c4, .slice a5 n5 c5, .int .i64 X.slot, .int .i64 X.left, .int .i64 X.clock] ∧
      Oi w a0 n0 c0 a1 n1 c1 a2 n2 c2 a3 n3 c3 a4 n4 c4 a5 n5 c5 X := by
  obtain ⟨cs, rfl, hsz⟩ := okWide_struct Tryz.underlying31 hv
  obtain ⟨l⟩ := cs
  obtain ⟨v0, v1, v2, v3, v4, v5, v6, v7, v8, rfl⟩ := list9 (hlen9 (hsz.trans (show Tryz.prog.cellsOf 31 = 9 by kernel_rfl)))
  obtain ⟨fuel, hf⟩ := h
  obtain ⟨xs, n, _, hx, hl, hlen, hg⟩ := DataW.trod_struct Tryz.underlying31 hf
  have h6 : xs.length = 6 := by simpa using hlen
  obtain ⟨z0, z1, z2, z3, z4, z5, rfl⟩ : ∃ a b c d e f, xs = [a, b, c, d, e, f] := by
    match xs, h6 with
    | [a, b, c, d, e, f], _ => exact ⟨a, b, c, d, e, f, rfl⟩
  have G0 := hg 0 _ rfl
  have G1 := hg 1 _ rfl
  have G2 := hg 2 _ rfl
  have G3 := hg 3 _ rfl
  have G4 := hg 4 _ rfl
  have G5 := hg 5 _ rfl
  simp [Value.cells, show Tryz.prog.cellsOf 27 = 4 by kernel_rfl] at G0
  simp [Value.cells, show Tryz.prog.cellsOf 28 = 1 by kernel_rfl] at G1
  simp [Value.cells, show Tryz.prog.cellsOf 29 = 1 by kernel_rfl] at G2
  simp [Value.cells, show Tryz.prog.cellsOf 2 = 1 by kernel_rfl] at G3 G4 G5
  obtain ⟨ys, m, _, hy, hl2, hlen2, hp⟩ := DataW.trod_struct Tryz.underlying27 G0
  have h4 : ys.length = 4 := by simpa using hlen2
  obtain ⟨y0, y1, y2, y3, rfl⟩ : ∃ a b c d, ys = [a, b, c, d] := by
    match ys, h4 with
    | [a, b, c, d], _ => exact ⟨a, b, c, d, rfl⟩
  have P0 := hp 0 _ rfl
  have P1 := hp 1 _ rfl
  have P2 := hp 2 _ rfl
  have P3 := hp 3 _ rfl
  simp [show Tryz.prog.cellsOf 22 = 1 by kernel_rfl] at P0
  simp [show Tryz.prog.cellsOf 23 = 1 by kernel_rfl] at P1
  simp [show Tryz.prog.cellsOf 24 = 1 by kernel_rfl] at P2
  simp [show Tryz.prog.cellsOf 25 = 1 by kernel_rfl] at P3
  have k2 : Tryz.prog.cellsOf 2 = 1 := by kernel_rfl
  obtain ⟨a0, n0, c0, po, q0, w0⟩ := ss_open Tryz.underlying22 Tryz.underlying28 Tryz.underlying2 (by kernel_rfl) (by kernel_rfl) P0
  obtain ⟨a1, n1, c1, pl, q1, w1⟩ := lanes_open2 Tryz.underlying23 Tryz.underlying127 (by kernel_rfl) rfl rfl rfl rfl rfl Tryz.underlying2 Tryz.underlying2 Tryz.underlying2 Tryz.underlying2 Tryz.underlying2 k2 k2 k2 k2 k2 P1
  obtain ⟨a2, n2, c2, pb, q2, w2⟩ := pairs_open Tryz.underlying24 Tryz.underlying131 (by kernel_rfl) rfl rfl Tryz.underlying2 Tryz.underlying2 k2 k2 P2
  obtain ⟨a3, n3, c3, pp, q3, w3⟩ := pairs_open Tryz.underlying25 Tryz.underlying133 (by kernel_rfl) rfl rfl Tryz.underlying2 Tryz.underlying2 k2 k2 P3
  obtain ⟨a4, n4, c4, ms, e4, w4⟩ := rn_open Tryz.underlying28 Tryz.underlying2 k2 G1
  obtain ⟨a5, n5, c5, hs, e5, w5⟩ := harts_open Tryz.underlying29 Tryz.underlying78 (by kernel_rfl) (by kernel_rfl) Tryz.underlying28 Tryz.underlying2 Tryz.underlying28 Tryz.underlying4 Tryz.underlying4 Tryz.underlying4 Tryz.underlying2 Tryz.underlying28 Tryz.underlying28 Tryz.underlying2 Tryz.underlying2 Tryz.underlying2 Tryz.underlying2 k2 k2 k2 k2 G2
  obtain ⟨sl, s3, _, _⟩ := DataW.trod_int Tryz.underlying2 G3
  obtain ⟨le, s4, _, _⟩ := DataW.trod_int Tryz.underlying2 G4
  obtain ⟨cl, s5, _, _⟩ := DataW.trod_int Tryz.underlying2 G5
  simp at q0 q1 q2 q3 s3 s4 s5
  subst q0 q1 q2 q3 e4 e5 s3 s4 s5
  exact ⟨a0, a1, a2, a3, a4, a5, n0, c0, n1, c1, n2, c2, n3, c3, n4, c4, n5, c5, ⟨⟨po, pl, pb, pp⟩, ms, hs, sl, le, cl⟩, rfl, ⟨⟨w0, w1, w2, w3⟩, w4, w5⟩⟩
end Go.Proofs.YtggejbphdadckaaGreatDoor
namespace Go.Proofs.YtggejbphdadckaaGreatDoor
open Go.RowKit
set_option linter.unusedVariables false

set_option maxRecDepth 20000 in
set_option maxHeartbeats 4000000 in
theorem eqr_hart (r c i o r' c' i' o' : Value) (H : Ht) (w : World) (h : Hr w r c i o H) (k : Hr w r' c' i' o' H) :
    Calls Tryz.prog 69 #[.agg #[r, .int .i64 H.pc, c, .bool H.halted, .bool H.waiting, .bool H.rung, .int .i64 H.done, i, o], .agg #[r', .int .i64 H.pc, c', .bool H.halted, .bool H.waiting, .bool H.rung, .int .i64 H.done, i', o']] w fun e w' => e = .returned (.bool true) ∧ Below w.heap.size w w' := by
  obtain ⟨a0, k0, rfl, _⟩ := h.r
  obtain ⟨a1, k1, rfl, _⟩ := h.c
  obtain ⟨a2, k2, rfl, _⟩ := h.i
  obtain ⟨a3, k3, rfl, _⟩ := h.o
  obtain ⟨x0, l0, rfl, _⟩ := k.r
  obtain ⟨x1, l1, rfl, _⟩ := k.c
  obtain ⟨x2, l2, rfl, _⟩ := k.i
  obtain ⟨x3, l3, rfl, _⟩ := k.o
  have HM : Hid (Hr w _ _ _ _ H) := h
  have KM : Hid (Hr w _ _ _ _ H) := k
  clear h k
  generalize H.regs.length = n0 at *
  generalize H.csr.length = n1 at *
  generalize H.inn.length = n2 at *
  generalize H.out.length = n3 at *
  generalize hW : (w.alloc (.cells #[.slice a0 n0 k0, .int .i64 H.pc, .slice a1 n1 k1, .bool H.halted, .bool H.waiting, .bool H.rung, .int .i64 H.done, .slice a2 n2 k2, .slice a3 n3 k3] 60)).alloc (.cells #[.slice x0 n0 l0, .int .i64 H.pc, .slice x1 n1 l1, .bool H.halted, .bool H.waiting, .bool H.rung, .int .i64 H.done, .slice x2 n2 l2, .slice x3 n3 l3] 60) = W
  have B0 : Hid (Below w.heap.size w W) := by show Below _ _ _; rw [← hW]; exact al (al (Below.refl _ _) _) _
  obtain ⟨s, hS⟩ : ∃ s, w.heap.size = s := ⟨_, rfl⟩
  have VA : Hid (Vb W s #[.slice a0 n0 k0, .int .i64 H.pc, .slice a1 n1 k1, .bool H.halted, .bool H.waiting, .bool H.rung, .int .i64 H.done, .slice a2 n2 k2, .slice a3 n3 k3] 60) := by
    show Vb _ _ _ _
    rw [← hW, ← hS]
    exact (Vb.new _ _ _).push _
  have VB : Hid (Vb W (s + 1) #[.slice x0 n0 l0, .int .i64 H.pc, .slice x1 n1 l1, .bool H.halted, .bool H.waiting, .bool H.rung, .int .i64 H.done, .slice x2 n2 l2, .slice x3 n3 l3] 60) := by
    show Vb _ _ _ _
    have z1 : s + 1 = (w.alloc (.cells #[.slice a0 n0 k0, .int .i64 H.pc, .slice a1 n1 k1, .bool H.halted, .bool H.waiting, .bool H.rung, .int .i64 H.done, .slice a2 n2 k2, .slice a3 n3 k3] 60)).heap.size := by rw [← hS]; simp
    rw [← hW, z1]
    exact Vb.new _ _ _
  have q0 := VA.out.cell 0 rfl
  have p0 := VB.out.cell 0 rfl
  go_enter Tryz.func69, Tryz.ntmps69
  go_wp2_with fail
  clear hW hS q0 p0
  refine (eq_rn _ _ _ _ (HM.out.stay B0.out).r (KM.out.stay B0.out).r).mono ?_
  rintro e w1 ⟨rfl, b1⟩
  have B1 : Hid (Below w.heap.size w w1) := on B0.out b1
  have VA1 : Hid (Vb w1 _ _ _) := VA.out.keep b1
  have VB1 : Hid (Vb w1 _ _ _) := VB.out.keep b1
  have q1 := VA1.out.cell 1 rfl
  have p1 := VB1.out.cell 1 rfl
  have q2 := VA1.out.cell 2 rfl
  have p2 := VB1.out.cell 2 rfl
  clear b1 VA VB B0
  go_wp2_with fail
  clear q1 p1 q2 p2
  refine (eq_rn _ _ _ _ (HM.out.stay B1.out).c (KM.out.stay B1.out).c).mono ?_
  rintro e w2 ⟨rfl, b1⟩
  have B2 : Hid (Below w.heap.size w w2) := on B1.out b1
  have VA2 : Hid (Vb w2 _ _ _) := VA1.out.keep b1
  have VB2 : Hid (Vb w2 _ _ _) := VB1.out.keep b1
  have q3 := VA2.out.cell 3 rfl
  have p3 := VB2.out.cell 3 rfl
  have q4 := VA2.out.cell 4 rfl
  have p4 := VB2.out.cell 4 rfl
  have q5 := VA2.out.cell 5 rfl
  have p5 := VB2.out.cell 5 rfl
  have q6 := VA2.out.cell 6 rfl
  have p6 := VB2.out.cell 6 rfl
  have q7 := VA2.out.cell 7 rfl
  have p7 := VB2.out.cell 7 rfl
  clear b1 VA1 VB1 B1
  go_wp2_with fail
  clear q3 p3 q4 p4 q5 p5 q6 p6 q7 p7
  refine (eq_rn _ _ _ _ (HM.out.stay B2.out).i (KM.out.stay B2.out).i).mono ?_
  rintro e w3 ⟨rfl, b1⟩
  have B3 : Hid (Below w.heap.size w w3) := on B2.out b1
  have q8 := (VA2.out.keep b1).cell 8 rfl
  have p8 := (VB2.out.keep b1).cell 8 rfl
  clear b1 VA2 VB2 B2
  go_wp2_with fail
  refine (eq_rn _ _ _ _ (HM.out.stay B3.out).o (KM.out.stay B3.out).o).mono ?_
  rintro e w4 ⟨rfl, b1⟩
  go_wp2_with fail
  go_ret
  exact ⟨rfl, on B3.out b1⟩

end Go.Proofs.YtggejbphdadckaaGreatDoor
namespace Go.Proofs.YtggejbphdadckaaGreatDoor
open Go.RowKit
set_option linter.unusedVariables false

theorem getD_mem {α : Type} (zs : List α) (d : α) (k : Nat) (h : k < zs.length) : zs.getD k d ∈ zs := by
  rw [List.getD, List.getElem?_eq_getElem h]
  exact List.getElem_mem h
/-- Which pages are owned, as an array of tests. -/
def Arr (w : World) (B : Nat) (S : List Int) : Prop := ∀ m, m < 24 → w.cell? ⟨B, m, none⟩ = some (.bool (decide ((m : Int) ∈ S))) ∧ w.frozen? ⟨B, m, none⟩ = false
theorem Arr.put {w : World} {B : Nat} {S : List Int} (h : Arr w B S) (m : Nat) (hm : m < 24) : Arr (w.setCell ⟨B, m, none⟩ (.bool true)) B (S ++ [(m : Int)]) := by
  intro k hk
  obtain ⟨h1, h2⟩ := h k hk
  refine ⟨?_, by rw [World.frozen?_setCell]; exact h2⟩
  by_cases e : k = m
  · subst e
    rw [World.cell?_setCell_same _ _ _ h1]
    simp
  · rw [World.cell?_setCell_other _ _ _ _ (by intro h; cases h; exact e rfl), h1]
    have : ((k : Int) ∈ S ++ [(m : Int)]) ↔ ((k : Int) ∈ S) := by
      simp only [List.mem_append, List.mem_singleton]
      exact ⟨fun h => h.elim id (fun h => absurd (Int.ofNat.inj h) e), .inl⟩
    simp [this]
theorem IsLanes.pre {w : World} {x : Addr} {n c : Nat} {rs : List Ln} (h : IsLanes w (some x) n c rs) (k : Nat) (hk : k ≤ n) : IsLanes w (some x) k c (rs.take k) := by
  rcases h with ⟨h, _⟩ | ⟨y, hy, h1, h2, h3, h4⟩
  · cases h
  · refine .inr ⟨y, hy, by omega, h2, by simp; omega, fun i hi => ?_⟩
    have e : (rs.take k).getD i lz = rs.getD i lz := by simp [List.getD, hi]
    rw [e]
    exact h4 i (by omega)
theorem IsPairs.pre {w : World} {x : Addr} {n c : Nat} {rs : List (Int × Int)} (h : IsPairs w (some x) n c rs) (k : Nat) (hk : k ≤ n) : IsPairs w (some x) k c (rs.take k) := by
  rcases h with ⟨h, _⟩ | ⟨y, hy, h1, h2, h3, h4⟩
  · cases h
  · refine .inr ⟨y, hy, by omega, h2, by simp; omega, fun i hi => ?_⟩
    have e : (rs.take k).getD i (0, 0) = rs.getD i (0, 0) := by simp [List.getD, hi]
    rw [e]
    exact h4 i (by omega)

set_option maxRecDepth 20000 in
set_option maxHeartbeats 4000000 in
theorem i_owned (a0 a1 a2 a3 : Option Addr) (n0 c0 n1 c1 n2 c2 n3 c3 : Nat) (P : Plc) (w : World) (h : Pl w a0 n0 c0 a1 n1 c1 a2 n2 c2 a3 n3 c3 P) (hG : guestsV P.own = 0) :
    Calls Tryz.prog 111 #[.agg #[.slice a0 n0 c0, .slice a1 n1 c1, .slice a2 n2 c2, .slice a3 n3 c3]] w fun e w' => e = .returned (errV (g2V P.own)) ∧ Below w.heap.size w w' := by
  have HL : Hid (n0 = P.own.length) := h.own.len
  have HO : Hid (IsS2 w a0 n0 c0 P.own) := h.own
  have HG : Hid (guestsV P.own = 0) := hG
  have hmax : (n0 : Int) ≤ 9223372036854775807 := by have := h.own.cap; unfold maxLen at this; omega
  have AR : Hid (Arr (((w.alloc (.cells #[.slice a0 n0 c0, .slice a1 n1 c1, .slice a2 n2 c2, .slice a3 n3 c3] 37))).alloc (.cells #[.bool false, .bool false, .bool false, .bool false, .bool false, .bool false, .bool false, .bool false, .bool false, .bool false, .bool false, .bool false, .bool false, .bool false, .bool false, .bool false, .bool false, .bool false, .bool false, .bool false, .bool false, .bool false, .bool false, .bool false] 189)) (w.heap.size + 1) []) := by
    intro m hm
    have e : ∀ m, m < 24 → (#[.bool false, .bool false, .bool false, .bool false, .bool false, .bool false, .bool false, .bool false, .bool false, .bool false, .bool false, .bool false, .bool false, .bool false, .bool false, .bool false, .bool false, .bool false, .bool false, .bool false, .bool false, .bool false, .bool false, .bool false] : Array Value)[m]? = some (.bool false) := fun m hm => match m, hm with | 0, _ => rfl | 1, _ => rfl | 2, _ => rfl | 3, _ => rfl | 4, _ => rfl | 5, _ => rfl | 6, _ => rfl | 7, _ => rfl | 8, _ => rfl | 9, _ => rfl | 10, _ => rfl | 11, _ => rfl | 12, _ => rfl | 13, _ => rfl | 14, _ => rfl | 15, _ => rfl | 16, _ => rfl | 17, _ => rfl | 18, _ => rfl | 19, _ => rfl | 20, _ => rfl | 21, _ => rfl | 22, _ => rfl | 23, _ => rfl | m + 24, h => absurd h (by omega)
    have z : w.heap.size + 1 = ((w.alloc (.cells #[.slice a0 n0 c0, .slice a1 n1 c1, .slice a2 n2 c2, .slice a3 n3 c3] 37))).heap.size := by simp
    rw [z]
    have d : decide ((m : Int) ∈ ([] : List Int)) = false := by simp
    rw [d]
    exact ⟨cell_new (e m hm), by simp⟩
  have HB2 : Hid (Below w.heap.size w (((w.alloc (.cells #[.slice a0 n0 c0, .slice a1 n1 c1, .slice a2 n2 c2, .slice a3 n3 c3] 37))).alloc (.cells #[.bool false, .bool false, .bool false, .bool false, .bool false, .bool false, .bool false, .bool false, .bool false, .bool false, .bool false, .bool false, .bool false, .bool false, .bool false, .bool false, .bool false, .bool false, .bool false, .bool false, .bool false, .bool false, .bool false, .bool false] 189))) := al (al (Below.refl _ _) _) _
  clear h hG
  go_enter Tryz.func111, Tryz.ntmps111
  go_wp2_with fail
  generalize ((w.alloc (.cells #[.slice a0 n0 c0, .slice a1 n1 c1, .slice a2 n2 c2, .slice a3 n3 c3] 37))).alloc (.cells #[.bool false, .bool false, .bool false, .bool false, .bool false, .bool false, .bool false, .bool false, .bool false, .bool false, .bool false, .bool false, .bool false, .bool false, .bool false, .bool false, .bool false, .bool false, .bool false, .bool false, .bool false, .bool false, .bool false, .bool false] 189) = W2 at *
  obtain ⟨B, hB⟩ : ∃ B, w.heap.size + 1 = B := ⟨_, rfl⟩
  rw [hB] at AR ⊢
  have HBB : Hid (w.heap.size + 1 = B) := hB
  clear hB
  go_loopw [11] (fun c wr => ∃ i : Nat, i ≤ n0 ∧ c = .int .i64 i ∧ Arr wr B (P.own.take i).flatten ∧ Below w.heap.size w wr ∧ Hid (dupF [] P.own.flatten = dupF (P.own.take i).flatten (P.own.drop i).flatten)) (fun c _ => n0 - (intOf c).toNat)
  case atStart => exact ⟨0, Nat.zero_le _, rfl, by simpa using AR.out, HB2.out, by show _ = _; simp⟩
  case round =>
    obtain ⟨i, hi, rfl, hA, hB, hD⟩ := hrel
    have HA : Hid (Arr wr B _) := hA
    have HB : Hid (Below _ w wr) := hB
    clear hA hB
    by_cases hlt : i < n0
    · obtain ⟨x, b, l, c, rfl, k1, k2⟩ := HO.out.at i hlt
      have HN : Hid (IsNs w b l c _) := k2
      have k1 := cell_keep HB.out k1
      have HNL : Hid (l = (P.own.getD i []).length) := k2.len
      have hlmax : (l : Int) ≤ 9223372036854775807 := by have := k2.cap; unfold maxLen at this; omega
      have hJ : (i : Int) < (n0 : Int) := by omega
      have HLT : Hid (i < n0) := hlt
      obtain ⟨s1, s2⟩ := flat_seen P.own i (by have := HL.out; omega)
      have hns := HA.out
      rw [s1] at hns
      have HNs : Hid (Arr wr B (seenAt P.own i 0)) := hns
      have HDs : Hid (dupF [] P.own.flatten = dupF (seenAt P.own i 0) (leftAt P.own i 0)) := by show _ = _; rw [hD.out, s1, s2]
      obtain ⟨t1, t2⟩ := flat_next P.own i (by have := HL.out; omega)
      rw [← HNL.out] at t1 t2
      have T1 : Hid (_ = _) := t1
      have T2 : Hid (_ = _) := t2
      clear k2 hlt s1 s2 t1 t2 hns HA hD
      go_wp2_with fail
      clear k1
      go_loopw [17] (fun c wq => ∃ k : Nat, k ≤ l ∧ c = .int .i64 k ∧ Arr wq B (seenAt P.own i k) ∧ Below w.heap.size w wq ∧ Hid (dupF [] P.own.flatten = dupF (seenAt P.own i k) (leftAt P.own i k))) (fun c _ => l - (intOf c).toNat)
      case atStart => exact ⟨0, Nat.zero_le _, rfl, HNs.out, HB.out, HDs⟩
      case round =>
        obtain ⟨k, hk, rfl, hA, hB, hD⟩ := hrel
        have HAu : Hid (Arr wr _ _) := hA
        have HBq : Hid (Below _ w wr) := hB
        clear hA hB
        by_cases hkl : k < l
        · rcases HN.out with ⟨_, h1, _, _⟩ | ⟨y, rfl, h1, h2, h3, h4⟩
          · omega
          have d0 := cell_keep HBq.out (h4 k hkl)
          have hK1 : (k : Int) < (l : Int) := by omega
          have HKL : Hid (k < l) := hkl
          have DS : Hid (_ = _) := dup_step P.own i k (by have := HNL.out; omega)
          have SS : Hid (seenAt P.own i (k + 1) = seenAt P.own i k ++ [(P.own.getD i []).getD k 0]) := by
            show _ = _
            unfold seenAt
            rw [take_succ_getD _ 0 k (by have := HNL.out; omega), List.append_assoc]
          have hr : 0 ≤ (P.own.getD i []).getD k 0 ∧ (P.own.getD i []).getD k 0 ≤ 23 := by
            have ho := getD_mem P.own [] i (by have := HLT.out; have := HL.out; omega)
            have hz := getD_mem (P.own.getD i []) 0 k (by have := HNL.out; omega)
            exact (guests_all P.own HG.out _ ho).2.2 _ hz
          clear h1 h2 h3 h4 hkl
          generalize hz : (P.own.getD i []).getD k 0 = z at *
          clear hz
          generalize hS : seenAt P.own i k = S at *
          clear hS
          obtain ⟨m, rfl⟩ := Int.eq_ofNat_of_zero_le hr.1
          have hm24 : (m : Int) < 24 := by omega
          have HM24 : Hid (m < 24) := by show _ < _; omega
          obtain ⟨e1, e2⟩ := HAu.out m HM24.out
          clear hr
          by_cases hm : (m : Int) ∈ S
          · have HM : Hid ((m : Int) ∈ S) := hm
            rw [decide_eq_true hm] at e1
            clear hm
            go_wp2_with fail
            go_ret
            have : g2V P.own = 6 := by rw [g2V, hD.out, DS.out, if_pos HM.out]; rfl
            rw [this]
            exact ⟨rfl, HBq.out⟩
          · have HM : Hid (¬ (m : Int) ∈ S) := hm
            rw [decide_eq_false hm] at e1
            clear hm
            go_wp2_with fail
            go_roundw
            case rel => exact ⟨k + 1, by have := HKL.out; omega, by go_num, by rw [SS.out]; exact HAu.out.put m HM24.out, HBq.out.setCell (by have := HBB.out; show _ ≤ B; omega) _, by show _ = _; rw [hD.out, DS.out, if_neg HM.out]⟩
            case measure => have := HKL.out; simp [intOf]; omega
        · have hK1 : ¬ (k : Int) < (l : Int) := by omega
          have HKL : Hid (k = l) := by show _ = _; omega
          clear hkl
          go_wp2_with fail
          go_roundw
          case rel =>
            have e := HKL.out
            subst e
            refine ⟨i + 1, by have := HLT.out; omega, by go_num, ?_, HBq.out, ?_⟩
            · rw [← T1.out]; exact HAu.out
            · show _ = _; rw [hD.out, T1.out, T2.out]
          case measure => have := HLT.out; simp [intOf]; omega
    · have hJ : ¬ (i : Int) < (n0 : Int) := by omega
      have HJ : Hid (i = n0) := by show _ = _; omega
      clear hlt
      go_wp2_with fail
      go_ret
      have : g2V P.own = 0 := by rw [g2V, hD.out, List.drop_of_length_le (by have := HL.out; have := HJ.out; omega)]; rfl
      rw [this]
      exact ⟨rfl, HB.out⟩

set_option maxRecDepth 20000 in
set_option maxHeartbeats 4000000 in
theorem i_lanes (a0 a1 a2 a3 : Option Addr) (n0 c0 n1 c1 n2 c2 n3 c3 : Nat) (P : Plc) (w : World) (h : Pl w a0 n0 c0 a1 n1 c1 a2 n2 c2 a3 n3 c3 P) :
    Calls Tryz.prog 113 #[.agg #[.slice a0 n0 c0, .slice a1 n1 c1, .slice a2 n2 c2, .slice a3 n3 c3]] w fun e w' => e = .returned (errV (lanesV P.own [] P.lanes)) ∧ Below w.heap.size w w' := by
  have HL0 : Hid (n0 = P.own.length) := h.own.len
  have HL1 : Hid (n1 = P.lanes.length) := h.lanes.len
  have HP1 : Hid (Pl (w.alloc (.cells #[.slice a0 n0 c0, .slice a1 n1 c1, .slice a2 n2 c2, .slice a3 n3 c3] 37)) a0 n0 c0 a1 n1 c1 a2 n2 c2 a3 n3 c3 P) := h.stay (al (Below.refl _ _) _)
  have hmax : (n1 : Int) ≤ 9223372036854775807 := by have := h.lanes.cap; unfold maxLen at this; omega
  have hc1 : (n1 : Int) ≤ (c1 : Int) := by have := h.lanes.cap; omega
  have HM0 : Hid ((n0 : Int) ≤ 9223372036854775807) := by have := h.own.cap; show _ ≤ _; unfold maxLen at this; omega
  have HB1 : Hid (Below w.heap.size w (w.alloc (.cells #[.slice a0 n0 c0, .slice a1 n1 c1, .slice a2 n2 c2, .slice a3 n3 c3] 37))) := al (Below.refl _ _) _
  have Q : Hid (((w.alloc (.cells #[.slice a0 n0 c0, .slice a1 n1 c1, .slice a2 n2 c2, .slice a3 n3 c3] 37))).cell? ⟨w.heap.size, 0, none⟩ = some (.slice a0 n0 c0) ∧ ((w.alloc (.cells #[.slice a0 n0 c0, .slice a1 n1 c1, .slice a2 n2 c2, .slice a3 n3 c3] 37))).cell? ⟨w.heap.size, 1, none⟩ = some (.slice a1 n1 c1) ∧ ((w.alloc (.cells #[.slice a0 n0 c0, .slice a1 n1 c1, .slice a2 n2 c2, .slice a3 n3 c3] 37))).cell? ⟨w.heap.size, 2, none⟩ = some (.slice a2 n2 c2) ∧ ((w.alloc (.cells #[.slice a0 n0 c0, .slice a1 n1 c1, .slice a2 n2 c2, .slice a3 n3 c3] 37))).cell? ⟨w.heap.size, 3, none⟩ = some (.slice a3 n3 c3)) := ⟨cell_new rfl, cell_new rfl, cell_new rfl, cell_new rfl⟩
  clear h
  go_enter Tryz.func113, Tryz.ntmps113
  go_wp2_with fail
  generalize (w.alloc (.cells #[.slice a0 n0 c0, .slice a1 n1 c1, .slice a2 n2 c2, .slice a3 n3 c3] 37)) = W1 at *
  obtain ⟨B0, hB0⟩ : ∃ B0, w.heap.size = B0 := ⟨_, rfl⟩
  rw [hB0] at Q ⊢
  clear hB0
  go_loopw [9] (fun c wr => ∃ j : Nat, j ≤ n1 ∧ c = .int .i64 j ∧ Below W1.heap.size W1 wr ∧ Hid (lanesV P.own [] P.lanes = lanesV P.own (P.lanes.take j) (P.lanes.drop j))) (fun c _ => n1 - (intOf c).toNat)
  case atStart => exact ⟨0, Nat.zero_le _, rfl, Below.refl _ _, by show _ = _; simp⟩
  case round =>
    obtain ⟨j, hj, rfl, hB, hI⟩ := hrel
    have HB : Hid (Below W1.heap.size W1 wr) := hB
    have q0 := cell_keep hB Q.out.1
    have q1 := cell_keep hB Q.out.2.1
    have q2 := cell_keep hB Q.out.2.2.1
    have q3 := cell_keep hB Q.out.2.2.2
    have bB : B0 < wr.heap.size := block_of_cell q0
    by_cases hlt : j < n1
    · obtain ⟨x, rfl, k0, k1, k2, k3, k4⟩ := (HP1.out.lanes.stay hB).at j hlt
      have hJ : (j : Int) < (n1 : Int) := by omega
      have hjc : (j : Int) ≤ (c1 : Int) := by omega
      have HLT : Hid (j < n1) := hlt
      have ST : Hid (_ = _) := lanes_step P.own P.lanes j (by have := HL1.out; omega)
      obtain ⟨L, hL⟩ : ∃ L, P.lanes.getD j lz = L := ⟨_, rfl⟩
      rw [hL] at k0 k1 k2 k3 k4 ST
      clear hL hlt hB
      have LQ : Hid ((wr.alloc (.cells #[.int .i64 L.fr, .int .i64 L.dst, .int .i64 L.pg, .int .i64 L.af, .int .i64 L.tt] 125)).cell? ⟨wr.heap.size, 0, none⟩ = some (.int .i64 L.fr) ∧ (wr.alloc (.cells #[.int .i64 L.fr, .int .i64 L.dst, .int .i64 L.pg, .int .i64 L.af, .int .i64 L.tt] 125)).cell? ⟨wr.heap.size, 1, none⟩ = some (.int .i64 L.dst) ∧ (wr.alloc (.cells #[.int .i64 L.fr, .int .i64 L.dst, .int .i64 L.pg, .int .i64 L.af, .int .i64 L.tt] 125)).cell? ⟨wr.heap.size, 2, none⟩ = some (.int .i64 L.pg) ∧ (wr.alloc (.cells #[.int .i64 L.fr, .int .i64 L.dst, .int .i64 L.pg, .int .i64 L.af, .int .i64 L.tt] 125)).cell? ⟨wr.heap.size, 3, none⟩ = some (.int .i64 L.af) ∧ (wr.alloc (.cells #[.int .i64 L.fr, .int .i64 L.dst, .int .i64 L.pg, .int .i64 L.af, .int .i64 L.tt] 125)).cell? ⟨wr.heap.size, 4, none⟩ = some (.int .i64 L.tt)) := ⟨cell_new rfl, cell_new rfl, cell_new rfl, cell_new rfl, cell_new rfl⟩
      by_cases he : endsV n0 L.fr L.dst ≠ 0
      · have RV : Hid (lanesV P.own [] P.lanes = endsV n0 L.fr L.dst) := by
          show _ = _
          have e : laneV P.own (P.lanes.take j) L = endsV n0 L.fr L.dst := by rw [laneV, ← HL0.out, if_neg he]
          rw [hI.out, ST.out, e, if_neg he]
        have ev : errV (endsV n0 L.fr L.dst) = .iface 165 (.agg #[.int .i64 (endsV n0 L.fr L.dst)]) := by rw [errV, if_neg he]
        clear he
        generalize hv : endsV n0 L.fr L.dst = v at *
        go_wp2_with (go_at_call 125; refine (i_ends _ _ _ _ _ _ _ _ _ _ _ _ _ _ _ HM0.out).mono ?_; rintro e w2 ⟨rfl, b2⟩; have p0 := cell_keep b2 (cell_push _ q0); have p1 := cell_keep b2 (cell_push _ q1); have p2 := cell_keep b2 (cell_push _ q2); have p3 := cell_keep b2 (cell_push _ q3); have l0 := cell_keep b2 LQ.out.1; have l1 := cell_keep b2 LQ.out.2.1; have l2 := cell_keep b2 LQ.out.2.2.1; have l3 := cell_keep b2 LQ.out.2.2.2.1; have l4 := cell_keep b2 LQ.out.2.2.2.2; have B2 : Hid (Below W1.heap.size W1 w2) := on (al HB.out _) b2; clear b2; rw [hv, ev])
        go_ret
        rw [RV.out, ev]
        exact ⟨rfl, on HB1.out B2.out⟩
      have he0 : endsV n0 L.fr L.dst = 0 := Decidable.not_not.1 he
      have V0 : Hid (laneV P.own (P.lanes.take j) L = if pgOk L.pg = false ∨ atOk L.af = false ∨ atOk L.tt = false then 3 else if 0 ≤ ownerFrom 0 P.own L.pg then 6 else if (P.lanes.take j).any (fun o => meetV o L) then 6 else 0) := by
        show _ = _
        rw [laneV, ← HL0.out, if_pos he0]
      have ev0 : errV 0 = .nilIface := rfl
      clear he
      by_cases hp : pgOk L.pg = false
      · have V1 : Hid (lanesV P.own [] P.lanes = 3) := by
          show _ = _
          have e : laneV P.own (P.lanes.take j) L = 3 := by rw [V0.out, if_pos (.inl hp)]
          rw [hI.out, ST.out, e, if_neg (by decide)]
        go_wp2_with (first
          | (go_at_call 125; refine (i_ends _ _ _ _ _ _ _ _ _ _ _ _ _ _ _ HM0.out).mono ?_; rintro e w2 ⟨rfl, b2⟩; have p0 := cell_keep b2 (cell_push _ q0); have p1 := cell_keep b2 (cell_push _ q1); have p2 := cell_keep b2 (cell_push _ q2); have p3 := cell_keep b2 (cell_push _ q3); have l0 := cell_keep b2 LQ.out.1; have l1 := cell_keep b2 LQ.out.2.1; have l2 := cell_keep b2 LQ.out.2.2.1; have l3 := cell_keep b2 LQ.out.2.2.2.1; have l4 := cell_keep b2 LQ.out.2.2.2.2; have B2 : Hid (Below W1.heap.size W1 w2) := on (al HB.out _) b2; clear b2; rw [he0, ev0])
          | (go_at_call 124; refine (i_hostPage _ _).mono ?_; rintro e w2 ⟨rfl, rfl⟩; rw [hp]))
        go_ret
        rw [V1.out]
        exact ⟨rfl, on HB1.out B2.out⟩
      rw [Bool.not_eq_false] at hp
      by_cases ha : atOk L.af = false
      · have V1 : Hid (lanesV P.own [] P.lanes = 3) := by
          show _ = _
          have e : laneV P.own (P.lanes.take j) L = 3 := by rw [V0.out, if_pos (.inr (.inl ha))]
          rw [hI.out, ST.out, e, if_neg (by decide)]
        go_wp2_with (first
          | (go_at_call 125; refine (i_ends _ _ _ _ _ _ _ _ _ _ _ _ _ _ _ HM0.out).mono ?_; rintro e w2 ⟨rfl, b2⟩; have p0 := cell_keep b2 (cell_push _ q0); have p1 := cell_keep b2 (cell_push _ q1); have p2 := cell_keep b2 (cell_push _ q2); have p3 := cell_keep b2 (cell_push _ q3); have l0 := cell_keep b2 LQ.out.1; have l1 := cell_keep b2 LQ.out.2.1; have l2 := cell_keep b2 LQ.out.2.2.1; have l3 := cell_keep b2 LQ.out.2.2.2.1; have l4 := cell_keep b2 LQ.out.2.2.2.2; have B2 : Hid (Below W1.heap.size W1 w2) := on (al HB.out _) b2; clear b2; rw [he0, ev0])
          | (go_at_call 124; refine (i_hostPage _ _).mono ?_; rintro e w2 ⟨rfl, rfl⟩; rw [hp])
          | (go_at_call 126; refine (i_lanePlace _ _).mono ?_; rintro e w2 ⟨rfl, rfl⟩; rw [ha]))
        go_ret
        rw [V1.out]
        exact ⟨rfl, on HB1.out B2.out⟩
      rw [Bool.not_eq_false] at ha
      by_cases ht : atOk L.tt = false
      · have V1 : Hid (lanesV P.own [] P.lanes = 3) := by
          show _ = _
          have e : laneV P.own (P.lanes.take j) L = 3 := by rw [V0.out, if_pos (.inr (.inr ht))]
          rw [hI.out, ST.out, e, if_neg (by decide)]
        go_wp2_with (first
          | (go_at_call 125; refine (i_ends _ _ _ _ _ _ _ _ _ _ _ _ _ _ _ HM0.out).mono ?_; rintro e w2 ⟨rfl, b2⟩; have p0 := cell_keep b2 (cell_push _ q0); have p1 := cell_keep b2 (cell_push _ q1); have p2 := cell_keep b2 (cell_push _ q2); have p3 := cell_keep b2 (cell_push _ q3); have l0 := cell_keep b2 LQ.out.1; have l1 := cell_keep b2 LQ.out.2.1; have l2 := cell_keep b2 LQ.out.2.2.1; have l3 := cell_keep b2 LQ.out.2.2.2.1; have l4 := cell_keep b2 LQ.out.2.2.2.2; have B2 : Hid (Below W1.heap.size W1 w2) := on (al HB.out _) b2; clear b2; rw [he0, ev0])
          | (go_at_call 124; refine (i_hostPage _ _).mono ?_; rintro e w2 ⟨rfl, rfl⟩; rw [hp])
          | (go_at_call 126; refine (i_lanePlace _ _).mono ?_; rintro e w2 ⟨rfl, rfl⟩; first | rw [ha] | rw [ht]))
        go_ret
        rw [V1.out]
        exact ⟨rfl, on HB1.out B2.out⟩
      rw [Bool.not_eq_false] at ht
      have V2 : Hid (laneV P.own (P.lanes.take j) L = if 0 ≤ ownerFrom 0 P.own L.pg then 6 else if (P.lanes.take j).any (fun o => meetV o L) then 6 else 0) := by
        show _ = _
        rw [V0.out, if_neg (by rw [hp, ha, ht]; simp)]
      clear V0
      have OR := owner_range P.own L.pg 0 (by omega)
      go_wp2_with (first
        | (go_at_call 125; refine (i_ends _ _ _ _ _ _ _ _ _ _ _ _ _ _ _ HM0.out).mono ?_; rintro e w2 ⟨rfl, b2⟩; have p0 := cell_keep b2 (cell_push _ q0); have p1 := cell_keep b2 (cell_push _ q1); have p2 := cell_keep b2 (cell_push _ q2); have p3 := cell_keep b2 (cell_push _ q3); have l0 := cell_keep b2 LQ.out.1; have l1 := cell_keep b2 LQ.out.2.1; have l2 := cell_keep b2 LQ.out.2.2.1; have l3 := cell_keep b2 LQ.out.2.2.2.1; have l4 := cell_keep b2 LQ.out.2.2.2.2; have B2 : Hid (Below W1.heap.size W1 w2) := on (al HB.out _) b2; clear b2; rw [he0, ev0])
        | (go_at_call 124; refine (i_hostPage _ _).mono ?_; rintro e w2 ⟨rfl, rfl⟩; rw [hp])
        | (go_at_call 126; refine (i_lanePlace _ _).mono ?_; rintro e w2 ⟨rfl, rfl⟩; first | rw [ha] | rw [ht]))
      have HPw : Hid (Pl w2 a0 n0 c0 (some x) n1 c1 a2 n2 c2 a3 n3 c3 P) := HP1.out.stay B2.out
      have HLp : Hid (IsLanes w2 (some x) j c1 (P.lanes.take j)) := (HPw.out.lanes).pre j (Nat.le_of_lt HLT.out)
      have HB3 : Hid (Below w.heap.size w w2) := on HB1.out B2.out
      have inh : Nonempty (BW w2) := ⟨⟨w2, Below.refl _ _⟩⟩
      have z0 := BW.cell p0
      have z1 := BW.cell p1
      have z2 := BW.cell p2
      have z3 := BW.cell p3
      have y0 := BW.cell l0
      have y1 := BW.cell l1
      have y2 := BW.cell l2
      have y3 := BW.cell l3
      have y4 := BW.cell l4
      by_cases ho : ownerFrom 0 P.own L.pg = -1
      · have V3 : Hid (laneV P.own (P.lanes.take j) L = if (P.lanes.take j).any (fun o => meetV o L) then 6 else 0) := by
          show _ = _
          rw [V2.out, ho, if_neg (by decide)]
        obtain ⟨mb, hmb⟩ : ∃ mb, (P.lanes.take j).any (fun o => meetV o L) = mb := ⟨_, rfl⟩
        rw [hmb] at V3
        have CO : ∀ p : BW w2, Calls Tryz.prog 127 #[.agg #[.slice a0 n0 c0, .slice (some x) n1 c1, .slice a2 n2 c2, .slice a3 n3 c3], .int .i64 L.pg] p.w fun e w' => e = .returned (.int .i64 (-1)) ∧ Below p.w.heap.size p.w w' := fun p => by
          have t := i_owner _ _ _ _ _ _ _ _ _ _ _ _ P L.pg p.w (HPw.out.stay p.h)
          rw [ho] at t
          exact t
        have CM : ∀ p : BW w2, Calls Tryz.prog 128 #[.slice (some x) j c1, .agg #[.int .i64 L.fr, .int .i64 L.dst, .int .i64 L.pg, .int .i64 L.af, .int .i64 L.tt]] p.w fun e w' => e = .returned (.bool mb) ∧ Below p.w.heap.size p.w w' := fun p => by
          have t := i_meets _ _ _ _ L p.w (HLp.out.stay p.h)
          rw [hmb] at t
          exact t
        clear hmb ho OR V2
        cases mb
        · refine region_bw (by kernel_rfl) ?_
          repeat (quiet_step (first | (go_at_call 127; exact calls_bw (CO _)) | (go_at_call 128; exact calls_bw (CM _))))
          refine wpQuiet_nil ?_
          rintro _ ⟨p9, rfl⟩
          have B9 : Hid (Below W1.heap.size W1 p9.w) := on B2.out p9.h
          go_wp2_with fail
          go_roundw
          case rel => exact ⟨j + 1, by have := HLT.out; omega, by go_num, B9.out, by show _ = _; rw [hI.out, ST.out, V3.out]; rfl⟩
          case measure => have := HLT.out; simp [intOf]; omega
        · refine region_bw (by kernel_rfl) ?_
          repeat (quiet_step (first | (go_at_call 127; exact calls_bw (CO _)) | (go_at_call 128; exact calls_bw (CM _))))
          refine wpQuiet_nil ?_
          rintro _ ⟨p9, rfl⟩
          have B9 : Hid (Below w.heap.size w p9.w) := on HB3.out p9.h
          have RV : Hid (lanesV P.own [] P.lanes = 6) := by
            show _ = _
            rw [hI.out, ST.out, V3.out]
            rfl
          go_wp2_with fail
          go_ret
          rw [RV.out]
          exact ⟨rfl, B9.out⟩
      · have RV : Hid (lanesV P.own [] P.lanes = 6) := by
          show _ = _
          have e : laneV P.own (P.lanes.take j) L = 6 := by rw [V2.out, if_pos (by omega)]
          rw [hI.out, ST.out, e, if_neg (by decide)]
        have CO : ∀ p : BW w2, Calls Tryz.prog 127 #[.agg #[.slice a0 n0 c0, .slice (some x) n1 c1, .slice a2 n2 c2, .slice a3 n3 c3], .int .i64 L.pg] p.w fun e w' => e = .returned (.int .i64 (ownerFrom 0 P.own L.pg)) ∧ Below p.w.heap.size p.w w' := fun p => i_owner _ _ _ _ _ _ _ _ _ _ _ _ P L.pg p.w (HPw.out.stay p.h)
        clear OR V2
        refine region_bw (by kernel_rfl) ?_
        repeat (quiet_step ((go_at_call 127; exact calls_bw (CO _))))
        refine wpQuiet_nil ?_
        rintro _ ⟨p9, rfl⟩
        have B9 : Hid (Below w.heap.size w p9.w) := on HB3.out p9.h
        go_wp2_with fail
        go_ret
        rw [RV.out]
        exact ⟨rfl, B9.out⟩
    · have hJ : ¬ (j : Int) < (n1 : Int) := by omega
      have HJ : Hid (j = n1) := by show _ = _; omega
      clear hlt
      have RV : Hid (lanesV P.own [] P.lanes = 0) := by
        show _ = _
        rw [hI.out, List.drop_of_length_le (by have := HL1.out; have := HJ.out; omega)]
        rfl
      go_wp2_with fail
      go_ret
      rw [RV.out]
      exact ⟨rfl, on HB1.out HB.out⟩
end Go.Proofs.YtggejbphdadckaaGreatDoor
