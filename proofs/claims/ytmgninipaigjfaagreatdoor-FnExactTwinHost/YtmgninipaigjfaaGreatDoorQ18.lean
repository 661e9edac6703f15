/- Texts of this seat, joined. -/
import Derived.Deep.Slices
import Derived.ChangeSame
import Derived.Lib.SmallJoins
import Derived.Deep.Cut
import Derived.Test.YtmgninipaigjfaaGreatDoorQ04
import Derived.Test.YtmgninipaigjfaaGreatDoorQ10
import Derived.Test.YtmgninipaigjfaaGreatDoorQ15
import Derived.Test.YtmgninipaigjfaaGreatDoorQ17
namespace Go.Proofs.YtmgninipaigjfaaGreatDoor
open Go.RowKit Go.ChangeShapes Go.WideShapes Go.ChangeAt
set_option linter.unusedVariables false

theorem lanes_open {H : Type} {enc : TypeId × Value → H} {P : Program} {w : World} {base : Nat} {spare : Nat → Bool} {held : Bool} {t e : TypeId} {f0 f1 f2 f3 f4 : Field} {fuel : Nat} {cs : List Value} {x : DataW H × List MemPlace}
    (ht : P.underlying t = some (.slice e)) (he : P.underlying e = some (.struct #[f0, f1, f2, f3, f4])) (ce : P.cellsOf e = 5) (o0 : f0.offset = 0) (o1 : f1.offset = 1) (o2 : f2.offset = 2) (o3 : f3.offset = 3) (o4 : f4.offset = 4)
    (u0 : P.underlying f0.type = some (.int .i64)) (u1 : P.underlying f1.type = some (.int .i64)) (u2 : P.underlying f2.type = some (.int .i64)) (u3 : P.underlying f3.type = some (.int .i64)) (u4 : P.underlying f4.type = some (.int .i64))
    (c0 : P.cellsOf f0.type = 1) (c1 : P.cellsOf f1.type = 1) (c2 : P.cellsOf f2.type = 1) (c3 : P.cellsOf f3.type = 1) (c4 : P.cellsOf f4.type = 1)
    (h : DataW.trod enc P w base spare held fuel t cs = some x) :
    cs = [.slice none 0 0] ∨ ∃ a len cap rs, cs = [.slice (some a) len cap] ∧ IsLanes w (some a) len cap rs := by
  rcases Go.Deep.open_slice ht h with h0 | ⟨a, len, cap, m, n, D, Pl, rfl, hb, hl, hm, hmm, rfl, hx⟩
  · exact .inl h0.1
  right
  have hlm : len ≤ m := by rw [hmm]; split <;> omega
  have each : ∀ i, i < len → ∃ q : Ln, w.cell? (a.add (i * 5)) = some (.int .i64 q.fr) ∧ w.cell? (a.add (i * 5 + 1)) = some (.int .i64 q.dst) ∧ w.cell? (a.add (i * 5 + 2)) = some (.int .i64 q.pg) ∧ w.cell? (a.add (i * 5 + 3)) = some (.int .i64 q.af) ∧ w.cell? (a.add (i * 5 + 4)) = some (.int .i64 q.tt) := by
    intro i hi
    obtain ⟨cs', h1, h2⟩ := hx i (by omega)
    rw [ce] at h1
    obtain ⟨_, hlen, hcell⟩ := World.cells?_some h1
    obtain ⟨xs, k, hk, hxy, _, hxl, hf⟩ := DataW.trod_struct he h2
    match xs, hxl, cs', hlen with
    | [y0, y1, y2, y3, y4], _, [v0, v1, v2, v3, v4], _ =>
      have g0 := hf 0 f0 rfl
      have g1 := hf 1 f1 rfl
      have g2 := hf 2 f2 rfl
      have g3 := hf 3 f3 rfl
      have g4 := hf 4 f4 rfl
      simp [o0, o1, o2, o3, o4, c0, c1, c2, c3, c4] at g0 g1 g2 g3 g4
      have e0 := hcell 0 (by omega)
      have e1 := hcell 1 (by omega)
      have e2 := hcell 2 (by omega)
      have e3 := hcell 3 (by omega)
      have e4 := hcell 4 (by omega)
      rw [Go.Deep.add_add] at e0 e1 e2 e3 e4
      obtain ⟨b0, z0, _, _⟩ := DataW.trod_int u0 g0
      obtain ⟨b1, z1, _, _⟩ := DataW.trod_int u1 g1
      obtain ⟨b2, z2, _, _⟩ := DataW.trod_int u2 g2
      obtain ⟨b3, z3, _, _⟩ := DataW.trod_int u3 g3
      obtain ⟨b4, z4, _, _⟩ := DataW.trod_int u4 g4
      have q0 : v0 = .int .i64 b0 := by simpa using z0
      have q1 : v1 = .int .i64 b1 := by simpa using z1
      have q2 : v2 = .int .i64 b2 := by simpa using z2
      have q3 : v3 = .int .i64 b3 := by simpa using z3
      have q4 : v4 = .int .i64 b4 := by simpa using z4
      subst q0 q1 q2 q3 q4
      exact ⟨⟨b0, b1, b2, b3, b4⟩, by simpa using e0, by simpa using e1, by simpa using e2, by simpa using e3, by simpa using e4⟩
  refine ⟨a, len, cap, (List.range len).map fun i => if h : i < len then Classical.choose (each i h) else lz, rfl, .inr ⟨a, rfl, hl, hm, by simp, fun i hi => ?_⟩⟩
  have e : ((List.range len).map fun i => if h : i < len then Classical.choose (each i h) else lz).getD i lz = Classical.choose (each i hi) := by
    simp [List.getD, hi]
  rw [e]
  exact Classical.choose_spec (each i hi)

theorem lanes_open2 {H : Type} {enc : TypeId × Value → H} {P : Program} {w : World} {base : Nat} {spare : Nat → Bool} {held : Bool} {t e : TypeId} {f0 f1 f2 f3 f4 : Field} {fuel : Nat} {cs : List Value} {x : DataW H × List MemPlace}
    (ht : P.underlying t = some (.slice e)) (he : P.underlying e = some (.struct #[f0, f1, f2, f3, f4])) (ce : P.cellsOf e = 5) (o0 : f0.offset = 0) (o1 : f1.offset = 1) (o2 : f2.offset = 2) (o3 : f3.offset = 3) (o4 : f4.offset = 4)
    (u0 : P.underlying f0.type = some (.int .i64)) (u1 : P.underlying f1.type = some (.int .i64)) (u2 : P.underlying f2.type = some (.int .i64)) (u3 : P.underlying f3.type = some (.int .i64)) (u4 : P.underlying f4.type = some (.int .i64))
    (c0 : P.cellsOf f0.type = 1) (c1 : P.cellsOf f1.type = 1) (c2 : P.cellsOf f2.type = 1) (c3 : P.cellsOf f3.type = 1) (c4 : P.cellsOf f4.type = 1)
    (h : DataW.trod enc P w base spare held fuel t cs = some x) : ∃ a len cap rs, cs = [.slice a len cap] ∧ IsLanes w a len cap rs := by
  rcases lanes_open ht he ce o0 o1 o2 o3 o4 u0 u1 u2 u3 u4 c0 c1 c2 c3 c4 h with h | ⟨a, len, cap, rs, h1, h2⟩
  · exact ⟨none, 0, 0, [], h, .inl ⟨rfl, rfl, rfl, rfl⟩⟩
  · exact ⟨some a, len, cap, rs, h1, h2⟩
theorem pairs_open {H : Type} {enc : TypeId × Value → H} {P : Program} {w : World} {base : Nat} {spare : Nat → Bool} {held : Bool} {t e : TypeId} {f0 f1 : Field} {fuel : Nat} {cs : List Value} {x : DataW H × List MemPlace}
    (ht : P.underlying t = some (.slice e)) (he : P.underlying e = some (.struct #[f0, f1])) (ce : P.cellsOf e = 2) (o0 : f0.offset = 0) (o1 : f1.offset = 1)
    (u0 : P.underlying f0.type = some (.int .i64)) (u1 : P.underlying f1.type = some (.int .i64)) (c0 : P.cellsOf f0.type = 1) (c1 : P.cellsOf f1.type = 1)
    (h : DataW.trod enc P w base spare held fuel t cs = some x) : ∃ a len cap rs, cs = [.slice a len cap] ∧ IsPairs w a len cap rs := by
  rcases Go.Deep.open_slice ht h with h0 | ⟨a, len, cap, m, n, D, Pl, rfl, hb, hl, hm, hmm, rfl, hx⟩
  · exact ⟨none, 0, 0, [], h0.1, .inl ⟨rfl, rfl, rfl, rfl⟩⟩
  have hlm : len ≤ m := by rw [hmm]; split <;> omega
  have each : ∀ i, i < len → ∃ q : Int × Int, w.cell? (a.add (i * 2)) = some (.int .i64 q.1) ∧ w.cell? (a.add (i * 2 + 1)) = some (.int .i64 q.2) := by
    intro i hi
    obtain ⟨cs', h1, h2⟩ := hx i (by omega)
    rw [ce] at h1
    obtain ⟨_, hlen, hcell⟩ := World.cells?_some h1
    obtain ⟨xs, k, hk, hxy, _, hxl, hf⟩ := DataW.trod_struct he h2
    match xs, hxl, cs', hlen with
    | [y0, y1], _, [v0, v1], _ =>
      have g0 := hf 0 f0 rfl
      have g1 := hf 1 f1 rfl
      simp [o0, o1, c0, c1] at g0 g1
      have e0 := hcell 0 (by omega)
      have e1 := hcell 1 (by omega)
      rw [Go.Deep.add_add] at e0 e1
      obtain ⟨b0, z0, _, _⟩ := DataW.trod_int u0 g0
      obtain ⟨b1, z1, _, _⟩ := DataW.trod_int u1 g1
      have q0 : v0 = .int .i64 b0 := by simpa using z0
      have q1 : v1 = .int .i64 b1 := by simpa using z1
      subst q0 q1
      exact ⟨(b0, b1), by simpa using e0, by simpa using e1⟩
  refine ⟨some a, len, cap, (List.range len).map fun i => if h : i < len then Classical.choose (each i h) else (0, 0), rfl, .inr ⟨a, rfl, hl, hm, by simp, fun i hi => ?_⟩⟩
  have e : ((List.range len).map fun i => if h : i < len then Classical.choose (each i h) else (0, 0)).getD i (0, 0) = Classical.choose (each i hi) := by
    simp [List.getD, hi]
  rw [e]
  exact Classical.choose_spec (each i hi)
theorem ss_open {H : Type} {enc : TypeId × Value → H} {P : Program} {w : World} {base : Nat} {held : Bool} {t e k : TypeId} {fuel : Nat} {cs : List Value} {x : DataW H × List MemPlace}
    (ht : P.underlying t = some (.slice e)) (he : P.underlying e = some (.slice k)) (hk : P.underlying k = some (.int .i64)) (ce : P.cellsOf e = 1) (ck : P.cellsOf k = 1)
    (h : DataW.trod enc P w base (fun _ => true) held fuel t cs = some x) : ∃ a len cap oss, cs = [.slice a len cap] ∧ IsSS w a len cap oss := by
  rcases Go.Deep.open_slice ht h with h0 | ⟨a, len, cap, m, n, D, Pl, rfl, hb, hl, hm, hmm, rfl, hx⟩
  · exact ⟨none, 0, 0, [], h0.1, .inl ⟨rfl, rfl, rfl, rfl⟩⟩
  have hlm : len ≤ m := by rw [hmm]; split <;> omega
  have each : ∀ i, i < len → ∃ zs b l c, w.cell? (a.add i) = some (.slice b l c) ∧ IsRow .i64 w b l c zs := by
    intro i hi
    obtain ⟨cs', h1, h2⟩ := hx i (by omega)
    rw [ce] at h1
    obtain ⟨_, hlen, hcell⟩ := World.cells?_some h1
    have e0 := hcell 0 (by omega)
    rw [Go.Deep.add_add] at e0
    rcases open_ints he hk ck h2 with ⟨hcs, _⟩ | ⟨y, l, c, zs, hcs, _, hl', hm', hz, _, hc, hwz⟩
    · subst hcs
      exact ⟨[], none, 0, 0, by simpa using e0, .inl ⟨rfl, rfl, rfl, rfl⟩⟩
    · subst hcs
      exact ⟨_, some y, l, c, by simpa using e0, IsRow.of_all hl' hm' (by simpa using hz) hc hwz⟩
  refine ⟨some a, len, cap, (List.range len).map fun i => if h : i < len then Classical.choose (each i h) else [], rfl, .inr ⟨a, rfl, hl, hm, by simp, fun i hi => ?_⟩⟩
  have e : ((List.range len).map fun i => if h : i < len then Classical.choose (each i h) else []).getD i [] = Classical.choose (each i hi) := by
    simp [List.getD, hi]
  rw [e]
  exact Classical.choose_spec (each i hi)
end Go.Proofs.YtmgninipaigjfaaGreatDoor
namespace Go.Proofs.YtmgninipaigjfaaGreatDoor
open Go.RowKit Go.ChangeShapes Go.WideShapes Go.ChangeAt
set_option linter.unusedVariables false

/-- The nine cells of a machine at a place. -/
structure Hc (w : World) (p : Addr) (r c i o : Value) (H : Ht) : Prop where
  c0 : w.cell? p = some r
  c1 : w.cell? ⟨p.block, p.off + 1, none⟩ = some (.int .i64 H.pc)
  c2 : w.cell? ⟨p.block, p.off + 2, none⟩ = some c
  c3 : w.cell? ⟨p.block, p.off + 3, none⟩ = some (.bool H.halted)
  c4 : w.cell? ⟨p.block, p.off + 4, none⟩ = some (.bool H.waiting)
  c5 : w.cell? ⟨p.block, p.off + 5, none⟩ = some (.bool H.rung)
  c6 : w.cell? ⟨p.block, p.off + 6, none⟩ = some (.int .i64 H.done)
  c7 : w.cell? ⟨p.block, p.off + 7, none⟩ = some i
  c8 : w.cell? ⟨p.block, p.off + 8, none⟩ = some o
theorem Hc.stay {w : World} {p : Addr} {r c i o : Value} {H : Ht} {w' : World} (h : Hc w p r c i o H) (b : Below w.heap.size w w') : Hc w' p r c i o H :=
  ⟨cell_keep b h.c0, cell_keep b h.c1, cell_keep b h.c2, cell_keep b h.c3, cell_keep b h.c4, cell_keep b h.c5, cell_keep b h.c6, cell_keep b h.c7, cell_keep b h.c8⟩
/-- Machines that came in. -/
def IsHs (w : World) (a : Option Addr) (n c : Nat) (hs : List Ht) : Prop :=
  (a = none ∧ n = 0 ∧ c = 0 ∧ hs = []) ∨
  ∃ x, a = some x ∧ n ≤ c ∧ c ≤ maxLen ∧ hs.length = n ∧ ∀ i, i < n → ∃ (a0 a1 a2 a3 : Option Addr) (n0 k0 n1 k1 n2 k2 n3 k3 : Nat), Hc w (x.add (i * 9)) (.slice a0 n0 k0) (.slice a1 n1 k1) (.slice a2 n2 k2) (.slice a3 n3 k3) (hs.getD i voidH) ∧ Hin w a0 n0 k0 a1 n1 k1 a2 n2 k2 a3 n3 k3 (hs.getD i voidH)
theorem IsHs.stay {w w' : World} {a : Option Addr} {n c : Nat} {hs : List Ht} (h : IsHs w a n c hs) (b : Below w.heap.size w w') : IsHs w' a n c hs := by
  rcases h with h | ⟨x, h1, h2, h3, h4, h5⟩
  · exact .inl h
  · refine .inr ⟨x, h1, h2, h3, h4, fun i hi => ?_⟩
    obtain ⟨a0, a1, a2, a3, n0, k0, n1, k1, n2, k2, n3, k3, g1, g2⟩ := h5 i hi
    exact ⟨a0, a1, a2, a3, n0, k0, n1, k1, n2, k2, n3, k3, g1.stay b, g2.stay b⟩
theorem IsHs.len {w : World} {a : Option Addr} {n c : Nat} {hs : List Ht} (h : IsHs w a n c hs) : n = hs.length ∧ n ≤ 9223372036854775807 := by
  rcases h with ⟨_, h1, _, rfl⟩ | ⟨x, h1, h2, h3, h4, _⟩
  · exact ⟨by simpa using h1, by omega⟩
  · exact ⟨h4.symm, by unfold maxLen at h3; omega⟩
theorem IsHs.at {w : World} {a : Option Addr} {n c : Nat} {hs : List Ht} (h : IsHs w a n c hs) (i : Nat) (hi : i < n) : ∃ (x : Addr) (a0 a1 a2 a3 : Option Addr) (n0 k0 n1 k1 n2 k2 n3 k3 : Nat), a = some x ∧ Hc w (x.add (i * 9)) (.slice a0 n0 k0) (.slice a1 n1 k1) (.slice a2 n2 k2) (.slice a3 n3 k3) (hs.getD i voidH) ∧ Hin w a0 n0 k0 a1 n1 k1 a2 n2 k2 a3 n3 k3 (hs.getD i voidH) := by
  rcases h with ⟨_, h1, _, _⟩ | ⟨x, h1, h2, h3, h4, h5⟩
  · omega
  · obtain ⟨a0, a1, a2, a3, n0, k0, n1, k1, n2, k2, n3, k3, g⟩ := h5 i hi
    exact ⟨x, a0, a1, a2, a3, n0, k0, n1, k1, n2, k2, n3, k3, h1, g⟩
/-- A host, as a value. -/
structure Hst where
  pol : Plc
  mem : List Int
  harts : List Ht
  slot : Int
  left : Int
  clock : Int
/-- A host that came in. -/
structure Oi (w : World) (a0 : Option Addr) (n0 c0 : Nat) (a1 : Option Addr) (n1 c1 : Nat) (a2 : Option Addr) (n2 c2 : Nat) (a3 : Option Addr) (n3 c3 : Nat) (a4 : Option Addr) (n4 c4 : Nat) (a5 : Option Addr) (n5 c5 : Nat) (X : Hst) : Prop where
  pol : Pin w a0 n0 c0 a1 n1 c1 a2 n2 c2 a3 n3 c3 X.pol
  mem : IsRow .i64 w a4 n4 c4 X.mem
  harts : IsHs w a5 n5 c5 X.harts
theorem Oi.stay {w w' : World} {a0 a1 a2 a3 a4 a5 : Option Addr} {n0 c0 n1 c1 n2 c2 n3 c3 n4 c4 n5 c5 : Nat} {X : Hst} (h : Oi w a0 n0 c0 a1 n1 c1 a2 n2 c2 a3 n3 c3 a4 n4 c4 a5 n5 c5 X) (b : Below w.heap.size w w') : Oi w' a0 n0 c0 a1 n1 c1 a2 n2 c2 a3 n3 c3 a4 n4 c4 a5 n5 c5 X :=
  ⟨h.pol.stay b, h.mem.stay b, h.harts.stay b⟩
end Go.Proofs.YtmgninipaigjfaaGreatDoor
namespace Go.Proofs.YtmgninipaigjfaaGreatDoor
open Go.RowKit
set_option linter.unusedVariables false

set_option maxRecDepth 20000 in
set_option maxHeartbeats 4000000 in
theorem eqr_hart (r c i o r' c' i' o' : Value) (H : Ht) (w : World) (h : Hr w r c i o H) (k : Hr w r' c' i' o' H) :
    Calls Tryz.prog 79 #[.agg #[r, .int .i64 H.pc, c, .bool H.halted, .bool H.waiting, .bool H.rung, .int .i64 H.done, i, o], .agg #[r', .int .i64 H.pc, c', .bool H.halted, .bool H.waiting, .bool H.rung, .int .i64 H.done, i', o']] w fun e w' => e = .returned (.bool true) ∧ Below w.heap.size w w' := by
  obtain ⟨a0, k0, rfl, _⟩ := h.r
  obtain ⟨a1, k1, rfl, _⟩ := h.c
  obtain ⟨a2, k2, rfl, _⟩ := h.i
  obtain ⟨a3, k3, rfl, _⟩ := h.o
  obtain ⟨x0, l0, rfl, _⟩ := k.r
  obtain ⟨x1, l1, rfl, _⟩ := k.c
  obtain ⟨x2, l2, rfl, _⟩ := k.i
  obtain ⟨x3, l3, rfl, _⟩ := k.o
  have HM : Hid (Hr w _ _ _ _ H) := h
  have KM : Hid (Hr w _ _ _ _ H) := k
  clear h k
  generalize H.regs.length = n0 at *
  generalize H.csr.length = n1 at *
  generalize H.inn.length = n2 at *
  generalize H.out.length = n3 at *
  generalize hW : (w.alloc (.cells #[.slice a0 n0 k0, .int .i64 H.pc, .slice a1 n1 k1, .bool H.halted, .bool H.waiting, .bool H.rung, .int .i64 H.done, .slice a2 n2 k2, .slice a3 n3 k3] 81)).alloc (.cells #[.slice x0 n0 l0, .int .i64 H.pc, .slice x1 n1 l1, .bool H.halted, .bool H.waiting, .bool H.rung, .int .i64 H.done, .slice x2 n2 l2, .slice x3 n3 l3] 81) = W
  have B0 : Hid (Below w.heap.size w W) := by show Below _ _ _; rw [← hW]; exact al (al (Below.refl _ _) _) _
  obtain ⟨s, hS⟩ : ∃ s, w.heap.size = s := ⟨_, rfl⟩
  have VA : Hid (Vb W s #[.slice a0 n0 k0, .int .i64 H.pc, .slice a1 n1 k1, .bool H.halted, .bool H.waiting, .bool H.rung, .int .i64 H.done, .slice a2 n2 k2, .slice a3 n3 k3] 81) := by
    show Vb _ _ _ _
    rw [← hW, ← hS]
    exact (Vb.new _ _ _).push _
  have VB : Hid (Vb W (s + 1) #[.slice x0 n0 l0, .int .i64 H.pc, .slice x1 n1 l1, .bool H.halted, .bool H.waiting, .bool H.rung, .int .i64 H.done, .slice x2 n2 l2, .slice x3 n3 l3] 81) := by
    show Vb _ _ _ _
    have z1 : s + 1 = (w.alloc (.cells #[.slice a0 n0 k0, .int .i64 H.pc, .slice a1 n1 k1, .bool H.halted, .bool H.waiting, .bool H.rung, .int .i64 H.done, .slice a2 n2 k2, .slice a3 n3 k3] 81)).heap.size := by rw [← hS]; simp
    rw [← hW, z1]
    exact Vb.new _ _ _
  have q0 := VA.out.cell 0 rfl
  have p0 := VB.out.cell 0 rfl
  go_enter Tryz.func79, Tryz.ntmps79
  go_wp2_with fail
  clear hW hS q0 p0
  refine (eq_rn _ _ _ _ (HM.out.stay B0.out).r (KM.out.stay B0.out).r).mono ?_
  rintro e w1 ⟨rfl, b1⟩
  have B1 : Hid (Below w.heap.size w w1) := on B0.out b1
  have VA1 : Hid (Vb w1 _ _ _) := VA.out.keep b1
  have VB1 : Hid (Vb w1 _ _ _) := VB.out.keep b1
  have q1 := VA1.out.cell 1 rfl
  have p1 := VB1.out.cell 1 rfl
  have q2 := VA1.out.cell 2 rfl
  have p2 := VB1.out.cell 2 rfl
  clear b1 VA VB B0
  go_wp2_with fail
  clear q1 p1 q2 p2
  refine (eq_rn _ _ _ _ (HM.out.stay B1.out).c (KM.out.stay B1.out).c).mono ?_
  rintro e w2 ⟨rfl, b1⟩
  have B2 : Hid (Below w.heap.size w w2) := on B1.out b1
  have VA2 : Hid (Vb w2 _ _ _) := VA1.out.keep b1
  have VB2 : Hid (Vb w2 _ _ _) := VB1.out.keep b1
  have q3 := VA2.out.cell 3 rfl
  have p3 := VB2.out.cell 3 rfl
  have q4 := VA2.out.cell 4 rfl
  have p4 := VB2.out.cell 4 rfl
  have q5 := VA2.out.cell 5 rfl
  have p5 := VB2.out.cell 5 rfl
  have q6 := VA2.out.cell 6 rfl
  have p6 := VB2.out.cell 6 rfl
  have q7 := VA2.out.cell 7 rfl
  have p7 := VB2.out.cell 7 rfl
  clear b1 VA1 VB1 B1
  go_wp2_with fail
  clear q3 p3 q4 p4 q5 p5 q6 p6 q7 p7
  refine (eq_rn _ _ _ _ (HM.out.stay B2.out).i (KM.out.stay B2.out).i).mono ?_
  rintro e w3 ⟨rfl, b1⟩
  have B3 : Hid (Below w.heap.size w w3) := on B2.out b1
  have q8 := (VA2.out.keep b1).cell 8 rfl
  have p8 := (VB2.out.keep b1).cell 8 rfl
  clear b1 VA2 VB2 B2
  go_wp2_with fail
  refine (eq_rn _ _ _ _ (HM.out.stay B3.out).o (KM.out.stay B3.out).o).mono ?_
  rintro e w4 ⟨rfl, b1⟩
  go_wp2_with fail
  go_ret
  exact ⟨rfl, on B3.out b1⟩

end Go.Proofs.YtmgninipaigjfaaGreatDoor
namespace Go.Proofs.YtmgninipaigjfaaGreatDoor
open Go.RowKit
set_option linter.unusedVariables false

theorem two {v : World} {q : Nat} {t : TypeId} {z0 z1 : Value} (h : Vb v q #[z0, z1] t) (u0 u1 : Value) :
    Vb ((v.setCell ⟨q, 0, none⟩ u0).setCell ⟨q, 1, none⟩ u1) q #[u0, u1] t ∧ Mq (fun k => k = q) v ((v.setCell ⟨q, 0, none⟩ u0).setCell ⟨q, 1, none⟩ u1) := by
  have h0 : Vb (v.setCell ⟨q, 0, none⟩ u0) q #[u0, z1] t := h.set 0 u0
  exact ⟨h0.set 1 u1, ((Mq.refl (fun k => k = q) v).set ⟨q, 0, none⟩ u0 rfl).set ⟨q, 1, none⟩ u1 rfl⟩
theorem void_hm (w : World) (base : Nat) : Hm w base (.slice none 0 0) (.slice none 0 0) (.slice none 0 0) (.slice none 0 0) voidH := ⟨Nums.nil _ _, Nums.nil _ _, Nums.nil _ _, Nums.nil _ _⟩
theorem void_ha : Ha (.slice none 0 0) (.slice none 0 0) (.slice none 0 0) (.slice none 0 0) := ⟨.inl rfl, .inl rfl, .inl rfl, .inl rfl, .inl rfl, .inl rfl⟩
end Go.Proofs.YtmgninipaigjfaaGreatDoor
namespace Go.Proofs.YtmgninipaigjfaaGreatDoor
open Go.RowKit
set_option linter.unusedVariables false

def newR (zs : List Int) : Int × Ht := if 40 < zs.length then (2, voidH) else (if zs.all isW then (0, newV zs) else (3, voidH))
/-- The cells of a new machine. -/
def mnw (a : Option Addr) (n k : Nat) : Array Value := #[.int .i64 0, .int .i64 0, .int .i64 0, .int .i64 0, .int .i64 0, .int .i64 0, .int .i64 0, .int .i64 0, .int .i64 0, .int .i64 0, .int .i64 0, .int .i64 0, .int .i64 0, .int .i64 0, .int .i64 0, .int .i64 0, .int .i64 0, .int .i64 0, .int .i64 0, .int .i64 0, .int .i64 0, .int .i64 0, .int .i64 0, .int .i64 0, .int .i64 0, .int .i64 0, .int .i64 0, .int .i64 0, .bool false, .bool false, .bool false, .int .i64 0, .slice a n k, .slice none 0 0]
theorem mnw_lit (a : Option Addr) (n k : Nat) : #[.int .i64 0, .int .i64 0, .int .i64 0, .int .i64 0, .int .i64 0, .int .i64 0, .int .i64 0, .int .i64 0, .int .i64 0, .int .i64 0, .int .i64 0, .int .i64 0, .int .i64 0, .int .i64 0, .int .i64 0, .int .i64 0, .int .i64 0, .int .i64 0, .int .i64 0, .int .i64 0, .int .i64 0, .int .i64 0, .int .i64 0, .int .i64 0, .int .i64 0, .int .i64 0, .int .i64 0, .int .i64 0, .bool false, .bool false, .bool false, .int .i64 0, .slice a n k, .slice none 0 0] = mnw a n k := rfl
theorem mnw_eq (zs : List Int) (a : Option Addr) (n k : Nat) : mnw a n k = mca (newV zs) (.slice a n k) (.slice none 0 0) := rfl
theorem mnw_size (a : Option Addr) (n k : Nat) : (mnw a n k).size = 34 := rfl
theorem mnw_store (a : Option Addr) (n k : Nat) (w : World) : (storeCells ⟨w.heap.size, 0, none⟩ (mnw a n k).toList 0).run Tryz.prog (w.alloc (.cells #[.int .i64 0, .int .i64 0, .int .i64 0, .int .i64 0, .int .i64 0, .int .i64 0, .int .i64 0, .int .i64 0, .int .i64 0, .int .i64 0, .int .i64 0, .int .i64 0, .int .i64 0, .int .i64 0, .int .i64 0, .int .i64 0, .int .i64 0, .int .i64 0, .int .i64 0, .int .i64 0, .int .i64 0, .int .i64 0, .int .i64 0, .int .i64 0, .int .i64 0, .int .i64 0, .int .i64 0, .int .i64 0, .bool false, .bool false, .bool false, .int .i64 0, .slice none 0 0, .slice none 0 0] 123)) = .ok () (w.alloc (.cells (mnw a n k) 123)) :=
  run_storeCells_new (P := Tryz.prog) w 123 #[.int .i64 0, .int .i64 0, .int .i64 0, .int .i64 0, .int .i64 0, .int .i64 0, .int .i64 0, .int .i64 0, .int .i64 0, .int .i64 0, .int .i64 0, .int .i64 0, .int .i64 0, .int .i64 0, .int .i64 0, .int .i64 0, .int .i64 0, .int .i64 0, .int .i64 0, .int .i64 0, .int .i64 0, .int .i64 0, .int .i64 0, .int .i64 0, .int .i64 0, .int .i64 0, .int .i64 0, .int .i64 0, .bool false, .bool false, .bool false, .int .i64 0, .slice none 0 0, .slice none 0 0] (mnw a n k) (by kernel_rfl) rfl (by simp [mnw, Value.oneCell'])

set_option maxRecDepth 20000 in
set_option maxHeartbeats 8000000 in
theorem i_newHart (v : Value) (zs : List Int) (b : Nat) (w : World) (h : Nums w b v zs) :
    Calls Tryz.prog 52 #[v] w fun e w' => ∃ r' c' i' o', e = .returned (.agg #[.int .i64 (newR zs).1, r', .int .i64 (newR zs).2.pc, c', .bool (newR zs).2.halted, .bool (newR zs).2.waiting, .bool (newR zs).2.rung, .int .i64 (newR zs).2.done, i', o']) ∧ Hm w' w.heap.size r' c' i' o' (newR zs).2 ∧ Ha r' c' i' o' ∧ Below w.heap.size w w' := by
  have HN : Hid (Nums w b v zs) := h
  obtain ⟨a, k, rfl, _⟩ := h.shape
  obtain ⟨n, hn⟩ : ∃ n, zs.length = n := ⟨_, rfl⟩
  have hl : (n : Int) ≤ 9223372036854775807 := by have := h.lens; unfold maxLen at this; omega
  rw [hn] at HN ⊢
  have HL : Hid (zs.length = n) := hn
  clear h hn
  generalize hW : w.alloc (.cells #[.int .i64 0, .slice none 0 0, .int .i64 0, .slice none 0 0, .bool false, .bool false, .bool false, .int .i64 0, .slice none 0 0, .slice none 0 0] 83) = W
  have B0 : Hid (Below w.heap.size w W) := by show Below _ _ _; rw [← hW]; exact al (Below.refl _ _) _
  obtain ⟨s, hS⟩ : ∃ s, w.heap.size = s := ⟨_, rfl⟩
  have HS : Hid (w.heap.size = s) := hS
  have VR : Hid (Vb W s #[.int .i64 0, .slice none 0 0, .int .i64 0, .slice none 0 0, .bool false, .bool false, .bool false, .int .i64 0, .slice none 0 0, .slice none 0 0] 83) := by
    show Vb _ _ _ _; rw [← hW, ← hS]; exact Vb.new _ _ _
  by_cases h40 : 40 < n
  · have hI : (40 : Int) < (n : Int) := by omega
    have HE1 : Hid ((newR zs).1 = 2) := by show _ = _; unfold newR; rw [HL.out, if_pos h40]
    have HE2 : Hid ((newR zs).2 = voidH) := by show _ = _; unfold newR; rw [HL.out, if_pos h40]
    have p0 := VR.out.cell 0 rfl
    have f0 := VR.out.free 0
    have p1 := VR.out.cell 1 rfl
    have f1 := VR.out.free 1
    have p2 := VR.out.cell 2 rfl
    have f2 := VR.out.free 2
    have p3 := VR.out.cell 3 rfl
    have f3 := VR.out.free 3
    have p4 := VR.out.cell 4 rfl
    have f4 := VR.out.free 4
    have p5 := VR.out.cell 5 rfl
    have f5 := VR.out.free 5
    have p6 := VR.out.cell 6 rfl
    have f6 := VR.out.free 6
    have p7 := VR.out.cell 7 rfl
    have f7 := VR.out.free 7
    have p8 := VR.out.cell 8 rfl
    have f8 := VR.out.free 8
    have p9 := VR.out.cell 9 rfl
    have f9 := VR.out.free 9
    go_enter Tryz.func52, Tryz.ntmps52
    go_wp2_with fail
    clear hW hS
    have NN : Hid (_ ∧ _) := ten VR.out (.int .i64 2) (.slice none 0 0) (.int .i64 0) (.slice none 0 0) (.bool false) (.bool false) (.bool false) (.int .i64 0) (.slice none 0 0) (.slice none 0 0)
    clear p0 f0 p1 f1 p2 f2 p3 f3 p4 f4 p5 f5 p6 f6 p7 f7 p8 f8 p9 f9
    generalize ((((((((((W.setCell ⟨s, 0, none⟩ (.int .i64 2)).setCell ⟨s, 1, none⟩ (.slice none 0 0)).setCell ⟨s, 2, none⟩ (.int .i64 0)).setCell ⟨s, 3, none⟩ (.slice none 0 0)).setCell ⟨s, 4, none⟩ (.bool false)).setCell ⟨s, 5, none⟩ (.bool false)).setCell ⟨s, 6, none⟩ (.bool false)).setCell ⟨s, 7, none⟩ (.int .i64 0)).setCell ⟨s, 8, none⟩ (.slice none 0 0)).setCell ⟨s, 9, none⟩ (.slice none 0 0)) = V at *
    have x0 := NN.out.1.cell 0 rfl
    have x1 := NN.out.1.cell 1 rfl
    have x2 := NN.out.1.cell 2 rfl
    have x3 := NN.out.1.cell 3 rfl
    have x4 := NN.out.1.cell 4 rfl
    have x5 := NN.out.1.cell 5 rfl
    have x6 := NN.out.1.cell 6 rfl
    have x7 := NN.out.1.cell 7 rfl
    have x8 := NN.out.1.cell 8 rfl
    have x9 := NN.out.1.cell 9 rfl
    have BV : Below w.heap.size w V := Mq.under B0.out NN.out.2 fun k e => by have := HS.out; omega
    have MV := NN.out.2
    refine bodyPost_ret (v := .agg #[.int .i64 2, .slice none 0 0, .int .i64 0, .slice none 0 0, .bool false, .bool false, .bool false, .int .i64 0, .slice none 0 0, .slice none 0 0]) (by simp [results, Tryz.results52, go_sem, x0, x1, x2, x3, x4, x5, x6, x7, x8, x9]) rfl ?_
    rw [HE1.out, HE2.out]
    exact ⟨_, _, _, _, rfl, void_hm _ _, void_ha, BV⟩
  have hI : ¬ (40 : Int) < (n : Int) := by omega
  cases hw : zs.all isW
  · have HW : Hid (zs.all isW = false) := hw
    have HE1 : Hid ((newR zs).1 = 3) := by show _ = _; unfold newR; rw [HL.out, if_neg h40, hw]; rfl
    have HE2 : Hid ((newR zs).2 = voidH) := by show _ = _; unfold newR; rw [HL.out, if_neg h40, hw]; rfl
    have p0 := VR.out.cell 0 rfl
    have f0 := VR.out.free 0
    have p1 := VR.out.cell 1 rfl
    have f1 := VR.out.free 1
    have p2 := VR.out.cell 2 rfl
    have f2 := VR.out.free 2
    have p3 := VR.out.cell 3 rfl
    have f3 := VR.out.free 3
    have p4 := VR.out.cell 4 rfl
    have f4 := VR.out.free 4
    have p5 := VR.out.cell 5 rfl
    have f5 := VR.out.free 5
    have p6 := VR.out.cell 6 rfl
    have f6 := VR.out.free 6
    have p7 := VR.out.cell 7 rfl
    have f7 := VR.out.free 7
    have p8 := VR.out.cell 8 rfl
    have f8 := VR.out.free 8
    have p9 := VR.out.cell 9 rfl
    have f9 := VR.out.free 9
    go_enter Tryz.func52, Tryz.ntmps52
    go_wp2_with (go_at_call 75; refine (i_words a n k zs _ (HN.out.rn.stay B0.out)).mono ?_; rintro e y ⟨rfl, hy⟩; rw [hy]; clear hy y; rw [hw])
    clear hW hS
    have NN : Hid (_ ∧ _) := ten VR.out (.int .i64 3) (.slice none 0 0) (.int .i64 0) (.slice none 0 0) (.bool false) (.bool false) (.bool false) (.int .i64 0) (.slice none 0 0) (.slice none 0 0)
    clear p0 f0 p1 f1 p2 f2 p3 f3 p4 f4 p5 f5 p6 f6 p7 f7 p8 f8 p9 f9
    generalize ((((((((((W.setCell ⟨s, 0, none⟩ (.int .i64 3)).setCell ⟨s, 1, none⟩ (.slice none 0 0)).setCell ⟨s, 2, none⟩ (.int .i64 0)).setCell ⟨s, 3, none⟩ (.slice none 0 0)).setCell ⟨s, 4, none⟩ (.bool false)).setCell ⟨s, 5, none⟩ (.bool false)).setCell ⟨s, 6, none⟩ (.bool false)).setCell ⟨s, 7, none⟩ (.int .i64 0)).setCell ⟨s, 8, none⟩ (.slice none 0 0)).setCell ⟨s, 9, none⟩ (.slice none 0 0)) = V at *
    have x0 := NN.out.1.cell 0 rfl
    have x1 := NN.out.1.cell 1 rfl
    have x2 := NN.out.1.cell 2 rfl
    have x3 := NN.out.1.cell 3 rfl
    have x4 := NN.out.1.cell 4 rfl
    have x5 := NN.out.1.cell 5 rfl
    have x6 := NN.out.1.cell 6 rfl
    have x7 := NN.out.1.cell 7 rfl
    have x8 := NN.out.1.cell 8 rfl
    have x9 := NN.out.1.cell 9 rfl
    have BV : Below w.heap.size w V := Mq.under B0.out NN.out.2 fun k e => by have := HS.out; omega
    have MV := NN.out.2
    refine bodyPost_ret (v := .agg #[.int .i64 3, .slice none 0 0, .int .i64 0, .slice none 0 0, .bool false, .bool false, .bool false, .int .i64 0, .slice none 0 0, .slice none 0 0]) (by simp [results, Tryz.results52, go_sem, x0, x1, x2, x3, x4, x5, x6, x7, x8, x9]) rfl ?_
    rw [HE1.out, HE2.out]
    exact ⟨_, _, _, _, rfl, void_hm _ _, void_ha, BV⟩
  have HE1 : Hid ((newR zs).1 = 0) := by show _ = _; unfold newR; rw [HL.out, if_neg h40, hw]; rfl
  have HE2 : Hid ((newR zs).2 = newV zs) := by show _ = _; unfold newR; rw [HL.out, if_neg h40, hw]; rfl
  have H40 : Hid (n ≤ 40) := by show _ ≤ _; omega
  have hst := mnw_store a n k W
  go_enter Tryz.func52, Tryz.ntmps52
  go_upto_region 5 with (go_at_call 75; refine (i_words a n k zs _ (HN.out.rn.stay B0.out)).mono ?_; rintro e y ⟨rfl, hy⟩; rw [hy]; clear hy y; rw [hw])
  clear hW hS
  go_step
  go_step
  go_step
  go_step
  go_step
  go_step
  rw [mnw_lit]
  have hsz := mnw_size a n k
  go_wp2_with fail
  generalize hW3 : W.alloc (.cells (mnw a n k) 123) = W3
  obtain ⟨m, hm⟩ : ∃ m, W.heap.size = m := ⟨_, rfl⟩
  have HMm : Hid (W.heap.size = m) := hm
  rw [hm]
  have V3 : Hid (Vb W3 m (mca (newV zs) (.slice a n k) (.slice none 0 0)) 123) := by show Vb _ _ _ _; rw [← hW3, ← hm, ← mnw_eq zs]; exact Vb.new _ _ _
  have B3 : Hid (Below w.heap.size w W3) := by show Below _ _ _; rw [← hW3]; exact al B0.out _
  have VR3 : Hid (Vb W3 s #[.int .i64 0, .slice none 0 0, .int .i64 0, .slice none 0 0, .bool false, .bool false, .bool false, .int .i64 0, .slice none 0 0, .slice none 0 0] 83) := by show Vb _ _ _ _; rw [← hW3]; exact VR.out.push _
  have MI3 : Hid (Nums W3 b (.slice a n k) zs) := by show Nums _ _ _ _; rw [← hW3]; exact (HN.out.keep B0.out).keep (al (Below.refl _ _) _)
  clear hst hsz hW3 hm
  obtain ⟨G, hG⟩ : ∃ G, newV zs = G := ⟨_, rfl⟩
  have HE3 : Hid ((newR zs).2 = G) := HE2.out.trans hG
  have LG : Hid (G.regs.length = 16 ∧ G.csr.length = 11 ∧ G.inn.length ≤ 1000 ∧ G.out.length ≤ 1000) := by
    have k1 := H40.out; have k2 := HL.out
    rw [← hG]
    refine ⟨rfl, rfl, ?_, Nat.zero_le _⟩
    show zs.length ≤ 1000
    omega
  have V4 : Hid (Vb W3 m (mca G (.slice a n k) (.slice none 0 0)) 123) := by show Vb _ _ _ _; rw [← hG]; exact V3.out
  have MI4 : Hid (Nums W3 b (.slice a n k) G.inn) := by show Nums _ _ _ _; rw [← hG]; exact MI3.out
  have MO4 : Hid (Nums W3 b (.slice none 0 0) G.out) := by show Nums _ _ _ _; rw [← hG]; exact Nums.nil _ _
  clear hG
  refine (i_hart m _ _ G _ _ V4.out MI4.out MO4.out LG.out.1 LG.out.2.1 LG.out.2.2.1 LG.out.2.2.2).mono ?_
  rintro e w5 ⟨r5, c5, i5, o5, rfl, m5, A5, b5⟩
  obtain ⟨ja0, jk0, rfl, _⟩ := m5.r.shape
  obtain ⟨ja1, jk1, rfl, _⟩ := m5.c.shape
  obtain ⟨ja2, jk2, rfl, _⟩ := m5.i.shape
  obtain ⟨ja3, jk3, rfl, _⟩ := m5.o.shape
  generalize G.regs.length = g0 at *
  generalize G.csr.length = g1 at *
  generalize G.inn.length = g2 at *
  generalize G.out.length = g3 at *
  have M5 : Hid (Hm w5 W3.heap.size (.slice ja0 g0 jk0) (.slice ja1 g1 jk1) (.slice ja2 g2 jk2) (.slice ja3 g3 jk3) G) := m5
  have HA5 : Hid (Ha (.slice ja0 g0 jk0) (.slice ja1 g1 jk1) (.slice ja2 g2 jk2) (.slice ja3 g3 jk3)) := A5
  have B5 : Hid (Below w.heap.size w w5) := on B3.out b5
  have VR5 : Hid (Vb w5 s #[.int .i64 0, .slice none 0 0, .int .i64 0, .slice none 0 0, .bool false, .bool false, .bool false, .int .i64 0, .slice none 0 0, .slice none 0 0] 83) := VR3.out.keep b5
  have LQ : Hid (s < W3.heap.size) := VR3.out.lt
  clear m5 A5 b5
  have p0 := VR5.out.cell 0 rfl
  have f0 := VR5.out.free 0
  have p1 := VR5.out.cell 1 rfl
  have f1 := VR5.out.free 1
  have p2 := VR5.out.cell 2 rfl
  have f2 := VR5.out.free 2
  have p3 := VR5.out.cell 3 rfl
  have f3 := VR5.out.free 3
  have p4 := VR5.out.cell 4 rfl
  have f4 := VR5.out.free 4
  have p5 := VR5.out.cell 5 rfl
  have f5 := VR5.out.free 5
  have p6 := VR5.out.cell 6 rfl
  have f6 := VR5.out.free 6
  have p7 := VR5.out.cell 7 rfl
  have f7 := VR5.out.free 7
  have p8 := VR5.out.cell 8 rfl
  have f8 := VR5.out.free 8
  have p9 := VR5.out.cell 9 rfl
  have f9 := VR5.out.free 9
  go_wp2_with fail
  have NN : Hid (_ ∧ _) := ten VR5.out (.int .i64 0) (.slice ja0 g0 jk0) (.int .i64 G.pc) (.slice ja1 g1 jk1) (.bool G.halted) (.bool G.waiting) (.bool G.rung) (.int .i64 G.done) (.slice ja2 g2 jk2) (.slice ja3 g3 jk3)
  clear p0 f0 p1 f1 p2 f2 p3 f3 p4 f4 p5 f5 p6 f6 p7 f7 p8 f8 p9 f9
  generalize ((((((((((w5.setCell ⟨s, 0, none⟩ (.int .i64 0)).setCell ⟨s, 1, none⟩ (.slice ja0 g0 jk0)).setCell ⟨s, 2, none⟩ (.int .i64 G.pc)).setCell ⟨s, 3, none⟩ (.slice ja1 g1 jk1)).setCell ⟨s, 4, none⟩ (.bool G.halted)).setCell ⟨s, 5, none⟩ (.bool G.waiting)).setCell ⟨s, 6, none⟩ (.bool G.rung)).setCell ⟨s, 7, none⟩ (.int .i64 G.done)).setCell ⟨s, 8, none⟩ (.slice ja2 g2 jk2)).setCell ⟨s, 9, none⟩ (.slice ja3 g3 jk3)) = V at *
  have x0 := NN.out.1.cell 0 rfl
  have x1 := NN.out.1.cell 1 rfl
  have x2 := NN.out.1.cell 2 rfl
  have x3 := NN.out.1.cell 3 rfl
  have x4 := NN.out.1.cell 4 rfl
  have x5 := NN.out.1.cell 5 rfl
  have x6 := NN.out.1.cell 6 rfl
  have x7 := NN.out.1.cell 7 rfl
  have x8 := NN.out.1.cell 8 rfl
  have x9 := NN.out.1.cell 9 rfl
  have BV : Below w.heap.size w V := Mq.under B5.out NN.out.2 fun k e => by have := HS.out; omega
  have MV := NN.out.2
  refine bodyPost_ret (v := .agg #[.int .i64 0, .slice ja0 g0 jk0, .int .i64 G.pc, .slice ja1 g1 jk1, .bool G.halted, .bool G.waiting, .bool G.rung, .int .i64 G.done, .slice ja2 g2 jk2, .slice ja3 g3 jk3]) (by simp [results, Tryz.results52, go_sem, x0, x1, x2, x3, x4, x5, x6, x7, x8, x9]) rfl ?_
  rw [HE1.out, HE3.out]
  exact ⟨_, _, _, _, rfl, ((MV.hm M5.out fun k e f => by have := (M5.out.own k e).1; have := LQ.out; omega).mono B3.out.size), HA5.out, BV⟩

end Go.Proofs.YtmgninipaigjfaaGreatDoor
