/- A machine that comes in, opened. -/
import Derived.Test.YtijajemalokgjaaHnm
import Derived.Test.YtijajemalokgjaaHrv
import Derived.Lib.SmallJoins
namespace Go.Proofs.Ytijajemalokgjaa
open Go.RowKit Go.ChangeShapes Go.WideShapes Go.ChangeAt
set_option linter.unusedVariables false

theorem list9 {α : Type} {l : List α} (h : l.length = 9) : ∃ a0 a1 a2 a3 a4 a5 a6 a7 a8, l = [a0, a1, a2, a3, a4, a5, a6, a7, a8] := by
  match l, h with
  | [a0, a1, a2, a3, a4, a5, a6, a7, a8], _ => exact ⟨a0, a1, a2, a3, a4, a5, a6, a7, a8, rfl⟩
theorem rn_open {H : Type} {enc : TypeId × Value → H} {P : Program} {w : World} {base : Nat} {held : Bool} {t e : TypeId} {fuel : Nat} {v : Value} {x : DataW H × List MemPlace}
    (ht : P.underlying t = some (.slice e)) (he : P.underlying e = some (.int .i64)) (ce : P.cellsOf e = 1)
    (h : DataW.trod enc P w base (fun _ => true) held fuel t [v] = some x) : ∃ a len cap zs, v = .slice a len cap ∧ IsRow .i64 w a len cap zs := by
  rcases open_ints ht he ce h with ⟨hcs, _⟩ | ⟨y, l, c, zs, hcs, _, hl, hm, hz, _, hcell, hwz⟩
  · simp at hcs
    exact ⟨none, 0, 0, [], hcs, .inl ⟨rfl, rfl, rfl, rfl⟩⟩
  · simp at hcs
    exact ⟨some y, l, c, _, hcs, IsRow.of_all hl hm (by simpa using hz) hcell hwz⟩
theorem bool_open {H : Type} {enc : TypeId × Value → H} {P : Program} {w : World} {base : Nat} {spare : Nat → Bool} {held : Bool} {t : TypeId} {fuel : Nat} {v : Value} {x : DataW H × List MemPlace}
    (ht : P.underlying t = some .bool) (h : DataW.trod enc P w base spare held fuel t [v] = some x) : ∃ b, v = .bool b := by
  obtain ⟨b, q, _⟩ := DataW.trod_bool ht h
  exact ⟨b, by simpa using q⟩
/-- A machine that came in. -/
structure Hin (w : World) (a0 : Option Addr) (n0 c0 : Nat) (a1 : Option Addr) (n1 c1 : Nat) (a2 : Option Addr) (n2 c2 : Nat) (a3 : Option Addr) (n3 c3 : Nat) (H : Ht) : Prop where
  regs : IsRow .i64 w a0 n0 c0 H.regs
  csr : IsRow .i64 w a1 n1 c1 H.csr
  inn : IsRow .i64 w a2 n2 c2 H.inn
  out : IsRow .i64 w a3 n3 c3 H.out
theorem Hin.stay {w w' : World} {a0 a1 a2 a3 : Option Addr} {n0 c0 n1 c1 n2 c2 n3 c3 : Nat} {H : Ht} (h : Hin w a0 n0 c0 a1 n1 c1 a2 n2 c2 a3 n3 c3 H) (b : Below w.heap.size w w') : Hin w' a0 n0 c0 a1 n1 c1 a2 n2 c2 a3 n3 c3 H :=
  ⟨h.regs.stay b, h.csr.stay b, h.inn.stay b, h.out.stay b⟩
theorem hart_open {K : Type} {enc : TypeId × Value → K} {P : Program} {w : World} {base : Nat} {held : Bool} {r : Reach} {b0 : Nat} {t : TypeId} {f0 f1 f2 f3 f4 f5 f6 f7 f8 : Field} {v : Value} {d : DataW K} {p : List MemPlace} {e0 e2 e7 e8 : TypeId}
    (hs : P.underlying t = some (.struct #[f0, f1, f2, f3, f4, f5, f6, f7, f8])) (hone : Go.Deep.oneCellFields P #[f0, f1, f2, f3, f4, f5, f6, f7, f8] = true) (hC : P.cellsOf t = 9)
    (u0 : P.underlying f0.type = some (.slice e0)) (u1 : P.underlying f1.type = some (.int .i64)) (u2 : P.underlying f2.type = some (.slice e2)) (u3 : P.underlying f3.type = some .bool) (u4 : P.underlying f4.type = some .bool) (u5 : P.underlying f5.type = some .bool)
    (u6 : P.underlying f6.type = some (.int .i64)) (u7 : P.underlying f7.type = some (.slice e7)) (u8 : P.underlying f8.type = some (.slice e8))
    (i0 : P.underlying e0 = some (.int .i64)) (i2 : P.underlying e2 = some (.int .i64)) (i7 : P.underlying e7 = some (.int .i64)) (i8 : P.underlying e8 = some (.int .i64))
    (c0 : P.cellsOf e0 = 1) (c2 : P.cellsOf e2 = 1) (c7 : P.cellsOf e7 = 1) (c8 : P.cellsOf e8 = 1)
    (hv : Value.okWide P w r b0 t v) (h : DataW.Trod enc P w base (fun _ => true) held t v d p) :
    ∃ (a0 a1 a2 a3 : Option Addr) (n0 k0 n1 k1 n2 k2 n3 k3 : Nat) (H : Ht), v = .agg #[.slice a0 n0 k0, .int .i64 H.pc, .slice a1 n1 k1, .bool H.halted, .bool H.waiting, .bool H.rung, .int .i64 H.done, .slice a2 n2 k2, .slice a3 n3 k3] ∧
      Hin w a0 n0 k0 a1 n1 k1 a2 n2 k2 a3 n3 k3 H := by
  obtain ⟨cs, rfl, hsz⟩ := okWide_struct hs hv
  obtain ⟨l⟩ := cs
  obtain ⟨v0, v1, v2, v3, v4, v5, v6, v7, v8, rfl⟩ := list9 (show l.length = 9 from (by simpa using hsz.trans hC))
  obtain ⟨fuel, hf⟩ := h
  obtain ⟨xs, n, _, hx, hl, hlen, hg⟩ := DataW.trod_struct hs hf
  obtain ⟨y0, y1, y2, y3, y4, y5, y6, y7, y8, rfl⟩ := list9 (show xs.length = 9 from (by simpa using hlen))
  have g0 := hg 0 f0 rfl
  have g1 := hg 1 f1 rfl
  have g2 := hg 2 f2 rfl
  have g3 := hg 3 f3 rfl
  have g4 := hg 4 f4 rfl
  have g5 := hg 5 f5 rfl
  have g6 := hg 6 f6 rfl
  have g7 := hg 7 f7 rfl
  have g8 := hg 8 f8 rfl
  obtain ⟨o0, q0⟩ := Go.Deep.hone_of hone 0 f0 rfl
  obtain ⟨o1, q1⟩ := Go.Deep.hone_of hone 1 f1 rfl
  obtain ⟨o2, q2⟩ := Go.Deep.hone_of hone 2 f2 rfl
  obtain ⟨o3, q3⟩ := Go.Deep.hone_of hone 3 f3 rfl
  obtain ⟨o4, q4⟩ := Go.Deep.hone_of hone 4 f4 rfl
  obtain ⟨o5, q5⟩ := Go.Deep.hone_of hone 5 f5 rfl
  obtain ⟨o6, q6⟩ := Go.Deep.hone_of hone 6 f6 rfl
  obtain ⟨o7, q7⟩ := Go.Deep.hone_of hone 7 f7 rfl
  obtain ⟨o8, q8⟩ := Go.Deep.hone_of hone 8 f8 rfl
  simp [Value.cells, o0, q0] at g0
  simp [Value.cells, o1, q1] at g1
  simp [Value.cells, o2, q2] at g2
  simp [Value.cells, o3, q3] at g3
  simp [Value.cells, o4, q4] at g4
  simp [Value.cells, o5, q5] at g5
  simp [Value.cells, o6, q6] at g6
  simp [Value.cells, o7, q7] at g7
  simp [Value.cells, o8, q8] at g8
  obtain ⟨a0, n0, k0, z0, rfl, w0⟩ := rn_open u0 i0 c0 g0
  obtain ⟨a1, n1, k1, z1, rfl, w1⟩ := rn_open u2 i2 c2 g2
  obtain ⟨a2, n2, k2, z2, rfl, w2⟩ := rn_open u7 i7 c7 g7
  obtain ⟨a3, n3, k3, z3, rfl, w3⟩ := rn_open u8 i8 c8 g8
  obtain ⟨pc, p1, _, _⟩ := DataW.trod_int u1 g1
  obtain ⟨dn, p6, _, _⟩ := DataW.trod_int u6 g6
  obtain ⟨b3, rfl⟩ := bool_open u3 g3
  obtain ⟨b4, rfl⟩ := bool_open u4 g4
  obtain ⟨b5, rfl⟩ := bool_open u5 g5
  simp at p1 p6
  subst p1 p6
  exact ⟨a0, a1, a2, a3, n0, k0, n1, k1, n2, k2, n3, k3, ⟨z0, pc, z1, b3, b4, b5, dn, z2, z3⟩, rfl, ⟨w0, w1, w2, w3⟩⟩
end Go.Proofs.Ytijajemalokgjaa
