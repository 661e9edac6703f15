/- A view that comes in, opened. -/
import Derived.Test.YtcneipilhlcfkaaDoorSop
namespace Go.Proofs.YtcneipilhlcfkaaDoor
open Go.RowKit Go.ChangeShapes Go.WideShapes Go.ChangeAt
set_option linter.unusedVariables false

theorem view_open {K : Type} {enc : TypeId × Value → K} {P : Program} {w : World} {base : Nat} {held : Bool} {r : Reach} {b0 : Nat} {t : TypeId} {s0 s1 s2 f0 f1 f2 f3 f4 f5 f6 f7 f8 : Field} {v : Value} {d : DataW K} {p : List MemPlace} {e0 e2 e7 e8 ep em : TypeId}
    (ht : P.underlying t = some (.struct #[s0, s1, s2])) (hC : P.cellsOf t = 11) (q0 : s0.offset = 0) (q1 : s1.offset = 9) (q2 : s2.offset = 10) (j0 : P.cellsOf s0.type = 9) (j1 : P.cellsOf s1.type = 1) (j2 : P.cellsOf s2.type = 1)
    (hs : P.underlying s0.type = some (.struct #[f0, f1, f2, f3, f4, f5, f6, f7, f8])) (hone : Go.Deep.oneCellFields P #[f0, f1, f2, f3, f4, f5, f6, f7, f8] = true)
    (u0 : P.underlying f0.type = some (.slice e0)) (u1 : P.underlying f1.type = some (.int .i64)) (u2 : P.underlying f2.type = some (.slice e2)) (u3 : P.underlying f3.type = some .bool) (u4 : P.underlying f4.type = some .bool) (u5 : P.underlying f5.type = some .bool)
    (u6 : P.underlying f6.type = some (.int .i64)) (u7 : P.underlying f7.type = some (.slice e7)) (u8 : P.underlying f8.type = some (.slice e8))
    (i0 : P.underlying e0 = some (.int .i64)) (i2 : P.underlying e2 = some (.int .i64)) (i7 : P.underlying e7 = some (.int .i64)) (i8 : P.underlying e8 = some (.int .i64))
    (c0 : P.cellsOf e0 = 1) (c2 : P.cellsOf e2 = 1) (c7 : P.cellsOf e7 = 1) (c8 : P.cellsOf e8 = 1)
    (up : P.underlying s1.type = some (.slice ep)) (ip : P.underlying ep = some (.int .i64)) (cp : P.cellsOf ep = 1)
    (um : P.underlying s2.type = some (.slice em)) (im : P.underlying em = some (.int .i64)) (cm : P.cellsOf em = 1)
    (hv : Value.okWide P w r b0 t v) (h : DataW.Trod enc P w base (fun _ => true) held t v d p) :
    ∃ (a0 a1 a2 a3 : Option Addr) (n0 k0 n1 k1 n2 k2 n3 k3 : Nat) (H : Ht) (la : Option Addr) (ln lc : Nat) (ps : List Int) (ma : Option Addr) (mn mc : Nat) (zs : List Int), v = .agg #[.slice a0 n0 k0, .int .i64 H.pc, .slice a1 n1 k1, .bool H.halted, .bool H.waiting, .bool H.rung, .int .i64 H.done, .slice a2 n2 k2, .slice a3 n3 k3, .slice la ln lc, .slice ma mn mc] ∧
      Hin w a0 n0 k0 a1 n1 k1 a2 n2 k2 a3 n3 k3 H ∧ IsRow .i64 w la ln lc ps ∧ IsRow .i64 w ma mn mc zs := by
  obtain ⟨cs, rfl, hsz⟩ := okWide_struct ht hv
  obtain ⟨l⟩ := cs
  obtain ⟨v0, v1, v2, v3, v4, v5, v6, v7, v8, v9, v10, rfl⟩ := list11 (show l.length = 11 from (by simpa using hsz.trans hC))
  obtain ⟨fuel, hf⟩ := h
  obtain ⟨xs, n, _, hx, hl, hlen, hg⟩ := DataW.trod_struct ht hf
  have h3 : xs.length = 3 := by simpa using hlen
  obtain ⟨z0, z1, z2, rfl⟩ : ∃ a b c, xs = [a, b, c] := by
    match xs, h3 with
    | [a, b, c], _ => exact ⟨a, b, c, rfl⟩
  have G0 := hg 0 s0 rfl
  have G1 := hg 1 s1 rfl
  have G2 := hg 2 s2 rfl
  simp [Value.cells, q0, j0] at G0
  simp [Value.cells, q1, j1] at G1
  simp [Value.cells, q2, j2] at G2
  obtain ⟨la, ln, lc, ps, rfl, hps⟩ := rn_open up ip cp G1
  obtain ⟨a0, a1, a2, a3, n0, k0, n1, k1, n2, k2, n3, k3, H, e, hin⟩ := hart_trod hs hone u0 u1 u2 u3 u4 u5 u6 u7 u8 i0 i2 i7 i8 c0 c2 c7 c8 G0
  obtain ⟨ma, mn, mc, zs, rfl, hzs⟩ := rn_open um im cm G2
  simp at e
  obtain ⟨rfl, rfl, rfl, rfl, rfl, rfl, rfl, rfl, rfl⟩ := e
  exact ⟨a0, a1, a2, a3, n0, _, n1, _, n2, _, n3, _, H, la, ln, lc, ps, ma, mn, mc, zs, rfl, hin, hps, hzs⟩
end Go.Proofs.YtcneipilhlcfkaaDoor
