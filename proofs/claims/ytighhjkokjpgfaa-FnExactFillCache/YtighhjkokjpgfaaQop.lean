/- A slice of structs of four int64 that comes in. -/
import Derived.Test.YtighhjkokjpgfaaQuads
import Derived.Deep.Slices
import Derived.ChangeSame
namespace Go.Proofs.Ytighhjkokjpgfaa
open Go.RowKit Go.ChangeShapes Go.WideShapes
set_option linter.unusedVariables false

theorem quads_open {H : Type} {enc : TypeId × Value → H} {P : Program} {w : World} {base : Nat} {spare : Nat → Bool} {held : Bool} {t e : TypeId} {f0 f1 f2 f3 : Field} {fuel : Nat} {cs : List Value} {x : DataW H × List MemPlace}
    (ht : P.underlying t = some (.slice e)) (he : P.underlying e = some (.struct #[f0, f1, f2, f3])) (ce : P.cellsOf e = 4) (o0 : f0.offset = 0) (o1 : f1.offset = 1) (o2 : f2.offset = 2) (o3 : f3.offset = 3)
    (u0 : P.underlying f0.type = some (.int .i64)) (u1 : P.underlying f1.type = some (.int .i64)) (u2 : P.underlying f2.type = some (.int .i64)) (u3 : P.underlying f3.type = some (.int .i64))
    (c0 : P.cellsOf f0.type = 1) (c1 : P.cellsOf f1.type = 1) (c2 : P.cellsOf f2.type = 1) (c3 : P.cellsOf f3.type = 1)
    (h : DataW.trod enc P w base spare held fuel t cs = some x) :
    cs = [.slice none 0 0] ∨ ∃ a len cap rs, cs = [.slice (some a) len cap] ∧ IsQuads w (some a) len cap rs := by
  rcases Go.Deep.open_slice ht h with h0 | ⟨a, len, cap, m, n, D, Pl, rfl, hb, hl, hm, hmm, rfl, hx⟩
  · exact .inl h0.1
  right
  have hlm : len ≤ m := by rw [hmm]; split <;> omega
  have each : ∀ i, i < len → ∃ q : Qd, w.cell? (a.add (i * 4)) = some (.int .i64 q.tag) ∧ w.cell? (a.add (i * 4 + 1)) = some (.int .i64 q.page) ∧ w.cell? (a.add (i * 4 + 2)) = some (.int .i64 q.to) ∧ w.cell? (a.add (i * 4 + 3)) = some (.int .i64 q.kinds) := by
    intro i hi
    obtain ⟨cs', h1, h2⟩ := hx i (by omega)
    rw [ce] at h1
    obtain ⟨_, hlen, hcell⟩ := World.cells?_some h1
    obtain ⟨xs, k, hk, hxy, _, hxl, hf⟩ := DataW.trod_struct he h2
    match xs, hxl, cs', hlen with
    | [y0, y1, y2, y3], _, [v0, v1, v2, v3], _ =>
      have g0 := hf 0 f0 rfl
      have g1 := hf 1 f1 rfl
      have g2 := hf 2 f2 rfl
      have g3 := hf 3 f3 rfl
      simp [o0, o1, o2, o3, c0, c1, c2, c3] at g0 g1 g2 g3
      have e0 := hcell 0 (by omega)
      have e1 := hcell 1 (by omega)
      have e2 := hcell 2 (by omega)
      have e3 := hcell 3 (by omega)
      rw [Go.Deep.add_add] at e0 e1 e2 e3
      obtain ⟨b0, z0, _, _⟩ := DataW.trod_int u0 g0
      obtain ⟨b1, z1, _, _⟩ := DataW.trod_int u1 g1
      obtain ⟨b2, z2, _, _⟩ := DataW.trod_int u2 g2
      obtain ⟨b3, z3, _, _⟩ := DataW.trod_int u3 g3
      have q0 : v0 = .int .i64 b0 := by simpa using z0
      have q1 : v1 = .int .i64 b1 := by simpa using z1
      have q2 : v2 = .int .i64 b2 := by simpa using z2
      have q3 : v3 = .int .i64 b3 := by simpa using z3
      subst q0 q1 q2 q3
      exact ⟨⟨b0, b1, b2, b3⟩, by simpa using e0, by simpa using e1, by simpa using e2, by simpa using e3⟩
  refine ⟨a, len, cap, (List.range len).map fun i => if h : i < len then Classical.choose (each i h) else qz, rfl, .inr ⟨a, rfl, hl, hm, by simp, fun i hi => ?_⟩⟩
  have e : ((List.range len).map fun i => if h : i < len then Classical.choose (each i h) else qz).getD i qz = Classical.choose (each i hi) := by
    simp [List.getD, hi]
  rw [e]
  exact Classical.choose_spec (each i hi)
end Go.Proofs.Ytighhjkokjpgfaa
