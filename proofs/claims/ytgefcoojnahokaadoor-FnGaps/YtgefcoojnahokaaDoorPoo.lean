/- A policy that comes in. -/
import Derived.Test.YtgefcoojnahokaaDoorPos
import Derived.Deep.Slices
import Derived.ChangeSame
import Derived.Lib.SmallJoins
namespace Go.Proofs.YtgefcoojnahokaaDoor
open Go.RowKit Go.ChangeShapes Go.WideShapes Go.ChangeAt
set_option linter.unusedVariables false

theorem lanes_open {H : Type} {enc : TypeId × Value → H} {P : Program} {w : World} {base : Nat} {spare : Nat → Bool} {held : Bool} {t e : TypeId} {f0 f1 f2 f3 f4 : Field} {fuel : Nat} {cs : List Value} {x : DataW H × List MemPlace}
    (ht : P.underlying t = some (.slice e)) (he : P.underlying e = some (.struct #[f0, f1, f2, f3, f4])) (ce : P.cellsOf e = 5) (o0 : f0.offset = 0) (o1 : f1.offset = 1) (o2 : f2.offset = 2) (o3 : f3.offset = 3) (o4 : f4.offset = 4)
    (u0 : P.underlying f0.type = some (.int .i64)) (u1 : P.underlying f1.type = some (.int .i64)) (u2 : P.underlying f2.type = some (.int .i64)) (u3 : P.underlying f3.type = some (.int .i64)) (u4 : P.underlying f4.type = some (.int .i64))
    (c0 : P.cellsOf f0.type = 1) (c1 : P.cellsOf f1.type = 1) (c2 : P.cellsOf f2.type = 1) (c3 : P.cellsOf f3.type = 1) (c4 : P.cellsOf f4.type = 1)
    (h : DataW.trod enc P w base spare held fuel t cs = some x) :
    cs = [.slice none 0 0] ∨ ∃ a len cap rs, cs = [.slice (some a) len cap] ∧ IsLanes w (some a) len cap rs := by
  rcases Go.Deep.open_slice ht h with h0 | ⟨a, len, cap, m, n, D, Pl, rfl, hb, hl, hm, hmm, rfl, hx⟩
  · exact .inl h0.1
  right
  have hlm : len ≤ m := by rw [hmm]; split <;> omega
  have each : ∀ i, i < len → ∃ q : Ln, w.cell? (a.add (i * 5)) = some (.int .i64 q.fr) ∧ w.cell? (a.add (i * 5 + 1)) = some (.int .i64 q.dst) ∧ w.cell? (a.add (i * 5 + 2)) = some (.int .i64 q.pg) ∧ w.cell? (a.add (i * 5 + 3)) = some (.int .i64 q.af) ∧ w.cell? (a.add (i * 5 + 4)) = some (.int .i64 q.tt) := by
    intro i hi
    obtain ⟨cs', h1, h2⟩ := hx i (by omega)
    rw [ce] at h1
    obtain ⟨_, hlen, hcell⟩ := World.cells?_some h1
    obtain ⟨xs, k, hk, hxy, _, hxl, hf⟩ := DataW.trod_struct he h2
    match xs, hxl, cs', hlen with
    | [y0, y1, y2, y3, y4], _, [v0, v1, v2, v3, v4], _ =>
      have g0 := hf 0 f0 rfl
      have g1 := hf 1 f1 rfl
      have g2 := hf 2 f2 rfl
      have g3 := hf 3 f3 rfl
      have g4 := hf 4 f4 rfl
      simp [o0, o1, o2, o3, o4, c0, c1, c2, c3, c4] at g0 g1 g2 g3 g4
      have e0 := hcell 0 (by omega)
      have e1 := hcell 1 (by omega)
      have e2 := hcell 2 (by omega)
      have e3 := hcell 3 (by omega)
      have e4 := hcell 4 (by omega)
      rw [Go.Deep.add_add] at e0 e1 e2 e3 e4
      obtain ⟨b0, z0, _, _⟩ := DataW.trod_int u0 g0
      obtain ⟨b1, z1, _, _⟩ := DataW.trod_int u1 g1
      obtain ⟨b2, z2, _, _⟩ := DataW.trod_int u2 g2
      obtain ⟨b3, z3, _, _⟩ := DataW.trod_int u3 g3
      obtain ⟨b4, z4, _, _⟩ := DataW.trod_int u4 g4
      have q0 : v0 = .int .i64 b0 := by simpa using z0
      have q1 : v1 = .int .i64 b1 := by simpa using z1
      have q2 : v2 = .int .i64 b2 := by simpa using z2
      have q3 : v3 = .int .i64 b3 := by simpa using z3
      have q4 : v4 = .int .i64 b4 := by simpa using z4
      subst q0 q1 q2 q3 q4
      exact ⟨⟨b0, b1, b2, b3, b4⟩, by simpa using e0, by simpa using e1, by simpa using e2, by simpa using e3, by simpa using e4⟩
  refine ⟨a, len, cap, (List.range len).map fun i => if h : i < len then Classical.choose (each i h) else lz, rfl, .inr ⟨a, rfl, hl, hm, by simp, fun i hi => ?_⟩⟩
  have e : ((List.range len).map fun i => if h : i < len then Classical.choose (each i h) else lz).getD i lz = Classical.choose (each i hi) := by
    simp [List.getD, hi]
  rw [e]
  exact Classical.choose_spec (each i hi)

theorem lanes_open2 {H : Type} {enc : TypeId × Value → H} {P : Program} {w : World} {base : Nat} {spare : Nat → Bool} {held : Bool} {t e : TypeId} {f0 f1 f2 f3 f4 : Field} {fuel : Nat} {cs : List Value} {x : DataW H × List MemPlace}
    (ht : P.underlying t = some (.slice e)) (he : P.underlying e = some (.struct #[f0, f1, f2, f3, f4])) (ce : P.cellsOf e = 5) (o0 : f0.offset = 0) (o1 : f1.offset = 1) (o2 : f2.offset = 2) (o3 : f3.offset = 3) (o4 : f4.offset = 4)
    (u0 : P.underlying f0.type = some (.int .i64)) (u1 : P.underlying f1.type = some (.int .i64)) (u2 : P.underlying f2.type = some (.int .i64)) (u3 : P.underlying f3.type = some (.int .i64)) (u4 : P.underlying f4.type = some (.int .i64))
    (c0 : P.cellsOf f0.type = 1) (c1 : P.cellsOf f1.type = 1) (c2 : P.cellsOf f2.type = 1) (c3 : P.cellsOf f3.type = 1) (c4 : P.cellsOf f4.type = 1)
    (h : DataW.trod enc P w base spare held fuel t cs = some x) : ∃ a len cap rs, cs = [.slice a len cap] ∧ IsLanes w a len cap rs := by
  rcases lanes_open ht he ce o0 o1 o2 o3 o4 u0 u1 u2 u3 u4 c0 c1 c2 c3 c4 h with h | ⟨a, len, cap, rs, h1, h2⟩
  · exact ⟨none, 0, 0, [], h, .inl ⟨rfl, rfl, rfl, rfl⟩⟩
  · exact ⟨some a, len, cap, rs, h1, h2⟩
theorem pairs_open {H : Type} {enc : TypeId × Value → H} {P : Program} {w : World} {base : Nat} {spare : Nat → Bool} {held : Bool} {t e : TypeId} {f0 f1 : Field} {fuel : Nat} {cs : List Value} {x : DataW H × List MemPlace}
    (ht : P.underlying t = some (.slice e)) (he : P.underlying e = some (.struct #[f0, f1])) (ce : P.cellsOf e = 2) (o0 : f0.offset = 0) (o1 : f1.offset = 1)
    (u0 : P.underlying f0.type = some (.int .i64)) (u1 : P.underlying f1.type = some (.int .i64)) (c0 : P.cellsOf f0.type = 1) (c1 : P.cellsOf f1.type = 1)
    (h : DataW.trod enc P w base spare held fuel t cs = some x) : ∃ a len cap rs, cs = [.slice a len cap] ∧ IsPairs w a len cap rs := by
  rcases Go.Deep.open_slice ht h with h0 | ⟨a, len, cap, m, n, D, Pl, rfl, hb, hl, hm, hmm, rfl, hx⟩
  · exact ⟨none, 0, 0, [], h0.1, .inl ⟨rfl, rfl, rfl, rfl⟩⟩
  have hlm : len ≤ m := by rw [hmm]; split <;> omega
  have each : ∀ i, i < len → ∃ q : Int × Int, w.cell? (a.add (i * 2)) = some (.int .i64 q.1) ∧ w.cell? (a.add (i * 2 + 1)) = some (.int .i64 q.2) := by
    intro i hi
    obtain ⟨cs', h1, h2⟩ := hx i (by omega)
    rw [ce] at h1
    obtain ⟨_, hlen, hcell⟩ := World.cells?_some h1
    obtain ⟨xs, k, hk, hxy, _, hxl, hf⟩ := DataW.trod_struct he h2
    match xs, hxl, cs', hlen with
    | [y0, y1], _, [v0, v1], _ =>
      have g0 := hf 0 f0 rfl
      have g1 := hf 1 f1 rfl
      simp [o0, o1, c0, c1] at g0 g1
      have e0 := hcell 0 (by omega)
      have e1 := hcell 1 (by omega)
      rw [Go.Deep.add_add] at e0 e1
      obtain ⟨b0, z0, _, _⟩ := DataW.trod_int u0 g0
      obtain ⟨b1, z1, _, _⟩ := DataW.trod_int u1 g1
      have q0 : v0 = .int .i64 b0 := by simpa using z0
      have q1 : v1 = .int .i64 b1 := by simpa using z1
      subst q0 q1
      exact ⟨(b0, b1), by simpa using e0, by simpa using e1⟩
  refine ⟨some a, len, cap, (List.range len).map fun i => if h : i < len then Classical.choose (each i h) else (0, 0), rfl, .inr ⟨a, rfl, hl, hm, by simp, fun i hi => ?_⟩⟩
  have e : ((List.range len).map fun i => if h : i < len then Classical.choose (each i h) else (0, 0)).getD i (0, 0) = Classical.choose (each i hi) := by
    simp [List.getD, hi]
  rw [e]
  exact Classical.choose_spec (each i hi)
theorem ss_open {H : Type} {enc : TypeId × Value → H} {P : Program} {w : World} {base : Nat} {held : Bool} {t e k : TypeId} {fuel : Nat} {cs : List Value} {x : DataW H × List MemPlace}
    (ht : P.underlying t = some (.slice e)) (he : P.underlying e = some (.slice k)) (hk : P.underlying k = some (.int .i64)) (ce : P.cellsOf e = 1) (ck : P.cellsOf k = 1)
    (h : DataW.trod enc P w base (fun _ => true) held fuel t cs = some x) : ∃ a len cap oss, cs = [.slice a len cap] ∧ IsSS w a len cap oss := by
  rcases Go.Deep.open_slice ht h with h0 | ⟨a, len, cap, m, n, D, Pl, rfl, hb, hl, hm, hmm, rfl, hx⟩
  · exact ⟨none, 0, 0, [], h0.1, .inl ⟨rfl, rfl, rfl, rfl⟩⟩
  have hlm : len ≤ m := by rw [hmm]; split <;> omega
  have each : ∀ i, i < len → ∃ zs b l c, w.cell? (a.add i) = some (.slice b l c) ∧ IsRow .i64 w b l c zs := by
    intro i hi
    obtain ⟨cs', h1, h2⟩ := hx i (by omega)
    rw [ce] at h1
    obtain ⟨_, hlen, hcell⟩ := World.cells?_some h1
    have e0 := hcell 0 (by omega)
    rw [Go.Deep.add_add] at e0
    rcases open_ints he hk ck h2 with ⟨hcs, _⟩ | ⟨y, l, c, zs, hcs, _, hl', hm', hz, _, hc, hwz⟩
    · subst hcs
      exact ⟨[], none, 0, 0, by simpa using e0, .inl ⟨rfl, rfl, rfl, rfl⟩⟩
    · subst hcs
      exact ⟨_, some y, l, c, by simpa using e0, IsRow.of_all hl' hm' (by simpa using hz) hc hwz⟩
  refine ⟨some a, len, cap, (List.range len).map fun i => if h : i < len then Classical.choose (each i h) else [], rfl, .inr ⟨a, rfl, hl, hm, by simp, fun i hi => ?_⟩⟩
  have e : ((List.range len).map fun i => if h : i < len then Classical.choose (each i h) else []).getD i [] = Classical.choose (each i hi) := by
    simp [List.getD, hi]
  rw [e]
  exact Classical.choose_spec (each i hi)
end Go.Proofs.YtgefcoojnahokaaDoor
