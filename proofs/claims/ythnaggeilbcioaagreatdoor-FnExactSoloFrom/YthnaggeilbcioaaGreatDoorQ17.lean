/- Texts of this seat, joined. -/
import Derived.Deep.Slices
import Derived.ChangeSame
import Derived.Lib.SmallJoins
import Derived.Test.YthnaggeilbcioaaGreatDoorQ10
import Derived.Test.YthnaggeilbcioaaGreatDoorQ16
namespace Go.Proofs.YthnaggeilbcioaaGreatDoor
open Go.RowKit Go.ChangeShapes Go.WideShapes Go.ChangeAt
set_option linter.unusedVariables false

theorem lanes_open {H : Type} {enc : TypeId × Value → H} {P : Program} {w : World} {base : Nat} {spare : Nat → Bool} {held : Bool} {t e : TypeId} {f0 f1 f2 f3 f4 : Field} {fuel : Nat} {cs : List Value} {x : DataW H × List MemPlace}
    (ht : P.underlying t = some (.slice e)) (he : P.underlying e = some (.struct #[f0, f1, f2, f3, f4])) (ce : P.cellsOf e = 5) (o0 : f0.offset = 0) (o1 : f1.offset = 1) (o2 : f2.offset = 2) (o3 : f3.offset = 3) (o4 : f4.offset = 4)
    (u0 : P.underlying f0.type = some (.int .i64)) (u1 : P.underlying f1.type = some (.int .i64)) (u2 : P.underlying f2.type = some (.int .i64)) (u3 : P.underlying f3.type = some (.int .i64)) (u4 : P.underlying f4.type = some (.int .i64))
    (c0 : P.cellsOf f0.type = 1) (c1 : P.cellsOf f1.type = 1) (c2 : P.cellsOf f2.type = 1) (c3 : P.cellsOf f3.type = 1) (c4 : P.cellsOf f4.type = 1)
    (h : DataW.trod enc P w base spare held fuel t cs = some x) :
    cs = [.slice none 0 0] ∨ ∃ a len cap rs, cs = [.slice (some a) len cap] ∧ IsLanes w (some a) len cap rs := by
  rcases Go.Deep.open_slice ht h with h0 | ⟨a, len, cap, m, n, D, Pl, rfl, hb, hl, hm, hmm, rfl, hx⟩
  · exact .inl h0.1
  right
  have hlm : len ≤ m := by rw [hmm]; split <;> omega
  have each : ∀ i, i < len → ∃ q : Ln, w.cell? (a.add (i * 5)) = some (.int .i64 q.fr) ∧ w.cell? (a.add (i * 5 + 1)) = some (.int .i64 q.dst) ∧ w.cell? (a.add (i * 5 + 2)) = some (.int .i64 q.pg) ∧ w.cell? (a.add (i * 5 + 3)) = some (.int .i64 q.af) ∧ w.cell? (a.add (i * 5 + 4)) = some (.int .i64 q.tt) := by
    intro i hi
    obtain ⟨cs', h1, h2⟩ := hx i (by omega)
    rw [ce] at h1
    obtain ⟨_, hlen, hcell⟩ := World.cells?_some h1
    obtain ⟨xs, k, hk, hxy, _, hxl, hf⟩ := DataW.trod_struct he h2
    match xs, hxl, cs', hlen with
    | [y0, y1, y2, y3, y4], _, [v0, v1, v2, v3, v4], _ =>
      have g0 := hf 0 f0 rfl
      have g1 := hf 1 f1 rfl
      have g2 := hf 2 f2 rfl
      have g3 := hf 3 f3 rfl
      have g4 := hf 4 f4 rfl
      simp [o0, o1, o2, o3, o4, c0, c1, c2, c3, c4] at g0 g1 g2 g3 g4
      have e0 := hcell 0 (by omega)
      have e1 := hcell 1 (by omega)
      have e2 := hcell 2 (by omega)
      have e3 := hcell 3 (by omega)
      have e4 := hcell 4 (by omega)
      rw [Go.Deep.add_add] at e0 e1 e2 e3 e4
      obtain ⟨b0, z0, _, _⟩ := DataW.trod_int u0 g0
      obtain ⟨b1, z1, _, _⟩ := DataW.trod_int u1 g1
      obtain ⟨b2, z2, _, _⟩ := DataW.trod_int u2 g2
      obtain ⟨b3, z3, _, _⟩ := DataW.trod_int u3 g3
      obtain ⟨b4, z4, _, _⟩ := DataW.trod_int u4 g4
      have q0 : v0 = .int .i64 b0 := by simpa using z0
      have q1 : v1 = .int .i64 b1 := by simpa using z1
      have q2 : v2 = .int .i64 b2 := by simpa using z2
      have q3 : v3 = .int .i64 b3 := by simpa using z3
      have q4 : v4 = .int .i64 b4 := by simpa using z4
      subst q0 q1 q2 q3 q4
      exact ⟨⟨b0, b1, b2, b3, b4⟩, by simpa using e0, by simpa using e1, by simpa using e2, by simpa using e3, by simpa using e4⟩
  refine ⟨a, len, cap, (List.range len).map fun i => if h : i < len then Classical.choose (each i h) else lz, rfl, .inr ⟨a, rfl, hl, hm, by simp, fun i hi => ?_⟩⟩
  have e : ((List.range len).map fun i => if h : i < len then Classical.choose (each i h) else lz).getD i lz = Classical.choose (each i hi) := by
    simp [List.getD, hi]
  rw [e]
  exact Classical.choose_spec (each i hi)

theorem lanes_open2 {H : Type} {enc : TypeId × Value → H} {P : Program} {w : World} {base : Nat} {spare : Nat → Bool} {held : Bool} {t e : TypeId} {f0 f1 f2 f3 f4 : Field} {fuel : Nat} {cs : List Value} {x : DataW H × List MemPlace}
    (ht : P.underlying t = some (.slice e)) (he : P.underlying e = some (.struct #[f0, f1, f2, f3, f4])) (ce : P.cellsOf e = 5) (o0 : f0.offset = 0) (o1 : f1.offset = 1) (o2 : f2.offset = 2) (o3 : f3.offset = 3) (o4 : f4.offset = 4)
    (u0 : P.underlying f0.type = some (.int .i64)) (u1 : P.underlying f1.type = some (.int .i64)) (u2 : P.underlying f2.type = some (.int .i64)) (u3 : P.underlying f3.type = some (.int .i64)) (u4 : P.underlying f4.type = some (.int .i64))
    (c0 : P.cellsOf f0.type = 1) (c1 : P.cellsOf f1.type = 1) (c2 : P.cellsOf f2.type = 1) (c3 : P.cellsOf f3.type = 1) (c4 : P.cellsOf f4.type = 1)
    (h : DataW.trod enc P w base spare held fuel t cs = some x) : ∃ a len cap rs, cs = [.slice a len cap] ∧ IsLanes w a len cap rs := by
  rcases lanes_open ht he ce o0 o1 o2 o3 o4 u0 u1 u2 u3 u4 c0 c1 c2 c3 c4 h with h | ⟨a, len, cap, rs, h1, h2⟩
  · exact ⟨none, 0, 0, [], h, .inl ⟨rfl, rfl, rfl, rfl⟩⟩
  · exact ⟨some a, len, cap, rs, h1, h2⟩
theorem pairs_open {H : Type} {enc : TypeId × Value → H} {P : Program} {w : World} {base : Nat} {spare : Nat → Bool} {held : Bool} {t e : TypeId} {f0 f1 : Field} {fuel : Nat} {cs : List Value} {x : DataW H × List MemPlace}
    (ht : P.underlying t = some (.slice e)) (he : P.underlying e = some (.struct #[f0, f1])) (ce : P.cellsOf e = 2) (o0 : f0.offset = 0) (o1 : f1.offset = 1)
    (u0 : P.underlying f0.type = some (.int .i64)) (u1 : P.underlying f1.type = some (.int .i64)) (c0 : P.cellsOf f0.type = 1) (c1 : P.cellsOf f1.type = 1)
    (h : DataW.trod enc P w base spare held fuel t cs = some x) : ∃ a len cap rs, cs = [.slice a len cap] ∧ IsPairs w a len cap rs := by
  rcases Go.Deep.open_slice ht h with h0 | ⟨a, len, cap, m, n, D, Pl, rfl, hb, hl, hm, hmm, rfl, hx⟩
  · exact ⟨none, 0, 0, [], h0.1, .inl ⟨rfl, rfl, rfl, rfl⟩⟩
  have hlm : len ≤ m := by rw [hmm]; split <;> omega
  have each : ∀ i, i < len → ∃ q : Int × Int, w.cell? (a.add (i * 2)) = some (.int .i64 q.1) ∧ w.cell? (a.add (i * 2 + 1)) = some (.int .i64 q.2) := by
    intro i hi
    obtain ⟨cs', h1, h2⟩ := hx i (by omega)
    rw [ce] at h1
    obtain ⟨_, hlen, hcell⟩ := World.cells?_some h1
    obtain ⟨xs, k, hk, hxy, _, hxl, hf⟩ := DataW.trod_struct he h2
    match xs, hxl, cs', hlen with
    | [y0, y1], _, [v0, v1], _ =>
      have g0 := hf 0 f0 rfl
      have g1 := hf 1 f1 rfl
      simp [o0, o1, c0, c1] at g0 g1
      have e0 := hcell 0 (by omega)
      have e1 := hcell 1 (by omega)
      rw [Go.Deep.add_add] at e0 e1
      obtain ⟨b0, z0, _, _⟩ := DataW.trod_int u0 g0
      obtain ⟨b1, z1, _, _⟩ := DataW.trod_int u1 g1
      have q0 : v0 = .int .i64 b0 := by simpa using z0
      have q1 : v1 = .int .i64 b1 := by simpa using z1
      subst q0 q1
      exact ⟨(b0, b1), by simpa using e0, by simpa using e1⟩
  refine ⟨some a, len, cap, (List.range len).map fun i => if h : i < len then Classical.choose (each i h) else (0, 0), rfl, .inr ⟨a, rfl, hl, hm, by simp, fun i hi => ?_⟩⟩
  have e : ((List.range len).map fun i => if h : i < len then Classical.choose (each i h) else (0, 0)).getD i (0, 0) = Classical.choose (each i hi) := by
    simp [List.getD, hi]
  rw [e]
  exact Classical.choose_spec (each i hi)
theorem ss_open {H : Type} {enc : TypeId × Value → H} {P : Program} {w : World} {base : Nat} {held : Bool} {t e k : TypeId} {fuel : Nat} {cs : List Value} {x : DataW H × List MemPlace}
    (ht : P.underlying t = some (.slice e)) (he : P.underlying e = some (.slice k)) (hk : P.underlying k = some (.int .i64)) (ce : P.cellsOf e = 1) (ck : P.cellsOf k = 1)
    (h : DataW.trod enc P w base (fun _ => true) held fuel t cs = some x) : ∃ a len cap oss, cs = [.slice a len cap] ∧ IsSS w a len cap oss := by
  rcases Go.Deep.open_slice ht h with h0 | ⟨a, len, cap, m, n, D, Pl, rfl, hb, hl, hm, hmm, rfl, hx⟩
  · exact ⟨none, 0, 0, [], h0.1, .inl ⟨rfl, rfl, rfl, rfl⟩⟩
  have hlm : len ≤ m := by rw [hmm]; split <;> omega
  have each : ∀ i, i < len → ∃ zs b l c, w.cell? (a.add i) = some (.slice b l c) ∧ IsRow .i64 w b l c zs := by
    intro i hi
    obtain ⟨cs', h1, h2⟩ := hx i (by omega)
    rw [ce] at h1
    obtain ⟨_, hlen, hcell⟩ := World.cells?_some h1
    have e0 := hcell 0 (by omega)
    rw [Go.Deep.add_add] at e0
    rcases open_ints he hk ck h2 with ⟨hcs, _⟩ | ⟨y, l, c, zs, hcs, _, hl', hm', hz, _, hc, hwz⟩
    · subst hcs
      exact ⟨[], none, 0, 0, by simpa using e0, .inl ⟨rfl, rfl, rfl, rfl⟩⟩
    · subst hcs
      exact ⟨_, some y, l, c, by simpa using e0, IsRow.of_all hl' hm' (by simpa using hz) hc hwz⟩
  refine ⟨some a, len, cap, (List.range len).map fun i => if h : i < len then Classical.choose (each i h) else [], rfl, .inr ⟨a, rfl, hl, hm, by simp, fun i hi => ?_⟩⟩
  have e : ((List.range len).map fun i => if h : i < len then Classical.choose (each i h) else []).getD i [] = Classical.choose (each i hi) := by
    simp [List.getD, hi]
  rw [e]
  exact Classical.choose_spec (each i hi)
end Go.Proofs.YthnaggeilbcioaaGreatDoor
namespace Go.Proofs.YthnaggeilbcioaaGreatDoor
open Go.RowKit
set_option linter.unusedVariables false

/-- From one world to another: blocks outside of S stay. -/
structure Mq (S : Nat → Prop) (w w' : World) : Prop where
  os : w'.os = w.os
  tape : w'.tape = w.tape
  output : w'.output = w.output
  size : w.heap.size ≤ w'.heap.size
  block : ∀ k, k < w.heap.size → ¬ S k → w'.heap[k]? = w.heap[k]?
theorem Mq.of {S : Nat → Prop} {w w' : World} {row : Option Nat} (g : w.grownBy w' row) (h : ∀ k, some k = row → S k) : Mq S w w' :=
  ⟨g.os, g.tape, g.output, g.size, fun k hk hn => g.block k hk fun e => hn (h k e)⟩
theorem Mq.trans {S : Nat → Prop} {a b c : World} (h : Mq S a b) (k : Mq S b c) : Mq S a c :=
  ⟨k.os.trans h.os, k.tape.trans h.tape, k.output.trans h.output, Nat.le_trans h.size k.size, fun i hi hn => (k.block i (Nat.lt_of_lt_of_le hi h.size) hn).trans (h.block i hi hn)⟩
theorem Mq.vb {S : Nat → Prop} {w w' : World} {q : Nat} {cs : Array Value} {t : TypeId} (m : Mq S w w') (h : Vb w q cs t) (hn : ¬ S q) : Vb w' q cs t := (m.block q h.lt hn).trans h
theorem Mq.nums {S : Nat → Prop} {w w' : World} {base : Nat} {v : Value} {zs : List Int} (m : Mq S w w') (h : Nums w base v zs) (hn : ∀ k, v.ownBlock = some k → ¬ S k) : Nums w' base v zs := by
  obtain ⟨h1, h2 | ⟨g, cap, cur, hv, hg, hr, rest⟩⟩ := h
  · exact ⟨h1, .inl h2⟩
  · refine ⟨h1, .inr ⟨g, cap, cur, hv, hg, ?_, rest⟩⟩
    rw [m.block g ((Array.getElem?_eq_some_iff.1 hr).1) (hn g (by rw [hv]; rfl))]
    exact hr
theorem Mq.below {S : Nat → Prop} {a w w' : World} (h : Below a.heap.size a w) (m : Mq S w w') (hn : ∀ k, S k → a.heap.size ≤ k) : Below a.heap.size a w' :=
  ⟨m.os.trans h.os, m.tape.trans h.tape, m.output.trans h.output, Nat.le_trans h.size m.size, fun k hk => (m.block k (Nat.lt_of_lt_of_le hk h.size) (fun s => by have := hn k s; omega)).trans (h.block k hk)⟩
/-- The blocks of four lists. -/
def Own4 (r c i o : Value) (k : Nat) : Prop := r.ownBlock = some k ∨ c.ownBlock = some k ∨ i.ownBlock = some k ∨ o.ownBlock = some k
theorem Mq.hm {S : Nat → Prop} {w w' : World} {base : Nat} {r c i o : Value} {H : Ht} (m : Mq S w w') (h : Hm w base r c i o H) (hn : ∀ k, Own4 r c i o k → ¬ S k) : Hm w' base r c i o H :=
  ⟨m.nums h.r fun k e => hn k (.inl e), m.nums h.c fun k e => hn k (.inr (.inl e)), m.nums h.i fun k e => hn k (.inr (.inr (.inl e))), m.nums h.o fun k e => hn k (.inr (.inr (.inr e)))⟩
theorem Hm.own {w : World} {base : Nat} {r c i o : Value} {H : Ht} (h : Hm w base r c i o H) (k : Nat) (e : Own4 r c i o k) : base ≤ k ∧ k < w.heap.size := by
  rcases e with e | e | e | e
  · exact h.r.lt k e
  · exact h.c.lt k e
  · exact h.i.lt k e
  · exact h.o.lt k e

def totH (H : Ht) : Nat := H.regs.length + H.csr.length + H.inn.length + H.out.length
def mkH (k : Int) (H : Ht) : Ht := { H with regs := marks k H.regs.length, csr := marks (k + H.regs.length) H.csr.length, inn := marks (k + H.regs.length + H.csr.length) H.inn.length, out := marks (k + H.regs.length + H.csr.length + H.inn.length) H.out.length }

set_option maxRecDepth 20000 in
set_option maxHeartbeats 4000000 in
theorem mark_hart (r c i o : Value) (H : Ht) (k : Int) (b : Nat) (w : World) (h : Hm w b r c i o H) (A : Ha r c i o) (hk : 0 ≤ k) (hz : k + totH H ≤ 4611686018427387904) :
    Calls Tryz.prog 82 #[.agg #[r, .int .i64 H.pc, c, .bool H.halted, .bool H.waiting, .bool H.rung, .int .i64 H.done, i, o], .int .i64 k] w fun e w' => e = .returned (.int .i64 (k + totH H)) ∧ Hm w' b r c i o (mkH k H) ∧ Mq (Own4 r c i o) w w' := by
  obtain ⟨a0, k0, h0, _⟩ := h.r.shape
  obtain ⟨a1, k1, h1, _⟩ := h.c.shape
  obtain ⟨a2, k2, h2, _⟩ := h.i.shape
  obtain ⟨a3, k3, h3, _⟩ := h.o.shape
  obtain ⟨n0, e0⟩ : ∃ n, H.regs.length = n := ⟨_, rfl⟩
  obtain ⟨n1, e1⟩ : ∃ n, H.csr.length = n := ⟨_, rfl⟩
  obtain ⟨n2, e2⟩ : ∃ n, H.inn.length = n := ⟨_, rfl⟩
  obtain ⟨n3, e3⟩ : ∃ n, H.out.length = n := ⟨_, rfl⟩
  have ML : Hid (H.regs.length = n0 ∧ H.csr.length = n1 ∧ H.inn.length = n2 ∧ H.out.length = n3) := ⟨e0, e1, e2, e3⟩
  have HM : Hid (Hm w b r c i o H) := h
  have HA : Hid (Ha r c i o) := A
  have HK : Hid (0 ≤ k ∧ k + (n0 : Int) + (n1 : Int) + (n2 : Int) + (n3 : Int) ≤ 4611686018427387904) := ⟨hk, by simp only [totH] at hz; omega⟩
  have HE : Hid (k + (n0 : Int) + (n1 : Int) + (n2 : Int) + (n3 : Int) = k + totH H) := by show _ = _; simp only [totH]; omega
  rw [e0] at h0
  rw [e1] at h1
  rw [e2] at h2
  rw [e3] at h3
  have F : Hid (r = .slice a0 n0 k0 ∧ c = .slice a1 n1 k1 ∧ i = .slice a2 n2 k2 ∧ o = .slice a3 n3 k3) := ⟨h0, h1, h2, h3⟩
  clear h A hk hz e0 e1 e2 e3
  rw [h0, h1, h2, h3, ← HE.out]
  rw [← h0, ← h1, ← h2, ← h3]
  subst h0 h1 h2 h3
  generalize hW : w.alloc (.cells #[.slice a0 n0 k0, .int .i64 H.pc, .slice a1 n1 k1, .bool H.halted, .bool H.waiting, .bool H.rung, .int .i64 H.done, .slice a2 n2 k2, .slice a3 n3 k3] 34) = W
  have B0 : Hid (Below w.heap.size w W) := by show Below _ _ _; rw [← hW]; exact al (Below.refl _ _) _
  obtain ⟨s, hS⟩ : ∃ s, w.heap.size = s := ⟨_, rfl⟩
  have VA : Hid (Vb W s #[.slice a0 n0 k0, .int .i64 H.pc, .slice a1 n1 k1, .bool H.halted, .bool H.waiting, .bool H.rung, .int .i64 H.done, .slice a2 n2 k2, .slice a3 n3 k3] 34) := by
    show Vb _ _ _ _
    rw [← hW, ← hS]
    exact Vb.new _ _ _
  have LT : Hid (∀ x, Own4 (.slice a0 n0 k0) (.slice a1 n1 k1) (.slice a2 n2 k2) (.slice a3 n3 k3) x → x ≠ s) := fun x e q => by have := (HM.out.own x e).2; omega
  have q0 := VA.out.cell 0 rfl
  go_enter Tryz.func82, Tryz.ntmps82
  go_wp2_with fail
  clear hW hS q0
  refine (mark_nums _ k _ _ _ (HM.out.keep B0.out).r HK.out.1 (by have := HK.out.2; have := ML.out.1; omega)).mono ?_
  rintro e w1 ⟨rfl, m1, g1⟩
  rw [ML.out.1] at m1 ⊢
  have G1 : Hid (Mq (Own4 (.slice a0 n0 k0) (.slice a1 n1 k1) (.slice a2 n2 k2) (.slice a3 n3 k3)) W w1) := Mq.of g1 fun x e => .inl e.symm
  have M1 : Hid (Nums w1 b (.slice a0 n0 k0) (marks k n0)) := m1
  have C1 : Hid (Nums w1 b (.slice a1 n1 k1) H.csr) := (HM.out.keep B0.out).c.kept g1 HA.out.rc.swap
  have I1 : Hid (Nums w1 b (.slice a2 n2 k2) H.inn) := (HM.out.keep B0.out).i.kept g1 HA.out.ri.swap
  have O1 : Hid (Nums w1 b (.slice a3 n3 k3) H.out) := (HM.out.keep B0.out).o.kept g1 HA.out.ro.swap
  have VA1 : Hid (Vb w1 _ _ _) := G1.out.vb VA.out (fun e => LT.out _ e rfl)
  have q2 := VA1.out.cell 2 rfl
  have E1 : Hid (0 ≤ k + (n0 : Int) ∧ k + (n0 : Int) + (n1 : Int) + (n2 : Int) + (n3 : Int) ≤ 4611686018427387904) := ⟨by have := HK.out.1; omega, HK.out.2⟩
  clear m1 g1
  go_wp2_with fail
  clear q2
  refine (mark_nums _ (k + n0) _ _ _ C1.out E1.out.1 (by have := E1.out.2; have := ML.out.2.1; omega)).mono ?_
  rintro e w2 ⟨rfl, m1, g1⟩
  rw [ML.out.2.1] at m1 ⊢
  have G2 : Hid (Mq (Own4 (.slice a0 n0 k0) (.slice a1 n1 k1) (.slice a2 n2 k2) (.slice a3 n3 k3)) W w2) := G1.out.trans (Mq.of g1 fun x e => .inr (.inl e.symm))
  have M2 : Hid (Nums w2 b (.slice a0 n0 k0) (marks k n0)) := M1.out.kept g1 HA.out.rc
  have C2 : Hid (Nums w2 b (.slice a1 n1 k1) (marks (k + n0) n1)) := m1
  have I2 : Hid (Nums w2 b (.slice a2 n2 k2) H.inn) := I1.out.kept g1 HA.out.ci.swap
  have O2 : Hid (Nums w2 b (.slice a3 n3 k3) H.out) := O1.out.kept g1 HA.out.co.swap
  have VA2 : Hid (Vb w2 _ _ _) := G2.out.vb VA.out (fun e => LT.out _ e rfl)
  have q2 := VA2.out.cell 7 rfl
  have E2 : Hid (0 ≤ k + (n0 : Int) + (n1 : Int) ∧ k + (n0 : Int) + (n1 : Int) + (n2 : Int) + (n3 : Int) ≤ 4611686018427387904) := ⟨by have := HK.out.1; omega, HK.out.2⟩
  clear m1 g1 M1 C1 I1 O1 VA1
  go_wp2_with fail
  clear q2
  refine (mark_nums _ (k + n0 + n1) _ _ _ I2.out E2.out.1 (by have := E2.out.2; have := ML.out.2.2.1; omega)).mono ?_
  rintro e w3 ⟨rfl, m1, g1⟩
  rw [ML.out.2.2.1] at m1 ⊢
  have G3 : Hid (Mq (Own4 (.slice a0 n0 k0) (.slice a1 n1 k1) (.slice a2 n2 k2) (.slice a3 n3 k3)) W w3) := G2.out.trans (Mq.of g1 fun x e => .inr (.inr (.inl e.symm)))
  have M3 : Hid (Nums w3 b (.slice a0 n0 k0) (marks k n0)) := M2.out.kept g1 HA.out.ri
  have C3 : Hid (Nums w3 b (.slice a1 n1 k1) (marks (k + n0) n1)) := C2.out.kept g1 HA.out.ci
  have I3 : Hid (Nums w3 b (.slice a2 n2 k2) (marks (k + n0 + n1) n2)) := m1
  have O3 : Hid (Nums w3 b (.slice a3 n3 k3) H.out) := O2.out.kept g1 HA.out.io.swap
  have VA3 : Hid (Vb w3 _ _ _) := G3.out.vb VA.out (fun e => LT.out _ e rfl)
  have q2 := VA3.out.cell 8 rfl
  have E3 : Hid (0 ≤ k + (n0 : Int) + (n1 : Int) + (n2 : Int) ∧ k + (n0 : Int) + (n1 : Int) + (n2 : Int) + (n3 : Int) ≤ 4611686018427387904) := ⟨by have := HK.out.1; omega, HK.out.2⟩
  clear m1 g1 M2 C2 I2 O2 VA2
  go_wp2_with fail
  clear q2
  refine (mark_nums _ (k + n0 + n1 + n2) _ _ _ O3.out E3.out.1 (by have := E3.out.2; have := ML.out.2.2.2; omega)).mono ?_
  rintro e w4 ⟨rfl, m1, g1⟩
  rw [ML.out.2.2.2] at m1 ⊢
  have G4 : Hid (Mq (Own4 (.slice a0 n0 k0) (.slice a1 n1 k1) (.slice a2 n2 k2) (.slice a3 n3 k3)) w w4) := ⟨(G3.out.trans (Mq.of g1 fun x e => .inr (.inr (.inr e.symm)))).os.trans B0.out.os, (G3.out.trans (Mq.of g1 fun x e => .inr (.inr (.inr e.symm)))).tape.trans B0.out.tape, (G3.out.trans (Mq.of g1 fun x e => .inr (.inr (.inr e.symm)))).output.trans B0.out.output, Nat.le_trans B0.out.size (G3.out.trans (Mq.of g1 fun x e => .inr (.inr (.inr e.symm)))).size, fun x hx hn => ((G3.out.trans (Mq.of g1 fun x e => .inr (.inr (.inr e.symm)))).block x (Nat.lt_of_lt_of_le hx B0.out.size) hn).trans (B0.out.block x hx)⟩
  have R4 : Hid (Hm w4 b (.slice a0 n0 k0) (.slice a1 n1 k1) (.slice a2 n2 k2) (.slice a3 n3 k3) (mkH k H)) := by
    refine ⟨?_, ?_, ?_, ?_⟩
    · have := M3.out.kept g1 HA.out.ro; simpa [mkH, ML.out.1] using this
    · have := C3.out.kept g1 HA.out.co; simpa [mkH, ML.out.1, ML.out.2.1] using this
    · have := I3.out.kept g1 HA.out.io; simpa [mkH, ML.out.1, ML.out.2.1, ML.out.2.2.1] using this
    · simpa [mkH, ML.out.1, ML.out.2.1, ML.out.2.2.1, ML.out.2.2.2] using m1
  clear m1 g1
  go_wp2_with fail
  go_ret
  exact ⟨rfl, R4.out, G4.out⟩

set_option maxRecDepth 20000 in
set_option maxHeartbeats 4000000 in
theorem held_hart (r c i o : Value) (H : Ht) (k : Int) (b : Nat) (w : World) (h : Hm w b r c i o (mkH k H)) (hk : 0 ≤ k) (hz : k + totH H ≤ 4611686018427387904) :
    Calls Tryz.prog 84 #[.agg #[r, .int .i64 H.pc, c, .bool H.halted, .bool H.waiting, .bool H.rung, .int .i64 H.done, i, o], .int .i64 k] w fun e w' => e = .returned (.int .i64 (k + totH H)) ∧ Below w.heap.size w w' := by
  obtain ⟨a0, k0, h0, _⟩ := h.r.shape
  obtain ⟨a1, k1, h1, _⟩ := h.c.shape
  obtain ⟨a2, k2, h2, _⟩ := h.i.shape
  obtain ⟨a3, k3, h3, _⟩ := h.o.shape
  simp only [mkH, marks_length] at h0 h1 h2 h3
  obtain ⟨n0, e0⟩ : ∃ n, H.regs.length = n := ⟨_, rfl⟩
  obtain ⟨n1, e1⟩ : ∃ n, H.csr.length = n := ⟨_, rfl⟩
  obtain ⟨n2, e2⟩ : ∃ n, H.inn.length = n := ⟨_, rfl⟩
  obtain ⟨n3, e3⟩ : ∃ n, H.out.length = n := ⟨_, rfl⟩
  rw [e0] at h0
  rw [e1] at h1
  rw [e2] at h2
  rw [e3] at h3
  have HK : Hid (0 ≤ k ∧ k + (n0 : Int) + (n1 : Int) + (n2 : Int) + (n3 : Int) ≤ 4611686018427387904) := ⟨hk, by simp only [totH] at hz; omega⟩
  have HE : Hid (k + (n0 : Int) + (n1 : Int) + (n2 : Int) + (n3 : Int) = k + totH H) := by show _ = _; simp only [totH]; omega
  have N0 : Hid (Nums w b r (marks k n0)) := by show Nums _ _ _ _; have := h.r; simpa [mkH, e0] using this
  have N1 : Hid (Nums w b c (marks (k + n0) n1)) := by show Nums _ _ _ _; have := h.c; simpa [mkH, e0, e1] using this
  have N2 : Hid (Nums w b i (marks (k + n0 + n1) n2)) := by show Nums _ _ _ _; have := h.i; simpa [mkH, e0, e1, e2] using this
  have N3 : Hid (Nums w b o (marks (k + n0 + n1 + n2) n3)) := by show Nums _ _ _ _; have := h.o; simpa [mkH, e0, e1, e2, e3] using this
  rw [← HE.out]
  clear h hk hz e0 e1 e2 e3
  subst h0 h1 h2 h3
  generalize hW : w.alloc (.cells #[.slice a0 n0 k0, .int .i64 H.pc, .slice a1 n1 k1, .bool H.halted, .bool H.waiting, .bool H.rung, .int .i64 H.done, .slice a2 n2 k2, .slice a3 n3 k3] 34) = W
  have B0 : Hid (Below w.heap.size w W) := by show Below _ _ _; rw [← hW]; exact al (Below.refl _ _) _
  obtain ⟨s, hS⟩ : ∃ s, w.heap.size = s := ⟨_, rfl⟩
  have VA : Hid (Vb W s #[.slice a0 n0 k0, .int .i64 H.pc, .slice a1 n1 k1, .bool H.halted, .bool H.waiting, .bool H.rung, .int .i64 H.done, .slice a2 n2 k2, .slice a3 n3 k3] 34) := by
    show Vb _ _ _ _
    rw [← hW, ← hS]
    exact Vb.new _ _ _
  have q0 := VA.out.cell 0 rfl
  have q2 := VA.out.cell 2 rfl
  have q7 := VA.out.cell 7 rfl
  have q8 := VA.out.cell 8 rfl
  have E0 : Hid (0 ≤ k ∧ k + (n0 : Int) ≤ 4611686018427387904) := ⟨HK.out.1, by have := HK.out.2; omega⟩
  have E1 : Hid (0 ≤ k + (n0 : Int) ∧ k + (n0 : Int) + (n1 : Int) ≤ 4611686018427387904) := ⟨by have := HK.out.1; omega, by have := HK.out.2; omega⟩
  have E2 : Hid (0 ≤ k + (n0 : Int) + (n1 : Int) ∧ k + (n0 : Int) + (n1 : Int) + (n2 : Int) ≤ 4611686018427387904) := ⟨by have := HK.out.1; omega, by have := HK.out.2; omega⟩
  have E3 : Hid (0 ≤ k + (n0 : Int) + (n1 : Int) + (n2 : Int) ∧ k + (n0 : Int) + (n1 : Int) + (n2 : Int) + (n3 : Int) ≤ 4611686018427387904) := ⟨by have := HK.out.1; omega, by have := HK.out.2; omega⟩
  have p1 : 0 ≤ k + (n0 : Int) := E1.out.1
  have p2 : 0 ≤ k + (n0 : Int) + (n1 : Int) := E2.out.1
  have p3 : 0 ≤ k + (n0 : Int) + (n1 : Int) + (n2 : Int) := E3.out.1
  have p4 : 0 ≤ k + (n0 : Int) + (n1 : Int) + (n2 : Int) + (n3 : Int) := by omega
  go_enter Tryz.func84, Tryz.ntmps84
  go_wp2_with fail
  clear hW hS
  refine (held_nums _ k n0 _ _ (N0.out.keep B0.out) E0.out.1 E0.out.2).mono ?_
  rintro e w1 ⟨rfl, rfl⟩
  go_wp2_with fail
  refine (held_nums _ (k + n0) n1 _ _ (N1.out.keep B0.out) E1.out.1 E1.out.2).mono ?_
  rintro e w1 ⟨rfl, rfl⟩
  go_wp2_with fail
  refine (held_nums _ (k + n0 + n1) n2 _ _ (N2.out.keep B0.out) E2.out.1 E2.out.2).mono ?_
  rintro e w1 ⟨rfl, rfl⟩
  go_wp2_with fail
  refine (held_nums _ (k + n0 + n1 + n2) n3 _ _ (N3.out.keep B0.out) E3.out.1 E3.out.2).mono ?_
  rintro e w1 ⟨rfl, rfl⟩
  go_wp2_with fail
  go_ret
  exact ⟨rfl, B0.out⟩
end Go.Proofs.YthnaggeilbcioaaGreatDoor
