/- Texts of this seat, joined. -/
import Derived.Deep.RegionHeld3
import Derived.Test.YtkfcofjmjbkekaaGreatDoorQ04
import Derived.Test.YtkfcofjmjbkekaaGreatDoorQ07
import Derived.Test.YtkfcofjmjbkekaaGreatDoorQ10
import Derived.Test.YtkfcofjmjbkekaaGreatDoorQ11
import Derived.Test.YtkfcofjmjbkekaaGreatDoorQ27
import Derived.Test.YtkfcofjmjbkekaaGreatDoorQ30
namespace Go.Proofs.YtkfcofjmjbkekaaGreatDoor
open Go.RowKit
set_option linter.unusedVariables false

/-- A machine whose four lists are read alone. -/
structure Hr (w : World) (r c i o : Value) (H : Ht) : Prop where
  r : Rv w r H.regs
  c : Rv w c H.csr
  i : Rv w i H.inn
  o : Rv w o H.out
theorem Hr.stay {w w' : World} {r c i o : Value} {H : Ht} (h : Hr w r c i o H) (b : Below w.heap.size w w') : Hr w' r c i o H := ⟨h.r.stay b, h.c.stay b, h.i.stay b, h.o.stay b⟩
theorem Hm.hr {w : World} {base : Nat} {r c i o : Value} {H : Ht} (h : Hm w base r c i o H) : Hr w r c i o H := ⟨h.r.rv, h.c.rv, h.i.rv, h.o.rv⟩
end Go.Proofs.YtkfcofjmjbkekaaGreatDoor
namespace Go.Proofs.YtkfcofjmjbkekaaGreatDoor
open Go.RowKit
set_option linter.unusedVariables false

theorem Nums.apt {w w' : World} {base base' : Nat} {v u : Value} {zs ys : List Int} (h : Nums w base v zs) (k : Nums w' base' u ys) (hb : w.heap.size ≤ base') : Apt v u := own_ne h k hb

theorem Mq.refl (S : Nat → Prop) (w : World) : Mq S w w := ⟨rfl, rfl, rfl, Nat.le_refl _, fun _ _ _ => rfl⟩
theorem Mq.set {S : Nat → Prop} {a w : World} (m : Mq S a w) (p : Addr) (u : Value) (hp : S p.block) : Mq S a (w.setCell p u) := m.trans (Mq.of (grown_set w p u) fun k e => by cases e; exact hp)
theorem Mq.ho {S : Nat → Prop} {base : Nat} {w w' : World} (m : Mq S w w') (h : ∀ k, S k → k < base) : Ho base w w' := ⟨m.size, fun k hb hk => m.block k hk fun e => by have := h k e; omega⟩
theorem Mq.under {S : Nat → Prop} {a w w' : World} (b : Below a.heap.size a w) (m : Mq S w w') (h : ∀ k, S k → a.heap.size ≤ k) : Below a.heap.size a w' := Mq.below b m h
/-- A machine, and an answer with one, that is stored whole. -/
theorem nine {v : World} {q : Nat} {t : TypeId} {z0 z1 z2 z3 z4 z5 z6 z7 z8 : Value} (h : Vb v q #[z0, z1, z2, z3, z4, z5, z6, z7, z8] t) (u0 u1 u2 u3 u4 u5 u6 u7 u8 : Value) :
    Vb (((((((((v.setCell ⟨q, 0, none⟩ u0).setCell ⟨q, 1, none⟩ u1).setCell ⟨q, 2, none⟩ u2).setCell ⟨q, 3, none⟩ u3).setCell ⟨q, 4, none⟩ u4).setCell ⟨q, 5, none⟩ u5).setCell ⟨q, 6, none⟩ u6).setCell ⟨q, 7, none⟩ u7).setCell ⟨q, 8, none⟩ u8) q #[u0, u1, u2, u3, u4, u5, u6, u7, u8] t ∧ Mq (fun k => k = q) v (((((((((v.setCell ⟨q, 0, none⟩ u0).setCell ⟨q, 1, none⟩ u1).setCell ⟨q, 2, none⟩ u2).setCell ⟨q, 3, none⟩ u3).setCell ⟨q, 4, none⟩ u4).setCell ⟨q, 5, none⟩ u5).setCell ⟨q, 6, none⟩ u6).setCell ⟨q, 7, none⟩ u7).setCell ⟨q, 8, none⟩ u8) := by
  have h0 : Vb (v.setCell ⟨q, 0, none⟩ u0) q #[u0, z1, z2, z3, z4, z5, z6, z7, z8] t := h.set 0 u0
  have h1 : Vb ((v.setCell ⟨q, 0, none⟩ u0).setCell ⟨q, 1, none⟩ u1) q #[u0, u1, z2, z3, z4, z5, z6, z7, z8] t := h0.set 1 u1
  have h2 : Vb (((v.setCell ⟨q, 0, none⟩ u0).setCell ⟨q, 1, none⟩ u1).setCell ⟨q, 2, none⟩ u2) q #[u0, u1, u2, z3, z4, z5, z6, z7, z8] t := h1.set 2 u2
  have h3 : Vb ((((v.setCell ⟨q, 0, none⟩ u0).setCell ⟨q, 1, none⟩ u1).setCell ⟨q, 2, none⟩ u2).setCell ⟨q, 3, none⟩ u3) q #[u0, u1, u2, u3, z4, z5, z6, z7, z8] t := h2.set 3 u3
  have h4 : Vb (((((v.setCell ⟨q, 0, none⟩ u0).setCell ⟨q, 1, none⟩ u1).setCell ⟨q, 2, none⟩ u2).setCell ⟨q, 3, none⟩ u3).setCell ⟨q, 4, none⟩ u4) q #[u0, u1, u2, u3, u4, z5, z6, z7, z8] t := h3.set 4 u4
  have h5 : Vb ((((((v.setCell ⟨q, 0, none⟩ u0).setCell ⟨q, 1, none⟩ u1).setCell ⟨q, 2, none⟩ u2).setCell ⟨q, 3, none⟩ u3).setCell ⟨q, 4, none⟩ u4).setCell ⟨q, 5, none⟩ u5) q #[u0, u1, u2, u3, u4, u5, z6, z7, z8] t := h4.set 5 u5
  have h6 : Vb (((((((v.setCell ⟨q, 0, none⟩ u0).setCell ⟨q, 1, none⟩ u1).setCell ⟨q, 2, none⟩ u2).setCell ⟨q, 3, none⟩ u3).setCell ⟨q, 4, none⟩ u4).setCell ⟨q, 5, none⟩ u5).setCell ⟨q, 6, none⟩ u6) q #[u0, u1, u2, u3, u4, u5, u6, z7, z8] t := h5.set 6 u6
  have h7 : Vb ((((((((v.setCell ⟨q, 0, none⟩ u0).setCell ⟨q, 1, none⟩ u1).setCell ⟨q, 2, none⟩ u2).setCell ⟨q, 3, none⟩ u3).setCell ⟨q, 4, none⟩ u4).setCell ⟨q, 5, none⟩ u5).setCell ⟨q, 6, none⟩ u6).setCell ⟨q, 7, none⟩ u7) q #[u0, u1, u2, u3, u4, u5, u6, u7, z8] t := h6.set 7 u7
  have h8 : Vb (((((((((v.setCell ⟨q, 0, none⟩ u0).setCell ⟨q, 1, none⟩ u1).setCell ⟨q, 2, none⟩ u2).setCell ⟨q, 3, none⟩ u3).setCell ⟨q, 4, none⟩ u4).setCell ⟨q, 5, none⟩ u5).setCell ⟨q, 6, none⟩ u6).setCell ⟨q, 7, none⟩ u7).setCell ⟨q, 8, none⟩ u8) q #[u0, u1, u2, u3, u4, u5, u6, u7, u8] t := h7.set 8 u8
  exact ⟨h8, (((((((((Mq.refl (fun k => k = q) v).set ⟨q, 0, none⟩ u0 rfl).set ⟨q, 1, none⟩ u1 rfl).set ⟨q, 2, none⟩ u2 rfl).set ⟨q, 3, none⟩ u3 rfl).set ⟨q, 4, none⟩ u4 rfl).set ⟨q, 5, none⟩ u5 rfl).set ⟨q, 6, none⟩ u6 rfl).set ⟨q, 7, none⟩ u7 rfl).set ⟨q, 8, none⟩ u8 rfl⟩
end Go.Proofs.YtkfcofjmjbkekaaGreatDoor
namespace Go.Proofs.YtkfcofjmjbkekaaGreatDoor
open Go.RowKit
set_option linter.unusedVariables false

theorem Mq.pre {S : Nat → Prop} {w w' : World} {o : Obj} (h : Mq S (w.alloc o) w') : Mq S w w' :=
  ⟨h.os, h.tape, h.output, by have := h.size; simp at this; omega, fun k hk hn => by rw [h.block k (by simp; omega) hn, Below.heap_alloc _ _ _ hk]⟩

end Go.Proofs.YtkfcofjmjbkekaaGreatDoor
namespace Go.Proofs.YtkfcofjmjbkekaaGreatDoor
open Go.RowKit Go.ChangeShapes Go.WideShapes Go.ChangeAt
set_option linter.unusedVariables false

/-- The nine cells of a machine at a place. -/
structure Hc (w : World) (p : Addr) (r c i o : Value) (H : Ht) : Prop where
  c0 : w.cell? p = some r
  c1 : w.cell? ⟨p.block, p.off + 1, none⟩ = some (.int .i64 H.pc)
  c2 : w.cell? ⟨p.block, p.off + 2, none⟩ = some c
  c3 : w.cell? ⟨p.block, p.off + 3, none⟩ = some (.bool H.halted)
  c4 : w.cell? ⟨p.block, p.off + 4, none⟩ = some (.bool H.waiting)
  c5 : w.cell? ⟨p.block, p.off + 5, none⟩ = some (.bool H.rung)
  c6 : w.cell? ⟨p.block, p.off + 6, none⟩ = some (.int .i64 H.done)
  c7 : w.cell? ⟨p.block, p.off + 7, none⟩ = some i
  c8 : w.cell? ⟨p.block, p.off + 8, none⟩ = some o
theorem Hc.stay {w : World} {p : Addr} {r c i o : Value} {H : Ht} {w' : World} (h : Hc w p r c i o H) (b : Below w.heap.size w w') : Hc w' p r c i o H :=
  ⟨cell_keep b h.c0, cell_keep b h.c1, cell_keep b h.c2, cell_keep b h.c3, cell_keep b h.c4, cell_keep b h.c5, cell_keep b h.c6, cell_keep b h.c7, cell_keep b h.c8⟩
/-- Machines that came in. -/
def IsHs (w : World) (a : Option Addr) (n c : Nat) (hs : List Ht) : Prop :=
  (a = none ∧ n = 0 ∧ c = 0 ∧ hs = []) ∨
  ∃ x, a = some x ∧ n ≤ c ∧ c ≤ maxLen ∧ hs.length = n ∧ ∀ i, i < n → ∃ (a0 a1 a2 a3 : Option Addr) (n0 k0 n1 k1 n2 k2 n3 k3 : Nat), Hc w (x.add (i * 9)) (.slice a0 n0 k0) (.slice a1 n1 k1) (.slice a2 n2 k2) (.slice a3 n3 k3) (hs.getD i voidH) ∧ Hin w a0 n0 k0 a1 n1 k1 a2 n2 k2 a3 n3 k3 (hs.getD i voidH)
theorem IsHs.stay {w w' : World} {a : Option Addr} {n c : Nat} {hs : List Ht} (h : IsHs w a n c hs) (b : Below w.heap.size w w') : IsHs w' a n c hs := by
  rcases h with h | ⟨x, h1, h2, h3, h4, h5⟩
  · exact .inl h
  · refine .inr ⟨x, h1, h2, h3, h4, fun i hi => ?_⟩
    obtain ⟨a0, a1, a2, a3, n0, k0, n1, k1, n2, k2, n3, k3, g1, g2⟩ := h5 i hi
    exact ⟨a0, a1, a2, a3, n0, k0, n1, k1, n2, k2, n3, k3, g1.stay b, g2.stay b⟩
theorem IsHs.len {w : World} {a : Option Addr} {n c : Nat} {hs : List Ht} (h : IsHs w a n c hs) : n = hs.length ∧ n ≤ 9223372036854775807 := by
  rcases h with ⟨_, h1, _, rfl⟩ | ⟨x, h1, h2, h3, h4, _⟩
  · exact ⟨by simpa using h1, by omega⟩
  · exact ⟨h4.symm, by unfold maxLen at h3; omega⟩
theorem IsHs.at {w : World} {a : Option Addr} {n c : Nat} {hs : List Ht} (h : IsHs w a n c hs) (i : Nat) (hi : i < n) : ∃ (x : Addr) (a0 a1 a2 a3 : Option Addr) (n0 k0 n1 k1 n2 k2 n3 k3 : Nat), a = some x ∧ Hc w (x.add (i * 9)) (.slice a0 n0 k0) (.slice a1 n1 k1) (.slice a2 n2 k2) (.slice a3 n3 k3) (hs.getD i voidH) ∧ Hin w a0 n0 k0 a1 n1 k1 a2 n2 k2 a3 n3 k3 (hs.getD i voidH) := by
  rcases h with ⟨_, h1, _, _⟩ | ⟨x, h1, h2, h3, h4, h5⟩
  · omega
  · obtain ⟨a0, a1, a2, a3, n0, k0, n1, k1, n2, k2, n3, k3, g⟩ := h5 i hi
    exact ⟨x, a0, a1, a2, a3, n0, k0, n1, k1, n2, k2, n3, k3, h1, g⟩
/-- A host, as a value. -/
structure Hst where
  pol : Plc
  mem : List Int
  harts : List Ht
  slot : Int
  left : Int
  clock : Int
/-- A host that came in. -/
structure Oi (w : World) (a0 : Option Addr) (n0 c0 : Nat) (a1 : Option Addr) (n1 c1 : Nat) (a2 : Option Addr) (n2 c2 : Nat) (a3 : Option Addr) (n3 c3 : Nat) (a4 : Option Addr) (n4 c4 : Nat) (a5 : Option Addr) (n5 c5 : Nat) (X : Hst) : Prop where
  pol : Pin w a0 n0 c0 a1 n1 c1 a2 n2 c2 a3 n3 c3 X.pol
  mem : IsRow .i64 w a4 n4 c4 X.mem
  harts : IsHs w a5 n5 c5 X.harts
theorem Oi.stay {w w' : World} {a0 a1 a2 a3 a4 a5 : Option Addr} {n0 c0 n1 c1 n2 c2 n3 c3 n4 c4 n5 c5 : Nat} {X : Hst} (h : Oi w a0 n0 c0 a1 n1 c1 a2 n2 c2 a3 n3 c3 a4 n4 c4 a5 n5 c5 X) (b : Below w.heap.size w w') : Oi w' a0 n0 c0 a1 n1 c1 a2 n2 c2 a3 n3 c3 a4 n4 c4 a5 n5 c5 X :=
  ⟨h.pol.stay b, h.mem.stay b, h.harts.stay b⟩
end Go.Proofs.YtkfcofjmjbkekaaGreatDoor
namespace Go.Proofs.YtkfcofjmjbkekaaGreatDoor
open Go.RowKit
set_option linter.unusedVariables false

/-- A slice of slices of numbers, read alone. -/
def Svr (w : World) (v : Value) (oss : List (List Int)) : Prop :=
  (v = .slice none 0 0 ∧ oss = []) ∨ ∃ g cap, v = .slice (some ⟨g, 0, none⟩) oss.length cap ∧ oss.length ≤ cap ∧ cap ≤ maxLen ∧ ∀ i, i < oss.length → ∃ b l c, w.cell? ⟨g, i, none⟩ = some (.slice b l c) ∧ Rv w (.slice b l c) (oss.getD i [])
theorem Svr.keep {w w' : World} {v : Value} {oss : List (List Int)} (h : Svr w v oss) (b : Below w.heap.size w w') : Svr w' v oss := by
  rcases h with h | ⟨g, cap, h1, h2, h3, h4⟩
  · exact .inl h
  · exact .inr ⟨g, cap, h1, h2, h3, fun i hi => by obtain ⟨x, l, c, k1, k2⟩ := h4 i hi; exact ⟨x, l, c, cell_keep b k1, k2.stay b⟩⟩
theorem Svr.shape {w : World} {v : Value} {oss : List (List Int)} (h : Svr w v oss) : ∃ a cap, v = .slice a oss.length cap ∧ oss.length ≤ cap ∧ cap ≤ maxLen ∧ (0 < oss.length → ∃ g, a = some ⟨g, 0, none⟩) := by
  rcases h with ⟨rfl, rfl⟩ | ⟨g, cap, h1, h2, h3, _⟩
  · exact ⟨none, 0, rfl, Nat.le_refl _, by unfold maxLen; omega, fun h => by simp at h⟩
  · exact ⟨_, cap, h1, h2, h3, fun _ => ⟨g, rfl⟩⟩
theorem Svr.row {w : World} {g n cap : Nat} {oss : List (List Int)} (h : Svr w (.slice (some ⟨g, 0, none⟩) n cap) oss) (i : Nat) (hi : i < oss.length) : ∃ b l c, w.cell? ⟨g, i, none⟩ = some (.slice b l c) ∧ Rv w (.slice b l c) (oss.getD i []) := by
  rcases h with ⟨h, _⟩ | ⟨g', cap', h1, h2, h3, h4⟩
  · cases h
  · simp at h1
    obtain ⟨e1, e2, e3⟩ := h1
    subst e1 e2 e3
    exact h4 i hi
/-- Machines in a list, read alone. -/
def Hv (w : World) (v : Value) (hs : List Ht) : Prop :=
  (v = .slice none 0 0 ∧ hs = []) ∨ ∃ g cap, v = .slice (some ⟨g, 0, none⟩) hs.length cap ∧ hs.length ≤ cap ∧ cap ≤ maxLen ∧ ∀ k, k < hs.length → ∃ r c i o, Hc w ⟨g, k * 9, none⟩ r c i o (hs.getD k voidH) ∧ Hr w r c i o (hs.getD k voidH)
theorem Hv.keep {w w' : World} {v : Value} {hs : List Ht} (h : Hv w v hs) (b : Below w.heap.size w w') : Hv w' v hs := by
  rcases h with h | ⟨g, cap, h1, h2, h3, h4⟩
  · exact .inl h
  · exact .inr ⟨g, cap, h1, h2, h3, fun k hk => by obtain ⟨r, c, i, o, k1, k2⟩ := h4 k hk; exact ⟨r, c, i, o, k1.stay b, k2.stay b⟩⟩
theorem Hv.shape {w : World} {v : Value} {hs : List Ht} (h : Hv w v hs) : ∃ a cap, v = .slice a hs.length cap ∧ hs.length ≤ cap ∧ cap ≤ maxLen ∧ (0 < hs.length → ∃ g, a = some ⟨g, 0, none⟩) := by
  rcases h with ⟨rfl, rfl⟩ | ⟨g, cap, h1, h2, h3, _⟩
  · exact ⟨none, 0, rfl, Nat.le_refl _, by unfold maxLen; omega, fun h => by simp at h⟩
  · exact ⟨_, cap, h1, h2, h3, fun _ => ⟨g, rfl⟩⟩
theorem Hv.at {w : World} {g n cap : Nat} {hs : List Ht} (h : Hv w (.slice (some ⟨g, 0, none⟩) n cap) hs) (k : Nat) (hk : k < hs.length) : ∃ r c i o, Hc w ⟨g, k * 9, none⟩ r c i o (hs.getD k voidH) ∧ Hr w r c i o (hs.getD k voidH) := by
  rcases h with ⟨h, _⟩ | ⟨g', cap', h1, h2, h3, h4⟩
  · cases h
  · simp at h1
    obtain ⟨e1, e2, e3⟩ := h1
    subst e1 e2 e3
    exact h4 k hk
/-- A host that is read alone. -/
structure Hq (w : World) (b : Nat) (v0 v1 v2 v3 v4 v5 : Value) (X : Hst) : Prop where
  own : Svr w v0 X.pol.own
  lanes : Ls 58 w b v1 X.pol.lanes
  bells : Prs 60 w b v2 X.pol.bells
  plan : Prs 62 w b v3 X.pol.plan
  mem : Rv w v4 X.mem
  harts : Hv w v5 X.harts
theorem Hq.keep {w w' : World} {b : Nat} {v0 v1 v2 v3 v4 v5 : Value} {X : Hst} (h : Hq w b v0 v1 v2 v3 v4 v5 X) (B : Below w.heap.size w w') : Hq w' b v0 v1 v2 v3 v4 v5 X :=
  ⟨h.own.keep B, h.lanes.keep B, h.bells.keep B, h.plan.keep B, h.mem.stay B, h.harts.keep B⟩
end Go.Proofs.YtkfcofjmjbkekaaGreatDoor
namespace Go.Proofs.YtkfcofjmjbkekaaGreatDoor
open Go.RowKit
set_option linter.unusedVariables false

/-- A host that may be marked: all its lists lie in blocks of their own. -/
structure Og (w : World) (a0 a1 a2 a3 a4 a5 : Option Addr) (n0 n1 n2 n3 n4 n5 g0 g1 g2 g3 g4 g5 : Nat) (R : List (Nat × Nat)) (S : Nat → Hsx) : Prop where
  pol : Pg w a0 a1 a2 a3 n0 n1 n2 n3 g0 g1 g2 g3 R
  mem : Mg w g4 1 a4 n4
  mach : Mm w g5 n5 S
  at5 : 0 < n5 → a5 = some ⟨g5, 0, none⟩
  s4 : n4 ≤ 1048576
  s5 : n5 ≤ 1048576
  dm : 0 < n4 → Ab (pN g1 g2 g3 n1 n2 n3 R) g4
  dg : 0 < n5 → Ab (pN g1 g2 g3 n1 n2 n3 R ++ cN g4 n4) g5
  dl : ∀ j, j < n5 → ∀ l ∈ (S j).all, 0 < l.2 → Ab (pN g1 g2 g3 n1 n2 n3 R ++ cN g4 n4) l.1
  h0 : 0 < n0 → Ab (cN g4 n4 ++ tN g5 S n5) g0
theorem Mm.mx {w w' : World} {g n : Nat} {S : Nat → Hsx} {L : List (Addr × Bool)} {k : Int} (h : Mm w g n S) (m : Mx L k w w') (hg : 0 < n → Ab L g) (hl : ∀ j, j < n → ∀ l ∈ (S j).all, 0 < l.2 → Ab L l.1) : Mm w' g n S :=
  ⟨fun j hj => (h.one j hj).mx m (fun t _ => Ab.av (hg (by omega))) (hl j hj), h.apart⟩
theorem Mm.alloc {w : World} {g n : Nat} {S : Nat → Hsx} (h : Mm w g n S) (o : Obj) : Mm (w.alloc o) g n S := h.mx ((Mx.refl 0 w).alloc o) (fun _ x hx => by simp at hx) (fun _ _ _ _ _ x hx => by simp at hx)
theorem Og.alloc {w : World} {a0 a1 a2 a3 a4 a5 : Option Addr} {n0 n1 n2 n3 n4 n5 g0 g1 g2 g3 g4 g5 : Nat} {R : List (Nat × Nat)} {S : Nat → Hsx} (h : Og w a0 a1 a2 a3 a4 a5 n0 n1 n2 n3 n4 n5 g0 g1 g2 g3 g4 g5 R S) (o : Obj) : Og (w.alloc o) a0 a1 a2 a3 a4 a5 n0 n1 n2 n3 n4 n5 g0 g1 g2 g3 g4 g5 R S :=
  { h with pol := h.pol.alloc o, mem := h.mem.alloc o, mach := h.mach.alloc o }
theorem Pg.lt {w : World} {a0 a1 a2 a3 : Option Addr} {n0 n1 n2 n3 g0 g1 g2 g3 : Nat} {R : List (Nat × Nat)} (h : Pg w a0 a1 a2 a3 n0 n1 n2 n3 g0 g1 g2 g3 R) : ∀ x ∈ pN g1 g2 g3 n1 n2 n3 R, x.1.block < w.heap.size := fun x hx => by
  simp only [pN, List.mem_append] at hx
  rcases hx with ((hx | hx) | hx) | hx
  · obtain ⟨r, _, _, e1, e2⟩ := h.own.cells hx; omega
  · obtain ⟨e1, _, e2⟩ := h.lanes.cells hx; omega
  · obtain ⟨e1, _, e2⟩ := h.bells.cells hx; omega
  · obtain ⟨e1, _, e2⟩ := h.plan.cells hx; omega
theorem Og.apart {w : World} {a0 a1 a2 a3 a4 a5 : Option Addr} {n0 n1 n2 n3 n4 n5 g0 g1 g2 g3 g4 g5 : Nat} {R : List (Nat × Nat)} {S : Nat → Hsx} (h : Og w a0 a1 a2 a3 a4 a5 n0 n1 n2 n3 n4 n5 g0 g1 g2 g3 g4 g5 R S) : ∀ x ∈ pN g1 g2 g3 n1 n2 n3 R ++ cN g4 n4, ∀ y ∈ tN g5 S n5, x.1 ≠ y.1 := fun x hx y hy e => by
  obtain ⟨i, hi, hy⟩ := tN_mem hy
  rcases hN_mem hy with ⟨l, hl, hp, hb⟩ | ⟨t, ht, e2⟩
  · exact h.dl i hi l hl hp x hx (by rw [e, hb])
  · exact h.dg (by omega) x hx (by rw [e, e2])

end Go.Proofs.YtkfcofjmjbkekaaGreatDoor
