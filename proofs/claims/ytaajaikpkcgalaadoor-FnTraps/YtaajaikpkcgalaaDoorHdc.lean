/- What SetCsr is drawn for. -/
import Derived.Test.YtaajaikpkcgalaaDoorHbe
import Derived.Test.YtaajaikpkcgalaaDoorHmo
namespace Go.Proofs.YtaajaikpkcgalaaDoor
open Go.RowKit
set_option linter.unusedVariables false

theorem Vb.range {w : World} {q : Nat} {cs : List Value} {t : TypeId} (h : Vb w q cs.toArray t) : w.rangeAt q 0 cs := fun j v hv => by
  rw [Nat.zero_add]
  exact h.cell j (by simpa using hv)
/-- A machine that is drawn, whole, in its variable q; the answer's place R, the source b. -/
structure Dx (w0 v : World) (R b k : Nat) (a : Option Addr) (len cap : Nat) (zs : List Int) (q : Nat) (a0 : Option Addr) (m0 k0 : Nat) (a1 : Option Addr) (m1 k1 : Nat) (a2 : Option Addr) (m2 k2 : Nat) (a3 : Option Addr) (m3 k3 : Nat) (H : Ht) : Prop where
  src : Src v b k a len cap zs
  m : (Hm v (b + 1) (.slice a0 m0 k0) (.slice a1 m1 k1) (.slice a2 m2 k2) (.slice a3 m3 k3) H ∧ Ha (.slice a0 m0 k0) (.slice a1 m1 k1) (.slice a2 m2 k2) (.slice a3 m3 k3)) ∨ m0 = 15
  var : Vb v q #[.slice a0 m0 k0, .int .i64 H.pc, .slice a1 m1 k1, .bool H.halted, .bool H.waiting, .bool H.rung, .int .i64 H.done, .slice a2 m2 k2, .slice a3 m3 k3] 26
  res : Vb v R #[.slice none 0 0, .int .i64 0, .slice none 0 0, .bool false, .bool false, .bool false, .int .i64 0, .slice none 0 0, .slice none 0 0] 26
  g : Below w0.heap.size w0 v
  hR : w0.heap.size = R
  hb : R < b
  hq : b < q
theorem Dx.turn {w0 v v' : World} {R b k k' : Nat} {a : Option Addr} {len cap : Nat} {zs : List Int} {q : Nat} {a0 : Option Addr} {m0 k0 : Nat} {a1 : Option Addr} {m1 k1 : Nat} {a2 : Option Addr} {m2 k2 : Nat} {a3 : Option Addr} {m3 k3 : Nat} {H : Ht}
    (h : Dx w0 v R b k a len cap zs q a0 m0 k0 a1 m1 k1 a2 m2 k2 a3 m3 k3 H) (t : Turn b v v') (s : Src v' b k' a len cap zs) : Dx w0 v' R b k' a len cap zs q a0 m0 k0 a1 m1 k1 a2 m2 k2 a3 m3 k3 H := by
  have hb := h.hb; have hq := h.hq; have hR := h.hR
  refine ⟨s, ?_, (turn_mq t).vb h.var (fun e => by omega), (turn_mq t).vb h.res (fun e => by omega), h.g.trans (t.below (by omega) h.g.size), hR, hb, hq⟩
  rcases h.m with ⟨h1, h2⟩ | h1
  · exact .inl ⟨(turn_mq t).hm h1 (fun x e f => by have := (h1.own x e).1; omega), h2⟩
  · exact .inr h1

end Go.Proofs.YtaajaikpkcgalaaDoor
