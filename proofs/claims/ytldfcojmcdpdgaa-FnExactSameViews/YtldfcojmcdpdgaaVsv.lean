/- Two views compared: values, and the frame of a stage. -/
import Derived.Test.YtldfcojmcdpdgaaVsm
import Derived.Test.YtldfcojmcdpdgaaVla
import Derived.Test.YtldfcojmcdpdgaaQtk
namespace Go.Proofs.Ytldfcojmcdpdgaa
open Go.RowKit
set_option linter.unusedVariables false

/-- Two machines the same, and two views, in the model's order. -/
def hartB (H K : Ht) : Bool := decide (H.regs = K.regs) && decide (H.pc = K.pc) && decide (H.csr = K.csr) && (H.halted == K.halted) && (H.waiting == K.waiting) && (H.rung == K.rung) && decide (H.done = K.done) && decide (H.inn = K.inn) && decide (H.out = K.out)
def samB (H K : Ht) (ps qs zs ys : List Int) : Bool := hartB H K && decide (ps = qs) && decide (zs = ys)
def Lg (H : Ht) : Prop := H.regs.length ≤ 1048576 ∧ H.csr.length ≤ 1048576 ∧ H.inn.length ≤ 1048576 ∧ H.out.length ≤ 1048576
/-- A view in a block, its lists in blocks of their own. -/
structure Vx (w : World) (q b : Nat) (r c i o l m : Value) (H : Ht) (ps zs : List Int) : Prop where
  v : Vb w q #[r, .int .i64 H.pc, c, .bool H.halted, .bool H.waiting, .bool H.rung, .int .i64 H.done, i, o, l, m] 31
  h : Hm w b r c i o H
  pl : Nums w b l ps
  mm : Nums w b m zs
theorem Vx.keep {w w' : World} {q b : Nat} {r c i o l m : Value} {H : Ht} {ps zs : List Int} (s : Vx w q b r c i o l m H ps zs) (k : Below w.heap.size w w') : Vx w' q b r c i o l m H ps zs := ⟨s.v.keep k, s.h.keep k, s.pl.keep k, s.mm.keep k⟩
/-- What a stage of the comparison wants of the frame: the two pointers, and the slot that its operations hang on. -/
structure Ac (ops : Array Oper) (a : Act) (j g : Nat) (c : Bool) (q q' : Nat) : Prop where
  sz : a.tmps.size = 102
  df : a.defers = []
  t0 : a.eval (.tmp 0) = .pointer (some ⟨q, 0, none⟩)
  t1 : a.eval (.tmp 1) = .pointer (some ⟨q', 0, none⟩)
  gs : a.eval (.tmp g) = .bool c
  go : (ops[j]?).bind (·.dst) = some g
theorem ev_other (a : Act) (d k : Nat) (v : Value) (h : d ≠ k) : (a.put (some d) v).eval (.tmp k) = a.eval (.tmp k) := by
  simp only [Act.put, Act.eval, Array.getD_eq_getD_getElem?]
  rw [Array.getElem?_setIfInBounds_ne h]
theorem ev_same (a : Act) (d : Nat) (v : Value) (h : d < a.tmps.size) : (a.put (some d) v).eval (.tmp d) = v := by
  simp only [Act.put, Act.eval, Array.getD_eq_getD_getElem?]
  rw [Array.getElem?_setIfInBounds_self_of_lt h]
  rfl
theorem Ac.put {ops : Array Oper} {a : Act} {j g : Nat} {c : Bool} {q q' : Nat} (h : Ac ops a j g c q q') (d : Nat) (v : Value) (h0 : d ≠ 0) (h1 : d ≠ 1) (hg : d ≠ g) : Ac ops (a.put (some d) v) j g c q q' :=
  ⟨by simp [Act.put, h.sz], h.df, by rw [ev_other _ _ _ _ h0]; exact h.t0, by rw [ev_other _ _ _ _ h1]; exact h.t1, by rw [ev_other _ _ _ _ hg]; exact h.gs, h.go⟩
theorem Ac.yl {ops : Array Oper} {a : Act} {j g : Nat} {c : Bool} {q q' : Nat} (h : Ac ops a j g c q q') : yielded ops a.tmps j = some c := by
  unfold yielded
  rw [h.go]
  have t := h.gs
  simp only [Act.eval, Array.getD_eq_getD_getElem?] at t
  cases e : a.tmps[g]? with
  | none => rw [e] at t; cases t
  | some x => rw [e] at t; simp only [Option.getD] at t; subst t; simp [e]
theorem Ac.next {ops : Array Oper} {a : Act} {j g : Nat} {c : Bool} {q q' : Nat} (h : Ac ops a j g c q q') (j' d : Nat) (c' : Bool) (h0 : d ≠ 0) (h1 : d ≠ 1) (hd : d < 102) (ho : (ops[j']?).bind (·.dst) = some d) : Ac ops (a.put (some d) (.bool c')) j' d c' q q' :=
  ⟨by simp [Act.put, h.sz], h.df, by rw [ev_other _ _ _ _ h0]; exact h.t0, by rw [ev_other _ _ _ _ h1]; exact h.t1, ev_same _ _ _ (by rw [h.sz]; exact hd), ho⟩
end Go.Proofs.Ytldfcojmcdpdgaa
