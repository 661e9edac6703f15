/- Texts of this seat, joined. -/
import Derived.Test.YtgjpfmcokcjegaaQ18
import Derived.Test.YtgjpfmcokcjegaaQ39
import Derived.Test.YtgjpfmcokcjegaaQ40
namespace Go.Proofs.Ytgjpfmcokcjegaa
open Go.RowKit
set_option linter.unusedVariables false
theorem src_put {w : World} {b k : Nat} {a : Option Addr} {len cap : Nat} {zs : List Int} (s : Src w b k a len cap zs) (p : Addr) (u : Value) (hp : b < p.block) : Src (w.setCell p u) b k a len cap zs := by
  have g := grown_set w p u
  have hn : ∀ x, x ≤ b → some x ≠ some p.block := fun x hx e => by have := Option.some.inj e; omega
  have hh := s.here
  refine ⟨cell_grown g s.code (hn b (Nat.le_refl _)), cell_grown g s.count (hn b (Nat.le_refl _)), ?_, ?_, s.away, Nat.lt_of_lt_of_le hh g.size⟩
  · rw [World.frozen?_of_block (w := w) (g.block b hh (hn b (Nat.le_refl _)))]; exact s.free
  · rcases s.row with h0 | ⟨x, rfl, h1, h2, h3, h4, h5⟩
    · exact .inl h0
    · refine .inr ⟨x, rfl, h1, h2, h3, fun i hi => cell_grown g (h4 i hi) ?_, h5⟩
      have hx := s.away x rfl (by omega)
      rw [src_block]
      exact hn _ (by omega)
theorem turn_put {b : Nat} {a w : World} (t : Turn b a w) (p : Addr) (u : Value) (hp : a.heap.size ≤ p.block) : Turn b a (w.setCell p u) :=
  ⟨t.os, t.tape, t.output, by have := t.size; simpa [World.setCell] using this, fun k hk hn => by rw [heap_setCell_other w p k u (by omega)]; exact t.block k hk hn⟩
theorem turn_mq {b : Nat} {w w' : World} (t : Turn b w w') : Mq (fun k => k = b) w w' := ⟨t.os, t.tape, t.output, t.size, fun k hk hn => t.block k hk hn⟩
structure Dh (w0 v : World) (b k : Nat) (a : Option Addr) (len cap : Nat) (zs : List Int) (R q : Nat) (r c i o : Value) (H : Ht) : Prop where
  src : Src v b k a len cap zs
  m : Hm v (R + 1) r c i o H
  ap : Ha r c i o
  var : Vb v q #[r, .int .i64 H.pc, c, .bool H.halted, .bool H.waiting, .bool H.rung, .int .i64 H.done, i, o] 26
  res : Vb v R #[.slice none 0 0, .int .i64 0, .slice none 0 0, .bool false, .bool false, .bool false, .int .i64 0, .slice none 0 0, .slice none 0 0] 26
  g : Turn b w0 v
  nq : ∀ x, Own4 r c i o x → x ≠ q
  hb : b < R
  hq : R < q
  hR : w0.heap.size ≤ R
  r16 : H.regs.length = 16
  c11 : H.csr.length = 11
theorem Dh.turn {w0 v v' : World} {b k k' : Nat} {a : Option Addr} {len cap : Nat} {zs : List Int} {R q : Nat} {r c i o : Value} {H : Ht} (h : Dh w0 v b k a len cap zs R q r c i o H) (t : Turn b v v') (s : Src v' b k' a len cap zs) : Dh w0 v' b k' a len cap zs R q r c i o H :=
  ⟨s, (turn_mq t).hm h.m (fun x e f => by have := (h.m.own x e).1; have := h.hb; omega), h.ap, (turn_mq t).vb h.var (fun e => by have := h.hb; have := h.hq; omega), (turn_mq t).vb h.res (fun e => by have := h.hb; omega), h.g.trans t, h.nq, h.hb, h.hq, h.hR, h.r16, h.c11⟩
theorem Dh.fld {w0 v : World} {b k : Nat} {a : Option Addr} {len cap : Nat} {zs : List Int} {R q : Nat} {r c i o : Value} {H : Ht} (h : Dh w0 v b k a len cap zs R q r c i o H) (j : Nat) (u : Value) (H' : Ht)
    (hr : H'.regs = H.regs) (hc : H'.csr = H.csr) (hi : H'.inn = H.inn) (ho : H'.out = H.out) (hv : Vb (v.setCell ⟨q, j, none⟩ u) q #[r, .int .i64 H'.pc, c, .bool H'.halted, .bool H'.waiting, .bool H'.rung, .int .i64 H'.done, i, o] 26) : Dh w0 (v.setCell ⟨q, j, none⟩ u) b k a len cap zs R q r c i o H' := by
  have hb := h.hb; have hq := h.hq; have hR := h.hR
  refine ⟨src_put h.src _ _ (by show b < q; omega), ⟨?_, ?_, ?_, ?_⟩, h.ap, hv, h.res.put _ _ (by show R ≠ q; omega), turn_put h.g _ _ (by show w0.heap.size ≤ q; omega), h.nq, h.hb, h.hq, h.hR, by rw [hr]; exact h.r16, by rw [hc]; exact h.c11⟩
  · rw [hr]; exact h.m.r.put _ _ (fun e => h.nq q (.inl e) rfl)
  · rw [hc]; exact h.m.c.put _ _ (fun e => h.nq q (.inr (.inl e)) rfl)
  · rw [hi]; exact h.m.i.put _ _ (fun e => h.nq q (.inr (.inr (.inl e))) rfl)
  · rw [ho]; exact h.m.o.put _ _ (fun e => h.nq q (.inr (.inr (.inr e))) rfl)
theorem Dh.reg {w0 v : World} {b k : Nat} {a : Option Addr} {len cap : Nat} {zs : List Int} {R q y kr : Nat} {c i o : Value} {H : Ht} (h : Dh w0 v b k a len cap zs R q (.slice (some ⟨y, 0, none⟩) 16 kr) c i o H) (n : Nat) (u : Int) :
    Dh w0 (v.setCell ⟨y, n, none⟩ (.int .i64 u)) b k a len cap zs R q (.slice (some ⟨y, 0, none⟩) 16 kr) c i o { H with regs := H.regs.set n u } := by
  have hy := (h.m.r.lt y rfl).1
  have hb := h.hb; have hR := h.hR
  exact ⟨src_put h.src _ _ (by show b < y; omega), ⟨(h.m.r.store n u).1, h.m.c.put _ _ (apt_ne h.ap.rc rfl), h.m.i.put _ _ (apt_ne h.ap.ri rfl), h.m.o.put _ _ (apt_ne h.ap.ro rfl)⟩, h.ap, h.var.put _ _ (fun e => h.nq y (.inl rfl) e.symm), h.res.put _ _ (by show R ≠ y; omega), turn_put h.g _ _ (by show w0.heap.size ≤ y; omega), h.nq, h.hb, h.hq, h.hR, by simpa using h.r16, h.c11⟩
theorem Dh.sv {w0 v v' : World} {b k : Nat} {a : Option Addr} {len cap : Nat} {zs : List Int} {R q : Nat} {r c i o : Value} {H H' : Ht} (h : Dh w0 v b k a len cap zs R q r c i o H) (s : Sv v v' (R + 1) q r c i o H') (h1 : H'.regs.length = 16) (h2 : H'.csr.length = 11) : Dh w0 v' b k a len cap zs R q r c i o H' := by
  have hb := h.hb; have hq := h.hq; have hR := h.hR
  have no : ∀ x, x ≤ R → ¬ (x = q ∨ c.ownBlock = some x) := fun x hx e => by
    rcases e with e | e
    · omega
    · have := (h.m.c.lt x e).1; omega
  refine ⟨?_, s.m, h.ap, s.v, s.g.vb h.res (no R (Nat.le_refl _)), ⟨s.g.os.trans h.g.os, s.g.tape.trans h.g.tape, s.g.output.trans h.g.output, Nat.le_trans h.g.size s.g.size, fun x hx hn => (s.g.block x (Nat.lt_of_lt_of_le hx h.g.size) (no x (by omega))).trans (h.g.block x hx hn)⟩, h.nq, h.hb, h.hq, h.hR, h1, h2⟩
  have hh := h.src.here
  have hbk : ∀ x, x ≤ b → x < v.heap.size → v'.heap[x]? = v.heap[x]? := fun x hx hl => s.g.block x hl (no x (by omega))
  have hcell : ∀ (p : Addr) (u : Value), p.block ≤ b → v.cell? p = some u → v'.cell? p = some u := fun p u hp hu => by
    have hl := block_of_cell hu
    unfold World.cell? at *
    rw [hbk _ hp hl]
    exact hu
  refine ⟨hcell _ _ (Nat.le_refl _) h.src.code, hcell _ _ (Nat.le_refl _) h.src.count, ?_, ?_, h.src.away, Nat.lt_of_lt_of_le hh s.g.size⟩
  · rw [World.frozen?_of_block (w := v) (hbk b (Nat.le_refl _) hh)]; exact h.src.free
  · rcases h.src.row with h0 | ⟨x, rfl, q1, q2, q3, q4, q5⟩
    · exact .inl h0
    · refine .inr ⟨x, rfl, q1, q2, q3, fun j hj => hcell _ _ ?_ (q4 j hj), q5⟩
      have hx := h.src.away x rfl (by omega)
      rw [src_block]
      omega
theorem field_hart (x0 x1 x2 x3 x4 x5 x6 x7 x8 x9 : Value) (w : World) : (Instr.field 118 (.agg #[x0, x1, x2, x3, x4, x5, x6, x7, x8, x9]) 1).run Try.prog w = .ok (.agg #[x1, x2, x3, x4, x5, x6, x7, x8, x9]) w := by kernel_rfl
theorem newR_small {zs : List Int} (h : zs.length ≤ 40) (hw : zs.all isW = true) : newR zs = (0, newV zs) := by
  unfold newR
  rw [if_neg (by omega), hw]
  rfl
end Go.Proofs.Ytgjpfmcokcjegaa
