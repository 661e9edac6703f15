/- Texts of this seat, joined. -/
import Derived.Test.YtimcoobhakfnaaaGreatDoorQ24
import Derived.Test.YtimcoobhakfnaaaGreatDoorQ32
namespace Go.Proofs.YtimcoobhakfnaaaGreatDoor
open Go.RowKit
set_option linter.unusedVariables false

/-- Where the parts of a bus lie. -/
structure Bp where
  base : Nat
  q : Nat
  rg : Nat
  rk : Nat
  cg : Nat
  ck : Nat
  gm : Nat
  mc : Nat
  pg : Nat
  pc : Nat
  p : Nat
  ps : List (Int × Int)
  kx : Option (Nat × Array Value × TypeId)
def busC (B : Bp) (i o : Value) (H : Ht) (ri fa : Int) : Array Value := #[.slice (some ⟨B.pg, 0, none⟩) 8 B.pc, .slice (some ⟨B.gm, 0, none⟩) (B.p * 8) B.mc, .int .i64 ri, .slice (some ⟨B.rg, 0, none⟩) 16 B.rk, .int .i64 H.pc, .slice (some ⟨B.cg, 0, none⟩) 11 B.ck, .bool H.halted, .bool H.waiting, .bool H.rung, .int .i64 H.done, i, o, .int .i64 fa]
/-- A bus in memory; what it may turn lies from base on. -/
structure Bs (w : World) (B : Bp) (i o : Value) (zs : List Int) (H : Ht) (ri fa : Int) : Prop where
  v : Vb w B.q (busC B i o H ri fa) 52
  hr : Nums w B.base (.slice (some ⟨B.rg, 0, none⟩) 16 B.rk) H.regs
  hc : Nums w B.base (.slice (some ⟨B.cg, 0, none⟩) 11 B.ck) H.csr
  hm : Nums w B.base (.slice (some ⟨B.gm, 0, none⟩) (B.p * 8) B.mc) zs
  hi : Rv w i H.inn
  ho : ∃ bo, B.base ≤ bo ∧ bo ≤ w.heap.size ∧ Nums w bo o H.out ∧ B.rg < bo ∧ B.cg < bo ∧ B.gm < bo ∧ ∀ k, i.ownBlock = some k → k < bo
  ib : ∀ k, i.ownBlock = some k → B.base ≤ k ∧ k < w.heap.size ∧ k ≠ B.rg ∧ k ≠ B.cg ∧ k ≠ B.gm ∧ k ≠ B.q
  rc : B.rg ≠ B.cg
  rm : B.rg ≠ B.gm
  cm : B.cg ≠ B.gm
  ls : Prs 61 w 0 (.slice (some ⟨B.pg, 0, none⟩) 8 B.pc) B.ps
  lb : B.pg < B.base
  qb : B.base ≤ B.q
  kp : ∀ x cs t, B.kx = some (x, cs, t) → Vb w x cs t ∧ t ≠ 2 ∧ x ≠ B.q ∧ i.ownBlock ≠ some x
theorem Bs.size {w : World} {B : Bp} {i o : Value} {zs : List Int} {H : Ht} {ri fa : Int} (h : Bs w B i o zs H ri fa) : B.base ≤ w.heap.size := by have := h.v.lt; have := h.qb; omega
theorem Bs.qr {w : World} {B : Bp} {i o : Value} {zs : List Int} {H : Ht} {ri fa : Int} (h : Bs w B i o zs H ri fa) : B.q ≠ B.rg := fun e => h.hr.ne_vb (t := 52) h.v (by decide) (by rw [e]; rfl)
theorem Bs.qc {w : World} {B : Bp} {i o : Value} {zs : List Int} {H : Ht} {ri fa : Int} (h : Bs w B i o zs H ri fa) : B.q ≠ B.cg := fun e => h.hc.ne_vb (t := 52) h.v (by decide) (by rw [e]; rfl)
theorem Bs.qm {w : World} {B : Bp} {i o : Value} {zs : List Int} {H : Ht} {ri fa : Int} (h : Bs w B i o zs H ri fa) : B.q ≠ B.gm := fun e => h.hm.ne_vb (t := 52) h.v (by decide) (by rw [e]; rfl)
theorem Bs.qo {w : World} {B : Bp} {i o : Value} {zs : List Int} {H : Ht} {ri fa : Int} (h : Bs w B i o zs H ri fa) : o.ownBlock ≠ some B.q := by obtain ⟨bo, b1, b2, b3, b4⟩ := h.ho; exact b3.ne_vb (t := 52) h.v (by decide)
theorem Bs.ob {w : World} {B : Bp} {i o : Value} {zs : List Int} {H : Ht} {ri fa : Int} (h : Bs w B i o zs H ri fa) : ∀ k, o.ownBlock = some k → B.base ≤ k ∧ k ≠ B.rg ∧ k ≠ B.cg ∧ k ≠ B.gm ∧ i.ownBlock ≠ some k := by
  intro k e
  obtain ⟨bo, b1, b2, b3, b4, b5, b6, b7⟩ := h.ho
  have := (b3.lt k e).1
  exact ⟨by omega, by omega, by omega, by omega, fun f => by have := b7 k f; omega⟩
/-- A block that is kept is none of the bus's. -/
theorem Bs.kne {w : World} {B : Bp} {i o : Value} {zs : List Int} {H : Ht} {ri fa : Int} (h : Bs w B i o zs H ri fa) {x : Nat} {cs : Array Value} {t : TypeId} (e : B.kx = some (x, cs, t)) : x ≠ B.rg ∧ x ≠ B.cg ∧ x ≠ B.gm ∧ o.ownBlock ≠ some x := by
  obtain ⟨k1, k2, k3, k4⟩ := h.kp x cs t e
  obtain ⟨bo, b1, b2, b3, b4⟩ := h.ho
  exact ⟨fun f => h.hr.ne_vb k1 k2 (by rw [f]; rfl), fun f => h.hc.ne_vb k1 k2 (by rw [f]; rfl), fun f => h.hm.ne_vb k1 k2 (by rw [f]; rfl), b3.ne_vb k1 k2⟩
theorem Bs.keep {w w' : World} {B : Bp} {i o : Value} {zs : List Int} {H : Ht} {ri fa : Int} (h : Bs w B i o zs H ri fa) (b : Below w.heap.size w w') : Bs w' B i o zs H ri fa :=
  ⟨h.v.keep b, h.hr.keep b, h.hc.keep b, h.hm.keep b, h.hi.stay b, by obtain ⟨bo, b1, b2, b3, b4⟩ := h.ho; exact ⟨bo, b1, Nat.le_trans b2 b.size, b3.keep b, b4⟩, fun k e => by obtain ⟨a1, a2, a3⟩ := h.ib k e; exact ⟨a1, Nat.lt_of_lt_of_le a2 b.size, a3⟩, h.rc, h.rm, h.cm, h.ls.keep b, h.lb, h.qb, fun x cs t e => ⟨(h.kp x cs t e).1.keep b, (h.kp x cs t e).2⟩⟩
theorem Bs.dr {w : World} {B : Bp} {i o : Value} {zs : List Int} {H : Ht} {ri fa : Int} (h : Bs w B i o zs H ri fa) : Bs w.drew B i o zs H ri fa := h.keep (Below.refl _ _).drew
theorem own_some {g n c : Nat} {k : Nat} (e : (Value.slice (some ⟨g, 0, none⟩) n c).ownBlock = some k) : k = g := by have : g = k := (by simpa [Value.ownBlock] using e); omega
theorem Bs.stay {S : Nat → Prop} {w w' : World} {B : Bp} {i o : Value} {zs : List Int} {H : Ht} {ri fa : Int} (h : Bs w B i o zs H ri fa) (m : Mq S w w') (hS : ∀ k, S k → B.base ≤ k) : Below B.base w w' ∧ Prs 61 w' 0 (.slice (some ⟨B.pg, 0, none⟩) 8 B.pc) B.ps := by
  have L := m.low (base := B.base) hS h.size
  exact ⟨L, h.ls.low (fun k e => by have := own_some e; have := h.lb; omega) L⟩
/-- The bus's own cells turned, its lists as they were. -/
theorem Bs.upd {w w' : World} {B : Bp} {i o : Value} {zs : List Int} {H G : Ht} {ri fa ri' fa' : Int} (h : Bs w B i o zs H ri fa) (v : Vb w' B.q (busC B i o G ri' fa') 52) (m : Mq (fun j => j = B.q) w w') (er : G.regs = H.regs) (ec : G.csr = H.csr) (ei : G.inn = H.inn) (eo : G.out = H.out) : Bs w' B i o zs G ri' fa' ∧ Below B.base w w' := by
  obtain ⟨L, hl⟩ := h.stay m (fun k e => by have := h.qb; omega)
  refine ⟨⟨v, ?_, ?_, m.nums h.hm fun k e f => by have := own_some e; exact h.qm (by omega), ?_, ?_, fun k e => by obtain ⟨a1, a2, a3⟩ := h.ib k e; exact ⟨a1, Nat.lt_of_lt_of_le a2 m.size, a3⟩, h.rc, h.rm, h.cm, hl, h.lb, h.qb, fun x cs t e => ⟨m.vb (h.kp x cs t e).1 ((h.kp x cs t e).2.2.1), (h.kp x cs t e).2⟩⟩, L⟩
  · rw [er]; exact m.nums h.hr fun k e f => by have := own_some e; exact h.qr (by omega)
  · rw [ec]; exact m.nums h.hc fun k e f => by have := own_some e; exact h.qc (by omega)
  · rw [ei]; exact h.hi.mq m fun k e _ f => (h.ib k e).2.2.2.2.2 f
  · rw [eo]; obtain ⟨bo, b1, b2, b3, b4⟩ := h.ho; exact ⟨bo, b1, Nat.le_trans b2 m.size, m.nums b3 fun k e f => h.qo (by rw [e, f]), b4⟩
/-- A cell of the bus itself. -/
theorem Bs.fld {w : World} {B : Bp} {i o : Value} {zs : List Int} {H G : Ht} {ri fa ri' fa' : Int} (h : Bs w B i o zs H ri fa) (n : Nat) (u : Value) (hb : (busC B i o H ri fa).setIfInBounds n u = busC B i o G ri' fa') (er : G.regs = H.regs) (ec : G.csr = H.csr) (ei : G.inn = H.inn) (eo : G.out = H.out) : Bs (w.setCell ⟨B.q, n, none⟩ u) B i o zs G ri' fa' ∧ Below B.base w (w.setCell ⟨B.q, n, none⟩ u) :=
  h.upd (by rw [← hb]; exact h.v.set n u) ((Mq.refl _ _).set ⟨B.q, n, none⟩ u rfl) er ec ei eo
theorem Bs.csr {w : World} {B : Bp} {i o : Value} {zs : List Int} {H : Ht} {ri fa : Int} (h : Bs w B i o zs H ri fa) (n : Nat) (u : Int) : Bs (w.setCell ⟨B.cg, n, none⟩ (.int .i64 u)) B i o zs { H with csr := H.csr.set n u } ri fa ∧ Below B.base w (w.setCell ⟨B.cg, n, none⟩ (.int .i64 u)) := by
  have m : Mq (fun j => j = B.cg) w (w.setCell ⟨B.cg, n, none⟩ (.int .i64 u)) := (Mq.refl _ _).set ⟨B.cg, n, none⟩ _ rfl
  obtain ⟨L, hl⟩ := h.stay m (fun k e => by have := (h.hc.lt B.cg rfl).1; omega)
  exact ⟨⟨m.vb h.v h.qc, m.nums h.hr fun k e f => by have := own_some e; exact h.rc (by omega), (h.hc.store n u).1, m.nums h.hm fun k e f => by have := own_some e; exact h.cm (by omega), h.hi.mq m fun k e _ f => (h.ib k e).2.2.2.1 f, by obtain ⟨bo, b1, b2, b3, b4⟩ := h.ho; exact ⟨bo, b1, Nat.le_trans b2 m.size, m.nums b3 fun k e f => (h.ob k e).2.2.1 f, b4⟩, fun k e => by obtain ⟨a1, a2, a3⟩ := h.ib k e; exact ⟨a1, Nat.lt_of_lt_of_le a2 m.size, a3⟩, h.rc, h.rm, h.cm, hl, h.lb, h.qb, fun x cs t e => ⟨m.vb (h.kp x cs t e).1 ((h.kne e).2.1), (h.kp x cs t e).2⟩⟩, L⟩
theorem Bs.reg {w : World} {B : Bp} {i o : Value} {zs : List Int} {H : Ht} {ri fa : Int} (h : Bs w B i o zs H ri fa) (n : Nat) (u : Int) : Bs (w.setCell ⟨B.rg, n, none⟩ (.int .i64 u)) B i o zs { H with regs := H.regs.set n u } ri fa ∧ Below B.base w (w.setCell ⟨B.rg, n, none⟩ (.int .i64 u)) := by
  have m : Mq (fun j => j = B.rg) w (w.setCell ⟨B.rg, n, none⟩ (.int .i64 u)) := (Mq.refl _ _).set ⟨B.rg, n, none⟩ _ rfl
  obtain ⟨L, hl⟩ := h.stay m (fun k e => by have := (h.hr.lt B.rg rfl).1; omega)
  exact ⟨⟨m.vb h.v h.qr, (h.hr.store n u).1, m.nums h.hc fun k e f => by have := own_some e; exact h.rc (by omega), m.nums h.hm fun k e f => by have := own_some e; exact h.rm (by omega), h.hi.mq m fun k e _ f => (h.ib k e).2.2.1 f, by obtain ⟨bo, b1, b2, b3, b4⟩ := h.ho; exact ⟨bo, b1, Nat.le_trans b2 m.size, m.nums b3 fun k e f => (h.ob k e).2.1 f, b4⟩, fun k e => by obtain ⟨a1, a2, a3⟩ := h.ib k e; exact ⟨a1, Nat.lt_of_lt_of_le a2 m.size, a3⟩, h.rc, h.rm, h.cm, hl, h.lb, h.qb, fun x cs t e => ⟨m.vb (h.kp x cs t e).1 ((h.kne e).1), (h.kp x cs t e).2⟩⟩, L⟩
theorem Bs.memo {w : World} {B : Bp} {i o : Value} {zs : List Int} {H : Ht} {ri fa : Int} (h : Bs w B i o zs H ri fa) (n : Nat) (u : Int) : Bs (w.setCell ⟨B.gm, n, none⟩ (.int .i64 u)) B i o (zs.set n u) H ri fa ∧ Below B.base w (w.setCell ⟨B.gm, n, none⟩ (.int .i64 u)) := by
  have m : Mq (fun j => j = B.gm) w (w.setCell ⟨B.gm, n, none⟩ (.int .i64 u)) := (Mq.refl _ _).set ⟨B.gm, n, none⟩ _ rfl
  obtain ⟨L, hl⟩ := h.stay m (fun k e => by have := (h.hm.lt B.gm rfl).1; omega)
  exact ⟨⟨m.vb h.v h.qm, m.nums h.hr fun k e f => by have := own_some e; exact h.rm (by omega), m.nums h.hc fun k e f => by have := own_some e; exact h.cm (by omega), (h.hm.store n u).1, h.hi.mq m fun k e _ f => (h.ib k e).2.2.2.2.1 f, by obtain ⟨bo, b1, b2, b3, b4⟩ := h.ho; exact ⟨bo, b1, Nat.le_trans b2 m.size, m.nums b3 fun k e f => (h.ob k e).2.2.2.1 f, b4⟩, fun k e => by obtain ⟨a1, a2, a3⟩ := h.ib k e; exact ⟨a1, Nat.lt_of_lt_of_le a2 m.size, a3⟩, h.rc, h.rm, h.cm, hl, h.lb, h.qb, fun x cs t e => ⟨m.vb (h.kp x cs t e).1 ((h.kne e).2.2.1), (h.kp x cs t e).2⟩⟩, L⟩
/-- What was taken of the queue that is read. -/
theorem Bs.inn {w : World} {B : Bp} {i i' o : Value} {zs : List Int} {H G : Ht} {ri fa : Int} (h : Bs w B i o zs H ri fa) (hb : (busC B i o H ri fa).setIfInBounds 10 i' = busC B i' o G ri fa) (r : Rv w i' G.inn) (sub : ∀ k, i'.ownBlock = some k → i.ownBlock = some k) (er : G.regs = H.regs) (ec : G.csr = H.csr) (eo : G.out = H.out) : Bs (w.setCell ⟨B.q, 10, none⟩ i') B i' o zs G ri fa ∧ Below B.base w (w.setCell ⟨B.q, 10, none⟩ i') := by
  have m : Mq (fun j => j = B.q) w (w.setCell ⟨B.q, 10, none⟩ i') := (Mq.refl _ _).set ⟨B.q, 10, none⟩ i' rfl
  obtain ⟨L, hl⟩ := h.stay m (fun k e => by have := h.qb; omega)
  refine ⟨⟨by rw [← hb]; exact h.v.set 10 i', ?_, ?_, m.nums h.hm fun k e f => by have := own_some e; exact h.qm (by omega), r.mq m fun k e _ f => (h.ib k (sub k e)).2.2.2.2.2 f, ?_, fun k e => by obtain ⟨a1, a2, a3⟩ := h.ib k (sub k e); exact ⟨a1, Nat.lt_of_lt_of_le a2 m.size, a3⟩, h.rc, h.rm, h.cm, hl, h.lb, h.qb, fun x cs t e => ⟨m.vb (h.kp x cs t e).1 ((h.kp x cs t e).2.2.1), (h.kp x cs t e).2.1, (h.kp x cs t e).2.2.1, fun f => (h.kp x cs t e).2.2.2 (sub x f)⟩⟩, L⟩
  · rw [er]; exact m.nums h.hr fun k e f => by have := own_some e; exact h.qr (by omega)
  · rw [ec]; exact m.nums h.hc fun k e f => by have := own_some e; exact h.qc (by omega)
  · rw [eo]; obtain ⟨bo, b1, b2, b3, b4, b5, b6, b7⟩ := h.ho; exact ⟨bo, b1, Nat.le_trans b2 m.size, m.nums b3 fun k e f => h.qo (by rw [e, f]), b4, b5, b6, fun k e => b7 k (sub k e)⟩
/-- A word behind what was written out: the queue grown, and then its field. -/
theorem Bs.outn {w w' : World} {B : Bp} {i o o' : Value} {zs : List Int} {H G : Ht} {ri fa : Int} (h : Bs w B i o zs H ri fa) (g : w.grownBy w' o.ownBlock) (bo : Nat) (c1 : B.base ≤ bo) (c2 : bo ≤ w.heap.size) (c3 : B.rg < bo ∧ B.cg < bo ∧ B.gm < bo ∧ ∀ k, i.ownBlock = some k → k < bo) (r : Nums w' bo o' G.out) (hb : (busC B i o H ri fa).setIfInBounds 11 o' = busC B i o' G ri fa) (er : G.regs = H.regs) (ec : G.csr = H.csr) (ei : G.inn = H.inn) : Bs (w'.setCell ⟨B.q, 11, none⟩ o') B i o' zs G ri fa ∧ Below B.base w (w'.setCell ⟨B.q, 11, none⟩ o') := by
  have m1 : Mq (fun j => o.ownBlock = some j) w w' := Mq.of g fun k e => e.symm
  have m2 : Mq (fun j => j = B.q) w' (w'.setCell ⟨B.q, 11, none⟩ o') := (Mq.refl _ _).set ⟨B.q, 11, none⟩ o' rfl
  have m : Mq (fun j => o.ownBlock = some j ∨ j = B.q) w (w'.setCell ⟨B.q, 11, none⟩ o') := ⟨m2.os.trans m1.os, m2.tape.trans m1.tape, m2.output.trans m1.output, Nat.le_trans m1.size m2.size, fun k hk hs => (m2.block k (Nat.lt_of_lt_of_le hk m1.size) fun e => hs (.inr e)).trans (m1.block k hk fun e => hs (.inl e))⟩
  obtain ⟨L, hl⟩ := h.stay m (fun k e => by
    rcases e with e | e
    · exact (h.ob k e).1
    · have := h.qb; omega)
  have hv : Vb w' B.q (busC B i o H ri fa) 52 := m1.vb h.v h.qo
  refine ⟨⟨by rw [← hb]; exact hv.set 11 o', ?_, ?_, m.nums h.hm fun k e f => by
      have := own_some e
      rcases f with f | f
      · exact (h.ob k f).2.2.2.1 (by omega)
      · exact h.qm (by omega), ?_, ⟨bo, c1, Nat.le_trans c2 m.size, m2.nums r fun k e f => ?_, c3⟩, fun k e => by obtain ⟨a1, a2, a3⟩ := h.ib k e; exact ⟨a1, Nat.lt_of_lt_of_le a2 m.size, a3⟩, h.rc, h.rm, h.cm, hl, h.lb, h.qb, fun x cs t e => ⟨m.vb (h.kp x cs t e).1 (fun f => f.elim (h.kne e).2.2.2 (h.kp x cs t e).2.2.1), (h.kp x cs t e).2⟩⟩, L⟩
  · rw [er]; exact m.nums h.hr fun k e f => by
      have := own_some e
      rcases f with f | f
      · exact (h.ob k f).2.1 (by omega)
      · exact h.qr (by omega)
  · rw [ec]; exact m.nums h.hc fun k e f => by
      have := own_some e
      rcases f with f | f
      · exact (h.ob k f).2.2.1 (by omega)
      · exact h.qc (by omega)
  · rw [ei]; exact h.hi.mq m fun k e _ f => by
      rcases f with f | f
      · exact (h.ob k f).2.2.2.2 e
      · exact (h.ib k e).2.2.2.2.2 f
  · exact r.ne_vb (t := 52) hv (by decide) (by rw [e, f])
/-- A block that is kept from now on. -/
theorem Bs.kept {w : World} {B : Bp} {i o : Value} {zs : List Int} {H : Ht} {ri fa : Int} (h : Bs w B i o zs H ri fa) (x : Nat) (cs : Array Value) (t : TypeId) (v : Vb w x cs t) (ht : t ≠ 2) (hx : x ≠ B.q) (hi : i.ownBlock ≠ some x) : Bs w { B with kx := some (x, cs, t) } i o zs H ri fa :=
  ⟨h.v, h.hr, h.hc, h.hm, h.hi, h.ho, h.ib, h.rc, h.rm, h.cm, h.ls, h.lb, h.qb, fun x' cs' t' e => by cases e; exact ⟨v, ht, hx, hi⟩⟩
end Go.Proofs.YtimcoobhakfnaaaGreatDoor
