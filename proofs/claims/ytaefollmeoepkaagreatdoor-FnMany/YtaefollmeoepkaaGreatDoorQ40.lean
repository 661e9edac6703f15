/- Texts of this seat, joined. -/
import Derived.Test.YtaefollmeoepkaaGreatDoorQ22
import Derived.Test.YtaefollmeoepkaaGreatDoorQ28
import Derived.Test.YtaefollmeoepkaaGreatDoorQ29
import Derived.Test.YtaefollmeoepkaaGreatDoorQ35
import Derived.Test.YtaefollmeoepkaaGreatDoorQ36
import Derived.Test.YtaefollmeoepkaaGreatDoorQ39
namespace Go.Proofs.YtaefollmeoepkaaGreatDoor
open Go.RowKit
set_option linter.unusedVariables false
structure Bp where
  base : Nat
  q : Nat
  rg : Nat
  rk : Nat
  cg : Nat
  ck : Nat
  gm : Nat
  mc : Nat
  pg : Nat
  pc : Nat
  p : Nat
  ps : List (Int × Int)
  kx : Option (Nat × Array Value × TypeId)
def busC (B : Bp) (i o : Value) (H : Ht) (ri fa : Int) : Array Value := #[.slice (some ⟨B.pg, 0, none⟩) 8 B.pc, .slice (some ⟨B.gm, 0, none⟩) (B.p * 8) B.mc, .int .i64 ri, .slice (some ⟨B.rg, 0, none⟩) 16 B.rk, .int .i64 H.pc, .slice (some ⟨B.cg, 0, none⟩) 11 B.ck, .bool H.halted, .bool H.waiting, .bool H.rung, .int .i64 H.done, i, o, .int .i64 fa]
structure Bs (w : World) (B : Bp) (i o : Value) (zs : List Int) (H : Ht) (ri fa : Int) : Prop where
  v : Vb w B.q (busC B i o H ri fa) 62
  hr : Nums w B.base (.slice (some ⟨B.rg, 0, none⟩) 16 B.rk) H.regs
  hc : Nums w B.base (.slice (some ⟨B.cg, 0, none⟩) 11 B.ck) H.csr
  hm : Nums w B.base (.slice (some ⟨B.gm, 0, none⟩) (B.p * 8) B.mc) zs
  hi : Rv w i H.inn
  ho : ∃ bo, B.base ≤ bo ∧ bo ≤ w.heap.size ∧ Nums w bo o H.out ∧ B.rg < bo ∧ B.cg < bo ∧ B.gm < bo ∧ ∀ k, i.ownBlock = some k → k < bo
  ib : ∀ k, i.ownBlock = some k → B.base ≤ k ∧ k < w.heap.size ∧ k ≠ B.rg ∧ k ≠ B.cg ∧ k ≠ B.gm ∧ k ≠ B.q
  rc : B.rg ≠ B.cg
  rm : B.rg ≠ B.gm
  cm : B.cg ≠ B.gm
  ls : Prs 36 w 0 (.slice (some ⟨B.pg, 0, none⟩) 8 B.pc) B.ps
  lb : B.pg < B.base
  qb : B.base ≤ B.q
  kp : ∀ x cs t, B.kx = some (x, cs, t) → Vb w x cs t ∧ t ≠ 2 ∧ x ≠ B.q ∧ i.ownBlock ≠ some x
theorem Bs.size {w : World} {B : Bp} {i o : Value} {zs : List Int} {H : Ht} {ri fa : Int} (h : Bs w B i o zs H ri fa) : B.base ≤ w.heap.size := by have := h.v.lt; have := h.qb; omega
theorem Bs.qr {w : World} {B : Bp} {i o : Value} {zs : List Int} {H : Ht} {ri fa : Int} (h : Bs w B i o zs H ri fa) : B.q ≠ B.rg := fun e => h.hr.ne_vb (t := 62) h.v (by decide) (by rw [e]; rfl)
theorem Bs.qc {w : World} {B : Bp} {i o : Value} {zs : List Int} {H : Ht} {ri fa : Int} (h : Bs w B i o zs H ri fa) : B.q ≠ B.cg := fun e => h.hc.ne_vb (t := 62) h.v (by decide) (by rw [e]; rfl)
theorem Bs.qm {w : World} {B : Bp} {i o : Value} {zs : List Int} {H : Ht} {ri fa : Int} (h : Bs w B i o zs H ri fa) : B.q ≠ B.gm := fun e => h.hm.ne_vb (t := 62) h.v (by decide) (by rw [e]; rfl)
theorem Bs.qo {w : World} {B : Bp} {i o : Value} {zs : List Int} {H : Ht} {ri fa : Int} (h : Bs w B i o zs H ri fa) : o.ownBlock ≠ some B.q := by obtain ⟨bo, b1, b2, b3, b4⟩ := h.ho; exact b3.ne_vb (t := 62) h.v (by decide)
theorem Bs.ob {w : World} {B : Bp} {i o : Value} {zs : List Int} {H : Ht} {ri fa : Int} (h : Bs w B i o zs H ri fa) : ∀ k, o.ownBlock = some k → B.base ≤ k ∧ k ≠ B.rg ∧ k ≠ B.cg ∧ k ≠ B.gm ∧ i.ownBlock ≠ some k := by
  intro k e
  obtain ⟨bo, b1, b2, b3, b4, b5, b6, b7⟩ := h.ho
  have := (b3.lt k e).1
  exact ⟨by omega, by omega, by omega, by omega, fun f => by have := b7 k f; omega⟩
theorem Bs.kne {w : World} {B : Bp} {i o : Value} {zs : List Int} {H : Ht} {ri fa : Int} (h : Bs w B i o zs H ri fa) {x : Nat} {cs : Array Value} {t : TypeId} (e : B.kx = some (x, cs, t)) : x ≠ B.rg ∧ x ≠ B.cg ∧ x ≠ B.gm ∧ o.ownBlock ≠ some x := by
  obtain ⟨k1, k2, k3, k4⟩ := h.kp x cs t e
  obtain ⟨bo, b1, b2, b3, b4⟩ := h.ho
  exact ⟨fun f => h.hr.ne_vb k1 k2 (by rw [f]; rfl), fun f => h.hc.ne_vb k1 k2 (by rw [f]; rfl), fun f => h.hm.ne_vb k1 k2 (by rw [f]; rfl), b3.ne_vb k1 k2⟩
theorem Bs.keep {w w' : World} {B : Bp} {i o : Value} {zs : List Int} {H : Ht} {ri fa : Int} (h : Bs w B i o zs H ri fa) (b : Below w.heap.size w w') : Bs w' B i o zs H ri fa :=
  ⟨h.v.keep b, h.hr.keep b, h.hc.keep b, h.hm.keep b, h.hi.stay b, by obtain ⟨bo, b1, b2, b3, b4⟩ := h.ho; exact ⟨bo, b1, Nat.le_trans b2 b.size, b3.keep b, b4⟩, fun k e => by obtain ⟨a1, a2, a3⟩ := h.ib k e; exact ⟨a1, Nat.lt_of_lt_of_le a2 b.size, a3⟩, h.rc, h.rm, h.cm, h.ls.keep b, h.lb, h.qb, fun x cs t e => ⟨(h.kp x cs t e).1.keep b, (h.kp x cs t e).2⟩⟩
theorem Bs.dr {w : World} {B : Bp} {i o : Value} {zs : List Int} {H : Ht} {ri fa : Int} (h : Bs w B i o zs H ri fa) : Bs w.drew B i o zs H ri fa := h.keep (Below.refl _ _).drew
theorem own_some {g n c : Nat} {k : Nat} (e : (Value.slice (some ⟨g, 0, none⟩) n c).ownBlock = some k) : k = g := by have : g = k := (by simpa [Value.ownBlock] using e); omega
theorem Bs.stay {S : Nat → Prop} {w w' : World} {B : Bp} {i o : Value} {zs : List Int} {H : Ht} {ri fa : Int} (h : Bs w B i o zs H ri fa) (m : Mq S w w') (hS : ∀ k, S k → B.base ≤ k) : Below B.base w w' ∧ Prs 36 w' 0 (.slice (some ⟨B.pg, 0, none⟩) 8 B.pc) B.ps := by
  have L := m.low (base := B.base) hS h.size
  exact ⟨L, h.ls.low (fun k e => by have := own_some e; have := h.lb; omega) L⟩
theorem Bs.upd {w w' : World} {B : Bp} {i o : Value} {zs : List Int} {H G : Ht} {ri fa ri' fa' : Int} (h : Bs w B i o zs H ri fa) (v : Vb w' B.q (busC B i o G ri' fa') 62) (m : Mq (fun j => j = B.q) w w') (er : G.regs = H.regs) (ec : G.csr = H.csr) (ei : G.inn = H.inn) (eo : G.out = H.out) : Bs w' B i o zs G ri' fa' ∧ Below B.base w w' := by
  obtain ⟨L, hl⟩ := h.stay m (fun k e => by have := h.qb; omega)
  refine ⟨⟨v, ?_, ?_, m.nums h.hm fun k e f => by have := own_some e; exact h.qm (by omega), ?_, ?_, fun k e => by obtain ⟨a1, a2, a3⟩ := h.ib k e; exact ⟨a1, Nat.lt_of_lt_of_le a2 m.size, a3⟩, h.rc, h.rm, h.cm, hl, h.lb, h.qb, fun x cs t e => ⟨m.vb (h.kp x cs t e).1 ((h.kp x cs t e).2.2.1), (h.kp x cs t e).2⟩⟩, L⟩
  · rw [er]; exact m.nums h.hr fun k e f => by have := own_some e; exact h.qr (by omega)
  · rw [ec]; exact m.nums h.hc fun k e f => by have := own_some e; exact h.qc (by omega)
  · rw [ei]; exact h.hi.mq m fun k e _ f => (h.ib k e).2.2.2.2.2 f
  · rw [eo]; obtain ⟨bo, b1, b2, b3, b4⟩ := h.ho; exact ⟨bo, b1, Nat.le_trans b2 m.size, m.nums b3 fun k e f => h.qo (by rw [e, f]), b4⟩
theorem Bs.fld {w : World} {B : Bp} {i o : Value} {zs : List Int} {H G : Ht} {ri fa ri' fa' : Int} (h : Bs w B i o zs H ri fa) (n : Nat) (u : Value) (hb : (busC B i o H ri fa).setIfInBounds n u = busC B i o G ri' fa') (er : G.regs = H.regs) (ec : G.csr = H.csr) (ei : G.inn = H.inn) (eo : G.out = H.out) : Bs (w.setCell ⟨B.q, n, none⟩ u) B i o zs G ri' fa' ∧ Below B.base w (w.setCell ⟨B.q, n, none⟩ u) :=
  h.upd (by rw [← hb]; exact h.v.set n u) ((Mq.refl _ _).set ⟨B.q, n, none⟩ u rfl) er ec ei eo
theorem Bs.csr {w : World} {B : Bp} {i o : Value} {zs : List Int} {H : Ht} {ri fa : Int} (h : Bs w B i o zs H ri fa) (n : Nat) (u : Int) : Bs (w.setCell ⟨B.cg, n, none⟩ (.int .i64 u)) B i o zs { H with csr := H.csr.set n u } ri fa ∧ Below B.base w (w.setCell ⟨B.cg, n, none⟩ (.int .i64 u)) := by
  have m : Mq (fun j => j = B.cg) w (w.setCell ⟨B.cg, n, none⟩ (.int .i64 u)) := (Mq.refl _ _).set ⟨B.cg, n, none⟩ _ rfl
  obtain ⟨L, hl⟩ := h.stay m (fun k e => by have := (h.hc.lt B.cg rfl).1; omega)
  exact ⟨⟨m.vb h.v h.qc, m.nums h.hr fun k e f => by have := own_some e; exact h.rc (by omega), (h.hc.store n u).1, m.nums h.hm fun k e f => by have := own_some e; exact h.cm (by omega), h.hi.mq m fun k e _ f => (h.ib k e).2.2.2.1 f, by obtain ⟨bo, b1, b2, b3, b4⟩ := h.ho; exact ⟨bo, b1, Nat.le_trans b2 m.size, m.nums b3 fun k e f => (h.ob k e).2.2.1 f, b4⟩, fun k e => by obtain ⟨a1, a2, a3⟩ := h.ib k e; exact ⟨a1, Nat.lt_of_lt_of_le a2 m.size, a3⟩, h.rc, h.rm, h.cm, hl, h.lb, h.qb, fun x cs t e => ⟨m.vb (h.kp x cs t e).1 ((h.kne e).2.1), (h.kp x cs t e).2⟩⟩, L⟩
theorem Bs.reg {w : World} {B : Bp} {i o : Value} {zs : List Int} {H : Ht} {ri fa : Int} (h : Bs w B i o zs H ri fa) (n : Nat) (u : Int) : Bs (w.setCell ⟨B.rg, n, none⟩ (.int .i64 u)) B i o zs { H with regs := H.regs.set n u } ri fa ∧ Below B.base w (w.setCell ⟨B.rg, n, none⟩ (.int .i64 u)) := by
  have m : Mq (fun j => j = B.rg) w (w.setCell ⟨B.rg, n, none⟩ (.int .i64 u)) := (Mq.refl _ _).set ⟨B.rg, n, none⟩ _ rfl
  obtain ⟨L, hl⟩ := h.stay m (fun k e => by have := (h.hr.lt B.rg rfl).1; omega)
  exact ⟨⟨m.vb h.v h.qr, (h.hr.store n u).1, m.nums h.hc fun k e f => by have := own_some e; exact h.rc (by omega), m.nums h.hm fun k e f => by have := own_some e; exact h.rm (by omega), h.hi.mq m fun k e _ f => (h.ib k e).2.2.1 f, by obtain ⟨bo, b1, b2, b3, b4⟩ := h.ho; exact ⟨bo, b1, Nat.le_trans b2 m.size, m.nums b3 fun k e f => (h.ob k e).2.1 f, b4⟩, fun k e => by obtain ⟨a1, a2, a3⟩ := h.ib k e; exact ⟨a1, Nat.lt_of_lt_of_le a2 m.size, a3⟩, h.rc, h.rm, h.cm, hl, h.lb, h.qb, fun x cs t e => ⟨m.vb (h.kp x cs t e).1 ((h.kne e).1), (h.kp x cs t e).2⟩⟩, L⟩
theorem Bs.inn {w : World} {B : Bp} {i i' o : Value} {zs : List Int} {H G : Ht} {ri fa : Int} (h : Bs w B i o zs H ri fa) (hb : (busC B i o H ri fa).setIfInBounds 10 i' = busC B i' o G ri fa) (r : Rv w i' G.inn) (sub : ∀ k, i'.ownBlock = some k → i.ownBlock = some k) (er : G.regs = H.regs) (ec : G.csr = H.csr) (eo : G.out = H.out) : Bs (w.setCell ⟨B.q, 10, none⟩ i') B i' o zs G ri fa ∧ Below B.base w (w.setCell ⟨B.q, 10, none⟩ i') := by
  have m : Mq (fun j => j = B.q) w (w.setCell ⟨B.q, 10, none⟩ i') := (Mq.refl _ _).set ⟨B.q, 10, none⟩ i' rfl
  obtain ⟨L, hl⟩ := h.stay m (fun k e => by have := h.qb; omega)
  refine ⟨⟨by rw [← hb]; exact h.v.set 10 i', ?_, ?_, m.nums h.hm fun k e f => by have := own_some e; exact h.qm (by omega), r.mq m fun k e _ f => (h.ib k (sub k e)).2.2.2.2.2 f, ?_, fun k e => by obtain ⟨a1, a2, a3⟩ := h.ib k (sub k e); exact ⟨a1, Nat.lt_of_lt_of_le a2 m.size, a3⟩, h.rc, h.rm, h.cm, hl, h.lb, h.qb, fun x cs t e => ⟨m.vb (h.kp x cs t e).1 ((h.kp x cs t e).2.2.1), (h.kp x cs t e).2.1, (h.kp x cs t e).2.2.1, fun f => (h.kp x cs t e).2.2.2 (sub x f)⟩⟩, L⟩
  · rw [er]; exact m.nums h.hr fun k e f => by have := own_some e; exact h.qr (by omega)
  · rw [ec]; exact m.nums h.hc fun k e f => by have := own_some e; exact h.qc (by omega)
  · rw [eo]; obtain ⟨bo, b1, b2, b3, b4, b5, b6, b7⟩ := h.ho; exact ⟨bo, b1, Nat.le_trans b2 m.size, m.nums b3 fun k e f => h.qo (by rw [e, f]), b4, b5, b6, fun k e => b7 k (sub k e)⟩
theorem Bs.kept {w : World} {B : Bp} {i o : Value} {zs : List Int} {H : Ht} {ri fa : Int} (h : Bs w B i o zs H ri fa) (x : Nat) (cs : Array Value) (t : TypeId) (v : Vb w x cs t) (ht : t ≠ 2) (hx : x ≠ B.q) (hi : i.ownBlock ≠ some x) : Bs w { B with kx := some (x, cs, t) } i o zs H ri fa :=
  ⟨h.v, h.hr, h.hc, h.hm, h.hi, h.ho, h.ib, h.rc, h.rm, h.cm, h.ls, h.lb, h.qb, fun x' cs' t' e => by cases e; exact ⟨v, ht, hx, hi⟩⟩
def Sees (w : World) (a0 : Option Addr) (m0 k0 : Nat) (a1 : Option Addr) (m1 k1 : Nat) (a2 : Option Addr) (m2 k2 : Nat) (a3 : Option Addr) (m3 k3 : Nat) (H : Ht) (la : Option Addr) (ln lk : Nat) (ma : Option Addr) (mn mk : Nat) (c : Int) : Prop :=
  (∀ w1, Below w.heap.size w w1 → Calls Tryz.prog 34 #[.agg #[.slice a0 m0 k0, .int .i64 H.pc, .slice a1 m1 k1, .bool H.halted, .bool H.waiting, .bool H.rung, .int .i64 H.done, .slice a2 m2 k2, .slice a3 m3 k3], .slice la ln lk, .slice ma mn mk] w1 fun e w' => e = .returned (.int .i64 c) ∧ Below w1.heap.size w1 w') ∧
  ∀ w1 q, Below w.heap.size w w1 → Vb w1 q #[.slice a0 m0 k0, .int .i64 H.pc, .slice a1 m1 k1, .bool H.halted, .bool H.waiting, .bool H.rung, .int .i64 H.done, .slice a2 m2 k2, .slice a3 m3 k3] 26 → Calls Tryz.prog 26 #[.pointer (some ⟨q, 0, none⟩), .slice la ln lk, .slice ma mn mk] w1 fun e w' => e = .returned (.int .i64 c) ∧ Below w1.heap.size w1 w'
set_option maxRecDepth 20000 in
set_option maxHeartbeats 4000000 in
theorem seen_bad (a0 : Option Addr) (m0 k0 : Nat) (a1 : Option Addr) (m1 k1 : Nat) (a2 : Option Addr) (m2 k2 : Nat) (a3 : Option Addr) (m3 k3 : Nat) (H : Ht) (la : Option Addr) (ln lk : Nat) (ma : Option Addr) (mn mk : Nat) (c1 c2 : Int) (w : World)
    (hH : ∀ w1, Below w.heap.size w w1 → Calls Tryz.prog 10 #[.agg #[.slice a0 m0 k0, .int .i64 H.pc, .slice a1 m1 k1, .bool H.halted, .bool H.waiting, .bool H.rung, .int .i64 H.done, .slice a2 m2 k2, .slice a3 m3 k3]] w1 fun e w' => e = .returned (.int .i64 c1) ∧ Below w1.heap.size w1 w')
    (hL : c1 = 0 → Flt w (.slice la ln lk) 24 c2)
    (hM : c1 = 0 → c2 = 0 → ∀ w1, Below w.heap.size w w1 → Calls Tryz.prog 11 #[.slice ma mn mk] w1 fun e w' => e = .returned (.int .i64 1) ∧ w' = w1) :
    Calls Tryz.prog 34 #[.agg #[.slice a0 m0 k0, .int .i64 H.pc, .slice a1 m1 k1, .bool H.halted, .bool H.waiting, .bool H.rung, .int .i64 H.done, .slice a2 m2 k2, .slice a3 m3 k3], .slice la ln lk, .slice ma mn mk] w fun e w' => e = .returned (.int .i64 (if c1 = 0 then (if c2 = 0 then 1 else c2) else c1)) ∧ Below w.heap.size w w' := by
  have HH : Hid (_ ∧ _ ∧ _) := ⟨hH, hL, hM⟩
  clear hH hL hM
  obtain ⟨c, hc⟩ : ∃ c, (if c1 = 0 then (if c2 = 0 then 1 else c2) else c1) = c := ⟨_, rfl⟩
  rw [hc]
  have HC : Hid ((if c1 = 0 then (if c2 = 0 then 1 else c2) else c1) = c) := hc
  clear hc
  generalize hW : w.alloc (.cells #[.slice a0 m0 k0, .int .i64 H.pc, .slice a1 m1 k1, .bool H.halted, .bool H.waiting, .bool H.rung, .int .i64 H.done, .slice a2 m2 k2, .slice a3 m3 k3] 26) = W
  have B0 : Hid (Below w.heap.size w W) := by show Below _ _ _; rw [← hW]; exact al (Below.refl _ _) _
  obtain ⟨s, hS⟩ : ∃ s, w.heap.size = s := ⟨_, rfl⟩
  have VA : Hid (Vb W s #[.slice a0 m0 k0, .int .i64 H.pc, .slice a1 m1 k1, .bool H.halted, .bool H.waiting, .bool H.rung, .int .i64 H.done, .slice a2 m2 k2, .slice a3 m3 k3] 26) := by show Vb _ _ _ _; rw [← hW, ← hS]; exact Vb.new _ _ _
  have q0 := VA.out.cell 0 rfl
  have q1 := VA.out.cell 1 rfl
  have q2 := VA.out.cell 2 rfl
  have q3 := VA.out.cell 3 rfl
  have q4 := VA.out.cell 4 rfl
  have q5 := VA.out.cell 5 rfl
  have q6 := VA.out.cell 6 rfl
  have q7 := VA.out.cell 7 rfl
  have q8 := VA.out.cell 8 rfl
  go_enter Tryz.func34, Tryz.ntmps34
  go_wp2_with fail
  clear hW hS q0 q1 q2 q3 q4 q5 q6 q7 q8
  refine (HH.out.1 W B0.out).mono ?_
  rintro e w1 ⟨rfl, b1⟩
  have B1 : Hid (Below w.heap.size w w1) := on B0.out b1
  clear b1 VA B0
  by_cases h1 : c1 = 0
  case neg =>
    rw [if_neg h1] at HC
    have h1' : (c1 != 0) = true := by simpa using h1
    clear h1
    go_wp2_with fail
    go_ret
    exact ⟨by rw [← HC.out]; rfl, B1.out⟩
  rw [if_pos h1] at HC
  have HL := HH.out.2.1 h1
  have HMM : Hid (c2 = 0 → ∀ w1, Below w.heap.size w w1 → _) := HH.out.2.2 h1
  subst h1
  clear HH
  have HL : Hid (Flt w (.slice la ln lk) 24 c2) := HL
  go_wp2_with fail
  refine (HL.out.1 w1 B1.out).mono ?_
  rintro e w2 ⟨rfl, b2⟩
  have B2 : Hid (Below w.heap.size w w2) := on B1.out b2
  clear b2 B1
  by_cases h2 : c2 = 0
  case neg =>
    rw [if_neg h2] at HC
    have h2' : (c2 != 0) = true := by simpa using h2
    clear h2
    go_wp2_with fail
    go_ret
    exact ⟨by rw [← HC.out]; rfl, B2.out⟩
  rw [if_pos h2] at HC
  have HM : Hid (∀ w1, Below w.heap.size w w1 → _) := HMM.out h2
  subst h2
  clear HMM HL
  go_wp2_with fail
  refine (HM.out w2 B2.out).mono ?_
  rintro e w3 ⟨rfl, hw3⟩
  rw [hw3]
  clear hw3 w3
  go_wp2_with fail
  go_ret
  exact ⟨by rw [← HC.out]; rfl, B2.out⟩
set_option maxRecDepth 20000 in
set_option maxHeartbeats 4000000 in
theorem asked_bad (a0 : Option Addr) (m0 k0 : Nat) (a1 : Option Addr) (m1 k1 : Nat) (a2 : Option Addr) (m2 k2 : Nat) (a3 : Option Addr) (m3 k3 : Nat) (H : Ht) (la : Option Addr) (ln lk : Nat) (ma : Option Addr) (mn mk : Nat) (c1 c2 : Int) (q : Nat) (w : World)
    (hH : Calls Tryz.prog 54 #[.pointer (some ⟨q, 0, none⟩)] w fun e w' => e = .returned (.int .i64 c1) ∧ Below w.heap.size w w')
    (hL : c1 = 0 → Flt w (.slice la ln lk) 24 c2)
    (hM : c1 = 0 → c2 = 0 → ∀ w1, Below w.heap.size w w1 → Calls Tryz.prog 56 #[.slice ma mn mk] w1 fun e w' => e = .returned (.int .i64 1) ∧ w' = w1) :
    Calls Tryz.prog 26 #[.pointer (some ⟨q, 0, none⟩), .slice la ln lk, .slice ma mn mk] w fun e w' => e = .returned (.int .i64 (if c1 = 0 then (if c2 = 0 then 1 else c2) else c1)) ∧ Below w.heap.size w w' := by
  have HH : Hid (_ ∧ _ ∧ _) := ⟨hH, hL, hM⟩
  clear hH hL hM
  obtain ⟨c, hc⟩ : ∃ c, (if c1 = 0 then (if c2 = 0 then 1 else c2) else c1) = c := ⟨_, rfl⟩
  rw [hc]
  have HC : Hid ((if c1 = 0 then (if c2 = 0 then 1 else c2) else c1) = c) := hc
  clear hc
  go_enter Tryz.func26, Tryz.ntmps26
  go_wp2_with fail
  refine HH.out.1.mono ?_
  rintro e w1 ⟨rfl, b1⟩
  have B1 : Hid (Below w.heap.size w w1) := b1
  clear b1
  by_cases h1 : c1 = 0
  case neg =>
    rw [if_neg h1] at HC
    have h1' : (c1 != 0) = true := by simpa using h1
    clear h1
    go_wp2_with fail
    go_ret
    exact ⟨by rw [← HC.out]; rfl, B1.out⟩
  rw [if_pos h1] at HC
  have HL := HH.out.2.1 h1
  have HMM : Hid (c2 = 0 → ∀ w1, Below w.heap.size w w1 → _) := HH.out.2.2 h1
  subst h1
  clear HH
  have HL : Hid (Flt w (.slice la ln lk) 24 c2) := HL
  go_wp2_with fail
  refine (HL.out.2 w1 B1.out).mono ?_
  rintro e w2 ⟨rfl, hw2⟩
  rw [hw2]
  clear hw2 w2
  by_cases h2 : c2 = 0
  case neg =>
    rw [if_neg h2] at HC
    have h2' : (c2 != 0) = true := by simpa using h2
    clear h2
    go_wp2_with fail
    go_ret
    exact ⟨by rw [← HC.out]; rfl, B1.out⟩
  rw [if_pos h2] at HC
  have HM : Hid (∀ w1, Below w.heap.size w w1 → _) := HMM.out h2
  subst h2
  clear HMM HL
  go_wp2_with fail
  refine (HM.out w1 B1.out).mono ?_
  rintro e w3 ⟨rfl, hw3⟩
  rw [hw3]
  clear hw3 w3
  go_wp2_with fail
  go_ret
  exact ⟨by rw [← HC.out]; rfl, B1.out⟩
theorem Flt.later {w w' : World} {v : Value} {top c : Int} (h : Flt w v top c) (b : Below w.heap.size w w') : Flt w' v top c := ⟨fun w1 k => h.1 w1 (on b k), fun w1 k => h.2 w1 (on b k)⟩
theorem drawn8_flt {w : World} {base : Nat} {v : Value} (h : Drawn8 w base v) : ∃ c, Flt w v 24 c ∧ (c = 1 ∨ ∃ rs, Prs 36 w base v rs ∧ rs.length = 8 ∧ c = pgsV rs 24) := by
  rcases h with ⟨rs, h, hl⟩ | ⟨g, yc, c2, rs, rfl, _⟩
  · exact ⟨_, Flt.good h hl 24, .inr ⟨rs, h, hl, rfl⟩⟩
  · exact ⟨1, Flt.bad _ _ 24 (by decide) (by decide), .inl rfl⟩
theorem sees_any {w : World} {base : Nat} {a0 : Option Addr} {m0 k0 : Nat} {a1 : Option Addr} {m1 k1 : Nat} {a2 : Option Addr} {m2 k2 : Nat} {a3 : Option Addr} {m3 k3 : Nat} {H : Ht} {la : Option Addr} {ln lk : Nat} {ma : Option Addr} {mn mk : Nat} (hz : Hz w base a0 m0 k0 a1 m1 k1 a2 m2 k2 a3 m3 k3 H) (hl : Drawn8 w base (.slice la ln lk)) (hm : DrawnM w base (.slice ma mn mk)) :
    (∃ ps zs, Hm w base (.slice a0 m0 k0) (.slice a1 m1 k1) (.slice a2 m2 k2) (.slice a3 m3 k3) H ∧ Prs 36 w base (.slice la ln lk) ps ∧ ps.length = 8 ∧ Nums w base (.slice ma mn mk) zs ∧ zs.length ≤ 200) ∨ ∃ c, c ≠ 0 ∧ Sees w a0 m0 k0 a1 m1 k1 a2 m2 k2 a3 m3 k3 H la ln lk ma mn mk c := by
  rcases hz with ⟨hH, -⟩ | ⟨h15, -⟩
  case inr =>
    subst h15
    refine .inr ⟨1, by decide, fun w1 b => ?_, fun w1 q b hv => ?_⟩
    · have := seen_bad a0 15 k0 a1 m1 k1 a2 m2 k2 a3 m3 k3 H la ln lk ma mn mk 1 0 w1 (fun w2 _ => i_fault15 _ _ _ _ _ _ _ _ _ _ _ _ _) (fun h => absurd h (by decide)) (fun h => absurd h (by decide))
      exact this
    · have := asked_bad a0 15 k0 a1 m1 k1 a2 m2 k2 a3 m3 k3 H la ln lk ma mn mk 1 0 q w1 (s_fault15 q _ _ _ _ _ _ _ _ _ _ _ _ _ hv) (fun h => absurd h (by decide)) (fun h => absurd h (by decide))
      exact this
  obtain ⟨c2, hF, h2⟩ := drawn8_flt hl
  have hcase : (∃ zs, Nums w base (.slice ma mn mk) zs ∧ zs.length ≤ 200) ∨ (mn ≤ 200 ∧ formB mn = false) := by
    rcases hm with h | ⟨a, n, cap, hv, h1, h2⟩
    · exact .inl h
    · cases hv; exact .inr ⟨h1, h2⟩
  have iH : ∀ w1, Below w.heap.size w w1 → Calls Tryz.prog 10 #[.agg #[.slice a0 m0 k0, .int .i64 H.pc, .slice a1 m1 k1, .bool H.halted, .bool H.waiting, .bool H.rung, .int .i64 H.done, .slice a2 m2 k2, .slice a3 m3 k3]] w1 fun e w' => e = .returned (.int .i64 (hfV H)) ∧ Below w1.heap.size w1 w' := fun w1 b => i_fault _ _ _ _ H _ _ (hH.keep b)
  have sH : ∀ w1 q, Below w.heap.size w w1 → Vb w1 q #[.slice a0 m0 k0, .int .i64 H.pc, .slice a1 m1 k1, .bool H.halted, .bool H.waiting, .bool H.rung, .int .i64 H.done, .slice a2 m2 k2, .slice a3 m3 k3] 26 → Calls Tryz.prog 54 #[.pointer (some ⟨q, 0, none⟩)] w1 fun e w' => e = .returned (.int .i64 (hfV H)) ∧ Below w1.heap.size w1 w' := fun w1 q b hv => (s_fault q _ _ _ _ H _ _ (hH.keep b) hv).mono (by rintro e w' ⟨rfl, h⟩; exact ⟨rfl, by rw [h]; exact Below.refl _ _⟩)
  by_cases hf : hfV H = 0
  case neg =>
    refine .inr ⟨hfV H, hf, fun w1 b => ?_, fun w1 q b hv => ?_⟩
    · have := seen_bad a0 m0 k0 a1 m1 k1 a2 m2 k2 a3 m3 k3 H la ln lk ma mn mk (hfV H) 0 w1 (fun w2 b2 => iH w2 (on b b2)) (fun h => absurd h hf) (fun h => absurd h hf)
      rw [if_neg hf] at this; exact this
    · have := asked_bad a0 m0 k0 a1 m1 k1 a2 m2 k2 a3 m3 k3 H la ln lk ma mn mk (hfV H) 0 q w1 (sH w1 q b hv) (fun h => absurd h hf) (fun h => absurd h hf)
      rw [if_neg hf] at this; exact this
  rw [hf] at iH sH
  by_cases hc2 : c2 = 0
  case neg =>
    refine .inr ⟨c2, hc2, fun w1 b => ?_, fun w1 q b hv => ?_⟩
    · have := seen_bad a0 m0 k0 a1 m1 k1 a2 m2 k2 a3 m3 k3 H la ln lk ma mn mk 0 c2 w1 (fun w2 b2 => iH w2 (on b b2)) (fun _ => hF.later b) (fun _ h => absurd h hc2)
      rw [if_pos rfl, if_neg hc2] at this; exact this
    · have := asked_bad a0 m0 k0 a1 m1 k1 a2 m2 k2 a3 m3 k3 H la ln lk ma mn mk 0 c2 q w1 (sH w1 q b hv) (fun _ => hF.later b) (fun _ h => absurd h hc2)
      rw [if_pos rfl, if_neg hc2] at this; exact this
  obtain ⟨ps, hP, hp8, -⟩ := h2.resolve_left (fun e => by rw [hc2] at e; exact absurd e (by decide))
  rcases hcase with ⟨zs, hN, hn⟩ | ⟨h1, hf2⟩
  · exact .inl ⟨ps, zs, hH, hP, hp8, hN, hn⟩
  · subst hc2
    refine .inr ⟨1, by decide, fun w1 b => ?_, fun w1 q b hv => ?_⟩
    · have := seen_bad a0 m0 k0 a1 m1 k1 a2 m2 k2 a3 m3 k3 H la ln lk ma mn mk 0 0 w1 (fun w2 b2 => iH w2 (on b b2)) (fun _ => hF.later b) (fun _ _ w2 _ => impl_memBad ma mn mk w2 h1 hf2)
      exact this
    · have := asked_bad a0 m0 k0 a1 m1 k1 a2 m2 k2 a3 m3 k3 H la ln lk ma mn mk 0 0 q w1 (sH w1 q b hv) (fun _ => hF.later b) (fun _ _ w2 _ => spec_memBad ma mn mk w2 h1 hf2)
      exact this
structure Dy (w0 v : World) (R b k : Nat) (a : Option Addr) (len cap : Nat) (zs : List Int) (q : Nat) (a0 : Option Addr) (m0 k0 : Nat) (a1 : Option Addr) (m1 k1 : Nat) (a2 : Option Addr) (m2 k2 : Nat) (a3 : Option Addr) (m3 k3 : Nat) (H : Ht) (la : Option Addr) (ln lk : Nat) (ma : Option Addr) (mn mk : Nat) : Prop where
  src : Src v b k a len cap zs
  h : Hz v (b + 1) a0 m0 k0 a1 m1 k1 a2 m2 k2 a3 m3 k3 H
  l : Drawn8 v (b + 1) (.slice la ln lk)
  m : DrawnM v (b + 1) (.slice ma mn mk)
  var : Vb v q #[.slice a0 m0 k0, .int .i64 H.pc, .slice a1 m1 k1, .bool H.halted, .bool H.waiting, .bool H.rung, .int .i64 H.done, .slice a2 m2 k2, .slice a3 m3 k3] 26
  res : Vb v R #[.slice none 0 0, .int .i64 0, .slice none 0 0, .bool false, .bool false, .bool false, .int .i64 0, .slice none 0 0, .slice none 0 0] 26
  g : Below w0.heap.size w0 v
  hR : w0.heap.size ≤ R
  hb : R < b
  hq : b < q
theorem vb_rangeW {w : World} {q : Nat} {cs : List Value} {t : TypeId} (h : Vb w q cs.toArray t) : w.rangeAt q 0 cs := fun j v hv => by
  rw [Nat.zero_add]
  exact h.cell j (by simpa using hv)
theorem DrawnM.turnW {w w' : World} {base b : Nat} {v : Value} (h : DrawnM w base v) (t : Turn b w w') (hb : b < base) : DrawnM w' base v := by
  rcases h with ⟨zs, h, hl⟩ | h
  · exact .inl ⟨zs, h.turn t hb, hl⟩
  · exact .inr h
theorem DrawnM.monoW {w : World} {base base' : Nat} {v : Value} (h : DrawnM w base v) (hb : base' ≤ base) : DrawnM w base' v := by
  rcases h with ⟨zs, h, hl⟩ | h
  · exact .inl ⟨zs, h.mono hb, hl⟩
  · exact .inr h
theorem Dy.turn {w0 v v' : World} {R b k k' : Nat} {a : Option Addr} {len cap : Nat} {zs : List Int} {q : Nat} {a0 : Option Addr} {m0 k0 : Nat} {a1 : Option Addr} {m1 k1 : Nat} {a2 : Option Addr} {m2 k2 : Nat} {a3 : Option Addr} {m3 k3 : Nat} {H : Ht} {la : Option Addr} {ln lk : Nat} {ma : Option Addr} {mn mk : Nat} (h : Dy w0 v R b k a len cap zs q a0 m0 k0 a1 m1 k1 a2 m2 k2 a3 m3 k3 H la ln lk ma mn mk) (t : Turn b v v') (s : Src v' b k' a len cap zs) : Dy w0 v' R b k' a len cap zs q a0 m0 k0 a1 m1 k1 a2 m2 k2 a3 m3 k3 H la ln lk ma mn mk :=
  ⟨s, h.h.turn t (Nat.lt_succ_self _), h.l.turn t (Nat.lt_succ_self _), h.m.turnW t (Nat.lt_succ_self _), (turn_mq t).vb h.var (fun e => by have := h.hq; omega), (turn_mq t).vb h.res (fun e => by have := h.hb; omega), h.g.trans (t.below (by have := h.hb; have := h.hR; omega) h.g.size), h.hR, h.hb, h.hq⟩
theorem Dy.fin {w0 v v' : World} {R b k : Nat} {a : Option Addr} {len cap : Nat} {zs : List Int} {q : Nat} {a0 : Option Addr} {m0 k0 : Nat} {a1 : Option Addr} {m1 k1 : Nat} {a2 : Option Addr} {m2 k2 : Nat} {a3 : Option Addr} {m3 k3 : Nat} {H : Ht} {la : Option Addr} {ln lk : Nat} {ma : Option Addr} {mn mk : Nat} (h : Dy w0 v R b k a len cap zs q a0 m0 k0 a1 m1 k1 a2 m2 k2 a3 m3 k3 H la ln lk ma mn mk) (m : Mq (fun k => k = R) v v') :
    Hz v' w0.heap.size a0 m0 k0 a1 m1 k1 a2 m2 k2 a3 m3 k3 H ∧ Drawn8 v' w0.heap.size (.slice la ln lk) ∧ DrawnM v' w0.heap.size (.slice ma mn mk) ∧ Below w0.heap.size w0 v' := by
  have hb := h.hb
  have hR := h.hR
  have hs := h.g.size
  exact ⟨(h.h.mq m (fun k e1 e2 e => by omega)).mono (by omega), (h.l.mq m (fun k e1 e2 e => by omega)).mono (by omega), drawnM_mq h.m m (by omega) (by omega),
    ⟨m.os.trans h.g.os, m.tape.trans h.g.tape, m.output.trans h.g.output, Nat.le_trans h.g.size m.size, fun x hx => (m.block x (by omega) (by omega)).trans (h.g.block x hx)⟩⟩
theorem drawnM_shape {w : World} {base : Nat} {v : Value} (h : DrawnM w base v) : ∃ a n cap, v = .slice a n cap := by
  rcases h with ⟨zs, h, _⟩ | ⟨a, n, cap, rfl, _⟩
  · obtain ⟨a, c, rfl, _⟩ := h.shape; exact ⟨_, _, _, rfl⟩
  · exact ⟨_, _, _, rfl⟩
def brV (t : Bool) (x y : Int) : Int := if t then x else y
theorem r_brV {w : World} {base q : Nat} {i o : Value} {pg pc : Nat} {ps : List (Int × Int)} {g p : Nat} {zs : List Int} {X : Nat → Prop} {H : Ht} {ca ri : Int} (R : Rw w base q i o pg pc ps g p zs H ca ri X) (t : Bool) (f n : Int) :
    Calls Tryz.prog 115 #[.pointer (some ⟨q, 0, none⟩), .bool t, .int .i64 f, .int .i64 n] w fun e w' => e = .returned (.int .i64 (brV t (addV H.pc f) n)) ∧ Below w.heap.size w w' := r_branch R t f n
set_option maxRecDepth 20000 in
set_option maxHeartbeats 4000000 in
theorem do_ifSame {w : World} {base q : Nat} {i o : Value} {pg pc : Nat} {ps : List (Int × Int)} {g p : Nat} {zs : List Int} {X : Nat → Prop} {H : Ht} {ca ri : Int} (R : Rw w base q i o pg pc ps g p zs H ca ri X) (op : Int) (d a : Nat) (im : Int) (hd : d < 16) (ha : a < 16) :
    Calls Tryz.prog 75 #[.pointer (some ⟨q, 0, none⟩), .iface 159 (.agg #[.int .i64 op, .int .i64 (d : Int), .int .i64 (a : Int), .int .i64 im])] w fun e w' => e = .returned (.int .i64 (brV (gt H.regs d == gt H.regs a) (addV H.pc (offV im)) (addV H.pc 1))) ∧ Rw w' base q i o pg pc ps g p zs H ca ri X ∧ Below base w w' := by
  have HR : Hid (Rw w base q i o pg pc ps g p zs H ca ri X) := R
  have c16 : w.cell? ⟨q, 16, none⟩ = some (.int .i64 H.pc) := R.v.cell 16 rfl
  have hm := meth_ifSame (.int .i64 op) (.int .i64 (d : Int)) (.int .i64 (a : Int)) (.int .i64 im)
  have as_reckons : ∀ w, (Instr.typeAssert (.iface 159 (.agg #[.int .i64 op, .int .i64 (d : Int), .int .i64 (a : Int), .int .i64 im])) 121 153 true).run Tryz.prog w = .ok (.tuple #[.agg #[.int .i64 0, .int .i64 0, .int .i64 0, .int .i64 0], .bool false]) w := fun w => by kernel_rfl
  have as_adds : ∀ w, (Instr.typeAssert (.iface 159 (.agg #[.int .i64 op, .int .i64 (d : Int), .int .i64 (a : Int), .int .i64 im])) 121 155 true).run Tryz.prog w = .ok (.tuple #[.agg #[.int .i64 0, .int .i64 0, .int .i64 0, .int .i64 0], .bool false]) w := fun w => by kernel_rfl
  have as_lifts : ∀ w, (Instr.typeAssert (.iface 159 (.agg #[.int .i64 op, .int .i64 (d : Int), .int .i64 (a : Int), .int .i64 im])) 121 156 true).run Tryz.prog w = .ok (.tuple #[.agg #[.int .i64 0, .int .i64 0, .int .i64 0, .int .i64 0], .bool false]) w := fun w => by kernel_rfl
  have as_loads : ∀ w, (Instr.typeAssert (.iface 159 (.agg #[.int .i64 op, .int .i64 (d : Int), .int .i64 (a : Int), .int .i64 im])) 121 157 true).run Tryz.prog w = .ok (.tuple #[.agg #[.int .i64 0, .int .i64 0, .int .i64 0, .int .i64 0], .bool false]) w := fun w => by kernel_rfl
  have as_stores : ∀ w, (Instr.typeAssert (.iface 159 (.agg #[.int .i64 op, .int .i64 (d : Int), .int .i64 (a : Int), .int .i64 im])) 121 158 true).run Tryz.prog w = .ok (.tuple #[.agg #[.int .i64 0, .int .i64 0, .int .i64 0, .int .i64 0], .bool false]) w := fun w => by kernel_rfl
  have as_ifSame : ∀ w, (Instr.typeAssert (.iface 159 (.agg #[.int .i64 op, .int .i64 (d : Int), .int .i64 (a : Int), .int .i64 im])) 121 159 true).run Tryz.prog w = .ok (.tuple #[.agg #[.int .i64 op, .int .i64 (d : Int), .int .i64 (a : Int), .int .i64 im], .bool true]) w := fun w => by kernel_rfl
  have Rd : Hid (d < 16) := hd
  have Id : Hid ((d : Int) < 16) := by show _ < _; omega
  have Ra : Hid (a < 16) := ha
  have Ia : Hid ((a : Int) < 16) := by show _ < _; omega
  clear R
  go_enter Tryz.func75, Tryz.ntmps75
  go_wp2_with (go_at_call 22; refine (impl_add _ _ _).mono ?_; rintro e y ⟨rfl, hy⟩; rw [hy]; clear hy y)
  refine (i_off _ _ _ im w).mono ?_
  rintro e w1 ⟨rfl, b1⟩
  clear hm c16
  go_upto_region 20 with fail
  clear as_reckons as_adds as_lifts as_loads as_stores as_ifSame
  generalize hW : w1.alloc (.cells #[.int .i64 op, .int .i64 (d : Int), .int .i64 (a : Int), .int .i64 im] 159) = W1
  obtain ⟨n, hn⟩ : ∃ n, w1.heap.size = n := ⟨_, rfl⟩
  rw [hn]
  have VN : Hid (Vb W1 n #[.int .i64 op, .int .i64 (d : Int), .int .i64 (a : Int), .int .i64 im] 159) := by show Vb _ _ _ _; rw [← hW, ← hn]; exact Vb.new _ _ _
  have bb : Below w.heap.size w W1 := by rw [← hW]; exact al b1 _
  have R1 : Hid (Rw W1 base q i o pg pc ps g p zs H ca ri X) := HR.out.keep bb
  have B1 : Hid (Below base w W1) := bless bb HR.out.size
  have QN : Hid (n ≠ q ∧ n ≠ g ∧ ∀ k, o.ownBlock = some k → n ≠ k) := by
    have hs : w.heap.size ≤ n := by rw [← hn]; exact b1.size
    obtain ⟨bo, _, _, ho, _⟩ := HR.out.ho
    exact ⟨by have := HR.out.v.lt; omega, by have := (World.ownsRow.lt HR.out.pgs g rfl).2; omega, fun k e => by have := (ho.lt k e).2; omega⟩
  clear hW hn b1 bb
  have S0 : Hid (Vb W1.drew n #[.int .i64 op, .int .i64 (d : Int), .int .i64 (a : Int), .int .i64 im] 159 ∧ W1.drew.cell? ⟨q, d, none⟩ = some (.int .i64 (gt H.regs d)) ∧ W1.drew.cell? ⟨q, a, none⟩ = some (.int .i64 (gt H.regs a))) := ⟨VN.out, (R1.out.v.cell d (mcr_reg_at _ _ _ _ _ _ _ d Rd.out) : W1.cell? ⟨q, d, none⟩ = _), (R1.out.v.cell a (mcr_reg_at _ _ _ _ _ _ _ a Ra.out) : W1.cell? ⟨q, a, none⟩ = _)⟩
  have R0 : Hid (Rw W1.drew base q i o pg pc ps g p zs H ca ri X) := R1.out.keep (Below.refl _ _).drew
  have B0 : Hid (Below base w W1.drew) := B1.out.drew
  refine wp_region_held (S := fun w' => Vb w' n #[.int .i64 op, .int .i64 (d : Int), .int .i64 (a : Int), .int .i64 im] 159 ∧ w'.cell? ⟨q, d, none⟩ = some (.int .i64 (gt H.regs d)) ∧ w'.cell? ⟨q, a, none⟩ = some (.int .i64 (gt H.regs a))) (by kernel_rfl) ?_
  change wpAnyH _ _ _ _ _ _ _ _ (World.drew _)
  generalize W1.drew = x0 at *
  refine wpTk (i := 0) (v := .pointer (some ⟨q, 0, none⟩)) rfl (Or.inl ⟨by rfl, fun w' hs => by go_simp⟩) S0.out ?_
  change wpAnyH _ _ _ _ _ _ _ (Act.put _ (some 163) _) _
  simp only [Act.put, zT, zZ, zS]
  refine wpTk (i := 1) (v := .pointer (some ⟨q, 0, none⟩)) rfl (Or.inl ⟨by rfl, fun w' hs => by go_simp⟩) S0.out ?_
  change wpAnyH _ _ _ _ _ _ _ (Act.put _ (some 164) _) _
  simp only [Act.put, zT, zZ, zS]
  refine wpTk (i := 2) (v := .pointer (some ⟨n, 0, none⟩)) rfl (Or.inl ⟨by rfl, fun w' hs => by go_simp⟩) S0.out ?_
  change wpAnyH _ _ _ _ _ _ _ (Act.put _ (some 165) _) _
  simp only [Act.put, zT, zZ, zS]
  refine wpTk (i := 3) (v := .pointer (some ⟨n, 0, none⟩)) rfl (Or.inl ⟨by rfl, fun w' hs => by go_simp⟩) S0.out ?_
  change wpAnyH _ _ _ _ _ _ _ (Act.put _ (some 166) _) _
  simp only [Act.put, zT, zZ, zS]
  refine wpTk (i := 4) (v := .pointer (some ⟨n, 1, none⟩)) rfl (Or.inl ⟨by rfl, fun w' hs => by go_simp⟩) S0.out ?_
  change wpAnyH _ _ _ _ _ _ _ (Act.put _ (some 167) _) _
  simp only [Act.put, zT, zZ, zS]
  refine wpTk (i := 5) (v := .int .i64 (d : Int)) rfl (Or.inl ⟨by rfl, fun w' hs => by have hc := (hs.1.cell 1 rfl : w'.cell? ⟨n, 1, none⟩ = some (.int .i64 (d : Int))); go_simp⟩) S0.out ?_
  change wpAnyH _ _ _ _ _ _ _ (Act.put _ (some 168) _) _
  simp only [Act.put, zT, zZ, zS]
  refine wpTk (i := 6) (v := .pointer (some ⟨q, 0, none⟩)) rfl (Or.inl ⟨by rfl, fun w' hs => by go_simp⟩) S0.out ?_
  change wpAnyH _ _ _ _ _ _ _ (Act.put _ (some 169) _) _
  simp only [Act.put, zT, zZ, zS]
  refine wpTk (i := 7) (v := .pointer (some ⟨q, 0, none⟩)) rfl (Or.inl ⟨by rfl, fun w' hs => by go_simp⟩) S0.out ?_
  change wpAnyH _ _ _ _ _ _ _ (Act.put _ (some 170) _) _
  simp only [Act.put, zT, zZ, zS]
  refine wpTk (i := 8) (v := .pointer (some ⟨q, 0, none⟩)) rfl (Or.inl ⟨by rfl, fun w' hs => by go_simp⟩) S0.out ?_
  change wpAnyH _ _ _ _ _ _ _ (Act.put _ (some 171) _) _
  simp only [Act.put, zT, zZ, zS]
  refine wpTk (i := 9) (v := .pointer (some ⟨q, 0, none⟩)) rfl (Or.inl ⟨by rfl, fun w' hs => by go_simp⟩) S0.out ?_
  change wpAnyH _ _ _ _ _ _ _ (Act.put _ (some 172) _) _
  simp only [Act.put, zT, zZ, zS]
  refine wpTk (i := 10) (v := .pointer (some ⟨q, d, none⟩)) rfl (Or.inl ⟨by rfl, fun w' hs => by have h1 := Id.out; have h2 := Rd.out; go_simp⟩) S0.out ?_
  change wpAnyH _ _ _ _ _ _ _ (Act.put _ (some 173) _) _
  simp only [Act.put, zT, zZ, zS]
  refine wpTk (i := 11) (v := .int .i64 (gt H.regs d)) rfl (Or.inl ⟨by rfl, fun w' hs => by have hc := hs.2.1; go_simp⟩) S0.out ?_
  change wpAnyH _ _ _ _ _ _ _ (Act.put _ (some 174) _) _
  simp only [Act.put, zT, zZ, zS]
  refine wpTk (i := 12) (v := .pointer (some ⟨q, 0, none⟩)) rfl (Or.inl ⟨by rfl, fun w' hs => by go_simp⟩) S0.out ?_
  change wpAnyH _ _ _ _ _ _ _ (Act.put _ (some 175) _) _
  simp only [Act.put, zT, zZ, zS]
  refine wpTk (i := 13) (v := .pointer (some ⟨n, 0, none⟩)) rfl (Or.inl ⟨by rfl, fun w' hs => by go_simp⟩) S0.out ?_
  change wpAnyH _ _ _ _ _ _ _ (Act.put _ (some 176) _) _
  simp only [Act.put, zT, zZ, zS]
  refine wpTk (i := 14) (v := .pointer (some ⟨n, 0, none⟩)) rfl (Or.inl ⟨by rfl, fun w' hs => by go_simp⟩) S0.out ?_
  change wpAnyH _ _ _ _ _ _ _ (Act.put _ (some 177) _) _
  simp only [Act.put, zT, zZ, zS]
  refine wpTk (i := 15) (v := .pointer (some ⟨n, 2, none⟩)) rfl (Or.inl ⟨by rfl, fun w' hs => by go_simp⟩) S0.out ?_
  change wpAnyH _ _ _ _ _ _ _ (Act.put _ (some 178) _) _
  simp only [Act.put, zT, zZ, zS]
  refine wpTk (i := 16) (v := .int .i64 (a : Int)) rfl (Or.inl ⟨by rfl, fun w' hs => by have hc := (hs.1.cell 2 rfl : w'.cell? ⟨n, 2, none⟩ = some (.int .i64 (a : Int))); go_simp⟩) S0.out ?_
  change wpAnyH _ _ _ _ _ _ _ (Act.put _ (some 179) _) _
  simp only [Act.put, zT, zZ, zS]
  refine wpTk (i := 17) (v := .pointer (some ⟨q, 0, none⟩)) rfl (Or.inl ⟨by rfl, fun w' hs => by go_simp⟩) S0.out ?_
  change wpAnyH _ _ _ _ _ _ _ (Act.put _ (some 180) _) _
  simp only [Act.put, zT, zZ, zS]
  refine wpTk (i := 18) (v := .pointer (some ⟨q, 0, none⟩)) rfl (Or.inl ⟨by rfl, fun w' hs => by go_simp⟩) S0.out ?_
  change wpAnyH _ _ _ _ _ _ _ (Act.put _ (some 181) _) _
  simp only [Act.put, zT, zZ, zS]
  refine wpTk (i := 19) (v := .pointer (some ⟨q, 0, none⟩)) rfl (Or.inl ⟨by rfl, fun w' hs => by go_simp⟩) S0.out ?_
  change wpAnyH _ _ _ _ _ _ _ (Act.put _ (some 182) _) _
  simp only [Act.put, zT, zZ, zS]
  refine wpTk (i := 20) (v := .pointer (some ⟨q, 0, none⟩)) rfl (Or.inl ⟨by rfl, fun w' hs => by go_simp⟩) S0.out ?_
  change wpAnyH _ _ _ _ _ _ _ (Act.put _ (some 183) _) _
  simp only [Act.put, zT, zZ, zS]
  refine wpTk (i := 21) (v := .pointer (some ⟨q, a, none⟩)) rfl (Or.inl ⟨by rfl, fun w' hs => by have h1 := Ia.out; have h2 := Ra.out; go_simp⟩) S0.out ?_
  change wpAnyH _ _ _ _ _ _ _ (Act.put _ (some 184) _) _
  simp only [Act.put, zT, zZ, zS]
  refine wpTk (i := 22) (v := .int .i64 (gt H.regs a)) rfl (Or.inl ⟨by rfl, fun w' hs => by have hc := hs.2.2; go_simp⟩) S0.out ?_
  change wpAnyH _ _ _ _ _ _ _ (Act.put _ (some 185) _) _
  simp only [Act.put, zT, zZ, zS]
  refine wpTk (i := 23) (v := .bool (gt H.regs d == gt H.regs a)) rfl (Or.inl ⟨by rfl, fun w' hs => by go_simp⟩) S0.out ?_
  change wpAnyH _ _ _ _ _ _ _ (Act.put _ (some 186) _) _
  simp only [Act.put, zT, zZ, zS]
  refine wpTk (i := 24) (v := .int .i64 (offV im)) rfl (Or.inl ⟨by rfl, fun w' hs => by go_simp⟩) S0.out ?_
  change wpAnyH _ _ _ _ _ _ _ (Act.put _ (some 187) _) _
  simp only [Act.put, zT, zZ, zS]
  refine wpTk (i := 25) (v := .int .i64 (addV H.pc 1)) rfl (Or.inl ⟨by rfl, fun w' hs => by go_simp⟩) S0.out ?_
  change wpAnyH _ _ _ _ _ _ _ (Act.put _ (some 188) _) _
  simp only [Act.put, zT, zZ, zS]
  refine zR 26 rfl fun K hK => ?_
  rw [if_pos (by rfl)]
  go_simp
  refine (r_brV R0.out (gt H.regs d == gt H.regs a) (offV im) (addV H.pc 1)).mono ?_
  rintro e x1 ⟨rfl, b2⟩
  have R1 : Hid (Rw x1 base q i o pg pc ps g p zs H ca ri X) := R0.out.keep b2
  have B1 : Hid (Below base w x1) := B0.out.trans (bless b2 R0.out.size)
  have S1 : Hid (Vb x1 n #[.int .i64 op, .int .i64 (d : Int), .int .i64 (a : Int), .int .i64 im] 159 ∧ x1.cell? ⟨q, d, none⟩ = some (.int .i64 (gt H.regs d)) ∧ x1.cell? ⟨q, a, none⟩ = some (.int .i64 (gt H.regs a))) := ⟨S0.out.1.keep b2, cell_keep b2 S0.out.2.1, cell_keep b2 S0.out.2.2⟩
  clear b2
  refine hK.out _ _ S1.out (fun _ => ?_)
  clear hK K
  refine wpTk (i := 27) (v := .int .i64 (brV (gt H.regs d == gt H.regs a) (addV H.pc (offV im)) (addV H.pc 1))) rfl (Or.inl ⟨by rfl, fun w' hs => by go_simp⟩) S1.out ?_
  change wpAnyH _ _ _ _ _ _ _ (Act.put _ (some 4) _) _
  simp only [Act.put, zT, zZ, zS]
  refine wpAnyH_done (by kernel_rfl) ?_ _
  go_wp2_with fail
  go_ret
  exact ⟨rfl, R1.out, B1.out⟩
set_option maxRecDepth 20000 in
set_option maxHeartbeats 4000000 in
theorem do_ifOther {w : World} {base q : Nat} {i o : Value} {pg pc : Nat} {ps : List (Int × Int)} {g p : Nat} {zs : List Int} {X : Nat → Prop} {H : Ht} {ca ri : Int} (R : Rw w base q i o pg pc ps g p zs H ca ri X) (op : Int) (d a : Nat) (im : Int) (hd : d < 16) (ha : a < 16) :
    Calls Tryz.prog 75 #[.pointer (some ⟨q, 0, none⟩), .iface 161 (.agg #[.int .i64 op, .int .i64 (d : Int), .int .i64 (a : Int), .int .i64 im])] w fun e w' => e = .returned (.int .i64 (brV (gt H.regs d != gt H.regs a) (addV H.pc (offV im)) (addV H.pc 1))) ∧ Rw w' base q i o pg pc ps g p zs H ca ri X ∧ Below base w w' := by
  have HR : Hid (Rw w base q i o pg pc ps g p zs H ca ri X) := R
  have c16 : w.cell? ⟨q, 16, none⟩ = some (.int .i64 H.pc) := R.v.cell 16 rfl
  have hm := meth_ifOther (.int .i64 op) (.int .i64 (d : Int)) (.int .i64 (a : Int)) (.int .i64 im)
  have as_reckons : ∀ w, (Instr.typeAssert (.iface 161 (.agg #[.int .i64 op, .int .i64 (d : Int), .int .i64 (a : Int), .int .i64 im])) 121 153 true).run Tryz.prog w = .ok (.tuple #[.agg #[.int .i64 0, .int .i64 0, .int .i64 0, .int .i64 0], .bool false]) w := fun w => by kernel_rfl
  have as_adds : ∀ w, (Instr.typeAssert (.iface 161 (.agg #[.int .i64 op, .int .i64 (d : Int), .int .i64 (a : Int), .int .i64 im])) 121 155 true).run Tryz.prog w = .ok (.tuple #[.agg #[.int .i64 0, .int .i64 0, .int .i64 0, .int .i64 0], .bool false]) w := fun w => by kernel_rfl
  have as_lifts : ∀ w, (Instr.typeAssert (.iface 161 (.agg #[.int .i64 op, .int .i64 (d : Int), .int .i64 (a : Int), .int .i64 im])) 121 156 true).run Tryz.prog w = .ok (.tuple #[.agg #[.int .i64 0, .int .i64 0, .int .i64 0, .int .i64 0], .bool false]) w := fun w => by kernel_rfl
  have as_loads : ∀ w, (Instr.typeAssert (.iface 161 (.agg #[.int .i64 op, .int .i64 (d : Int), .int .i64 (a : Int), .int .i64 im])) 121 157 true).run Tryz.prog w = .ok (.tuple #[.agg #[.int .i64 0, .int .i64 0, .int .i64 0, .int .i64 0], .bool false]) w := fun w => by kernel_rfl
  have as_stores : ∀ w, (Instr.typeAssert (.iface 161 (.agg #[.int .i64 op, .int .i64 (d : Int), .int .i64 (a : Int), .int .i64 im])) 121 158 true).run Tryz.prog w = .ok (.tuple #[.agg #[.int .i64 0, .int .i64 0, .int .i64 0, .int .i64 0], .bool false]) w := fun w => by kernel_rfl
  have as_ifSame : ∀ w, (Instr.typeAssert (.iface 161 (.agg #[.int .i64 op, .int .i64 (d : Int), .int .i64 (a : Int), .int .i64 im])) 121 159 true).run Tryz.prog w = .ok (.tuple #[.agg #[.int .i64 0, .int .i64 0, .int .i64 0, .int .i64 0], .bool false]) w := fun w => by kernel_rfl
  have as_ifOther : ∀ w, (Instr.typeAssert (.iface 161 (.agg #[.int .i64 op, .int .i64 (d : Int), .int .i64 (a : Int), .int .i64 im])) 121 161 true).run Tryz.prog w = .ok (.tuple #[.agg #[.int .i64 op, .int .i64 (d : Int), .int .i64 (a : Int), .int .i64 im], .bool true]) w := fun w => by kernel_rfl
  have Rd : Hid (d < 16) := hd
  have Id : Hid ((d : Int) < 16) := by show _ < _; omega
  have Ra : Hid (a < 16) := ha
  have Ia : Hid ((a : Int) < 16) := by show _ < _; omega
  clear R
  go_enter Tryz.func75, Tryz.ntmps75
  go_wp2_with (go_at_call 22; refine (impl_add _ _ _).mono ?_; rintro e y ⟨rfl, hy⟩; rw [hy]; clear hy y)
  refine (i_off _ _ _ im w).mono ?_
  rintro e w1 ⟨rfl, b1⟩
  clear hm c16
  go_upto_region 23 with fail
  clear as_reckons as_adds as_lifts as_loads as_stores as_ifSame as_ifOther
  generalize hW : w1.alloc (.cells #[.int .i64 op, .int .i64 (d : Int), .int .i64 (a : Int), .int .i64 im] 161) = W1
  obtain ⟨n, hn⟩ : ∃ n, w1.heap.size = n := ⟨_, rfl⟩
  rw [hn]
  have VN : Hid (Vb W1 n #[.int .i64 op, .int .i64 (d : Int), .int .i64 (a : Int), .int .i64 im] 161) := by show Vb _ _ _ _; rw [← hW, ← hn]; exact Vb.new _ _ _
  have bb : Below w.heap.size w W1 := by rw [← hW]; exact al b1 _
  have R1 : Hid (Rw W1 base q i o pg pc ps g p zs H ca ri X) := HR.out.keep bb
  have B1 : Hid (Below base w W1) := bless bb HR.out.size
  have QN : Hid (n ≠ q ∧ n ≠ g ∧ ∀ k, o.ownBlock = some k → n ≠ k) := by
    have hs : w.heap.size ≤ n := by rw [← hn]; exact b1.size
    obtain ⟨bo, _, _, ho, _⟩ := HR.out.ho
    exact ⟨by have := HR.out.v.lt; omega, by have := (World.ownsRow.lt HR.out.pgs g rfl).2; omega, fun k e => by have := (ho.lt k e).2; omega⟩
  clear hW hn b1 bb
  have S0 : Hid (Vb W1.drew n #[.int .i64 op, .int .i64 (d : Int), .int .i64 (a : Int), .int .i64 im] 161 ∧ W1.drew.cell? ⟨q, d, none⟩ = some (.int .i64 (gt H.regs d)) ∧ W1.drew.cell? ⟨q, a, none⟩ = some (.int .i64 (gt H.regs a))) := ⟨VN.out, (R1.out.v.cell d (mcr_reg_at _ _ _ _ _ _ _ d Rd.out) : W1.cell? ⟨q, d, none⟩ = _), (R1.out.v.cell a (mcr_reg_at _ _ _ _ _ _ _ a Ra.out) : W1.cell? ⟨q, a, none⟩ = _)⟩
  have R0 : Hid (Rw W1.drew base q i o pg pc ps g p zs H ca ri X) := R1.out.keep (Below.refl _ _).drew
  have B0 : Hid (Below base w W1.drew) := B1.out.drew
  refine wp_region_held (S := fun w' => Vb w' n #[.int .i64 op, .int .i64 (d : Int), .int .i64 (a : Int), .int .i64 im] 161 ∧ w'.cell? ⟨q, d, none⟩ = some (.int .i64 (gt H.regs d)) ∧ w'.cell? ⟨q, a, none⟩ = some (.int .i64 (gt H.regs a))) (by kernel_rfl) ?_
  change wpAnyH _ _ _ _ _ _ _ _ (World.drew _)
  generalize W1.drew = x0 at *
  refine wpTk (i := 0) (v := .pointer (some ⟨q, 0, none⟩)) rfl (Or.inl ⟨by rfl, fun w' hs => by go_simp⟩) S0.out ?_
  change wpAnyH _ _ _ _ _ _ _ (Act.put _ (some 193) _) _
  simp only [Act.put, zT, zZ, zS]
  refine wpTk (i := 1) (v := .pointer (some ⟨q, 0, none⟩)) rfl (Or.inl ⟨by rfl, fun w' hs => by go_simp⟩) S0.out ?_
  change wpAnyH _ _ _ _ _ _ _ (Act.put _ (some 194) _) _
  simp only [Act.put, zT, zZ, zS]
  refine wpTk (i := 2) (v := .pointer (some ⟨n, 0, none⟩)) rfl (Or.inl ⟨by rfl, fun w' hs => by go_simp⟩) S0.out ?_
  change wpAnyH _ _ _ _ _ _ _ (Act.put _ (some 195) _) _
  simp only [Act.put, zT, zZ, zS]
  refine wpTk (i := 3) (v := .pointer (some ⟨n, 0, none⟩)) rfl (Or.inl ⟨by rfl, fun w' hs => by go_simp⟩) S0.out ?_
  change wpAnyH _ _ _ _ _ _ _ (Act.put _ (some 196) _) _
  simp only [Act.put, zT, zZ, zS]
  refine wpTk (i := 4) (v := .pointer (some ⟨n, 1, none⟩)) rfl (Or.inl ⟨by rfl, fun w' hs => by go_simp⟩) S0.out ?_
  change wpAnyH _ _ _ _ _ _ _ (Act.put _ (some 197) _) _
  simp only [Act.put, zT, zZ, zS]
  refine wpTk (i := 5) (v := .int .i64 (d : Int)) rfl (Or.inl ⟨by rfl, fun w' hs => by have hc := (hs.1.cell 1 rfl : w'.cell? ⟨n, 1, none⟩ = some (.int .i64 (d : Int))); go_simp⟩) S0.out ?_
  change wpAnyH _ _ _ _ _ _ _ (Act.put _ (some 198) _) _
  simp only [Act.put, zT, zZ, zS]
  refine wpTk (i := 6) (v := .pointer (some ⟨q, 0, none⟩)) rfl (Or.inl ⟨by rfl, fun w' hs => by go_simp⟩) S0.out ?_
  change wpAnyH _ _ _ _ _ _ _ (Act.put _ (some 199) _) _
  simp only [Act.put, zT, zZ, zS]
  refine wpTk (i := 7) (v := .pointer (some ⟨q, 0, none⟩)) rfl (Or.inl ⟨by rfl, fun w' hs => by go_simp⟩) S0.out ?_
  change wpAnyH _ _ _ _ _ _ _ (Act.put _ (some 200) _) _
  simp only [Act.put, zT, zZ, zS]
  refine wpTk (i := 8) (v := .pointer (some ⟨q, 0, none⟩)) rfl (Or.inl ⟨by rfl, fun w' hs => by go_simp⟩) S0.out ?_
  change wpAnyH _ _ _ _ _ _ _ (Act.put _ (some 201) _) _
  simp only [Act.put, zT, zZ, zS]
  refine wpTk (i := 9) (v := .pointer (some ⟨q, 0, none⟩)) rfl (Or.inl ⟨by rfl, fun w' hs => by go_simp⟩) S0.out ?_
  change wpAnyH _ _ _ _ _ _ _ (Act.put _ (some 202) _) _
  simp only [Act.put, zT, zZ, zS]
  refine wpTk (i := 10) (v := .pointer (some ⟨q, d, none⟩)) rfl (Or.inl ⟨by rfl, fun w' hs => by have h1 := Id.out; have h2 := Rd.out; go_simp⟩) S0.out ?_
  change wpAnyH _ _ _ _ _ _ _ (Act.put _ (some 203) _) _
  simp only [Act.put, zT, zZ, zS]
  refine wpTk (i := 11) (v := .int .i64 (gt H.regs d)) rfl (Or.inl ⟨by rfl, fun w' hs => by have hc := hs.2.1; go_simp⟩) S0.out ?_
  change wpAnyH _ _ _ _ _ _ _ (Act.put _ (some 204) _) _
  simp only [Act.put, zT, zZ, zS]
  refine wpTk (i := 12) (v := .pointer (some ⟨q, 0, none⟩)) rfl (Or.inl ⟨by rfl, fun w' hs => by go_simp⟩) S0.out ?_
  change wpAnyH _ _ _ _ _ _ _ (Act.put _ (some 205) _) _
  simp only [Act.put, zT, zZ, zS]
  refine wpTk (i := 13) (v := .pointer (some ⟨n, 0, none⟩)) rfl (Or.inl ⟨by rfl, fun w' hs => by go_simp⟩) S0.out ?_
  change wpAnyH _ _ _ _ _ _ _ (Act.put _ (some 206) _) _
  simp only [Act.put, zT, zZ, zS]
  refine wpTk (i := 14) (v := .pointer (some ⟨n, 0, none⟩)) rfl (Or.inl ⟨by rfl, fun w' hs => by go_simp⟩) S0.out ?_
  change wpAnyH _ _ _ _ _ _ _ (Act.put _ (some 207) _) _
  simp only [Act.put, zT, zZ, zS]
  refine wpTk (i := 15) (v := .pointer (some ⟨n, 2, none⟩)) rfl (Or.inl ⟨by rfl, fun w' hs => by go_simp⟩) S0.out ?_
  change wpAnyH _ _ _ _ _ _ _ (Act.put _ (some 208) _) _
  simp only [Act.put, zT, zZ, zS]
  refine wpTk (i := 16) (v := .int .i64 (a : Int)) rfl (Or.inl ⟨by rfl, fun w' hs => by have hc := (hs.1.cell 2 rfl : w'.cell? ⟨n, 2, none⟩ = some (.int .i64 (a : Int))); go_simp⟩) S0.out ?_
  change wpAnyH _ _ _ _ _ _ _ (Act.put _ (some 209) _) _
  simp only [Act.put, zT, zZ, zS]
  refine wpTk (i := 17) (v := .pointer (some ⟨q, 0, none⟩)) rfl (Or.inl ⟨by rfl, fun w' hs => by go_simp⟩) S0.out ?_
  change wpAnyH _ _ _ _ _ _ _ (Act.put _ (some 210) _) _
  simp only [Act.put, zT, zZ, zS]
  refine wpTk (i := 18) (v := .pointer (some ⟨q, 0, none⟩)) rfl (Or.inl ⟨by rfl, fun w' hs => by go_simp⟩) S0.out ?_
  change wpAnyH _ _ _ _ _ _ _ (Act.put _ (some 211) _) _
  simp only [Act.put, zT, zZ, zS]
  refine wpTk (i := 19) (v := .pointer (some ⟨q, 0, none⟩)) rfl (Or.inl ⟨by rfl, fun w' hs => by go_simp⟩) S0.out ?_
  change wpAnyH _ _ _ _ _ _ _ (Act.put _ (some 212) _) _
  simp only [Act.put, zT, zZ, zS]
  refine wpTk (i := 20) (v := .pointer (some ⟨q, 0, none⟩)) rfl (Or.inl ⟨by rfl, fun w' hs => by go_simp⟩) S0.out ?_
  change wpAnyH _ _ _ _ _ _ _ (Act.put _ (some 213) _) _
  simp only [Act.put, zT, zZ, zS]
  refine wpTk (i := 21) (v := .pointer (some ⟨q, a, none⟩)) rfl (Or.inl ⟨by rfl, fun w' hs => by have h1 := Ia.out; have h2 := Ra.out; go_simp⟩) S0.out ?_
  change wpAnyH _ _ _ _ _ _ _ (Act.put _ (some 214) _) _
  simp only [Act.put, zT, zZ, zS]
  refine wpTk (i := 22) (v := .int .i64 (gt H.regs a)) rfl (Or.inl ⟨by rfl, fun w' hs => by have hc := hs.2.2; go_simp⟩) S0.out ?_
  change wpAnyH _ _ _ _ _ _ _ (Act.put _ (some 215) _) _
  simp only [Act.put, zT, zZ, zS]
  refine wpTk (i := 23) (v := .bool (gt H.regs d != gt H.regs a)) rfl (Or.inl ⟨by rfl, fun w' hs => by go_simp⟩) S0.out ?_
  change wpAnyH _ _ _ _ _ _ _ (Act.put _ (some 216) _) _
  simp only [Act.put, zT, zZ, zS]
  refine wpTk (i := 24) (v := .int .i64 (offV im)) rfl (Or.inl ⟨by rfl, fun w' hs => by go_simp⟩) S0.out ?_
  change wpAnyH _ _ _ _ _ _ _ (Act.put _ (some 217) _) _
  simp only [Act.put, zT, zZ, zS]
  refine wpTk (i := 25) (v := .int .i64 (addV H.pc 1)) rfl (Or.inl ⟨by rfl, fun w' hs => by go_simp⟩) S0.out ?_
  change wpAnyH _ _ _ _ _ _ _ (Act.put _ (some 218) _) _
  simp only [Act.put, zT, zZ, zS]
  refine zR 26 rfl fun K hK => ?_
  rw [if_pos (by rfl)]
  go_simp
  refine (r_brV R0.out (gt H.regs d != gt H.regs a) (offV im) (addV H.pc 1)).mono ?_
  rintro e x1 ⟨rfl, b2⟩
  have R1 : Hid (Rw x1 base q i o pg pc ps g p zs H ca ri X) := R0.out.keep b2
  have B1 : Hid (Below base w x1) := B0.out.trans (bless b2 R0.out.size)
  have S1 : Hid (Vb x1 n #[.int .i64 op, .int .i64 (d : Int), .int .i64 (a : Int), .int .i64 im] 161 ∧ x1.cell? ⟨q, d, none⟩ = some (.int .i64 (gt H.regs d)) ∧ x1.cell? ⟨q, a, none⟩ = some (.int .i64 (gt H.regs a))) := ⟨S0.out.1.keep b2, cell_keep b2 S0.out.2.1, cell_keep b2 S0.out.2.2⟩
  clear b2
  refine hK.out _ _ S1.out (fun _ => ?_)
  clear hK K
  refine wpTk (i := 27) (v := .int .i64 (brV (gt H.regs d != gt H.regs a) (addV H.pc (offV im)) (addV H.pc 1))) rfl (Or.inl ⟨by rfl, fun w' hs => by go_simp⟩) S1.out ?_
  change wpAnyH _ _ _ _ _ _ _ (Act.put _ (some 4) _) _
  simp only [Act.put, zT, zZ, zS]
  refine wpAnyH_done (by kernel_rfl) ?_ _
  go_wp2_with fail
  go_ret
  exact ⟨rfl, R1.out, B1.out⟩
set_option maxRecDepth 20000 in
set_option maxHeartbeats 4000000 in
theorem do_ifLess {w : World} {base q : Nat} {i o : Value} {pg pc : Nat} {ps : List (Int × Int)} {g p : Nat} {zs : List Int} {X : Nat → Prop} {H : Ht} {ca ri : Int} (R : Rw w base q i o pg pc ps g p zs H ca ri X) (op : Int) (d a : Nat) (im : Int) (hd : d < 16) (ha : a < 16) :
    Calls Tryz.prog 75 #[.pointer (some ⟨q, 0, none⟩), .iface 162 (.agg #[.int .i64 op, .int .i64 (d : Int), .int .i64 (a : Int), .int .i64 im])] w fun e w' => e = .returned (.int .i64 (brV (decide (sgn (gt H.regs d) < sgn (gt H.regs a))) (addV H.pc (offV im)) (addV H.pc 1))) ∧ Rw w' base q i o pg pc ps g p zs H ca ri X ∧ Below base w w' := by
  have HR : Hid (Rw w base q i o pg pc ps g p zs H ca ri X) := R
  have c16 : w.cell? ⟨q, 16, none⟩ = some (.int .i64 H.pc) := R.v.cell 16 rfl
  have hm := meth_ifLess (.int .i64 op) (.int .i64 (d : Int)) (.int .i64 (a : Int)) (.int .i64 im)
  have as_reckons : ∀ w, (Instr.typeAssert (.iface 162 (.agg #[.int .i64 op, .int .i64 (d : Int), .int .i64 (a : Int), .int .i64 im])) 121 153 true).run Tryz.prog w = .ok (.tuple #[.agg #[.int .i64 0, .int .i64 0, .int .i64 0, .int .i64 0], .bool false]) w := fun w => by kernel_rfl
  have as_adds : ∀ w, (Instr.typeAssert (.iface 162 (.agg #[.int .i64 op, .int .i64 (d : Int), .int .i64 (a : Int), .int .i64 im])) 121 155 true).run Tryz.prog w = .ok (.tuple #[.agg #[.int .i64 0, .int .i64 0, .int .i64 0, .int .i64 0], .bool false]) w := fun w => by kernel_rfl
  have as_lifts : ∀ w, (Instr.typeAssert (.iface 162 (.agg #[.int .i64 op, .int .i64 (d : Int), .int .i64 (a : Int), .int .i64 im])) 121 156 true).run Tryz.prog w = .ok (.tuple #[.agg #[.int .i64 0, .int .i64 0, .int .i64 0, .int .i64 0], .bool false]) w := fun w => by kernel_rfl
  have as_loads : ∀ w, (Instr.typeAssert (.iface 162 (.agg #[.int .i64 op, .int .i64 (d : Int), .int .i64 (a : Int), .int .i64 im])) 121 157 true).run Tryz.prog w = .ok (.tuple #[.agg #[.int .i64 0, .int .i64 0, .int .i64 0, .int .i64 0], .bool false]) w := fun w => by kernel_rfl
  have as_stores : ∀ w, (Instr.typeAssert (.iface 162 (.agg #[.int .i64 op, .int .i64 (d : Int), .int .i64 (a : Int), .int .i64 im])) 121 158 true).run Tryz.prog w = .ok (.tuple #[.agg #[.int .i64 0, .int .i64 0, .int .i64 0, .int .i64 0], .bool false]) w := fun w => by kernel_rfl
  have as_ifSame : ∀ w, (Instr.typeAssert (.iface 162 (.agg #[.int .i64 op, .int .i64 (d : Int), .int .i64 (a : Int), .int .i64 im])) 121 159 true).run Tryz.prog w = .ok (.tuple #[.agg #[.int .i64 0, .int .i64 0, .int .i64 0, .int .i64 0], .bool false]) w := fun w => by kernel_rfl
  have as_ifOther : ∀ w, (Instr.typeAssert (.iface 162 (.agg #[.int .i64 op, .int .i64 (d : Int), .int .i64 (a : Int), .int .i64 im])) 121 161 true).run Tryz.prog w = .ok (.tuple #[.agg #[.int .i64 0, .int .i64 0, .int .i64 0, .int .i64 0], .bool false]) w := fun w => by kernel_rfl
  have as_ifLess : ∀ w, (Instr.typeAssert (.iface 162 (.agg #[.int .i64 op, .int .i64 (d : Int), .int .i64 (a : Int), .int .i64 im])) 121 162 true).run Tryz.prog w = .ok (.tuple #[.agg #[.int .i64 op, .int .i64 (d : Int), .int .i64 (a : Int), .int .i64 im], .bool true]) w := fun w => by kernel_rfl
  have Rd : Hid (d < 16) := hd
  have Id : Hid ((d : Int) < 16) := by show _ < _; omega
  have Ra : Hid (a < 16) := ha
  have Ia : Hid ((a : Int) < 16) := by show _ < _; omega
  clear R
  go_enter Tryz.func75, Tryz.ntmps75
  go_wp2_with (go_at_call 22; refine (impl_add _ _ _).mono ?_; rintro e y ⟨rfl, hy⟩; rw [hy]; clear hy y)
  refine (i_off _ _ _ im w).mono ?_
  rintro e w1 ⟨rfl, b1⟩
  clear hm c16
  go_upto_region 26 with fail
  clear as_reckons as_adds as_lifts as_loads as_stores as_ifSame as_ifOther as_ifLess
  generalize hW : w1.alloc (.cells #[.int .i64 op, .int .i64 (d : Int), .int .i64 (a : Int), .int .i64 im] 162) = W1
  obtain ⟨n, hn⟩ : ∃ n, w1.heap.size = n := ⟨_, rfl⟩
  rw [hn]
  have VN : Hid (Vb W1 n #[.int .i64 op, .int .i64 (d : Int), .int .i64 (a : Int), .int .i64 im] 162) := by show Vb _ _ _ _; rw [← hW, ← hn]; exact Vb.new _ _ _
  have bb : Below w.heap.size w W1 := by rw [← hW]; exact al b1 _
  have R1 : Hid (Rw W1 base q i o pg pc ps g p zs H ca ri X) := HR.out.keep bb
  have B1 : Hid (Below base w W1) := bless bb HR.out.size
  have QN : Hid (n ≠ q ∧ n ≠ g ∧ ∀ k, o.ownBlock = some k → n ≠ k) := by
    have hs : w.heap.size ≤ n := by rw [← hn]; exact b1.size
    obtain ⟨bo, _, _, ho, _⟩ := HR.out.ho
    exact ⟨by have := HR.out.v.lt; omega, by have := (World.ownsRow.lt HR.out.pgs g rfl).2; omega, fun k e => by have := (ho.lt k e).2; omega⟩
  clear hW hn b1 bb
  have S0 : Hid (Vb W1.drew n #[.int .i64 op, .int .i64 (d : Int), .int .i64 (a : Int), .int .i64 im] 162 ∧ W1.drew.cell? ⟨q, d, none⟩ = some (.int .i64 (gt H.regs d)) ∧ W1.drew.cell? ⟨q, a, none⟩ = some (.int .i64 (gt H.regs a))) := ⟨VN.out, (R1.out.v.cell d (mcr_reg_at _ _ _ _ _ _ _ d Rd.out) : W1.cell? ⟨q, d, none⟩ = _), (R1.out.v.cell a (mcr_reg_at _ _ _ _ _ _ _ a Ra.out) : W1.cell? ⟨q, a, none⟩ = _)⟩
  have R0 : Hid (Rw W1.drew base q i o pg pc ps g p zs H ca ri X) := R1.out.keep (Below.refl _ _).drew
  have B0 : Hid (Below base w W1.drew) := B1.out.drew
  refine wp_region_held (S := fun w' => Vb w' n #[.int .i64 op, .int .i64 (d : Int), .int .i64 (a : Int), .int .i64 im] 162 ∧ w'.cell? ⟨q, d, none⟩ = some (.int .i64 (gt H.regs d)) ∧ w'.cell? ⟨q, a, none⟩ = some (.int .i64 (gt H.regs a))) (by kernel_rfl) ?_
  change wpAnyH _ _ _ _ _ _ _ _ (World.drew _)
  generalize W1.drew = x0 at *
  refine wpTk (i := 0) (v := .pointer (some ⟨q, 0, none⟩)) rfl (Or.inl ⟨by rfl, fun w' hs => by go_simp⟩) S0.out ?_
  change wpAnyH _ _ _ _ _ _ _ (Act.put _ (some 223) _) _
  simp only [Act.put, zT, zZ, zS]
  refine wpTk (i := 1) (v := .pointer (some ⟨q, 0, none⟩)) rfl (Or.inl ⟨by rfl, fun w' hs => by go_simp⟩) S0.out ?_
  change wpAnyH _ _ _ _ _ _ _ (Act.put _ (some 224) _) _
  simp only [Act.put, zT, zZ, zS]
  refine wpTk (i := 2) (v := .pointer (some ⟨n, 0, none⟩)) rfl (Or.inl ⟨by rfl, fun w' hs => by go_simp⟩) S0.out ?_
  change wpAnyH _ _ _ _ _ _ _ (Act.put _ (some 225) _) _
  simp only [Act.put, zT, zZ, zS]
  refine wpTk (i := 3) (v := .pointer (some ⟨n, 0, none⟩)) rfl (Or.inl ⟨by rfl, fun w' hs => by go_simp⟩) S0.out ?_
  change wpAnyH _ _ _ _ _ _ _ (Act.put _ (some 226) _) _
  simp only [Act.put, zT, zZ, zS]
  refine wpTk (i := 4) (v := .pointer (some ⟨n, 1, none⟩)) rfl (Or.inl ⟨by rfl, fun w' hs => by go_simp⟩) S0.out ?_
  change wpAnyH _ _ _ _ _ _ _ (Act.put _ (some 227) _) _
  simp only [Act.put, zT, zZ, zS]
  refine wpTk (i := 5) (v := .int .i64 (d : Int)) rfl (Or.inl ⟨by rfl, fun w' hs => by have hc := (hs.1.cell 1 rfl : w'.cell? ⟨n, 1, none⟩ = some (.int .i64 (d : Int))); go_simp⟩) S0.out ?_
  change wpAnyH _ _ _ _ _ _ _ (Act.put _ (some 228) _) _
  simp only [Act.put, zT, zZ, zS]
  refine wpTk (i := 6) (v := .pointer (some ⟨q, 0, none⟩)) rfl (Or.inl ⟨by rfl, fun w' hs => by go_simp⟩) S0.out ?_
  change wpAnyH _ _ _ _ _ _ _ (Act.put _ (some 229) _) _
  simp only [Act.put, zT, zZ, zS]
  refine wpTk (i := 7) (v := .pointer (some ⟨q, 0, none⟩)) rfl (Or.inl ⟨by rfl, fun w' hs => by go_simp⟩) S0.out ?_
  change wpAnyH _ _ _ _ _ _ _ (Act.put _ (some 230) _) _
  simp only [Act.put, zT, zZ, zS]
  refine wpTk (i := 8) (v := .pointer (some ⟨q, 0, none⟩)) rfl (Or.inl ⟨by rfl, fun w' hs => by go_simp⟩) S0.out ?_
  change wpAnyH _ _ _ _ _ _ _ (Act.put _ (some 231) _) _
  simp only [Act.put, zT, zZ, zS]
  refine wpTk (i := 9) (v := .pointer (some ⟨q, 0, none⟩)) rfl (Or.inl ⟨by rfl, fun w' hs => by go_simp⟩) S0.out ?_
  change wpAnyH _ _ _ _ _ _ _ (Act.put _ (some 232) _) _
  simp only [Act.put, zT, zZ, zS]
  refine wpTk (i := 10) (v := .pointer (some ⟨q, d, none⟩)) rfl (Or.inl ⟨by rfl, fun w' hs => by have h1 := Id.out; have h2 := Rd.out; go_simp⟩) S0.out ?_
  change wpAnyH _ _ _ _ _ _ _ (Act.put _ (some 233) _) _
  simp only [Act.put, zT, zZ, zS]
  refine wpTk (i := 11) (v := .int .i64 (gt H.regs d)) rfl (Or.inl ⟨by rfl, fun w' hs => by have hc := hs.2.1; go_simp⟩) S0.out ?_
  change wpAnyH _ _ _ _ _ _ _ (Act.put _ (some 234) _) _
  simp only [Act.put, zT, zZ, zS]
  refine wpTk (i := 13) (v := .pointer (some ⟨q, 0, none⟩)) rfl (Or.inl ⟨by rfl, fun w' hs => by go_simp⟩) S0.out ?_
  change wpAnyH _ _ _ _ _ _ _ (Act.put _ (some 236) _) _
  simp only [Act.put, zT, zZ, zS]
  refine wpTk (i := 14) (v := .pointer (some ⟨n, 0, none⟩)) rfl (Or.inl ⟨by rfl, fun w' hs => by go_simp⟩) S0.out ?_
  change wpAnyH _ _ _ _ _ _ _ (Act.put _ (some 237) _) _
  simp only [Act.put, zT, zZ, zS]
  refine wpTk (i := 15) (v := .pointer (some ⟨n, 0, none⟩)) rfl (Or.inl ⟨by rfl, fun w' hs => by go_simp⟩) S0.out ?_
  change wpAnyH _ _ _ _ _ _ _ (Act.put _ (some 238) _) _
  simp only [Act.put, zT, zZ, zS]
  refine wpTk (i := 16) (v := .pointer (some ⟨n, 2, none⟩)) rfl (Or.inl ⟨by rfl, fun w' hs => by go_simp⟩) S0.out ?_
  change wpAnyH _ _ _ _ _ _ _ (Act.put _ (some 239) _) _
  simp only [Act.put, zT, zZ, zS]
  refine wpTk (i := 17) (v := .int .i64 (a : Int)) rfl (Or.inl ⟨by rfl, fun w' hs => by have hc := (hs.1.cell 2 rfl : w'.cell? ⟨n, 2, none⟩ = some (.int .i64 (a : Int))); go_simp⟩) S0.out ?_
  change wpAnyH _ _ _ _ _ _ _ (Act.put _ (some 240) _) _
  simp only [Act.put, zT, zZ, zS]
  refine wpTk (i := 18) (v := .pointer (some ⟨q, 0, none⟩)) rfl (Or.inl ⟨by rfl, fun w' hs => by go_simp⟩) S0.out ?_
  change wpAnyH _ _ _ _ _ _ _ (Act.put _ (some 241) _) _
  simp only [Act.put, zT, zZ, zS]
  refine wpTk (i := 19) (v := .pointer (some ⟨q, 0, none⟩)) rfl (Or.inl ⟨by rfl, fun w' hs => by go_simp⟩) S0.out ?_
  change wpAnyH _ _ _ _ _ _ _ (Act.put _ (some 242) _) _
  simp only [Act.put, zT, zZ, zS]
  refine wpTk (i := 20) (v := .pointer (some ⟨q, 0, none⟩)) rfl (Or.inl ⟨by rfl, fun w' hs => by go_simp⟩) S0.out ?_
  change wpAnyH _ _ _ _ _ _ _ (Act.put _ (some 243) _) _
  simp only [Act.put, zT, zZ, zS]
  refine wpTk (i := 21) (v := .pointer (some ⟨q, 0, none⟩)) rfl (Or.inl ⟨by rfl, fun w' hs => by go_simp⟩) S0.out ?_
  change wpAnyH _ _ _ _ _ _ _ (Act.put _ (some 244) _) _
  simp only [Act.put, zT, zZ, zS]
  refine wpTk (i := 22) (v := .pointer (some ⟨q, a, none⟩)) rfl (Or.inl ⟨by rfl, fun w' hs => by have h1 := Ia.out; have h2 := Ra.out; go_simp⟩) S0.out ?_
  change wpAnyH _ _ _ _ _ _ _ (Act.put _ (some 245) _) _
  simp only [Act.put, zT, zZ, zS]
  refine wpTk (i := 23) (v := .int .i64 (gt H.regs a)) rfl (Or.inl ⟨by rfl, fun w' hs => by have hc := hs.2.2; go_simp⟩) S0.out ?_
  change wpAnyH _ _ _ _ _ _ _ (Act.put _ (some 246) _) _
  simp only [Act.put, zT, zZ, zS]
  refine wpTk (i := 26) (v := .int .i64 (offV im)) rfl (Or.inl ⟨by rfl, fun w' hs => by go_simp⟩) S0.out ?_
  change wpAnyH _ _ _ _ _ _ _ (Act.put _ (some 249) _) _
  simp only [Act.put, zT, zZ, zS]
  refine wpTk (i := 27) (v := .int .i64 (addV H.pc 1)) rfl (Or.inl ⟨by rfl, fun w' hs => by go_simp⟩) S0.out ?_
  change wpAnyH _ _ _ _ _ _ _ (Act.put _ (some 250) _) _
  simp only [Act.put, zT, zZ, zS]
  refine zR 12 rfl fun K hK => ?_
  rw [if_pos (by rfl)]
  go_simp
  refine (impl_signed _ _).mono ?_
  rintro e y ⟨rfl, hy⟩
  rw [hy]
  clear hy y
  refine hK.out _ _ S0.out (fun _ => ?_)
  clear hK K
  refine zR 24 rfl fun K hK => ?_
  rw [if_pos (by rfl)]
  go_simp
  refine (impl_signed _ _).mono ?_
  rintro e y ⟨rfl, hy⟩
  rw [hy]
  clear hy y
  refine hK.out _ _ S0.out (fun _ => ?_)
  clear hK K
  refine wpTk (i := 25) (v := .bool (decide (sgn (gt H.regs d) < sgn (gt H.regs a)))) rfl (Or.inl ⟨by rfl, fun w' hs => by go_simp⟩) S0.out ?_
  change wpAnyH _ _ _ _ _ _ _ (Act.put _ (some 248) _) _
  simp only [Act.put, zT, zZ, zS]
  refine zR 28 rfl fun K hK => ?_
  rw [if_pos (by rfl)]
  go_simp
  refine (r_brV R0.out (decide (sgn (gt H.regs d) < sgn (gt H.regs a))) (offV im) (addV H.pc 1)).mono ?_
  rintro e x1 ⟨rfl, b2⟩
  have R1 : Hid (Rw x1 base q i o pg pc ps g p zs H ca ri X) := R0.out.keep b2
  have B1 : Hid (Below base w x1) := B0.out.trans (bless b2 R0.out.size)
  have S1 : Hid (Vb x1 n #[.int .i64 op, .int .i64 (d : Int), .int .i64 (a : Int), .int .i64 im] 162 ∧ x1.cell? ⟨q, d, none⟩ = some (.int .i64 (gt H.regs d)) ∧ x1.cell? ⟨q, a, none⟩ = some (.int .i64 (gt H.regs a))) := ⟨S0.out.1.keep b2, cell_keep b2 S0.out.2.1, cell_keep b2 S0.out.2.2⟩
  clear b2
  refine hK.out _ _ S1.out (fun _ => ?_)
  clear hK K
  refine wpTk (i := 29) (v := .int .i64 (brV (decide (sgn (gt H.regs d) < sgn (gt H.regs a))) (addV H.pc (offV im)) (addV H.pc 1))) rfl (Or.inl ⟨by rfl, fun w' hs => by go_simp⟩) S1.out ?_
  change wpAnyH _ _ _ _ _ _ _ (Act.put _ (some 4) _) _
  simp only [Act.put, zT, zZ, zS]
  refine wpAnyH_done (by kernel_rfl) ?_ _
  go_wp2_with fail
  go_ret
  exact ⟨rfl, R1.out, B1.out⟩
set_option maxRecDepth 20000 in
set_option maxHeartbeats 4000000 in
theorem do_jumpsBy {w : World} {base q : Nat} {i o : Value} {pg pc : Nat} {ps : List (Int × Int)} {g p : Nat} {zs : List Int} {X : Nat → Prop} {H : Ht} {ca ri : Int} (R : Rw w base q i o pg pc ps g p zs H ca ri X) (op : Int) (d a : Nat) (im : Int) (hd : d < 16) (ha : a < 16) :
    Calls Tryz.prog 75 #[.pointer (some ⟨q, 0, none⟩), .iface 164 (.agg #[.int .i64 op, .int .i64 (d : Int), .int .i64 (a : Int), .int .i64 im])] w fun e w' => e = .returned (.int .i64 (addV (gt H.regs a) (offV im))) ∧ Rw w' base q i o pg pc ps g p zs (putV H d (addV H.pc 1)) ca ri X ∧ Below base w w' := by
  have HR : Hid (Rw w base q i o pg pc ps g p zs H ca ri X) := R
  have c16 : w.cell? ⟨q, 16, none⟩ = some (.int .i64 H.pc) := R.v.cell 16 rfl
  have hm := meth_jumpsBy (.int .i64 op) (.int .i64 (d : Int)) (.int .i64 (a : Int)) (.int .i64 im)
  have as_reckons : ∀ w, (Instr.typeAssert (.iface 164 (.agg #[.int .i64 op, .int .i64 (d : Int), .int .i64 (a : Int), .int .i64 im])) 121 153 true).run Tryz.prog w = .ok (.tuple #[.agg #[.int .i64 0, .int .i64 0, .int .i64 0, .int .i64 0], .bool false]) w := fun w => by kernel_rfl
  have as_adds : ∀ w, (Instr.typeAssert (.iface 164 (.agg #[.int .i64 op, .int .i64 (d : Int), .int .i64 (a : Int), .int .i64 im])) 121 155 true).run Tryz.prog w = .ok (.tuple #[.agg #[.int .i64 0, .int .i64 0, .int .i64 0, .int .i64 0], .bool false]) w := fun w => by kernel_rfl
  have as_lifts : ∀ w, (Instr.typeAssert (.iface 164 (.agg #[.int .i64 op, .int .i64 (d : Int), .int .i64 (a : Int), .int .i64 im])) 121 156 true).run Tryz.prog w = .ok (.tuple #[.agg #[.int .i64 0, .int .i64 0, .int .i64 0, .int .i64 0], .bool false]) w := fun w => by kernel_rfl
  have as_loads : ∀ w, (Instr.typeAssert (.iface 164 (.agg #[.int .i64 op, .int .i64 (d : Int), .int .i64 (a : Int), .int .i64 im])) 121 157 true).run Tryz.prog w = .ok (.tuple #[.agg #[.int .i64 0, .int .i64 0, .int .i64 0, .int .i64 0], .bool false]) w := fun w => by kernel_rfl
  have as_stores : ∀ w, (Instr.typeAssert (.iface 164 (.agg #[.int .i64 op, .int .i64 (d : Int), .int .i64 (a : Int), .int .i64 im])) 121 158 true).run Tryz.prog w = .ok (.tuple #[.agg #[.int .i64 0, .int .i64 0, .int .i64 0, .int .i64 0], .bool false]) w := fun w => by kernel_rfl
  have as_ifSame : ∀ w, (Instr.typeAssert (.iface 164 (.agg #[.int .i64 op, .int .i64 (d : Int), .int .i64 (a : Int), .int .i64 im])) 121 159 true).run Tryz.prog w = .ok (.tuple #[.agg #[.int .i64 0, .int .i64 0, .int .i64 0, .int .i64 0], .bool false]) w := fun w => by kernel_rfl
  have as_ifOther : ∀ w, (Instr.typeAssert (.iface 164 (.agg #[.int .i64 op, .int .i64 (d : Int), .int .i64 (a : Int), .int .i64 im])) 121 161 true).run Tryz.prog w = .ok (.tuple #[.agg #[.int .i64 0, .int .i64 0, .int .i64 0, .int .i64 0], .bool false]) w := fun w => by kernel_rfl
  have as_ifLess : ∀ w, (Instr.typeAssert (.iface 164 (.agg #[.int .i64 op, .int .i64 (d : Int), .int .i64 (a : Int), .int .i64 im])) 121 162 true).run Tryz.prog w = .ok (.tuple #[.agg #[.int .i64 0, .int .i64 0, .int .i64 0, .int .i64 0], .bool false]) w := fun w => by kernel_rfl
  have as_jumps : ∀ w, (Instr.typeAssert (.iface 164 (.agg #[.int .i64 op, .int .i64 (d : Int), .int .i64 (a : Int), .int .i64 im])) 121 163 true).run Tryz.prog w = .ok (.tuple #[.agg #[.int .i64 0, .int .i64 0, .int .i64 0, .int .i64 0], .bool false]) w := fun w => by kernel_rfl
  have as_jumpsBy : ∀ w, (Instr.typeAssert (.iface 164 (.agg #[.int .i64 op, .int .i64 (d : Int), .int .i64 (a : Int), .int .i64 im])) 121 164 true).run Tryz.prog w = .ok (.tuple #[.agg #[.int .i64 op, .int .i64 (d : Int), .int .i64 (a : Int), .int .i64 im], .bool true]) w := fun w => by kernel_rfl
  have Rd : Hid (d < 16) := hd
  have Id : Hid ((d : Int) < 16) := by show _ < _; omega
  have Ra : Hid (a < 16) := ha
  have Ia : Hid ((a : Int) < 16) := by show _ < _; omega
  clear R
  go_enter Tryz.func75, Tryz.ntmps75
  go_wp2_with (go_at_call 22; refine (impl_add _ _ _).mono ?_; rintro e y ⟨rfl, hy⟩; rw [hy]; clear hy y)
  refine (i_off _ _ _ im w).mono ?_
  rintro e w1 ⟨rfl, b1⟩
  clear hm c16
  go_upto_region 33 with fail
  clear as_reckons as_adds as_lifts as_loads as_stores as_ifSame as_ifOther as_ifLess as_jumps as_jumpsBy
  generalize hW : w1.alloc (.cells #[.int .i64 op, .int .i64 (d : Int), .int .i64 (a : Int), .int .i64 im] 164) = W1
  obtain ⟨n, hn⟩ : ∃ n, w1.heap.size = n := ⟨_, rfl⟩
  rw [hn]
  have VN : Hid (Vb W1 n #[.int .i64 op, .int .i64 (d : Int), .int .i64 (a : Int), .int .i64 im] 164) := by show Vb _ _ _ _; rw [← hW, ← hn]; exact Vb.new _ _ _
  have bb : Below w.heap.size w W1 := by rw [← hW]; exact al b1 _
  have R1 : Hid (Rw W1 base q i o pg pc ps g p zs H ca ri X) := HR.out.keep bb
  have B1 : Hid (Below base w W1) := bless bb HR.out.size
  have QN : Hid (n ≠ q ∧ n ≠ g ∧ ∀ k, o.ownBlock = some k → n ≠ k) := by
    have hs : w.heap.size ≤ n := by rw [← hn]; exact b1.size
    obtain ⟨bo, _, _, ho, _⟩ := HR.out.ho
    exact ⟨by have := HR.out.v.lt; omega, by have := (World.ownsRow.lt HR.out.pgs g rfl).2; omega, fun k e => by have := (ho.lt k e).2; omega⟩
  clear hW hn b1 bb
  have S0 : Hid (Vb W1.drew n #[.int .i64 op, .int .i64 (d : Int), .int .i64 (a : Int), .int .i64 im] 164 ∧ W1.drew.cell? ⟨q, a, none⟩ = some (.int .i64 (gt H.regs a))) := ⟨VN.out, (R1.out.v.cell a (mcr_reg_at _ _ _ _ _ _ _ a Ra.out) : W1.cell? ⟨q, a, none⟩ = _)⟩
  have R0 : Hid (Rw W1.drew base q i o pg pc ps g p zs H ca ri X) := R1.out.keep (Below.refl _ _).drew
  have B0 : Hid (Below base w W1.drew) := B1.out.drew
  refine wp_region_held (S := fun w' => Vb w' n #[.int .i64 op, .int .i64 (d : Int), .int .i64 (a : Int), .int .i64 im] 164 ∧ w'.cell? ⟨q, a, none⟩ = some (.int .i64 (gt H.regs a))) (by kernel_rfl) ?_
  change wpAnyH _ _ _ _ _ _ _ _ (World.drew _)
  generalize W1.drew = x0 at *
  refine wpTk (i := 0) (v := .pointer (some ⟨q, 0, none⟩)) rfl (Or.inl ⟨by rfl, fun w' hs => by go_simp⟩) S0.out ?_
  change wpAnyH _ _ _ _ _ _ _ (Act.put _ (some 273) _) _
  simp only [Act.put, zT, zZ, zS]
  refine wpTk (i := 1) (v := .pointer (some ⟨n, 0, none⟩)) rfl (Or.inl ⟨by rfl, fun w' hs => by go_simp⟩) S0.out ?_
  change wpAnyH _ _ _ _ _ _ _ (Act.put _ (some 274) _) _
  simp only [Act.put, zT, zZ, zS]
  refine wpTk (i := 2) (v := .pointer (some ⟨n, 0, none⟩)) rfl (Or.inl ⟨by rfl, fun w' hs => by go_simp⟩) S0.out ?_
  change wpAnyH _ _ _ _ _ _ _ (Act.put _ (some 275) _) _
  simp only [Act.put, zT, zZ, zS]
  refine wpTk (i := 3) (v := .pointer (some ⟨n, 2, none⟩)) rfl (Or.inl ⟨by rfl, fun w' hs => by go_simp⟩) S0.out ?_
  change wpAnyH _ _ _ _ _ _ _ (Act.put _ (some 276) _) _
  simp only [Act.put, zT, zZ, zS]
  refine wpTk (i := 4) (v := .int .i64 (a : Int)) rfl (Or.inl ⟨by rfl, fun w' hs => by have hc := (hs.1.cell 2 rfl : w'.cell? ⟨n, 2, none⟩ = some (.int .i64 (a : Int))); go_simp⟩) S0.out ?_
  change wpAnyH _ _ _ _ _ _ _ (Act.put _ (some 277) _) _
  simp only [Act.put, zT, zZ, zS]
  refine wpTk (i := 5) (v := .pointer (some ⟨q, 0, none⟩)) rfl (Or.inl ⟨by rfl, fun w' hs => by go_simp⟩) S0.out ?_
  change wpAnyH _ _ _ _ _ _ _ (Act.put _ (some 278) _) _
  simp only [Act.put, zT, zZ, zS]
  refine wpTk (i := 6) (v := .pointer (some ⟨q, 0, none⟩)) rfl (Or.inl ⟨by rfl, fun w' hs => by go_simp⟩) S0.out ?_
  change wpAnyH _ _ _ _ _ _ _ (Act.put _ (some 279) _) _
  simp only [Act.put, zT, zZ, zS]
  refine wpTk (i := 7) (v := .pointer (some ⟨q, 0, none⟩)) rfl (Or.inl ⟨by rfl, fun w' hs => by go_simp⟩) S0.out ?_
  change wpAnyH _ _ _ _ _ _ _ (Act.put _ (some 280) _) _
  simp only [Act.put, zT, zZ, zS]
  refine wpTk (i := 8) (v := .pointer (some ⟨q, 0, none⟩)) rfl (Or.inl ⟨by rfl, fun w' hs => by go_simp⟩) S0.out ?_
  change wpAnyH _ _ _ _ _ _ _ (Act.put _ (some 281) _) _
  simp only [Act.put, zT, zZ, zS]
  refine wpTk (i := 9) (v := .pointer (some ⟨q, a, none⟩)) rfl (Or.inl ⟨by rfl, fun w' hs => by have h1 := Ia.out; have h2 := Ra.out; go_simp⟩) S0.out ?_
  change wpAnyH _ _ _ _ _ _ _ (Act.put _ (some 282) _) _
  simp only [Act.put, zT, zZ, zS]
  refine wpTk (i := 10) (v := .int .i64 (gt H.regs a)) rfl (Or.inl ⟨by rfl, fun w' hs => by have hc := hs.2; go_simp⟩) S0.out ?_
  change wpAnyH _ _ _ _ _ _ _ (Act.put _ (some 283) _) _
  simp only [Act.put, zT, zZ, zS]
  refine wpTk (i := 11) (v := .int .i64 (offV im)) rfl (Or.inl ⟨by rfl, fun w' hs => by go_simp⟩) S0.out ?_
  change wpAnyH _ _ _ _ _ _ _ (Act.put _ (some 284) _) _
  simp only [Act.put, zT, zZ, zS]
  refine zR 12 rfl fun K hK => ?_
  rw [if_pos (by rfl)]
  go_simp
  refine (impl_add _ _ _).mono ?_
  rintro e y ⟨rfl, hy⟩
  rw [hy]
  clear hy y
  refine hK.out _ _ S0.out (fun _ => ?_)
  clear hK K
  refine wpTk (i := 13) (v := .int .i64 (addV (gt H.regs a) (offV im))) rfl (Or.inl ⟨by rfl, fun w' hs => by go_simp⟩) S0.out ?_
  change wpAnyH _ _ _ _ _ _ _ (Act.put _ (some 17) _) _
  simp only [Act.put, zT, zZ, zS]
  refine wpAnyH_done (by kernel_rfl) ?_ _
  have n1 : x0.cell? ⟨n, 1, none⟩ = some (.int .i64 (d : Int)) := S0.out.1.cell 1 rfl
  go_wp2_with fail
  refine (r_put R0.out (d : Int) (addV H.pc 1) (by omega) (by have := Rd.out; omega) (add_word _ _)).mono ?_
  rintro e w2 ⟨rfl, ⟨r2, b2⟩, m2⟩
  have R2 : Hid (Rw w2 base q i o pg pc ps g p zs (putV H d (addV H.pc 1)) ca ri X) := r2
  have B2 : Hid (Below base w w2) := B0.out.trans b2
  clear r2 b2 m2 n1
  go_wp2_with fail
  go_ret
  exact ⟨rfl, R2.out, B2.out⟩
end Go.Proofs.YtaefollmeoepkaaGreatDoor
