/- Texts of this seat, joined. -/
import Derived.Laws.BitsAllLaws
import Derived.Deep.RegionWith
import Derived.Deep.RegionHeld3
import Derived.Test.YtggejbphdadckaaGreatDoorQ03
import Derived.Test.YtggejbphdadckaaGreatDoorQ04
import Derived.Test.YtggejbphdadckaaGreatDoorQ14
import Derived.Test.YtggejbphdadckaaGreatDoorQ15
import Derived.Test.YtggejbphdadckaaGreatDoorQ36
namespace Go.Proofs.YtggejbphdadckaaGreatDoor
open Go.RowKit
set_option linter.unusedVariables false

theorem two {v : World} {q : Nat} {t : TypeId} {z0 z1 : Value} (h : Vb v q #[z0, z1] t) (u0 u1 : Value) :
    Vb ((v.setCell ⟨q, 0, none⟩ u0).setCell ⟨q, 1, none⟩ u1) q #[u0, u1] t ∧ Mq (fun k => k = q) v ((v.setCell ⟨q, 0, none⟩ u0).setCell ⟨q, 1, none⟩ u1) := by
  have h0 : Vb (v.setCell ⟨q, 0, none⟩ u0) q #[u0, z1] t := h.set 0 u0
  exact ⟨h0.set 1 u1, ((Mq.refl (fun k => k = q) v).set ⟨q, 0, none⟩ u0 rfl).set ⟨q, 1, none⟩ u1 rfl⟩
theorem mca_store (H : Ht) (xa : Option Addr) (xn xk : Nat) (ya : Option Addr) (yn yk : Nat) (w : World) : (storeCells ⟨w.heap.size, 0, none⟩ (mca H (.slice xa xn xk) (.slice ya yn yk)).toList 0).run Tryz.prog (w.alloc (.cells #[.int .i64 0, .int .i64 0, .int .i64 0, .int .i64 0, .int .i64 0, .int .i64 0, .int .i64 0, .int .i64 0, .int .i64 0, .int .i64 0, .int .i64 0, .int .i64 0, .int .i64 0, .int .i64 0, .int .i64 0, .int .i64 0, .int .i64 0, .int .i64 0, .int .i64 0, .int .i64 0, .int .i64 0, .int .i64 0, .int .i64 0, .int .i64 0, .int .i64 0, .int .i64 0, .int .i64 0, .int .i64 0, .bool false, .bool false, .bool false, .int .i64 0, .slice none 0 0, .slice none 0 0] 107)) = .ok () (w.alloc (.cells (mca H (.slice xa xn xk) (.slice ya yn yk)) 107)) :=
  run_storeCells_new (P := Tryz.prog) w 107 #[.int .i64 0, .int .i64 0, .int .i64 0, .int .i64 0, .int .i64 0, .int .i64 0, .int .i64 0, .int .i64 0, .int .i64 0, .int .i64 0, .int .i64 0, .int .i64 0, .int .i64 0, .int .i64 0, .int .i64 0, .int .i64 0, .int .i64 0, .int .i64 0, .int .i64 0, .int .i64 0, .int .i64 0, .int .i64 0, .int .i64 0, .int .i64 0, .int .i64 0, .int .i64 0, .int .i64 0, .int .i64 0, .bool false, .bool false, .bool false, .int .i64 0, .slice none 0 0, .slice none 0 0] (mca H (.slice xa xn xk) (.slice ya yn yk)) (by kernel_rfl) rfl (mca_one _ _ _ rfl rfl)
theorem void_hm (w : World) (base : Nat) : Hm w base (.slice none 0 0) (.slice none 0 0) (.slice none 0 0) (.slice none 0 0) voidH := ⟨Nums.nil _ _, Nums.nil _ _, Nums.nil _ _, Nums.nil _ _⟩
theorem void_ha : Ha (.slice none 0 0) (.slice none 0 0) (.slice none 0 0) (.slice none 0 0) := ⟨.inl rfl, .inl rfl, .inl rfl, .inl rfl, .inl rfl, .inl rfl⟩
end Go.Proofs.YtggejbphdadckaaGreatDoor
namespace Go.Proofs.YtggejbphdadckaaGreatDoor
open Go.RowKit
set_option linter.unusedVariables false

theorem Mq.dr {S : Nat → Prop} {a w : World} (m : Mq S a w) : Mq S a w.drew := ⟨m.os, m.tape, m.output, m.size, m.block⟩
end Go.Proofs.YtggejbphdadckaaGreatDoor
namespace Go.Proofs.YtggejbphdadckaaGreatDoor
open Go.RowKit
set_option linter.unusedVariables false

/-- A machine's variable q and its lists, under way from w on. -/
structure Sv (w u : World) (b q : Nat) (r c i o : Value) (H : Ht) : Prop where
  m : Hm u b r c i o H
  v : Vb u q #[r, .int .i64 H.pc, c, .bool H.halted, .bool H.waiting, .bool H.rung, .int .i64 H.done, i, o] 60
  g : Mq (fun j => j = q ∨ c.ownBlock = some j) w u
theorem Sv.dr {w v : World} {b q : Nat} {r c i o : Value} {H : Ht} (h : Sv w v b q r c i o H) : Sv w v.drew b q r c i o H :=
  ⟨h.m.keep (Below.refl _ _).drew, h.v, h.g.dr⟩
theorem apt_ne {a c : Value} {y : Nat} (h : Apt c a) (hc : c.ownBlock = some y) : a.ownBlock ≠ some y := by
  rcases h with h | h
  · rw [hc] at h; cases h
  · intro e; exact h (hc.trans e.symm)
theorem Sv.csr {w v : World} {b q y k : Nat} {r i o : Value} {H : Ht} (h : Sv w v b q r (.slice (some ⟨y, 0, none⟩) 11 k) i o H) (A : Ha r (.slice (some ⟨y, 0, none⟩) 11 k) i o) (hq : q ≠ y) (n : Nat) (u : Int) :
    Sv w (v.setCell ⟨y, n, none⟩ (.int .i64 u)) b q r (.slice (some ⟨y, 0, none⟩) 11 k) i o { H with csr := H.csr.set n u } :=
  ⟨⟨h.m.r.put _ _ (apt_ne A.rc.swap rfl), (h.m.c.store n u).1, h.m.i.put _ _ (apt_ne A.ci rfl), h.m.o.put _ _ (apt_ne A.co rfl)⟩, h.v.put _ _ hq, h.g.set _ _ (.inr rfl)⟩
theorem Sv.fld {w v : World} {b q : Nat} {r c i o : Value} {H : Ht} (h : Sv w v b q r c i o H) (hq : ∀ k, Own4 r c i o k → k ≠ q) (j : Nat) (u : Value) :
    Nums (v.setCell ⟨q, j, none⟩ u) b r H.regs ∧ Nums (v.setCell ⟨q, j, none⟩ u) b c H.csr ∧ Nums (v.setCell ⟨q, j, none⟩ u) b i H.inn ∧ Nums (v.setCell ⟨q, j, none⟩ u) b o H.out ∧ Mq (fun j => j = q ∨ c.ownBlock = some j) w (v.setCell ⟨q, j, none⟩ u) :=
  ⟨h.m.r.put _ _ (fun e => hq q (.inl e) rfl), h.m.c.put _ _ (fun e => hq q (.inr (.inl e)) rfl), h.m.i.put _ _ (fun e => hq q (.inr (.inr (.inl e))) rfl), h.m.o.put _ _ (fun e => hq q (.inr (.inr (.inr e))) rfl), h.g.set _ _ (.inl rfl)⟩
theorem Sv.pc {w v : World} {b q : Nat} {r c i o : Value} {H : Ht} (h : Sv w v b q r c i o H) (hq : ∀ k, Own4 r c i o k → k ≠ q) (u : Int) : Sv w (v.setCell ⟨q, 1, none⟩ (.int .i64 u)) b q r c i o { H with pc := u } := by
  obtain ⟨h1, h2, h3, h4, h5⟩ := h.fld hq 1 (.int .i64 u)
  exact ⟨⟨h1, h2, h3, h4⟩, h.v.set 1 _, h5⟩
theorem Sv.rung {w v : World} {b q : Nat} {r c i o : Value} {H : Ht} (h : Sv w v b q r c i o H) (hq : ∀ k, Own4 r c i o k → k ≠ q) (u : Bool) : Sv w (v.setCell ⟨q, 5, none⟩ (.bool u)) b q r c i o { H with rung := u } := by
  obtain ⟨h1, h2, h3, h4, h5⟩ := h.fld hq 5 (.bool u)
  exact ⟨⟨h1, h2, h3, h4⟩, h.v.set 5 _, h5⟩

end Go.Proofs.YtggejbphdadckaaGreatDoor
namespace Go.Proofs.YtggejbphdadckaaGreatDoor
open Go.RowKit
set_option linter.unusedVariables false

/-- The region of a new machine under way: what is made (A, B, C) and appended (D). -/
structure Nq (W w : World) (s : Nat) (zs : List Int) (A B C D : Option Value) : Prop where
  mq : Mq (fun k => k = s) W w
  th : w.there s 0 10
  a : ∀ v, A = some v → Nums w W.heap.size v (List.replicate 16 0)
  b : ∀ v, B = some v → Nums w W.heap.size v (List.replicate 11 0)
  c : D = none → ∀ v, C = some v → Nums w W.heap.size v []
  d : ∀ v, D = some v → Nums w W.heap.size v zs
  ac : D = none → ∀ v u, A = some v → C = some u → Apt v u
  bc : D = none → ∀ v u, B = some v → C = some u → Apt v u
theorem Nq.app {W w w' : World} {s : Nat} {zs : List Int} {A B : Option Value} {v v' : Value} (h : Nq W w s zs A B (some v) none) (hs : s < W.heap.size) (n : Nums w' W.heap.size v' zs) (g : w.grownBy w' v.ownBlock) : Nq W w' s zs A B (some v) (some v') := by
  have hl : ∀ k, v.ownBlock = some k → W.heap.size ≤ k ∧ k < w.heap.size := (h.c rfl v rfl).lt
  refine ⟨⟨g.os.trans h.mq.os, g.tape.trans h.mq.tape, g.output.trans h.mq.output, Nat.le_trans h.mq.size g.size, fun k hk hn => (g.block k (Nat.lt_of_lt_of_le hk h.mq.size) (fun e => by have := (hl k e.symm).1; omega)).trans (h.mq.block k hk hn)⟩, ?_, fun u e => (h.a u e).kept g (h.ac rfl u v e rfl), fun u e => (h.b u e).kept g (h.bc rfl u v e rfl), (by intro e; cases e), fun u e => by cases e; exact n, (by intro e; cases e), (by intro e; cases e)⟩
  intro j hj
  obtain ⟨h1, h2⟩ := h.th j hj
  have hb : w'.heap[s]? = w.heap[s]? := g.block s (Nat.lt_of_lt_of_le hs h.mq.size) (fun e => by have := (hl s e.symm).1; omega)
  have e1 : w'.cell? ⟨s, 0 + j, none⟩ = w.cell? ⟨s, 0 + j, none⟩ := by simp only [World.cell?, hb]
  have e2 : w'.frozen? ⟨s, 0 + j, none⟩ = w.frozen? ⟨s, 0 + j, none⟩ := World.frozen?_of_block (w := w) hb
  exact ⟨by rw [e1]; exact h1, by rw [e2]; exact h2⟩

end Go.Proofs.YtggejbphdadckaaGreatDoor
