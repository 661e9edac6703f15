/- Numbers of a machine that are set, traps and the way back: the model's. -/
import Derived.Test.YtaajaikpkcgalaaDoorHcy
import Derived.Test.YtaajaikpkcgalaaDoorHse
import Derived.Test.YtaajaikpkcgalaaDoorWords
namespace Go.Proofs.YtaajaikpkcgalaaDoor
open Go.RowKit
set_option linter.unusedVariables false

/-- A machine's variable q and its lists, under way from w on. -/
structure Sv (w u : World) (b q : Nat) (r c i o : Value) (H : Ht) : Prop where
  m : Hm u b r c i o H
  v : Vb u q #[r, .int .i64 H.pc, c, .bool H.halted, .bool H.waiting, .bool H.rung, .int .i64 H.done, i, o] 26
  g : Mq (fun j => j = q ∨ c.ownBlock = some j) w u
theorem Sv.dr {w v : World} {b q : Nat} {r c i o : Value} {H : Ht} (h : Sv w v b q r c i o H) : Sv w v.drew b q r c i o H :=
  ⟨h.m.keep (Below.refl _ _).drew, h.v, h.g.dr⟩
theorem apt_ne {a c : Value} {y : Nat} (h : Apt c a) (hc : c.ownBlock = some y) : a.ownBlock ≠ some y := by
  rcases h with h | h
  · rw [hc] at h; cases h
  · intro e; exact h (hc.trans e.symm)
theorem Sv.csr {w v : World} {b q y k : Nat} {r i o : Value} {H : Ht} (h : Sv w v b q r (.slice (some ⟨y, 0, none⟩) 11 k) i o H) (A : Ha r (.slice (some ⟨y, 0, none⟩) 11 k) i o) (hq : q ≠ y) (n : Nat) (u : Int) :
    Sv w (v.setCell ⟨y, n, none⟩ (.int .i64 u)) b q r (.slice (some ⟨y, 0, none⟩) 11 k) i o { H with csr := H.csr.set n u } :=
  ⟨⟨h.m.r.put _ _ (apt_ne A.rc.swap rfl), (h.m.c.store n u).1, h.m.i.put _ _ (apt_ne A.ci rfl), h.m.o.put _ _ (apt_ne A.co rfl)⟩, h.v.put _ _ hq, h.g.set _ _ (.inr rfl)⟩
theorem Sv.fld {w v : World} {b q : Nat} {r c i o : Value} {H : Ht} (h : Sv w v b q r c i o H) (hq : ∀ k, Own4 r c i o k → k ≠ q) (j : Nat) (u : Value) :
    Nums (v.setCell ⟨q, j, none⟩ u) b r H.regs ∧ Nums (v.setCell ⟨q, j, none⟩ u) b c H.csr ∧ Nums (v.setCell ⟨q, j, none⟩ u) b i H.inn ∧ Nums (v.setCell ⟨q, j, none⟩ u) b o H.out ∧ Mq (fun j => j = q ∨ c.ownBlock = some j) w (v.setCell ⟨q, j, none⟩ u) :=
  ⟨h.m.r.put _ _ (fun e => hq q (.inl e) rfl), h.m.c.put _ _ (fun e => hq q (.inr (.inl e)) rfl), h.m.i.put _ _ (fun e => hq q (.inr (.inr (.inl e))) rfl), h.m.o.put _ _ (fun e => hq q (.inr (.inr (.inr e))) rfl), h.g.set _ _ (.inl rfl)⟩
theorem Sv.pc {w v : World} {b q : Nat} {r c i o : Value} {H : Ht} (h : Sv w v b q r c i o H) (hq : ∀ k, Own4 r c i o k → k ≠ q) (u : Int) : Sv w (v.setCell ⟨q, 1, none⟩ (.int .i64 u)) b q r c i o { H with pc := u } := by
  obtain ⟨h1, h2, h3, h4, h5⟩ := h.fld hq 1 (.int .i64 u)
  exact ⟨⟨h1, h2, h3, h4⟩, h.v.set 1 _, h5⟩
theorem Sv.wait {w v : World} {b q : Nat} {r c i o : Value} {H : Ht} (h : Sv w v b q r c i o H) (hq : ∀ k, Own4 r c i o k → k ≠ q) (u : Bool) : Sv w (v.setCell ⟨q, 4, none⟩ (.bool u)) b q r c i o { H with waiting := u } := by
  obtain ⟨h1, h2, h3, h4, h5⟩ := h.fld hq 4 (.bool u)
  exact ⟨⟨h1, h2, h3, h4⟩, h.v.set 4 _, h5⟩
theorem Sv.rung {w v : World} {b q : Nat} {r c i o : Value} {H : Ht} (h : Sv w v b q r c i o H) (hq : ∀ k, Own4 r c i o k → k ≠ q) (u : Bool) : Sv w (v.setCell ⟨q, 5, none⟩ (.bool u)) b q r c i o { H with rung := u } := by
  obtain ⟨h1, h2, h3, h4, h5⟩ := h.fld hq 5 (.bool u)
  exact ⟨⟨h1, h2, h3, h4⟩, h.v.set 5 _, h5⟩

set_option maxRecDepth 20000 in
set_option maxHeartbeats 8000000 in
theorem s_trap (q : Nat) (r c i o : Value) (H : Ht) (k x : Int) (b : Nat) (w : World) (h : Hm w b r c i o H) (A : Ha r c i o) (hv : Vb w q #[r, .int .i64 H.pc, c, .bool H.halted, .bool H.waiting, .bool H.rung, .int .i64 H.done, i, o] 26) (hq : ∀ k, Own4 r c i o k → k ≠ q) (K : Hok H) :
    Calls Tryd.prog 31 #[.pointer (some ⟨q, 0, none⟩), .int .i64 k, .int .i64 x] w fun e w' => e = .returned (.tuple #[]) ∧ Sv w w' b q r c i o (trapV H k x) := by
  have S0 : Hid (Sv w w b q r c i o H) := ⟨h, hv, Mq.refl _ _⟩
  obtain ⟨a1, k1, rfl, _, _, g1⟩ := h.c.shape
  have hc := K.c11
  obtain ⟨y1, rfl⟩ := g1 (by omega)
  have HC : Hid (H.csr.length = 11) := hc
  rw [hc] at h hv hq A S0 ⊢
  have HA : Hid (Ha r _ i o) := A
  have HQ : Hid (∀ k, Own4 r (.slice (some ⟨y1, 0, none⟩) 11 k1) i o k → k ≠ q) := hq
  have QY : Hid (q ≠ y1) := fun e => hq y1 (.inr (.inl rfl)) e.symm
  have z0 : 0 ≤ gt H.csr 0 := (all_at K.cw 0).1
  have z4 : gt H.csr 0 ≤ 4294967295 := (all_at K.cw 0).2
  obtain ⟨z, hz⟩ : ∃ z, gt H.csr 0 = z := ⟨_, rfl⟩
  rw [hz] at z0 z4
  have HZ : Hid (gt H.csr 0 = z) := hz
  have t2 : z.tmod 2 = z % 2 := Int.tmod_eq_emod_of_nonneg z0
  obtain ⟨pcv, hpc⟩ : ∃ z, H.pc = z := ⟨_, rfl⟩
  have HPC : Hid (H.pc = pcv) := hpc
  have v2 := hv.cell 2 rfl
  have v1 : w.cell? ⟨q, 1, none⟩ = some (.int .i64 pcv) := by rw [← hpc]; exact hv.cell 1 rfl
  have c2 := h.c.cell hc.symm 2 (by decide)
  have f2 := h.c.free hc.symm 2
  have S1 : Hid (Sv w (w.setCell ⟨y1, 2, none⟩ (.int .i64 pcv)).drew b q r _ i o { H with csr := H.csr.set 2 pcv }) := (S0.out.csr A QY.out 2 pcv).dr
  clear h hv hq A g1 hz K hpc hc
  go_enter Tryd.func31, Tryd.ntmps31
  go_wp2_with fail
  go_region
  generalize (w.setCell ⟨y1, 2, none⟩ (.int .i64 pcv)).drew = W1 at *
  clear v2 v1 c2 f2
  have L1 : Hid (11 = (H.csr.set 2 pcv).length) := by show _ = _; simp [HC.out]
  have v2 : W1.cell? ⟨q, 2, none⟩ = some (.slice (some ⟨y1, 0, none⟩) 11 k1) := S1.out.v.cell 2 rfl
  have c3 := S1.out.m.c.cell L1.out 3 (by decide)
  have f3 := S1.out.m.c.free L1.out 3
  have c4 := S1.out.m.c.cell L1.out 4 (by decide)
  have f4 := S1.out.m.c.free L1.out 4
  have qy := QY.out
  have S2 : Hid (Sv w ((W1.setCell ⟨y1, 3, none⟩ (.int .i64 k)).setCell ⟨y1, 4, none⟩ (.int .i64 x)) b q r _ i o { H with csr := ((H.csr.set 2 pcv).set 3 k).set 4 x }) := (S1.out.csr HA.out QY.out 3 k).csr HA.out QY.out 4 x
  go_wp2_with fail
  generalize (W1.setCell ⟨y1, 3, none⟩ (.int .i64 k)).setCell ⟨y1, 4, none⟩ (.int .i64 x) = W2 at *
  clear v2 c3 f3 c4 f4
  have L2 : Hid (11 = (((H.csr.set 2 pcv).set 3 k).set 4 x).length) := by show _ = _; simp [HC.out]
  have GZ : Hid (gt (((H.csr.set 2 pcv).set 3 k).set 4 x) 0 = z ∧ gt (((H.csr.set 2 pcv).set 3 k).set 4 x) 1 = gt H.csr 1) := by
    have := HC.out
    refine ⟨?_, ?_⟩
    · rw [gt_set _ _ _ _ (by simpa using by omega), if_neg (by decide), gt_set _ _ _ _ (by simpa using by omega), if_neg (by decide), gt_set _ _ _ _ (by omega), if_neg (by decide)]; exact HZ.out
    · rw [gt_set _ _ _ _ (by simpa using by omega), if_neg (by decide), gt_set _ _ _ _ (by simpa using by omega), if_neg (by decide), gt_set _ _ _ _ (by omega), if_neg (by decide)]
  have v2 : W2.cell? ⟨q, 2, none⟩ = some (.slice (some ⟨y1, 0, none⟩) 11 k1) := S2.out.v.cell 2 rfl
  have c0 : W2.cell? ⟨y1, 0, none⟩ = some (.int .i64 z) := by rw [← GZ.out.1]; exact S2.out.m.c.cell L2.out 0 (by decide)
  have f0 := S2.out.m.c.free L2.out 0
  have S3 : Hid (Sv w (W2.setCell ⟨y1, 0, none⟩ (.int .i64 (z % 2 * 2))).drew b q r _ i o { H with csr := (((H.csr.set 2 pcv).set 3 k).set 4 x).set 0 (z % 2 * 2) }) := (S2.out.csr HA.out QY.out 0 _).dr
  go_region
  generalize (W2.setCell ⟨y1, 0, none⟩ (.int .i64 (z % 2 * 2))).drew = W3 at *
  clear v2 c0 f0
  have L3 : Hid (11 = ((((H.csr.set 2 pcv).set 3 k).set 4 x).set 0 (z % 2 * 2)).length) := by show _ = _; simp [HC.out]
  have G1 : Hid (gt ((((H.csr.set 2 pcv).set 3 k).set 4 x).set 0 (z % 2 * 2)) 1 = gt H.csr 1) := by
    show _ = _
    rw [gt_set _ _ _ _ (by have := HC.out; simp; omega), if_neg (by decide)]; exact GZ.out.2
  have v2 : W3.cell? ⟨q, 2, none⟩ = some (.slice (some ⟨y1, 0, none⟩) 11 k1) := S3.out.v.cell 2 rfl
  have c1 : W3.cell? ⟨y1, 1, none⟩ = some (.int .i64 (gt H.csr 1)) := by rw [← G1.out]; exact S3.out.m.c.cell L3.out 1 (by decide)
  have v1 := S3.out.v.cell 1 rfl
  have f1 := S3.out.v.free 1
  have v4 := S3.out.v.cell 4 rfl
  have f4 := S3.out.v.free 4
  have S4 : Hid (Sv w ((W3.setCell ⟨q, 1, none⟩ (.int .i64 (gt H.csr 1))).setCell ⟨q, 4, none⟩ (.bool false)) b q r _ i o _) := (S3.out.pc HQ.out (gt H.csr 1)).wait HQ.out false
  go_wp2_with fail
  go_end0
  exact ⟨rfl, by have := S4.out; rw [← HPC.out, ← HZ.out] at this; exact this⟩
end Go.Proofs.YtaajaikpkcgalaaDoor
