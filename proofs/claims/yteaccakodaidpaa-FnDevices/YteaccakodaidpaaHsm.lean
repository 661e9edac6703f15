/- Numbers of a machine that are set, traps and the way back: the model's. -/
import Derived.Test.YteaccakodaidpaaHcy
import Derived.Test.YteaccakodaidpaaHse
import Derived.Test.YteaccakodaidpaaWords
namespace Go.Proofs.Yteaccakodaidpaa
open Go.RowKit
set_option linter.unusedVariables false

/-- A machine's variable q and its lists, under way from w on. -/
structure Sv (w u : World) (b q : Nat) (r c i o : Value) (H : Ht) : Prop where
  m : Hm u b r c i o H
  v : Vb u q #[r, .int .i64 H.pc, c, .bool H.halted, .bool H.waiting, .bool H.rung, .int .i64 H.done, i, o] 39
  g : Mq (fun j => j = q ∨ c.ownBlock = some j) w u
theorem Sv.dr {w v : World} {b q : Nat} {r c i o : Value} {H : Ht} (h : Sv w v b q r c i o H) : Sv w v.drew b q r c i o H :=
  ⟨h.m.keep (Below.refl _ _).drew, h.v, h.g.dr⟩
theorem apt_ne {a c : Value} {y : Nat} (h : Apt c a) (hc : c.ownBlock = some y) : a.ownBlock ≠ some y := by
  rcases h with h | h
  · rw [hc] at h; cases h
  · intro e; exact h (hc.trans e.symm)
theorem Sv.csr {w v : World} {b q y k : Nat} {r i o : Value} {H : Ht} (h : Sv w v b q r (.slice (some ⟨y, 0, none⟩) 11 k) i o H) (A : Ha r (.slice (some ⟨y, 0, none⟩) 11 k) i o) (hq : q ≠ y) (n : Nat) (u : Int) :
    Sv w (v.setCell ⟨y, n, none⟩ (.int .i64 u)) b q r (.slice (some ⟨y, 0, none⟩) 11 k) i o { H with csr := H.csr.set n u } :=
  ⟨⟨h.m.r.put _ _ (apt_ne A.rc.swap rfl), (h.m.c.store n u).1, h.m.i.put _ _ (apt_ne A.ci rfl), h.m.o.put _ _ (apt_ne A.co rfl)⟩, h.v.put _ _ hq, h.g.set _ _ (.inr rfl)⟩
theorem Sv.fld {w v : World} {b q : Nat} {r c i o : Value} {H : Ht} (h : Sv w v b q r c i o H) (hq : ∀ k, Own4 r c i o k → k ≠ q) (j : Nat) (u : Value) :
    Nums (v.setCell ⟨q, j, none⟩ u) b r H.regs ∧ Nums (v.setCell ⟨q, j, none⟩ u) b c H.csr ∧ Nums (v.setCell ⟨q, j, none⟩ u) b i H.inn ∧ Nums (v.setCell ⟨q, j, none⟩ u) b o H.out ∧ Mq (fun j => j = q ∨ c.ownBlock = some j) w (v.setCell ⟨q, j, none⟩ u) :=
  ⟨h.m.r.put _ _ (fun e => hq q (.inl e) rfl), h.m.c.put _ _ (fun e => hq q (.inr (.inl e)) rfl), h.m.i.put _ _ (fun e => hq q (.inr (.inr (.inl e))) rfl), h.m.o.put _ _ (fun e => hq q (.inr (.inr (.inr e))) rfl), h.g.set _ _ (.inl rfl)⟩
theorem Sv.pc {w v : World} {b q : Nat} {r c i o : Value} {H : Ht} (h : Sv w v b q r c i o H) (hq : ∀ k, Own4 r c i o k → k ≠ q) (u : Int) : Sv w (v.setCell ⟨q, 1, none⟩ (.int .i64 u)) b q r c i o { H with pc := u } := by
  obtain ⟨h1, h2, h3, h4, h5⟩ := h.fld hq 1 (.int .i64 u)
  exact ⟨⟨h1, h2, h3, h4⟩, h.v.set 1 _, h5⟩
theorem Sv.wait {w v : World} {b q : Nat} {r c i o : Value} {H : Ht} (h : Sv w v b q r c i o H) (hq : ∀ k, Own4 r c i o k → k ≠ q) (u : Bool) : Sv w (v.setCell ⟨q, 4, none⟩ (.bool u)) b q r c i o { H with waiting := u } := by
  obtain ⟨h1, h2, h3, h4, h5⟩ := h.fld hq 4 (.bool u)
  exact ⟨⟨h1, h2, h3, h4⟩, h.v.set 4 _, h5⟩
theorem Sv.rung {w v : World} {b q : Nat} {r c i o : Value} {H : Ht} (h : Sv w v b q r c i o H) (hq : ∀ k, Own4 r c i o k → k ≠ q) (u : Bool) : Sv w (v.setCell ⟨q, 5, none⟩ (.bool u)) b q r c i o { H with rung := u } := by
  obtain ⟨h1, h2, h3, h4, h5⟩ := h.fld hq 5 (.bool u)
  exact ⟨⟨h1, h2, h3, h4⟩, h.v.set 5 _, h5⟩

end Go.Proofs.Yteaccakodaidpaa
