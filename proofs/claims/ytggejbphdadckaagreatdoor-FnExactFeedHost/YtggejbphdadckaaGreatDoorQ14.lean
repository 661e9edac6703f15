/- Texts of this seat, joined. -/
import Derived.Deep.RegionWith
import Derived.Laws.ByValue
import Derived.Test.YtggejbphdadckaaGreatDoorQ09
namespace Go.Proofs.YtggejbphdadckaaGreatDoor
open Go.RowKit
set_option linter.unusedVariables false

theorem add_block (x : Addr) (i : Nat) : (x.add i).block = x.block := by unfold Addr.add; split <;> rfl
/-- A list lies in no block of another type. -/
theorem Nums.ne_vb {w : World} {b m : Nat} {v : Value} {zs : List Int} {cs : Array Value} {t : TypeId} (h : Nums w b v zs) (hv : Vb w m cs t) (ht : t ≠ 2) : v.ownBlock ≠ some m := by
  obtain ⟨h1, ⟨rfl, _⟩ | ⟨g, cap, cur, rfl, hg, hr, _⟩⟩ := h
  · intro e; cases e
  · intro e
    have e : g = m := by simpa [Value.ownBlock] using e
    subst e
    unfold Vb at hv
    rw [hv] at hr
    cases hr
    exact ht rfl
theorem Rn.mq {S : Nat → Prop} {w w' : World} {a : Option Addr} {len cap : Nat} {zs : List Int} (h : Rn w a len cap zs) (m : Mq S w w') (hn : ∀ x, a = some x → x.block < w.heap.size → ¬ S x.block) : Rn w' a len cap zs := by
  rcases h with h | ⟨x, rfl, h1, h2, h3, h4⟩
  · exact .inl h
  · refine .inr ⟨x, rfl, h1, h2, h3, fun i hi => ?_⟩
    have hc := h4 i hi
    have hl : x.block < w.heap.size := by have := World.block_lt_of_cell? w (x.add i) hc; rwa [add_block] at this
    rw [← hc]
    exact World.cell?_of_block (a := x.add i) (by rw [add_block]; exact m.block x.block hl (hn x rfl hl))
theorem Rv.mq {S : Nat → Prop} {w w' : World} {v : Value} {zs : List Int} (h : Rv w v zs) (m : Mq S w w') (hn : ∀ k, v.ownBlock = some k → k < w.heap.size → ¬ S k) : Rv w' v zs := by
  obtain ⟨a, cap, rfl, h2⟩ := h
  exact ⟨a, cap, rfl, h2.mq m fun x e hl => hn x.block (by rw [e]; rfl) hl⟩
/-- A machine whose four lists are read alone. -/
structure Hr (w : World) (r c i o : Value) (H : Ht) : Prop where
  r : Rv w r H.regs
  c : Rv w c H.csr
  i : Rv w i H.inn
  o : Rv w o H.out
theorem Hr.stay {w w' : World} {r c i o : Value} {H : Ht} (h : Hr w r c i o H) (b : Below w.heap.size w w') : Hr w' r c i o H := ⟨h.r.stay b, h.c.stay b, h.i.stay b, h.o.stay b⟩
theorem Hm.hr {w : World} {base : Nat} {r c i o : Value} {H : Ht} (h : Hm w base r c i o H) : Hr w r c i o H := ⟨h.r.rv, h.c.rv, h.i.rv, h.o.rv⟩
theorem Hr.mq {S : Nat → Prop} {w w' : World} {r c i o : Value} {H : Ht} (h : Hr w r c i o H) (m : Mq S w w') (hn : ∀ k, Own4 r c i o k → k < w.heap.size → ¬ S k) : Hr w' r c i o H :=
  ⟨h.r.mq m fun k e => hn k (.inl e), h.c.mq m fun k e => hn k (.inr (.inl e)), h.i.mq m fun k e => hn k (.inr (.inr (.inl e))), h.o.mq m fun k e => hn k (.inr (.inr (.inr e)))⟩

set_option maxHeartbeats 1000000 in
theorem eq_rn (v u : Value) (zs : List Int) (w : World) (h : Rv w v zs) (k : Rv w u zs) :
    Calls Tryz.prog 11 #[v, u] w fun e w' => e = .returned (.bool true) ∧ Below w.heap.size w w' := by
  obtain ⟨a, cap, rfl, h1⟩ := h
  obtain ⟨a', cap', rfl, k1⟩ := k
  have hl : (zs.length : Int) ≤ 9223372036854775807 := by have := h1.cap; unfold maxLen at this; omega
  have HZ : Hid (Rn w a zs.length cap zs) := h1
  have KZ : Hid (Rn w a' zs.length cap' zs) := k1
  clear h1 k1
  obtain ⟨n, hn⟩ : ∃ n, zs.length = n := ⟨_, rfl⟩
  rw [hn] at HZ KZ hl ⊢
  clear hn
  go_enter Tryz.func11, Tryz.ntmps11
  go_wp2_with fail
  go_loopw [5] (fun i wr => ∃ j : Nat, j ≤ n ∧ i = .int .i64 j ∧ Below w.heap.size w wr) (fun i _ => n - (intOf i).toNat)
  case atStart => exact ⟨0, Nat.zero_le _, rfl, Below.refl _ _⟩
  case round =>
    obtain ⟨j, hj, rfl, hB⟩ := hrel
    have HB : Hid (Below _ _ _) := hB
    by_cases hlt : j < n
    · obtain ⟨x, rfl, c1⟩ := HZ.out.at j hlt
      obtain ⟨y, rfl, c2⟩ := KZ.out.at j hlt
      have c1' := cell_keep hB c1
      have c2' := cell_keep hB c2
      have hI : (j : Int) < (n : Int) := by omega
      have HL : Hid (j < n) := hlt
      clear hB hlt c1 c2
      go_wp2_with fail
      go_quiet (fail)
      go_wp2_with fail
      go_roundw
      case rel => exact ⟨j + 1, by have := HL.out; omega, by go_num, dr HB.out _⟩
      case measure => have := HL.out; simp [intOf]; omega
    · have hI : ¬ (j : Int) < (n : Int) := by omega
      clear hB
      go_wp2_with fail
      go_ret
      exact ⟨rfl, HB.out⟩
end Go.Proofs.YtggejbphdadckaaGreatDoor
namespace Go.Proofs.YtggejbphdadckaaGreatDoor
open Go.RowKit
set_option linter.unusedVariables false

theorem Nums.apt {w w' : World} {base base' : Nat} {v u : Value} {zs ys : List Int} (h : Nums w base v zs) (k : Nums w' base' u ys) (hb : w.heap.size ≤ base') : Apt v u := own_ne h k hb

theorem Mq.refl (S : Nat → Prop) (w : World) : Mq S w w := ⟨rfl, rfl, rfl, Nat.le_refl _, fun _ _ _ => rfl⟩
theorem Mq.set {S : Nat → Prop} {a w : World} (m : Mq S a w) (p : Addr) (u : Value) (hp : S p.block) : Mq S a (w.setCell p u) := m.trans (Mq.of (grown_set w p u) fun k e => by cases e; exact hp)
theorem Mq.ho {S : Nat → Prop} {base : Nat} {w w' : World} (m : Mq S w w') (h : ∀ k, S k → k < base) : Ho base w w' := ⟨m.size, fun k hb hk => m.block k hk fun e => by have := h k e; omega⟩
theorem Mq.under {S : Nat → Prop} {a w w' : World} (b : Below a.heap.size a w) (m : Mq S w w') (h : ∀ k, S k → a.heap.size ≤ k) : Below a.heap.size a w' := Mq.below b m h
/-- A machine, and an answer with one, that is stored whole. -/
theorem nine {v : World} {q : Nat} {t : TypeId} {z0 z1 z2 z3 z4 z5 z6 z7 z8 : Value} (h : Vb v q #[z0, z1, z2, z3, z4, z5, z6, z7, z8] t) (u0 u1 u2 u3 u4 u5 u6 u7 u8 : Value) :
    Vb (((((((((v.setCell ⟨q, 0, none⟩ u0).setCell ⟨q, 1, none⟩ u1).setCell ⟨q, 2, none⟩ u2).setCell ⟨q, 3, none⟩ u3).setCell ⟨q, 4, none⟩ u4).setCell ⟨q, 5, none⟩ u5).setCell ⟨q, 6, none⟩ u6).setCell ⟨q, 7, none⟩ u7).setCell ⟨q, 8, none⟩ u8) q #[u0, u1, u2, u3, u4, u5, u6, u7, u8] t ∧ Mq (fun k => k = q) v (((((((((v.setCell ⟨q, 0, none⟩ u0).setCell ⟨q, 1, none⟩ u1).setCell ⟨q, 2, none⟩ u2).setCell ⟨q, 3, none⟩ u3).setCell ⟨q, 4, none⟩ u4).setCell ⟨q, 5, none⟩ u5).setCell ⟨q, 6, none⟩ u6).setCell ⟨q, 7, none⟩ u7).setCell ⟨q, 8, none⟩ u8) := by
  have h0 : Vb (v.setCell ⟨q, 0, none⟩ u0) q #[u0, z1, z2, z3, z4, z5, z6, z7, z8] t := h.set 0 u0
  have h1 : Vb ((v.setCell ⟨q, 0, none⟩ u0).setCell ⟨q, 1, none⟩ u1) q #[u0, u1, z2, z3, z4, z5, z6, z7, z8] t := h0.set 1 u1
  have h2 : Vb (((v.setCell ⟨q, 0, none⟩ u0).setCell ⟨q, 1, none⟩ u1).setCell ⟨q, 2, none⟩ u2) q #[u0, u1, u2, z3, z4, z5, z6, z7, z8] t := h1.set 2 u2
  have h3 : Vb ((((v.setCell ⟨q, 0, none⟩ u0).setCell ⟨q, 1, none⟩ u1).setCell ⟨q, 2, none⟩ u2).setCell ⟨q, 3, none⟩ u3) q #[u0, u1, u2, u3, z4, z5, z6, z7, z8] t := h2.set 3 u3
  have h4 : Vb (((((v.setCell ⟨q, 0, none⟩ u0).setCell ⟨q, 1, none⟩ u1).setCell ⟨q, 2, none⟩ u2).setCell ⟨q, 3, none⟩ u3).setCell ⟨q, 4, none⟩ u4) q #[u0, u1, u2, u3, u4, z5, z6, z7, z8] t := h3.set 4 u4
  have h5 : Vb ((((((v.setCell ⟨q, 0, none⟩ u0).setCell ⟨q, 1, none⟩ u1).setCell ⟨q, 2, none⟩ u2).setCell ⟨q, 3, none⟩ u3).setCell ⟨q, 4, none⟩ u4).setCell ⟨q, 5, none⟩ u5) q #[u0, u1, u2, u3, u4, u5, z6, z7, z8] t := h4.set 5 u5
  have h6 : Vb (((((((v.setCell ⟨q, 0, none⟩ u0).setCell ⟨q, 1, none⟩ u1).setCell ⟨q, 2, none⟩ u2).setCell ⟨q, 3, none⟩ u3).setCell ⟨q, 4, none⟩ u4).setCell ⟨q, 5, none⟩ u5).setCell ⟨q, 6, none⟩ u6) q #[u0, u1, u2, u3, u4, u5, u6, z7, z8] t := h5.set 6 u6
  have h7 : Vb ((((((((v.setCell ⟨q, 0, none⟩ u0).setCell ⟨q, 1, none⟩ u1).setCell ⟨q, 2, none⟩ u2).setCell ⟨q, 3, none⟩ u3).setCell ⟨q, 4, none⟩ u4).setCell ⟨q, 5, none⟩ u5).setCell ⟨q, 6, none⟩ u6).setCell ⟨q, 7, none⟩ u7) q #[u0, u1, u2, u3, u4, u5, u6, u7, z8] t := h6.set 7 u7
  have h8 : Vb (((((((((v.setCell ⟨q, 0, none⟩ u0).setCell ⟨q, 1, none⟩ u1).setCell ⟨q, 2, none⟩ u2).setCell ⟨q, 3, none⟩ u3).setCell ⟨q, 4, none⟩ u4).setCell ⟨q, 5, none⟩ u5).setCell ⟨q, 6, none⟩ u6).setCell ⟨q, 7, none⟩ u7).setCell ⟨q, 8, none⟩ u8) q #[u0, u1, u2, u3, u4, u5, u6, u7, u8] t := h7.set 8 u8
  exact ⟨h8, (((((((((Mq.refl (fun k => k = q) v).set ⟨q, 0, none⟩ u0 rfl).set ⟨q, 1, none⟩ u1 rfl).set ⟨q, 2, none⟩ u2 rfl).set ⟨q, 3, none⟩ u3 rfl).set ⟨q, 4, none⟩ u4 rfl).set ⟨q, 5, none⟩ u5 rfl).set ⟨q, 6, none⟩ u6 rfl).set ⟨q, 7, none⟩ u7 rfl).set ⟨q, 8, none⟩ u8 rfl⟩
theorem ten {v : World} {q : Nat} {t : TypeId} {z0 z1 z2 z3 z4 z5 z6 z7 z8 z9 : Value} (h : Vb v q #[z0, z1, z2, z3, z4, z5, z6, z7, z8, z9] t) (u0 u1 u2 u3 u4 u5 u6 u7 u8 u9 : Value) :
    Vb ((((((((((v.setCell ⟨q, 0, none⟩ u0).setCell ⟨q, 1, none⟩ u1).setCell ⟨q, 2, none⟩ u2).setCell ⟨q, 3, none⟩ u3).setCell ⟨q, 4, none⟩ u4).setCell ⟨q, 5, none⟩ u5).setCell ⟨q, 6, none⟩ u6).setCell ⟨q, 7, none⟩ u7).setCell ⟨q, 8, none⟩ u8).setCell ⟨q, 9, none⟩ u9) q #[u0, u1, u2, u3, u4, u5, u6, u7, u8, u9] t ∧ Mq (fun k => k = q) v ((((((((((v.setCell ⟨q, 0, none⟩ u0).setCell ⟨q, 1, none⟩ u1).setCell ⟨q, 2, none⟩ u2).setCell ⟨q, 3, none⟩ u3).setCell ⟨q, 4, none⟩ u4).setCell ⟨q, 5, none⟩ u5).setCell ⟨q, 6, none⟩ u6).setCell ⟨q, 7, none⟩ u7).setCell ⟨q, 8, none⟩ u8).setCell ⟨q, 9, none⟩ u9) := by
  have h0 : Vb (v.setCell ⟨q, 0, none⟩ u0) q #[u0, z1, z2, z3, z4, z5, z6, z7, z8, z9] t := h.set 0 u0
  have h1 : Vb ((v.setCell ⟨q, 0, none⟩ u0).setCell ⟨q, 1, none⟩ u1) q #[u0, u1, z2, z3, z4, z5, z6, z7, z8, z9] t := h0.set 1 u1
  have h2 : Vb (((v.setCell ⟨q, 0, none⟩ u0).setCell ⟨q, 1, none⟩ u1).setCell ⟨q, 2, none⟩ u2) q #[u0, u1, u2, z3, z4, z5, z6, z7, z8, z9] t := h1.set 2 u2
  have h3 : Vb ((((v.setCell ⟨q, 0, none⟩ u0).setCell ⟨q, 1, none⟩ u1).setCell ⟨q, 2, none⟩ u2).setCell ⟨q, 3, none⟩ u3) q #[u0, u1, u2, u3, z4, z5, z6, z7, z8, z9] t := h2.set 3 u3
  have h4 : Vb (((((v.setCell ⟨q, 0, none⟩ u0).setCell ⟨q, 1, none⟩ u1).setCell ⟨q, 2, none⟩ u2).setCell ⟨q, 3, none⟩ u3).setCell ⟨q, 4, none⟩ u4) q #[u0, u1, u2, u3, u4, z5, z6, z7, z8, z9] t := h3.set 4 u4
  have h5 : Vb ((((((v.setCell ⟨q, 0, none⟩ u0).setCell ⟨q, 1, none⟩ u1).setCell ⟨q, 2, none⟩ u2).setCell ⟨q, 3, none⟩ u3).setCell ⟨q, 4, none⟩ u4).setCell ⟨q, 5, none⟩ u5) q #[u0, u1, u2, u3, u4, u5, z6, z7, z8, z9] t := h4.set 5 u5
  have h6 : Vb (((((((v.setCell ⟨q, 0, none⟩ u0).setCell ⟨q, 1, none⟩ u1).setCell ⟨q, 2, none⟩ u2).setCell ⟨q, 3, none⟩ u3).setCell ⟨q, 4, none⟩ u4).setCell ⟨q, 5, none⟩ u5).setCell ⟨q, 6, none⟩ u6) q #[u0, u1, u2, u3, u4, u5, u6, z7, z8, z9] t := h5.set 6 u6
  have h7 : Vb ((((((((v.setCell ⟨q, 0, none⟩ u0).setCell ⟨q, 1, none⟩ u1).setCell ⟨q, 2, none⟩ u2).setCell ⟨q, 3, none⟩ u3).setCell ⟨q, 4, none⟩ u4).setCell ⟨q, 5, none⟩ u5).setCell ⟨q, 6, none⟩ u6).setCell ⟨q, 7, none⟩ u7) q #[u0, u1, u2, u3, u4, u5, u6, u7, z8, z9] t := h6.set 7 u7
  have h8 : Vb (((((((((v.setCell ⟨q, 0, none⟩ u0).setCell ⟨q, 1, none⟩ u1).setCell ⟨q, 2, none⟩ u2).setCell ⟨q, 3, none⟩ u3).setCell ⟨q, 4, none⟩ u4).setCell ⟨q, 5, none⟩ u5).setCell ⟨q, 6, none⟩ u6).setCell ⟨q, 7, none⟩ u7).setCell ⟨q, 8, none⟩ u8) q #[u0, u1, u2, u3, u4, u5, u6, u7, u8, z9] t := h7.set 8 u8
  have h9 : Vb ((((((((((v.setCell ⟨q, 0, none⟩ u0).setCell ⟨q, 1, none⟩ u1).setCell ⟨q, 2, none⟩ u2).setCell ⟨q, 3, none⟩ u3).setCell ⟨q, 4, none⟩ u4).setCell ⟨q, 5, none⟩ u5).setCell ⟨q, 6, none⟩ u6).setCell ⟨q, 7, none⟩ u7).setCell ⟨q, 8, none⟩ u8).setCell ⟨q, 9, none⟩ u9) q #[u0, u1, u2, u3, u4, u5, u6, u7, u8, u9] t := h8.set 9 u9
  exact ⟨h9, ((((((((((Mq.refl (fun k => k = q) v).set ⟨q, 0, none⟩ u0 rfl).set ⟨q, 1, none⟩ u1 rfl).set ⟨q, 2, none⟩ u2 rfl).set ⟨q, 3, none⟩ u3 rfl).set ⟨q, 4, none⟩ u4 rfl).set ⟨q, 5, none⟩ u5 rfl).set ⟨q, 6, none⟩ u6 rfl).set ⟨q, 7, none⟩ u7 rfl).set ⟨q, 8, none⟩ u8 rfl).set ⟨q, 9, none⟩ u9 rfl⟩

/-- What toHart has under way: the machine that came in (A), the answer's place, and what is made so far (O). -/
structure Tv (w v : World) (s : Nat) (A O : Array Value) : Prop where
  A : Vb v s A 78
  R : Vb v (s + 1) #[.slice none 0 0, .int .i64 0, .slice none 0 0, .bool false, .bool false, .bool false, .int .i64 0, .slice none 0 0, .slice none 0 0] 60
  O : Vb v (s + 1 + 1) O 60
  b : Below w.heap.size w v
  s : w.heap.size = s
theorem Tv.keep {w v v' : World} {s : Nat} {A O : Array Value} (h : Tv w v s A O) (b : Below v.heap.size v v') : Tv w v' s A O := ⟨h.A.keep b, h.R.keep b, h.O.keep b, on h.b b, h.s⟩
theorem Tv.put {w v : World} {s : Nat} {A O : Array Value} (h : Tv w v s A O) (j : Nat) (u : Value) : Tv w (v.setCell ⟨s + 1 + 1, j, none⟩ u) s A (O.setIfInBounds j u) :=
  ⟨h.A.put _ _ (by show s ≠ s + 1 + 1; omega), h.R.put _ _ (by show s + 1 ≠ s + 1 + 1; omega), h.O.set j u, h.b.setCell (by have := h.s; show w.heap.size ≤ s + 1 + 1; omega) _, h.s⟩

set_option maxRecDepth 20000 in
set_option maxHeartbeats 8000000 in
theorem to_hart (a0 a1 a2 a3 : Option Addr) (n0 c0 n1 c1 n2 c2 n3 c3 : Nat) (H : Ht) (w : World) (h : Hin w a0 n0 c0 a1 n1 c1 a2 n2 c2 a3 n3 c3 H) (hs : Hs n0 n1 n2 n3) :
    Calls Tryz.prog 52 #[.agg #[.slice a0 n0 c0, .int .i64 H.pc, .slice a1 n1 c1, .bool H.halted, .bool H.waiting, .bool H.rung, .int .i64 H.done, .slice a2 n2 c2, .slice a3 n3 c3]] w fun e w' => ∃ r c i o, e = .returned (.agg #[r, .int .i64 H.pc, c, .bool H.halted, .bool H.waiting, .bool H.rung, .int .i64 H.done, i, o]) ∧
      Hm w' w.heap.size r c i o H ∧ Ha r c i o ∧ Below w.heap.size w w' := by
  have HS : Hid (Hs n0 n1 n2 n3) := hs
  have HP : Hid (Hin w a0 n0 c0 a1 n1 c1 a2 n2 c2 a3 n3 c3 H) := h
  clear h hs
  generalize hW : ((w.alloc (.cells #[.slice a0 n0 c0, .int .i64 H.pc, .slice a1 n1 c1, .bool H.halted, .bool H.waiting, .bool H.rung, .int .i64 H.done, .slice a2 n2 c2, .slice a3 n3 c3] 78)).alloc (.cells #[.slice none 0 0, .int .i64 0, .slice none 0 0, .bool false, .bool false, .bool false, .int .i64 0, .slice none 0 0, .slice none 0 0] 60)).alloc (.cells #[.slice none 0 0, .int .i64 0, .slice none 0 0, .bool false, .bool false, .bool false, .int .i64 0, .slice none 0 0, .slice none 0 0] 60) = W
  have SZ : Hid (W.heap.size = w.heap.size + 3) := by show _ = _; rw [← hW]; simp
  obtain ⟨s, hS⟩ : ∃ s, w.heap.size = s := ⟨_, rfl⟩
  have HSs : Hid (w.heap.size = s) := hS
  have T0 : Hid (Tv w W s #[.slice a0 n0 c0, .int .i64 H.pc, .slice a1 n1 c1, .bool H.halted, .bool H.waiting, .bool H.rung, .int .i64 H.done, .slice a2 n2 c2, .slice a3 n3 c3] #[.slice none 0 0, .int .i64 0, .slice none 0 0, .bool false, .bool false, .bool false, .int .i64 0, .slice none 0 0, .slice none 0 0]) := by
    have z1 : s + 1 = (w.alloc (.cells #[.slice a0 n0 c0, .int .i64 H.pc, .slice a1 n1 c1, .bool H.halted, .bool H.waiting, .bool H.rung, .int .i64 H.done, .slice a2 n2 c2, .slice a3 n3 c3] 78)).heap.size := by rw [← hS]; simp
    have z2 : s + 1 + 1 = ((w.alloc (.cells #[.slice a0 n0 c0, .int .i64 H.pc, .slice a1 n1 c1, .bool H.halted, .bool H.waiting, .bool H.rung, .int .i64 H.done, .slice a2 n2 c2, .slice a3 n3 c3] 78)).alloc (.cells #[.slice none 0 0, .int .i64 0, .slice none 0 0, .bool false, .bool false, .bool false, .int .i64 0, .slice none 0 0, .slice none 0 0] 60)).heap.size := by rw [← hS]; simp
    refine ⟨?_, ?_, ?_, by rw [← hW]; exact al (al (al (Below.refl _ _) _) _) _, hS⟩
    · rw [← hW, ← hS]; exact ((Vb.new _ _ _).push _).push _
    · rw [← hW, z1]; exact (Vb.new _ _ _).push _
    · rw [← hW, z2]; exact Vb.new _ _ _
  have q0 := T0.out.A.cell 0 rfl
  go_enter Tryz.func52, Tryz.ntmps52
  go_wp2_with fail
  clear hW hS q0
  refine (to_nums _ _ _ _ _ (HP.out.stay T0.out.b).regs HS.out.regs).mono ?_
  rintro e w1 ⟨g0, rfl, m1, b1⟩
  have M0 : Hid (Nums w1 (s + 3) (.slice (some ⟨g0, 0, none⟩) n0 n0) H.regs) := m1.mono (by have := SZ.out; have := HSs.out; omega)
  have MB0 : Hid (Nums w1 W.heap.size (.slice (some ⟨g0, 0, none⟩) n0 n0) H.regs) := m1
  have S1 := T0.out.keep b1
  have o0 := S1.O.cell 0 rfl
  have f0 := S1.O.free 0
  have o1 := S1.O.cell 1 rfl
  have f1 := S1.O.free 1
  have e1 := S1.A.cell 1 rfl
  have e2 := S1.A.cell 2 rfl
  have T1 : Hid (Tv w ((w1.setCell ⟨s + 1 + 1, 0, none⟩ (.slice (some ⟨g0, 0, none⟩) n0 n0)).setCell ⟨s + 1 + 1, 1, none⟩ (.int .i64 H.pc)) s #[.slice a0 n0 c0, .int .i64 H.pc, .slice a1 n1 c1, .bool H.halted, .bool H.waiting, .bool H.rung, .int .i64 H.done, .slice a2 n2 c2, .slice a3 n3 c3] #[.slice (some ⟨g0, 0, none⟩) n0 n0, .int .i64 H.pc, .slice none 0 0, .bool false, .bool false, .bool false, .int .i64 0, .slice none 0 0, .slice none 0 0]) := ((S1.put 0 (.slice (some ⟨g0, 0, none⟩) n0 n0)).put 1 (.int .i64 H.pc))
  have H1 : Hid (Ho (s + 3) w1 ((w1.setCell ⟨s + 1 + 1, 0, none⟩ (.slice (some ⟨g0, 0, none⟩) n0 n0)).setCell ⟨s + 1 + 1, 1, none⟩ (.int .i64 H.pc))) := (Ho.set w1 ⟨s + 1 + 1, 0, none⟩ (.slice (some ⟨g0, 0, none⟩) n0 n0) (by show s + 1 + 1 < s + 3; omega)).trans (Ho.set (w1.setCell ⟨s + 1 + 1, 0, none⟩ (.slice (some ⟨g0, 0, none⟩) n0 n0)) ⟨s + 1 + 1, 1, none⟩ (.int .i64 H.pc) (by show s + 1 + 1 < s + 3; omega))
  have Z1 : Hid (s + 3 ≤ ((w1.setCell ⟨s + 1 + 1, 0, none⟩ (.slice (some ⟨g0, 0, none⟩) n0 n0)).setCell ⟨s + 1 + 1, 1, none⟩ (.int .i64 H.pc)).heap.size) := by have := T1.out.O.lt; show _ ≤ _; omega
  have Y1 : Hid (w1.heap.size ≤ ((w1.setCell ⟨s + 1 + 1, 0, none⟩ (.slice (some ⟨g0, 0, none⟩) n0 n0)).setCell ⟨s + 1 + 1, 1, none⟩ (.int .i64 H.pc)).heap.size) := H1.out.size
  clear S1 m1 b1
  go_wp2_with fail
  generalize ((w1.setCell ⟨s + 1 + 1, 0, none⟩ (.slice (some ⟨g0, 0, none⟩) n0 n0)).setCell ⟨s + 1 + 1, 1, none⟩ (.int .i64 H.pc)) = v1 at *
  clear o0 f0 o1 f1 e1 e2
  refine (to_nums _ _ _ _ _ (HP.out.stay T1.out.b).csr HS.out.csr).mono ?_
  rintro e w2 ⟨g1, rfl, m1, b1⟩
  have M1 : Hid (Nums w2 (s + 3) (.slice (some ⟨g1, 0, none⟩) n1 n1) H.csr) := m1.mono Z1.out
  have H12 : Hid (Ho (s + 3) w1 w2) := H1.out.trans (Ho.of b1)
  have MB1 : Hid (Nums w2 v1.heap.size (.slice (some ⟨g1, 0, none⟩) n1 n1) H.csr) := m1
  have S1 := T1.out.keep b1
  have o2 := S1.O.cell 2 rfl
  have f2 := S1.O.free 2
  have o3 := S1.O.cell 3 rfl
  have f3 := S1.O.free 3
  have o4 := S1.O.cell 4 rfl
  have f4 := S1.O.free 4
  have o5 := S1.O.cell 5 rfl
  have f5 := S1.O.free 5
  have o6 := S1.O.cell 6 rfl
  have f6 := S1.O.free 6
  have e3 := S1.A.cell 3 rfl
  have e4 := S1.A.cell 4 rfl
  have e5 := S1.A.cell 5 rfl
  have e6 := S1.A.cell 6 rfl
  have e7 := S1.A.cell 7 rfl
  have T2 : Hid (Tv w (((((w2.setCell ⟨s + 1 + 1, 2, none⟩ (.slice (some ⟨g1, 0, none⟩) n1 n1)).setCell ⟨s + 1 + 1, 3, none⟩ (.bool H.halted)).setCell ⟨s + 1 + 1, 4, none⟩ (.bool H.waiting)).setCell ⟨s + 1 + 1, 5, none⟩ (.bool H.rung)).setCell ⟨s + 1 + 1, 6, none⟩ (.int .i64 H.done)) s #[.slice a0 n0 c0, .int .i64 H.pc, .slice a1 n1 c1, .bool H.halted, .bool H.waiting, .bool H.rung, .int .i64 H.done, .slice a2 n2 c2, .slice a3 n3 c3] #[.slice (some ⟨g0, 0, none⟩) n0 n0, .int .i64 H.pc, .slice (some ⟨g1, 0, none⟩) n1 n1, .bool H.halted, .bool H.waiting, .bool H.rung, .int .i64 H.done, .slice none 0 0, .slice none 0 0]) := (((((S1.put 2 (.slice (some ⟨g1, 0, none⟩) n1 n1)).put 3 (.bool H.halted)).put 4 (.bool H.waiting)).put 5 (.bool H.rung)).put 6 (.int .i64 H.done))
  have H2 : Hid (Ho (s + 3) w2 (((((w2.setCell ⟨s + 1 + 1, 2, none⟩ (.slice (some ⟨g1, 0, none⟩) n1 n1)).setCell ⟨s + 1 + 1, 3, none⟩ (.bool H.halted)).setCell ⟨s + 1 + 1, 4, none⟩ (.bool H.waiting)).setCell ⟨s + 1 + 1, 5, none⟩ (.bool H.rung)).setCell ⟨s + 1 + 1, 6, none⟩ (.int .i64 H.done))) := ((((Ho.set w2 ⟨s + 1 + 1, 2, none⟩ (.slice (some ⟨g1, 0, none⟩) n1 n1) (by show s + 1 + 1 < s + 3; omega)).trans (Ho.set (w2.setCell ⟨s + 1 + 1, 2, none⟩ (.slice (some ⟨g1, 0, none⟩) n1 n1)) ⟨s + 1 + 1, 3, none⟩ (.bool H.halted) (by show s + 1 + 1 < s + 3; omega))).trans (Ho.set ((w2.setCell ⟨s + 1 + 1, 2, none⟩ (.slice (some ⟨g1, 0, none⟩) n1 n1)).setCell ⟨s + 1 + 1, 3, none⟩ (.bool H.halted)) ⟨s + 1 + 1, 4, none⟩ (.bool H.waiting) (by show s + 1 + 1 < s + 3; omega))).trans (Ho.set (((w2.setCell ⟨s + 1 + 1, 2, none⟩ (.slice (some ⟨g1, 0, none⟩) n1 n1)).setCell ⟨s + 1 + 1, 3, none⟩ (.bool H.halted)).setCell ⟨s + 1 + 1, 4, none⟩ (.bool H.waiting)) ⟨s + 1 + 1, 5, none⟩ (.bool H.rung) (by show s + 1 + 1 < s + 3; omega))).trans (Ho.set ((((w2.setCell ⟨s + 1 + 1, 2, none⟩ (.slice (some ⟨g1, 0, none⟩) n1 n1)).setCell ⟨s + 1 + 1, 3, none⟩ (.bool H.halted)).setCell ⟨s + 1 + 1, 4, none⟩ (.bool H.waiting)).setCell ⟨s + 1 + 1, 5, none⟩ (.bool H.rung)) ⟨s + 1 + 1, 6, none⟩ (.int .i64 H.done) (by show s + 1 + 1 < s + 3; omega))
  have Z2 : Hid (s + 3 ≤ (((((w2.setCell ⟨s + 1 + 1, 2, none⟩ (.slice (some ⟨g1, 0, none⟩) n1 n1)).setCell ⟨s + 1 + 1, 3, none⟩ (.bool H.halted)).setCell ⟨s + 1 + 1, 4, none⟩ (.bool H.waiting)).setCell ⟨s + 1 + 1, 5, none⟩ (.bool H.rung)).setCell ⟨s + 1 + 1, 6, none⟩ (.int .i64 H.done)).heap.size) := by have := T2.out.O.lt; show _ ≤ _; omega
  have Y2 : Hid (w2.heap.size ≤ (((((w2.setCell ⟨s + 1 + 1, 2, none⟩ (.slice (some ⟨g1, 0, none⟩) n1 n1)).setCell ⟨s + 1 + 1, 3, none⟩ (.bool H.halted)).setCell ⟨s + 1 + 1, 4, none⟩ (.bool H.waiting)).setCell ⟨s + 1 + 1, 5, none⟩ (.bool H.rung)).setCell ⟨s + 1 + 1, 6, none⟩ (.int .i64 H.done)).heap.size) := H2.out.size
  clear S1 m1 b1
  go_wp2_with fail
  generalize (((((w2.setCell ⟨s + 1 + 1, 2, none⟩ (.slice (some ⟨g1, 0, none⟩) n1 n1)).setCell ⟨s + 1 + 1, 3, none⟩ (.bool H.halted)).setCell ⟨s + 1 + 1, 4, none⟩ (.bool H.waiting)).setCell ⟨s + 1 + 1, 5, none⟩ (.bool H.rung)).setCell ⟨s + 1 + 1, 6, none⟩ (.int .i64 H.done)) = v2 at *
  clear o2 f2 o3 f3 o4 f4 o5 f5 o6 f6 e3 e4 e5 e6 e7
  refine (to_nums _ _ _ _ _ (HP.out.stay T2.out.b).inn HS.out.inn).mono ?_
  rintro e w3 ⟨g2, rfl, m1, b1⟩
  have M2 : Hid (Nums w3 (s + 3) (.slice (some ⟨g2, 0, none⟩) n2 n2) H.inn) := m1.mono Z2.out
  have H23 : Hid (Ho (s + 3) w2 w3) := H2.out.trans (Ho.of b1)
  have MB2 : Hid (Nums w3 v2.heap.size (.slice (some ⟨g2, 0, none⟩) n2 n2) H.inn) := m1
  have S1 := T2.out.keep b1
  have o7 := S1.O.cell 7 rfl
  have f7 := S1.O.free 7
  have e8 := S1.A.cell 8 rfl
  have T3 : Hid (Tv w (w3.setCell ⟨s + 1 + 1, 7, none⟩ (.slice (some ⟨g2, 0, none⟩) n2 n2)) s #[.slice a0 n0 c0, .int .i64 H.pc, .slice a1 n1 c1, .bool H.halted, .bool H.waiting, .bool H.rung, .int .i64 H.done, .slice a2 n2 c2, .slice a3 n3 c3] #[.slice (some ⟨g0, 0, none⟩) n0 n0, .int .i64 H.pc, .slice (some ⟨g1, 0, none⟩) n1 n1, .bool H.halted, .bool H.waiting, .bool H.rung, .int .i64 H.done, .slice (some ⟨g2, 0, none⟩) n2 n2, .slice none 0 0]) := (S1.put 7 (.slice (some ⟨g2, 0, none⟩) n2 n2))
  have H3 : Hid (Ho (s + 3) w3 (w3.setCell ⟨s + 1 + 1, 7, none⟩ (.slice (some ⟨g2, 0, none⟩) n2 n2))) := Ho.set w3 ⟨s + 1 + 1, 7, none⟩ (.slice (some ⟨g2, 0, none⟩) n2 n2) (by show s + 1 + 1 < s + 3; omega)
  have Z3 : Hid (s + 3 ≤ (w3.setCell ⟨s + 1 + 1, 7, none⟩ (.slice (some ⟨g2, 0, none⟩) n2 n2)).heap.size) := by have := T3.out.O.lt; show _ ≤ _; omega
  have Y3 : Hid (w3.heap.size ≤ (w3.setCell ⟨s + 1 + 1, 7, none⟩ (.slice (some ⟨g2, 0, none⟩) n2 n2)).heap.size) := H3.out.size
  clear S1 m1 b1
  go_wp2_with fail
  generalize (w3.setCell ⟨s + 1 + 1, 7, none⟩ (.slice (some ⟨g2, 0, none⟩) n2 n2)) = v3 at *
  clear o7 f7 e8
  refine (to_nums _ _ _ _ _ (HP.out.stay T3.out.b).out HS.out.out).mono ?_
  rintro e w4 ⟨g3, rfl, m1, b1⟩
  have M3 : Hid (Nums w4 (s + 3) (.slice (some ⟨g3, 0, none⟩) n3 n3) H.out) := m1.mono Z3.out
  have H34 : Hid (Ho (s + 3) w3 w4) := H3.out.trans (Ho.of b1)
  have MB3 : Hid (Nums w4 v3.heap.size (.slice (some ⟨g3, 0, none⟩) n3 n3) H.out) := m1
  have S1 := T3.out.keep b1
  have o8 := S1.O.cell 8 rfl
  have f8 := S1.O.free 8
  have T4 : Hid (Tv w (w4.setCell ⟨s + 1 + 1, 8, none⟩ (.slice (some ⟨g3, 0, none⟩) n3 n3)) s #[.slice a0 n0 c0, .int .i64 H.pc, .slice a1 n1 c1, .bool H.halted, .bool H.waiting, .bool H.rung, .int .i64 H.done, .slice a2 n2 c2, .slice a3 n3 c3] #[.slice (some ⟨g0, 0, none⟩) n0 n0, .int .i64 H.pc, .slice (some ⟨g1, 0, none⟩) n1 n1, .bool H.halted, .bool H.waiting, .bool H.rung, .int .i64 H.done, .slice (some ⟨g2, 0, none⟩) n2 n2, .slice (some ⟨g3, 0, none⟩) n3 n3]) := (S1.put 8 (.slice (some ⟨g3, 0, none⟩) n3 n3))
  have H4 : Hid (Ho (s + 3) w4 (w4.setCell ⟨s + 1 + 1, 8, none⟩ (.slice (some ⟨g3, 0, none⟩) n3 n3))) := Ho.set w4 ⟨s + 1 + 1, 8, none⟩ (.slice (some ⟨g3, 0, none⟩) n3 n3) (by show s + 1 + 1 < s + 3; omega)
  have Z4 : Hid (s + 3 ≤ (w4.setCell ⟨s + 1 + 1, 8, none⟩ (.slice (some ⟨g3, 0, none⟩) n3 n3)).heap.size) := by have := T4.out.O.lt; show _ ≤ _; omega
  have Y4 : Hid (w4.heap.size ≤ (w4.setCell ⟨s + 1 + 1, 8, none⟩ (.slice (some ⟨g3, 0, none⟩) n3 n3)).heap.size) := H4.out.size
  clear S1 m1 b1
  have p0 := T4.out.O.cell 0 rfl
  have r0 := T4.out.R.cell 0 rfl
  have y0 := T4.out.R.free 0
  have p1 := T4.out.O.cell 1 rfl
  have r1 := T4.out.R.cell 1 rfl
  have y1 := T4.out.R.free 1
  have p2 := T4.out.O.cell 2 rfl
  have r2 := T4.out.R.cell 2 rfl
  have y2 := T4.out.R.free 2
  have p3 := T4.out.O.cell 3 rfl
  have r3 := T4.out.R.cell 3 rfl
  have y3 := T4.out.R.free 3
  have p4 := T4.out.O.cell 4 rfl
  have r4 := T4.out.R.cell 4 rfl
  have y4 := T4.out.R.free 4
  have p5 := T4.out.O.cell 5 rfl
  have r5 := T4.out.R.cell 5 rfl
  have y5 := T4.out.R.free 5
  have p6 := T4.out.O.cell 6 rfl
  have r6 := T4.out.R.cell 6 rfl
  have y6 := T4.out.R.free 6
  have p7 := T4.out.O.cell 7 rfl
  have r7 := T4.out.R.cell 7 rfl
  have y7 := T4.out.R.free 7
  have p8 := T4.out.O.cell 8 rfl
  have r8 := T4.out.R.cell 8 rfl
  have y8 := T4.out.R.free 8
  go_wp2_with fail
  generalize (w4.setCell ⟨s + 1 + 1, 8, none⟩ (.slice (some ⟨g3, 0, none⟩) n3 n3)) = v4 at *
  have NN : Hid (_ ∧ _) := nine T4.out.R (.slice (some ⟨g0, 0, none⟩) n0 n0) (.int .i64 H.pc) (.slice (some ⟨g1, 0, none⟩) n1 n1) (.bool H.halted) (.bool H.waiting) (.bool H.rung) (.int .i64 H.done) (.slice (some ⟨g2, 0, none⟩) n2 n2) (.slice (some ⟨g3, 0, none⟩) n3 n3)
  clear p0 r0 y0 p1 r1 y1 p2 r2 y2 p3 r3 y3 p4 r4 y4 p5 r5 y5 p6 r6 y6 p7 r7 y7 p8 r8 y8
  generalize (((((((((v4.setCell ⟨s + 1, 0, none⟩ (.slice (some ⟨g0, 0, none⟩) n0 n0)).setCell ⟨s + 1, 1, none⟩ (.int .i64 H.pc)).setCell ⟨s + 1, 2, none⟩ (.slice (some ⟨g1, 0, none⟩) n1 n1)).setCell ⟨s + 1, 3, none⟩ (.bool H.halted)).setCell ⟨s + 1, 4, none⟩ (.bool H.waiting)).setCell ⟨s + 1, 5, none⟩ (.bool H.rung)).setCell ⟨s + 1, 6, none⟩ (.int .i64 H.done)).setCell ⟨s + 1, 7, none⟩ (.slice (some ⟨g2, 0, none⟩) n2 n2)).setCell ⟨s + 1, 8, none⟩ (.slice (some ⟨g3, 0, none⟩) n3 n3)) = V at *
  have H5 : Hid (Ho (s + 3) w4 V) := H4.out.trans (NN.out.2.ho fun k e => by omega)
  have B5 : Hid (Below w.heap.size w V) := Mq.under T4.out.b NN.out.2 fun k e => by have := HSs.out; omega
  have A01 : Apt (.slice (some ⟨g0, 0, none⟩) n0 n0) (.slice (some ⟨g1, 0, none⟩) n1 n1) := MB0.out.apt MB1.out Y1.out
  have A02 : Apt (.slice (some ⟨g0, 0, none⟩) n0 n0) (.slice (some ⟨g2, 0, none⟩) n2 n2) := MB0.out.apt MB2.out (Nat.le_trans H12.out.size Y2.out)
  have A03 : Apt (.slice (some ⟨g0, 0, none⟩) n0 n0) (.slice (some ⟨g3, 0, none⟩) n3 n3) := MB0.out.apt MB3.out (Nat.le_trans (Nat.le_trans H12.out.size H23.out.size) Y3.out)
  have A12 : Apt (.slice (some ⟨g1, 0, none⟩) n1 n1) (.slice (some ⟨g2, 0, none⟩) n2 n2) := MB1.out.apt MB2.out Y2.out
  have A13 : Apt (.slice (some ⟨g1, 0, none⟩) n1 n1) (.slice (some ⟨g3, 0, none⟩) n3 n3) := MB1.out.apt MB3.out (Nat.le_trans H23.out.size Y3.out)
  have A23 : Apt (.slice (some ⟨g2, 0, none⟩) n2 n2) (.slice (some ⟨g3, 0, none⟩) n3 n3) := MB2.out.apt MB3.out Y3.out
  have R0 : Nums V w.heap.size (.slice (some ⟨g0, 0, none⟩) n0 n0) H.regs := (M0.out.ho (H12.out.trans (H23.out.trans (H34.out.trans H5.out)))).mono (by have := HSs.out; omega)
  have R1 : Nums V w.heap.size (.slice (some ⟨g1, 0, none⟩) n1 n1) H.csr := (M1.out.ho (H23.out.trans (H34.out.trans H5.out))).mono (by have := HSs.out; omega)
  have R2 : Nums V w.heap.size (.slice (some ⟨g2, 0, none⟩) n2 n2) H.inn := (M2.out.ho (H34.out.trans H5.out)).mono (by have := HSs.out; omega)
  have R3 : Nums V w.heap.size (.slice (some ⟨g3, 0, none⟩) n3 n3) H.out := (M3.out.ho H5.out).mono (by have := HSs.out; omega)
  have x0 := NN.out.1.cell 0 rfl
  have x1 := NN.out.1.cell 1 rfl
  have x2 := NN.out.1.cell 2 rfl
  have x3 := NN.out.1.cell 3 rfl
  have x4 := NN.out.1.cell 4 rfl
  have x5 := NN.out.1.cell 5 rfl
  have x6 := NN.out.1.cell 6 rfl
  have x7 := NN.out.1.cell 7 rfl
  have x8 := NN.out.1.cell 8 rfl
  exact bodyPost_ret (v := .agg #[.slice (some ⟨g0, 0, none⟩) n0 n0, .int .i64 H.pc, .slice (some ⟨g1, 0, none⟩) n1 n1, .bool H.halted, .bool H.waiting, .bool H.rung, .int .i64 H.done, .slice (some ⟨g2, 0, none⟩) n2 n2, .slice (some ⟨g3, 0, none⟩) n3 n3]) (by simp [results, Tryz.results52, go_sem, x0, x1, x2, x3, x4, x5, x6, x7, x8]) rfl
    ⟨_, _, _, _, rfl, ⟨R0, R1, R2, R3⟩, ⟨A01, A02, A03, A12, A13, A23⟩, B5.out⟩
end Go.Proofs.YtggejbphdadckaaGreatDoor
namespace Go.Proofs.YtggejbphdadckaaGreatDoor
open Go.RowKit
set_option linter.unusedVariables false

theorem Mq.pre {S : Nat → Prop} {w w' : World} {o : Obj} (h : Mq S (w.alloc o) w') : Mq S w w' :=
  ⟨h.os, h.tape, h.output, by have := h.size; simp at this; omega, fun k hk hn => by rw [h.block k (by simp; omega) hn, Below.heap_alloc _ _ _ hk]⟩

end Go.Proofs.YtggejbphdadckaaGreatDoor
namespace Go.Proofs.YtggejbphdadckaaGreatDoor
open Go.RowKit
set_option linter.unusedVariables false

theorem mem_drop_pair (zs : List (Int × Int)) (b : Int × Int) (k : Nat) (hk : k < zs.length) : (b ∈ zs.drop k) ↔ (zs.getD k (0, 0) = b ∨ b ∈ zs.drop (k + 1)) := by
  rw [drop_cons_getD zs (0, 0) k hk, List.mem_cons]
  constructor
  · rintro (h | h)
    · exact .inl h.symm
    · exact .inr h
  · rintro (h | h)
    · exact .inl h.symm
    · exact .inr h

set_option maxHeartbeats 1000000 in
theorem i_index (a : Option Addr) (len cap : Nat) (x : Int) (zs : List Int) (w : World) (h : IsNs w a len cap zs) :
    Calls Tryz.prog 142 #[.slice a len cap, .int .i64 x] w fun e w' => (∃ v : Int, e = .returned (.int .i64 v) ∧ (0 ≤ v ↔ x ∈ zs)) ∧ w' = w := by
  have HR : Hid (IsNs w a len cap zs) := h
  have hmax : (len : Int) ≤ 9223372036854775807 := by have := h.cap; unfold maxLen at this; omega
  have HL : Hid (len = zs.length) := h.len
  clear h
  go_enter Tryz.func142, Tryz.ntmps142
  go_wp2_with fail
  go_loop [8] (fun c => ∃ j : Nat, j ≤ len ∧ c = .int .i64 j ∧ Hid ((x ∈ zs) ↔ (x ∈ zs.drop j))) (fun c => len - (intOf c).toNat)
  case atStart => exact ⟨0, Nat.zero_le _, rfl, by show _ ↔ _; simp⟩
  case round =>
    obtain ⟨j, hj, rfl, hI⟩ := hrel
    by_cases hlt : j < len
    · rcases HR.out with ⟨_, h1, _, _⟩ | ⟨y, rfl, h1, h2, h3, h4⟩
      · omega
      have c0 := h4 j hlt
      have hJ : (j : Int) < (len : Int) := by omega
      have HLT : Hid (j < len) := hlt
      have ST : Hid (_ ↔ _) := mem_drop_step zs x j (by have := HL.out; omega)
      clear h1 h2 h3 h4
      generalize hz : zs.getD j 0 = z at *
      clear hz
      clear hlt
      by_cases hx : x = z
      · have HX : Hid (x = z) := hx
        go_wp2_with fail
        go_ret
        exact ⟨⟨_, rfl, ⟨fun _ => by have := hI.out.2 (ST.out.2 (.inl HX.out.symm)); rw [HX.out] at this; exact this, fun _ => by omega⟩⟩, rfl⟩
      · have HX : Hid (¬ x = z) := hx
        go_wp2_with fail
        go_round
        case rel =>
          refine ⟨j + 1, by have := HLT.out; omega, by go_num, ?_⟩
          show _ ↔ _
          rw [hI.out, ST.out]
          have := HX.out
          exact ⟨fun h => h.elim (fun e => absurd e.symm this) id, .inr⟩
        case measure => have := HLT.out; simp [intOf]; omega
    · have hJ : ¬ (j : Int) < (len : Int) := by omega
      have HJ : Hid (j = len) := by show _ = _; omega
      clear hlt
      go_wp2_with fail
      go_ret
      refine ⟨⟨_, rfl, ?_⟩, rfl⟩
      rw [hI.out, List.drop_of_length_le (by have := HL.out; have := HJ.out; omega)]
      simp
theorem i_contains (a : Option Addr) (len cap : Nat) (x : Int) (zs : List Int) (w : World) (h : IsNs w a len cap zs) :
    Calls Tryz.prog 139 #[.slice a len cap, .int .i64 x] w fun e w' => e = .returned (.bool (decide (x ∈ zs))) ∧ w' = w := by
  have HR : Hid (IsNs w a len cap zs) := h
  clear h
  go_enter Tryz.func139, Tryz.ntmps139
  go_wp2_with (go_at_call 142; refine (i_index _ _ _ _ _ _ HR.out).mono ?_; rintro e w1 ⟨⟨v, rfl, hv⟩, rfl⟩)
  go_ret
  exact ⟨congrArg (fun b => Ending.returned (.bool b)) (by apply Bool.eq_iff_iff.2; simp), rfl⟩

set_option maxHeartbeats 2000000 in
theorem i_indexB (a : Option Addr) (len cap : Nat) (f t : Int) (zs : List (Int × Int)) (w : World) (h : IsPairs w a len cap zs) :
    Calls Tryz.prog 141 #[.slice a len cap, .agg #[.int .i64 f, .int .i64 t]] w fun e w' => (∃ v : Int, e = .returned (.int .i64 v) ∧ (0 ≤ v ↔ (f, t) ∈ zs)) ∧ Below w.heap.size w w' := by
  have HR : Hid (IsPairs w a len cap zs) := h
  have hmax : (len : Int) ≤ 9223372036854775807 := by have := h.cap; unfold maxLen at this; omega
  have HL : Hid (len = zs.length) := h.len
  clear h
  have q0 : (w.alloc (.cells #[.int .i64 f, .int .i64 t] 129)).cell? ⟨w.heap.size, 0, none⟩ = some (.int .i64 f) := cell_new rfl
  have q1 : (w.alloc (.cells #[.int .i64 f, .int .i64 t] 129)).cell? ⟨w.heap.size, 1, none⟩ = some (.int .i64 t) := cell_new rfl
  have Q : Hid (_ ∧ _) := ⟨q0, q1⟩
  have HB1 : Hid (Below w.heap.size w (w.alloc (.cells #[.int .i64 f, .int .i64 t] 129))) := al (Below.refl _ _) _
  clear q0 q1
  go_enter Tryz.func141, Tryz.ntmps141
  go_wp2_with fail
  generalize w.alloc (.cells #[.int .i64 f, .int .i64 t] 129) = W1 at *
  obtain ⟨B, hB⟩ : ∃ B, w.heap.size = B := ⟨_, rfl⟩
  rw [hB] at Q ⊢
  have HBB : Hid (w.heap.size = B) := hB
  clear hB
  go_loopw [8] (fun c wq => ∃ j : Nat, j ≤ len ∧ c = .int .i64 j ∧ Below W1.heap.size W1 wq ∧ Hid (((f, t) ∈ zs) ↔ ((f, t) ∈ zs.drop j))) (fun c _ => len - (intOf c).toNat)
  case atStart => exact ⟨0, Nat.zero_le _, rfl, Below.refl _ _, by show _ ↔ _; simp⟩
  case round =>
    obtain ⟨j, hj, rfl, hB, hI⟩ := hrel
    have HBq : Hid (Below _ W1 wr) := hB
    have HBw : Hid (Below w.heap.size w wr) := on HB1.out hB
    have q0 := cell_keep hB Q.out.1
    have q1 := cell_keep hB Q.out.2
    have bB : B < wr.heap.size := block_of_cell q0
    by_cases hlt : j < len
    · obtain ⟨x, rfl, k0, k1⟩ := (HR.out.stay (on HB1.out hB)).at j hlt
      have hJ : (j : Int) < (len : Int) := by omega
      have HLT : Hid (j < len) := hlt
      have ST : Hid (_ ↔ _) := mem_drop_pair zs (f, t) j (by have := HL.out; omega)
      obtain ⟨⟨o1, o2⟩, hO⟩ : ∃ O, zs.getD j (0, 0) = O := ⟨_, rfl⟩
      rw [hO] at k0 k1 ST
      simp only at k0 k1
      clear hO hlt hB
      by_cases h1 : f = o1
      · by_cases h2 : t = o2
        · subst h1 h2
          go_wp2_with fail
          go_quiet (fail)
          go_wp2_with fail
          go_ret
          exact ⟨⟨_, rfl, ⟨fun _ => hI.out.2 (ST.out.2 (.inl (by trivial))), fun _ => by omega⟩⟩, dr HBw.out _⟩
        · have HX : Hid (¬ t = o2) := h2
          go_wp2_with fail
          go_quiet (fail)
          go_wp2_with fail
          go_roundw
          case rel => exact ⟨j + 1, by have := HLT.out; omega, by go_num, dr HBq.out _, by show _ ↔ _; rw [hI.out, ST.out]; exact ⟨fun h => h.elim (fun e => absurd (congrArg Prod.snd e).symm HX.out) id, .inr⟩⟩
          case measure => have := HLT.out; simp [intOf]; omega
      · have HX : Hid (¬ f = o1) := h1
        go_wp2_with fail
        go_quiet (fail)
        go_wp2_with fail
        go_roundw
        case rel => exact ⟨j + 1, by have := HLT.out; omega, by go_num, dr HBq.out _, by show _ ↔ _; rw [hI.out, ST.out]; exact ⟨fun h => h.elim (fun e => absurd (congrArg Prod.fst e).symm HX.out) id, .inr⟩⟩
        case measure => have := HLT.out; simp [intOf]; omega
    · have hJ : ¬ (j : Int) < (len : Int) := by omega
      have HJ : Hid (j = len) := by show _ = _; omega
      clear hlt hB
      go_wp2_with fail
      go_ret
      refine ⟨⟨_, rfl, ?_⟩, HBw.out⟩
      rw [hI.out, List.drop_of_length_le (by have := HL.out; have := HJ.out; omega)]
      simp
theorem i_containsB (a : Option Addr) (len cap : Nat) (f t : Int) (zs : List (Int × Int)) (w : World) (h : IsPairs w a len cap zs) :
    Calls Tryz.prog 129 #[.slice a len cap, .agg #[.int .i64 f, .int .i64 t]] w fun e w' => e = .returned (.bool (decide ((f, t) ∈ zs))) ∧ Below w.heap.size w w' := by
  have HR : Hid (IsPairs (w.alloc (.cells #[.int .i64 f, .int .i64 t] 129)) a len cap zs) := h.stay (al (Below.refl _ _) _)
  clear h
  go_enter Tryz.func129, Tryz.ntmps129
  go_wp2_with (go_at_call 141; refine (i_indexB _ _ _ _ _ _ _ HR.out).mono ?_; rintro e w1 ⟨⟨v, rfl, hv⟩, b1⟩)
  go_ret
  exact ⟨congrArg (fun b => Ending.returned (.bool b)) (by apply Bool.eq_iff_iff.2; simp), on (al (Below.refl _ _) _) b1⟩

theorem i_closure (a : Option Addr) (len cap g : Nat) (x : Int) (zs : List Int) (w : World) (h : IsNs w a len cap zs) (hg : w.cell? ⟨g, 0, none⟩ = some (.int .i64 x)) :
    Calls Tryz.prog 138 #[.slice a len cap, .pointer (some ⟨g, 0, none⟩)] w fun e w' => e = .returned (.bool (decide (x ∈ zs))) ∧ w' = w := by
  have HR : Hid (IsNs w a len cap zs) := h
  clear h
  go_enter Tryz.func138, Tryz.ntmps138
  go_wp2_with (go_at_call 139; refine (i_contains _ _ _ _ _ _ HR.out).mono ?_; rintro e w1 ⟨rfl, rfl⟩)
  go_ret
  exact ⟨rfl, rfl⟩
set_option maxHeartbeats 1000000 in
theorem i_indexF (a : Option Addr) (n c g : Nat) (pg : Int) (own : List (List Int)) (w : World) (h : IsS2 w a n c own) (hg : w.cell? ⟨g, 0, none⟩ = some (.int .i64 pg)) :
    Calls Tryz.prog 137 #[.slice a n c, .func (.func 138) #[] #[.pointer (some ⟨g, 0, none⟩)]] w fun e w' => e = .returned (.int .i64 (ownerFrom 0 own pg)) ∧ w' = w := by
  have HL : Hid (n = own.length) := h.len
  have HO : Hid (IsS2 w a n c own) := h
  have HG : Hid (w.cell? ⟨g, 0, none⟩ = some (.int .i64 pg)) := hg
  have hmax : (n : Int) ≤ 9223372036854775807 := by have := h.cap; unfold maxLen at this; omega
  clear h hg
  go_enter Tryz.func137, Tryz.ntmps137
  go_wp2_with fail
  go_loop [8] (fun c => ∃ j : Nat, j ≤ n ∧ c = .int .i64 j ∧ Hid (ownerFrom 0 own pg = ownerFrom j (own.drop j) pg)) (fun c => n - (intOf c).toNat)
  case atStart => exact ⟨0, Nat.zero_le _, rfl, by show _ = _; simp⟩
  case round =>
    obtain ⟨j, hj, rfl, hI⟩ := hrel
    by_cases hlt : j < n
    · obtain ⟨x, b, l, c, rfl, k1, k2⟩ := HO.out.at j hlt
      have HN : Hid (IsNs w b l c _) := k2
      have hJ : (j : Int) < (n : Int) := by omega
      have HLT : Hid (j < n) := hlt
      have ST : Hid (_ = _) := owner_step own pg j (by have := HL.out; omega)
      clear k2 hlt
      by_cases hx : pg ∈ own.getD j []
      · have HX : Hid (pg ∈ own.getD j []) := hx
        have hd : decide (pg ∈ own.getD j []) = true := decide_eq_true hx
        clear hx
        go_wp2_with (go_at_call 138; refine (i_closure _ _ _ _ _ _ _ HN.out HG.out).mono ?_; rintro e x ⟨rfl, rfl⟩; rw [hd])
        go_ret
        rw [hI.out, ST.out, if_pos HX.out]
        exact ⟨rfl, rfl⟩
      · have HX : Hid (¬ pg ∈ own.getD j []) := hx
        have hd : decide (pg ∈ own.getD j []) = false := decide_eq_false hx
        clear hx
        go_wp2_with (go_at_call 138; refine (i_closure _ _ _ _ _ _ _ HN.out HG.out).mono ?_; rintro e x ⟨rfl, rfl⟩; rw [hd])
        go_round
        case rel =>
          refine ⟨j + 1, by have := HLT.out; omega, by go_num, ?_⟩
          show _ = _
          rw [hI.out, ST.out, if_neg HX.out]
        case measure => have := HLT.out; simp [intOf]; omega
    · have hJ : ¬ (j : Int) < (n : Int) := by omega
      have HJ : Hid (j = n) := by show _ = _; omega
      clear hlt
      go_wp2_with fail
      go_ret
      rw [hI.out, List.drop_of_length_le (by have := HL.out; have := HJ.out; omega)]
      exact ⟨rfl, rfl⟩
theorem i_owner (a0 a1 a2 a3 : Option Addr) (n0 c0 n1 c1 n2 c2 n3 c3 : Nat) (P : Plc) (pg : Int) (w : World) (h : Pl w a0 n0 c0 a1 n1 c1 a2 n2 c2 a3 n3 c3 P) :
    Calls Tryz.prog 127 #[.agg #[.slice a0 n0 c0, .slice a1 n1 c1, .slice a2 n2 c2, .slice a3 n3 c3], .int .i64 pg] w fun e w' => e = .returned (.int .i64 (ownerFrom 0 P.own pg)) ∧ Below w.heap.size w w' := by
  have HO : Hid (IsS2 ((w.alloc (.cells #[.slice a0 n0 c0, .slice a1 n1 c1, .slice a2 n2 c2, .slice a3 n3 c3] 37)).alloc (.cells #[.int .i64 pg] 2)) a0 n0 c0 P.own) := h.own.stay (al (al (Below.refl _ _) _) _)
  have HG : Hid (((w.alloc (.cells #[.slice a0 n0 c0, .slice a1 n1 c1, .slice a2 n2 c2, .slice a3 n3 c3] 37)).alloc (.cells #[.int .i64 pg] 2)).cell? ⟨w.heap.size + 1, 0, none⟩ = some (.int .i64 pg)) := by
    show _ = _
    simp
  clear h
  go_enter Tryz.func127, Tryz.ntmps127
  go_wp2_with (go_at_call 137; refine (i_indexF _ _ _ _ _ _ _ HO.out HG.out).mono ?_; rintro e w1 ⟨rfl, rfl⟩)
  go_ret
  exact ⟨rfl, al (al (Below.refl _ _) _) _⟩
end Go.Proofs.YtggejbphdadckaaGreatDoor
namespace Go.Proofs.YtggejbphdadckaaGreatDoor
open Go.RowKit
set_option linter.unusedVariables false

set_option maxRecDepth 20000 in
set_option maxHeartbeats 4000000 in
theorem i_guests (a0 a1 a2 a3 : Option Addr) (n0 c0 n1 c1 n2 c2 n3 c3 : Nat) (P : Plc) (w : World) (h : Pl w a0 n0 c0 a1 n1 c1 a2 n2 c2 a3 n3 c3 P) :
    Calls Tryz.prog 110 #[.agg #[.slice a0 n0 c0, .slice a1 n1 c1, .slice a2 n2 c2, .slice a3 n3 c3]] w fun e w' => e = .returned (errV (g1V P.own)) ∧ Below w.heap.size w w' := by
  have HL : Hid (n0 = P.own.length) := h.own.len
  have HO : Hid (IsS2 (w.alloc (.cells #[.slice a0 n0 c0, .slice a1 n1 c1, .slice a2 n2 c2, .slice a3 n3 c3] 37)) a0 n0 c0 P.own) := h.own.stay (al (Below.refl _ _) _)
  have hmax : (n0 : Int) ≤ 9223372036854775807 := by have := h.own.cap; unfold maxLen at this; omega
  have HB : Hid (Below w.heap.size w (w.alloc (.cells #[.slice a0 n0 c0, .slice a1 n1 c1, .slice a2 n2 c2, .slice a3 n3 c3] 37))) := al (Below.refl _ _) _
  clear h
  by_cases hn : n0 < 1
  · have hb : (n0 : Int) < 1 := by omega
    have E : Hid (g1V P.own = 2) := by show _ = _; have := HL.out; rw [g1V, if_pos (.inl (by omega))]
    clear hn
    go_enter Tryz.func110, Tryz.ntmps110
    go_wp2_with fail
    go_ret
    rw [E.out]
    exact ⟨rfl, HB.out⟩
  by_cases hm : 3 < n0
  · have hb : ¬ (n0 : Int) < 1 := by omega
    have hb2 : (3 : Int) < n0 := by omega
    have E : Hid (g1V P.own = 2) := by show _ = _; have := HL.out; rw [g1V, if_pos (.inr (by omega))]
    clear hn hm
    go_enter Tryz.func110, Tryz.ntmps110
    go_wp2_with fail
    go_ret
    rw [E.out]
    exact ⟨rfl, HB.out⟩
  have E : Hid (g1V P.own = guestsV P.own) := by show _ = _; have := HL.out; rw [g1V, if_neg (by omega)]
  have hb : ¬ (n0 : Int) < 1 := by omega
  have hb2 : ¬ (3 : Int) < n0 := by omega
  clear hn hm
  go_enter Tryz.func110, Tryz.ntmps110
  go_wp2_with fail
  generalize (w.alloc (.cells #[.slice a0 n0 c0, .slice a1 n1 c1, .slice a2 n2 c2, .slice a3 n3 c3] 37)) = W1 at *
  go_loop [22] (fun c => ∃ j : Nat, j ≤ n0 ∧ c = .int .i64 j ∧ Hid (guestsV P.own = guestsV (P.own.drop j))) (fun c => n0 - (intOf c).toNat)
  case atStart => exact ⟨0, Nat.zero_le _, rfl, by show _ = _; simp⟩
  case round =>
    obtain ⟨j, hj, rfl, hI⟩ := hrel
    by_cases hlt : j < n0
    · obtain ⟨x, b, l, c, rfl, k1, k2⟩ := HO.out.at j hlt
      have HN : Hid (IsNs W1 b l c _) := k2
      have HNL : Hid (l = (P.own.getD j []).length) := k2.len
      have hlmax : (l : Int) ≤ 9223372036854775807 := by have := k2.cap; unfold maxLen at this; omega
      have hJ : (j : Int) < (n0 : Int) := by omega
      have HLT : Hid (j < n0) := hlt
      have ST : Hid (_ = _) := guests_step P.own j (by have := HL.out; omega)
      clear k2 hlt
      by_cases hl1 : l < 1
      · have hi1 : (l : Int) < 1 := by omega
        have HL1 : Hid (l < 1) := hl1
        clear hl1
        go_wp2_with fail
        go_ret
        rw [E.out, hI.out, ST.out, if_pos (.inl (by have := HL1.out; have := HNL.out; omega))]
        exact ⟨rfl, HB.out⟩
      by_cases hl5 : 5 < l
      · have hi1 : ¬ (l : Int) < 1 := by omega
        have hi2 : (5 : Int) < l := by omega
        have HL1 : Hid (5 < l) := hl5
        clear hl1 hl5
        go_wp2_with fail
        go_ret
        rw [E.out, hI.out, ST.out, if_pos (.inr (by have := HL1.out; have := HNL.out; omega))]
        exact ⟨rfl, HB.out⟩
      have hi1 : ¬ (l : Int) < 1 := by omega
      have hi2 : ¬ (5 : Int) < l := by omega
      have ST2 : Hid (guestsV (P.own.drop j) = if (P.own.getD j []).all pgOk = false then 3 else guestsV (P.own.drop (j + 1))) := by
        show _ = _
        rw [ST.out, if_neg (by have := HNL.out; omega)]
      clear hl1 hl5 ST
      go_wp2_with fail
      go_loop [38] (fun c => ∃ k : Nat, k ≤ l ∧ c = .int .i64 k ∧ Hid ((P.own.getD j []).all pgOk = ((P.own.getD j []).drop k).all pgOk)) (fun c => l - (intOf c).toNat)
      case atStart => exact ⟨0, Nat.zero_le _, rfl, by show _ = _; simp⟩
      case round =>
        obtain ⟨k, hk, rfl, hK⟩ := hrel
        by_cases hkl : k < l
        · rcases HN.out with ⟨_, h1, _, _⟩ | ⟨y, rfl, h1, h2, h3, h4⟩
          · omega
          have d0 := h4 k hkl
          have hK1 : (k : Int) < (l : Int) := by omega
          have HKL : Hid (k < l) := hkl
          have SA : Hid (_ = _) := all_step (P.own.getD j []) pgOk k (by have := HNL.out; omega)
          clear h1 h2 h3 h4 hkl
          generalize hz : (P.own.getD j []).getD k 0 = z at *
          clear hz
          by_cases hp : pgOk z = true
          · have HP : Hid (pgOk z = true) := hp
            go_wp2_with (go_at_call 124; refine (i_hostPage _ _).mono ?_; rintro e x ⟨rfl, rfl⟩; rw [hp])
            go_round
            case rel => exact ⟨k + 1, by have := HKL.out; omega, by go_num, by show _ = _; rw [hK.out, SA.out, HP.out, Bool.true_and]⟩
            case measure => have := HKL.out; simp [intOf]; omega
          · rw [Bool.not_eq_true] at hp
            have HP : Hid (pgOk z = false) := hp
            go_wp2_with (go_at_call 124; refine (i_hostPage _ _).mono ?_; rintro e x ⟨rfl, rfl⟩; rw [hp])
            go_ret
            rw [E.out, hI.out, ST2.out, if_pos (by rw [hK.out, SA.out, HP.out, Bool.false_and])]
            exact ⟨rfl, HB.out⟩
        · have hK1 : ¬ (k : Int) < (l : Int) := by omega
          have HKL : Hid (k = l) := by show _ = _; omega
          clear hkl
          go_wp2_with fail
          go_round
          case rel =>
            refine ⟨j + 1, by have := HLT.out; omega, by go_num, ?_⟩
            show _ = _
            rw [hI.out, ST2.out, if_neg]
            rw [hK.out, List.drop_of_length_le (by have := HKL.out; have := HNL.out; omega)]
            simp
          case measure => have := HLT.out; simp [intOf]; omega
    · have hJ : ¬ (j : Int) < (n0 : Int) := by omega
      have G0 : Hid (g1V P.own = 0) := by
        show _ = _
        rw [E.out, hI.out, List.drop_of_length_le (by have := HL.out; omega)]
        rfl
      clear hlt
      go_wp2_with fail
      go_ret
      rw [G0.out]
      exact ⟨rfl, HB.out⟩

set_option maxRecDepth 20000 in
set_option maxHeartbeats 4000000 in
theorem i_links (a0 a1 a2 a3 : Option Addr) (n0 c0 n1 c1 n2 c2 n3 c3 : Nat) (P : Plc) (w : World) (h : Pl w a0 n0 c0 a1 n1 c1 a2 n2 c2 a3 n3 c3 P) :
    Calls Tryz.prog 112 #[.agg #[.slice a0 n0 c0, .slice a1 n1 c1, .slice a2 n2 c2, .slice a3 n3 c3]] w fun e w' => e = .returned (errV (g3V P)) ∧ Below w.heap.size w w' := by
  have HL1 : Hid (n1 = P.lanes.length) := h.lanes.len
  have HL2 : Hid (n2 = P.bells.length) := h.bells.len
  have hmax : (n1 : Int) ≤ 9223372036854775807 := by have := h.lanes.cap; unfold maxLen at this; omega
  have hmax2 : (n2 : Int) ≤ 9223372036854775807 := by have := h.bells.cap; unfold maxLen at this; omega
  clear h
  by_cases hn : 4 < n1
  · have hb : (4 : Int) < n1 := by omega
    have E : Hid (g3V P = 2) := by show _ = _; have := HL1.out; rw [g3V, if_pos (.inl (by omega))]
    clear hn
    go_enter Tryz.func112, Tryz.ntmps112
    go_wp2_with fail
    go_ret
    rw [E.out]
    exact ⟨rfl, al (Below.refl _ _) _⟩
  by_cases hm : 4 < n2
  · have hb : ¬ (4 : Int) < n1 := by omega
    have hb2 : (4 : Int) < n2 := by omega
    have E : Hid (g3V P = 2) := by show _ = _; have := HL2.out; rw [g3V, if_pos (.inr (by omega))]
    clear hn hm
    go_enter Tryz.func112, Tryz.ntmps112
    go_wp2_with fail
    go_ret
    rw [E.out]
    exact ⟨rfl, al (Below.refl _ _) _⟩
  have E : Hid (g3V P = 0) := by show _ = _; have := HL1.out; have := HL2.out; rw [g3V, if_neg (by omega)]
  have hb : ¬ (4 : Int) < n1 := by omega
  have hb2 : ¬ (4 : Int) < n2 := by omega
  clear hn hm
  go_enter Tryz.func112, Tryz.ntmps112
  go_wp2_with fail
  go_ret
  rw [E.out]
  exact ⟨rfl, al (Below.refl _ _) _⟩

set_option maxRecDepth 20000 in
set_option maxHeartbeats 4000000 in
theorem i_plan (a0 a1 a2 a3 : Option Addr) (n0 c0 n1 c1 n2 c2 n3 c3 : Nat) (P : Plc) (w : World) (h : Pl w a0 n0 c0 a1 n1 c1 a2 n2 c2 a3 n3 c3 P) :
    Calls Tryz.prog 115 #[.agg #[.slice a0 n0 c0, .slice a1 n1 c1, .slice a2 n2 c2, .slice a3 n3 c3]] w fun e w' => e = .returned (errV (g6V P)) ∧ Below w.heap.size w w' := by
  have HL0 : Hid (n0 = P.own.length) := h.own.len
  have HL3 : Hid (n3 = P.plan.length) := h.plan.len
  have HPl : Hid (IsPairs (w.alloc (.cells #[.slice a0 n0 c0, .slice a1 n1 c1, .slice a2 n2 c2, .slice a3 n3 c3] 37)) a3 n3 c3 P.plan) := h.plan.stay (al (Below.refl _ _) _)
  have hmax3 : (n3 : Int) ≤ 9223372036854775807 := by have := h.plan.cap; unfold maxLen at this; omega
  have HM0 : Hid ((n0 : Int) ≤ 9223372036854775807) := by have := h.own.cap; show _ ≤ _; unfold maxLen at this; omega
  have HB1 : Hid (Below w.heap.size w (w.alloc (.cells #[.slice a0 n0 c0, .slice a1 n1 c1, .slice a2 n2 c2, .slice a3 n3 c3] 37))) := al (Below.refl _ _) _
  have Q : Hid (((w.alloc (.cells #[.slice a0 n0 c0, .slice a1 n1 c1, .slice a2 n2 c2, .slice a3 n3 c3] 37))).cell? ⟨w.heap.size, 0, none⟩ = some (.slice a0 n0 c0) ∧ ((w.alloc (.cells #[.slice a0 n0 c0, .slice a1 n1 c1, .slice a2 n2 c2, .slice a3 n3 c3] 37))).cell? ⟨w.heap.size, 1, none⟩ = some (.slice a1 n1 c1) ∧ ((w.alloc (.cells #[.slice a0 n0 c0, .slice a1 n1 c1, .slice a2 n2 c2, .slice a3 n3 c3] 37))).cell? ⟨w.heap.size, 2, none⟩ = some (.slice a2 n2 c2) ∧ ((w.alloc (.cells #[.slice a0 n0 c0, .slice a1 n1 c1, .slice a2 n2 c2, .slice a3 n3 c3] 37))).cell? ⟨w.heap.size, 3, none⟩ = some (.slice a3 n3 c3)) := ⟨cell_new rfl, cell_new rfl, cell_new rfl, cell_new rfl⟩
  clear h
  by_cases hn : n3 < 1
  · have hb : (n3 : Int) < 1 := by omega
    have E : Hid (g6V P = 2) := by show _ = _; have := HL3.out; rw [g6V, if_pos (.inl (by omega))]
    clear hn
    go_enter Tryz.func115, Tryz.ntmps115
    go_wp2_with fail
    go_ret
    rw [E.out]
    exact ⟨rfl, HB1.out⟩
  by_cases hm : 8 < n3
  · have hb : ¬ (n3 : Int) < 1 := by omega
    have hb2 : (8 : Int) < n3 := by omega
    have E : Hid (g6V P = 2) := by show _ = _; have := HL3.out; rw [g6V, if_pos (.inr (by omega))]
    clear hn hm
    go_enter Tryz.func115, Tryz.ntmps115
    go_wp2_with fail
    go_ret
    rw [E.out]
    exact ⟨rfl, HB1.out⟩
  have E : Hid (g6V P = slotsV n0 P.plan) := by show _ = _; have := HL3.out; rw [g6V, if_neg (by omega), HL0.out]
  have hb : ¬ (n3 : Int) < 1 := by omega
  have hb2 : ¬ (8 : Int) < n3 := by omega
  clear hn hm
  go_enter Tryz.func115, Tryz.ntmps115
  go_wp2_with fail
  generalize (w.alloc (.cells #[.slice a0 n0 c0, .slice a1 n1 c1, .slice a2 n2 c2, .slice a3 n3 c3] 37)) = W1 at *
  obtain ⟨B0, hB0⟩ : ∃ B0, w.heap.size = B0 := ⟨_, rfl⟩
  rw [hB0] at Q ⊢
  clear hB0
  go_loopw [20] (fun c wr => ∃ i : Nat, i ≤ n3 ∧ c = .int .i64 i ∧ Below W1.heap.size W1 wr ∧ Hid (slotsV n0 P.plan = slotsV n0 (P.plan.drop i))) (fun c _ => n3 - (intOf c).toNat)
  case atStart => exact ⟨0, Nat.zero_le _, rfl, Below.refl _ _, by show _ = _; simp⟩
  case round =>
    obtain ⟨i, hi, rfl, hB, hS⟩ := hrel
    have HB : Hid (Below W1.heap.size W1 wr) := hB
    have q0 := cell_keep hB Q.out.1
    have q1 := cell_keep hB Q.out.2.1
    have q2 := cell_keep hB Q.out.2.2.1
    have q3 := cell_keep hB Q.out.2.2.2
    have bB : B0 < wr.heap.size := block_of_cell q0
    have HBw : Hid (Below w.heap.size w wr) := on HB1.out hB
    by_cases hlt : i < n3
    · obtain ⟨x, rfl, k0, k1⟩ := (HPl.out.stay hB).at i hlt
      have hJ : (i : Int) < (n3 : Int) := by omega
      have HLT : Hid (i < n3) := hlt
      have SS : Hid (_ = _) := slots_step n0 P.plan i (by have := HL3.out; omega)
      obtain ⟨⟨g, s⟩, hL⟩ : ∃ L, P.plan.getD i (0, 0) = L := ⟨_, rfl⟩
      rw [hL] at k0 k1 SS
      simp only at k0 k1
      clear hL hlt hB
      by_cases hg : isG n0 g = false
      · have RV3 : Hid (g6V P = 4) := by
          show _ = _
          have e : slotV n0 (g, s) = 4 := by rw [slotV, if_pos hg]
          rw [E.out, hS.out, SS.out, e, if_neg (by decide)]
        go_wp2_with (go_at_call 26; refine (i_guest _ _ _ _ _ _ _ _ _ _ _ _ _ _ HM0.out).mono ?_; rintro e wx ⟨rfl, rfl⟩; rw [hg])
        go_ret
        rw [RV3.out]
        exact ⟨rfl, al (al HBw.out _) _⟩
      rw [Bool.not_eq_false] at hg
      by_cases hs1 : s < 1
      · have RV3 : Hid (g6V P = 3) := by
          show _ = _
          have e : slotV n0 (g, s) = 3 := by rw [slotV, if_neg (by rw [hg]; simp), if_pos (by simp [stOk]; omega)]
          rw [E.out, hS.out, SS.out, e, if_neg (by decide)]
        go_wp2_with (go_at_call 26; refine (i_guest _ _ _ _ _ _ _ _ _ _ _ _ _ _ HM0.out).mono ?_; rintro e wx ⟨rfl, rfl⟩; rw [hg])
        go_ret
        rw [RV3.out]
        exact ⟨rfl, al (al HBw.out _) _⟩
      by_cases hs2 : 50 < s
      · have RV3 : Hid (g6V P = 3) := by
          show _ = _
          have e : slotV n0 (g, s) = 3 := by rw [slotV, if_neg (by rw [hg]; simp), if_pos (by simp [stOk]; omega)]
          rw [E.out, hS.out, SS.out, e, if_neg (by decide)]
        go_wp2_with (go_at_call 26; refine (i_guest _ _ _ _ _ _ _ _ _ _ _ _ _ _ HM0.out).mono ?_; rintro e wx ⟨rfl, rfl⟩; rw [hg])
        go_ret
        rw [RV3.out]
        exact ⟨rfl, al (al HBw.out _) _⟩
      have V5 : Hid (slotV n0 (g, s) = 0) := by show _ = _; rw [slotV, if_neg (by rw [hg]; simp), if_neg (by simp [stOk]; omega)]
      go_wp2_with (go_at_call 26; refine (i_guest _ _ _ _ _ _ _ _ _ _ _ _ _ _ HM0.out).mono ?_; rintro e wx ⟨rfl, rfl⟩; rw [hg])
      go_roundw
      case rel => exact ⟨i + 1, by have := HLT.out; omega, by go_num, al (al HB.out _) _, by show _ = _; rw [hS.out, SS.out, V5.out]; simp⟩
      case measure => have := HLT.out; simp [intOf]; omega
    · have hJ : ¬ (i : Int) < (n3 : Int) := by omega
      have HJ : Hid (i = n3) := by show _ = _; omega
      have G0 : Hid (g6V P = 0) := by
        show _ = _
        rw [E.out, hS.out, List.drop_of_length_le (by have := HL3.out; have := HJ.out; omega)]
        rfl
      clear hlt hB
      go_wp2_with fail
      go_ret
      rw [G0.out]
      exact ⟨rfl, HBw.out⟩
end Go.Proofs.YtggejbphdadckaaGreatDoor
