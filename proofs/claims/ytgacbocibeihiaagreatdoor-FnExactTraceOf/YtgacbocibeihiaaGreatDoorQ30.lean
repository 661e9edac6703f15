/- Texts of this seat, joined. -/
import Derived.Test.YtgacbocibeihiaaGreatDoorQ19
import Derived.Test.YtgacbocibeihiaaGreatDoorQ25
import Derived.Test.YtgacbocibeihiaaGreatDoorQ29
namespace Go.Proofs.YtgacbocibeihiaaGreatDoor
open Go.RowKit
set_option linter.unusedVariables false

theorem Nums.apt {w w' : World} {base base' : Nat} {v u : Value} {zs ys : List Int} (h : Nums w base v zs) (k : Nums w' base' u ys) (hb : w.heap.size ≤ base') : Apt v u := own_ne h k hb

theorem Mq.refl (S : Nat → Prop) (w : World) : Mq S w w := ⟨rfl, rfl, rfl, Nat.le_refl _, fun _ _ _ => rfl⟩
theorem Mq.set {S : Nat → Prop} {a w : World} (m : Mq S a w) (p : Addr) (u : Value) (hp : S p.block) : Mq S a (w.setCell p u) := m.trans (Mq.of (grown_set w p u) fun k e => by cases e; exact hp)
theorem Mq.ho {S : Nat → Prop} {base : Nat} {w w' : World} (m : Mq S w w') (h : ∀ k, S k → k < base) : Ho base w w' := ⟨m.size, fun k hb hk => m.block k hk fun e => by have := h k e; omega⟩
theorem Mq.under {S : Nat → Prop} {a w w' : World} (b : Below a.heap.size a w) (m : Mq S w w') (h : ∀ k, S k → a.heap.size ≤ k) : Below a.heap.size a w' := Mq.below b m h
/-- A machine, and an answer with one, that is stored whole. -/
theorem nine {v : World} {q : Nat} {t : TypeId} {z0 z1 z2 z3 z4 z5 z6 z7 z8 : Value} (h : Vb v q #[z0, z1, z2, z3, z4, z5, z6, z7, z8] t) (u0 u1 u2 u3 u4 u5 u6 u7 u8 : Value) :
    Vb (((((((((v.setCell ⟨q, 0, none⟩ u0).setCell ⟨q, 1, none⟩ u1).setCell ⟨q, 2, none⟩ u2).setCell ⟨q, 3, none⟩ u3).setCell ⟨q, 4, none⟩ u4).setCell ⟨q, 5, none⟩ u5).setCell ⟨q, 6, none⟩ u6).setCell ⟨q, 7, none⟩ u7).setCell ⟨q, 8, none⟩ u8) q #[u0, u1, u2, u3, u4, u5, u6, u7, u8] t ∧ Mq (fun k => k = q) v (((((((((v.setCell ⟨q, 0, none⟩ u0).setCell ⟨q, 1, none⟩ u1).setCell ⟨q, 2, none⟩ u2).setCell ⟨q, 3, none⟩ u3).setCell ⟨q, 4, none⟩ u4).setCell ⟨q, 5, none⟩ u5).setCell ⟨q, 6, none⟩ u6).setCell ⟨q, 7, none⟩ u7).setCell ⟨q, 8, none⟩ u8) := by
  have h0 : Vb (v.setCell ⟨q, 0, none⟩ u0) q #[u0, z1, z2, z3, z4, z5, z6, z7, z8] t := h.set 0 u0
  have h1 : Vb ((v.setCell ⟨q, 0, none⟩ u0).setCell ⟨q, 1, none⟩ u1) q #[u0, u1, z2, z3, z4, z5, z6, z7, z8] t := h0.set 1 u1
  have h2 : Vb (((v.setCell ⟨q, 0, none⟩ u0).setCell ⟨q, 1, none⟩ u1).setCell ⟨q, 2, none⟩ u2) q #[u0, u1, u2, z3, z4, z5, z6, z7, z8] t := h1.set 2 u2
  have h3 : Vb ((((v.setCell ⟨q, 0, none⟩ u0).setCell ⟨q, 1, none⟩ u1).setCell ⟨q, 2, none⟩ u2).setCell ⟨q, 3, none⟩ u3) q #[u0, u1, u2, u3, z4, z5, z6, z7, z8] t := h2.set 3 u3
  have h4 : Vb (((((v.setCell ⟨q, 0, none⟩ u0).setCell ⟨q, 1, none⟩ u1).setCell ⟨q, 2, none⟩ u2).setCell ⟨q, 3, none⟩ u3).setCell ⟨q, 4, none⟩ u4) q #[u0, u1, u2, u3, u4, z5, z6, z7, z8] t := h3.set 4 u4
  have h5 : Vb ((((((v.setCell ⟨q, 0, none⟩ u0).setCell ⟨q, 1, none⟩ u1).setCell ⟨q, 2, none⟩ u2).setCell ⟨q, 3, none⟩ u3).setCell ⟨q, 4, none⟩ u4).setCell ⟨q, 5, none⟩ u5) q #[u0, u1, u2, u3, u4, u5, z6, z7, z8] t := h4.set 5 u5
  have h6 : Vb (((((((v.setCell ⟨q, 0, none⟩ u0).setCell ⟨q, 1, none⟩ u1).setCell ⟨q, 2, none⟩ u2).setCell ⟨q, 3, none⟩ u3).setCell ⟨q, 4, none⟩ u4).setCell ⟨q, 5, none⟩ u5).setCell ⟨q, 6, none⟩ u6) q #[u0, u1, u2, u3, u4, u5, u6, z7, z8] t := h5.set 6 u6
  have h7 : Vb ((((((((v.setCell ⟨q, 0, none⟩ u0).setCell ⟨q, 1, none⟩ u1).setCell ⟨q, 2, none⟩ u2).setCell ⟨q, 3, none⟩ u3).setCell ⟨q, 4, none⟩ u4).setCell ⟨q, 5, none⟩ u5).setCell ⟨q, 6, none⟩ u6).setCell ⟨q, 7, none⟩ u7) q #[u0, u1, u2, u3, u4, u5, u6, u7, z8] t := h6.set 7 u7
  have h8 : Vb (((((((((v.setCell ⟨q, 0, none⟩ u0).setCell ⟨q, 1, none⟩ u1).setCell ⟨q, 2, none⟩ u2).setCell ⟨q, 3, none⟩ u3).setCell ⟨q, 4, none⟩ u4).setCell ⟨q, 5, none⟩ u5).setCell ⟨q, 6, none⟩ u6).setCell ⟨q, 7, none⟩ u7).setCell ⟨q, 8, none⟩ u8) q #[u0, u1, u2, u3, u4, u5, u6, u7, u8] t := h7.set 8 u8
  exact ⟨h8, (((((((((Mq.refl (fun k => k = q) v).set ⟨q, 0, none⟩ u0 rfl).set ⟨q, 1, none⟩ u1 rfl).set ⟨q, 2, none⟩ u2 rfl).set ⟨q, 3, none⟩ u3 rfl).set ⟨q, 4, none⟩ u4 rfl).set ⟨q, 5, none⟩ u5 rfl).set ⟨q, 6, none⟩ u6 rfl).set ⟨q, 7, none⟩ u7 rfl).set ⟨q, 8, none⟩ u8 rfl⟩
/-- What toHart has under way: the machine that came in (A), the answer's place, and what is made so far (O). -/
structure Tv (w v : World) (s : Nat) (A O : Array Value) : Prop where
  A : Vb v s A 81
  R : Vb v (s + 1) #[.slice none 0 0, .int .i64 0, .slice none 0 0, .bool false, .bool false, .bool false, .int .i64 0, .slice none 0 0, .slice none 0 0] 86
  O : Vb v (s + 1 + 1) O 86
  b : Below w.heap.size w v
  s : w.heap.size = s
theorem Tv.keep {w v v' : World} {s : Nat} {A O : Array Value} (h : Tv w v s A O) (b : Below v.heap.size v v') : Tv w v' s A O := ⟨h.A.keep b, h.R.keep b, h.O.keep b, on h.b b, h.s⟩
theorem Tv.put {w v : World} {s : Nat} {A O : Array Value} (h : Tv w v s A O) (j : Nat) (u : Value) : Tv w (v.setCell ⟨s + 1 + 1, j, none⟩ u) s A (O.setIfInBounds j u) :=
  ⟨h.A.put _ _ (by show s ≠ s + 1 + 1; omega), h.R.put _ _ (by show s + 1 ≠ s + 1 + 1; omega), h.O.set j u, h.b.setCell (by have := h.s; show w.heap.size ≤ s + 1 + 1; omega) _, h.s⟩

set_option maxRecDepth 20000 in
set_option maxHeartbeats 8000000 in
theorem to_hart (a0 a1 a2 a3 : Option Addr) (n0 c0 n1 c1 n2 c2 n3 c3 : Nat) (H : Ht) (w : World) (h : Hin w a0 n0 c0 a1 n1 c1 a2 n2 c2 a3 n3 c3 H) (hs : Hs n0 n1 n2 n3) :
    Calls Tryz.prog 46 #[.agg #[.slice a0 n0 c0, .int .i64 H.pc, .slice a1 n1 c1, .bool H.halted, .bool H.waiting, .bool H.rung, .int .i64 H.done, .slice a2 n2 c2, .slice a3 n3 c3]] w fun e w' => ∃ r c i o, e = .returned (.agg #[r, .int .i64 H.pc, c, .bool H.halted, .bool H.waiting, .bool H.rung, .int .i64 H.done, i, o]) ∧
      Hm w' w.heap.size r c i o H ∧ Ha r c i o ∧ Below w.heap.size w w' := by
  have HS : Hid (Hs n0 n1 n2 n3) := hs
  have HP : Hid (Hin w a0 n0 c0 a1 n1 c1 a2 n2 c2 a3 n3 c3 H) := h
  clear h hs
  generalize hW : ((w.alloc (.cells #[.slice a0 n0 c0, .int .i64 H.pc, .slice a1 n1 c1, .bool H.halted, .bool H.waiting, .bool H.rung, .int .i64 H.done, .slice a2 n2 c2, .slice a3 n3 c3] 81)).alloc (.cells #[.slice none 0 0, .int .i64 0, .slice none 0 0, .bool false, .bool false, .bool false, .int .i64 0, .slice none 0 0, .slice none 0 0] 86)).alloc (.cells #[.slice none 0 0, .int .i64 0, .slice none 0 0, .bool false, .bool false, .bool false, .int .i64 0, .slice none 0 0, .slice none 0 0] 86) = W
  have SZ : Hid (W.heap.size = w.heap.size + 3) := by show _ = _; rw [← hW]; simp
  obtain ⟨s, hS⟩ : ∃ s, w.heap.size = s := ⟨_, rfl⟩
  have HSs : Hid (w.heap.size = s) := hS
  have T0 : Hid (Tv w W s #[.slice a0 n0 c0, .int .i64 H.pc, .slice a1 n1 c1, .bool H.halted, .bool H.waiting, .bool H.rung, .int .i64 H.done, .slice a2 n2 c2, .slice a3 n3 c3] #[.slice none 0 0, .int .i64 0, .slice none 0 0, .bool false, .bool false, .bool false, .int .i64 0, .slice none 0 0, .slice none 0 0]) := by
    have z1 : s + 1 = (w.alloc (.cells #[.slice a0 n0 c0, .int .i64 H.pc, .slice a1 n1 c1, .bool H.halted, .bool H.waiting, .bool H.rung, .int .i64 H.done, .slice a2 n2 c2, .slice a3 n3 c3] 81)).heap.size := by rw [← hS]; simp
    have z2 : s + 1 + 1 = ((w.alloc (.cells #[.slice a0 n0 c0, .int .i64 H.pc, .slice a1 n1 c1, .bool H.halted, .bool H.waiting, .bool H.rung, .int .i64 H.done, .slice a2 n2 c2, .slice a3 n3 c3] 81)).alloc (.cells #[.slice none 0 0, .int .i64 0, .slice none 0 0, .bool false, .bool false, .bool false, .int .i64 0, .slice none 0 0, .slice none 0 0] 86)).heap.size := by rw [← hS]; simp
    refine ⟨?_, ?_, ?_, by rw [← hW]; exact al (al (al (Below.refl _ _) _) _) _, hS⟩
    · rw [← hW, ← hS]; exact ((Vb.new _ _ _).push _).push _
    · rw [← hW, z1]; exact (Vb.new _ _ _).push _
    · rw [← hW, z2]; exact Vb.new _ _ _
  have q0 := T0.out.A.cell 0 rfl
  go_enter Tryz.func46, Tryz.ntmps46
  go_wp2_with fail
  clear hW hS q0
  refine (to_nums _ _ _ _ _ (HP.out.stay T0.out.b).regs HS.out.regs).mono ?_
  rintro e w1 ⟨g0, rfl, m1, b1⟩
  have M0 : Hid (Nums w1 (s + 3) (.slice (some ⟨g0, 0, none⟩) n0 n0) H.regs) := m1.mono (by have := SZ.out; have := HSs.out; omega)
  have MB0 : Hid (Nums w1 W.heap.size (.slice (some ⟨g0, 0, none⟩) n0 n0) H.regs) := m1
  have S1 := T0.out.keep b1
  have o0 := S1.O.cell 0 rfl
  have f0 := S1.O.free 0
  have o1 := S1.O.cell 1 rfl
  have f1 := S1.O.free 1
  have e1 := S1.A.cell 1 rfl
  have e2 := S1.A.cell 2 rfl
  have T1 : Hid (Tv w ((w1.setCell ⟨s + 1 + 1, 0, none⟩ (.slice (some ⟨g0, 0, none⟩) n0 n0)).setCell ⟨s + 1 + 1, 1, none⟩ (.int .i64 H.pc)) s #[.slice a0 n0 c0, .int .i64 H.pc, .slice a1 n1 c1, .bool H.halted, .bool H.waiting, .bool H.rung, .int .i64 H.done, .slice a2 n2 c2, .slice a3 n3 c3] #[.slice (some ⟨g0, 0, none⟩) n0 n0, .int .i64 H.pc, .slice none 0 0, .bool false, .bool false, .bool false, .int .i64 0, .slice none 0 0, .slice none 0 0]) := ((S1.put 0 (.slice (some ⟨g0, 0, none⟩) n0 n0)).put 1 (.int .i64 H.pc))
  have H1 : Hid (Ho (s + 3) w1 ((w1.setCell ⟨s + 1 + 1, 0, none⟩ (.slice (some ⟨g0, 0, none⟩) n0 n0)).setCell ⟨s + 1 + 1, 1, none⟩ (.int .i64 H.pc))) := (Ho.set w1 ⟨s + 1 + 1, 0, none⟩ (.slice (some ⟨g0, 0, none⟩) n0 n0) (by show s + 1 + 1 < s + 3; omega)).trans (Ho.set (w1.setCell ⟨s + 1 + 1, 0, none⟩ (.slice (some ⟨g0, 0, none⟩) n0 n0)) ⟨s + 1 + 1, 1, none⟩ (.int .i64 H.pc) (by show s + 1 + 1 < s + 3; omega))
  have Z1 : Hid (s + 3 ≤ ((w1.setCell ⟨s + 1 + 1, 0, none⟩ (.slice (some ⟨g0, 0, none⟩) n0 n0)).setCell ⟨s + 1 + 1, 1, none⟩ (.int .i64 H.pc)).heap.size) := by have := T1.out.O.lt; show _ ≤ _; omega
  have Y1 : Hid (w1.heap.size ≤ ((w1.setCell ⟨s + 1 + 1, 0, none⟩ (.slice (some ⟨g0, 0, none⟩) n0 n0)).setCell ⟨s + 1 + 1, 1, none⟩ (.int .i64 H.pc)).heap.size) := H1.out.size
  clear S1 m1 b1
  go_wp2_with fail
  generalize ((w1.setCell ⟨s + 1 + 1, 0, none⟩ (.slice (some ⟨g0, 0, none⟩) n0 n0)).setCell ⟨s + 1 + 1, 1, none⟩ (.int .i64 H.pc)) = v1 at *
  clear o0 f0 o1 f1 e1 e2
  refine (to_nums _ _ _ _ _ (HP.out.stay T1.out.b).csr HS.out.csr).mono ?_
  rintro e w2 ⟨g1, rfl, m1, b1⟩
  have M1 : Hid (Nums w2 (s + 3) (.slice (some ⟨g1, 0, none⟩) n1 n1) H.csr) := m1.mono Z1.out
  have H12 : Hid (Ho (s + 3) w1 w2) := H1.out.trans (Ho.of b1)
  have MB1 : Hid (Nums w2 v1.heap.size (.slice (some ⟨g1, 0, none⟩) n1 n1) H.csr) := m1
  have S1 := T1.out.keep b1
  have o2 := S1.O.cell 2 rfl
  have f2 := S1.O.free 2
  have o3 := S1.O.cell 3 rfl
  have f3 := S1.O.free 3
  have o4 := S1.O.cell 4 rfl
  have f4 := S1.O.free 4
  have o5 := S1.O.cell 5 rfl
  have f5 := S1.O.free 5
  have o6 := S1.O.cell 6 rfl
  have f6 := S1.O.free 6
  have e3 := S1.A.cell 3 rfl
  have e4 := S1.A.cell 4 rfl
  have e5 := S1.A.cell 5 rfl
  have e6 := S1.A.cell 6 rfl
  have e7 := S1.A.cell 7 rfl
  have T2 : Hid (Tv w (((((w2.setCell ⟨s + 1 + 1, 2, none⟩ (.slice (some ⟨g1, 0, none⟩) n1 n1)).setCell ⟨s + 1 + 1, 3, none⟩ (.bool H.halted)).setCell ⟨s + 1 + 1, 4, none⟩ (.bool H.waiting)).setCell ⟨s + 1 + 1, 5, none⟩ (.bool H.rung)).setCell ⟨s + 1 + 1, 6, none⟩ (.int .i64 H.done)) s #[.slice a0 n0 c0, .int .i64 H.pc, .slice a1 n1 c1, .bool H.halted, .bool H.waiting, .bool H.rung, .int .i64 H.done, .slice a2 n2 c2, .slice a3 n3 c3] #[.slice (some ⟨g0, 0, none⟩) n0 n0, .int .i64 H.pc, .slice (some ⟨g1, 0, none⟩) n1 n1, .bool H.halted, .bool H.waiting, .bool H.rung, .int .i64 H.done, .slice none 0 0, .slice none 0 0]) := (((((S1.put 2 (.slice (some ⟨g1, 0, none⟩) n1 n1)).put 3 (.bool H.halted)).put 4 (.bool H.waiting)).put 5 (.bool H.rung)).put 6 (.int .i64 H.done))
  have H2 : Hid (Ho (s + 3) w2 (((((w2.setCell ⟨s + 1 + 1, 2, none⟩ (.slice (some ⟨g1, 0, none⟩) n1 n1)).setCell ⟨s + 1 + 1, 3, none⟩ (.bool H.halted)).setCell ⟨s + 1 + 1, 4, none⟩ (.bool H.waiting)).setCell ⟨s + 1 + 1, 5, none⟩ (.bool H.rung)).setCell ⟨s + 1 + 1, 6, none⟩ (.int .i64 H.done))) := ((((Ho.set w2 ⟨s + 1 + 1, 2, none⟩ (.slice (some ⟨g1, 0, none⟩) n1 n1) (by show s + 1 + 1 < s + 3; omega)).trans (Ho.set (w2.setCell ⟨s + 1 + 1, 2, none⟩ (.slice (some ⟨g1, 0, none⟩) n1 n1)) ⟨s + 1 + 1, 3, none⟩ (.bool H.halted) (by show s + 1 + 1 < s + 3; omega))).trans (Ho.set ((w2.setCell ⟨s + 1 + 1, 2, none⟩ (.slice (some ⟨g1, 0, none⟩) n1 n1)).setCell ⟨s + 1 + 1, 3, none⟩ (.bool H.halted)) ⟨s + 1 + 1, 4, none⟩ (.bool H.waiting) (by show s + 1 + 1 < s + 3; omega))).trans (Ho.set (((w2.setCell ⟨s + 1 + 1, 2, none⟩ (.slice (some ⟨g1, 0, none⟩) n1 n1)).setCell ⟨s + 1 + 1, 3, none⟩ (.bool H.halted)).setCell ⟨s + 1 + 1, 4, none⟩ (.bool H.waiting)) ⟨s + 1 + 1, 5, none⟩ (.bool H.rung) (by show s + 1 + 1 < s + 3; omega))).trans (Ho.set ((((w2.setCell ⟨s + 1 + 1, 2, none⟩ (.slice (some ⟨g1, 0, none⟩) n1 n1)).setCell ⟨s + 1 + 1, 3, none⟩ (.bool H.halted)).setCell ⟨s + 1 + 1, 4, none⟩ (.bool H.waiting)).setCell ⟨s + 1 + 1, 5, none⟩ (.bool H.rung)) ⟨s + 1 + 1, 6, none⟩ (.int .i64 H.done) (by show s + 1 + 1 < s + 3; omega))
  have Z2 : Hid (s + 3 ≤ (((((w2.setCell ⟨s + 1 + 1, 2, none⟩ (.slice (some ⟨g1, 0, none⟩) n1 n1)).setCell ⟨s + 1 + 1, 3, none⟩ (.bool H.halted)).setCell ⟨s + 1 + 1, 4, none⟩ (.bool H.waiting)).setCell ⟨s + 1 + 1, 5, none⟩ (.bool H.rung)).setCell ⟨s + 1 + 1, 6, none⟩ (.int .i64 H.done)).heap.size) := by have := T2.out.O.lt; show _ ≤ _; omega
  have Y2 : Hid (w2.heap.size ≤ (((((w2.setCell ⟨s + 1 + 1, 2, none⟩ (.slice (some ⟨g1, 0, none⟩) n1 n1)).setCell ⟨s + 1 + 1, 3, none⟩ (.bool H.halted)).setCell ⟨s + 1 + 1, 4, none⟩ (.bool H.waiting)).setCell ⟨s + 1 + 1, 5, none⟩ (.bool H.rung)).setCell ⟨s + 1 + 1, 6, none⟩ (.int .i64 H.done)).heap.size) := H2.out.size
  clear S1 m1 b1
  go_wp2_with fail
  generalize (((((w2.setCell ⟨s + 1 + 1, 2, none⟩ (.slice (some ⟨g1, 0, none⟩) n1 n1)).setCell ⟨s + 1 + 1, 3, none⟩ (.bool H.halted)).setCell ⟨s + 1 + 1, 4, none⟩ (.bool H.waiting)).setCell ⟨s + 1 + 1, 5, none⟩ (.bool H.rung)).setCell ⟨s + 1 + 1, 6, none⟩ (.int .i64 H.done)) = v2 at *
  clear o2 f2 o3 f3 o4 f4 o5 f5 o6 f6 e3 e4 e5 e6 e7
  refine (to_nums _ _ _ _ _ (HP.out.stay T2.out.b).inn HS.out.inn).mono ?_
  rintro e w3 ⟨g2, rfl, m1, b1⟩
  have M2 : Hid (Nums w3 (s + 3) (.slice (some ⟨g2, 0, none⟩) n2 n2) H.inn) := m1.mono Z2.out
  have H23 : Hid (Ho (s + 3) w2 w3) := H2.out.trans (Ho.of b1)
  have MB2 : Hid (Nums w3 v2.heap.size (.slice (some ⟨g2, 0, none⟩) n2 n2) H.inn) := m1
  have S1 := T2.out.keep b1
  have o7 := S1.O.cell 7 rfl
  have f7 := S1.O.free 7
  have e8 := S1.A.cell 8 rfl
  have T3 : Hid (Tv w (w3.setCell ⟨s + 1 + 1, 7, none⟩ (.slice (some ⟨g2, 0, none⟩) n2 n2)) s #[.slice a0 n0 c0, .int .i64 H.pc, .slice a1 n1 c1, .bool H.halted, .bool H.waiting, .bool H.rung, .int .i64 H.done, .slice a2 n2 c2, .slice a3 n3 c3] #[.slice (some ⟨g0, 0, none⟩) n0 n0, .int .i64 H.pc, .slice (some ⟨g1, 0, none⟩) n1 n1, .bool H.halted, .bool H.waiting, .bool H.rung, .int .i64 H.done, .slice (some ⟨g2, 0, none⟩) n2 n2, .slice none 0 0]) := (S1.put 7 (.slice (some ⟨g2, 0, none⟩) n2 n2))
  have H3 : Hid (Ho (s + 3) w3 (w3.setCell ⟨s + 1 + 1, 7, none⟩ (.slice (some ⟨g2, 0, none⟩) n2 n2))) := Ho.set w3 ⟨s + 1 + 1, 7, none⟩ (.slice (some ⟨g2, 0, none⟩) n2 n2) (by show s + 1 + 1 < s + 3; omega)
  have Z3 : Hid (s + 3 ≤ (w3.setCell ⟨s + 1 + 1, 7, none⟩ (.slice (some ⟨g2, 0, none⟩) n2 n2)).heap.size) := by have := T3.out.O.lt; show _ ≤ _; omega
  have Y3 : Hid (w3.heap.size ≤ (w3.setCell ⟨s + 1 + 1, 7, none⟩ (.slice (some ⟨g2, 0, none⟩) n2 n2)).heap.size) := H3.out.size
  clear S1 m1 b1
  go_wp2_with fail
  generalize (w3.setCell ⟨s + 1 + 1, 7, none⟩ (.slice (some ⟨g2, 0, none⟩) n2 n2)) = v3 at *
  clear o7 f7 e8
  refine (to_nums _ _ _ _ _ (HP.out.stay T3.out.b).out HS.out.out).mono ?_
  rintro e w4 ⟨g3, rfl, m1, b1⟩
  have M3 : Hid (Nums w4 (s + 3) (.slice (some ⟨g3, 0, none⟩) n3 n3) H.out) := m1.mono Z3.out
  have H34 : Hid (Ho (s + 3) w3 w4) := H3.out.trans (Ho.of b1)
  have MB3 : Hid (Nums w4 v3.heap.size (.slice (some ⟨g3, 0, none⟩) n3 n3) H.out) := m1
  have S1 := T3.out.keep b1
  have o8 := S1.O.cell 8 rfl
  have f8 := S1.O.free 8
  have T4 : Hid (Tv w (w4.setCell ⟨s + 1 + 1, 8, none⟩ (.slice (some ⟨g3, 0, none⟩) n3 n3)) s #[.slice a0 n0 c0, .int .i64 H.pc, .slice a1 n1 c1, .bool H.halted, .bool H.waiting, .bool H.rung, .int .i64 H.done, .slice a2 n2 c2, .slice a3 n3 c3] #[.slice (some ⟨g0, 0, none⟩) n0 n0, .int .i64 H.pc, .slice (some ⟨g1, 0, none⟩) n1 n1, .bool H.halted, .bool H.waiting, .bool H.rung, .int .i64 H.done, .slice (some ⟨g2, 0, none⟩) n2 n2, .slice (some ⟨g3, 0, none⟩) n3 n3]) := (S1.put 8 (.slice (some ⟨g3, 0, none⟩) n3 n3))
  have H4 : Hid (Ho (s + 3) w4 (w4.setCell ⟨s + 1 + 1, 8, none⟩ (.slice (some ⟨g3, 0, none⟩) n3 n3))) := Ho.set w4 ⟨s + 1 + 1, 8, none⟩ (.slice (some ⟨g3, 0, none⟩) n3 n3) (by show s + 1 + 1 < s + 3; omega)
  have Z4 : Hid (s + 3 ≤ (w4.setCell ⟨s + 1 + 1, 8, none⟩ (.slice (some ⟨g3, 0, none⟩) n3 n3)).heap.size) := by have := T4.out.O.lt; show _ ≤ _; omega
  have Y4 : Hid (w4.heap.size ≤ (w4.setCell ⟨s + 1 + 1, 8, none⟩ (.slice (some ⟨g3, 0, none⟩) n3 n3)).heap.size) := H4.out.size
  clear S1 m1 b1
  have p0 := T4.out.O.cell 0 rfl
  have r0 := T4.out.R.cell 0 rfl
  have y0 := T4.out.R.free 0
  have p1 := T4.out.O.cell 1 rfl
  have r1 := T4.out.R.cell 1 rfl
  have y1 := T4.out.R.free 1
  have p2 := T4.out.O.cell 2 rfl
  have r2 := T4.out.R.cell 2 rfl
  have y2 := T4.out.R.free 2
  have p3 := T4.out.O.cell 3 rfl
  have r3 := T4.out.R.cell 3 rfl
  have y3 := T4.out.R.free 3
  have p4 := T4.out.O.cell 4 rfl
  have r4 := T4.out.R.cell 4 rfl
  have y4 := T4.out.R.free 4
  have p5 := T4.out.O.cell 5 rfl
  have r5 := T4.out.R.cell 5 rfl
  have y5 := T4.out.R.free 5
  have p6 := T4.out.O.cell 6 rfl
  have r6 := T4.out.R.cell 6 rfl
  have y6 := T4.out.R.free 6
  have p7 := T4.out.O.cell 7 rfl
  have r7 := T4.out.R.cell 7 rfl
  have y7 := T4.out.R.free 7
  have p8 := T4.out.O.cell 8 rfl
  have r8 := T4.out.R.cell 8 rfl
  have y8 := T4.out.R.free 8
  go_wp2_with fail
  generalize (w4.setCell ⟨s + 1 + 1, 8, none⟩ (.slice (some ⟨g3, 0, none⟩) n3 n3)) = v4 at *
  have NN : Hid (_ ∧ _) := nine T4.out.R (.slice (some ⟨g0, 0, none⟩) n0 n0) (.int .i64 H.pc) (.slice (some ⟨g1, 0, none⟩) n1 n1) (.bool H.halted) (.bool H.waiting) (.bool H.rung) (.int .i64 H.done) (.slice (some ⟨g2, 0, none⟩) n2 n2) (.slice (some ⟨g3, 0, none⟩) n3 n3)
  clear p0 r0 y0 p1 r1 y1 p2 r2 y2 p3 r3 y3 p4 r4 y4 p5 r5 y5 p6 r6 y6 p7 r7 y7 p8 r8 y8
  generalize (((((((((v4.setCell ⟨s + 1, 0, none⟩ (.slice (some ⟨g0, 0, none⟩) n0 n0)).setCell ⟨s + 1, 1, none⟩ (.int .i64 H.pc)).setCell ⟨s + 1, 2, none⟩ (.slice (some ⟨g1, 0, none⟩) n1 n1)).setCell ⟨s + 1, 3, none⟩ (.bool H.halted)).setCell ⟨s + 1, 4, none⟩ (.bool H.waiting)).setCell ⟨s + 1, 5, none⟩ (.bool H.rung)).setCell ⟨s + 1, 6, none⟩ (.int .i64 H.done)).setCell ⟨s + 1, 7, none⟩ (.slice (some ⟨g2, 0, none⟩) n2 n2)).setCell ⟨s + 1, 8, none⟩ (.slice (some ⟨g3, 0, none⟩) n3 n3)) = V at *
  have H5 : Hid (Ho (s + 3) w4 V) := H4.out.trans (NN.out.2.ho fun k e => by omega)
  have B5 : Hid (Below w.heap.size w V) := Mq.under T4.out.b NN.out.2 fun k e => by have := HSs.out; omega
  have A01 : Apt (.slice (some ⟨g0, 0, none⟩) n0 n0) (.slice (some ⟨g1, 0, none⟩) n1 n1) := MB0.out.apt MB1.out Y1.out
  have A02 : Apt (.slice (some ⟨g0, 0, none⟩) n0 n0) (.slice (some ⟨g2, 0, none⟩) n2 n2) := MB0.out.apt MB2.out (Nat.le_trans H12.out.size Y2.out)
  have A03 : Apt (.slice (some ⟨g0, 0, none⟩) n0 n0) (.slice (some ⟨g3, 0, none⟩) n3 n3) := MB0.out.apt MB3.out (Nat.le_trans (Nat.le_trans H12.out.size H23.out.size) Y3.out)
  have A12 : Apt (.slice (some ⟨g1, 0, none⟩) n1 n1) (.slice (some ⟨g2, 0, none⟩) n2 n2) := MB1.out.apt MB2.out Y2.out
  have A13 : Apt (.slice (some ⟨g1, 0, none⟩) n1 n1) (.slice (some ⟨g3, 0, none⟩) n3 n3) := MB1.out.apt MB3.out (Nat.le_trans H23.out.size Y3.out)
  have A23 : Apt (.slice (some ⟨g2, 0, none⟩) n2 n2) (.slice (some ⟨g3, 0, none⟩) n3 n3) := MB2.out.apt MB3.out Y3.out
  have R0 : Nums V w.heap.size (.slice (some ⟨g0, 0, none⟩) n0 n0) H.regs := (M0.out.ho (H12.out.trans (H23.out.trans (H34.out.trans H5.out)))).mono (by have := HSs.out; omega)
  have R1 : Nums V w.heap.size (.slice (some ⟨g1, 0, none⟩) n1 n1) H.csr := (M1.out.ho (H23.out.trans (H34.out.trans H5.out))).mono (by have := HSs.out; omega)
  have R2 : Nums V w.heap.size (.slice (some ⟨g2, 0, none⟩) n2 n2) H.inn := (M2.out.ho (H34.out.trans H5.out)).mono (by have := HSs.out; omega)
  have R3 : Nums V w.heap.size (.slice (some ⟨g3, 0, none⟩) n3 n3) H.out := (M3.out.ho H5.out).mono (by have := HSs.out; omega)
  have x0 := NN.out.1.cell 0 rfl
  have x1 := NN.out.1.cell 1 rfl
  have x2 := NN.out.1.cell 2 rfl
  have x3 := NN.out.1.cell 3 rfl
  have x4 := NN.out.1.cell 4 rfl
  have x5 := NN.out.1.cell 5 rfl
  have x6 := NN.out.1.cell 6 rfl
  have x7 := NN.out.1.cell 7 rfl
  have x8 := NN.out.1.cell 8 rfl
  exact bodyPost_ret (v := .agg #[.slice (some ⟨g0, 0, none⟩) n0 n0, .int .i64 H.pc, .slice (some ⟨g1, 0, none⟩) n1 n1, .bool H.halted, .bool H.waiting, .bool H.rung, .int .i64 H.done, .slice (some ⟨g2, 0, none⟩) n2 n2, .slice (some ⟨g3, 0, none⟩) n3 n3]) (by simp [results, Tryz.results46, go_sem, x0, x1, x2, x3, x4, x5, x6, x7, x8]) rfl
    ⟨_, _, _, _, rfl, ⟨R0, R1, R2, R3⟩, ⟨A01, A02, A03, A12, A13, A23⟩, B5.out⟩
end Go.Proofs.YtgacbocibeihiaaGreatDoor
namespace Go.Proofs.YtgacbocibeihiaaGreatDoor
open Go.RowKit
set_option linter.unusedVariables false

set_option maxHeartbeats 2000000 in
theorem sz_hartO (kk : Int) (a0 a1 a2 a3 : Option Addr) (n0 c0 n1 c1 n2 c2 n3 c3 : Nat) (H : Ht) (w : World) (h : Hin w a0 n0 c0 a1 n1 c1 a2 n2 c2 a3 n3 c3 H) (q1 : 0 ≤ kk) (q2 : kk ≤ 1048576) :
    Calls Tryz.prog 37 #[.agg #[.slice a0 n0 c0, .int .i64 H.pc, .slice a1 n1 c1, .bool H.halted, .bool H.waiting, .bool H.rung, .int .i64 H.done, .slice a2 n2 c2, .slice a3 n3 c3], .int .i64 kk] w fun e w' => (∃ r : Int, e = .returned (.int .i64 r) ∧ r ≤ 1048576 ∧ (0 ≤ r → Hs n0 n1 n2 n3)) ∧ Below w.heap.size w w' := by
  have L0 : Hid (n0 ≤ 9223372036854775807) := h.regs.ln.2
  have L1 : Hid (n1 ≤ 9223372036854775807) := h.csr.ln.2
  have L2 : Hid (n2 ≤ 9223372036854775807) := h.inn.ln.2
  have L3 : Hid (n3 ≤ 9223372036854775807) := h.out.ln.2
  have KK : Hid (0 ≤ kk ∧ kk ≤ 1048576) := ⟨q1, q2⟩
  clear h
  by_cases h0 : kk - n0 < 0
  · have H0 : Hid (kk - n0 < 0) := h0
    go_enter Tryz.func37, Tryz.ntmps37
    go_wp2_with fail
    refine (szn _ _ _ _ _ L0.out KK.out.1 KK.out.2).mono ?_
    rintro e w2 ⟨rfl, rfl⟩
    rw [if_pos H0.out]
    go_wp2_with fail
    go_ret
    exact ⟨⟨-1, rfl, by omega, fun h => by omega⟩, al (Below.refl _ _) _⟩
  have H0 : Hid (¬ kk - n0 < 0) := h0
  obtain ⟨r0, hr0⟩ : ∃ r0 : Int, kk - n0 = r0 := ⟨_, rfl⟩
  have E0 : Hid (0 ≤ r0 ∧ r0 ≤ 1048576) := ⟨by omega, by omega⟩
  have e0 : 0 ≤ r0 := E0.out.1
  have K0 : Hid (kk - n0 = r0) := hr0
  by_cases h1 : r0 - n1 < 0
  · have H1 : Hid (r0 - n1 < 0) := h1
    clear hr0 h0
    go_enter Tryz.func37, Tryz.ntmps37
    go_wp2_with fail
    refine (szn _ _ _ _ _ L0.out KK.out.1 KK.out.2).mono ?_
    rintro e w2 ⟨rfl, rfl⟩
    rw [if_neg (by have := H0.out; omega), K0.out]
    go_wp2_with fail
    refine (szn _ _ _ _ _ L1.out E0.out.1 E0.out.2).mono ?_
    rintro e w2 ⟨rfl, rfl⟩
    rw [if_pos H1.out]
    go_wp2_with fail
    go_ret
    exact ⟨⟨-1, rfl, by omega, fun h => by omega⟩, al (Below.refl _ _) _⟩
  have H1 : Hid (¬ r0 - n1 < 0) := h1
  obtain ⟨r1, hr1⟩ : ∃ r1 : Int, r0 - n1 = r1 := ⟨_, rfl⟩
  have E1 : Hid (0 ≤ r1 ∧ r1 ≤ 1048576) := ⟨by omega, by omega⟩
  have e1 : 0 ≤ r1 := E1.out.1
  have K1 : Hid (r0 - n1 = r1) := hr1
  by_cases h2 : r1 - n2 < 0
  · have H2 : Hid (r1 - n2 < 0) := h2
    clear hr0 h0 hr1 h1
    go_enter Tryz.func37, Tryz.ntmps37
    go_wp2_with fail
    refine (szn _ _ _ _ _ L0.out KK.out.1 KK.out.2).mono ?_
    rintro e w2 ⟨rfl, rfl⟩
    rw [if_neg (by have := H0.out; omega), K0.out]
    go_wp2_with fail
    refine (szn _ _ _ _ _ L1.out E0.out.1 E0.out.2).mono ?_
    rintro e w2 ⟨rfl, rfl⟩
    rw [if_neg (by have := H1.out; omega), K1.out]
    go_wp2_with fail
    refine (szn _ _ _ _ _ L2.out E1.out.1 E1.out.2).mono ?_
    rintro e w2 ⟨rfl, rfl⟩
    rw [if_pos H2.out]
    go_wp2_with fail
    go_ret
    exact ⟨⟨-1, rfl, by omega, fun h => by omega⟩, al (Below.refl _ _) _⟩
  have H2 : Hid (¬ r1 - n2 < 0) := h2
  obtain ⟨r2, hr2⟩ : ∃ r2 : Int, r1 - n2 = r2 := ⟨_, rfl⟩
  have E2 : Hid (0 ≤ r2 ∧ r2 ≤ 1048576) := ⟨by omega, by omega⟩
  have e2 : 0 ≤ r2 := E2.out.1
  have K2 : Hid (r1 - n2 = r2) := hr2
  by_cases h3 : r2 - n3 < 0
  · have H3 : Hid (r2 - n3 < 0) := h3
    clear hr0 h0 hr1 h1 hr2 h2
    go_enter Tryz.func37, Tryz.ntmps37
    go_wp2_with fail
    refine (szn _ _ _ _ _ L0.out KK.out.1 KK.out.2).mono ?_
    rintro e w2 ⟨rfl, rfl⟩
    rw [if_neg (by have := H0.out; omega), K0.out]
    go_wp2_with fail
    refine (szn _ _ _ _ _ L1.out E0.out.1 E0.out.2).mono ?_
    rintro e w2 ⟨rfl, rfl⟩
    rw [if_neg (by have := H1.out; omega), K1.out]
    go_wp2_with fail
    refine (szn _ _ _ _ _ L2.out E1.out.1 E1.out.2).mono ?_
    rintro e w2 ⟨rfl, rfl⟩
    rw [if_neg (by have := H2.out; omega), K2.out]
    go_wp2_with fail
    refine (szn _ _ _ _ _ L3.out E2.out.1 E2.out.2).mono ?_
    rintro e w2 ⟨rfl, rfl⟩
    rw [if_pos H3.out]
    go_wp2_with fail
    go_ret
    exact ⟨⟨-1, rfl, by omega, fun h => by omega⟩, al (Below.refl _ _) _⟩
  have H3 : Hid (¬ r2 - n3 < 0) := h3
  obtain ⟨r3, hr3⟩ : ∃ r3 : Int, r2 - n3 = r3 := ⟨_, rfl⟩
  have E3 : Hid (0 ≤ r3 ∧ r3 ≤ 1048576) := ⟨by omega, by omega⟩
  have e3 : 0 ≤ r3 := E3.out.1
  have K3 : Hid (r2 - n3 = r3) := hr3
  have SM : Hid (Hs n0 n1 n2 n3) := ⟨by omega, by omega, by omega, by omega⟩
  clear hr0 h0 hr1 h1 hr2 h2 hr3 h3
  go_enter Tryz.func37, Tryz.ntmps37
  go_wp2_with fail
  refine (szn _ _ _ _ _ L0.out KK.out.1 KK.out.2).mono ?_
  rintro e w2 ⟨rfl, rfl⟩
  rw [if_neg (by have := H0.out; omega), K0.out]
  go_wp2_with fail
  refine (szn _ _ _ _ _ L1.out E0.out.1 E0.out.2).mono ?_
  rintro e w2 ⟨rfl, rfl⟩
  rw [if_neg (by have := H1.out; omega), K1.out]
  go_wp2_with fail
  refine (szn _ _ _ _ _ L2.out E1.out.1 E1.out.2).mono ?_
  rintro e w2 ⟨rfl, rfl⟩
  rw [if_neg (by have := H2.out; omega), K2.out]
  go_wp2_with fail
  refine (szn _ _ _ _ _ L3.out E2.out.1 E2.out.2).mono ?_
  rintro e w2 ⟨rfl, rfl⟩
  rw [if_neg (by have := H3.out; omega), K3.out]
  go_wp2_with fail
  go_ret
  exact ⟨⟨_, rfl, E3.out.2, fun _ => SM.out⟩, al (Below.refl _ _) _⟩
/-- How great machines that came in may be. -/
def Hsm (H : Ht) : Prop := Hs H.regs.length H.csr.length H.inn.length H.out.length
theorem Hin.lens {w : World} {a0 : Option Addr} {n0 c0 : Nat} {a1 : Option Addr} {n1 c1 : Nat} {a2 : Option Addr} {n2 c2 : Nat} {a3 : Option Addr} {n3 c3 : Nat} {H : Ht} (h : Hin w a0 n0 c0 a1 n1 c1 a2 n2 c2 a3 n3 c3 H) : n0 = H.regs.length ∧ n1 = H.csr.length ∧ n2 = H.inn.length ∧ n3 = H.out.length :=
  ⟨h.regs.lens.1, h.csr.lens.1, h.inn.lens.1, h.out.lens.1⟩
set_option maxRecDepth 20000 in
set_option maxHeartbeats 4000000 in
theorem sz_harts (a : Option Addr) (n c : Nat) (k : Int) (hs : List Ht) (w : World) (h : IsHs w a n c hs) (h1 : 0 ≤ k) (h2 : k ≤ 1048576) :
    Calls Tryz.prog 15 #[.slice a n c, .int .i64 k] w fun e w' => (∃ r : Int, e = .returned (.int .i64 r) ∧ r ≤ 1048576 ∧ (0 ≤ r → n ≤ 1048576 ∧ ∀ i, i < n → Hsm (hs.getD i voidH))) ∧ Below w.heap.size w w' := by
  have HR : Hid (IsHs w a n c hs) := h
  have hmax : (n : Int) ≤ 9223372036854775807 := by have := h.len.2; omega
  clear h
  by_cases hk : k - n < 0
  · go_enter Tryz.func15, Tryz.ntmps15
    go_wp2_with fail
    go_ret
    exact ⟨⟨-1, rfl, by omega, fun h => by omega⟩, Below.refl _ _⟩
  have HN : Hid (n ≤ 1048576) := by show _ ≤ _; omega
  have hb0 : 0 ≤ k - n := by omega
  have hb1 : k - n ≤ 1048576 := by omega
  go_enter Tryz.func15, Tryz.ntmps15
  go_wp2_with fail
  generalize k - (n : Int) = r0 at *
  clear hk h1 h2
  go_loopw [1, 5] (fun u c wr => ∃ (j : Nat) (r : Int), j ≤ n ∧ c = .int .i64 j ∧ u = .int .i64 r ∧ 0 ≤ r ∧ r ≤ 1048576 ∧ Hid (∀ i, i < j → Hsm (hs.getD i voidH)) ∧ Below w.heap.size w wr) (fun _ c _ => n - (intOf c).toNat)
  case atStart => exact ⟨0, r0, Nat.zero_le _, rfl, rfl, hb0, hb1, fun i hi => absurd hi (Nat.not_lt_zero _), Below.refl _ _⟩
  case round =>
    obtain ⟨j, r, hj, rfl, rfl, hr0, hr1, hI, hB⟩ := hrel
    by_cases hlt : j < n
    · obtain ⟨x, a0, a1, a2, a3, n0, k0, n1, k1, n2, k2, n3, k3, rfl, k1', k2'⟩ := (HR.out.stay hB).at j hlt
      have HI2 : Hid (Hin wr a0 n0 k0 a1 n1 k1 a2 n2 k2 a3 n3 k3 (hs.getD j voidH)) := k2'
      obtain ⟨H, hH⟩ : ∃ H, hs.getD j voidH = H := ⟨_, rfl⟩
      rw [hH] at k1' HI2
      have HH : Hid (hs.getD j voidH = H) := hH
      have y0 := k1'.c0
      have y1 := k1'.c1
      have y2 := k1'.c2
      have y3 := k1'.c3
      have y4 := k1'.c4
      have y5 := k1'.c5
      have y6 := k1'.c6
      have y7 := k1'.c7
      have y8 := k1'.c8
      have HB : Hid (Below w.heap.size w wr) := hB
      have hJ : (j : Int) < (n : Int) := by omega
      have HLT : Hid (j < n) := hlt
      have HR1 : Hid (0 ≤ r ∧ r ≤ 1048576) := ⟨hr0, hr1⟩
      clear k1' k2' hlt hB hH
      go_wp2_with fail
      refine (sz_hartO _ _ _ _ _ _ _ _ _ _ _ _ _ H _ HI2.out HR1.out.1 HR1.out.2).mono ?_
      rintro e w2 ⟨⟨r2, rfl, hr2, hs2⟩, b2⟩
      have B2 : Hid (Below w.heap.size w w2) := on HB.out b2
      clear b2 y0 y1 y2 y3 y4 y5 y6 y7 y8
      by_cases hz : r2 < 0
      · go_wp2_with fail
        go_ret
        exact ⟨⟨-1, rfl, by omega, fun h => by omega⟩, B2.out⟩
      · have HS2 : Hid (Hsm H) := by
          have e := HI2.out.lens
          have t := hs2 (by omega)
          show Hsm H
          unfold Hsm
          rw [← e.1, ← e.2.1, ← e.2.2.1, ← e.2.2.2]
          exact t
        have z0 : 0 ≤ r2 := by omega
        have R2 : Hid (0 ≤ r2 ∧ r2 ≤ 1048576) := ⟨by omega, hr2⟩
        clear hs2 hr2
        go_wp2_with fail
        go_roundw
        case rel =>
          refine ⟨j + 1, r2, by have := HLT.out; omega, by go_num, rfl, R2.out.1, R2.out.2, fun i hi => ?_, B2.out⟩
          rcases Nat.lt_or_ge i j with h | h
          · exact hI.out i h
          · obtain rfl : i = j := by omega
            rw [HH.out]
            exact HS2.out
        case measure => have := HLT.out; simp [intOf]; omega
    · have hJ : ¬ (j : Int) < (n : Int) := by omega
      have HJ : Hid (j = n) := by show _ = _; omega
      clear hlt
      go_wp2_with fail
      go_ret
      exact ⟨⟨r, rfl, hr1, fun _ => ⟨HN.out, fun i hi => hI.out i (by have := HJ.out; omega)⟩⟩, hB⟩
end Go.Proofs.YtgacbocibeihiaaGreatDoor
