/- Texts of this seat, joined. -/
import Derived.Deep.RegionHeld3
import Derived.Deep.WholeRow
import Derived.Lib.BufferMore
import Derived.Test.YtbegbphbcjoglaaGreatDoorQ12
import Derived.Test.YtbegbphbcjoglaaGreatDoorQ18
namespace Go.Proofs.YtbegbphbcjoglaaGreatDoor
open Go.RowKit
set_option linter.unusedVariables false

/-- From one world to another: blocks outside of S stay. -/
structure Mq (S : Nat → Prop) (w w' : World) : Prop where
  os : w'.os = w.os
  tape : w'.tape = w.tape
  output : w'.output = w.output
  size : w.heap.size ≤ w'.heap.size
  block : ∀ k, k < w.heap.size → ¬ S k → w'.heap[k]? = w.heap[k]?
theorem Mq.of {S : Nat → Prop} {w w' : World} {row : Option Nat} (g : w.grownBy w' row) (h : ∀ k, some k = row → S k) : Mq S w w' :=
  ⟨g.os, g.tape, g.output, g.size, fun k hk hn => g.block k hk fun e => hn (h k e)⟩
theorem Mq.trans {S : Nat → Prop} {a b c : World} (h : Mq S a b) (k : Mq S b c) : Mq S a c :=
  ⟨k.os.trans h.os, k.tape.trans h.tape, k.output.trans h.output, Nat.le_trans h.size k.size, fun i hi hn => (k.block i (Nat.lt_of_lt_of_le hi h.size) hn).trans (h.block i hi hn)⟩
theorem Mq.vb {S : Nat → Prop} {w w' : World} {q : Nat} {cs : Array Value} {t : TypeId} (m : Mq S w w') (h : Vb w q cs t) (hn : ¬ S q) : Vb w' q cs t := (m.block q h.lt hn).trans h
theorem Mq.nums {S : Nat → Prop} {w w' : World} {base : Nat} {v : Value} {zs : List Int} (m : Mq S w w') (h : Nums w base v zs) (hn : ∀ k, v.ownBlock = some k → ¬ S k) : Nums w' base v zs := by
  obtain ⟨h1, h2 | ⟨g, cap, cur, hv, hg, hr, rest⟩⟩ := h
  · exact ⟨h1, .inl h2⟩
  · refine ⟨h1, .inr ⟨g, cap, cur, hv, hg, ?_, rest⟩⟩
    rw [m.block g ((Array.getElem?_eq_some_iff.1 hr).1) (hn g (by rw [hv]; rfl))]
    exact hr
theorem Mq.below {S : Nat → Prop} {a w w' : World} (h : Below a.heap.size a w) (m : Mq S w w') (hn : ∀ k, S k → a.heap.size ≤ k) : Below a.heap.size a w' :=
  ⟨m.os.trans h.os, m.tape.trans h.tape, m.output.trans h.output, Nat.le_trans h.size m.size, fun k hk => (m.block k (Nat.lt_of_lt_of_le hk h.size) (fun s => by have := hn k s; omega)).trans (h.block k hk)⟩
/-- The blocks of four lists. -/
def Own4 (r c i o : Value) (k : Nat) : Prop := r.ownBlock = some k ∨ c.ownBlock = some k ∨ i.ownBlock = some k ∨ o.ownBlock = some k
theorem Mq.hm {S : Nat → Prop} {w w' : World} {base : Nat} {r c i o : Value} {H : Ht} (m : Mq S w w') (h : Hm w base r c i o H) (hn : ∀ k, Own4 r c i o k → ¬ S k) : Hm w' base r c i o H :=
  ⟨m.nums h.r fun k e => hn k (.inl e), m.nums h.c fun k e => hn k (.inr (.inl e)), m.nums h.i fun k e => hn k (.inr (.inr (.inl e))), m.nums h.o fun k e => hn k (.inr (.inr (.inr e)))⟩
theorem Hm.own {w : World} {base : Nat} {r c i o : Value} {H : Ht} (h : Hm w base r c i o H) (k : Nat) (e : Own4 r c i o k) : base ≤ k ∧ k < w.heap.size := by
  rcases e with e | e | e | e
  · exact h.r.lt k e
  · exact h.c.lt k e
  · exact h.i.lt k e
  · exact h.o.lt k e

def totH (H : Ht) : Nat := H.regs.length + H.csr.length + H.inn.length + H.out.length
def mkH (k : Int) (H : Ht) : Ht := { H with regs := marks k H.regs.length, csr := marks (k + H.regs.length) H.csr.length, inn := marks (k + H.regs.length + H.csr.length) H.inn.length, out := marks (k + H.regs.length + H.csr.length + H.inn.length) H.out.length }

set_option maxRecDepth 20000 in
set_option maxHeartbeats 4000000 in
theorem mark_hart (r c i o : Value) (H : Ht) (k : Int) (b : Nat) (w : World) (h : Hm w b r c i o H) (A : Ha r c i o) (hk : 0 ≤ k) (hz : k + totH H ≤ 4611686018427387904) :
    Calls Tryz.prog 72 #[.agg #[r, .int .i64 H.pc, c, .bool H.halted, .bool H.waiting, .bool H.rung, .int .i64 H.done, i, o], .int .i64 k] w fun e w' => e = .returned (.int .i64 (k + totH H)) ∧ Hm w' b r c i o (mkH k H) ∧ Mq (Own4 r c i o) w w' := by
  obtain ⟨a0, k0, h0, _⟩ := h.r.shape
  obtain ⟨a1, k1, h1, _⟩ := h.c.shape
  obtain ⟨a2, k2, h2, _⟩ := h.i.shape
  obtain ⟨a3, k3, h3, _⟩ := h.o.shape
  obtain ⟨n0, e0⟩ : ∃ n, H.regs.length = n := ⟨_, rfl⟩
  obtain ⟨n1, e1⟩ : ∃ n, H.csr.length = n := ⟨_, rfl⟩
  obtain ⟨n2, e2⟩ : ∃ n, H.inn.length = n := ⟨_, rfl⟩
  obtain ⟨n3, e3⟩ : ∃ n, H.out.length = n := ⟨_, rfl⟩
  have ML : Hid (H.regs.length = n0 ∧ H.csr.length = n1 ∧ H.inn.length = n2 ∧ H.out.length = n3) := ⟨e0, e1, e2, e3⟩
  have HM : Hid (Hm w b r c i o H) := h
  have HA : Hid (Ha r c i o) := A
  have HK : Hid (0 ≤ k ∧ k + (n0 : Int) + (n1 : Int) + (n2 : Int) + (n3 : Int) ≤ 4611686018427387904) := ⟨hk, by simp only [totH] at hz; omega⟩
  have HE : Hid (k + (n0 : Int) + (n1 : Int) + (n2 : Int) + (n3 : Int) = k + totH H) := by show _ = _; simp only [totH]; omega
  rw [e0] at h0
  rw [e1] at h1
  rw [e2] at h2
  rw [e3] at h3
  have F : Hid (r = .slice a0 n0 k0 ∧ c = .slice a1 n1 k1 ∧ i = .slice a2 n2 k2 ∧ o = .slice a3 n3 k3) := ⟨h0, h1, h2, h3⟩
  clear h A hk hz e0 e1 e2 e3
  rw [h0, h1, h2, h3, ← HE.out]
  rw [← h0, ← h1, ← h2, ← h3]
  subst h0 h1 h2 h3
  generalize hW : w.alloc (.cells #[.slice a0 n0 k0, .int .i64 H.pc, .slice a1 n1 k1, .bool H.halted, .bool H.waiting, .bool H.rung, .int .i64 H.done, .slice a2 n2 k2, .slice a3 n3 k3] 31) = W
  have B0 : Hid (Below w.heap.size w W) := by show Below _ _ _; rw [← hW]; exact al (Below.refl _ _) _
  obtain ⟨s, hS⟩ : ∃ s, w.heap.size = s := ⟨_, rfl⟩
  have VA : Hid (Vb W s #[.slice a0 n0 k0, .int .i64 H.pc, .slice a1 n1 k1, .bool H.halted, .bool H.waiting, .bool H.rung, .int .i64 H.done, .slice a2 n2 k2, .slice a3 n3 k3] 31) := by
    show Vb _ _ _ _
    rw [← hW, ← hS]
    exact Vb.new _ _ _
  have LT : Hid (∀ x, Own4 (.slice a0 n0 k0) (.slice a1 n1 k1) (.slice a2 n2 k2) (.slice a3 n3 k3) x → x ≠ s) := fun x e q => by have := (HM.out.own x e).2; omega
  have q0 := VA.out.cell 0 rfl
  go_enter Tryz.func72, Tryz.ntmps72
  go_wp2_with fail
  clear hW hS q0
  refine (mark_nums _ k _ _ _ (HM.out.keep B0.out).r HK.out.1 (by have := HK.out.2; have := ML.out.1; omega)).mono ?_
  rintro e w1 ⟨rfl, m1, g1⟩
  rw [ML.out.1] at m1 ⊢
  have G1 : Hid (Mq (Own4 (.slice a0 n0 k0) (.slice a1 n1 k1) (.slice a2 n2 k2) (.slice a3 n3 k3)) W w1) := Mq.of g1 fun x e => .inl e.symm
  have M1 : Hid (Nums w1 b (.slice a0 n0 k0) (marks k n0)) := m1
  have C1 : Hid (Nums w1 b (.slice a1 n1 k1) H.csr) := (HM.out.keep B0.out).c.kept g1 HA.out.rc.swap
  have I1 : Hid (Nums w1 b (.slice a2 n2 k2) H.inn) := (HM.out.keep B0.out).i.kept g1 HA.out.ri.swap
  have O1 : Hid (Nums w1 b (.slice a3 n3 k3) H.out) := (HM.out.keep B0.out).o.kept g1 HA.out.ro.swap
  have VA1 : Hid (Vb w1 _ _ _) := G1.out.vb VA.out (fun e => LT.out _ e rfl)
  have q2 := VA1.out.cell 2 rfl
  have E1 : Hid (0 ≤ k + (n0 : Int) ∧ k + (n0 : Int) + (n1 : Int) + (n2 : Int) + (n3 : Int) ≤ 4611686018427387904) := ⟨by have := HK.out.1; omega, HK.out.2⟩
  clear m1 g1
  go_wp2_with fail
  clear q2
  refine (mark_nums _ (k + n0) _ _ _ C1.out E1.out.1 (by have := E1.out.2; have := ML.out.2.1; omega)).mono ?_
  rintro e w2 ⟨rfl, m1, g1⟩
  rw [ML.out.2.1] at m1 ⊢
  have G2 : Hid (Mq (Own4 (.slice a0 n0 k0) (.slice a1 n1 k1) (.slice a2 n2 k2) (.slice a3 n3 k3)) W w2) := G1.out.trans (Mq.of g1 fun x e => .inr (.inl e.symm))
  have M2 : Hid (Nums w2 b (.slice a0 n0 k0) (marks k n0)) := M1.out.kept g1 HA.out.rc
  have C2 : Hid (Nums w2 b (.slice a1 n1 k1) (marks (k + n0) n1)) := m1
  have I2 : Hid (Nums w2 b (.slice a2 n2 k2) H.inn) := I1.out.kept g1 HA.out.ci.swap
  have O2 : Hid (Nums w2 b (.slice a3 n3 k3) H.out) := O1.out.kept g1 HA.out.co.swap
  have VA2 : Hid (Vb w2 _ _ _) := G2.out.vb VA.out (fun e => LT.out _ e rfl)
  have q2 := VA2.out.cell 7 rfl
  have E2 : Hid (0 ≤ k + (n0 : Int) + (n1 : Int) ∧ k + (n0 : Int) + (n1 : Int) + (n2 : Int) + (n3 : Int) ≤ 4611686018427387904) := ⟨by have := HK.out.1; omega, HK.out.2⟩
  clear m1 g1 M1 C1 I1 O1 VA1
  go_wp2_with fail
  clear q2
  refine (mark_nums _ (k + n0 + n1) _ _ _ I2.out E2.out.1 (by have := E2.out.2; have := ML.out.2.2.1; omega)).mono ?_
  rintro e w3 ⟨rfl, m1, g1⟩
  rw [ML.out.2.2.1] at m1 ⊢
  have G3 : Hid (Mq (Own4 (.slice a0 n0 k0) (.slice a1 n1 k1) (.slice a2 n2 k2) (.slice a3 n3 k3)) W w3) := G2.out.trans (Mq.of g1 fun x e => .inr (.inr (.inl e.symm)))
  have M3 : Hid (Nums w3 b (.slice a0 n0 k0) (marks k n0)) := M2.out.kept g1 HA.out.ri
  have C3 : Hid (Nums w3 b (.slice a1 n1 k1) (marks (k + n0) n1)) := C2.out.kept g1 HA.out.ci
  have I3 : Hid (Nums w3 b (.slice a2 n2 k2) (marks (k + n0 + n1) n2)) := m1
  have O3 : Hid (Nums w3 b (.slice a3 n3 k3) H.out) := O2.out.kept g1 HA.out.io.swap
  have VA3 : Hid (Vb w3 _ _ _) := G3.out.vb VA.out (fun e => LT.out _ e rfl)
  have q2 := VA3.out.cell 8 rfl
  have E3 : Hid (0 ≤ k + (n0 : Int) + (n1 : Int) + (n2 : Int) ∧ k + (n0 : Int) + (n1 : Int) + (n2 : Int) + (n3 : Int) ≤ 4611686018427387904) := ⟨by have := HK.out.1; omega, HK.out.2⟩
  clear m1 g1 M2 C2 I2 O2 VA2
  go_wp2_with fail
  clear q2
  refine (mark_nums _ (k + n0 + n1 + n2) _ _ _ O3.out E3.out.1 (by have := E3.out.2; have := ML.out.2.2.2; omega)).mono ?_
  rintro e w4 ⟨rfl, m1, g1⟩
  rw [ML.out.2.2.2] at m1 ⊢
  have G4 : Hid (Mq (Own4 (.slice a0 n0 k0) (.slice a1 n1 k1) (.slice a2 n2 k2) (.slice a3 n3 k3)) w w4) := ⟨(G3.out.trans (Mq.of g1 fun x e => .inr (.inr (.inr e.symm)))).os.trans B0.out.os, (G3.out.trans (Mq.of g1 fun x e => .inr (.inr (.inr e.symm)))).tape.trans B0.out.tape, (G3.out.trans (Mq.of g1 fun x e => .inr (.inr (.inr e.symm)))).output.trans B0.out.output, Nat.le_trans B0.out.size (G3.out.trans (Mq.of g1 fun x e => .inr (.inr (.inr e.symm)))).size, fun x hx hn => ((G3.out.trans (Mq.of g1 fun x e => .inr (.inr (.inr e.symm)))).block x (Nat.lt_of_lt_of_le hx B0.out.size) hn).trans (B0.out.block x hx)⟩
  have R4 : Hid (Hm w4 b (.slice a0 n0 k0) (.slice a1 n1 k1) (.slice a2 n2 k2) (.slice a3 n3 k3) (mkH k H)) := by
    refine ⟨?_, ?_, ?_, ?_⟩
    · have := M3.out.kept g1 HA.out.ro; simpa [mkH, ML.out.1] using this
    · have := C3.out.kept g1 HA.out.co; simpa [mkH, ML.out.1, ML.out.2.1] using this
    · have := I3.out.kept g1 HA.out.io; simpa [mkH, ML.out.1, ML.out.2.1, ML.out.2.2.1] using this
    · simpa [mkH, ML.out.1, ML.out.2.1, ML.out.2.2.1, ML.out.2.2.2] using m1
  clear m1 g1
  go_wp2_with fail
  go_ret
  exact ⟨rfl, R4.out, G4.out⟩

set_option maxRecDepth 20000 in
set_option maxHeartbeats 4000000 in
theorem held_hart (r c i o : Value) (H : Ht) (k : Int) (b : Nat) (w : World) (h : Hm w b r c i o (mkH k H)) (hk : 0 ≤ k) (hz : k + totH H ≤ 4611686018427387904) :
    Calls Tryz.prog 74 #[.agg #[r, .int .i64 H.pc, c, .bool H.halted, .bool H.waiting, .bool H.rung, .int .i64 H.done, i, o], .int .i64 k] w fun e w' => e = .returned (.int .i64 (k + totH H)) ∧ Below w.heap.size w w' := by
  obtain ⟨a0, k0, h0, _⟩ := h.r.shape
  obtain ⟨a1, k1, h1, _⟩ := h.c.shape
  obtain ⟨a2, k2, h2, _⟩ := h.i.shape
  obtain ⟨a3, k3, h3, _⟩ := h.o.shape
  simp only [mkH, marks_length] at h0 h1 h2 h3
  obtain ⟨n0, e0⟩ : ∃ n, H.regs.length = n := ⟨_, rfl⟩
  obtain ⟨n1, e1⟩ : ∃ n, H.csr.length = n := ⟨_, rfl⟩
  obtain ⟨n2, e2⟩ : ∃ n, H.inn.length = n := ⟨_, rfl⟩
  obtain ⟨n3, e3⟩ : ∃ n, H.out.length = n := ⟨_, rfl⟩
  rw [e0] at h0
  rw [e1] at h1
  rw [e2] at h2
  rw [e3] at h3
  have HK : Hid (0 ≤ k ∧ k + (n0 : Int) + (n1 : Int) + (n2 : Int) + (n3 : Int) ≤ 4611686018427387904) := ⟨hk, by simp only [totH] at hz; omega⟩
  have HE : Hid (k + (n0 : Int) + (n1 : Int) + (n2 : Int) + (n3 : Int) = k + totH H) := by show _ = _; simp only [totH]; omega
  have N0 : Hid (Nums w b r (marks k n0)) := by show Nums _ _ _ _; have := h.r; simpa [mkH, e0] using this
  have N1 : Hid (Nums w b c (marks (k + n0) n1)) := by show Nums _ _ _ _; have := h.c; simpa [mkH, e0, e1] using this
  have N2 : Hid (Nums w b i (marks (k + n0 + n1) n2)) := by show Nums _ _ _ _; have := h.i; simpa [mkH, e0, e1, e2] using this
  have N3 : Hid (Nums w b o (marks (k + n0 + n1 + n2) n3)) := by show Nums _ _ _ _; have := h.o; simpa [mkH, e0, e1, e2, e3] using this
  rw [← HE.out]
  clear h hk hz e0 e1 e2 e3
  subst h0 h1 h2 h3
  generalize hW : w.alloc (.cells #[.slice a0 n0 k0, .int .i64 H.pc, .slice a1 n1 k1, .bool H.halted, .bool H.waiting, .bool H.rung, .int .i64 H.done, .slice a2 n2 k2, .slice a3 n3 k3] 31) = W
  have B0 : Hid (Below w.heap.size w W) := by show Below _ _ _; rw [← hW]; exact al (Below.refl _ _) _
  obtain ⟨s, hS⟩ : ∃ s, w.heap.size = s := ⟨_, rfl⟩
  have VA : Hid (Vb W s #[.slice a0 n0 k0, .int .i64 H.pc, .slice a1 n1 k1, .bool H.halted, .bool H.waiting, .bool H.rung, .int .i64 H.done, .slice a2 n2 k2, .slice a3 n3 k3] 31) := by
    show Vb _ _ _ _
    rw [← hW, ← hS]
    exact Vb.new _ _ _
  have q0 := VA.out.cell 0 rfl
  have q2 := VA.out.cell 2 rfl
  have q7 := VA.out.cell 7 rfl
  have q8 := VA.out.cell 8 rfl
  have E0 : Hid (0 ≤ k ∧ k + (n0 : Int) ≤ 4611686018427387904) := ⟨HK.out.1, by have := HK.out.2; omega⟩
  have E1 : Hid (0 ≤ k + (n0 : Int) ∧ k + (n0 : Int) + (n1 : Int) ≤ 4611686018427387904) := ⟨by have := HK.out.1; omega, by have := HK.out.2; omega⟩
  have E2 : Hid (0 ≤ k + (n0 : Int) + (n1 : Int) ∧ k + (n0 : Int) + (n1 : Int) + (n2 : Int) ≤ 4611686018427387904) := ⟨by have := HK.out.1; omega, by have := HK.out.2; omega⟩
  have E3 : Hid (0 ≤ k + (n0 : Int) + (n1 : Int) + (n2 : Int) ∧ k + (n0 : Int) + (n1 : Int) + (n2 : Int) + (n3 : Int) ≤ 4611686018427387904) := ⟨by have := HK.out.1; omega, by have := HK.out.2; omega⟩
  have p1 : 0 ≤ k + (n0 : Int) := E1.out.1
  have p2 : 0 ≤ k + (n0 : Int) + (n1 : Int) := E2.out.1
  have p3 : 0 ≤ k + (n0 : Int) + (n1 : Int) + (n2 : Int) := E3.out.1
  have p4 : 0 ≤ k + (n0 : Int) + (n1 : Int) + (n2 : Int) + (n3 : Int) := by omega
  go_enter Tryz.func74, Tryz.ntmps74
  go_wp2_with fail
  clear hW hS
  refine (held_nums _ k n0 _ _ (N0.out.keep B0.out) E0.out.1 E0.out.2).mono ?_
  rintro e w1 ⟨rfl, rfl⟩
  go_wp2_with fail
  refine (held_nums _ (k + n0) n1 _ _ (N1.out.keep B0.out) E1.out.1 E1.out.2).mono ?_
  rintro e w1 ⟨rfl, rfl⟩
  go_wp2_with fail
  refine (held_nums _ (k + n0 + n1) n2 _ _ (N2.out.keep B0.out) E2.out.1 E2.out.2).mono ?_
  rintro e w1 ⟨rfl, rfl⟩
  go_wp2_with fail
  refine (held_nums _ (k + n0 + n1 + n2) n3 _ _ (N3.out.keep B0.out) E3.out.1 E3.out.2).mono ?_
  rintro e w1 ⟨rfl, rfl⟩
  go_wp2_with fail
  go_ret
  exact ⟨rfl, B0.out⟩
end Go.Proofs.YtbegbphbcjoglaaGreatDoor
namespace Go.Proofs.YtbegbphbcjoglaaGreatDoor
open Go.RowKit
set_option linter.unusedVariables false

theorem Nums.apt {w w' : World} {base base' : Nat} {v u : Value} {zs ys : List Int} (h : Nums w base v zs) (k : Nums w' base' u ys) (hb : w.heap.size ≤ base') : Apt v u := own_ne h k hb

theorem Mq.refl (S : Nat → Prop) (w : World) : Mq S w w := ⟨rfl, rfl, rfl, Nat.le_refl _, fun _ _ _ => rfl⟩
theorem Mq.set {S : Nat → Prop} {a w : World} (m : Mq S a w) (p : Addr) (u : Value) (hp : S p.block) : Mq S a (w.setCell p u) := m.trans (Mq.of (grown_set w p u) fun k e => by cases e; exact hp)
theorem Mq.ho {S : Nat → Prop} {base : Nat} {w w' : World} (m : Mq S w w') (h : ∀ k, S k → k < base) : Ho base w w' := ⟨m.size, fun k hb hk => m.block k hk fun e => by have := h k e; omega⟩
theorem Mq.under {S : Nat → Prop} {a w w' : World} (b : Below a.heap.size a w) (m : Mq S w w') (h : ∀ k, S k → a.heap.size ≤ k) : Below a.heap.size a w' := Mq.below b m h
/-- A machine, and an answer with one, that is stored whole. -/
theorem nine {v : World} {q : Nat} {t : TypeId} {z0 z1 z2 z3 z4 z5 z6 z7 z8 : Value} (h : Vb v q #[z0, z1, z2, z3, z4, z5, z6, z7, z8] t) (u0 u1 u2 u3 u4 u5 u6 u7 u8 : Value) :
    Vb (((((((((v.setCell ⟨q, 0, none⟩ u0).setCell ⟨q, 1, none⟩ u1).setCell ⟨q, 2, none⟩ u2).setCell ⟨q, 3, none⟩ u3).setCell ⟨q, 4, none⟩ u4).setCell ⟨q, 5, none⟩ u5).setCell ⟨q, 6, none⟩ u6).setCell ⟨q, 7, none⟩ u7).setCell ⟨q, 8, none⟩ u8) q #[u0, u1, u2, u3, u4, u5, u6, u7, u8] t ∧ Mq (fun k => k = q) v (((((((((v.setCell ⟨q, 0, none⟩ u0).setCell ⟨q, 1, none⟩ u1).setCell ⟨q, 2, none⟩ u2).setCell ⟨q, 3, none⟩ u3).setCell ⟨q, 4, none⟩ u4).setCell ⟨q, 5, none⟩ u5).setCell ⟨q, 6, none⟩ u6).setCell ⟨q, 7, none⟩ u7).setCell ⟨q, 8, none⟩ u8) := by
  have h0 : Vb (v.setCell ⟨q, 0, none⟩ u0) q #[u0, z1, z2, z3, z4, z5, z6, z7, z8] t := h.set 0 u0
  have h1 : Vb ((v.setCell ⟨q, 0, none⟩ u0).setCell ⟨q, 1, none⟩ u1) q #[u0, u1, z2, z3, z4, z5, z6, z7, z8] t := h0.set 1 u1
  have h2 : Vb (((v.setCell ⟨q, 0, none⟩ u0).setCell ⟨q, 1, none⟩ u1).setCell ⟨q, 2, none⟩ u2) q #[u0, u1, u2, z3, z4, z5, z6, z7, z8] t := h1.set 2 u2
  have h3 : Vb ((((v.setCell ⟨q, 0, none⟩ u0).setCell ⟨q, 1, none⟩ u1).setCell ⟨q, 2, none⟩ u2).setCell ⟨q, 3, none⟩ u3) q #[u0, u1, u2, u3, z4, z5, z6, z7, z8] t := h2.set 3 u3
  have h4 : Vb (((((v.setCell ⟨q, 0, none⟩ u0).setCell ⟨q, 1, none⟩ u1).setCell ⟨q, 2, none⟩ u2).setCell ⟨q, 3, none⟩ u3).setCell ⟨q, 4, none⟩ u4) q #[u0, u1, u2, u3, u4, z5, z6, z7, z8] t := h3.set 4 u4
  have h5 : Vb ((((((v.setCell ⟨q, 0, none⟩ u0).setCell ⟨q, 1, none⟩ u1).setCell ⟨q, 2, none⟩ u2).setCell ⟨q, 3, none⟩ u3).setCell ⟨q, 4, none⟩ u4).setCell ⟨q, 5, none⟩ u5) q #[u0, u1, u2, u3, u4, u5, z6, z7, z8] t := h4.set 5 u5
  have h6 : Vb (((((((v.setCell ⟨q, 0, none⟩ u0).setCell ⟨q, 1, none⟩ u1).setCell ⟨q, 2, none⟩ u2).setCell ⟨q, 3, none⟩ u3).setCell ⟨q, 4, none⟩ u4).setCell ⟨q, 5, none⟩ u5).setCell ⟨q, 6, none⟩ u6) q #[u0, u1, u2, u3, u4, u5, u6, z7, z8] t := h5.set 6 u6
  have h7 : Vb ((((((((v.setCell ⟨q, 0, none⟩ u0).setCell ⟨q, 1, none⟩ u1).setCell ⟨q, 2, none⟩ u2).setCell ⟨q, 3, none⟩ u3).setCell ⟨q, 4, none⟩ u4).setCell ⟨q, 5, none⟩ u5).setCell ⟨q, 6, none⟩ u6).setCell ⟨q, 7, none⟩ u7) q #[u0, u1, u2, u3, u4, u5, u6, u7, z8] t := h6.set 7 u7
  have h8 : Vb (((((((((v.setCell ⟨q, 0, none⟩ u0).setCell ⟨q, 1, none⟩ u1).setCell ⟨q, 2, none⟩ u2).setCell ⟨q, 3, none⟩ u3).setCell ⟨q, 4, none⟩ u4).setCell ⟨q, 5, none⟩ u5).setCell ⟨q, 6, none⟩ u6).setCell ⟨q, 7, none⟩ u7).setCell ⟨q, 8, none⟩ u8) q #[u0, u1, u2, u3, u4, u5, u6, u7, u8] t := h7.set 8 u8
  exact ⟨h8, (((((((((Mq.refl (fun k => k = q) v).set ⟨q, 0, none⟩ u0 rfl).set ⟨q, 1, none⟩ u1 rfl).set ⟨q, 2, none⟩ u2 rfl).set ⟨q, 3, none⟩ u3 rfl).set ⟨q, 4, none⟩ u4 rfl).set ⟨q, 5, none⟩ u5 rfl).set ⟨q, 6, none⟩ u6 rfl).set ⟨q, 7, none⟩ u7 rfl).set ⟨q, 8, none⟩ u8 rfl⟩
theorem ten {v : World} {q : Nat} {t : TypeId} {z0 z1 z2 z3 z4 z5 z6 z7 z8 z9 : Value} (h : Vb v q #[z0, z1, z2, z3, z4, z5, z6, z7, z8, z9] t) (u0 u1 u2 u3 u4 u5 u6 u7 u8 u9 : Value) :
    Vb ((((((((((v.setCell ⟨q, 0, none⟩ u0).setCell ⟨q, 1, none⟩ u1).setCell ⟨q, 2, none⟩ u2).setCell ⟨q, 3, none⟩ u3).setCell ⟨q, 4, none⟩ u4).setCell ⟨q, 5, none⟩ u5).setCell ⟨q, 6, none⟩ u6).setCell ⟨q, 7, none⟩ u7).setCell ⟨q, 8, none⟩ u8).setCell ⟨q, 9, none⟩ u9) q #[u0, u1, u2, u3, u4, u5, u6, u7, u8, u9] t ∧ Mq (fun k => k = q) v ((((((((((v.setCell ⟨q, 0, none⟩ u0).setCell ⟨q, 1, none⟩ u1).setCell ⟨q, 2, none⟩ u2).setCell ⟨q, 3, none⟩ u3).setCell ⟨q, 4, none⟩ u4).setCell ⟨q, 5, none⟩ u5).setCell ⟨q, 6, none⟩ u6).setCell ⟨q, 7, none⟩ u7).setCell ⟨q, 8, none⟩ u8).setCell ⟨q, 9, none⟩ u9) := by
  have h0 : Vb (v.setCell ⟨q, 0, none⟩ u0) q #[u0, z1, z2, z3, z4, z5, z6, z7, z8, z9] t := h.set 0 u0
  have h1 : Vb ((v.setCell ⟨q, 0, none⟩ u0).setCell ⟨q, 1, none⟩ u1) q #[u0, u1, z2, z3, z4, z5, z6, z7, z8, z9] t := h0.set 1 u1
  have h2 : Vb (((v.setCell ⟨q, 0, none⟩ u0).setCell ⟨q, 1, none⟩ u1).setCell ⟨q, 2, none⟩ u2) q #[u0, u1, u2, z3, z4, z5, z6, z7, z8, z9] t := h1.set 2 u2
  have h3 : Vb ((((v.setCell ⟨q, 0, none⟩ u0).setCell ⟨q, 1, none⟩ u1).setCell ⟨q, 2, none⟩ u2).setCell ⟨q, 3, none⟩ u3) q #[u0, u1, u2, u3, z4, z5, z6, z7, z8, z9] t := h2.set 3 u3
  have h4 : Vb (((((v.setCell ⟨q, 0, none⟩ u0).setCell ⟨q, 1, none⟩ u1).setCell ⟨q, 2, none⟩ u2).setCell ⟨q, 3, none⟩ u3).setCell ⟨q, 4, none⟩ u4) q #[u0, u1, u2, u3, u4, z5, z6, z7, z8, z9] t := h3.set 4 u4
  have h5 : Vb ((((((v.setCell ⟨q, 0, none⟩ u0).setCell ⟨q, 1, none⟩ u1).setCell ⟨q, 2, none⟩ u2).setCell ⟨q, 3, none⟩ u3).setCell ⟨q, 4, none⟩ u4).setCell ⟨q, 5, none⟩ u5) q #[u0, u1, u2, u3, u4, u5, z6, z7, z8, z9] t := h4.set 5 u5
  have h6 : Vb (((((((v.setCell ⟨q, 0, none⟩ u0).setCell ⟨q, 1, none⟩ u1).setCell ⟨q, 2, none⟩ u2).setCell ⟨q, 3, none⟩ u3).setCell ⟨q, 4, none⟩ u4).setCell ⟨q, 5, none⟩ u5).setCell ⟨q, 6, none⟩ u6) q #[u0, u1, u2, u3, u4, u5, u6, z7, z8, z9] t := h5.set 6 u6
  have h7 : Vb ((((((((v.setCell ⟨q, 0, none⟩ u0).setCell ⟨q, 1, none⟩ u1).setCell ⟨q, 2, none⟩ u2).setCell ⟨q, 3, none⟩ u3).setCell ⟨q, 4, none⟩ u4).setCell ⟨q, 5, none⟩ u5).setCell ⟨q, 6, none⟩ u6).setCell ⟨q, 7, none⟩ u7) q #[u0, u1, u2, u3, u4, u5, u6, u7, z8, z9] t := h6.set 7 u7
  have h8 : Vb (((((((((v.setCell ⟨q, 0, none⟩ u0).setCell ⟨q, 1, none⟩ u1).setCell ⟨q, 2, none⟩ u2).setCell ⟨q, 3, none⟩ u3).setCell ⟨q, 4, none⟩ u4).setCell ⟨q, 5, none⟩ u5).setCell ⟨q, 6, none⟩ u6).setCell ⟨q, 7, none⟩ u7).setCell ⟨q, 8, none⟩ u8) q #[u0, u1, u2, u3, u4, u5, u6, u7, u8, z9] t := h7.set 8 u8
  have h9 : Vb ((((((((((v.setCell ⟨q, 0, none⟩ u0).setCell ⟨q, 1, none⟩ u1).setCell ⟨q, 2, none⟩ u2).setCell ⟨q, 3, none⟩ u3).setCell ⟨q, 4, none⟩ u4).setCell ⟨q, 5, none⟩ u5).setCell ⟨q, 6, none⟩ u6).setCell ⟨q, 7, none⟩ u7).setCell ⟨q, 8, none⟩ u8).setCell ⟨q, 9, none⟩ u9) q #[u0, u1, u2, u3, u4, u5, u6, u7, u8, u9] t := h8.set 9 u9
  exact ⟨h9, ((((((((((Mq.refl (fun k => k = q) v).set ⟨q, 0, none⟩ u0 rfl).set ⟨q, 1, none⟩ u1 rfl).set ⟨q, 2, none⟩ u2 rfl).set ⟨q, 3, none⟩ u3 rfl).set ⟨q, 4, none⟩ u4 rfl).set ⟨q, 5, none⟩ u5 rfl).set ⟨q, 6, none⟩ u6 rfl).set ⟨q, 7, none⟩ u7 rfl).set ⟨q, 8, none⟩ u8 rfl).set ⟨q, 9, none⟩ u9 rfl⟩

end Go.Proofs.YtbegbphbcjoglaaGreatDoor
namespace Go.Proofs.YtbegbphbcjoglaaGreatDoor
open Go.RowKit
set_option linter.unusedVariables false

theorem Mq.pre {S : Nat → Prop} {w w' : World} {o : Obj} (h : Mq S (w.alloc o) w') : Mq S w w' :=
  ⟨h.os, h.tape, h.output, by have := h.size; simp at this; omega, fun k hk hn => by rw [h.block k (by simp; omega) hn, Below.heap_alloc _ _ _ hk]⟩

end Go.Proofs.YtbegbphbcjoglaaGreatDoor
namespace Go.Proofs.YtbegbphbcjoglaaGreatDoor
open Go.RowKit
set_option linter.unusedVariables false

set_option maxRecDepth 20000 in
theorem i_clone (a : Option Addr) (n cap : Nat) (zs : List Int) (w : World) (h : Rn w a n cap zs) (hn : n ≤ 100000000) :
    Calls Tryz.prog 86 #[.slice a n cap] w fun e w' => ∃ v, e = .returned v ∧ Nums w' w.heap.size v zs ∧ Below w.heap.size w w' := by
  cases a with
  | none =>
    obtain ⟨h1, h2, h3⟩ : n = 0 ∧ cap = 0 ∧ zs = [] := by
      rcases h with ⟨_, h1, h2, h3⟩ | ⟨x, e, _⟩
      · exact ⟨h1, h2, h3⟩
      · cases e
    subst h1 h2 h3
    have hnil : ∀ W, (binOp .eql 28 (.slice none 0 0) (.slice none 0 0)).run Tryz.prog W = .ok (.bool true) W := fun W => Lib.run_eql_slice_nil_nil W _ _ Tryz.underlying28
    go_enter Tryz.func86, Tryz.ntmps86
    go_wp2_with fail
    go_ret
    exact ⟨_, rfl, Nums.nil _ _, Below.refl _ _⟩
  | some x =>
    have HR : Hid (Rn w (some x) n cap zs) := h
    have HL : Hid (n ≤ 100000000) := hn
    clear h hn
    have hnil : ∀ W, (binOp .eql 28 (.slice (some x) n cap) (.slice none 0 0)).run Tryz.prog W = .ok (.bool false) W := fun W => Lib.run_eql_slice_some_nil W _ _ _ Tryz.underlying28
    go_enter Tryz.func86, Tryz.ntmps86
    go_wp2_with (at_builtin; refine wp_appx _ rfl _ _ rfl w.heap.size _ [] rfl (nums_none _ _ (Nat.le_refl _)) x n cap zs rfl (HR.out.stay (al (Below.refl _ _) _)) (by have := HL.out; simp; omega) (by simp) ?_; intro v' w' hN' hG')
    have B : Below w.heap.size w w' := below_of_grown (al (Below.refl _ _) _) hG' (nums_none _ _ (Nat.le_refl _)) (Nat.le_refl _)
    go_wp2_with fail
    go_ret
    exact ⟨_, rfl, by simpa using hN', B⟩

/-- A number of a list. -/
def gt (zs : List Int) (j : Nat) : Int := zs.getD j 0
/-- The cells of a machine. -/
def mca (H : Ht) (i o : Value) : Array Value := #[.int .i64 (gt H.regs 0), .int .i64 (gt H.regs 1), .int .i64 (gt H.regs 2), .int .i64 (gt H.regs 3), .int .i64 (gt H.regs 4), .int .i64 (gt H.regs 5), .int .i64 (gt H.regs 6), .int .i64 (gt H.regs 7), .int .i64 (gt H.regs 8), .int .i64 (gt H.regs 9), .int .i64 (gt H.regs 10), .int .i64 (gt H.regs 11), .int .i64 (gt H.regs 12), .int .i64 (gt H.regs 13), .int .i64 (gt H.regs 14), .int .i64 (gt H.regs 15), .int .i64 H.pc, .int .i64 (gt H.csr 0), .int .i64 (gt H.csr 1), .int .i64 (gt H.csr 2), .int .i64 (gt H.csr 3), .int .i64 (gt H.csr 4), .int .i64 (gt H.csr 5), .int .i64 (gt H.csr 6), .int .i64 (gt H.csr 7), .int .i64 (gt H.csr 8), .int .i64 (gt H.csr 9), .int .i64 (gt H.csr 10), .bool H.halted, .bool H.waiting, .bool H.rung, .int .i64 H.done, i, o]
theorem mca_lit (H : Ht) (i o : Value) : #[.int .i64 (gt H.regs 0), .int .i64 (gt H.regs 1), .int .i64 (gt H.regs 2), .int .i64 (gt H.regs 3), .int .i64 (gt H.regs 4), .int .i64 (gt H.regs 5), .int .i64 (gt H.regs 6), .int .i64 (gt H.regs 7), .int .i64 (gt H.regs 8), .int .i64 (gt H.regs 9), .int .i64 (gt H.regs 10), .int .i64 (gt H.regs 11), .int .i64 (gt H.regs 12), .int .i64 (gt H.regs 13), .int .i64 (gt H.regs 14), .int .i64 (gt H.regs 15), .int .i64 H.pc, .int .i64 (gt H.csr 0), .int .i64 (gt H.csr 1), .int .i64 (gt H.csr 2), .int .i64 (gt H.csr 3), .int .i64 (gt H.csr 4), .int .i64 (gt H.csr 5), .int .i64 (gt H.csr 6), .int .i64 (gt H.csr 7), .int .i64 (gt H.csr 8), .int .i64 (gt H.csr 9), .int .i64 (gt H.csr 10), .bool H.halted, .bool H.waiting, .bool H.rung, .int .i64 H.done, i, o] = mca H i o := rfl
theorem mca_one (H : Ht) (i o : Value) (hi : i.oneCell' = true) (ho : o.oneCell' = true) : (mca H i o).all (·.oneCell') = true := by
  have h1 : ∀ z : Int, (Value.int .i64 z).oneCell' = true := fun _ => rfl
  have h2 : ∀ z : Bool, (Value.bool z).oneCell' = true := fun _ => rfl
  simp [mca, h1, h2, hi, ho]
end Go.Proofs.YtbegbphbcjoglaaGreatDoor
namespace Go.Proofs.YtbegbphbcjoglaaGreatDoor
open Go.RowKit
set_option linter.unusedVariables false

theorem elevenX {v : World} {q : Nat} {t : TypeId} {z0 z1 z2 z3 z4 z5 z6 z7 z8 z9 z10 : Value} (h : Vb v q #[z0, z1, z2, z3, z4, z5, z6, z7, z8, z9, z10] t) (u0 u1 u2 u3 u4 u5 u6 u7 u8 u9 u10 : Value) :
    Vb (((((((((((v.setCell ⟨q, 0, none⟩ u0).setCell ⟨q, 1, none⟩ u1).setCell ⟨q, 2, none⟩ u2).setCell ⟨q, 3, none⟩ u3).setCell ⟨q, 4, none⟩ u4).setCell ⟨q, 5, none⟩ u5).setCell ⟨q, 6, none⟩ u6).setCell ⟨q, 7, none⟩ u7).setCell ⟨q, 8, none⟩ u8).setCell ⟨q, 9, none⟩ u9).setCell ⟨q, 10, none⟩ u10) q #[u0, u1, u2, u3, u4, u5, u6, u7, u8, u9, u10] t ∧ Mq (fun k => k = q) v (((((((((((v.setCell ⟨q, 0, none⟩ u0).setCell ⟨q, 1, none⟩ u1).setCell ⟨q, 2, none⟩ u2).setCell ⟨q, 3, none⟩ u3).setCell ⟨q, 4, none⟩ u4).setCell ⟨q, 5, none⟩ u5).setCell ⟨q, 6, none⟩ u6).setCell ⟨q, 7, none⟩ u7).setCell ⟨q, 8, none⟩ u8).setCell ⟨q, 9, none⟩ u9).setCell ⟨q, 10, none⟩ u10) := by
  have h0 : Vb (v.setCell ⟨q, 0, none⟩ u0) q #[u0, z1, z2, z3, z4, z5, z6, z7, z8, z9, z10] t := h.set 0 u0
  have h1 : Vb ((v.setCell ⟨q, 0, none⟩ u0).setCell ⟨q, 1, none⟩ u1) q #[u0, u1, z2, z3, z4, z5, z6, z7, z8, z9, z10] t := h0.set 1 u1
  have h2 : Vb (((v.setCell ⟨q, 0, none⟩ u0).setCell ⟨q, 1, none⟩ u1).setCell ⟨q, 2, none⟩ u2) q #[u0, u1, u2, z3, z4, z5, z6, z7, z8, z9, z10] t := h1.set 2 u2
  have h3 : Vb ((((v.setCell ⟨q, 0, none⟩ u0).setCell ⟨q, 1, none⟩ u1).setCell ⟨q, 2, none⟩ u2).setCell ⟨q, 3, none⟩ u3) q #[u0, u1, u2, u3, z4, z5, z6, z7, z8, z9, z10] t := h2.set 3 u3
  have h4 : Vb (((((v.setCell ⟨q, 0, none⟩ u0).setCell ⟨q, 1, none⟩ u1).setCell ⟨q, 2, none⟩ u2).setCell ⟨q, 3, none⟩ u3).setCell ⟨q, 4, none⟩ u4) q #[u0, u1, u2, u3, u4, z5, z6, z7, z8, z9, z10] t := h3.set 4 u4
  have h5 : Vb ((((((v.setCell ⟨q, 0, none⟩ u0).setCell ⟨q, 1, none⟩ u1).setCell ⟨q, 2, none⟩ u2).setCell ⟨q, 3, none⟩ u3).setCell ⟨q, 4, none⟩ u4).setCell ⟨q, 5, none⟩ u5) q #[u0, u1, u2, u3, u4, u5, z6, z7, z8, z9, z10] t := h4.set 5 u5
  have h6 : Vb (((((((v.setCell ⟨q, 0, none⟩ u0).setCell ⟨q, 1, none⟩ u1).setCell ⟨q, 2, none⟩ u2).setCell ⟨q, 3, none⟩ u3).setCell ⟨q, 4, none⟩ u4).setCell ⟨q, 5, none⟩ u5).setCell ⟨q, 6, none⟩ u6) q #[u0, u1, u2, u3, u4, u5, u6, z7, z8, z9, z10] t := h5.set 6 u6
  have h7 : Vb ((((((((v.setCell ⟨q, 0, none⟩ u0).setCell ⟨q, 1, none⟩ u1).setCell ⟨q, 2, none⟩ u2).setCell ⟨q, 3, none⟩ u3).setCell ⟨q, 4, none⟩ u4).setCell ⟨q, 5, none⟩ u5).setCell ⟨q, 6, none⟩ u6).setCell ⟨q, 7, none⟩ u7) q #[u0, u1, u2, u3, u4, u5, u6, u7, z8, z9, z10] t := h6.set 7 u7
  have h8 : Vb (((((((((v.setCell ⟨q, 0, none⟩ u0).setCell ⟨q, 1, none⟩ u1).setCell ⟨q, 2, none⟩ u2).setCell ⟨q, 3, none⟩ u3).setCell ⟨q, 4, none⟩ u4).setCell ⟨q, 5, none⟩ u5).setCell ⟨q, 6, none⟩ u6).setCell ⟨q, 7, none⟩ u7).setCell ⟨q, 8, none⟩ u8) q #[u0, u1, u2, u3, u4, u5, u6, u7, u8, z9, z10] t := h7.set 8 u8
  have h9 : Vb ((((((((((v.setCell ⟨q, 0, none⟩ u0).setCell ⟨q, 1, none⟩ u1).setCell ⟨q, 2, none⟩ u2).setCell ⟨q, 3, none⟩ u3).setCell ⟨q, 4, none⟩ u4).setCell ⟨q, 5, none⟩ u5).setCell ⟨q, 6, none⟩ u6).setCell ⟨q, 7, none⟩ u7).setCell ⟨q, 8, none⟩ u8).setCell ⟨q, 9, none⟩ u9) q #[u0, u1, u2, u3, u4, u5, u6, u7, u8, u9, z10] t := h8.set 9 u9
  have h10 : Vb (((((((((((v.setCell ⟨q, 0, none⟩ u0).setCell ⟨q, 1, none⟩ u1).setCell ⟨q, 2, none⟩ u2).setCell ⟨q, 3, none⟩ u3).setCell ⟨q, 4, none⟩ u4).setCell ⟨q, 5, none⟩ u5).setCell ⟨q, 6, none⟩ u6).setCell ⟨q, 7, none⟩ u7).setCell ⟨q, 8, none⟩ u8).setCell ⟨q, 9, none⟩ u9).setCell ⟨q, 10, none⟩ u10) q #[u0, u1, u2, u3, u4, u5, u6, u7, u8, u9, u10] t := h9.set 10 u10
  exact ⟨h10, ((((((((((((Mq.refl (fun k => k = q) v).set ⟨q, 0, none⟩ u0 rfl).set ⟨q, 1, none⟩ u1 rfl).set ⟨q, 2, none⟩ u2 rfl).set ⟨q, 3, none⟩ u3 rfl).set ⟨q, 4, none⟩ u4 rfl).set ⟨q, 5, none⟩ u5 rfl).set ⟨q, 6, none⟩ u6 rfl).set ⟨q, 7, none⟩ u7 rfl).set ⟨q, 8, none⟩ u8 rfl).set ⟨q, 9, none⟩ u9 rfl).set ⟨q, 10, none⟩ u10 rfl)⟩
theorem mq_wid {S T : Nat → Prop} {w w' : World} (m : Mq S w w') (h : ∀ k, S k → T k) : Mq T w w' := ⟨m.os, m.tape, m.output, m.size, fun k hk hn => m.block k hk fun e => hn (h k e)⟩
theorem apt_no {a b : Value} {x : Nat} (h : Apt a b) (e : a.ownBlock = some x) (f : b.ownBlock = some x) : False := by
  rcases h with h | h
  · rw [h] at e; cases e
  · exact h (e.trans f.symm)
end Go.Proofs.YtbegbphbcjoglaaGreatDoor
