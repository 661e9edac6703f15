/- Texts of this seat, joined. -/
import Derived.Test.YtimcoobhakfnaaaGreatDoorQ11
namespace Go.Proofs.YtimcoobhakfnaaaGreatDoor
open Go.RowKit
set_option linter.unusedVariables false

/-- How great a machine that came in may be. -/
structure Hs (n0 n1 n2 n3 : Nat) : Prop where
  regs : n0 ≤ 1048576
  csr : n1 ≤ 1048576
  inn : n2 ≤ 1048576
  out : n3 ≤ 1048576

set_option maxHeartbeats 2000000 in
theorem sz_hart (a0 a1 a2 a3 : Option Addr) (n0 c0 n1 c1 n2 c2 n3 c3 : Nat) (H : Ht) (w : World) (h : Hin w a0 n0 c0 a1 n1 c1 a2 n2 c2 a3 n3 c3 H) :
    Calls Tryz.prog 13 #[.agg #[.slice a0 n0 c0, .int .i64 H.pc, .slice a1 n1 c1, .bool H.halted, .bool H.waiting, .bool H.rung, .int .i64 H.done, .slice a2 n2 c2, .slice a3 n3 c3], .int .i64 1048576] w fun e w' => (∃ r : Int, e = .returned (.int .i64 r) ∧ r ≤ 1048576 ∧ (0 ≤ r → Hs n0 n1 n2 n3)) ∧ Below w.heap.size w w' := by
  have L0 : Hid (n0 ≤ 9223372036854775807) := h.regs.ln.2
  have L1 : Hid (n1 ≤ 9223372036854775807) := h.csr.ln.2
  have L2 : Hid (n2 ≤ 9223372036854775807) := h.inn.ln.2
  have L3 : Hid (n3 ≤ 9223372036854775807) := h.out.ln.2
  clear h
  by_cases h0 : (1048576 : Int) - n0 < 0
  · have H0 : Hid ((1048576 : Int) - n0 < 0) := h0
    go_enter Tryz.func13, Tryz.ntmps13
    go_wp2_with fail
    refine (szn _ _ _ _ _ L0.out (by decide) (by decide)).mono ?_
    rintro e w2 ⟨rfl, rfl⟩
    rw [if_pos H0.out]
    go_wp2_with fail
    go_ret
    exact ⟨⟨-1, rfl, by omega, fun h => by omega⟩, al (Below.refl _ _) _⟩
  have H0 : Hid (¬ (1048576 : Int) - n0 < 0) := h0
  obtain ⟨r0, hr0⟩ : ∃ r0 : Int, (1048576 : Int) - n0 = r0 := ⟨_, rfl⟩
  have E0 : Hid (0 ≤ r0 ∧ r0 ≤ 1048576) := ⟨by omega, by omega⟩
  have e0 : 0 ≤ r0 := E0.out.1
  have K0 : Hid ((1048576 : Int) - n0 = r0) := hr0
  by_cases h1 : r0 - n1 < 0
  · have H1 : Hid (r0 - n1 < 0) := h1
    clear hr0 h0
    go_enter Tryz.func13, Tryz.ntmps13
    go_wp2_with fail
    refine (szn _ _ _ _ _ L0.out (by decide) (by decide)).mono ?_
    rintro e w2 ⟨rfl, rfl⟩
    rw [if_neg (by have := H0.out; omega), K0.out]
    go_wp2_with fail
    refine (szn _ _ _ _ _ L1.out E0.out.1 E0.out.2).mono ?_
    rintro e w2 ⟨rfl, rfl⟩
    rw [if_pos H1.out]
    go_wp2_with fail
    go_ret
    exact ⟨⟨-1, rfl, by omega, fun h => by omega⟩, al (Below.refl _ _) _⟩
  have H1 : Hid (¬ r0 - n1 < 0) := h1
  obtain ⟨r1, hr1⟩ : ∃ r1 : Int, r0 - n1 = r1 := ⟨_, rfl⟩
  have E1 : Hid (0 ≤ r1 ∧ r1 ≤ 1048576) := ⟨by omega, by omega⟩
  have e1 : 0 ≤ r1 := E1.out.1
  have K1 : Hid (r0 - n1 = r1) := hr1
  by_cases h2 : r1 - n2 < 0
  · have H2 : Hid (r1 - n2 < 0) := h2
    clear hr0 h0 hr1 h1
    go_enter Tryz.func13, Tryz.ntmps13
    go_wp2_with fail
    refine (szn _ _ _ _ _ L0.out (by decide) (by decide)).mono ?_
    rintro e w2 ⟨rfl, rfl⟩
    rw [if_neg (by have := H0.out; omega), K0.out]
    go_wp2_with fail
    refine (szn _ _ _ _ _ L1.out E0.out.1 E0.out.2).mono ?_
    rintro e w2 ⟨rfl, rfl⟩
    rw [if_neg (by have := H1.out; omega), K1.out]
    go_wp2_with fail
    refine (szn _ _ _ _ _ L2.out E1.out.1 E1.out.2).mono ?_
    rintro e w2 ⟨rfl, rfl⟩
    rw [if_pos H2.out]
    go_wp2_with fail
    go_ret
    exact ⟨⟨-1, rfl, by omega, fun h => by omega⟩, al (Below.refl _ _) _⟩
  have H2 : Hid (¬ r1 - n2 < 0) := h2
  obtain ⟨r2, hr2⟩ : ∃ r2 : Int, r1 - n2 = r2 := ⟨_, rfl⟩
  have E2 : Hid (0 ≤ r2 ∧ r2 ≤ 1048576) := ⟨by omega, by omega⟩
  have e2 : 0 ≤ r2 := E2.out.1
  have K2 : Hid (r1 - n2 = r2) := hr2
  by_cases h3 : r2 - n3 < 0
  · have H3 : Hid (r2 - n3 < 0) := h3
    clear hr0 h0 hr1 h1 hr2 h2
    go_enter Tryz.func13, Tryz.ntmps13
    go_wp2_with fail
    refine (szn _ _ _ _ _ L0.out (by decide) (by decide)).mono ?_
    rintro e w2 ⟨rfl, rfl⟩
    rw [if_neg (by have := H0.out; omega), K0.out]
    go_wp2_with fail
    refine (szn _ _ _ _ _ L1.out E0.out.1 E0.out.2).mono ?_
    rintro e w2 ⟨rfl, rfl⟩
    rw [if_neg (by have := H1.out; omega), K1.out]
    go_wp2_with fail
    refine (szn _ _ _ _ _ L2.out E1.out.1 E1.out.2).mono ?_
    rintro e w2 ⟨rfl, rfl⟩
    rw [if_neg (by have := H2.out; omega), K2.out]
    go_wp2_with fail
    refine (szn _ _ _ _ _ L3.out E2.out.1 E2.out.2).mono ?_
    rintro e w2 ⟨rfl, rfl⟩
    rw [if_pos H3.out]
    go_wp2_with fail
    go_ret
    exact ⟨⟨-1, rfl, by omega, fun h => by omega⟩, al (Below.refl _ _) _⟩
  have H3 : Hid (¬ r2 - n3 < 0) := h3
  obtain ⟨r3, hr3⟩ : ∃ r3 : Int, r2 - n3 = r3 := ⟨_, rfl⟩
  have E3 : Hid (0 ≤ r3 ∧ r3 ≤ 1048576) := ⟨by omega, by omega⟩
  have e3 : 0 ≤ r3 := E3.out.1
  have K3 : Hid (r2 - n3 = r3) := hr3
  have SM : Hid (Hs n0 n1 n2 n3) := ⟨by omega, by omega, by omega, by omega⟩
  clear hr0 h0 hr1 h1 hr2 h2 hr3 h3
  go_enter Tryz.func13, Tryz.ntmps13
  go_wp2_with fail
  refine (szn _ _ _ _ _ L0.out (by decide) (by decide)).mono ?_
  rintro e w2 ⟨rfl, rfl⟩
  rw [if_neg (by have := H0.out; omega), K0.out]
  go_wp2_with fail
  refine (szn _ _ _ _ _ L1.out E0.out.1 E0.out.2).mono ?_
  rintro e w2 ⟨rfl, rfl⟩
  rw [if_neg (by have := H1.out; omega), K1.out]
  go_wp2_with fail
  refine (szn _ _ _ _ _ L2.out E1.out.1 E1.out.2).mono ?_
  rintro e w2 ⟨rfl, rfl⟩
  rw [if_neg (by have := H2.out; omega), K2.out]
  go_wp2_with fail
  refine (szn _ _ _ _ _ L3.out E2.out.1 E2.out.2).mono ?_
  rintro e w2 ⟨rfl, rfl⟩
  rw [if_neg (by have := H3.out; omega), K3.out]
  go_wp2_with fail
  go_ret
  exact ⟨⟨_, rfl, E3.out.2, fun _ => SM.out⟩, al (Below.refl _ _) _⟩

/-- A machine whose four lists lie in blocks of their own, at base or behind it (or are nil). -/
structure Hm (w : World) (base : Nat) (r c i o : Value) (H : Ht) : Prop where
  r : Nums w base r H.regs
  c : Nums w base c H.csr
  i : Nums w base i H.inn
  o : Nums w base o H.out
theorem Hm.keep {w w' : World} {base : Nat} {r c i o : Value} {H : Ht} (h : Hm w base r c i o H) (b : Below w.heap.size w w') : Hm w' base r c i o H := ⟨h.r.keep b, h.c.keep b, h.i.keep b, h.o.keep b⟩
theorem Hm.mono {w : World} {base base' : Nat} {r c i o : Value} {H : Ht} (h : Hm w base r c i o H) (hb : base' ≤ base) : Hm w base' r c i o H := ⟨h.r.mono hb, h.c.mono hb, h.i.mono hb, h.o.mono hb⟩
theorem Hm.ho {w w' : World} {base : Nat} {r c i o : Value} {H : Ht} (h : Hm w base r c i o H) (k : Ho base w w') : Hm w' base r c i o H := ⟨h.r.ho k, h.c.ho k, h.i.ho k, h.o.ho k⟩
/-- Two lists that no block holds both of. -/
def Apt (a b : Value) : Prop := a.ownBlock = none ∨ a.ownBlock ≠ b.ownBlock
structure Ha (r c i o : Value) : Prop where
  rc : Apt r c
  ri : Apt r i
  ro : Apt r o
  ci : Apt c i
  co : Apt c o
  io : Apt i o
theorem Apt.swap {a b : Value} (h : Apt a b) : Apt b a := by
  rcases h with h | h
  · by_cases hb : b.ownBlock = none
    · exact .inl hb
    · exact .inr (by rw [h]; exact hb)
  · exact .inr (Ne.symm h)

set_option maxRecDepth 20000 in
set_option maxHeartbeats 4000000 in
theorem eq_hart (r c i o r' c' i' o' : Value) (H : Ht) (b b' : Nat) (w : World) (h : Hm w b r c i o H) (k : Hm w b' r' c' i' o' H) :
    Calls Tryz.prog 27 #[.agg #[r, .int .i64 H.pc, c, .bool H.halted, .bool H.waiting, .bool H.rung, .int .i64 H.done, i, o], .agg #[r', .int .i64 H.pc, c', .bool H.halted, .bool H.waiting, .bool H.rung, .int .i64 H.done, i', o']] w fun e w' => e = .returned (.bool true) ∧ Below w.heap.size w w' := by
  obtain ⟨a0, k0, rfl, _⟩ := h.r.shape
  obtain ⟨a1, k1, rfl, _⟩ := h.c.shape
  obtain ⟨a2, k2, rfl, _⟩ := h.i.shape
  obtain ⟨a3, k3, rfl, _⟩ := h.o.shape
  obtain ⟨x0, l0, rfl, _⟩ := k.r.shape
  obtain ⟨x1, l1, rfl, _⟩ := k.c.shape
  obtain ⟨x2, l2, rfl, _⟩ := k.i.shape
  obtain ⟨x3, l3, rfl, _⟩ := k.o.shape
  have HM : Hid (Hm w b _ _ _ _ H) := h
  have KM : Hid (Hm w b' _ _ _ _ H) := k
  clear h k
  generalize H.regs.length = n0 at *
  generalize H.csr.length = n1 at *
  generalize H.inn.length = n2 at *
  generalize H.out.length = n3 at *
  generalize hW : (w.alloc (.cells #[.slice a0 n0 k0, .int .i64 H.pc, .slice a1 n1 k1, .bool H.halted, .bool H.waiting, .bool H.rung, .int .i64 H.done, .slice a2 n2 k2, .slice a3 n3 k3] 29)).alloc (.cells #[.slice x0 n0 l0, .int .i64 H.pc, .slice x1 n1 l1, .bool H.halted, .bool H.waiting, .bool H.rung, .int .i64 H.done, .slice x2 n2 l2, .slice x3 n3 l3] 29) = W
  have B0 : Hid (Below w.heap.size w W) := by show Below _ _ _; rw [← hW]; exact al (al (Below.refl _ _) _) _
  obtain ⟨s, hS⟩ : ∃ s, w.heap.size = s := ⟨_, rfl⟩
  have VA : Hid (Vb W s #[.slice a0 n0 k0, .int .i64 H.pc, .slice a1 n1 k1, .bool H.halted, .bool H.waiting, .bool H.rung, .int .i64 H.done, .slice a2 n2 k2, .slice a3 n3 k3] 29) := by
    show Vb _ _ _ _
    rw [← hW, ← hS]
    exact (Vb.new _ _ _).push _
  have VB : Hid (Vb W (s + 1) #[.slice x0 n0 l0, .int .i64 H.pc, .slice x1 n1 l1, .bool H.halted, .bool H.waiting, .bool H.rung, .int .i64 H.done, .slice x2 n2 l2, .slice x3 n3 l3] 29) := by
    show Vb _ _ _ _
    have z1 : s + 1 = (w.alloc (.cells #[.slice a0 n0 k0, .int .i64 H.pc, .slice a1 n1 k1, .bool H.halted, .bool H.waiting, .bool H.rung, .int .i64 H.done, .slice a2 n2 k2, .slice a3 n3 k3] 29)).heap.size := by rw [← hS]; simp
    rw [← hW, z1]
    exact Vb.new _ _ _
  have q0 := VA.out.cell 0 rfl
  have p0 := VB.out.cell 0 rfl
  go_enter Tryz.func27, Tryz.ntmps27
  go_wp2_with fail
  clear hW hS q0 p0
  refine (eq_nums _ _ _ _ _ _ (HM.out.keep B0.out).r (KM.out.keep B0.out).r).mono ?_
  rintro e w1 ⟨rfl, b1⟩
  have B1 : Hid (Below w.heap.size w w1) := on B0.out b1
  have VA1 : Hid (Vb w1 _ _ _) := VA.out.keep b1
  have VB1 : Hid (Vb w1 _ _ _) := VB.out.keep b1
  have q1 := VA1.out.cell 1 rfl
  have p1 := VB1.out.cell 1 rfl
  have q2 := VA1.out.cell 2 rfl
  have p2 := VB1.out.cell 2 rfl
  clear b1 VA VB B0
  go_wp2_with fail
  clear q1 p1 q2 p2
  refine (eq_nums _ _ _ _ _ _ (HM.out.keep B1.out).c (KM.out.keep B1.out).c).mono ?_
  rintro e w2 ⟨rfl, b1⟩
  have B2 : Hid (Below w.heap.size w w2) := on B1.out b1
  have VA2 : Hid (Vb w2 _ _ _) := VA1.out.keep b1
  have VB2 : Hid (Vb w2 _ _ _) := VB1.out.keep b1
  have q3 := VA2.out.cell 3 rfl
  have p3 := VB2.out.cell 3 rfl
  have q4 := VA2.out.cell 4 rfl
  have p4 := VB2.out.cell 4 rfl
  have q5 := VA2.out.cell 5 rfl
  have p5 := VB2.out.cell 5 rfl
  have q6 := VA2.out.cell 6 rfl
  have p6 := VB2.out.cell 6 rfl
  have q7 := VA2.out.cell 7 rfl
  have p7 := VB2.out.cell 7 rfl
  clear b1 VA1 VB1 B1
  go_wp2_with fail
  clear q3 p3 q4 p4 q5 p5 q6 p6 q7 p7
  refine (eq_nums _ _ _ _ _ _ (HM.out.keep B2.out).i (KM.out.keep B2.out).i).mono ?_
  rintro e w3 ⟨rfl, b1⟩
  have B3 : Hid (Below w.heap.size w w3) := on B2.out b1
  have q8 := (VA2.out.keep b1).cell 8 rfl
  have p8 := (VB2.out.keep b1).cell 8 rfl
  clear b1 VA2 VB2 B2
  go_wp2_with fail
  refine (eq_nums _ _ _ _ _ _ (HM.out.keep B3.out).o (KM.out.keep B3.out).o).mono ?_
  rintro e w4 ⟨rfl, b1⟩
  go_wp2_with fail
  go_ret
  exact ⟨rfl, on B3.out b1⟩
end Go.Proofs.YtimcoobhakfnaaaGreatDoor
namespace Go.Proofs.YtimcoobhakfnaaaGreatDoor
open Go.RowKit
set_option linter.unusedVariables false

/-- From one world to another: blocks outside of S stay. -/
structure Mq (S : Nat → Prop) (w w' : World) : Prop where
  os : w'.os = w.os
  tape : w'.tape = w.tape
  output : w'.output = w.output
  size : w.heap.size ≤ w'.heap.size
  block : ∀ k, k < w.heap.size → ¬ S k → w'.heap[k]? = w.heap[k]?
theorem Mq.of {S : Nat → Prop} {w w' : World} {row : Option Nat} (g : w.grownBy w' row) (h : ∀ k, some k = row → S k) : Mq S w w' :=
  ⟨g.os, g.tape, g.output, g.size, fun k hk hn => g.block k hk fun e => hn (h k e)⟩
theorem Mq.trans {S : Nat → Prop} {a b c : World} (h : Mq S a b) (k : Mq S b c) : Mq S a c :=
  ⟨k.os.trans h.os, k.tape.trans h.tape, k.output.trans h.output, Nat.le_trans h.size k.size, fun i hi hn => (k.block i (Nat.lt_of_lt_of_le hi h.size) hn).trans (h.block i hi hn)⟩
theorem Mq.vb {S : Nat → Prop} {w w' : World} {q : Nat} {cs : Array Value} {t : TypeId} (m : Mq S w w') (h : Vb w q cs t) (hn : ¬ S q) : Vb w' q cs t := (m.block q h.lt hn).trans h
theorem Mq.nums {S : Nat → Prop} {w w' : World} {base : Nat} {v : Value} {zs : List Int} (m : Mq S w w') (h : Nums w base v zs) (hn : ∀ k, v.ownBlock = some k → ¬ S k) : Nums w' base v zs := by
  obtain ⟨h1, h2 | ⟨g, cap, cur, hv, hg, hr, rest⟩⟩ := h
  · exact ⟨h1, .inl h2⟩
  · refine ⟨h1, .inr ⟨g, cap, cur, hv, hg, ?_, rest⟩⟩
    rw [m.block g ((Array.getElem?_eq_some_iff.1 hr).1) (hn g (by rw [hv]; rfl))]
    exact hr
theorem Mq.below {S : Nat → Prop} {a w w' : World} (h : Below a.heap.size a w) (m : Mq S w w') (hn : ∀ k, S k → a.heap.size ≤ k) : Below a.heap.size a w' :=
  ⟨m.os.trans h.os, m.tape.trans h.tape, m.output.trans h.output, Nat.le_trans h.size m.size, fun k hk => (m.block k (Nat.lt_of_lt_of_le hk h.size) (fun s => by have := hn k s; omega)).trans (h.block k hk)⟩
/-- The blocks of four lists. -/
def Own4 (r c i o : Value) (k : Nat) : Prop := r.ownBlock = some k ∨ c.ownBlock = some k ∨ i.ownBlock = some k ∨ o.ownBlock = some k
theorem Mq.hm {S : Nat → Prop} {w w' : World} {base : Nat} {r c i o : Value} {H : Ht} (m : Mq S w w') (h : Hm w base r c i o H) (hn : ∀ k, Own4 r c i o k → ¬ S k) : Hm w' base r c i o H :=
  ⟨m.nums h.r fun k e => hn k (.inl e), m.nums h.c fun k e => hn k (.inr (.inl e)), m.nums h.i fun k e => hn k (.inr (.inr (.inl e))), m.nums h.o fun k e => hn k (.inr (.inr (.inr e)))⟩
theorem Hm.own {w : World} {base : Nat} {r c i o : Value} {H : Ht} (h : Hm w base r c i o H) (k : Nat) (e : Own4 r c i o k) : base ≤ k ∧ k < w.heap.size := by
  rcases e with e | e | e | e
  · exact h.r.lt k e
  · exact h.c.lt k e
  · exact h.i.lt k e
  · exact h.o.lt k e

def totH (H : Ht) : Nat := H.regs.length + H.csr.length + H.inn.length + H.out.length
def mkH (k : Int) (H : Ht) : Ht := { H with regs := marks k H.regs.length, csr := marks (k + H.regs.length) H.csr.length, inn := marks (k + H.regs.length + H.csr.length) H.inn.length, out := marks (k + H.regs.length + H.csr.length + H.inn.length) H.out.length }

set_option maxRecDepth 20000 in
set_option maxHeartbeats 4000000 in
theorem mark_hart (r c i o : Value) (H : Ht) (k : Int) (b : Nat) (w : World) (h : Hm w b r c i o H) (A : Ha r c i o) (hk : 0 ≤ k) (hz : k + totH H ≤ 4611686018427387904) :
    Calls Tryz.prog 30 #[.agg #[r, .int .i64 H.pc, c, .bool H.halted, .bool H.waiting, .bool H.rung, .int .i64 H.done, i, o], .int .i64 k] w fun e w' => e = .returned (.int .i64 (k + totH H)) ∧ Hm w' b r c i o (mkH k H) ∧ Mq (Own4 r c i o) w w' := by
  obtain ⟨a0, k0, h0, _⟩ := h.r.shape
  obtain ⟨a1, k1, h1, _⟩ := h.c.shape
  obtain ⟨a2, k2, h2, _⟩ := h.i.shape
  obtain ⟨a3, k3, h3, _⟩ := h.o.shape
  obtain ⟨n0, e0⟩ : ∃ n, H.regs.length = n := ⟨_, rfl⟩
  obtain ⟨n1, e1⟩ : ∃ n, H.csr.length = n := ⟨_, rfl⟩
  obtain ⟨n2, e2⟩ : ∃ n, H.inn.length = n := ⟨_, rfl⟩
  obtain ⟨n3, e3⟩ : ∃ n, H.out.length = n := ⟨_, rfl⟩
  have ML : Hid (H.regs.length = n0 ∧ H.csr.length = n1 ∧ H.inn.length = n2 ∧ H.out.length = n3) := ⟨e0, e1, e2, e3⟩
  have HM : Hid (Hm w b r c i o H) := h
  have HA : Hid (Ha r c i o) := A
  have HK : Hid (0 ≤ k ∧ k + (n0 : Int) + (n1 : Int) + (n2 : Int) + (n3 : Int) ≤ 4611686018427387904) := ⟨hk, by simp only [totH] at hz; omega⟩
  have HE : Hid (k + (n0 : Int) + (n1 : Int) + (n2 : Int) + (n3 : Int) = k + totH H) := by show _ = _; simp only [totH]; omega
  rw [e0] at h0
  rw [e1] at h1
  rw [e2] at h2
  rw [e3] at h3
  have F : Hid (r = .slice a0 n0 k0 ∧ c = .slice a1 n1 k1 ∧ i = .slice a2 n2 k2 ∧ o = .slice a3 n3 k3) := ⟨h0, h1, h2, h3⟩
  clear h A hk hz e0 e1 e2 e3
  rw [h0, h1, h2, h3, ← HE.out]
  rw [← h0, ← h1, ← h2, ← h3]
  subst h0 h1 h2 h3
  generalize hW : w.alloc (.cells #[.slice a0 n0 k0, .int .i64 H.pc, .slice a1 n1 k1, .bool H.halted, .bool H.waiting, .bool H.rung, .int .i64 H.done, .slice a2 n2 k2, .slice a3 n3 k3] 29) = W
  have B0 : Hid (Below w.heap.size w W) := by show Below _ _ _; rw [← hW]; exact al (Below.refl _ _) _
  obtain ⟨s, hS⟩ : ∃ s, w.heap.size = s := ⟨_, rfl⟩
  have VA : Hid (Vb W s #[.slice a0 n0 k0, .int .i64 H.pc, .slice a1 n1 k1, .bool H.halted, .bool H.waiting, .bool H.rung, .int .i64 H.done, .slice a2 n2 k2, .slice a3 n3 k3] 29) := by
    show Vb _ _ _ _
    rw [← hW, ← hS]
    exact Vb.new _ _ _
  have LT : Hid (∀ x, Own4 (.slice a0 n0 k0) (.slice a1 n1 k1) (.slice a2 n2 k2) (.slice a3 n3 k3) x → x ≠ s) := fun x e q => by have := (HM.out.own x e).2; omega
  have q0 := VA.out.cell 0 rfl
  go_enter Tryz.func30, Tryz.ntmps30
  go_wp2_with fail
  clear hW hS q0
  refine (mark_nums _ k _ _ _ (HM.out.keep B0.out).r HK.out.1 (by have := HK.out.2; have := ML.out.1; omega)).mono ?_
  rintro e w1 ⟨rfl, m1, g1⟩
  rw [ML.out.1] at m1 ⊢
  have G1 : Hid (Mq (Own4 (.slice a0 n0 k0) (.slice a1 n1 k1) (.slice a2 n2 k2) (.slice a3 n3 k3)) W w1) := Mq.of g1 fun x e => .inl e.symm
  have M1 : Hid (Nums w1 b (.slice a0 n0 k0) (marks k n0)) := m1
  have C1 : Hid (Nums w1 b (.slice a1 n1 k1) H.csr) := (HM.out.keep B0.out).c.kept g1 HA.out.rc.swap
  have I1 : Hid (Nums w1 b (.slice a2 n2 k2) H.inn) := (HM.out.keep B0.out).i.kept g1 HA.out.ri.swap
  have O1 : Hid (Nums w1 b (.slice a3 n3 k3) H.out) := (HM.out.keep B0.out).o.kept g1 HA.out.ro.swap
  have VA1 : Hid (Vb w1 _ _ _) := G1.out.vb VA.out (fun e => LT.out _ e rfl)
  have q2 := VA1.out.cell 2 rfl
  have E1 : Hid (0 ≤ k + (n0 : Int) ∧ k + (n0 : Int) + (n1 : Int) + (n2 : Int) + (n3 : Int) ≤ 4611686018427387904) := ⟨by have := HK.out.1; omega, HK.out.2⟩
  clear m1 g1
  go_wp2_with fail
  clear q2
  refine (mark_nums _ (k + n0) _ _ _ C1.out E1.out.1 (by have := E1.out.2; have := ML.out.2.1; omega)).mono ?_
  rintro e w2 ⟨rfl, m1, g1⟩
  rw [ML.out.2.1] at m1 ⊢
  have G2 : Hid (Mq (Own4 (.slice a0 n0 k0) (.slice a1 n1 k1) (.slice a2 n2 k2) (.slice a3 n3 k3)) W w2) := G1.out.trans (Mq.of g1 fun x e => .inr (.inl e.symm))
  have M2 : Hid (Nums w2 b (.slice a0 n0 k0) (marks k n0)) := M1.out.kept g1 HA.out.rc
  have C2 : Hid (Nums w2 b (.slice a1 n1 k1) (marks (k + n0) n1)) := m1
  have I2 : Hid (Nums w2 b (.slice a2 n2 k2) H.inn) := I1.out.kept g1 HA.out.ci.swap
  have O2 : Hid (Nums w2 b (.slice a3 n3 k3) H.out) := O1.out.kept g1 HA.out.co.swap
  have VA2 : Hid (Vb w2 _ _ _) := G2.out.vb VA.out (fun e => LT.out _ e rfl)
  have q2 := VA2.out.cell 7 rfl
  have E2 : Hid (0 ≤ k + (n0 : Int) + (n1 : Int) ∧ k + (n0 : Int) + (n1 : Int) + (n2 : Int) + (n3 : Int) ≤ 4611686018427387904) := ⟨by have := HK.out.1; omega, HK.out.2⟩
  clear m1 g1 M1 C1 I1 O1 VA1
  go_wp2_with fail
  clear q2
  refine (mark_nums _ (k + n0 + n1) _ _ _ I2.out E2.out.1 (by have := E2.out.2; have := ML.out.2.2.1; omega)).mono ?_
  rintro e w3 ⟨rfl, m1, g1⟩
  rw [ML.out.2.2.1] at m1 ⊢
  have G3 : Hid (Mq (Own4 (.slice a0 n0 k0) (.slice a1 n1 k1) (.slice a2 n2 k2) (.slice a3 n3 k3)) W w3) := G2.out.trans (Mq.of g1 fun x e => .inr (.inr (.inl e.symm)))
  have M3 : Hid (Nums w3 b (.slice a0 n0 k0) (marks k n0)) := M2.out.kept g1 HA.out.ri
  have C3 : Hid (Nums w3 b (.slice a1 n1 k1) (marks (k + n0) n1)) := C2.out.kept g1 HA.out.ci
  have I3 : Hid (Nums w3 b (.slice a2 n2 k2) (marks (k + n0 + n1) n2)) := m1
  have O3 : Hid (Nums w3 b (.slice a3 n3 k3) H.out) := O2.out.kept g1 HA.out.io.swap
  have VA3 : Hid (Vb w3 _ _ _) := G3.out.vb VA.out (fun e => LT.out _ e rfl)
  have q2 := VA3.out.cell 8 rfl
  have E3 : Hid (0 ≤ k + (n0 : Int) + (n1 : Int) + (n2 : Int) ∧ k + (n0 : Int) + (n1 : Int) + (n2 : Int) + (n3 : Int) ≤ 4611686018427387904) := ⟨by have := HK.out.1; omega, HK.out.2⟩
  clear m1 g1 M2 C2 I2 O2 VA2
  go_wp2_with fail
  clear q2
  refine (mark_nums _ (k + n0 + n1 + n2) _ _ _ O3.out E3.out.1 (by have := E3.out.2; have := ML.out.2.2.2; omega)).mono ?_
  rintro e w4 ⟨rfl, m1, g1⟩
  rw [ML.out.2.2.2] at m1 ⊢
  have G4 : Hid (Mq (Own4 (.slice a0 n0 k0) (.slice a1 n1 k1) (.slice a2 n2 k2) (.slice a3 n3 k3)) w w4) := ⟨(G3.out.trans (Mq.of g1 fun x e => .inr (.inr (.inr e.symm)))).os.trans B0.out.os, (G3.out.trans (Mq.of g1 fun x e => .inr (.inr (.inr e.symm)))).tape.trans B0.out.tape, (G3.out.trans (Mq.of g1 fun x e => .inr (.inr (.inr e.symm)))).output.trans B0.out.output, Nat.le_trans B0.out.size (G3.out.trans (Mq.of g1 fun x e => .inr (.inr (.inr e.symm)))).size, fun x hx hn => ((G3.out.trans (Mq.of g1 fun x e => .inr (.inr (.inr e.symm)))).block x (Nat.lt_of_lt_of_le hx B0.out.size) hn).trans (B0.out.block x hx)⟩
  have R4 : Hid (Hm w4 b (.slice a0 n0 k0) (.slice a1 n1 k1) (.slice a2 n2 k2) (.slice a3 n3 k3) (mkH k H)) := by
    refine ⟨?_, ?_, ?_, ?_⟩
    · have := M3.out.kept g1 HA.out.ro; simpa [mkH, ML.out.1] using this
    · have := C3.out.kept g1 HA.out.co; simpa [mkH, ML.out.1, ML.out.2.1] using this
    · have := I3.out.kept g1 HA.out.io; simpa [mkH, ML.out.1, ML.out.2.1, ML.out.2.2.1] using this
    · simpa [mkH, ML.out.1, ML.out.2.1, ML.out.2.2.1, ML.out.2.2.2] using m1
  clear m1 g1
  go_wp2_with fail
  go_ret
  exact ⟨rfl, R4.out, G4.out⟩

set_option maxRecDepth 20000 in
set_option maxHeartbeats 4000000 in
theorem held_hart (r c i o : Value) (H : Ht) (k : Int) (b : Nat) (w : World) (h : Hm w b r c i o (mkH k H)) (hk : 0 ≤ k) (hz : k + totH H ≤ 4611686018427387904) :
    Calls Tryz.prog 55 #[.agg #[r, .int .i64 H.pc, c, .bool H.halted, .bool H.waiting, .bool H.rung, .int .i64 H.done, i, o], .int .i64 k] w fun e w' => e = .returned (.int .i64 (k + totH H)) ∧ Below w.heap.size w w' := by
  obtain ⟨a0, k0, h0, _⟩ := h.r.shape
  obtain ⟨a1, k1, h1, _⟩ := h.c.shape
  obtain ⟨a2, k2, h2, _⟩ := h.i.shape
  obtain ⟨a3, k3, h3, _⟩ := h.o.shape
  simp only [mkH, marks_length] at h0 h1 h2 h3
  obtain ⟨n0, e0⟩ : ∃ n, H.regs.length = n := ⟨_, rfl⟩
  obtain ⟨n1, e1⟩ : ∃ n, H.csr.length = n := ⟨_, rfl⟩
  obtain ⟨n2, e2⟩ : ∃ n, H.inn.length = n := ⟨_, rfl⟩
  obtain ⟨n3, e3⟩ : ∃ n, H.out.length = n := ⟨_, rfl⟩
  rw [e0] at h0
  rw [e1] at h1
  rw [e2] at h2
  rw [e3] at h3
  have HK : Hid (0 ≤ k ∧ k + (n0 : Int) + (n1 : Int) + (n2 : Int) + (n3 : Int) ≤ 4611686018427387904) := ⟨hk, by simp only [totH] at hz; omega⟩
  have HE : Hid (k + (n0 : Int) + (n1 : Int) + (n2 : Int) + (n3 : Int) = k + totH H) := by show _ = _; simp only [totH]; omega
  have N0 : Hid (Nums w b r (marks k n0)) := by show Nums _ _ _ _; have := h.r; simpa [mkH, e0] using this
  have N1 : Hid (Nums w b c (marks (k + n0) n1)) := by show Nums _ _ _ _; have := h.c; simpa [mkH, e0, e1] using this
  have N2 : Hid (Nums w b i (marks (k + n0 + n1) n2)) := by show Nums _ _ _ _; have := h.i; simpa [mkH, e0, e1, e2] using this
  have N3 : Hid (Nums w b o (marks (k + n0 + n1 + n2) n3)) := by show Nums _ _ _ _; have := h.o; simpa [mkH, e0, e1, e2, e3] using this
  rw [← HE.out]
  clear h hk hz e0 e1 e2 e3
  subst h0 h1 h2 h3
  generalize hW : w.alloc (.cells #[.slice a0 n0 k0, .int .i64 H.pc, .slice a1 n1 k1, .bool H.halted, .bool H.waiting, .bool H.rung, .int .i64 H.done, .slice a2 n2 k2, .slice a3 n3 k3] 29) = W
  have B0 : Hid (Below w.heap.size w W) := by show Below _ _ _; rw [← hW]; exact al (Below.refl _ _) _
  obtain ⟨s, hS⟩ : ∃ s, w.heap.size = s := ⟨_, rfl⟩
  have VA : Hid (Vb W s #[.slice a0 n0 k0, .int .i64 H.pc, .slice a1 n1 k1, .bool H.halted, .bool H.waiting, .bool H.rung, .int .i64 H.done, .slice a2 n2 k2, .slice a3 n3 k3] 29) := by
    show Vb _ _ _ _
    rw [← hW, ← hS]
    exact Vb.new _ _ _
  have q0 := VA.out.cell 0 rfl
  have q2 := VA.out.cell 2 rfl
  have q7 := VA.out.cell 7 rfl
  have q8 := VA.out.cell 8 rfl
  have E0 : Hid (0 ≤ k ∧ k + (n0 : Int) ≤ 4611686018427387904) := ⟨HK.out.1, by have := HK.out.2; omega⟩
  have E1 : Hid (0 ≤ k + (n0 : Int) ∧ k + (n0 : Int) + (n1 : Int) ≤ 4611686018427387904) := ⟨by have := HK.out.1; omega, by have := HK.out.2; omega⟩
  have E2 : Hid (0 ≤ k + (n0 : Int) + (n1 : Int) ∧ k + (n0 : Int) + (n1 : Int) + (n2 : Int) ≤ 4611686018427387904) := ⟨by have := HK.out.1; omega, by have := HK.out.2; omega⟩
  have E3 : Hid (0 ≤ k + (n0 : Int) + (n1 : Int) + (n2 : Int) ∧ k + (n0 : Int) + (n1 : Int) + (n2 : Int) + (n3 : Int) ≤ 4611686018427387904) := ⟨by have := HK.out.1; omega, by have := HK.out.2; omega⟩
  have p1 : 0 ≤ k + (n0 : Int) := E1.out.1
  have p2 : 0 ≤ k + (n0 : Int) + (n1 : Int) := E2.out.1
  have p3 : 0 ≤ k + (n0 : Int) + (n1 : Int) + (n2 : Int) := E3.out.1
  have p4 : 0 ≤ k + (n0 : Int) + (n1 : Int) + (n2 : Int) + (n3 : Int) := by omega
  go_enter Tryz.func55, Tryz.ntmps55
  go_wp2_with fail
  clear hW hS
  refine (held_nums _ k n0 _ _ (N0.out.keep B0.out) E0.out.1 E0.out.2).mono ?_
  rintro e w1 ⟨rfl, rfl⟩
  go_wp2_with fail
  refine (held_nums _ (k + n0) n1 _ _ (N1.out.keep B0.out) E1.out.1 E1.out.2).mono ?_
  rintro e w1 ⟨rfl, rfl⟩
  go_wp2_with fail
  refine (held_nums _ (k + n0 + n1) n2 _ _ (N2.out.keep B0.out) E2.out.1 E2.out.2).mono ?_
  rintro e w1 ⟨rfl, rfl⟩
  go_wp2_with fail
  refine (held_nums _ (k + n0 + n1 + n2) n3 _ _ (N3.out.keep B0.out) E3.out.1 E3.out.2).mono ?_
  rintro e w1 ⟨rfl, rfl⟩
  go_wp2_with fail
  go_ret
  exact ⟨rfl, B0.out⟩
end Go.Proofs.YtimcoobhakfnaaaGreatDoor
