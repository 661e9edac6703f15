/- Answers with a machine: compared, marked and held. -/
import Derived.Test.YteaccakodaidpaaHto
namespace Go.Proofs.Yteaccakodaidpaa
open Go.RowKit
set_option linter.unusedVariables false

theorem Mq.pre {S : Nat → Prop} {w w' : World} {o : Obj} (h : Mq S (w.alloc o) w') : Mq S w w' :=
  ⟨h.os, h.tape, h.output, by have := h.size; simp at this; omega, fun k hk hn => by rw [h.block k (by simp; omega) hn, Below.heap_alloc _ _ _ hk]⟩

set_option maxRecDepth 20000 in
set_option maxHeartbeats 4000000 in
theorem eq_hres (x : Int) (r c i o r' c' i' o' : Value) (H : Ht) (b b' : Nat) (w : World) (h : Hm w b r c i o H) (k : Hm w b' r' c' i' o' H) :
    Calls Try.prog 35 #[.agg #[.int .i64 x, r, .int .i64 H.pc, c, .bool H.halted, .bool H.waiting, .bool H.rung, .int .i64 H.done, i, o], .agg #[.int .i64 x, r', .int .i64 H.pc, c', .bool H.halted, .bool H.waiting, .bool H.rung, .int .i64 H.done, i', o']] w fun e w' => e = .returned (.bool true) ∧ Below w.heap.size w w' := by
  have HM : Hid (Hm w b r c i o H) := h
  have KM : Hid (Hm w b' r' c' i' o' H) := k
  obtain ⟨a0, k0, rfl, _⟩ := h.r.shape
  obtain ⟨a1, k1, rfl, _⟩ := h.c.shape
  obtain ⟨a2, k2, rfl, _⟩ := h.i.shape
  obtain ⟨a3, k3, rfl, _⟩ := h.o.shape
  obtain ⟨x0, l0, rfl, _⟩ := k.r.shape
  obtain ⟨x1, l1, rfl, _⟩ := k.c.shape
  obtain ⟨x2, l2, rfl, _⟩ := k.i.shape
  obtain ⟨x3, l3, rfl, _⟩ := k.o.shape
  clear h k
  generalize H.regs.length = n0 at *
  generalize H.csr.length = n1 at *
  generalize H.inn.length = n2 at *
  generalize H.out.length = n3 at *
  go_enter Try.func35, Try.ntmps35
  go_wp2_with fail
  refine (eq_hart _ _ _ _ _ _ _ _ _ _ _ _ (HM.out.keep (al (al (Below.refl _ _) _) _)) (KM.out.keep (al (al (Below.refl _ _) _) _))).mono ?_
  rintro e w1 ⟨rfl, b1⟩
  go_wp2_with fail
  go_ret
  exact ⟨rfl, on (al (al (Below.refl _ _) _) _) b1⟩

set_option maxRecDepth 20000 in
set_option maxHeartbeats 4000000 in
theorem mark_hres (x : Int) (r c i o : Value) (H : Ht) (k : Int) (b : Nat) (w : World) (h : Hm w b r c i o H) (A : Ha r c i o) (hk : 0 ≤ k) (hz : k + totH H ≤ 4611686018427387904) :
    Calls Try.prog 38 #[.agg #[.int .i64 x, r, .int .i64 H.pc, c, .bool H.halted, .bool H.waiting, .bool H.rung, .int .i64 H.done, i, o], .int .i64 k] w fun e w' => e = .returned (.int .i64 (k + totH H)) ∧ Hm w' b r c i o (mkH k H) ∧ Mq (Own4 r c i o) w w' := by
  have HM : Hid (Hm w b r c i o H) := h
  have HA : Hid (Ha r c i o) := A
  have HK : Hid (0 ≤ k ∧ k + totH H ≤ 4611686018427387904) := ⟨hk, hz⟩
  obtain ⟨a0, k0, rfl, _⟩ := h.r.shape
  obtain ⟨a1, k1, rfl, _⟩ := h.c.shape
  obtain ⟨a2, k2, rfl, _⟩ := h.i.shape
  obtain ⟨a3, k3, rfl, _⟩ := h.o.shape
  clear h A hk hz
  generalize H.regs.length = n0 at *
  generalize H.csr.length = n1 at *
  generalize H.inn.length = n2 at *
  generalize H.out.length = n3 at *
  obtain ⟨T, hT⟩ : ∃ T : Int, k + totH H = T := ⟨_, rfl⟩
  rw [hT]
  have HT : Hid (k + totH H = T) := hT
  clear hT
  go_enter Try.func38, Try.ntmps38
  go_wp2_with fail
  refine (mark_hart _ _ _ _ _ _ _ _ (HM.out.keep (al (Below.refl _ _) _)) HA.out HK.out.1 HK.out.2).mono ?_
  rintro e w1 ⟨rfl, m1, g1⟩
  rw [HT.out]
  have N1 : Hid (Hm w1 b _ _ _ _ _) := m1
  have G1 : Hid (Mq _ _ _) := Mq.pre g1
  clear m1 g1
  go_wp2_with fail
  go_ret
  exact ⟨rfl, N1.out, G1.out⟩

set_option maxRecDepth 20000 in
set_option maxHeartbeats 4000000 in
theorem held_hres (x : Int) (r c i o : Value) (H : Ht) (k : Int) (b : Nat) (w : World) (h : Hm w b r c i o (mkH k H)) (hk : 0 ≤ k) (hz : k + totH H ≤ 4611686018427387904) :
    Calls Try.prog 39 #[.agg #[.int .i64 x, r, .int .i64 H.pc, c, .bool H.halted, .bool H.waiting, .bool H.rung, .int .i64 H.done, i, o], .int .i64 k] w fun e w' => e = .returned (.int .i64 (k + totH H)) ∧ Below w.heap.size w w' := by
  have HM : Hid (Hm w b r c i o (mkH k H)) := h
  have HK : Hid (0 ≤ k ∧ k + totH H ≤ 4611686018427387904) := ⟨hk, hz⟩
  obtain ⟨a0, k0, rfl, _⟩ := h.r.shape
  obtain ⟨a1, k1, rfl, _⟩ := h.c.shape
  obtain ⟨a2, k2, rfl, _⟩ := h.i.shape
  obtain ⟨a3, k3, rfl, _⟩ := h.o.shape
  clear h
  generalize (mkH k H).regs.length = n0 at *
  generalize (mkH k H).csr.length = n1 at *
  generalize (mkH k H).inn.length = n2 at *
  generalize (mkH k H).out.length = n3 at *
  obtain ⟨T, hT⟩ : ∃ T : Int, k + totH H = T := ⟨_, rfl⟩
  have hp : 0 ≤ T := by omega
  rw [hT]
  have HT : Hid (k + totH H = T) := hT
  clear hT hk hz
  go_enter Try.func39, Try.ntmps39
  go_wp2_with fail
  refine (held_hart _ _ _ _ _ _ _ _ (HM.out.keep (al (Below.refl _ _) _)) HK.out.1 HK.out.2).mono ?_
  rintro e w1 ⟨rfl, b1⟩
  rw [HT.out]
  go_wp2_with fail
  go_ret
  exact ⟨rfl, on (al (Below.refl _ _) _) b1⟩
end Go.Proofs.Yteaccakodaidpaa
