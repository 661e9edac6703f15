/- Texts of this seat, joined. -/
import Derived.Deep.RegionHeld3
import Derived.Test.YtadkhognlapckaaGreatDoorQ32
import Derived.Test.YtadkhognlapckaaGreatDoorQ34
import Derived.Test.YtadkhognlapckaaGreatDoorQ36
namespace Go.Proofs.YtadkhognlapckaaGreatDoor
open Go.RowKit
set_option linter.unusedVariables false

def SvN (n : Nat) (W : World) (q : Nat) (w' : World) : Prop := Mq (fun k => k = q) W w' ∧ w'.there q 0 n
theorem SvN.step {n : Nat} {W w w' : World} {q : Nat} (h : SvN n W q w) (hq : q < W.heap.size) (b : Below w.heap.size w w') : SvN n W q w' :=
  ⟨h.1.trans (Mq.of (below_grown b none) fun k e => by cases e), there_below h.2 (Nat.lt_of_lt_of_le hq h.1.size) b⟩
theorem SvN.set {n : Nat} {W w : World} {q : Nat} (h : SvN n W q w) (vs : List Value) : SvN n W q (w.setCells q 0 vs) := ⟨h.1.trans (mq_cells q vs w 0), World.there_setCells h.2 _ _ _⟩
end Go.Proofs.YtadkhognlapckaaGreatDoor
namespace Go.Proofs.YtadkhognlapckaaGreatDoor
open Go.RowKit
set_option linter.unusedVariables false

/-- A view, read alone. -/
structure Vq (w : World) (base : Nat) (r c i o l m : Value) (H : Ht) (ps : List Int) (zs : List Int) : Prop where
  h : Hr w r c i o H
  pl : Nums w base l ps
  mm : Rv w m zs
theorem Vq.keep {w w' : World} {base : Nat} {r c i o l m : Value} {H : Ht} {ps : List Int} {zs : List Int} (s : Vq w base r c i o l m H ps zs) (b : Below w.heap.size w w') : Vq w' base r c i o l m H ps zs :=
  ⟨s.h.stay b, s.pl.keep b, s.mm.stay b⟩
theorem Vm.vq {w : World} {base : Nat} {r c i o l m : Value} {H : Ht} {ps : List Int} {zs : List Int} (s : Vm w base r c i o l m H ps zs) : Vq w base r c i o l m H ps zs := ⟨s.h.hr, s.pl, s.mm.rv⟩
set_option maxRecDepth 20000 in
set_option maxHeartbeats 4000000 in
theorem eqr_view (r c i o l m r' c' i' o' l' m' : Value) (H : Ht) (ps : List Int) (zs : List Int) (b b' : Nat) (w : World) (h : Vq w b r c i o l m H ps zs) (k : Vq w b' r' c' i' o' l' m' H ps zs) :
    Calls Tryz.prog 43 #[.agg #[r, .int .i64 H.pc, c, .bool H.halted, .bool H.waiting, .bool H.rung, .int .i64 H.done, i, o, l, m], .agg #[r', .int .i64 H.pc, c', .bool H.halted, .bool H.waiting, .bool H.rung, .int .i64 H.done, i', o', l', m']] w fun e w' => e = .returned (.bool true) ∧ Below w.heap.size w w' := by
  have HS : Hid (Vq w b r c i o l m H ps zs) := h
  have KS : Hid (Vq w b' r' c' i' o' l' m' H ps zs) := k
  obtain ⟨ha0, hk0, eh0, _⟩ := h.h.r
  obtain ⟨ha1, hk1, eh1, _⟩ := h.h.c
  obtain ⟨ha2, hk2, eh2, _⟩ := h.h.i
  obtain ⟨ha3, hk3, eh3, _⟩ := h.h.o
  obtain ⟨ha4, hk4, eh4, _⟩ := h.pl.shape
  obtain ⟨ha5, hk5, eh5, _⟩ := h.mm
  obtain ⟨ka0, kk0, ek0, _⟩ := k.h.r
  obtain ⟨ka1, kk1, ek1, _⟩ := k.h.c
  obtain ⟨ka2, kk2, ek2, _⟩ := k.h.i
  obtain ⟨ka3, kk3, ek3, _⟩ := k.h.o
  obtain ⟨ka4, kk4, ek4, _⟩ := k.pl.shape
  obtain ⟨ka5, kk5, ek5, _⟩ := k.mm
  clear h k
  subst eh0 ek0 eh1 ek1 eh2 ek2 eh3 ek3 eh4 ek4 eh5 ek5
  generalize hn0 : H.regs.length = n0 at *
  generalize hn1 : H.csr.length = n1 at *
  generalize hn2 : H.inn.length = n2 at *
  generalize hn3 : H.out.length = n3 at *
  generalize hn4 : ps.length = n4 at *
  generalize hn5 : zs.length = n5 at *
  clear hn0 hn1 hn2 hn3 hn4 hn5
  generalize hW : (w.alloc (.cells #[.slice ha0 n0 hk0, .int .i64 H.pc, .slice ha1 n1 hk1, .bool H.halted, .bool H.waiting, .bool H.rung, .int .i64 H.done, .slice ha2 n2 hk2, .slice ha3 n3 hk3, .slice ha4 n4 hk4, .slice ha5 n5 hk5] 38)).alloc (.cells #[.slice ka0 n0 kk0, .int .i64 H.pc, .slice ka1 n1 kk1, .bool H.halted, .bool H.waiting, .bool H.rung, .int .i64 H.done, .slice ka2 n2 kk2, .slice ka3 n3 kk3, .slice ka4 n4 kk4, .slice ka5 n5 kk5] 38) = W
  have B0 : Hid (Below w.heap.size w W) := by show Below _ _ _; rw [← hW]; exact al (al (Below.refl _ _) _) _
  obtain ⟨s, hS⟩ : ∃ s, w.heap.size = s := ⟨_, rfl⟩
  have z1 : s + 1 = (w.alloc (.cells #[.slice ha0 n0 hk0, .int .i64 H.pc, .slice ha1 n1 hk1, .bool H.halted, .bool H.waiting, .bool H.rung, .int .i64 H.done, .slice ha2 n2 hk2, .slice ha3 n3 hk3, .slice ha4 n4 hk4, .slice ha5 n5 hk5] 38)).heap.size := by rw [← hS]; simp
  have Q : Hid (Vb W s #[.slice ha0 n0 hk0, .int .i64 H.pc, .slice ha1 n1 hk1, .bool H.halted, .bool H.waiting, .bool H.rung, .int .i64 H.done, .slice ha2 n2 hk2, .slice ha3 n3 hk3, .slice ha4 n4 hk4, .slice ha5 n5 hk5] 38) := by show Vb _ _ _ _; rw [← hW, ← hS]; exact (Vb.new _ _ _).push _
  have R : Hid (Vb W (s + 1) #[.slice ka0 n0 kk0, .int .i64 H.pc, .slice ka1 n1 kk1, .bool H.halted, .bool H.waiting, .bool H.rung, .int .i64 H.done, .slice ka2 n2 kk2, .slice ka3 n3 kk3, .slice ka4 n4 kk4, .slice ka5 n5 kk5] 38) := by show Vb _ _ _ _; rw [← hW, z1]; exact Vb.new _ _ _
  clear z1
  have q0 := Q.out.cell 0 rfl
  have q1 := Q.out.cell 1 rfl
  have q2 := Q.out.cell 2 rfl
  have q3 := Q.out.cell 3 rfl
  have q4 := Q.out.cell 4 rfl
  have q5 := Q.out.cell 5 rfl
  have q6 := Q.out.cell 6 rfl
  have q7 := Q.out.cell 7 rfl
  have q8 := Q.out.cell 8 rfl
  have p0 := R.out.cell 0 rfl
  have p1 := R.out.cell 1 rfl
  have p2 := R.out.cell 2 rfl
  have p3 := R.out.cell 3 rfl
  have p4 := R.out.cell 4 rfl
  have p5 := R.out.cell 5 rfl
  have p6 := R.out.cell 6 rfl
  have p7 := R.out.cell 7 rfl
  have p8 := R.out.cell 8 rfl
  go_enter Tryz.func43, Tryz.ntmps43
  go_wp2_with fail
  clear hW hS q0 q1 q2 q3 q4 q5 q6 q7 q8 p0 p1 p2 p3 p4 p5 p6 p7 p8
  refine (eqr_hart _ _ _ _ _ _ _ _ H _ (HS.out.h.stay B0.out) (KS.out.h.stay B0.out)).mono ?_
  rintro e w1 ⟨rfl, b1⟩
  have B1 : Hid (Below w.heap.size w w1) := on B0.out b1
  have Q1 := Q.out.keep b1
  have R1 := R.out.keep b1
  have q9 := Q1.cell 9 rfl
  have p9 := R1.cell 9 rfl
  have QR : Hid (_ ∧ _) := And.intro Q1 R1
  clear b1 Q1 R1 Q R
  go_wp2_with fail
  clear q9 p9
  refine (eq_nums _ _ ps _ _ _ (HS.out.pl.keep B1.out) (KS.out.pl.keep B1.out)).mono ?_
  rintro e w2 ⟨rfl, b2⟩
  have B2 : Hid (Below w.heap.size w w2) := on B1.out b2
  have q10 := (QR.out.1.keep b2).cell 10 rfl
  have p10 := (QR.out.2.keep b2).cell 10 rfl
  clear b2 QR
  go_wp2_with fail
  clear q10 p10
  refine (eq_rn _ _ zs _ (HS.out.mm.stay B2.out) (KS.out.mm.stay B2.out)).mono ?_
  rintro e w3 ⟨rfl, b3⟩
  have B3 : Hid (Below w.heap.size w w3) := on B2.out b3
  clear b3
  go_wp2_with fail
  go_ret
  exact ⟨rfl, B3.out⟩
set_option maxRecDepth 20000 in
set_option maxHeartbeats 4000000 in
theorem eq_vres (x : Int) (r c i o l m r' c' i' o' l' m' : Value) (H : Ht) (ps : List Int) (zs : List Int) (b b' : Nat) (w : World) (h : Vq w b r c i o l m H ps zs) (k : Vq w b' r' c' i' o' l' m' H ps zs) :
    Calls Tryz.prog 10 #[.agg #[.int .i64 x, r, .int .i64 H.pc, c, .bool H.halted, .bool H.waiting, .bool H.rung, .int .i64 H.done, i, o, l, m], .agg #[.int .i64 x, r', .int .i64 H.pc, c', .bool H.halted, .bool H.waiting, .bool H.rung, .int .i64 H.done, i', o', l', m']] w fun e w' => e = .returned (.bool true) ∧ Below w.heap.size w w' := by
  have HM : Hid (Vq w b r c i o l m H ps zs) := h
  have KM : Hid (Vq w b' r' c' i' o' l' m' H ps zs) := k
  obtain ⟨ha0, hk0, rfl, _⟩ := h.h.r
  obtain ⟨ha1, hk1, rfl, _⟩ := h.h.c
  obtain ⟨ha2, hk2, rfl, _⟩ := h.h.i
  obtain ⟨ha3, hk3, rfl, _⟩ := h.h.o
  obtain ⟨ha4, hk4, rfl, _⟩ := h.pl.shape
  obtain ⟨ha5, hk5, rfl, _⟩ := h.mm
  obtain ⟨ka0, kk0, rfl, _⟩ := k.h.r
  obtain ⟨ka1, kk1, rfl, _⟩ := k.h.c
  obtain ⟨ka2, kk2, rfl, _⟩ := k.h.i
  obtain ⟨ka3, kk3, rfl, _⟩ := k.h.o
  obtain ⟨ka4, kk4, rfl, _⟩ := k.pl.shape
  obtain ⟨ka5, kk5, rfl, _⟩ := k.mm
  clear h k
  generalize H.regs.length = n0 at *
  generalize H.csr.length = n1 at *
  generalize H.inn.length = n2 at *
  generalize H.out.length = n3 at *
  generalize ps.length = n4 at *
  generalize zs.length = n5 at *
  go_enter Tryz.func10, Tryz.ntmps10
  go_wp2_with fail
  refine (eqr_view _ _ _ _ _ _ _ _ _ _ _ _ H ps zs _ _ _ (HM.out.keep (al (al (Below.refl _ _) _) _)) (KM.out.keep (al (al (Below.refl _ _) _) _))).mono ?_
  rintro e w1 ⟨rfl, b1⟩
  go_wp2_with fail
  go_ret
  exact ⟨rfl, on (al (al (Below.refl _ _) _) _) b1⟩
set_option maxRecDepth 20000 in
set_option maxHeartbeats 4000000 in
theorem mark_vres (x : Int) (r c i o l m : Value) (H : Ht) (ps : List Int) (zs : List Int) (k : Int) (b : Nat) (w : World) (h : Vm w b r c i o l m H ps zs) (hk : 0 ≤ k) (hz : k + totV H ps zs ≤ 4611686018427387904) :
    Calls Tryz.prog 15 #[.agg #[.int .i64 x, r, .int .i64 H.pc, c, .bool H.halted, .bool H.waiting, .bool H.rung, .int .i64 H.done, i, o, l, m], .int .i64 k] w fun e w' => e = .returned (.int .i64 (k + totV H ps zs)) ∧ Vm w' b r c i o l m (mkH k H) (marks (k + totH H) ps.length) (marks (k + totH H + (ps.length : Nat)) zs.length) ∧ Mq (OwnV r c i o l m) w w' := by
  have HM : Hid (Vm w b r c i o l m H ps zs) := h
  have HK : Hid (0 ≤ k ∧ k + totV H ps zs ≤ 4611686018427387904) := ⟨hk, hz⟩
  obtain ⟨ha0, hk0, rfl, _⟩ := h.h.r.shape
  obtain ⟨ha1, hk1, rfl, _⟩ := h.h.c.shape
  obtain ⟨ha2, hk2, rfl, _⟩ := h.h.i.shape
  obtain ⟨ha3, hk3, rfl, _⟩ := h.h.o.shape
  obtain ⟨ha4, hk4, rfl, _⟩ := h.pl.shape
  obtain ⟨ha5, hk5, rfl, _⟩ := h.mm.shape
  clear h hk hz
  obtain ⟨T, hT⟩ : ∃ T : Int, k + totV H ps zs = T := ⟨_, rfl⟩
  obtain ⟨n4, hn4⟩ : ∃ n, ps.length = n := ⟨_, rfl⟩
  obtain ⟨n5, hn5⟩ : ∃ n, zs.length = n := ⟨_, rfl⟩
  have L4 : Hid (ps.length = n4) := hn4
  have L5 : Hid (zs.length = n5) := hn5
  rw [hn4, hn5] at HM ⊢
  rw [hT]
  have HT : Hid (k + totV H ps zs = T) := hT
  clear hT hn4 hn5
  generalize H.regs.length = n0 at *
  generalize H.csr.length = n1 at *
  generalize H.inn.length = n2 at *
  generalize H.out.length = n3 at *
  go_enter Tryz.func15, Tryz.ntmps15
  go_wp2_with fail
  refine (mark_view _ _ _ _ _ _ H ps zs _ _ _ (HM.out.keep (al (Below.refl _ _) _)) HK.out.1 HK.out.2).mono ?_
  rw [HT.out, L4.out, L5.out]
  rintro e w1 ⟨rfl, m1, g1⟩
  have N1 : Hid (Vm w1 b _ _ _ _ _ _ _ _ _) := m1
  have G1 : Hid (Mq _ _ _) := Mq.pre g1
  clear m1 g1
  go_wp2_with fail
  go_ret
  exact ⟨rfl, N1.out, G1.out⟩
set_option maxRecDepth 20000 in
set_option maxHeartbeats 4000000 in
theorem held_vres (x : Int) (r c i o l m : Value) (H : Ht) (np nz : Nat) (k : Int) (b : Nat) (w : World) (h : Hm w b r c i o (mkH k H)) (hl : Nums w b l (marks (k + totH H) np)) (hm : Nums w b m (marks (k + totH H + (np : Nat)) nz)) (hk : 0 ≤ k) (hz : k + totH H + (np : Nat) + nz ≤ 4611686018427387904) :
    Calls Tryz.prog 16 #[.agg #[.int .i64 x, r, .int .i64 H.pc, c, .bool H.halted, .bool H.waiting, .bool H.rung, .int .i64 H.done, i, o, l, m], .int .i64 k] w fun e w' => e = .returned (.int .i64 (k + totH H + (np : Nat) + nz)) ∧ Below w.heap.size w w' := by
  have HM : Hid (Hm w b r c i o (mkH k H) ∧ Nums w b l (marks (k + totH H) np) ∧ Nums w b m (marks (k + totH H + (np : Nat)) nz)) := ⟨h, hl, hm⟩
  have HK : Hid (0 ≤ k ∧ k + totH H + (np : Nat) + nz ≤ 4611686018427387904) := ⟨hk, hz⟩
  obtain ⟨a0, k0, rfl, _⟩ := h.r.shape
  obtain ⟨a1, k1, rfl, _⟩ := h.c.shape
  obtain ⟨a2, k2, rfl, _⟩ := h.i.shape
  obtain ⟨a3, k3, rfl, _⟩ := h.o.shape
  obtain ⟨a4, k4, rfl, _⟩ := hl.shape
  obtain ⟨a5, k5, rfl, _⟩ := hm.shape
  clear h hl hm
  obtain ⟨T, hT⟩ : ∃ T : Int, k + totH H + (np : Nat) + nz = T := ⟨_, rfl⟩
  have hp : 0 ≤ T := by omega
  rw [hT]
  have HT : Hid (k + totH H + (np : Nat) + nz = T) := hT
  clear hT hk hz
  generalize (mkH k H).regs.length = n0 at *
  generalize (mkH k H).csr.length = n1 at *
  generalize (mkH k H).inn.length = n2 at *
  generalize (mkH k H).out.length = n3 at *
  generalize (marks (k + totH H) np).length = n4 at *
  generalize (marks (k + totH H + (np : Nat)) nz).length = n5 at *
  go_enter Tryz.func16, Tryz.ntmps16
  go_wp2_with fail
  refine (held_view _ _ _ _ _ _ H np nz _ _ _ (HM.out.1.keep (al (Below.refl _ _) _)) (HM.out.2.1.keep (al (Below.refl _ _) _)) (HM.out.2.2.keep (al (Below.refl _ _) _)) HK.out.1 HK.out.2).mono ?_
  rintro e w1 ⟨rfl, b1⟩
  rw [HT.out]
  go_wp2_with fail
  go_ret
  exact ⟨rfl, on (al (Below.refl _ _) _) b1⟩
end Go.Proofs.YtadkhognlapckaaGreatDoor
