/- Texts of this seat, joined. -/
import Derived.Test.YtbegbphbcjoglaaGreatDoorQ21
import Derived.Test.YtbegbphbcjoglaaGreatDoorQ22
import Derived.Test.YtbegbphbcjoglaaGreatDoorQ29
namespace Go.Proofs.YtbegbphbcjoglaaGreatDoor
open Go.RowKit
set_option linter.unusedVariables false

set_option maxRecDepth 20000 in
set_option maxHeartbeats 4000000 in
theorem eqr_hart (r c i o r' c' i' o' : Value) (H : Ht) (w : World) (h : Hr w r c i o H) (k : Hr w r' c' i' o' H) :
    Calls Tryz.prog 67 #[.agg #[r, .int .i64 H.pc, c, .bool H.halted, .bool H.waiting, .bool H.rung, .int .i64 H.done, i, o], .agg #[r', .int .i64 H.pc, c', .bool H.halted, .bool H.waiting, .bool H.rung, .int .i64 H.done, i', o']] w fun e w' => e = .returned (.bool true) ∧ Below w.heap.size w w' := by
  obtain ⟨a0, k0, rfl, _⟩ := h.r
  obtain ⟨a1, k1, rfl, _⟩ := h.c
  obtain ⟨a2, k2, rfl, _⟩ := h.i
  obtain ⟨a3, k3, rfl, _⟩ := h.o
  obtain ⟨x0, l0, rfl, _⟩ := k.r
  obtain ⟨x1, l1, rfl, _⟩ := k.c
  obtain ⟨x2, l2, rfl, _⟩ := k.i
  obtain ⟨x3, l3, rfl, _⟩ := k.o
  have HM : Hid (Hr w _ _ _ _ H) := h
  have KM : Hid (Hr w _ _ _ _ H) := k
  clear h k
  generalize H.regs.length = n0 at *
  generalize H.csr.length = n1 at *
  generalize H.inn.length = n2 at *
  generalize H.out.length = n3 at *
  generalize hW : (w.alloc (.cells #[.slice a0 n0 k0, .int .i64 H.pc, .slice a1 n1 k1, .bool H.halted, .bool H.waiting, .bool H.rung, .int .i64 H.done, .slice a2 n2 k2, .slice a3 n3 k3] 31)).alloc (.cells #[.slice x0 n0 l0, .int .i64 H.pc, .slice x1 n1 l1, .bool H.halted, .bool H.waiting, .bool H.rung, .int .i64 H.done, .slice x2 n2 l2, .slice x3 n3 l3] 31) = W
  have B0 : Hid (Below w.heap.size w W) := by show Below _ _ _; rw [← hW]; exact al (al (Below.refl _ _) _) _
  obtain ⟨s, hS⟩ : ∃ s, w.heap.size = s := ⟨_, rfl⟩
  have VA : Hid (Vb W s #[.slice a0 n0 k0, .int .i64 H.pc, .slice a1 n1 k1, .bool H.halted, .bool H.waiting, .bool H.rung, .int .i64 H.done, .slice a2 n2 k2, .slice a3 n3 k3] 31) := by
    show Vb _ _ _ _
    rw [← hW, ← hS]
    exact (Vb.new _ _ _).push _
  have VB : Hid (Vb W (s + 1) #[.slice x0 n0 l0, .int .i64 H.pc, .slice x1 n1 l1, .bool H.halted, .bool H.waiting, .bool H.rung, .int .i64 H.done, .slice x2 n2 l2, .slice x3 n3 l3] 31) := by
    show Vb _ _ _ _
    have z1 : s + 1 = (w.alloc (.cells #[.slice a0 n0 k0, .int .i64 H.pc, .slice a1 n1 k1, .bool H.halted, .bool H.waiting, .bool H.rung, .int .i64 H.done, .slice a2 n2 k2, .slice a3 n3 k3] 31)).heap.size := by rw [← hS]; simp
    rw [← hW, z1]
    exact Vb.new _ _ _
  have q0 := VA.out.cell 0 rfl
  have p0 := VB.out.cell 0 rfl
  go_enter Tryz.func67, Tryz.ntmps67
  go_wp2_with fail
  clear hW hS q0 p0
  refine (eq_rn _ _ _ _ (HM.out.stay B0.out).r (KM.out.stay B0.out).r).mono ?_
  rintro e w1 ⟨rfl, b1⟩
  have B1 : Hid (Below w.heap.size w w1) := on B0.out b1
  have VA1 : Hid (Vb w1 _ _ _) := VA.out.keep b1
  have VB1 : Hid (Vb w1 _ _ _) := VB.out.keep b1
  have q1 := VA1.out.cell 1 rfl
  have p1 := VB1.out.cell 1 rfl
  have q2 := VA1.out.cell 2 rfl
  have p2 := VB1.out.cell 2 rfl
  clear b1 VA VB B0
  go_wp2_with fail
  clear q1 p1 q2 p2
  refine (eq_rn _ _ _ _ (HM.out.stay B1.out).c (KM.out.stay B1.out).c).mono ?_
  rintro e w2 ⟨rfl, b1⟩
  have B2 : Hid (Below w.heap.size w w2) := on B1.out b1
  have VA2 : Hid (Vb w2 _ _ _) := VA1.out.keep b1
  have VB2 : Hid (Vb w2 _ _ _) := VB1.out.keep b1
  have q3 := VA2.out.cell 3 rfl
  have p3 := VB2.out.cell 3 rfl
  have q4 := VA2.out.cell 4 rfl
  have p4 := VB2.out.cell 4 rfl
  have q5 := VA2.out.cell 5 rfl
  have p5 := VB2.out.cell 5 rfl
  have q6 := VA2.out.cell 6 rfl
  have p6 := VB2.out.cell 6 rfl
  have q7 := VA2.out.cell 7 rfl
  have p7 := VB2.out.cell 7 rfl
  clear b1 VA1 VB1 B1
  go_wp2_with fail
  clear q3 p3 q4 p4 q5 p5 q6 p6 q7 p7
  refine (eq_rn _ _ _ _ (HM.out.stay B2.out).i (KM.out.stay B2.out).i).mono ?_
  rintro e w3 ⟨rfl, b1⟩
  have B3 : Hid (Below w.heap.size w w3) := on B2.out b1
  have q8 := (VA2.out.keep b1).cell 8 rfl
  have p8 := (VB2.out.keep b1).cell 8 rfl
  clear b1 VA2 VB2 B2
  go_wp2_with fail
  refine (eq_rn _ _ _ _ (HM.out.stay B3.out).o (KM.out.stay B3.out).o).mono ?_
  rintro e w4 ⟨rfl, b1⟩
  go_wp2_with fail
  go_ret
  exact ⟨rfl, on B3.out b1⟩

end Go.Proofs.YtbegbphbcjoglaaGreatDoor
namespace Go.Proofs.YtbegbphbcjoglaaGreatDoor
open Go.RowKit
set_option linter.unusedVariables false

/-- A lonely machine, read alone. -/
structure Sq (w : World) (base : Nat) (r c i o l m : Value) (H : Ht) (ps : List (Int × Int)) (zs : List Int) : Prop where
  h : Hr w r c i o H
  pl : Prs 80 w base l ps
  mm : Rv w m zs
theorem Sq.keep {w w' : World} {base : Nat} {r c i o l m : Value} {H : Ht} {ps : List (Int × Int)} {zs : List Int} (s : Sq w base r c i o l m H ps zs) (b : Below w.heap.size w w') : Sq w' base r c i o l m H ps zs :=
  ⟨s.h.stay b, s.pl.keep b, s.mm.stay b⟩
theorem Sm.sr {w : World} {base : Nat} {r c i o l m : Value} {H : Ht} {ps : List (Int × Int)} {zs : List Int} (s : Sm w base r c i o l m H ps zs) : Sq w base r c i o l m H ps zs := ⟨s.h.hr, s.pl, s.mm.rv⟩
set_option maxRecDepth 20000 in
set_option maxHeartbeats 4000000 in
theorem eqr_solo (r c i o l m r' c' i' o' l' m' : Value) (H : Ht) (ps : List (Int × Int)) (zs : List Int) (b b' : Nat) (w : World) (h : Sq w b r c i o l m H ps zs) (k : Sq w b' r' c' i' o' l' m' H ps zs) :
    Calls Tryz.prog 36 #[.agg #[r, .int .i64 H.pc, c, .bool H.halted, .bool H.waiting, .bool H.rung, .int .i64 H.done, i, o, l, m], .agg #[r', .int .i64 H.pc, c', .bool H.halted, .bool H.waiting, .bool H.rung, .int .i64 H.done, i', o', l', m']] w fun e w' => e = .returned (.bool true) ∧ Below w.heap.size w w' := by
  have HS : Hid (Sq w b r c i o l m H ps zs) := h
  have KS : Hid (Sq w b' r' c' i' o' l' m' H ps zs) := k
  obtain ⟨ha0, hk0, eh0, _⟩ := h.h.r
  obtain ⟨ha1, hk1, eh1, _⟩ := h.h.c
  obtain ⟨ha2, hk2, eh2, _⟩ := h.h.i
  obtain ⟨ha3, hk3, eh3, _⟩ := h.h.o
  obtain ⟨ha4, hk4, eh4, _⟩ := h.pl.shape
  obtain ⟨ha5, hk5, eh5, _⟩ := h.mm
  obtain ⟨ka0, kk0, ek0, _⟩ := k.h.r
  obtain ⟨ka1, kk1, ek1, _⟩ := k.h.c
  obtain ⟨ka2, kk2, ek2, _⟩ := k.h.i
  obtain ⟨ka3, kk3, ek3, _⟩ := k.h.o
  obtain ⟨ka4, kk4, ek4, _⟩ := k.pl.shape
  obtain ⟨ka5, kk5, ek5, _⟩ := k.mm
  clear h k
  subst eh0 ek0 eh1 ek1 eh2 ek2 eh3 ek3 eh4 ek4 eh5 ek5
  generalize hn0 : H.regs.length = n0 at *
  generalize hn1 : H.csr.length = n1 at *
  generalize hn2 : H.inn.length = n2 at *
  generalize hn3 : H.out.length = n3 at *
  generalize hn4 : ps.length = n4 at *
  generalize hn5 : zs.length = n5 at *
  clear hn0 hn1 hn2 hn3 hn4 hn5
  generalize hW : (w.alloc (.cells #[.slice ha0 n0 hk0, .int .i64 H.pc, .slice ha1 n1 hk1, .bool H.halted, .bool H.waiting, .bool H.rung, .int .i64 H.done, .slice ha2 n2 hk2, .slice ha3 n3 hk3, .slice ha4 n4 hk4, .slice ha5 n5 hk5] 34)).alloc (.cells #[.slice ka0 n0 kk0, .int .i64 H.pc, .slice ka1 n1 kk1, .bool H.halted, .bool H.waiting, .bool H.rung, .int .i64 H.done, .slice ka2 n2 kk2, .slice ka3 n3 kk3, .slice ka4 n4 kk4, .slice ka5 n5 kk5] 34) = W
  have B0 : Hid (Below w.heap.size w W) := by show Below _ _ _; rw [← hW]; exact al (al (Below.refl _ _) _) _
  obtain ⟨s, hS⟩ : ∃ s, w.heap.size = s := ⟨_, rfl⟩
  have z1 : s + 1 = (w.alloc (.cells #[.slice ha0 n0 hk0, .int .i64 H.pc, .slice ha1 n1 hk1, .bool H.halted, .bool H.waiting, .bool H.rung, .int .i64 H.done, .slice ha2 n2 hk2, .slice ha3 n3 hk3, .slice ha4 n4 hk4, .slice ha5 n5 hk5] 34)).heap.size := by rw [← hS]; simp
  have Q : Hid (Vb W s #[.slice ha0 n0 hk0, .int .i64 H.pc, .slice ha1 n1 hk1, .bool H.halted, .bool H.waiting, .bool H.rung, .int .i64 H.done, .slice ha2 n2 hk2, .slice ha3 n3 hk3, .slice ha4 n4 hk4, .slice ha5 n5 hk5] 34) := by show Vb _ _ _ _; rw [← hW, ← hS]; exact (Vb.new _ _ _).push _
  have R : Hid (Vb W (s + 1) #[.slice ka0 n0 kk0, .int .i64 H.pc, .slice ka1 n1 kk1, .bool H.halted, .bool H.waiting, .bool H.rung, .int .i64 H.done, .slice ka2 n2 kk2, .slice ka3 n3 kk3, .slice ka4 n4 kk4, .slice ka5 n5 kk5] 34) := by show Vb _ _ _ _; rw [← hW, z1]; exact Vb.new _ _ _
  clear z1
  have q0 := Q.out.cell 0 rfl
  have q1 := Q.out.cell 1 rfl
  have q2 := Q.out.cell 2 rfl
  have q3 := Q.out.cell 3 rfl
  have q4 := Q.out.cell 4 rfl
  have q5 := Q.out.cell 5 rfl
  have q6 := Q.out.cell 6 rfl
  have q7 := Q.out.cell 7 rfl
  have q8 := Q.out.cell 8 rfl
  have p0 := R.out.cell 0 rfl
  have p1 := R.out.cell 1 rfl
  have p2 := R.out.cell 2 rfl
  have p3 := R.out.cell 3 rfl
  have p4 := R.out.cell 4 rfl
  have p5 := R.out.cell 5 rfl
  have p6 := R.out.cell 6 rfl
  have p7 := R.out.cell 7 rfl
  have p8 := R.out.cell 8 rfl
  go_enter Tryz.func36, Tryz.ntmps36
  go_wp2_with fail
  clear hW hS q0 q1 q2 q3 q4 q5 q6 q7 q8 p0 p1 p2 p3 p4 p5 p6 p7 p8
  refine (eqr_hart _ _ _ _ _ _ _ _ H _ (HS.out.h.stay B0.out) (KS.out.h.stay B0.out)).mono ?_
  rintro e w1 ⟨rfl, b1⟩
  have B1 : Hid (Below w.heap.size w w1) := on B0.out b1
  have Q1 := Q.out.keep b1
  have R1 := R.out.keep b1
  have q9 := Q1.cell 9 rfl
  have p9 := R1.cell 9 rfl
  have QR : Hid (_ ∧ _) := And.intro Q1 R1
  clear b1 Q1 R1 Q R
  go_wp2_with fail
  clear q9 p9
  refine (eq_pages _ _ ps _ _ _ (HS.out.pl.keep B1.out) (KS.out.pl.keep B1.out)).mono ?_
  rintro e w2 ⟨rfl, b2⟩
  have B2 : Hid (Below w.heap.size w w2) := on B1.out b2
  have q10 := (QR.out.1.keep b2).cell 10 rfl
  have p10 := (QR.out.2.keep b2).cell 10 rfl
  clear b2 QR
  go_wp2_with fail
  clear q10 p10
  refine (eq_rn _ _ zs _ (HS.out.mm.stay B2.out) (KS.out.mm.stay B2.out)).mono ?_
  rintro e w3 ⟨rfl, b3⟩
  have B3 : Hid (Below w.heap.size w w3) := on B2.out b3
  clear b3
  go_wp2_with fail
  go_ret
  exact ⟨rfl, B3.out⟩
set_option maxRecDepth 20000 in
set_option maxHeartbeats 4000000 in
theorem eq_sres (x : Int) (r c i o l m r' c' i' o' l' m' : Value) (H : Ht) (ps : List (Int × Int)) (zs : List Int) (b b' : Nat) (w : World) (h : Sq w b r c i o l m H ps zs) (k : Sq w b' r' c' i' o' l' m' H ps zs) :
    Calls Tryz.prog 9 #[.agg #[.int .i64 x, r, .int .i64 H.pc, c, .bool H.halted, .bool H.waiting, .bool H.rung, .int .i64 H.done, i, o, l, m], .agg #[.int .i64 x, r', .int .i64 H.pc, c', .bool H.halted, .bool H.waiting, .bool H.rung, .int .i64 H.done, i', o', l', m']] w fun e w' => e = .returned (.bool true) ∧ Below w.heap.size w w' := by
  have HM : Hid (Sq w b r c i o l m H ps zs) := h
  have KM : Hid (Sq w b' r' c' i' o' l' m' H ps zs) := k
  obtain ⟨ha0, hk0, rfl, _⟩ := h.h.r
  obtain ⟨ha1, hk1, rfl, _⟩ := h.h.c
  obtain ⟨ha2, hk2, rfl, _⟩ := h.h.i
  obtain ⟨ha3, hk3, rfl, _⟩ := h.h.o
  obtain ⟨ha4, hk4, rfl, _⟩ := h.pl.shape
  obtain ⟨ha5, hk5, rfl, _⟩ := h.mm
  obtain ⟨ka0, kk0, rfl, _⟩ := k.h.r
  obtain ⟨ka1, kk1, rfl, _⟩ := k.h.c
  obtain ⟨ka2, kk2, rfl, _⟩ := k.h.i
  obtain ⟨ka3, kk3, rfl, _⟩ := k.h.o
  obtain ⟨ka4, kk4, rfl, _⟩ := k.pl.shape
  obtain ⟨ka5, kk5, rfl, _⟩ := k.mm
  clear h k
  generalize H.regs.length = n0 at *
  generalize H.csr.length = n1 at *
  generalize H.inn.length = n2 at *
  generalize H.out.length = n3 at *
  generalize ps.length = n4 at *
  generalize zs.length = n5 at *
  go_enter Tryz.func9, Tryz.ntmps9
  go_wp2_with fail
  refine (eqr_solo _ _ _ _ _ _ _ _ _ _ _ _ H ps zs _ _ _ (HM.out.keep (al (al (Below.refl _ _) _) _)) (KM.out.keep (al (al (Below.refl _ _) _) _))).mono ?_
  rintro e w1 ⟨rfl, b1⟩
  go_wp2_with fail
  go_ret
  exact ⟨rfl, on (al (al (Below.refl _ _) _) _) b1⟩
set_option maxRecDepth 20000 in
set_option maxHeartbeats 4000000 in
theorem mark_sres (x : Int) (r c i o l m : Value) (H : Ht) (ps : List (Int × Int)) (zs : List Int) (k : Int) (b : Nat) (w : World) (h : Sm w b r c i o l m H ps zs) (hk : 0 ≤ k) (hz : k + totS H ps zs ≤ 4611686018427387904) :
    Calls Tryz.prog 14 #[.agg #[.int .i64 x, r, .int .i64 H.pc, c, .bool H.halted, .bool H.waiting, .bool H.rung, .int .i64 H.done, i, o, l, m], .int .i64 k] w fun e w' => e = .returned (.int .i64 (k + totS H ps zs)) ∧ Sm w' b r c i o l m (mkH k H) (pmarks (k + totH H) ps.length) (marks (k + totH H + (2 * ps.length : Nat)) zs.length) ∧ Mq (OwnS r c i o l m) w w' := by
  have HM : Hid (Sm w b r c i o l m H ps zs) := h
  have HK : Hid (0 ≤ k ∧ k + totS H ps zs ≤ 4611686018427387904) := ⟨hk, hz⟩
  obtain ⟨ha0, hk0, rfl, _⟩ := h.h.r.shape
  obtain ⟨ha1, hk1, rfl, _⟩ := h.h.c.shape
  obtain ⟨ha2, hk2, rfl, _⟩ := h.h.i.shape
  obtain ⟨ha3, hk3, rfl, _⟩ := h.h.o.shape
  obtain ⟨ha4, hk4, rfl, _⟩ := h.pl.shape
  obtain ⟨ha5, hk5, rfl, _⟩ := h.mm.shape
  clear h hk hz
  obtain ⟨T, hT⟩ : ∃ T : Int, k + totS H ps zs = T := ⟨_, rfl⟩
  obtain ⟨n4, hn4⟩ : ∃ n, ps.length = n := ⟨_, rfl⟩
  obtain ⟨n5, hn5⟩ : ∃ n, zs.length = n := ⟨_, rfl⟩
  have L4 : Hid (ps.length = n4) := hn4
  have L5 : Hid (zs.length = n5) := hn5
  rw [hn4, hn5] at HM ⊢
  rw [hT]
  have HT : Hid (k + totS H ps zs = T) := hT
  clear hT hn4 hn5
  generalize H.regs.length = n0 at *
  generalize H.csr.length = n1 at *
  generalize H.inn.length = n2 at *
  generalize H.out.length = n3 at *
  go_enter Tryz.func14, Tryz.ntmps14
  go_wp2_with fail
  refine (mark_solo _ _ _ _ _ _ H ps zs _ _ _ (HM.out.keep (al (Below.refl _ _) _)) HK.out.1 HK.out.2).mono ?_
  rw [HT.out, L4.out, L5.out]
  rintro e w1 ⟨rfl, m1, g1⟩
  have N1 : Hid (Sm w1 b _ _ _ _ _ _ _ _ _) := m1
  have G1 : Hid (Mq _ _ _) := Mq.pre g1
  clear m1 g1
  go_wp2_with fail
  go_ret
  exact ⟨rfl, N1.out, G1.out⟩
set_option maxRecDepth 20000 in
set_option maxHeartbeats 4000000 in
theorem held_sres (x : Int) (r c i o l m : Value) (H : Ht) (np nz : Nat) (k : Int) (b : Nat) (w : World) (h : Hm w b r c i o (mkH k H)) (hl : Prs 80 w b l (pmarks (k + totH H) np)) (hm : Nums w b m (marks (k + totH H + (2 * np : Nat)) nz)) (hk : 0 ≤ k) (hz : k + totH H + (2 * np : Nat) + nz ≤ 4611686018427387904) :
    Calls Tryz.prog 15 #[.agg #[.int .i64 x, r, .int .i64 H.pc, c, .bool H.halted, .bool H.waiting, .bool H.rung, .int .i64 H.done, i, o, l, m], .int .i64 k] w fun e w' => e = .returned (.int .i64 (k + totH H + (2 * np : Nat) + nz)) ∧ Below w.heap.size w w' := by
  have HM : Hid (Hm w b r c i o (mkH k H) ∧ Prs 80 w b l (pmarks (k + totH H) np) ∧ Nums w b m (marks (k + totH H + (2 * np : Nat)) nz)) := ⟨h, hl, hm⟩
  have HK : Hid (0 ≤ k ∧ k + totH H + (2 * np : Nat) + nz ≤ 4611686018427387904) := ⟨hk, hz⟩
  obtain ⟨a0, k0, rfl, _⟩ := h.r.shape
  obtain ⟨a1, k1, rfl, _⟩ := h.c.shape
  obtain ⟨a2, k2, rfl, _⟩ := h.i.shape
  obtain ⟨a3, k3, rfl, _⟩ := h.o.shape
  obtain ⟨a4, k4, rfl, _⟩ := hl.shape
  obtain ⟨a5, k5, rfl, _⟩ := hm.shape
  clear h hl hm
  obtain ⟨T, hT⟩ : ∃ T : Int, k + totH H + (2 * np : Nat) + nz = T := ⟨_, rfl⟩
  have hp : 0 ≤ T := by omega
  rw [hT]
  have HT : Hid (k + totH H + (2 * np : Nat) + nz = T) := hT
  clear hT hk hz
  generalize (mkH k H).regs.length = n0 at *
  generalize (mkH k H).csr.length = n1 at *
  generalize (mkH k H).inn.length = n2 at *
  generalize (mkH k H).out.length = n3 at *
  generalize (pmarks (k + totH H) np).length = n4 at *
  generalize (marks (k + totH H + (2 * np : Nat)) nz).length = n5 at *
  go_enter Tryz.func15, Tryz.ntmps15
  go_wp2_with fail
  refine (held_solo _ _ _ _ _ _ H np nz _ _ _ (HM.out.1.keep (al (Below.refl _ _) _)) (HM.out.2.1.keep (al (Below.refl _ _) _)) (HM.out.2.2.keep (al (Below.refl _ _) _)) HK.out.1 HK.out.2).mono ?_
  rintro e w1 ⟨rfl, b1⟩
  rw [HT.out]
  go_wp2_with fail
  go_ret
  exact ⟨rfl, on (al (Below.refl _ _) _) b1⟩
end Go.Proofs.YtbegbphbcjoglaaGreatDoor
