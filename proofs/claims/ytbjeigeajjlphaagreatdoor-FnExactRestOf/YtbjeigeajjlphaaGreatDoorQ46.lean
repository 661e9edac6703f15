/- Texts of this seat, joined. -/
import Derived.Test.YtbjeigeajjlphaaGreatDoorQ38
import Derived.Test.YtbjeigeajjlphaaGreatDoorQ43
import Derived.Test.YtbjeigeajjlphaaGreatDoorQ45
namespace Go.Proofs.YtbjeigeajjlphaaGreatDoor
open Go.RowKit
set_option linter.unusedVariables false

def roR (X : Hst) : Int × Int := if hoV X = 0 then (0, (rdV X.pol.plan - X.clock % rdV X.pol.plan) % rdV X.pol.plan) else (hoV X, 0)
set_option maxRecDepth 20000 in
set_option maxHeartbeats 4000000 in
theorem i_restOf (a0 a1 a2 a3 : Option Addr) (n0 c0 n1 c1 n2 c2 n3 c3 : Nat) (m h : Value) (X : Hst) (b : Nat) (w : World) (d : Oj w b a0 n0 c0 a1 n1 c1 a2 n2 c2 a3 n3 c3 m h X) (hg : w.cell? ⟨0, 0, none⟩ = some (.iface 148 (.agg #[.pointer (some ⟨1, 92, none⟩)]))) :
    Calls Tryz.prog 11 #[.agg #[.slice a0 n0 c0, .slice a1 n1 c1, .slice a2 n2 c2, .slice a3 n3 c3, m, h, .int .i64 X.slot, .int .i64 X.left, .int .i64 X.clock]] w fun e w' => e = .returned (.agg #[.int .i64 (roR X).1, .int .i64 (roR X).2]) ∧ Below w.heap.size w w' := by
  obtain ⟨U, hU⟩ : ∃ U, roR X = U := ⟨_, rfl⟩
  rw [hU]
  have HU : Hid (roR X = U) := hU
  have D0 : Hid (Oj w b a0 n0 c0 a1 n1 c1 a2 n2 c2 a3 n3 c3 m h X) := d
  obtain ⟨am, cm, rfl, _⟩ := d.mem.shape
  obtain ⟨ah, ch, rfl, _⟩ := d.harts.shape
  generalize X.mem.length = lm at *
  generalize X.harts.length = lh at *
  clear d hU
  generalize hW : (w.alloc (.cells #[.slice a0 n0 c0, .slice a1 n1 c1, .slice a2 n2 c2, .slice a3 n3 c3, .slice am lm cm, .slice ah lh ch, .int .i64 X.slot, .int .i64 X.left, .int .i64 X.clock] 41)).alloc (.cells #[.int .i64 0, .int .i64 0] 46) = W
  have B0 : Hid (Below w.heap.size w W) := by show Below _ _ _; rw [← hW]; exact al (al (Below.refl _ _) _) _
  obtain ⟨s, hS⟩ : ∃ s, w.heap.size = s := ⟨_, rfl⟩
  have HSs : Hid (w.heap.size = s) := hS
  have Q : Hid (Vb W s #[.slice a0 n0 c0, .slice a1 n1 c1, .slice a2 n2 c2, .slice a3 n3 c3, .slice am lm cm, .slice ah lh ch, .int .i64 X.slot, .int .i64 X.left, .int .i64 X.clock] 41) := by show Vb _ _ _ _; rw [← hW, ← hS]; exact (Vb.new _ _ _).push _
  have R : Hid (Vb W (s + 1) #[.int .i64 0, .int .i64 0] 46) := by
    have z1 : s + 1 = (w.alloc (.cells #[.slice a0 n0 c0, .slice a1 n1 c1, .slice a2 n2 c2, .slice a3 n3 c3, .slice am lm cm, .slice ah lh ch, .int .i64 X.slot, .int .i64 X.left, .int .i64 X.clock] 41)).heap.size := by rw [← hS]; simp
    show Vb _ _ _ _; rw [← hW, z1]; exact Vb.new _ _ _
  have D : Hid (Oj W b a0 n0 c0 a1 n1 c1 a2 n2 c2 a3 n3 c3 (.slice am lm cm) (.slice ah lh ch) X) := D0.out.keep B0.out
  have HG : Hid (W.cell? ⟨0, 0, none⟩ = some (.iface 148 (.agg #[.pointer (some ⟨1, 92, none⟩)]))) := cell_keep B0.out hg
  clear D0 hg
  have q0 := Q.out.cell 0 rfl
  have q1 := Q.out.cell 1 rfl
  have q2 := Q.out.cell 2 rfl
  have q3 := Q.out.cell 3 rfl
  have q4 := Q.out.cell 4 rfl
  have q5 := Q.out.cell 5 rfl
  have q6 := Q.out.cell 6 rfl
  have q7 := Q.out.cell 7 rfl
  have q8 := Q.out.cell 8 rfl
  have fv := field_value
  go_enter Tryz.func11, Tryz.ntmps11
  go_wp2_with fail
  clear hW hS
  clear q0 q1 q2 q3 q4 q5 q6 q7 q8
  refine (i_hostFault _ _ _ _ _ _ _ _ _ _ _ _ _ _ X b _ D.out HG.out).mono ?_
  rintro e w1 ⟨rfl, b1⟩
  have B1 : Hid (Below W.heap.size W w1) := b1
  have R1 : Hid (Vb w1 (s + 1) #[.int .i64 0, .int .i64 0] 46) := R.out.keep b1
  clear b1
  by_cases hz : hoV X = 0
  case neg =>
    have HU2 : Hid ((hoV X, (0 : Int)) = U) := by show _ = _; rw [← HU.out, roR, if_neg hz]
    generalize hv : hoV X = v at *
    have E := HU2.out
    subst E
    have r0 := R1.out.cell 0 rfl
    have r1 := R1.out.cell 1 rfl
    have f0 := R1.out.free 0
    have f1 := R1.out.free 1
    go_wp2_with fail
    exact bodyPost_ret (v := .agg #[.int .i64 v, .int .i64 0]) (by simp [results, Tryz.results11, go_sem, r0, r1]) rfl ⟨rfl, ((on B0.out B1.out).setCell (by have := HSs.out; show w.heap.size ≤ s + 1; omega) _).setCell (by have := HSs.out; show w.heap.size ≤ s + 1; omega) _⟩
  obtain ⟨pz, ck⟩ := ho_ok hz
  have PZ : Hid (pfV X.pol = 0 ∧ 0 ≤ X.clock ∧ X.clock ≤ 1000000) := ⟨pz, ck⟩
  have HU2 : Hid ((0, (rdV X.pol.plan - X.clock % rdV X.pol.plan) % rdV X.pol.plan) = U) := by show _ = _; rw [← HU.out, roR, if_pos hz]
  rw [hz]
  clear hz pz ck
  have q0 := (Q.out.keep B1.out).cell 0 rfl
  have q1 := (Q.out.keep B1.out).cell 1 rfl
  have q2 := (Q.out.keep B1.out).cell 2 rfl
  have q3 := (Q.out.keep B1.out).cell 3 rfl
  go_wp2_with fail
  clear q0 q1 q2 q3
  refine (i_roundOf _ _ _ _ _ _ _ _ _ _ _ _ X.pol _ (D.out.pol.stay B1.out) (cell_keep B1.out HG.out)).mono ?_
  rintro e w2 ⟨rfl, b2⟩
  have RV : rR X.pol = (0, rdV X.pol.plan) := by rw [rR, if_pos PZ.out.1]
  rw [RV]
  clear RV
  have RP := rd_pos X.pol PZ.out.1
  obtain ⟨rr, hrr⟩ : ∃ r, rdV X.pol.plan = r := ⟨_, rfl⟩
  rw [hrr] at RP HU2
  simp only
  rw [hrr]
  clear hrr
  have r1 := RP.1
  have r2 := RP.2
  have rne : ¬ rr = 0 := by omega
  have tm : X.clock.tmod rr = X.clock % rr := Int.tmod_eq_emod_of_nonneg PZ.out.2.1
  have m0 : 0 ≤ X.clock % rr := Int.emod_nonneg _ (by omega)
  have m1 : X.clock % rr < rr := Int.emod_lt_of_pos _ (by omega)
  obtain ⟨mm, hm⟩ : ∃ m, X.clock % rr = m := ⟨_, rfl⟩
  rw [hm] at tm m0 m1 HU2
  have tn : (rr - mm).tmod rr = (rr - mm) % rr := Int.tmod_eq_emod_of_nonneg (by omega)
  have n0' : 0 ≤ (rr - mm) % rr := Int.emod_nonneg _ (by omega)
  have n1' : (rr - mm) % rr < rr := Int.emod_lt_of_pos _ (by omega)
  obtain ⟨nn, hn⟩ : ∃ m, (rr - mm) % rr = m := ⟨_, rfl⟩
  rw [hn] at tn n0' n1' HU2
  have E := HU2.out
  subst E
  have R2 : Hid (Vb w2 (s + 1) #[.int .i64 0, .int .i64 0] 46) := R1.out.keep b2
  have B2 : Hid (Below w.heap.size w w2) := on B0.out (on B1.out b2)
  have q8 := (Q.out.keep (on B1.out b2)).cell 8 rfl
  have x0 := R2.out.cell 0 rfl
  have x1 := R2.out.cell 1 rfl
  have f0 := R2.out.free 0
  have f1 := R2.out.free 1
  clear hm hn RP b2
  go_wp2_with fail
  exact bodyPost_ret (v := .agg #[.int .i64 0, .int .i64 nn]) (by simp [results, Tryz.results11, go_sem, x0, x1]) rfl ⟨rfl, ((B2.out).setCell (by have := HSs.out; show w.heap.size ≤ s + 1; omega) _).setCell (by have := HSs.out; show w.heap.size ≤ s + 1; omega) _⟩
set_option maxRecDepth 20000 in
set_option maxHeartbeats 4000000 in
theorem s_restOf (a0 a1 a2 a3 : Option Addr) (n0 c0 n1 c1 n2 c2 n3 c3 : Nat) (m h : Value) (X : Hst) (b : Nat) (w : World) (d : Oj w b a0 n0 c0 a1 n1 c1 a2 n2 c2 a3 n3 c3 m h X) :
    Calls Tryz.prog 10 #[.agg #[.slice a0 n0 c0, .slice a1 n1 c1, .slice a2 n2 c2, .slice a3 n3 c3, m, h, .int .i64 X.slot, .int .i64 X.left, .int .i64 X.clock]] w fun e w' => e = .returned (.agg #[.int .i64 (roR X).1, .int .i64 (roR X).2]) ∧ Below w.heap.size w w' := by
  obtain ⟨U, hU⟩ : ∃ U, roR X = U := ⟨_, rfl⟩
  rw [hU]
  have HU : Hid (roR X = U) := hU
  have D0 : Hid (Oj w b a0 n0 c0 a1 n1 c1 a2 n2 c2 a3 n3 c3 m h X) := d
  obtain ⟨am, cm, rfl, _⟩ := d.mem.shape
  obtain ⟨ah, ch, rfl, _⟩ := d.harts.shape
  generalize X.mem.length = lm at *
  generalize X.harts.length = lh at *
  clear d hU
  generalize hW : (w.alloc (.cells #[.slice a0 n0 c0, .slice a1 n1 c1, .slice a2 n2 c2, .slice a3 n3 c3, .slice am lm cm, .slice ah lh ch, .int .i64 X.slot, .int .i64 X.left, .int .i64 X.clock] 41)).alloc (.cells #[.int .i64 0, .int .i64 0] 46) = W
  have B0 : Hid (Below w.heap.size w W) := by show Below _ _ _; rw [← hW]; exact al (al (Below.refl _ _) _) _
  obtain ⟨s, hS⟩ : ∃ s, w.heap.size = s := ⟨_, rfl⟩
  have HSs : Hid (w.heap.size = s) := hS
  have Q : Hid (Vb W s #[.slice a0 n0 c0, .slice a1 n1 c1, .slice a2 n2 c2, .slice a3 n3 c3, .slice am lm cm, .slice ah lh ch, .int .i64 X.slot, .int .i64 X.left, .int .i64 X.clock] 41) := by show Vb _ _ _ _; rw [← hW, ← hS]; exact (Vb.new _ _ _).push _
  have R : Hid (Vb W (s + 1) #[.int .i64 0, .int .i64 0] 46) := by
    have z1 : s + 1 = (w.alloc (.cells #[.slice a0 n0 c0, .slice a1 n1 c1, .slice a2 n2 c2, .slice a3 n3 c3, .slice am lm cm, .slice ah lh ch, .int .i64 X.slot, .int .i64 X.left, .int .i64 X.clock] 41)).heap.size := by rw [← hS]; simp
    show Vb _ _ _ _; rw [← hW, z1]; exact Vb.new _ _ _
  have D : Hid (Oj W b a0 n0 c0 a1 n1 c1 a2 n2 c2 a3 n3 c3 (.slice am lm cm) (.slice ah lh ch) X) := D0.out.keep B0.out
  clear D0
  have fv := field_value
  go_enter Tryz.func10, Tryz.ntmps10
  go_wp2_with fail
  clear hW hS
  refine (s_fault12 _ _ _ _ _ _ _ _ _ _ _ _ _ _ _ X b _ D.out Q.out).mono ?_
  rintro e w1 ⟨rfl, b1⟩
  have B1 : Hid (Below W.heap.size W w1) := b1
  have R1 : Hid (Vb w1 (s + 1) #[.int .i64 0, .int .i64 0] 46) := R.out.keep b1
  clear b1
  by_cases hz : hoV X = 0
  case neg =>
    have HU2 : Hid ((hoV X, (0 : Int)) = U) := by show _ = _; rw [← HU.out, roR, if_neg hz]
    generalize hv : hoV X = v at *
    have E := HU2.out
    subst E
    have r0 := R1.out.cell 0 rfl
    have r1 := R1.out.cell 1 rfl
    have f0 := R1.out.free 0
    have f1 := R1.out.free 1
    go_wp2_with fail
    exact bodyPost_ret (v := .agg #[.int .i64 v, .int .i64 0]) (by simp [results, Tryz.results10, go_sem, r0, r1]) rfl ⟨rfl, ((on B0.out B1.out).setCell (by have := HSs.out; show w.heap.size ≤ s + 1; omega) _).setCell (by have := HSs.out; show w.heap.size ≤ s + 1; omega) _⟩
  obtain ⟨pz, ck⟩ := ho_ok hz
  have PZ : Hid (pfV X.pol = 0 ∧ 0 ≤ X.clock ∧ X.clock ≤ 1000000) := ⟨pz, ck⟩
  have HU2 : Hid ((0, (rdV X.pol.plan - X.clock % rdV X.pol.plan) % rdV X.pol.plan) = U) := by show _ = _; rw [← HU.out, roR, if_pos hz]
  rw [hz]
  clear hz pz ck
  have q0 := (Q.out.keep B1.out).cell 0 rfl
  have q1 := (Q.out.keep B1.out).cell 1 rfl
  have q2 := (Q.out.keep B1.out).cell 2 rfl
  have q3 := (Q.out.keep B1.out).cell 3 rfl
  go_wp2_with fail
  clear q0 q1 q2 q3
  refine (s_roundOf _ _ _ _ _ _ _ _ _ _ _ _ X.pol _ (D.out.pol.stay B1.out)).mono ?_
  rintro e w2 ⟨rfl, b2⟩
  have RV : rR X.pol = (0, rdV X.pol.plan) := by rw [rR, if_pos PZ.out.1]
  rw [RV]
  clear RV
  have RP := rd_pos X.pol PZ.out.1
  obtain ⟨rr, hrr⟩ : ∃ r, rdV X.pol.plan = r := ⟨_, rfl⟩
  rw [hrr] at RP HU2
  simp only
  rw [hrr]
  clear hrr
  have r1 := RP.1
  have r2 := RP.2
  have rne : ¬ rr = 0 := by omega
  have tm : X.clock.tmod rr = X.clock % rr := Int.tmod_eq_emod_of_nonneg PZ.out.2.1
  have m0 : 0 ≤ X.clock % rr := Int.emod_nonneg _ (by omega)
  have m1 : X.clock % rr < rr := Int.emod_lt_of_pos _ (by omega)
  obtain ⟨mm, hm⟩ : ∃ m, X.clock % rr = m := ⟨_, rfl⟩
  rw [hm] at tm m0 m1 HU2
  have tn : (rr - mm).tmod rr = (rr - mm) % rr := Int.tmod_eq_emod_of_nonneg (by omega)
  have n0' : 0 ≤ (rr - mm) % rr := Int.emod_nonneg _ (by omega)
  have n1' : (rr - mm) % rr < rr := Int.emod_lt_of_pos _ (by omega)
  obtain ⟨nn, hn⟩ : ∃ m, (rr - mm) % rr = m := ⟨_, rfl⟩
  rw [hn] at tn n0' n1' HU2
  have E := HU2.out
  subst E
  have R2 : Hid (Vb w2 (s + 1) #[.int .i64 0, .int .i64 0] 46) := R1.out.keep b2
  have B2 : Hid (Below w.heap.size w w2) := on B0.out (on B1.out b2)
  have q8 := (Q.out.keep (on B1.out b2)).cell 8 rfl
  have x0 := R2.out.cell 0 rfl
  have x1 := R2.out.cell 1 rfl
  have f0 := R2.out.free 0
  have f1 := R2.out.free 1
  clear hm hn RP b2
  go_wp2_with fail
  exact bodyPost_ret (v := .agg #[.int .i64 0, .int .i64 nn]) (by simp [results, Tryz.results10, go_sem, x0, x1]) rfl ⟨rfl, ((B2.out).setCell (by have := HSs.out; show w.heap.size ≤ s + 1; omega) _).setCell (by have := HSs.out; show w.heap.size ≤ s + 1; omega) _⟩
end Go.Proofs.YtbjeigeajjlphaaGreatDoor
