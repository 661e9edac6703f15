/- Texts of this seat, joined. -/
import Derived.Test.YtkaehdlgimodjaaGreatDoorQ39
namespace Go.Proofs.YtkaehdlgimodjaaGreatDoor
open Go.RowKit
set_option linter.unusedVariables false

set_option maxRecDepth 20000 in
set_option maxHeartbeats 4000000 in
theorem eq_host (g0 g1 g2 g3 k0 k1 k2 k3 n0 n1 n2 n3 : Nat) (m h m' h' : Value) (X : Hst) (b b' : Nat) (w : World) (d : Od w b g0 g1 g2 g3 n0 n1 n2 n3 m h X) (d' : Od w b' k0 k1 k2 k3 n0 n1 n2 n3 m' h' X) :
    Calls Tryz.prog 9 #[.agg #[.slice (some ⟨g0, 0, none⟩) n0 n0, .slice (some ⟨g1, 0, none⟩) n1 n1, .slice (some ⟨g2, 0, none⟩) n2 n2, .slice (some ⟨g3, 0, none⟩) n3 n3, m, h, .int .i64 X.slot, .int .i64 X.left, .int .i64 X.clock], .agg #[.slice (some ⟨k0, 0, none⟩) n0 n0, .slice (some ⟨k1, 0, none⟩) n1 n1, .slice (some ⟨k2, 0, none⟩) n2 n2, .slice (some ⟨k3, 0, none⟩) n3 n3, m', h', .int .i64 X.slot, .int .i64 X.left, .int .i64 X.clock]] w fun e w' => e = .returned (.bool true) ∧ Below w.heap.size w w' := by
  obtain ⟨am, cm, rfl, _⟩ := d.mem.shape
  obtain ⟨am', cm', rfl, _⟩ := d'.mem.shape
  obtain ⟨ah, ch, rfl, _⟩ := d.harts.shape
  obtain ⟨ah', ch', rfl, _⟩ := d'.harts.shape
  have D : Hid (Od w b g0 g1 g2 g3 n0 n1 n2 n3 _ _ X) := d
  have D' : Hid (Od w b' k0 k1 k2 k3 n0 n1 n2 n3 _ _ X) := d'
  generalize X.mem.length = lm at *
  generalize X.harts.length = lh at *
  clear d d'
  generalize hW : (w.alloc (.cells #[.slice (some ⟨g0, 0, none⟩) n0 n0, .slice (some ⟨g1, 0, none⟩) n1 n1, .slice (some ⟨g2, 0, none⟩) n2 n2, .slice (some ⟨g3, 0, none⟩) n3 n3, .slice am lm cm, .slice ah lh ch, .int .i64 X.slot, .int .i64 X.left, .int .i64 X.clock] 43)).alloc (.cells #[.slice (some ⟨k0, 0, none⟩) n0 n0, .slice (some ⟨k1, 0, none⟩) n1 n1, .slice (some ⟨k2, 0, none⟩) n2 n2, .slice (some ⟨k3, 0, none⟩) n3 n3, .slice am' lm cm', .slice ah' lh ch', .int .i64 X.slot, .int .i64 X.left, .int .i64 X.clock] 43) = W
  have B0 : Hid (Below w.heap.size w W) := by show Below _ _ _; rw [← hW]; exact al (al (Below.refl _ _) _) _
  obtain ⟨s, hS⟩ : ∃ s, w.heap.size = s := ⟨_, rfl⟩
  have Q : Hid (Vb W s #[.slice (some ⟨g0, 0, none⟩) n0 n0, .slice (some ⟨g1, 0, none⟩) n1 n1, .slice (some ⟨g2, 0, none⟩) n2 n2, .slice (some ⟨g3, 0, none⟩) n3 n3, .slice am lm cm, .slice ah lh ch, .int .i64 X.slot, .int .i64 X.left, .int .i64 X.clock] 43) := by show Vb _ _ _ _; rw [← hW, ← hS]; exact (Vb.new _ _ _).push _
  have R : Hid (Vb W (s + 1) #[.slice (some ⟨k0, 0, none⟩) n0 n0, .slice (some ⟨k1, 0, none⟩) n1 n1, .slice (some ⟨k2, 0, none⟩) n2 n2, .slice (some ⟨k3, 0, none⟩) n3 n3, .slice am' lm cm', .slice ah' lh ch', .int .i64 X.slot, .int .i64 X.left, .int .i64 X.clock] 43) := by
    have z1 : s + 1 = (w.alloc (.cells #[.slice (some ⟨g0, 0, none⟩) n0 n0, .slice (some ⟨g1, 0, none⟩) n1 n1, .slice (some ⟨g2, 0, none⟩) n2 n2, .slice (some ⟨g3, 0, none⟩) n3 n3, .slice am lm cm, .slice ah lh ch, .int .i64 X.slot, .int .i64 X.left, .int .i64 X.clock] 43)).heap.size := by rw [← hS]; simp
    show Vb _ _ _ _; rw [← hW, z1]; exact Vb.new _ _ _
  have q0 := Q.out.cell 0 rfl
  have q1 := Q.out.cell 1 rfl
  have q2 := Q.out.cell 2 rfl
  have q3 := Q.out.cell 3 rfl
  have r0 := R.out.cell 0 rfl
  have r1 := R.out.cell 1 rfl
  have r2 := R.out.cell 2 rfl
  have r3 := R.out.cell 3 rfl
  go_enter Tryz.func9, Tryz.ntmps9
  go_wp2_with fail
  clear hW hS q0 r0 q1 r1 q2 r2 q3 r3
  refine (eq_policy _ _ _ _ _ _ _ _ _ _ _ _ X.pol _ _ _ (D.out.pol.keep B0.out) (D'.out.pol.keep B0.out)).mono ?_
  rintro e w1 ⟨rfl, b1⟩
  have B1 : Hid (Below W.heap.size W w1) := b1
  have q4 := (Q.out.keep b1).cell 4 rfl
  have r4 := (R.out.keep b1).cell 4 rfl
  clear b1
  go_wp2_with fail
  clear q4 r4
  refine (eq_nums _ _ X.mem _ _ _ ((D.out.mem.keep B0.out).keep B1.out) ((D'.out.mem.keep B0.out).keep B1.out)).mono ?_
  rintro e w2 ⟨rfl, b2⟩
  have B2 : Hid (Below W.heap.size W w2) := on B1.out b2
  have q5 := (Q.out.keep B2.out).cell 5 rfl
  have r5 := (R.out.keep B2.out).cell 5 rfl
  clear b2
  go_wp2_with fail
  clear q5 r5
  refine (eq_harts _ _ X.harts _ _ _ ((D.out.harts.keep B0.out).keep B2.out) ((D'.out.harts.keep B0.out).keep B2.out)).mono ?_
  rintro e w3 ⟨rfl, b3⟩
  have B3 : Hid (Below W.heap.size W w3) := on B2.out b3
  clear b3
  have q6 := (Q.out.keep B3.out).cell 6 rfl
  have q7 := (Q.out.keep B3.out).cell 7 rfl
  have q8 := (Q.out.keep B3.out).cell 8 rfl
  have r6 := (R.out.keep B3.out).cell 6 rfl
  have r7 := (R.out.keep B3.out).cell 7 rfl
  have r8 := (R.out.keep B3.out).cell 8 rfl
  go_wp2_with fail
  go_ret
  exact ⟨rfl, on B0.out B3.out⟩
end Go.Proofs.YtkaehdlgimodjaaGreatDoor
