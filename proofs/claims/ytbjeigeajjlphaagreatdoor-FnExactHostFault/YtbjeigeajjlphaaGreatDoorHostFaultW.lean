/- The walk of a law. -/
import Derived.Test.YtbjeigeajjlphaaGreatDoorCards
import Derived.Test.YtbjeigeajjlphaaGreatDoorTie
import Derived.Deep.DeepHandedRow
import Derived.LaidHandle
import Derived.LaidLaws
import Derived.Lib.SmallJoins
import Derived.Deep.RegionWith
import Derived.Deep.RegionHeld3
import Derived.Test.YtbjeigeajjlphaaGreatDoorQ01
import Derived.Test.YtbjeigeajjlphaaGreatDoorQ21
import Derived.Test.YtbjeigeajjlphaaGreatDoorQ37
import Derived.Test.YtbjeigeajjlphaaGreatDoorQ43
import Derived.Test.YtbjeigeajjlphaaGreatDoorQ45
namespace Go.Proofs.YtbjeigeajjlphaaGreatDoor.fnExactHostFaultDone
open Go.ChangeShapes Go.WideShapes Go.ChangeAt Go.RowKit
open Go.ChangeMaps (open_string shut_string)
set_option linter.unusedVariables false

theorem od_oj {w : World} {base g0 g1 g2 g3 n0 n1 n2 n3 : Nat} {m h : Value} {X : Hst} (d : Od w base g0 g1 g2 g3 n0 n1 n2 n3 m h X) : Oj w base (some ⟨g0, 0, none⟩) n0 n0 (some ⟨g1, 0, none⟩) n1 n1 (some ⟨g2, 0, none⟩) n2 n2 (some ⟨g3, 0, none⟩) n3 n3 m h X :=
  ⟨d.pol.pl, d.mem, d.harts⟩
set_option maxRecDepth 20000 in
set_option maxHeartbeats 8000000 in
theorem walk (a0 a1 a2 a3 a4 a5 : Option Addr) (n0 c0 n1 c1 n2 c2 n3 c3 n4 c4 n5 c5 : Nat) (X : Hst) (w : World) (h : Oi w a0 n0 c0 a1 n1 c1 a2 n2 c2 a3 n3 c3 a4 n4 c4 a5 n5 c5 X) (hg : w.cell? ⟨0, 0, none⟩ = some (.iface 148 (.agg #[.pointer (some ⟨1, 92, none⟩)]))) :
    Calls Tryz.prog 3 #[.agg #[.slice a0 n0 c0, .slice a1 n1 c1, .slice a2 n2 c2, .slice a3 n3 c3, .slice a4 n4 c4, .slice a5 n5 c5, .int .i64 X.slot, .int .i64 X.left, .int .i64 X.clock]] w fun e w' => e = .returned (.bool true) ∧ Below w.heap.size w w' := by
  generalize hW : w.alloc (.cells #[.slice a0 n0 c0, .slice a1 n1 c1, .slice a2 n2 c2, .slice a3 n3 c3, .slice a4 n4 c4, .slice a5 n5 c5, .int .i64 X.slot, .int .i64 X.left, .int .i64 X.clock] 31) = W
  have B0 : Hid (Below w.heap.size w W) := by show Below _ _ _; rw [← hW]; exact al (Below.refl _ _) _
  obtain ⟨s, hS⟩ : ∃ s, w.heap.size = s := ⟨_, rfl⟩
  have Q : Hid (Vb W s #[.slice a0 n0 c0, .slice a1 n1 c1, .slice a2 n2 c2, .slice a3 n3 c3, .slice a4 n4 c4, .slice a5 n5 c5, .int .i64 X.slot, .int .i64 X.left, .int .i64 X.clock] 31) := by show Vb _ _ _ _; rw [← hW, ← hS]; exact Vb.new _ _ _
  have HP : Hid (Oi W a0 n0 c0 a1 n1 c1 a2 n2 c2 a3 n3 c3 a4 n4 c4 a5 n5 c5 X) := h.stay B0.out
  have HG : Hid (W.cell? ⟨0, 0, none⟩ = some (.iface 148 (.agg #[.pointer (some ⟨1, 92, none⟩)]))) := cell_keep B0.out hg
  clear h hg
  have q0 := Q.out.cell 0 rfl
  have q1 := Q.out.cell 1 rfl
  have q2 := Q.out.cell 2 rfl
  have q3 := Q.out.cell 3 rfl
  have q4 := Q.out.cell 4 rfl
  have q5 := Q.out.cell 5 rfl
  have q6 := Q.out.cell 6 rfl
  have q7 := Q.out.cell 7 rfl
  have q8 := Q.out.cell 8 rfl
  go_enter Tryz.func3, Tryz.ntmps3
  go_wp2_with fail
  clear hW hS
  refine (sz_host _ _ _ _ _ _ _ _ _ _ _ _ _ _ _ _ _ _ X _ HP.out).mono ?_
  rintro e w1 ⟨⟨r, rfl, hr, hs⟩, b1⟩
  by_cases hneg : r < 0
  · go_wp2_with fail
    go_ret
    exact ⟨rfl, on B0.out b1⟩
  have SM : Hid (Osm n0 n1 n2 n3 n4 n5 X) := hs (by omega)
  have B1 : Hid (Below _ W w1) := b1
  clear hs b1 q0 q1 q2 q3 q4 q5 q6 q7 q8
  have q0 := (Q.out.keep B1.out).cell 0 rfl
  have q1 := (Q.out.keep B1.out).cell 1 rfl
  have q2 := (Q.out.keep B1.out).cell 2 rfl
  have q3 := (Q.out.keep B1.out).cell 3 rfl
  have q4 := (Q.out.keep B1.out).cell 4 rfl
  have q5 := (Q.out.keep B1.out).cell 5 rfl
  have q6 := (Q.out.keep B1.out).cell 6 rfl
  have q7 := (Q.out.keep B1.out).cell 7 rfl
  have q8 := (Q.out.keep B1.out).cell 8 rfl
  go_wp2_with fail
  clear q0 q1 q2 q3 q4 q5 q6 q7 q8
  refine (to_host _ _ _ _ _ _ _ _ _ _ _ _ _ _ _ _ _ _ X _ (HP.out.stay B1.out) SM.out).mono ?_
  rintro e w2 ⟨g0, g1, g2, g3, g4, g5, rfl, m2, b2⟩
  have B2 : Hid (Below _ W w2) := on B1.out b2
  have M2 : Hid (Od w2 _ g0 g1 g2 g3 n0 n1 n2 n3 _ _ X) := m2
  clear m2 b2
  go_wp2_with fail
  refine (s_hostFault _ _ _ _ _ _ _ _ _ _ _ _ _ _ X _ _ (od_oj M2.out)).mono ?_
  rintro e w3 ⟨rfl, b3⟩
  obtain ⟨p1, hp1⟩ : ∃ p1, hoV X = p1 := ⟨_, rfl⟩
  rw [hp1]
  have HP1 : Hid (hoV X = p1) := hp1
  obtain ⟨W3, hW3⟩ : ∃ W3, w3 = W3 := ⟨_, rfl⟩
  subst hW3
  have B3 : Hid (Below _ W w3) := on B2.out b3
  have q0 := (Q.out.keep (on B2.out b3)).cell 0 rfl
  have q1 := (Q.out.keep (on B2.out b3)).cell 1 rfl
  have q2 := (Q.out.keep (on B2.out b3)).cell 2 rfl
  have q3 := (Q.out.keep (on B2.out b3)).cell 3 rfl
  have q4 := (Q.out.keep (on B2.out b3)).cell 4 rfl
  have q5 := (Q.out.keep (on B2.out b3)).cell 5 rfl
  have q6 := (Q.out.keep (on B2.out b3)).cell 6 rfl
  have q7 := (Q.out.keep (on B2.out b3)).cell 7 rfl
  have q8 := (Q.out.keep (on B2.out b3)).cell 8 rfl
  clear b3 M2 hp1
  go_wp2_with fail
  clear q0 q1 q2 q3 q4 q5 q6 q7 q8
  refine (to_host _ _ _ _ _ _ _ _ _ _ _ _ _ _ _ _ _ _ X _ (HP.out.stay B3.out) SM.out).mono ?_
  rintro e w4 ⟨k0, k1, k2, k3, k4, k5, rfl, m4, b4⟩
  have B4 : Hid (Below _ W (w4.alloc (.cells #[.slice (some ⟨k0, 0, none⟩) n0 n0, .slice (some ⟨k1, 0, none⟩) n1 n1, .slice (some ⟨k2, 0, none⟩) n2 n2, .slice (some ⟨k3, 0, none⟩) n3 n3, .slice (some ⟨k4, 0, none⟩) n4 n4, .slice (some ⟨k5, 0, none⟩) n5 n5, .int .i64 X.slot, .int .i64 X.left, .int .i64 X.clock] 41))) := al (on B3.out b4) _
  have M4 : Hid (Od (w4.alloc (.cells #[.slice (some ⟨k0, 0, none⟩) n0 n0, .slice (some ⟨k1, 0, none⟩) n1 n1, .slice (some ⟨k2, 0, none⟩) n2 n2, .slice (some ⟨k3, 0, none⟩) n3 n3, .slice (some ⟨k4, 0, none⟩) n4 n4, .slice (some ⟨k5, 0, none⟩) n5 n5, .int .i64 X.slot, .int .i64 X.left, .int .i64 X.clock] 41)) _ k0 k1 k2 k3 n0 n1 n2 n3 _ _ X) := m4.keep (al (Below.refl _ _) _)
  have XV : Hid (Vb (w4.alloc (.cells #[.slice (some ⟨k0, 0, none⟩) n0 n0, .slice (some ⟨k1, 0, none⟩) n1 n1, .slice (some ⟨k2, 0, none⟩) n2 n2, .slice (some ⟨k3, 0, none⟩) n3 n3, .slice (some ⟨k4, 0, none⟩) n4 n4, .slice (some ⟨k5, 0, none⟩) n5 n5, .int .i64 X.slot, .int .i64 X.left, .int .i64 X.clock] 41)) w4.heap.size #[.slice (some ⟨k0, 0, none⟩) n0 n0, .slice (some ⟨k1, 0, none⟩) n1 n1, .slice (some ⟨k2, 0, none⟩) n2 n2, .slice (some ⟨k3, 0, none⟩) n3 n3, .slice (some ⟨k4, 0, none⟩) n4 n4, .slice (some ⟨k5, 0, none⟩) n5 n5, .int .i64 X.slot, .int .i64 X.left, .int .i64 X.clock] 41) := Vb.new _ _ _
  clear m4 b4
  go_wp2_with fail
  generalize w4.alloc (.cells #[.slice (some ⟨k0, 0, none⟩) n0 n0, .slice (some ⟨k1, 0, none⟩) n1 n1, .slice (some ⟨k2, 0, none⟩) n2 n2, .slice (some ⟨k3, 0, none⟩) n3 n3, .slice (some ⟨k4, 0, none⟩) n4 n4, .slice (some ⟨k5, 0, none⟩) n5 n5, .int .i64 X.slot, .int .i64 X.left, .int .i64 X.clock] 41) = W4 at *
  generalize w4.heap.size = s4 at *
  refine (i_hostFault _ _ _ _ _ _ _ _ _ _ _ _ _ _ X _ _ (od_oj M4.out) (cell_keep B4.out HG.out)).mono ?_
  rintro e w5 ⟨rfl, b5⟩
  rw [HP1.out]
  have B6 : Hid (Below _ W w5) := on B4.out b5
  have D6 : Hid (Below _ W4 w5) := b5
  clear b5
  go_wp2_with fail
  refine wp_region_held (S := fun w' => Below w5.heap.size w5 w') (by kernel_rfl) ?_
  change wpAnyH _ _ _ _ _ _ _ _ (World.drew _)
  have SD : Hid (Below w5.heap.size w5 w5.drew) := (Below.refl _ _).drew
  generalize w5.drew = x0 at *
  refine wpAnyH_take (i := 0) (v := .agg #[.slice (some ⟨k0, 0, none⟩) n0 n0, .slice (some ⟨k1, 0, none⟩) n1 n1, .slice (some ⟨k2, 0, none⟩) n2 n2, .slice (some ⟨k3, 0, none⟩) n3 n3, .slice (some ⟨k4, 0, none⟩) n4 n4, .slice (some ⟨k5, 0, none⟩) n5 n5, .int .i64 X.slot, .int .i64 X.left, .int .i64 X.clock]) rfl (by kernel_rfl) (by kernel_rfl) (by kernel_rfl) (fun _ _ _ h => h) (Or.inl ⟨by rfl, fun w' hs => by have hq := (XV.out.keep D6.out).keep hs; have y0 := hq.cell 0 rfl; have y1 := hq.cell 1 rfl; have y2 := hq.cell 2 rfl; have y3 := hq.cell 3 rfl; have y4 := hq.cell 4 rfl; have y5 := hq.cell 5 rfl; have y6 := hq.cell 6 rfl; have y7 := hq.cell 7 rfl; have y8 := hq.cell 8 rfl; go_simp⟩) SD.out ?_
  change wpAnyH _ _ _ _ _ _ _ (Act.put _ (some 22) _) _
  simp only [Act.put, List.setIfInBounds_toArray, List.set_cons_zero, List.set_cons_succ]
  refine wpAnyH_take (i := 1) (v := .agg #[.slice a0 n0 c0, .slice a1 n1 c1, .slice a2 n2 c2, .slice a3 n3 c3, .slice a4 n4 c4, .slice a5 n5 c5, .int .i64 X.slot, .int .i64 X.left, .int .i64 X.clock]) rfl (by kernel_rfl) (by kernel_rfl) (by kernel_rfl) (fun _ _ _ h => h) (Or.inl ⟨by rfl, fun w' hs => by have hq := (Q.out.keep B6.out).keep hs; have y0 := hq.cell 0 rfl; have y1 := hq.cell 1 rfl; have y2 := hq.cell 2 rfl; have y3 := hq.cell 3 rfl; have y4 := hq.cell 4 rfl; have y5 := hq.cell 5 rfl; have y6 := hq.cell 6 rfl; have y7 := hq.cell 7 rfl; have y8 := hq.cell 8 rfl; go_simp⟩) SD.out ?_
  change wpAnyH _ _ _ _ _ _ _ (Act.put _ (some 23) _) _
  simp only [Act.put, List.setIfInBounds_toArray, List.set_cons_zero, List.set_cons_succ]
  refine wpAnyH_ready (rs := [2]) (by kernel_rfl) (by simp) ?_
  refine AllReadyH.cons rfl (fun K hK => ?_) AllReadyH.nil
  rw [if_pos (by rfl)]
  go_simp
  refine (to_host _ _ _ _ _ _ _ _ _ _ _ _ _ _ _ _ _ _ X _ ((HP.out.stay B6.out).stay SD.out) SM.out).mono ?_
  rintro e w7 ⟨j0, j1, j2, j3, j4, j5, rfl, m7, b7⟩
  have S7 : Hid (Below w5.heap.size w5 w7) := on SD.out b7
  have M7 : Hid (Od w7 _ j0 j1 j2 j3 n0 n1 n2 n3 _ _ X) := m7
  clear m7 b7
  refine hK.out _ _ S7.out (fun _ => ?_)
  clear hK K
  refine wpAnyH_ready (rs := [3]) (by kernel_rfl) (by simp) ?_
  refine AllReadyH.cons rfl (fun K hK => ?_) AllReadyH.nil
  rw [if_pos (by rfl)]
  go_simp
  refine (eq_host _ _ _ _ _ _ _ _ _ _ _ _ _ _ _ _ X _ _ _ ((M4.out.keep D6.out).keep S7.out) M7.out).mono ?_
  rintro e w8 ⟨rfl, b8⟩
  have S8 : Hid (Below w5.heap.size w5 w8) := on S7.out b8
  clear b8
  refine hK.out _ _ S8.out (fun _ => ?_)
  clear hK K
  refine wpAnyH_take (i := 4) (v := .bool false) rfl (by kernel_rfl) (by kernel_rfl) (by kernel_rfl) (fun _ _ _ h => h) (Or.inl ⟨by rfl, fun w' hs => by go_simp⟩) S8.out ?_
  change wpAnyH _ _ _ _ _ _ _ (Act.put _ (some 26) _) _
  simp only [Act.put, List.setIfInBounds_toArray, List.set_cons_zero, List.set_cons_succ]
  refine wpAnyH_done (by kernel_rfl) ?_ _
  go_wp2_with fail
  go_ret
  exact ⟨rfl, on B0.out (on B6.out S8.out)⟩
end Go.Proofs.YtbjeigeajjlphaaGreatDoor.fnExactHostFaultDone
