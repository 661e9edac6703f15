/- The walk of a law. -/
import Derived.Test.YtkaehdlgimodjaaGreatDoorCards
import Derived.Test.YtkaehdlgimodjaaGreatDoorTie
import Derived.Deep.DeepHandedRow
import Derived.LaidHandle
import Derived.LaidLaws
import Derived.Lib.LaidTab
import Derived.Stop.LaidErr
import Derived.Lib.SmallJoins
import Derived.Deep.RegionWith
import Derived.Deep.RegionHeld3
import Derived.Deep.Cut
import Derived.Deep.CutRange
import Derived.Test.YtkaehdlgimodjaaGreatDoorQ01
import Derived.Test.YtkaehdlgimodjaaGreatDoorQ20
import Derived.Test.YtkaehdlgimodjaaGreatDoorQ29
import Derived.Test.YtkaehdlgimodjaaGreatDoorQ41
import Derived.Test.YtkaehdlgimodjaaGreatDoorQ50
namespace Go.Proofs.YtkaehdlgimodjaaGreatDoor.fnExactHostTextDone
open Go.ChangeShapes Go.WideShapes Go.ChangeAt Go.RowKit
open Go.ChangeMaps (open_string shut_string)
set_option linter.unusedVariables false

theorem od_oj {w : World} {base g0 g1 g2 g3 n0 n1 n2 n3 : Nat} {m h : Value} {X : Hst} (d : Od w base g0 g1 g2 g3 n0 n1 n2 n3 m h X) : Oj w base (some ⟨g0, 0, none⟩) n0 n0 (some ⟨g1, 0, none⟩) n1 n1 (some ⟨g2, 0, none⟩) n2 n2 (some ⟨g3, 0, none⟩) n3 n3 m h X :=
  ⟨d.pol.pl, d.mem, d.harts⟩
set_option maxRecDepth 20000 in
set_option maxHeartbeats 8000000 in
theorem walk (a0 a1 a2 a3 a4 a5 : Option Addr) (n0 c0 n1 c1 n2 c2 n3 c3 n4 c4 n5 c5 : Nat) (X : Hst) (w : World) (h : Oi w a0 n0 c0 a1 n1 c1 a2 n2 c2 a3 n3 c3 a4 n4 c4 a5 n5 c5 X) (hg : w.cell? ⟨0, 0, none⟩ = some (.iface 173 (.agg #[.pointer (some ⟨4, 68, none⟩)]))) (ht : Lib.TabIs Tryz.prog w "internal/strconv.uint64pow10" .u64 Lib.pow10Tab) :
    Calls Tryz.prog 3 #[.agg #[.slice a0 n0 c0, .slice a1 n1 c1, .slice a2 n2 c2, .slice a3 n3 c3, .slice a4 n4 c4, .slice a5 n5 c5, .int .i64 X.slot, .int .i64 X.left, .int .i64 X.clock]] w fun e w' => e = .returned (.bool true) ∧ Below w.heap.size w w' := by
  generalize hW : w.alloc (.cells #[.slice a0 n0 c0, .slice a1 n1 c1, .slice a2 n2 c2, .slice a3 n3 c3, .slice a4 n4 c4, .slice a5 n5 c5, .int .i64 X.slot, .int .i64 X.left, .int .i64 X.clock] 31) = W
  have B0 : Hid (Below w.heap.size w W) := by show Below _ _ _; rw [← hW]; exact al (Below.refl _ _) _
  obtain ⟨s, hS⟩ : ∃ s, w.heap.size = s := ⟨_, rfl⟩
  have Q : Hid (Vb W s #[.slice a0 n0 c0, .slice a1 n1 c1, .slice a2 n2 c2, .slice a3 n3 c3, .slice a4 n4 c4, .slice a5 n5 c5, .int .i64 X.slot, .int .i64 X.left, .int .i64 X.clock] 31) := by show Vb _ _ _ _; rw [← hW, ← hS]; exact Vb.new _ _ _
  have HP : Hid (Oi W a0 n0 c0 a1 n1 c1 a2 n2 c2 a3 n3 c3 a4 n4 c4 a5 n5 c5 X) := h.stay B0.out
  have HG : Hid (W.cell? ⟨0, 0, none⟩ = some (.iface 173 (.agg #[.pointer (some ⟨4, 68, none⟩)]))) := cell_keep B0.out hg
  have HTB : Hid (Lib.TabIs Tryz.prog W "internal/strconv.uint64pow10" .u64 Lib.pow10Tab) := Lib.tabBelow_of_tabIs ht _ B0.out
  clear h hg ht
  have q0 := Q.out.cell 0 rfl
  have q1 := Q.out.cell 1 rfl
  have q2 := Q.out.cell 2 rfl
  have q3 := Q.out.cell 3 rfl
  have q4 := Q.out.cell 4 rfl
  have q5 := Q.out.cell 5 rfl
  have q6 := Q.out.cell 6 rfl
  have q7 := Q.out.cell 7 rfl
  have q8 := Q.out.cell 8 rfl
  go_enter Tryz.func3, Tryz.ntmps3
  go_wp2_with fail
  clear hW hS
  refine (sz_host _ _ _ _ _ _ _ _ _ _ _ _ _ _ _ _ _ _ X _ HP.out).mono ?_
  rintro e w1 ⟨⟨r, rfl, hr, hs⟩, b1⟩
  by_cases hneg : r < 0
  · go_wp2_with fail
    go_ret
    exact ⟨rfl, on B0.out b1⟩
  have SM : Hid (Osm n0 n1 n2 n3 n4 n5 X) := hs (by omega)
  have B1 : Hid (Below _ W w1) := b1
  clear hs b1 q0 q1 q2 q3 q4 q5 q6 q7 q8
  have q0 := (Q.out.keep B1.out).cell 0 rfl
  have q1 := (Q.out.keep B1.out).cell 1 rfl
  have q2 := (Q.out.keep B1.out).cell 2 rfl
  have q3 := (Q.out.keep B1.out).cell 3 rfl
  have q4 := (Q.out.keep B1.out).cell 4 rfl
  have q5 := (Q.out.keep B1.out).cell 5 rfl
  have q6 := (Q.out.keep B1.out).cell 6 rfl
  have q7 := (Q.out.keep B1.out).cell 7 rfl
  have q8 := (Q.out.keep B1.out).cell 8 rfl
  go_wp2_with fail
  clear q0 q1 q2 q3 q4 q5 q6 q7 q8
  refine (to_host _ _ _ _ _ _ _ _ _ _ _ _ _ _ _ _ _ _ X _ (HP.out.stay B1.out) SM.out).mono ?_
  rintro e w2 ⟨g0, g1, g2, g3, g4, g5, rfl, m2, b2⟩
  have B2 : Hid (Below _ W w2) := on B1.out b2
  have M2 : Hid (Od w2 _ g0 g1 g2 g3 n0 n1 n2 n3 _ _ X) := m2
  clear m2 b2
  go_wp2_with fail
  refine (s_hostText _ _ _ _ _ _ _ _ _ _ _ _ _ _ X _ _ (od_oj M2.out)).mono ?_
  rintro e w3 ⟨rfl, b3⟩
  obtain ⟨p1, hp1⟩ : ∃ p1, (htR X).1 = p1 := ⟨_, rfl⟩
  obtain ⟨p2, hp2⟩ : ∃ p2, bs (htR X).2 = p2 := ⟨_, rfl⟩
  rw [hp1, hp2]
  have HP1 : Hid ((htR X).1 = p1 ∧ bs (htR X).2 = p2) := ⟨hp1, hp2⟩
  have B3 : Hid (Below _ W (w3.alloc (.cells #[.int .i64 p1, .string p2] 34))) := al (on B2.out b3) _
  have Y3 : Hid (Vb (w3.alloc (.cells #[.int .i64 p1, .string p2] 34)) w3.heap.size #[.int .i64 p1, .string p2] 34) := Vb.new _ _ _
  have q0 := (Q.out.keep B3.out).cell 0 rfl
  have q1 := (Q.out.keep B3.out).cell 1 rfl
  have q2 := (Q.out.keep B3.out).cell 2 rfl
  have q3 := (Q.out.keep B3.out).cell 3 rfl
  have q4 := (Q.out.keep B3.out).cell 4 rfl
  have q5 := (Q.out.keep B3.out).cell 5 rfl
  have q6 := (Q.out.keep B3.out).cell 6 rfl
  have q7 := (Q.out.keep B3.out).cell 7 rfl
  have q8 := (Q.out.keep B3.out).cell 8 rfl
  clear b3 M2 hp1 hp2
  go_wp2_with fail
  clear q0 q1 q2 q3 q4 q5 q6 q7 q8
  generalize w3.alloc (.cells #[.int .i64 p1, .string p2] 34) = W3 at *
  generalize w3.heap.size = s3 at *
  refine (to_host _ _ _ _ _ _ _ _ _ _ _ _ _ _ _ _ _ _ X _ (HP.out.stay B3.out) SM.out).mono ?_
  rintro e w4 ⟨k0, k1, k2, k3, k4, k5, rfl, m4, b4⟩
  have B4 : Hid (Below _ W (w4.alloc (.cells #[.slice (some ⟨k0, 0, none⟩) n0 n0, .slice (some ⟨k1, 0, none⟩) n1 n1, .slice (some ⟨k2, 0, none⟩) n2 n2, .slice (some ⟨k3, 0, none⟩) n3 n3, .slice (some ⟨k4, 0, none⟩) n4 n4, .slice (some ⟨k5, 0, none⟩) n5 n5, .int .i64 X.slot, .int .i64 X.left, .int .i64 X.clock] 43))) := al (on B3.out b4) _
  have M4 : Hid (Od (w4.alloc (.cells #[.slice (some ⟨k0, 0, none⟩) n0 n0, .slice (some ⟨k1, 0, none⟩) n1 n1, .slice (some ⟨k2, 0, none⟩) n2 n2, .slice (some ⟨k3, 0, none⟩) n3 n3, .slice (some ⟨k4, 0, none⟩) n4 n4, .slice (some ⟨k5, 0, none⟩) n5 n5, .int .i64 X.slot, .int .i64 X.left, .int .i64 X.clock] 43)) _ k0 k1 k2 k3 n0 n1 n2 n3 _ _ X) := m4.keep (al (Below.refl _ _) _)
  have XV : Hid (Vb (w4.alloc (.cells #[.slice (some ⟨k0, 0, none⟩) n0 n0, .slice (some ⟨k1, 0, none⟩) n1 n1, .slice (some ⟨k2, 0, none⟩) n2 n2, .slice (some ⟨k3, 0, none⟩) n3 n3, .slice (some ⟨k4, 0, none⟩) n4 n4, .slice (some ⟨k5, 0, none⟩) n5 n5, .int .i64 X.slot, .int .i64 X.left, .int .i64 X.clock] 43)) w4.heap.size #[.slice (some ⟨k0, 0, none⟩) n0 n0, .slice (some ⟨k1, 0, none⟩) n1 n1, .slice (some ⟨k2, 0, none⟩) n2 n2, .slice (some ⟨k3, 0, none⟩) n3 n3, .slice (some ⟨k4, 0, none⟩) n4 n4, .slice (some ⟨k5, 0, none⟩) n5 n5, .int .i64 X.slot, .int .i64 X.left, .int .i64 X.clock] 43) := Vb.new _ _ _
  have E4 : Hid (Below W3.heap.size W3 (w4.alloc (.cells #[.slice (some ⟨k0, 0, none⟩) n0 n0, .slice (some ⟨k1, 0, none⟩) n1 n1, .slice (some ⟨k2, 0, none⟩) n2 n2, .slice (some ⟨k3, 0, none⟩) n3 n3, .slice (some ⟨k4, 0, none⟩) n4 n4, .slice (some ⟨k5, 0, none⟩) n5 n5, .int .i64 X.slot, .int .i64 X.left, .int .i64 X.clock] 43))) := al b4 _
  clear m4 b4
  go_wp2_with fail
  generalize w4.alloc (.cells #[.slice (some ⟨k0, 0, none⟩) n0 n0, .slice (some ⟨k1, 0, none⟩) n1 n1, .slice (some ⟨k2, 0, none⟩) n2 n2, .slice (some ⟨k3, 0, none⟩) n3 n3, .slice (some ⟨k4, 0, none⟩) n4 n4, .slice (some ⟨k5, 0, none⟩) n5 n5, .int .i64 X.slot, .int .i64 X.left, .int .i64 X.clock] 43) = W4 at *
  generalize w4.heap.size = s4 at *
  have x0 := XV.out.cell 0 rfl
  have x1 := XV.out.cell 1 rfl
  have x2 := XV.out.cell 2 rfl
  have x3 := XV.out.cell 3 rfl
  have x4 := XV.out.cell 4 rfl
  have x5 := XV.out.cell 5 rfl
  have x6 := XV.out.cell 6 rfl
  have x7 := XV.out.cell 7 rfl
  have x8 := XV.out.cell 8 rfl
  go_wp2_with fail
  clear x0 x1 x2 x3 x4 x5 x6 x7 x8
  refine (i_hostText _ _ _ _ _ _ _ _ _ _ _ _ _ _ X _ _ (od_oj M4.out) (cell_keep B4.out HG.out) (Lib.tabBelow_of_tabIs HTB.out _ B4.out)).mono ?_
  rintro e w9 ⟨rfl, b5⟩
  rw [HP1.out.1, HP1.out.2]
  have B5 : Hid (Below _ W (w9.alloc (.cells #[.int .i64 p1, .string p2] 34))) := al (on B4.out b5) _
  have D5 : Hid (Below _ W4 (w9.alloc (.cells #[.int .i64 p1, .string p2] 34))) := al b5 _
  have y5 := (Y3.out.keep E4.out).keep b5
  have ly : s3 < w9.heap.size := y5.lt
  have y0 := y5.cell 0 rfl
  have y1 := y5.cell 1 rfl
  clear b5 y5
  go_wp2_with fail
  generalize (w9.alloc (.cells #[.int .i64 p1, .string p2] 34)) = W5 at *
  clear y0 y1 ly
  refine (eq_textH _ _ _).mono ?_
  rintro e w5 ⟨rfl, b6⟩
  have B6 : Hid (Below _ W w5) := on B5.out b6
  have D6 : Hid (Below _ W4 w5) := on D5.out b6
  clear b6
  go_upto_region 10 with fail
  refine wp_region_held (S := fun w' => Below w5.heap.size w5 w') (by kernel_rfl) ?_
  change wpAnyH _ _ _ _ _ _ _ _ (World.drew _)
  have SD : Hid (Below w5.heap.size w5 w5.drew) := (Below.refl _ _).drew
  generalize w5.drew = x0 at *
  refine wpAnyH_take (i := 0) (v := .agg #[.slice (some ⟨k0, 0, none⟩) n0 n0, .slice (some ⟨k1, 0, none⟩) n1 n1, .slice (some ⟨k2, 0, none⟩) n2 n2, .slice (some ⟨k3, 0, none⟩) n3 n3, .slice (some ⟨k4, 0, none⟩) n4 n4, .slice (some ⟨k5, 0, none⟩) n5 n5, .int .i64 X.slot, .int .i64 X.left, .int .i64 X.clock]) rfl (by kernel_rfl) (by kernel_rfl) (by kernel_rfl) (fun _ _ _ h => h) (Or.inl ⟨by rfl, fun w' hs => by have hq := (XV.out.keep D6.out).keep hs; have y0 := hq.cell 0 rfl; have y1 := hq.cell 1 rfl; have y2 := hq.cell 2 rfl; have y3 := hq.cell 3 rfl; have y4 := hq.cell 4 rfl; have y5 := hq.cell 5 rfl; have y6 := hq.cell 6 rfl; have y7 := hq.cell 7 rfl; have y8 := hq.cell 8 rfl; go_simp⟩) SD.out ?_
  change wpAnyH _ _ _ _ _ _ _ (Act.put _ (some 23) _) _
  simp only [Act.put, List.setIfInBounds_toArray, List.set_cons_zero, List.set_cons_succ]
  refine wpAnyH_take (i := 1) (v := .agg #[.slice a0 n0 c0, .slice a1 n1 c1, .slice a2 n2 c2, .slice a3 n3 c3, .slice a4 n4 c4, .slice a5 n5 c5, .int .i64 X.slot, .int .i64 X.left, .int .i64 X.clock]) rfl (by kernel_rfl) (by kernel_rfl) (by kernel_rfl) (fun _ _ _ h => h) (Or.inl ⟨by rfl, fun w' hs => by have hq := (Q.out.keep B6.out).keep hs; have y0 := hq.cell 0 rfl; have y1 := hq.cell 1 rfl; have y2 := hq.cell 2 rfl; have y3 := hq.cell 3 rfl; have y4 := hq.cell 4 rfl; have y5 := hq.cell 5 rfl; have y6 := hq.cell 6 rfl; have y7 := hq.cell 7 rfl; have y8 := hq.cell 8 rfl; go_simp⟩) SD.out ?_
  change wpAnyH _ _ _ _ _ _ _ (Act.put _ (some 24) _) _
  simp only [Act.put, List.setIfInBounds_toArray, List.set_cons_zero, List.set_cons_succ]
  refine wpAnyH_ready (rs := [2]) (by kernel_rfl) (by simp) ?_
  refine AllReadyH.cons rfl (fun K hK => ?_) AllReadyH.nil
  rw [if_pos (by rfl)]
  go_simp
  refine (to_host _ _ _ _ _ _ _ _ _ _ _ _ _ _ _ _ _ _ X _ ((HP.out.stay B6.out).stay SD.out) SM.out).mono ?_
  rintro e w7 ⟨j0, j1, j2, j3, j4, j5, rfl, m7, b7⟩
  have S7 : Hid (Below w5.heap.size w5 w7) := on SD.out b7
  have M7 : Hid (Od w7 _ j0 j1 j2 j3 n0 n1 n2 n3 _ _ X) := m7
  clear m7 b7
  refine hK.out _ _ S7.out (fun _ => ?_)
  clear hK K
  refine wpAnyH_ready (rs := [3]) (by kernel_rfl) (by simp) ?_
  refine AllReadyH.cons rfl (fun K hK => ?_) AllReadyH.nil
  rw [if_pos (by rfl)]
  go_simp
  refine (eq_host _ _ _ _ _ _ _ _ _ _ _ _ _ _ _ _ X _ _ _ ((M4.out.keep D6.out).keep S7.out) M7.out).mono ?_
  rintro e w8 ⟨rfl, b8⟩
  have S8 : Hid (Below w5.heap.size w5 w8) := on S7.out b8
  clear b8
  refine hK.out _ _ S8.out (fun _ => ?_)
  clear hK K
  refine wpAnyH_take (i := 4) (v := .bool false) rfl (by kernel_rfl) (by kernel_rfl) (by kernel_rfl) (fun _ _ _ h => h) (Or.inl ⟨by rfl, fun w' hs => by go_simp⟩) S8.out ?_
  change wpAnyH _ _ _ _ _ _ _ (Act.put _ (some 27) _) _
  simp only [Act.put, List.setIfInBounds_toArray, List.set_cons_zero, List.set_cons_succ]
  refine wpAnyH_done (by kernel_rfl) ?_ _
  go_wp2_with fail
  go_ret
  exact ⟨rfl, on B0.out (on B6.out S8.out)⟩
end Go.Proofs.YtkaehdlgimodjaaGreatDoor.fnExactHostTextDone
