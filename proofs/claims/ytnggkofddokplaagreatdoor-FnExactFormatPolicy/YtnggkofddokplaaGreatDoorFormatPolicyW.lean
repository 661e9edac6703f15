/- The walk of a law. -/
import Derived.Test.YtnggkofddokplaaGreatDoorBase
import Derived.Test.YtnggkofddokplaaGreatDoorCards
import Derived.Test.YtnggkofddokplaaGreatDoorTie
import Derived.Deep.DeepHandedRow
import Derived.LaidHandle
import Derived.LaidLaws
import Derived.Lib.LaidTab
import Derived.Stop.LaidErr
import Derived.OpenVars
import Derived.Test.YtnggkofddokplaaGreatDoorPoo
import Derived.Test.YtnggkofddokplaaGreatDoorPlt
import Derived.Lib.SmallJoins
import Derived.Test.YtnggkofddokplaaGreatDoorFms
import Derived.Test.YtnggkofddokplaaGreatDoorFmi
import Derived.Test.YtnggkofddokplaaGreatDoorFmf
import Derived.Test.YtnggkofddokplaaGreatDoorPlt
import Derived.Test.YtnggkofddokplaaGreatDoorPoo
import Derived.Deep.RegionWith
import Derived.Deep.RegionHeld3
import Derived.Deep.Cut
import Derived.Deep.CutRange
namespace Go.Proofs.YtnggkofddokplaaGreatDoor.fnExactFormatPolicyDone
open Go.ChangeShapes Go.WideShapes Go.ChangeAt Go.RowKit
open Go.ChangeMaps (open_string shut_string)
set_option linter.unusedVariables false

set_option maxRecDepth 20000 in
set_option maxHeartbeats 4000000 in
theorem walk (a0 a1 a2 a3 : Option Addr) (n0 c0 n1 c1 n2 c2 n3 c3 : Nat) (P : Plc) (w : World) (h : Pin w a0 n0 c0 a1 n1 c1 a2 n2 c2 a3 n3 c3 P) (hg : w.cell? ⟨1, 0, none⟩ = some (.iface 129 (.agg #[.pointer (some ⟨5, 59, none⟩)]))) (ht : Lib.TabIs Tryz.prog w "internal/strconv.uint64pow10" .u64 Lib.pow10Tab) (hlf : w.cell? ⟨0, 0, none⟩ = some (.string (bs wdOwn)) ∧ w.cell? ⟨0, 3, none⟩ = some (.string (bs wdLane)) ∧ w.cell? ⟨0, 6, none⟩ = some (.string (bs wdBell)) ∧ w.cell? ⟨0, 9, none⟩ = some (.string (bs wdSlot))) :
    Calls Tryz.prog 3 #[.agg #[.slice a0 n0 c0, .slice a1 n1 c1, .slice a2 n2 c2, .slice a3 n3 c3]] w fun e w' => e = .returned (.bool true) ∧ Below w.heap.size w w' := by
  generalize hW : w.alloc (.cells #[.slice a0 n0 c0, .slice a1 n1 c1, .slice a2 n2 c2, .slice a3 n3 c3] 27) = W
  have B0 : Hid (Below w.heap.size w W) := by show Below _ _ _; rw [← hW]; exact al (Below.refl _ _) _
  obtain ⟨s, hS⟩ : ∃ s, w.heap.size = s := ⟨_, rfl⟩
  have Q : Hid (W.cell? ⟨s, 0, none⟩ = some (.slice a0 n0 c0) ∧ W.cell? ⟨s, 1, none⟩ = some (.slice a1 n1 c1) ∧ W.cell? ⟨s, 2, none⟩ = some (.slice a2 n2 c2) ∧ W.cell? ⟨s, 3, none⟩ = some (.slice a3 n3 c3)) := by
    show _ ∧ _
    rw [← hW, ← hS]
    exact ⟨cell_new rfl, cell_new rfl, cell_new rfl, cell_new rfl⟩
  have HP : Hid (Pin W a0 n0 c0 a1 n1 c1 a2 n2 c2 a3 n3 c3 P) := h.stay B0.out
  have HG : Hid (W.cell? ⟨1, 0, none⟩ = some (.iface 129 (.agg #[.pointer (some ⟨5, 59, none⟩)]))) := cell_keep B0.out hg
  have HT : Hid (Lib.TabIs Tryz.prog W "internal/strconv.uint64pow10" .u64 Lib.pow10Tab) := Lib.tabBelow_of_tabIs ht _ B0.out
  have LF : Hid (W.cell? ⟨0, 0, none⟩ = some (.string (bs wdOwn)) ∧ W.cell? ⟨0, 3, none⟩ = some (.string (bs wdLane)) ∧ W.cell? ⟨0, 6, none⟩ = some (.string (bs wdBell)) ∧ W.cell? ⟨0, 9, none⟩ = some (.string (bs wdSlot))) := ⟨cell_keep B0.out hlf.1, cell_keep B0.out hlf.2.1, cell_keep B0.out hlf.2.2.1, cell_keep B0.out hlf.2.2.2⟩
  clear h hg ht hlf
  have q0 := Q.out.1
  have q1 := Q.out.2.1
  have q2 := Q.out.2.2.1
  have q3 := Q.out.2.2.2
  go_enter Tryz.func3, Tryz.ntmps3
  go_wp2_with fail
  clear hW hS
  refine (sz_policy _ _ _ _ _ _ _ _ _ _ _ _ P _ HP.out).mono ?_
  rintro e w1 ⟨⟨r, rfl, hr, hs⟩, b1⟩
  by_cases hneg : r < 0
  · go_wp2_with fail
    go_ret
    exact ⟨rfl, on B0.out b1⟩
  have SM : Hid (Small n0 n1 n2 n3 P) := hs (by omega)
  have q0 := cell_keep b1 Q.out.1
  have q1 := cell_keep b1 Q.out.2.1
  have q2 := cell_keep b1 Q.out.2.2.1
  have q3 := cell_keep b1 Q.out.2.2.2
  have B1 : Hid (Below _ W w1) := b1
  clear hs b1
  go_wp2_with fail
  refine (to_policy _ _ _ _ _ _ _ _ _ _ _ _ P _ (HP.out.stay B1.out) SM.out).mono ?_
  rintro e w2 ⟨g0, g1, g2, g3, rfl, m2, b2⟩
  have B2 : Hid (Below _ W w2) := on B1.out b2
  have M2 : Hid (Mde w2 _ _ _ _ _ _ _ _ _ P) := m2
  clear m2 b2
  go_wp2_with fail
  refine (s_formatP _ _ _ _ _ _ _ _ _ _ _ _ P _ M2.out.pl).mono ?_
  rintro e w3 ⟨rfl, b3⟩
  obtain ⟨p1, hp1⟩ : ∃ p1, (fmR P).1 = p1 := ⟨_, rfl⟩
  obtain ⟨p2, hp2⟩ : ∃ p2, bs (fmR P).2 = p2 := ⟨_, rfl⟩
  rw [hp1, hp2]
  have HP1 : Hid ((fmR P).1 = p1) := hp1
  have HP2 : Hid (bs (fmR P).2 = p2) := hp2
  have B3 : Hid (Below _ W (w3.alloc (.cells #[.int .i64 p1, .string p2] 30))) := al (on B2.out b3) _
  have Y : Hid ((w3.alloc (.cells #[.int .i64 p1, .string p2] 30)).cell? ⟨w3.heap.size, 0, none⟩ = some (.int .i64 p1) ∧ (w3.alloc (.cells #[.int .i64 p1, .string p2] 30)).cell? ⟨w3.heap.size, 1, none⟩ = some (.string p2)) := ⟨cell_new rfl, cell_new rfl⟩
  have q0 := cell_keep (on B2.out b3) Q.out.1
  have q1 := cell_keep (on B2.out b3) Q.out.2.1
  have q2 := cell_keep (on B2.out b3) Q.out.2.2.1
  have q3 := cell_keep (on B2.out b3) Q.out.2.2.2
  have lt3 : s < w3.heap.size := block_of_cell q0
  clear b3 M2 hp1 hp2
  go_wp2_with fail
  generalize w3.alloc (.cells #[.int .i64 p1, .string p2] 30) = W3 at *
  generalize w3.heap.size = s3 at *
  clear q0 q1 q2 q3 lt3
  refine (to_policy _ _ _ _ _ _ _ _ _ _ _ _ P _ (HP.out.stay B3.out) SM.out).mono ?_
  rintro e w4 ⟨k0, k1, k2, k3, rfl, m4, b4⟩
  have B4 : Hid (Below _ W (w4.alloc (.cells #[.slice (some ⟨k0, 0, none⟩) n0 n0, .slice (some ⟨k1, 0, none⟩) n1 n1, .slice (some ⟨k2, 0, none⟩) n2 n2, .slice (some ⟨k3, 0, none⟩) n3 n3] 36))) := al (on B3.out b4) _
  have M4 : Hid (Mde (w4.alloc (.cells #[.slice (some ⟨k0, 0, none⟩) n0 n0, .slice (some ⟨k1, 0, none⟩) n1 n1, .slice (some ⟨k2, 0, none⟩) n2 n2, .slice (some ⟨k3, 0, none⟩) n3 n3] 36)) _ _ _ _ _ _ _ _ _ P) := m4.keep (al (Below.refl _ _) _)
  have X : Hid ((w4.alloc (.cells #[.slice (some ⟨k0, 0, none⟩) n0 n0, .slice (some ⟨k1, 0, none⟩) n1 n1, .slice (some ⟨k2, 0, none⟩) n2 n2, .slice (some ⟨k3, 0, none⟩) n3 n3] 36)).cell? ⟨w4.heap.size, 0, none⟩ = some (.slice (some ⟨k0, 0, none⟩) n0 n0) ∧ (w4.alloc (.cells #[.slice (some ⟨k0, 0, none⟩) n0 n0, .slice (some ⟨k1, 0, none⟩) n1 n1, .slice (some ⟨k2, 0, none⟩) n2 n2, .slice (some ⟨k3, 0, none⟩) n3 n3] 36)).cell? ⟨w4.heap.size, 1, none⟩ = some (.slice (some ⟨k1, 0, none⟩) n1 n1) ∧ (w4.alloc (.cells #[.slice (some ⟨k0, 0, none⟩) n0 n0, .slice (some ⟨k1, 0, none⟩) n1 n1, .slice (some ⟨k2, 0, none⟩) n2 n2, .slice (some ⟨k3, 0, none⟩) n3 n3] 36)).cell? ⟨w4.heap.size, 2, none⟩ = some (.slice (some ⟨k2, 0, none⟩) n2 n2) ∧ (w4.alloc (.cells #[.slice (some ⟨k0, 0, none⟩) n0 n0, .slice (some ⟨k1, 0, none⟩) n1 n1, .slice (some ⟨k2, 0, none⟩) n2 n2, .slice (some ⟨k3, 0, none⟩) n3 n3] 36)).cell? ⟨w4.heap.size, 3, none⟩ = some (.slice (some ⟨k3, 0, none⟩) n3 n3)) := ⟨cell_new rfl, cell_new rfl, cell_new rfl, cell_new rfl⟩
  have Y4 : Hid (_ ∧ _) := ⟨cell_push (.cells #[.slice (some ⟨k0, 0, none⟩) n0 n0, .slice (some ⟨k1, 0, none⟩) n1 n1, .slice (some ⟨k2, 0, none⟩) n2 n2, .slice (some ⟨k3, 0, none⟩) n3 n3] 36) (cell_keep b4 Y.out.1), cell_push (.cells #[.slice (some ⟨k0, 0, none⟩) n0 n0, .slice (some ⟨k1, 0, none⟩) n1 n1, .slice (some ⟨k2, 0, none⟩) n2 n2, .slice (some ⟨k3, 0, none⟩) n3 n3] 36) (cell_keep b4 Y.out.2)⟩
  clear m4 b4
  go_wp2_with fail
  generalize w4.alloc (.cells #[.slice (some ⟨k0, 0, none⟩) n0 n0, .slice (some ⟨k1, 0, none⟩) n1 n1, .slice (some ⟨k2, 0, none⟩) n2 n2, .slice (some ⟨k3, 0, none⟩) n3 n3] 36) = W4 at *
  generalize w4.heap.size = s4 at *
  refine (i_formatP _ _ _ _ _ _ _ _ _ _ _ _ P _ M4.out.pl (cell_keep B4.out HG.out) (Lib.tabBelow_of_tabIs HT.out _ B4.out) ⟨cell_keep B4.out LF.out.1, cell_keep B4.out LF.out.2.1, cell_keep B4.out LF.out.2.2.1, cell_keep B4.out LF.out.2.2.2⟩).mono ?_
  rintro e w5 ⟨rfl, b5⟩
  rw [HP1.out, HP2.out]
  have B5 : Hid (Below _ W (w5.alloc (.cells #[.int .i64 p1, .string p2] 30))) := al (on B4.out b5) _
  have D5 : Hid (Below _ W4 (w5.alloc (.cells #[.int .i64 p1, .string p2] 30))) := al b5 _
  have y0 := cell_keep b5 Y4.out.1
  have y1 := cell_keep b5 Y4.out.2
  have ly : s3 < w5.heap.size := block_of_cell y0
  clear b5
  go_wp2_with fail
  generalize w5.alloc (.cells #[.int .i64 p1, .string p2] 30) = W5 at *
  clear y0 y1 ly
  refine (eq_textR _ _ _).mono ?_
  rintro e w6 ⟨rfl, b6⟩
  have B6 : Hid (Below _ W w6) := on B5.out b6
  have D6 := on D5.out b6
  have M5 : Hid (Mde w6 _ _ _ _ _ _ _ _ _ P) := M4.out.keep D6
  have B5 := B6
  have q0 := cell_keep B6.out Q.out.1
  have q1 := cell_keep B6.out Q.out.2.1
  have q2 := cell_keep B6.out Q.out.2.2.1
  have q3 := cell_keep B6.out Q.out.2.2.2
  have x0 := cell_keep D6 X.out.1
  have x1 := cell_keep D6 X.out.2.1
  have x2 := cell_keep D6 X.out.2.2.1
  have x3 := cell_keep D6 X.out.2.2.2
  clear b6 D6 B6
  go_wp2_with fail
  go_region_with (first
    | (go_at_call 6; refine (to_policy _ _ _ _ _ _ _ _ _ _ _ _ P _ (HP.out.stay (by first | exact B5.out | exact B5.out.drew | exact B5.out.drew.drew | exact B5.out.drew.drew.drew)) SM.out).mono ?_; rintro e w8 ⟨h0, h1, h2, h3, rfl, m8, b8⟩; (first | have B8 := on B5.out b8 | have B8 := on B5.out.drew b8 | have B8 := on B5.out.drew.drew b8 | have B8 := on B5.out.drew.drew.drew b8); have x0 := cell_keep b8 x0; have x1 := cell_keep b8 x1; have x2 := cell_keep b8 x2; have x3 := cell_keep b8 x3; (first | have N8 := M5.out.keep b8 | have N8 := (M5.out.keep (Below.refl _ _).drew).keep b8 | have N8 := (M5.out.keep (Below.refl _ _).drew.drew).keep b8 | have N8 := (M5.out.keep (Below.refl _ _).drew.drew.drew).keep b8); clear b8)
    | (go_at_call 9; refine (eq_policy _ _ _ _ _ _ _ _ _ _ _ _ P _ _ _ (by first | exact N8 | exact N8.keep (Below.refl _ _).drew | exact N8.keep (Below.refl _ _).drew.drew) (by first | exact m8 | exact m8.keep (Below.refl _ _).drew | exact m8.keep (Below.refl _ _).drew.drew)).mono ?_; rintro e w7 ⟨rfl, b7⟩; (first | have B7 := on B8 b7 | have B7 := on B8.drew b7 | have B7 := on B8.drew.drew b7)))
  all_goals go_wp2_with fail
  all_goals go_ret
  all_goals exact ⟨rfl, by first | exact on B0.out B7 | exact on B0.out B7.drew⟩
end Go.Proofs.YtnggkofddokplaaGreatDoor.fnExactFormatPolicyDone
