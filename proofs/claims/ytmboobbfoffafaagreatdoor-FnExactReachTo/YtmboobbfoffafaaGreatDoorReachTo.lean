/- The law FnExactReachTo answers true at every input, and each argument reads behind the call as it read ahead of it; no condition. -/
import Derived.Test.YtmboobbfoffafaaGreatDoorBase
import Derived.Test.YtmboobbfoffafaaGreatDoorCards
import Derived.Test.YtmboobbfoffafaaGreatDoorTie
import Derived.Deep.DeepHandedRow
import Derived.LaidHandle
import Derived.LaidLaws
import Derived.Test.YtmboobbfoffafaaGreatDoorPoo
import Derived.Test.YtmboobbfoffafaaGreatDoorPlt
import Derived.Lib.SmallJoins
import Derived.Test.YtmboobbfoffafaaGreatDoorRcs
import Derived.Test.YtmboobbfoffafaaGreatDoorRci
import Derived.Test.YtmboobbfoffafaaGreatDoorPlw
import Derived.Test.YtmboobbfoffafaaGreatDoorIntr
import Derived.Test.YtmboobbfoffafaaGreatDoorPlt
import Derived.Test.YtmboobbfoffafaaGreatDoorPoo
import Derived.Deep.RegionWith
import Derived.Deep.Cut
import Derived.Deep.CutRange
namespace Go.Proofs.YtmboobbfoffafaaGreatDoor.fnExactReachToDone
open Go.ChangeShapes Go.WideShapes Go.ChangeAt Go.RowKit
open Go.ChangeMaps (open_string shut_string)
set_option linter.unusedVariables false

set_option maxRecDepth 20000 in
set_option maxHeartbeats 8000000 in
theorem walk (a0 a1 a2 a3 : Option Addr) (n0 c0 n1 c1 n2 c2 n3 c3 : Nat) (P : Plc) (gu : Int) (w : World) (h : Pin w a0 n0 c0 a1 n1 c1 a2 n2 c2 a3 n3 c3 P) (wgu : (Lit.int .i64 gu).wf = true) (hg : w.cell? ⟨0, 0, none⟩ = some (.iface 254 (.agg #[.pointer (some ⟨1, 159, none⟩)]))) :
    Calls Tryz.prog 6 #[.agg #[.slice a0 n0 c0, .slice a1 n1 c1, .slice a2 n2 c2, .slice a3 n3 c3], .int .i64 gu] w fun e w' => e = .returned (.bool true) ∧ Below w.heap.size w w' := by
  generalize hW : w.alloc (.cells #[.slice a0 n0 c0, .slice a1 n1 c1, .slice a2 n2 c2, .slice a3 n3 c3] 61) = W
  have B0 : Hid (Below w.heap.size w W) := by show Below _ _ _; rw [← hW]; exact al (Below.refl _ _) _
  obtain ⟨s, hS⟩ : ∃ s, w.heap.size = s := ⟨_, rfl⟩
  have Q : Hid (C4 W s (.slice a0 n0 c0) (.slice a1 n1 c1) (.slice a2 n2 c2) (.slice a3 n3 c3)) := by
    show C4 _ _ _ _ _ _
    rw [← hW, ← hS]
    exact C4.new _ _ _ _ _ _
  have HP : Hid (Pin W a0 n0 c0 a1 n1 c1 a2 n2 c2 a3 n3 c3 P) := h.stay B0.out
  have HG : Hid (W.cell? ⟨0, 0, none⟩ = some (.iface 254 (.agg #[.pointer (some ⟨1, 159, none⟩)]))) := cell_keep B0.out hg
  have HLEN : Hid (1 + ((reachZ P gu).length : Int) ≤ 4611686018427387904) := by have := reach_len P gu; show _ ≤ _; omega
  clear h hg wgu
  have q0 := Q.out.1
  have q1 := Q.out.2.1
  have q2 := Q.out.2.2.1
  have q3 := Q.out.2.2.2
  go_enter Tryz.func6, Tryz.ntmps6
  go_wp2_with fail
  clear hW hS
  refine (sz_policy _ _ _ _ _ _ _ _ _ _ _ _ P _ HP.out).mono ?_
  rintro e w1 ⟨⟨r, rfl, hr, hs⟩, b1⟩
  by_cases hneg : r < 0
  · go_wp2_with fail
    go_ret
    exact ⟨rfl, on B0.out b1⟩
  have SM : Hid (Small n0 n1 n2 n3 P) := hs (by omega)
  have B1 : Hid (Below _ W w1) := b1
  have Qw1 : Hid (C4 w1 s (.slice a0 n0 c0) (.slice a1 n1 c1) (.slice a2 n2 c2) (.slice a3 n3 c3)) := Q.out.keep b1
  have q0 := Qw1.out.1
  have q1 := Qw1.out.2.1
  have q2 := Qw1.out.2.2.1
  have q3 := Qw1.out.2.2.2
  clear hs b1
  go_wp2_with fail
  refine (to_policy _ _ _ _ _ _ _ _ _ _ _ _ P _ (HP.out.stay B1.out) SM.out).mono ?_
  rintro e w2 ⟨g0, g1, g2, g3, rfl, m2, b2⟩
  have B2 : Hid (Below _ W w2) := on B1.out b2
  have M2 : Hid (Mde w2 _ _ _ _ _ _ _ _ _ P) := m2
  clear m2 b2
  go_wp2_with fail
  refine (s_reach _ _ _ _ _ _ _ _ _ _ _ _ P _ _ M2.out.pl).mono ?_
  rintro e w3 ⟨v0, rfl, n0', b3⟩
  obtain ⟨za0, zc0, hz0, _, _, _⟩ := n0'.shape
  obtain ⟨zl, hzl⟩ : ∃ zl, (reachZ P gu).length = zl := ⟨_, rfl⟩
  rw [hzl] at hz0
  clear hzl
  subst hz0
  have NZ3 : Hid (Nums w3 _ _ (reachZ P gu)) := n0'
  have B3 : Hid (Below _ W (w3.alloc (.cells #[.int .i64 (askV P gu), .slice za0 zl zc0] 34))) := al (on B2.out b3) _
  have Y3 : Hid (C2 (w3.alloc (.cells #[.int .i64 (askV P gu), .slice za0 zl zc0] 34)) w3.heap.size (.int .i64 (askV P gu)) (.slice za0 zl zc0)) := C2.new _ _ _ _
  have N3 : Hid (Nums (w3.alloc (.cells #[.int .i64 (askV P gu), .slice za0 zl zc0] 34)) _ _ (reachZ P gu)) := n0'.keep (al (Below.refl _ _) _)
  have L3 : Hid (∀ k, (Value.slice za0 zl zc0).ownBlock = some k → k < w3.heap.size) := fun k e => (n0'.lt k e).2
  have LB3 : Hid True := trivial
  have Z3 : Hid (w3.heap.size + 1 = (w3.alloc (.cells #[.int .i64 (askV P gu), .slice za0 zl zc0] 34)).heap.size) := by show _ = _; simp
  have q3' : Hid (C4 w3 s (.slice a0 n0 c0) (.slice a1 n1 c1) (.slice a2 n2 c2) (.slice a3 n3 c3)) := Q.out.keep (on B2.out b3)
  have q0 := q3'.out.1
  have q1 := q3'.out.2.1
  have q2 := q3'.out.2.2.1
  have q3 := q3'.out.2.2.2
  have ls3 : s < w3.heap.size := q3'.out.lt
  have LS3 : Hid (s < w3.heap.size) := ls3
  clear n0' b3 M2 B2
  go_wp2_with fail
  generalize w3.alloc (.cells #[.int .i64 (askV P gu), .slice za0 zl zc0] 34) = W3 at *
  generalize w3.heap.size = s3 at *
  clear q0 q1 q2 q3 ls3 q3' NZ3
  refine (to_policy _ _ _ _ _ _ _ _ _ _ _ _ P _ (HP.out.stay B3.out) SM.out).mono ?_
  rintro e w4 ⟨k0, k1, k2, k3, rfl, m4, b4⟩
  have B4 : Hid (Below _ W (w4.alloc (.cells #[.slice (some ⟨k0, 0, none⟩) n0 n0, .slice (some ⟨k1, 0, none⟩) n1 n1, .slice (some ⟨k2, 0, none⟩) n2 n2, .slice (some ⟨k3, 0, none⟩) n3 n3] 29))) := al (on B3.out b4) _
  have M4 : Hid (Mde w4 W3.heap.size _ _ _ _ _ _ _ _ P) := m4
  have D4 : Hid (Below w4.heap.size w4 (w4.alloc (.cells #[.slice (some ⟨k0, 0, none⟩) n0 n0, .slice (some ⟨k1, 0, none⟩) n1 n1, .slice (some ⟨k2, 0, none⟩) n2 n2, .slice (some ⟨k3, 0, none⟩) n3 n3] 29))) := al (Below.refl _ _) _
  have X4 : Hid (C4 (w4.alloc (.cells #[.slice (some ⟨k0, 0, none⟩) n0 n0, .slice (some ⟨k1, 0, none⟩) n1 n1, .slice (some ⟨k2, 0, none⟩) n2 n2, .slice (some ⟨k3, 0, none⟩) n3 n3] 29)) w4.heap.size (.slice (some ⟨k0, 0, none⟩) n0 n0) (.slice (some ⟨k1, 0, none⟩) n1 n1) (.slice (some ⟨k2, 0, none⟩) n2 n2) (.slice (some ⟨k3, 0, none⟩) n3 n3)) := C4.new _ _ _ _ _ _
  have Y4 : Hid (C2 (w4.alloc (.cells #[.slice (some ⟨k0, 0, none⟩) n0 n0, .slice (some ⟨k1, 0, none⟩) n1 n1, .slice (some ⟨k2, 0, none⟩) n2 n2, .slice (some ⟨k3, 0, none⟩) n3 n3] 29)) s3 (.int .i64 (askV P gu)) (.slice za0 zl zc0)) := (Y3.out.keep b4).keep (al (Below.refl _ _) _)
  have N4 : Hid (Nums (w4.alloc (.cells #[.slice (some ⟨k0, 0, none⟩) n0 n0, .slice (some ⟨k1, 0, none⟩) n1 n1, .slice (some ⟨k2, 0, none⟩) n2 n2, .slice (some ⟨k3, 0, none⟩) n3 n3] 29)) _ _ (reachZ P gu)) := (N3.out.keep b4).keep (al (Below.refl _ _) _)
  have Z4 : Hid (W3.heap.size ≤ w4.heap.size ∧ w4.heap.size + 1 = (w4.alloc (.cells #[.slice (some ⟨k0, 0, none⟩) n0 n0, .slice (some ⟨k1, 0, none⟩) n1 n1, .slice (some ⟨k2, 0, none⟩) n2 n2, .slice (some ⟨k3, 0, none⟩) n3 n3] 29)).heap.size) := ⟨b4.size, by simp⟩
  clear m4 b4 Y3 N3
  go_wp2_with fail
  generalize w4.alloc (.cells #[.slice (some ⟨k0, 0, none⟩) n0 n0, .slice (some ⟨k1, 0, none⟩) n1 n1, .slice (some ⟨k2, 0, none⟩) n2 n2, .slice (some ⟨k3, 0, none⟩) n3 n3] 29) = W4 at *
  obtain ⟨s4, hs4⟩ : ∃ s4, w4.heap.size = s4 := ⟨_, rfl⟩
  rw [hs4] at X4 Z4 ⊢
  have S4 : Hid (w4.heap.size = s4) := hs4
  clear hs4
  refine (i_reach _ _ _ _ _ _ _ _ _ _ _ _ P _ _ (M4.out.keep D4.out).pl (cell_keep B4.out HG.out)).mono ?_
  rintro e w5 ⟨v1, rfl, n1', b5⟩
  obtain ⟨zb0, zd0, hz1, _, _, _⟩ := n1'.shape
  obtain ⟨yl, hyl⟩ : ∃ yl, (reachZ P gu).length = yl := ⟨_, rfl⟩
  rw [hyl] at hz1
  clear hyl
  subst hz1
  have WN : Hid (Below w5.heap.size w5 (w5.alloc (.cells #[.int .i64 (askV P gu), .slice zb0 yl zd0] 34))) := al (Below.refl _ _) _
  have B5 : Hid (Below _ W (w5.alloc (.cells #[.int .i64 (askV P gu), .slice zb0 yl zd0] 34))) := al (on B4.out b5) _
  have D5 : Hid (Below w4.heap.size w4 (w5.alloc (.cells #[.int .i64 (askV P gu), .slice zb0 yl zd0] 34))) := al (on D4.out b5) _
  have G5 : Hid (C2 (w5.alloc (.cells #[.int .i64 (askV P gu), .slice zb0 yl zd0] 34)) w5.heap.size (.int .i64 (askV P gu)) (.slice zb0 yl zd0)) := C2.new _ _ _ _
  have X5 : Hid (C4 (w5.alloc (.cells #[.int .i64 (askV P gu), .slice zb0 yl zd0] 34)) s4 (.slice (some ⟨k0, 0, none⟩) n0 n0) (.slice (some ⟨k1, 0, none⟩) n1 n1) (.slice (some ⟨k2, 0, none⟩) n2 n2) (.slice (some ⟨k3, 0, none⟩) n3 n3)) := (X4.out.keep b5).keep WN.out
  have Y5 : Hid (C2 (w5.alloc (.cells #[.int .i64 (askV P gu), .slice zb0 yl zd0] 34)) s3 (.int .i64 (askV P gu)) (.slice za0 zl zc0)) := (Y4.out.keep b5).keep WN.out
  have N5 : Hid (Nums (w5.alloc (.cells #[.int .i64 (askV P gu), .slice zb0 yl zd0] 34)) _ (.slice za0 zl zc0) (reachZ P gu)) := (N4.out.keep b5).keep WN.out
  have O5 : Hid (Nums (w5.alloc (.cells #[.int .i64 (askV P gu), .slice zb0 yl zd0] 34)) _ (.slice zb0 yl zd0) (reachZ P gu)) := n1'.keep WN.out
  have L5 : Hid (∀ k, (Value.slice zb0 yl zd0).ownBlock = some k → W4.heap.size ≤ k ∧ k < w5.heap.size) := fun k e => n1'.lt k e
  have LB5 : Hid True := trivial
  have Z5 : Hid (W4.heap.size ≤ w5.heap.size) := b5.size
  have y5 : Hid (C2 w5 s3 (.int .i64 (askV P gu)) (.slice za0 zl zc0)) := Y4.out.keep b5
  have y0 := y5.out.1
  have y1 := y5.out.2
  have ly : s3 < w5.heap.size := y5.out.lt
  clear b5 n1' X4 Y4 N4 WN
  go_wp2_with fail
  generalize w5.alloc (.cells #[.int .i64 (askV P gu), .slice zb0 yl zd0] 34) = W5 at *
  generalize w5.heap.size = s5 at *
  clear y0 y1 ly y5
  refine (eq_ints _ _ _ _ _ _ _ O5.out N5.out).mono ?_
  rintro e w6 ⟨rfl, b6⟩
  have B6 := B5
  have Bw6 : Hid (Below _ W w6) := on B5.out b6
  have Xw6 : Hid (C4 w6 s4 (.slice (some ⟨k0, 0, none⟩) n0 n0) (.slice (some ⟨k1, 0, none⟩) n1 n1) (.slice (some ⟨k2, 0, none⟩) n2 n2) (.slice (some ⟨k3, 0, none⟩) n3 n3)) := X5.out.keep b6
  have Yw6 : Hid (C2 w6 s3 (.int .i64 (askV P gu)) (.slice za0 zl zc0)) := Y5.out.keep b6
  have Gw6 : Hid (C2 w6 s5 (.int .i64 (askV P gu)) (.slice zb0 yl zd0)) := G5.out.keep b6
  have Nw6 : Hid (Nums w6 _ (.slice za0 zl zc0) (reachZ P gu)) := N5.out.keep b6
  have Ow6 : Hid (Nums w6 _ (.slice zb0 yl zd0) (reachZ P gu)) := O5.out.keep b6
  have Dw6 : Hid (Below w4.heap.size w4 w6) := on D5.out b6
  have Qw6 : Hid (C4 w6 s (.slice a0 n0 c0) (.slice a1 n1 c1) (.slice a2 n2 c2) (.slice a3 n3 c3)) := Q.out.keep Bw6.out
  have M5 : Hid (Mde w6 _ _ _ _ _ _ _ _ _ P) := M4.out.keep Dw6.out
  have q0 := Qw6.out.1
  have q1 := Qw6.out.2.1
  have q2 := Qw6.out.2.2.1
  have q3 := Qw6.out.2.2.2
  have x0 := Xw6.out.1
  have x1 := Xw6.out.2.1
  have x2 := Xw6.out.2.2.1
  have x3 := Xw6.out.2.2.2
  clear b6 B6 B5 X5 Y5 G5 N5 O5 D5
  go_wp2_with fail
  go_cut [35] from 13 to 73 (fun c wx => c = .bool false ∧ Below w6.heap.size w6 wx)
  case first =>
    go_region_with (first
      | (go_at_call 33; refine (to_policy _ _ _ _ _ _ _ _ _ _ _ _ P _ (HP.out.stay (by first | exact Bw6.out | exact Bw6.out.drew | exact Bw6.out.drew.drew | exact Bw6.out.drew.drew.drew)) SM.out).mono ?_; rintro e w8 ⟨h0, h1, h2, h3, rfl, m8, b8⟩; have E8 : Hid (Below w6.heap.size w6 w8) := (by first | exact b8 | exact on (Below.refl _ _).drew b8 | exact on (Below.refl _ _).drew.drew b8 | exact on (Below.refl _ _).drew.drew.drew b8); have x0 := cell_keep b8 x0; have x1 := cell_keep b8 x1; have x2 := cell_keep b8 x2; have x3 := cell_keep b8 x3; (first | have N8 := M5.out.keep b8 | have N8 := (M5.out.keep (Below.refl _ _).drew).keep b8 | have N8 := (M5.out.keep (Below.refl _ _).drew.drew).keep b8 | have N8 := (M5.out.keep (Below.refl _ _).drew.drew.drew).keep b8); clear b8)
      | (go_at_call 35; refine (eq_policy _ _ _ _ _ _ _ _ _ _ _ _ P _ _ _ (by first | exact N8 | exact N8.keep (Below.refl _ _).drew | exact N8.keep (Below.refl _ _).drew.drew) (by first | exact m8 | exact m8.keep (Below.refl _ _).drew | exact m8.keep (Below.refl _ _).drew.drew)).mono ?_; rintro e w7 ⟨rfl, b7⟩; (first | have E7 : Hid (Below w6.heap.size w6 w7) := on E8.out b7 | have E7 : Hid (Below w6.heap.size w6 w7) := on E8.out.drew b7 | have E7 : Hid (Below w6.heap.size w6 w7) := on E8.out.drew.drew b7); clear b7))
    all_goals (go_wp2_with fail; go_meet; exact ⟨rfl, by first | exact E7.out | exact E7.out.drew⟩)
  case rest =>
  obtain ⟨rfl, b7⟩ := hcut
  have Bwc : Hid (Below _ W wc) := on Bw6.out b7
  have Xwc : Hid (C4 wc s4 (.slice (some ⟨k0, 0, none⟩) n0 n0) (.slice (some ⟨k1, 0, none⟩) n1 n1) (.slice (some ⟨k2, 0, none⟩) n2 n2) (.slice (some ⟨k3, 0, none⟩) n3 n3)) := Xw6.out.keep b7
  have Ywc : Hid (C2 wc s3 (.int .i64 (askV P gu)) (.slice za0 zl zc0)) := Yw6.out.keep b7
  have Gwc : Hid (C2 wc s5 (.int .i64 (askV P gu)) (.slice zb0 yl zd0)) := Gw6.out.keep b7
  have Nwc : Hid (Nums wc _ (.slice za0 zl zc0) (reachZ P gu)) := Nw6.out.keep b7
  have Owc : Hid (Nums wc _ (.slice zb0 yl zd0) (reachZ P gu)) := Ow6.out.keep b7
  have Dwc : Hid (Below w4.heap.size w4 wc) := on Dw6.out b7
  clear b7 q0 q1 q2 q3 x0 x1 x2 x3 Xw6 Yw6 Gw6 Nw6 Ow6 Dw6 Bw6 M5 Qw6
  have x0 := Xwc.out.1
  have x1 := Xwc.out.2.1
  have x2 := Xwc.out.2.2.1
  have x3 := Xwc.out.2.2.2
  go_wp2_with fail
  refine (mark_policy _ _ _ _ _ _ _ _ W3.heap.size w4.heap.size P w4 wc M4.out Dwc.out SM.out (by exact Nat.le_refl _)).mono ?_
  rintro e m1 ⟨⟨r1, rfl, hr1, hr1b⟩, mk1⟩
  clear x0 x1 x2 x3
  have Bm : Hid (Below _ W m1) := Mk.below Bwc.out mk1 (by have := B3.out.size; omega)
  have Ym : Hid (C2 m1 s3 (.int .i64 (askV P gu)) (.slice za0 zl zc0)) := Ywc.out.mk mk1 (.inl (by have := Z3.out; omega))
  have Gm : Hid (C2 m1 s5 (.int .i64 (askV P gu)) (.slice zb0 yl zd0)) := Gwc.out.mk mk1 (.inr (by have := S4.out; have := Z4.out.2; have := Z5.out; omega))
  have Nm : Hid (Nums m1 _ (.slice za0 zl zc0) (reachZ P gu)) := mk1.row Nwc.out (fun k e => .inl (by have := L3.out k e; have := Z3.out; omega))
  have Om : Hid (Nums m1 _ (.slice zb0 yl zd0) (reachZ P gu)) := mk1.row Owc.out (fun k e => .inr (by have := (L5.out k e).1; have := S4.out; have := Z4.out.2; omega))
  clear mk1
  have y0 := Ym.out.1
  have y1 := Ym.out.2
  have g0 := Gm.out.1
  have g1 := Gm.out.2
  go_wp2_with fail
  refine (eq_ints _ _ _ _ _ _ _ Om.out Nm.out).mono ?_
  rintro e t1 ⟨rfl, b7⟩
  clear y0 y1 g0 g1
  have Bt1 : Hid (Below _ W t1) := on Bm.out b7
  have Yt1 : Hid (C2 t1 s3 (.int .i64 (askV P gu)) (.slice za0 zl zc0)) := Ym.out.keep b7
  have Gt1 : Hid (C2 t1 s5 (.int .i64 (askV P gu)) (.slice zb0 yl zd0)) := Gm.out.keep b7
  have Nt1 : Hid (Nums t1 _ (.slice za0 zl zc0) (reachZ P gu)) := Nm.out.keep b7
  have Ot1 : Hid (Nums t1 _ (.slice zb0 yl zd0) (reachZ P gu)) := Om.out.keep b7
  clear b7 Ym Gm Nm Om
  have g0 := Gt1.out.1
  have g1 := Gt1.out.2
  go_wp2_with fail
  refine (mark_ints _ _ _ 1 _ _ Ot1.out (by decide) HLEN.out).mono ?_
  rintro e t2 ⟨rfl, n7, g7⟩
  have Yt2 : Hid (C2 t2 s3 (.int .i64 (askV P gu)) (.slice za0 zl zc0)) := Yt1.out.grown g7 (fun e => by have := (L5.out _ e.symm).1; have := Z3.out; have := Z4.out; omega)
  have Gt2 : Hid (C2 t2 s5 (.int .i64 (askV P gu)) (.slice zb0 yl zd0)) := Gt1.out.grown g7 (fun e => by have := (L5.out _ e.symm).2; omega)
  have Nt2 : Hid (Nums t2 _ (.slice za0 zl zc0) (reachZ P gu)) := Nt1.out.kept g7 (by
    cases e : (Value.slice za0 zl zc0).ownBlock with
    | none => exact .inl rfl
    | some x => exact .inr fun e2 => by have := L3.out x e; have := (L5.out x e2.symm).1; have := Z3.out; have := Z4.out; omega)
  have Ot2 : Hid (Nums t2 _ (.slice zb0 yl zd0) (marks 1 (reachZ P gu).length)) := n7
  have Bt2 : Hid (Below _ W t2) := below_of_grown Bt1.out g7 Ot1.out (by have := B4.out.size; omega)
  clear n7 g7 g0 g1
  have g0 := Gt2.out.1
  have g1 := Gt2.out.2
  go_wp2_with fail
  refine (held_ints _ _ 1 (reachZ P gu).length _ _ Ot2.out (by decide) HLEN.out).mono ?_
  rintro e t3 ⟨rfl, b7⟩
  clear g0 g1
  have Bt3 : Hid (Below _ W t3) := on Bt2.out b7
  have Yt3 : Hid (C2 t3 s3 (.int .i64 (askV P gu)) (.slice za0 zl zc0)) := Yt2.out.keep b7
  have Gt3 : Hid (C2 t3 s5 (.int .i64 (askV P gu)) (.slice zb0 yl zd0)) := Gt2.out.keep b7
  have Nt3 : Hid (Nums t3 _ (.slice za0 zl zc0) (reachZ P gu)) := Nt2.out.keep b7
  have Ot3 : Hid (Nums t3 _ (.slice zb0 yl zd0) (marks 1 (reachZ P gu).length)) := Ot2.out.keep b7
  have Qt3 : Hid (C4 t3 s (.slice a0 n0 c0) (.slice a1 n1 c1) (.slice a2 n2 c2) (.slice a3 n3 c3)) := Q.out.keep Bt3.out
  clear b7 Yt2 Gt2 Nt2 Ot2
  have q0 := Qt3.out.1
  have q1 := Qt3.out.2.1
  have q2 := Qt3.out.2.2.1
  have q3 := Qt3.out.2.2.2
  go_wp2_with fail
  refine (to_policy _ _ _ _ _ _ _ _ _ _ _ _ P _ (HP.out.stay Bt3.out) SM.out).mono ?_
  rintro e t4 ⟨h0, h1, h2, h3, rfl, m9, b7⟩
  clear q0 q1 q2 q3
  have Bt4 : Hid (Below _ W t4) := on Bt3.out b7
  have Yt4 : Hid (C2 t4 s3 (.int .i64 (askV P gu)) (.slice za0 zl zc0)) := Yt3.out.keep b7
  have Gt4 : Hid (C2 t4 s5 (.int .i64 (askV P gu)) (.slice zb0 yl zd0)) := Gt3.out.keep b7
  have Nt4 : Hid (Nums t4 _ (.slice za0 zl zc0) (reachZ P gu)) := Nt3.out.keep b7
  have Ot4 : Hid (Nums t4 _ (.slice zb0 yl zd0) (marks 1 (reachZ P gu).length)) := Ot3.out.keep b7
  have M9 : Hid (Mde t4 _ _ _ _ _ _ _ _ _ P) := m9
  clear b7 m9
  go_wp2_with fail
  refine (i_reach _ _ _ _ _ _ _ _ _ _ _ _ P _ _ M9.out.pl (cell_keep Bt4.out HG.out)).mono ?_
  rintro e t6 ⟨v2, rfl, n2', b7⟩
  obtain ⟨zz0, zz1, hz2, _, _, _⟩ := n2'.shape
  obtain ⟨xl, hxl⟩ : ∃ xl, (reachZ P gu).length = xl := ⟨_, rfl⟩
  rw [hxl] at hz2
  clear hxl
  subst hz2
  have WN : Hid (Below t6.heap.size t6 (t6.alloc (.cells #[.int .i64 (askV P gu), .slice zz0 xl zz1] 34))) := al (Below.refl _ _) _
  have H6 : Hid (Nums (t6.alloc (.cells #[.int .i64 (askV P gu), .slice zz0 xl zz1] 34)) _ (.slice zz0 xl zz1) (reachZ P gu)) := n2'.keep WN.out
  have B7 : Hid (Below t6.heap.size t6 (t6.alloc (.cells #[.int .i64 (askV P gu), .slice zz0 xl zz1] 34))) := WN.out
  clear n2'
  have Bt6 : Hid (Below _ W t6) := on Bt4.out b7
  have Yt6 : Hid (C2 t6 s3 (.int .i64 (askV P gu)) (.slice za0 zl zc0)) := Yt4.out.keep b7
  have Gt6 : Hid (C2 t6 s5 (.int .i64 (askV P gu)) (.slice zb0 yl zd0)) := Gt4.out.keep b7
  have Nt6 : Hid (Nums t6 _ (.slice za0 zl zc0) (reachZ P gu)) := Nt4.out.keep b7
  have Ot6 : Hid (Nums t6 _ (.slice zb0 yl zd0) (marks 1 (reachZ P gu).length)) := Ot4.out.keep b7
  have y0 := Yt6.out.1
  have y1 := Yt6.out.2
  have l6 : s3 < t6.heap.size := Yt6.out.lt
  clear b7
  go_wp2_with fail
  refine (eq_ints _ _ _ _ _ _ _ H6.out (Nt6.out.keep B7.out)).mono ?_
  rintro e t7 ⟨rfl, b8⟩
  have b7 := on B7.out b8
  clear b8 y0 y1 l6
  have Bt7 : Hid (Below _ W t7) := on Bt6.out b7
  have Gt7 : Hid (C2 t7 s5 (.int .i64 (askV P gu)) (.slice zb0 yl zd0)) := Gt6.out.keep b7
  have Ot7 : Hid (Nums t7 _ (.slice zb0 yl zd0) (marks 1 (reachZ P gu).length)) := Ot6.out.keep b7
  clear b7
  have g0 := Gt7.out.1
  have g1 := Gt7.out.2
  go_wp2_with fail
  refine (held_ints _ _ 1 (reachZ P gu).length _ _ Ot7.out (by decide) HLEN.out).mono ?_
  rintro e t8 ⟨rfl, b8⟩
  go_wp2_with fail
  go_ret
  exact ⟨rfl, on B0.out (on Bt7.out b8)⟩

theorem gEt : Tryz.prog.globalNamed "errors.errorType" = some 0 := by kernel_rfl
theorem gRt : (Tryz.prog.cutTypes.find? (·.1 == "internal/reflectlite.rtype")).map (·.2) = some 254 := by kernel_rfl
theorem gRow : ((List.range 298).filter fun t => Tryz.prog.rowNamed t [101, 114, 114, 111, 114]) = [159] := by kernel_rfl
theorem gSize : Tryz.prog.types.size = 298 := by kernel_rfl
theorem handle {W : World} (h : laidMetH Tryz.prog Rows.fnExactReachToRow.laid W) : W.cell? ⟨0, 0, none⟩ = some (.iface 254 (.agg #[.pointer (some ⟨1, 159, none⟩)])) := by
  have h' : laidMet Tryz.prog [] W ∧ handlesMet Tryz.prog Rows.fnExactReachToRow.laid W := h
  obtain ⟨name, u, ty, e1, e2, e3, e4, e5⟩ := h'.2 _ (List.mem_singleton.2 rfl)
  have en : name = [101, 114, 114, 111, 114] := (Option.some.inj e1).symm
  subst en
  obtain rfl := Option.some.inj (gRt.symm.trans e2)
  have hm : ty ∈ (List.range 298).filter fun t => Tryz.prog.rowNamed t [101, 114, 114, 111, 114] := List.mem_filter.2 ⟨List.mem_range.2 (by rw [← gSize]; exact e3), e4⟩
  rw [gRow] at hm
  obtain rfl := List.mem_singleton.1 hm
  have hh : typeHandle Tryz.prog 159 = .pointer (some ⟨1, 159, none⟩) := by kernel_rfl
  rw [hh] at e5
  simpa using World.var?_cell gEt e5 0

set_option maxRecDepth 100000 in
theorem contract (H : Type) (enc : TypeId × Value → H) (W : World) (base : Nat) (args : Array Value) (ds gs : List (DataW H)) (before : List MemPlace)
    (hval0 : ∀ (j : Nat) t v, Tryz.f6.params[j]? = some t → args[j]? = some v → Value.okWide Tryz.prog W .any base t v)
    (hW : DataW.Whole enc Tryz.prog Tryz.f6.params.toList Rows.fnExactReachToSpec.vars false W args.toList ds gs before) (hL : laidMetH Tryz.prog Rows.fnExactReachToRow.laid W) :
    Calls Tryz.prog 6 args W fun e W' => ∃ v, e = .returned v ∧ Rows.fnExactReachToSpec.post enc Tryz.prog Tryz.f6 false true false false W args v W' := by
  have hval : ∀ (j : Nat) t v, Tryz.f6.params[j]? = some t → args[j]? = some v → Value.okWide Tryz.prog W .any base t v := hval0
  have hW' := hW
  obtain ⟨p, q, hA0, hV, rfl, hfz, hnd⟩ := hW
  have hA : DataW.TrodAll enc Tryz.prog W 0 (fun _ => true) true Tryz.f6.params.toList args.toList ds p := hA0
  rw [Tryz.params6] at hA hval
  obtain ⟨v0, vs0, d0, ds0, p0, q0, hargs, rfl, rfl, h0, r0⟩ := trodAll_cons hA
  obtain ⟨v1, vs1, d1, ds1, p1, q1, rfl, rfl, rfl, h1, r1⟩ := trodAll_cons r0
  obtain ⟨rfl, rfl, rfl⟩ := trodAll_nil r1
  obtain rfl : args = #[v0, v1] := by cases args; simp_all
  obtain ⟨rfl, rfl⟩ := trodVars_none hV
  have k0 := h0
  have lt0 : ∀ x ∈ p0, x.block < W.heap.size := by obtain ⟨m, hm⟩ := k0; exact DataW.trod_lt m _ _ _ hm
  obtain ⟨c0_0, c0_1, c0_2, c0_3, y0_0, y0_1, y0_2, y0_3, m0, rfl, _, _, e0_0, e0_1, e0_2, e0_3⟩ := Go.Joins.open_agg4 Tryz.underlying61 (by kernel_rfl) (by kernel_rfl) (hval 0 61 v0 rfl rfl) h0
  obtain ⟨pa0, pn0, pc0, po, q0, w0_0⟩ := ss_open Tryz.underlying24 Tryz.underlying32 Tryz.underlying2 (by kernel_rfl) (by kernel_rfl) e0_0
  obtain rfl : c0_0 = .slice pa0 pn0 pc0 := by simpa using q0
  obtain ⟨pa1, pn1, pc1, pl, q1, w0_1⟩ := lanes_open2 Tryz.underlying57 Tryz.underlying184 (by kernel_rfl) rfl rfl rfl rfl rfl Tryz.underlying2 Tryz.underlying2 Tryz.underlying2 Tryz.underlying2 Tryz.underlying2 (by kernel_rfl) (by kernel_rfl) (by kernel_rfl) (by kernel_rfl) (by kernel_rfl) e0_1
  obtain rfl : c0_1 = .slice pa1 pn1 pc1 := by simpa using q1
  obtain ⟨pa2, pn2, pc2, pb, q2, w0_2⟩ := pairs_open Tryz.underlying58 Tryz.underlying186 (by kernel_rfl) rfl rfl Tryz.underlying2 Tryz.underlying2 (by kernel_rfl) (by kernel_rfl) e0_2
  obtain rfl : c0_2 = .slice pa2 pn2 pc2 := by simpa using q2
  obtain ⟨pa3, pn3, pc3, pp, q3, w0_3⟩ := pairs_open Tryz.underlying59 Tryz.underlying188 (by kernel_rfl) rfl rfl Tryz.underlying2 Tryz.underlying2 (by kernel_rfl) (by kernel_rfl) e0_3
  obtain rfl : c0_3 = .slice pa3 pn3 pc3 := by simpa using q3
  obtain ⟨a1, rfl, rfl, rfl, w1⟩ := open_int Tryz.underlying2 (hval 1 2 v1 rfl rfl) h1
  clear hA0 hval0
  refine (walk pa0 pa1 pa2 pa3 pn0 pc0 pn1 pc1 pn2 pc2 pn3 pc3 ⟨po, pl, pb, pp⟩ a1 W ⟨w0_0, w0_1, w0_2, w0_3⟩ w1 (handle hL)).mono fun e W' ⟨he, bel⟩ => ?_
  subst he
  exact ⟨_, rfl, _, _, _, [], _, [], hW', trodAll_mk1 (shut_bool Tryz.underlying4 _), (trodAll_cons_mk (Below.trod laidOut (by kernel_rfl) (of_decide_eq_true (by kernel_rfl)) k0 bel lt0) (trodAll_cons_mk (shut_int Tryz.underlying2 w1) trodAll_mk0)), rfl, bel.frame _, fun h => by cases h⟩

theorem laid_met (os : Os) : laidMetH Tryz.prog Rows.fnExactReachToRow.laid (({ World.holding Tryz.prog os ⟨#[], #[], []⟩ with heap := ((World.holding Tryz.prog os ⟨#[], #[], []⟩).heap.modify 0 fun
      | .cells _ t frozen => .cells #[.iface 254 (.agg #[.pointer (some ⟨1, 159, none⟩)])] t frozen
      | o => o) } : World).forCall (fun _ _ => 0) ⟨#[], #[.agg #[.slice none 0 0, .slice none 0 0, .slice none 0 0, .slice none 0 0], .int .i64 0], []⟩).memory :=
  laidMetH_of_parts (laidMet_nil _ _) (by kernel_rfl)
theorem reads (os : Os) {H : Type} (enc : TypeId × Value → H) : ∃ places, DataW.whole enc Tryz.prog (({ World.holding Tryz.prog os ⟨#[], #[], []⟩ with heap := ((World.holding Tryz.prog os ⟨#[], #[], []⟩).heap.modify 0 fun
      | .cells _ t frozen => .cells #[.iface 254 (.agg #[.pointer (some ⟨1, 159, none⟩)])] t frozen
      | o => o) } : World).forCall (fun _ _ => 0) ⟨#[], #[.agg #[.slice none 0 0, .slice none 0 0, .slice none 0 0, .slice none 0 0], .int .i64 0], []⟩).memory Tryz.f6.params.toList Rows.fnExactReachToSpec.vars false (#[.agg #[.slice none 0 0, .slice none 0 0, .slice none 0 0, .slice none 0 0], .int .i64 0] : Array Value).toList 8 = some ([.agg [.nil, .nil, .nil, .nil], .lit (.int .i64 0)], [], places) :=
  ⟨[], by kernel_rfl⟩
set_option maxRecDepth 100000 in
theorem lifted (os : Os) (started : os.Started) (H : Type) (enc : TypeId × Value → H) (F : Stop.Interp) :
    ReturnsInHanded {} Tryz.checked os 6 .any ((OpenSpec.ofChange Rows.fnExactReachToSpec).preRow enc Tryz.prog Tryz.f6 Rows.fnExactReachToRow.domain false Rows.fnExactReachToRow.laid) (((OpenSpec.ofChange Rows.fnExactReachToSpec).at F).post enc Tryz.prog Tryz.f6 false true false false) := by
  obtain ⟨places, hx⟩ := reads os enc
  refine returnsInHanded_of_row (C := Tryz.checked) (s := OpenSpec.ofChange Rows.fnExactReachToSpec) own started (by kernel_rfl) Tryz.func6
    (witness_row_at (enc := enc) (C := Tryz.checked) false ({ World.holding Tryz.prog os ⟨#[], #[], []⟩ with heap := ((World.holding Tryz.prog os ⟨#[], #[], []⟩).heap.modify 0 fun
      | .cells _ t frozen => .cells #[.iface 254 (.agg #[.pointer (some ⟨1, 159, none⟩)])] t frozen
      | o => o) } : World) #[.agg #[.slice none 0 0, .slice none 0 0, .slice none 0 0, .slice none 0 0], .int .i64 0] rfl (by kernel_rfl) (by kernel_rfl) (by kernel_rfl)
      (OpenSpec.preRow_of_cond 8 hx (by kernel_rfl) (fun k hk => by cases hk) (by kernel_rfl) (laid_met os))) ?_
  intro W base args ds gs before hval hW _ _ _ hL _ _
  exact contract H enc W base args ds gs before hval hW hL

theorem said : Rows.FnExactReachToSaid :=
  OpenClaim.holds_of_cond 6 Tryz.f6 rfl rfl rfl rfl rfl rfl rfl ⟨rfl, rfl, rfl, rfl, rfl⟩ rfl rfl rfl rfl rfl (by kernel_rfl) Tryz.func6 (by kernel_rfl)
    (of_decide_eq_true (by kernel_rfl)) (by unfold Func.isWrapper; first | (rw [if_pos (by decide +kernel)]; kernel_rfl) | (rw [if_neg (by decide +kernel)]; exact ⟨rfl, rfl⟩))
    (fun os started H enc _ F => by rw [OpenClaim.pre_eq_preRow]; exact lifted os started H enc F)
theorem plain (f : FuncId) (fn : Func) (hf : Tryz.pinned.checked.prog.funcNamed "loop.example/g00213/laws.FnExactReachTo" = some f) (hfn : Tryz.pinned.checked.prog.funcs[f]? = some fn) :
    true = Tryz.pinned.checked.prog.looks [] ∧ ∀ (j : Nat) t, fn.params[j]? = some t → Tryz.pinned.checked.prog.wantsStandIn t = false := by
  obtain rfl : f = 6 := Option.some.inj ((show Tryz.prog.funcNamed "loop.example/g00213/laws.FnExactReachTo" = some 6 by kernel_rfl).symm.trans hf) |>.symm
  obtain rfl : fn = Tryz.f6 := (Option.some.inj (Tryz.func6.symm.trans hfn)).symm
  refine ⟨by kernel_rfl, fun j t ht => ?_⟩
  rw [Tryz.params6] at ht
  have hm : t = 61 ∨ t = 2 := by simpa using Array.mem_of_getElem? ht
  rcases hm with rfl | rfl
  · exact (show Tryz.prog.wantsStandIn 61 = false by kernel_rfl)
  · exact (show Tryz.prog.wantsStandIn 2 = false by kernel_rfl)
theorem proved : Rows.FnExactReachToCardSaid :=
  Claim7.holds_tied_plain_at .later [] _ _ _ _ said (fun _ h => by cases h) (by kernel_rfl) (fun _ h => by cases h) fnExactReachTo_row_tie rfl ⟨rfl, rfl⟩ (by kernel_rfl) rfl plain (by kernel_rfl)
end Go.Proofs.YtmboobbfoffafaaGreatDoor.fnExactReachToDone
