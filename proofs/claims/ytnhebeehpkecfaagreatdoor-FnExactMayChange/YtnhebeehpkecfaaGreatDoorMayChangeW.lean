/- The walk of a law. -/
import Derived.Test.YtnhebeehpkecfaaGreatDoorBase
import Derived.Test.YtnhebeehpkecfaaGreatDoorCards
import Derived.Test.YtnhebeehpkecfaaGreatDoorTie
import Derived.Deep.DeepHandedRow
import Derived.LaidHandle
import Derived.LaidLaws
import Derived.Lib.LaidTab
import Derived.Stop.LaidErr
import Derived.Test.YtnhebeehpkecfaaGreatDoorPoo
import Derived.Test.YtnhebeehpkecfaaGreatDoorPlt
import Derived.Lib.SmallJoins
import Derived.Test.YtnhebeehpkecfaaGreatDoorVmi
import Derived.Test.YtnhebeehpkecfaaGreatDoorVms
import Derived.Test.YtnhebeehpkecfaaGreatDoorPlw
import Derived.Test.YtnhebeehpkecfaaGreatDoorIntr
import Derived.Test.YtnhebeehpkecfaaGreatDoorPlt
import Derived.Test.YtnhebeehpkecfaaGreatDoorPoo
import Derived.Test.YtnhebeehpkecfaaGreatDoorMkp
import Derived.Deep.RegionWith
import Derived.Deep.Cut
import Derived.Deep.CutRange
namespace Go.Proofs.YtnhebeehpkecfaaGreatDoor.fnExactMayChangeDone
open Go.ChangeShapes Go.WideShapes Go.ChangeAt Go.RowKit
open Go.ChangeMaps (open_string shut_string)
set_option linter.unusedVariables false

set_option maxRecDepth 20000 in
set_option maxHeartbeats 8000000 in
theorem walk (a0 a1 a2 a3 : Option Addr) (n0 c0 n1 c1 n2 c2 n3 c3 : Nat) (P : Plc) (gu : Int) (w : World) (h : Pin w a0 n0 c0 a1 n1 c1 a2 n2 c2 a3 n3 c3 P) (wgu : (Lit.int .i64 gu).wf = true) (hg : w.cell? ⟨0, 0, none⟩ = some (.iface 158 (.agg #[.pointer (some ⟨1, 103, none⟩)]))) :
    Calls Tryz.prog 3 #[.agg #[.slice a0 n0 c0, .slice a1 n1 c1, .slice a2 n2 c2, .slice a3 n3 c3], .int .i64 gu] w fun e w' => e = .returned (.bool true) ∧ Below w.heap.size w w' := by
  generalize hW : w.alloc (.cells #[.slice a0 n0 c0, .slice a1 n1 c1, .slice a2 n2 c2, .slice a3 n3 c3] 27) = W
  have B0 : Hid (Below w.heap.size w W) := by show Below _ _ _; rw [← hW]; exact al (Below.refl _ _) _
  obtain ⟨s, hS⟩ : ∃ s, w.heap.size = s := ⟨_, rfl⟩
  have Q : Hid (C4 W s (.slice a0 n0 c0) (.slice a1 n1 c1) (.slice a2 n2 c2) (.slice a3 n3 c3)) := by
    show C4 _ _ _ _ _ _
    rw [← hW, ← hS]
    exact C4.new _ _ _ _ _ _
  have HP : Hid (Pin W a0 n0 c0 a1 n1 c1 a2 n2 c2 a3 n3 c3 P) := h.stay B0.out
  have HG : Hid (W.cell? ⟨0, 0, none⟩ = some (.iface 158 (.agg #[.pointer (some ⟨1, 103, none⟩)]))) := cell_keep B0.out hg
  have HLEN : Hid (1 + ((mayZ P gu).length : Int) ≤ 4611686018427387904) := by have := may_len P gu; show _ ≤ _; omega
  clear h hg wgu
  have q0 := Q.out.1
  have q1 := Q.out.2.1
  have q2 := Q.out.2.2.1
  have q3 := Q.out.2.2.2
  go_enter Tryz.func3, Tryz.ntmps3
  go_wp2_with fail
  clear hW hS
  refine (sz_policy _ _ _ _ _ _ _ _ _ _ _ _ P _ HP.out).mono ?_
  rintro e w1 ⟨⟨r, rfl, hr, hs⟩, b1⟩
  by_cases hneg : r < 0
  · go_wp2_with fail
    go_ret
    exact ⟨rfl, on B0.out b1⟩
  have SM : Hid (Small n0 n1 n2 n3 P) := hs (by omega)
  have B1 : Hid (Below _ W w1) := b1
  have Qw1 : Hid (C4 w1 s (.slice a0 n0 c0) (.slice a1 n1 c1) (.slice a2 n2 c2) (.slice a3 n3 c3)) := Q.out.keep b1
  have q0 := Qw1.out.1
  have q1 := Qw1.out.2.1
  have q2 := Qw1.out.2.2.1
  have q3 := Qw1.out.2.2.2
  clear hs b1
  go_wp2_with fail
  refine (to_policy _ _ _ _ _ _ _ _ _ _ _ _ P _ (HP.out.stay B1.out) SM.out).mono ?_
  rintro e w2 ⟨g0, g1, g2, g3, rfl, m2, b2⟩
  have B2 : Hid (Below _ W w2) := on B1.out b2
  have M2 : Hid (Mde w2 _ _ _ _ _ _ _ _ _ P) := m2
  clear m2 b2
  go_wp2_with fail
  refine (s_may _ _ _ _ _ _ _ _ _ _ _ _ P _ _ M2.out.pl).mono ?_
  rintro e w3 ⟨v0, rfl, n0', b3⟩
  obtain ⟨za0, zc0, hz0, _, _, _⟩ := n0'.shape
  obtain ⟨zl, hzl⟩ : ∃ zl, (mayZ P gu).length = zl := ⟨_, rfl⟩
  rw [hzl] at hz0
  clear hzl
  subst hz0
  have NZ3 : Hid (Nums w3 _ _ (mayZ P gu)) := n0'
  have B3 : Hid (Below _ W (w3.alloc (.cells #[.int .i64 (askV P gu), .slice za0 zl zc0] 31))) := al (on B2.out b3) _
  have Y3 : Hid (C2 (w3.alloc (.cells #[.int .i64 (askV P gu), .slice za0 zl zc0] 31)) w3.heap.size (.int .i64 (askV P gu)) (.slice za0 zl zc0)) := C2.new _ _ _ _
  have N3 : Hid (Nums (w3.alloc (.cells #[.int .i64 (askV P gu), .slice za0 zl zc0] 31)) _ _ (mayZ P gu)) := n0'.keep (al (Below.refl _ _) _)
  have L3 : Hid (∀ k, (Value.slice za0 zl zc0).ownBlock = some k → k < w3.heap.size) := fun k e => (n0'.lt k e).2
  have LB3 : Hid True := trivial
  have Z3 : Hid (w3.heap.size + 1 = (w3.alloc (.cells #[.int .i64 (askV P gu), .slice za0 zl zc0] 31)).heap.size) := by show _ = _; simp
  have q3' : Hid (C4 w3 s (.slice a0 n0 c0) (.slice a1 n1 c1) (.slice a2 n2 c2) (.slice a3 n3 c3)) := Q.out.keep (on B2.out b3)
  have q0 := q3'.out.1
  have q1 := q3'.out.2.1
  have q2 := q3'.out.2.2.1
  have q3 := q3'.out.2.2.2
  have ls3 : s < w3.heap.size := q3'.out.lt
  have LS3 : Hid (s < w3.heap.size) := ls3
  clear n0' b3 M2 B2
  go_wp2_with fail
  generalize w3.alloc (.cells #[.int .i64 (askV P gu), .slice za0 zl zc0] 31) = W3 at *
  generalize w3.heap.size = s3 at *
  clear q0 q1 q2 q3 ls3 q3' NZ3
  refine (to_policy _ _ _ _ _ _ _ _ _ _ _ _ P _ (HP.out.stay B3.out) SM.out).mono ?_
  rintro e w4 ⟨k0, k1, k2, k3, rfl, m4, b4⟩
  have B4 : Hid (Below _ W (w4.alloc (.cells #[.slice (some ⟨k0, 0, none⟩) n0 n0, .slice (some ⟨k1, 0, none⟩) n1 n1, .slice (some ⟨k2, 0, none⟩) n2 n2, .slice (some ⟨k3, 0, none⟩) n3 n3] 37))) := al (on B3.out b4) _
  have M4 : Hid (Mde w4 W3.heap.size _ _ _ _ _ _ _ _ P) := m4
  have D4 : Hid (Below w4.heap.size w4 (w4.alloc (.cells #[.slice (some ⟨k0, 0, none⟩) n0 n0, .slice (some ⟨k1, 0, none⟩) n1 n1, .slice (some ⟨k2, 0, none⟩) n2 n2, .slice (some ⟨k3, 0, none⟩) n3 n3] 37))) := al (Below.refl _ _) _
  have X4 : Hid (C4 (w4.alloc (.cells #[.slice (some ⟨k0, 0, none⟩) n0 n0, .slice (some ⟨k1, 0, none⟩) n1 n1, .slice (some ⟨k2, 0, none⟩) n2 n2, .slice (some ⟨k3, 0, none⟩) n3 n3] 37)) w4.heap.size (.slice (some ⟨k0, 0, none⟩) n0 n0) (.slice (some ⟨k1, 0, none⟩) n1 n1) (.slice (some ⟨k2, 0, none⟩) n2 n2) (.slice (some ⟨k3, 0, none⟩) n3 n3)) := C4.new _ _ _ _ _ _
  have Y4 : Hid (C2 (w4.alloc (.cells #[.slice (some ⟨k0, 0, none⟩) n0 n0, .slice (some ⟨k1, 0, none⟩) n1 n1, .slice (some ⟨k2, 0, none⟩) n2 n2, .slice (some ⟨k3, 0, none⟩) n3 n3] 37)) s3 (.int .i64 (askV P gu)) (.slice za0 zl zc0)) := (Y3.out.keep b4).keep (al (Below.refl _ _) _)
  have N4 : Hid (Nums (w4.alloc (.cells #[.slice (some ⟨k0, 0, none⟩) n0 n0, .slice (some ⟨k1, 0, none⟩) n1 n1, .slice (some ⟨k2, 0, none⟩) n2 n2, .slice (some ⟨k3, 0, none⟩) n3 n3] 37)) _ _ (mayZ P gu)) := (N3.out.keep b4).keep (al (Below.refl _ _) _)
  have Z4 : Hid (W3.heap.size ≤ w4.heap.size ∧ w4.heap.size + 1 = (w4.alloc (.cells #[.slice (some ⟨k0, 0, none⟩) n0 n0, .slice (some ⟨k1, 0, none⟩) n1 n1, .slice (some ⟨k2, 0, none⟩) n2 n2, .slice (some ⟨k3, 0, none⟩) n3 n3] 37)).heap.size) := ⟨b4.size, by simp⟩
  clear m4 b4 Y3 N3
  go_wp2_with fail
  generalize w4.alloc (.cells #[.slice (some ⟨k0, 0, none⟩) n0 n0, .slice (some ⟨k1, 0, none⟩) n1 n1, .slice (some ⟨k2, 0, none⟩) n2 n2, .slice (some ⟨k3, 0, none⟩) n3 n3] 37) = W4 at *
  obtain ⟨s4, hs4⟩ : ∃ s4, w4.heap.size = s4 := ⟨_, rfl⟩
  rw [hs4] at X4 Z4 ⊢
  have S4 : Hid (w4.heap.size = s4) := hs4
  clear hs4
  refine (i_may _ _ _ _ _ _ _ _ _ _ _ _ P _ _ (M4.out.keep D4.out).pl (cell_keep B4.out HG.out)).mono ?_
  rintro e w5 ⟨v1, rfl, n1', b5⟩
  obtain ⟨zb0, zd0, hz1, _, _, _⟩ := n1'.shape
  obtain ⟨yl, hyl⟩ : ∃ yl, (mayZ P gu).length = yl := ⟨_, rfl⟩
  rw [hyl] at hz1
  clear hyl
  subst hz1
  have WN : Hid (Below w5.heap.size w5 (w5.alloc (.cells #[.int .i64 (askV P gu), .slice zb0 yl zd0] 31))) := al (Below.refl _ _) _
  have B5 : Hid (Below _ W (w5.alloc (.cells #[.int .i64 (askV P gu), .slice zb0 yl zd0] 31))) := al (on B4.out b5) _
  have D5 : Hid (Below w4.heap.size w4 (w5.alloc (.cells #[.int .i64 (askV P gu), .slice zb0 yl zd0] 31))) := al (on D4.out b5) _
  have G5 : Hid (C2 (w5.alloc (.cells #[.int .i64 (askV P gu), .slice zb0 yl zd0] 31)) w5.heap.size (.int .i64 (askV P gu)) (.slice zb0 yl zd0)) := C2.new _ _ _ _
  have X5 : Hid (C4 (w5.alloc (.cells #[.int .i64 (askV P gu), .slice zb0 yl zd0] 31)) s4 (.slice (some ⟨k0, 0, none⟩) n0 n0) (.slice (some ⟨k1, 0, none⟩) n1 n1) (.slice (some ⟨k2, 0, none⟩) n2 n2) (.slice (some ⟨k3, 0, none⟩) n3 n3)) := (X4.out.keep b5).keep WN.out
  have Y5 : Hid (C2 (w5.alloc (.cells #[.int .i64 (askV P gu), .slice zb0 yl zd0] 31)) s3 (.int .i64 (askV P gu)) (.slice za0 zl zc0)) := (Y4.out.keep b5).keep WN.out
  have N5 : Hid (Nums (w5.alloc (.cells #[.int .i64 (askV P gu), .slice zb0 yl zd0] 31)) _ (.slice za0 zl zc0) (mayZ P gu)) := (N4.out.keep b5).keep WN.out
  have O5 : Hid (Nums (w5.alloc (.cells #[.int .i64 (askV P gu), .slice zb0 yl zd0] 31)) _ (.slice zb0 yl zd0) (mayZ P gu)) := n1'.keep WN.out
  have L5 : Hid (∀ k, (Value.slice zb0 yl zd0).ownBlock = some k → W4.heap.size ≤ k ∧ k < w5.heap.size) := fun k e => n1'.lt k e
  have LB5 : Hid True := trivial
  have Z5 : Hid (W4.heap.size ≤ w5.heap.size) := b5.size
  have y5 : Hid (C2 w5 s3 (.int .i64 (askV P gu)) (.slice za0 zl zc0)) := Y4.out.keep b5
  have y0 := y5.out.1
  have y1 := y5.out.2
  have ly : s3 < w5.heap.size := y5.out.lt
  clear b5 n1' X4 Y4 N4 WN
  go_wp2_with fail
  generalize w5.alloc (.cells #[.int .i64 (askV P gu), .slice zb0 yl zd0] 31) = W5 at *
  generalize w5.heap.size = s5 at *
  clear y0 y1 ly y5
  refine (eq_ints _ _ _ _ _ _ _ O5.out N5.out).mono ?_
  rintro e w6 ⟨rfl, b6⟩
  have B6 := B5
  have Bw6 : Hid (Below _ W w6) := on B5.out b6
  have Xw6 : Hid (C4 w6 s4 (.slice (some ⟨k0, 0, none⟩) n0 n0) (.slice (some ⟨k1, 0, none⟩) n1 n1) (.slice (some ⟨k2, 0, none⟩) n2 n2) (.slice (some ⟨k3, 0, none⟩) n3 n3)) := X5.out.keep b6
  have Yw6 : Hid (C2 w6 s3 (.int .i64 (askV P gu)) (.slice za0 zl zc0)) := Y5.out.keep b6
  have Gw6 : Hid (C2 w6 s5 (.int .i64 (askV P gu)) (.slice zb0 yl zd0)) := G5.out.keep b6
  have Nw6 : Hid (Nums w6 _ (.slice za0 zl zc0) (mayZ P gu)) := N5.out.keep b6
  have Ow6 : Hid (Nums w6 _ (.slice zb0 yl zd0) (mayZ P gu)) := O5.out.keep b6
  have Dw6 : Hid (Below w4.heap.size w4 w6) := on D5.out b6
  have Qw6 : Hid (C4 w6 s (.slice a0 n0 c0) (.slice a1 n1 c1) (.slice a2 n2 c2) (.slice a3 n3 c3)) := Q.out.keep Bw6.out
  have M5 : Hid (Mde w6 _ _ _ _ _ _ _ _ _ P) := M4.out.keep Dw6.out
  have q0 := Qw6.out.1
  have q1 := Qw6.out.2.1
  have q2 := Qw6.out.2.2.1
  have q3 := Qw6.out.2.2.2
  have x0 := Xw6.out.1
  have x1 := Xw6.out.2.1
  have x2 := Xw6.out.2.2.1
  have x3 := Xw6.out.2.2.2
  clear b6 B6 B5 X5 Y5 G5 N5 O5 D5
  go_wp2_with fail
  go_cut [35] from 31 to 34 (fun c wx => c = .bool false ∧ Below w6.heap.size w6 wx)
  case first =>
    go_region_with (first
      | (go_at_call 7; refine (to_policy _ _ _ _ _ _ _ _ _ _ _ _ P _ (HP.out.stay (by first | exact Bw6.out | exact Bw6.out.drew | exact Bw6.out.drew.drew | exact Bw6.out.drew.drew.drew)) SM.out).mono ?_; rintro e w8 ⟨h0, h1, h2, h3, rfl, m8, b8⟩; have E8 : Hid (Below w6.heap.size w6 w8) := (by first | exact b8 | exact on (Below.refl _ _).drew b8 | exact on (Below.refl _ _).drew.drew b8 | exact on (Below.refl _ _).drew.drew.drew b8); have x0 := cell_keep b8 x0; have x1 := cell_keep b8 x1; have x2 := cell_keep b8 x2; have x3 := cell_keep b8 x3; (first | have N8 := M5.out.keep b8 | have N8 := (M5.out.keep (Below.refl _ _).drew).keep b8 | have N8 := (M5.out.keep (Below.refl _ _).drew.drew).keep b8 | have N8 := (M5.out.keep (Below.refl _ _).drew.drew.drew).keep b8); clear b8)
      | (go_at_call 10; refine (eq_policy _ _ _ _ _ _ _ _ _ _ _ _ P _ _ _ (by first | exact N8 | exact N8.keep (Below.refl _ _).drew | exact N8.keep (Below.refl _ _).drew.drew) (by first | exact m8 | exact m8.keep (Below.refl _ _).drew | exact m8.keep (Below.refl _ _).drew.drew)).mono ?_; rintro e w7 ⟨rfl, b7⟩; (first | have E7 : Hid (Below w6.heap.size w6 w7) := on E8.out b7 | have E7 : Hid (Below w6.heap.size w6 w7) := on E8.out.drew b7 | have E7 : Hid (Below w6.heap.size w6 w7) := on E8.out.drew.drew b7); clear b7))
    all_goals (go_wp2_with fail; go_meet; exact ⟨rfl, by first | exact E7.out | exact E7.out.drew⟩)
  case rest =>
  obtain ⟨rfl, b7⟩ := hcut
  have Bwc : Hid (Below _ W wc) := on Bw6.out b7
  have Xwc : Hid (C4 wc s4 (.slice (some ⟨k0, 0, none⟩) n0 n0) (.slice (some ⟨k1, 0, none⟩) n1 n1) (.slice (some ⟨k2, 0, none⟩) n2 n2) (.slice (some ⟨k3, 0, none⟩) n3 n3)) := Xw6.out.keep b7
  have Ywc : Hid (C2 wc s3 (.int .i64 (askV P gu)) (.slice za0 zl zc0)) := Yw6.out.keep b7
  have Gwc : Hid (C2 wc s5 (.int .i64 (askV P gu)) (.slice zb0 yl zd0)) := Gw6.out.keep b7
  have Nwc : Hid (Nums wc _ (.slice za0 zl zc0) (mayZ P gu)) := Nw6.out.keep b7
  have Owc : Hid (Nums wc _ (.slice zb0 yl zd0) (mayZ P gu)) := Ow6.out.keep b7
  have Dwc : Hid (Below w4.heap.size w4 wc) := on Dw6.out b7
  clear b7 q0 q1 q2 q3 x0 x1 x2 x3 Xw6 Yw6 Gw6 Nw6 Ow6 Dw6 Bw6 M5 Qw6
  have x0 := Xwc.out.1
  have x1 := Xwc.out.2.1
  have x2 := Xwc.out.2.2.1
  have x3 := Xwc.out.2.2.2
  go_wp2_with fail
  refine (mark_policy _ _ _ _ _ _ _ _ W3.heap.size w4.heap.size P w4 wc M4.out Dwc.out SM.out (by exact Nat.le_refl _)).mono ?_
  rintro e m1 ⟨⟨r1, rfl, hr1, hr1b⟩, mk1⟩
  clear x0 x1 x2 x3
  have Bm : Hid (Below _ W m1) := Mk.below Bwc.out mk1 (by have := B3.out.size; omega)
  have Ym : Hid (C2 m1 s3 (.int .i64 (askV P gu)) (.slice za0 zl zc0)) := Ywc.out.mk mk1 (.inl (by have := Z3.out; omega))
  have Gm : Hid (C2 m1 s5 (.int .i64 (askV P gu)) (.slice zb0 yl zd0)) := Gwc.out.mk mk1 (.inr (by have := S4.out; have := Z4.out.2; have := Z5.out; omega))
  have Nm : Hid (Nums m1 _ (.slice za0 zl zc0) (mayZ P gu)) := mk1.row Nwc.out (fun k e => .inl (by have := L3.out k e; have := Z3.out; omega))
  have Om : Hid (Nums m1 _ (.slice zb0 yl zd0) (mayZ P gu)) := mk1.row Owc.out (fun k e => .inr (by have := (L5.out k e).1; have := S4.out; have := Z4.out.2; omega))
  clear mk1
  have y0 := Ym.out.1
  have y1 := Ym.out.2
  have g0 := Gm.out.1
  have g1 := Gm.out.2
  go_wp2_with fail
  refine (eq_ints _ _ _ _ _ _ _ Om.out Nm.out).mono ?_
  rintro e t1 ⟨rfl, b7⟩
  clear y0 y1 g0 g1
  have Bt1 : Hid (Below _ W t1) := on Bm.out b7
  have Yt1 : Hid (C2 t1 s3 (.int .i64 (askV P gu)) (.slice za0 zl zc0)) := Ym.out.keep b7
  have Gt1 : Hid (C2 t1 s5 (.int .i64 (askV P gu)) (.slice zb0 yl zd0)) := Gm.out.keep b7
  have Nt1 : Hid (Nums t1 _ (.slice za0 zl zc0) (mayZ P gu)) := Nm.out.keep b7
  have Ot1 : Hid (Nums t1 _ (.slice zb0 yl zd0) (mayZ P gu)) := Om.out.keep b7
  clear b7 Ym Gm Nm Om
  have g0 := Gt1.out.1
  have g1 := Gt1.out.2
  go_wp2_with fail
  refine (mark_ints _ _ _ 1 _ _ Ot1.out (by decide) HLEN.out).mono ?_
  rintro e t2 ⟨rfl, n7, g7⟩
  have Yt2 : Hid (C2 t2 s3 (.int .i64 (askV P gu)) (.slice za0 zl zc0)) := Yt1.out.grown g7 (fun e => by have := (L5.out _ e.symm).1; have := Z3.out; have := Z4.out; omega)
  have Gt2 : Hid (C2 t2 s5 (.int .i64 (askV P gu)) (.slice zb0 yl zd0)) := Gt1.out.grown g7 (fun e => by have := (L5.out _ e.symm).2; omega)
  have Nt2 : Hid (Nums t2 _ (.slice za0 zl zc0) (mayZ P gu)) := Nt1.out.kept g7 (by
    cases e : (Value.slice za0 zl zc0).ownBlock with
    | none => exact .inl rfl
    | some x => exact .inr fun e2 => by have := L3.out x e; have := (L5.out x e2.symm).1; have := Z3.out; have := Z4.out; omega)
  have Ot2 : Hid (Nums t2 _ (.slice zb0 yl zd0) (marks 1 (mayZ P gu).length)) := n7
  have Bt2 : Hid (Below _ W t2) := below_of_grown Bt1.out g7 Ot1.out (by have := B4.out.size; omega)
  clear n7 g7 g0 g1
  have g0 := Gt2.out.1
  have g1 := Gt2.out.2
  go_wp2_with fail
  refine (held_ints _ _ 1 (mayZ P gu).length _ _ Ot2.out (by decide) HLEN.out).mono ?_
  rintro e t3 ⟨rfl, b7⟩
  clear g0 g1
  have Bt3 : Hid (Below _ W t3) := on Bt2.out b7
  have Yt3 : Hid (C2 t3 s3 (.int .i64 (askV P gu)) (.slice za0 zl zc0)) := Yt2.out.keep b7
  have Gt3 : Hid (C2 t3 s5 (.int .i64 (askV P gu)) (.slice zb0 yl zd0)) := Gt2.out.keep b7
  have Nt3 : Hid (Nums t3 _ (.slice za0 zl zc0) (mayZ P gu)) := Nt2.out.keep b7
  have Ot3 : Hid (Nums t3 _ (.slice zb0 yl zd0) (marks 1 (mayZ P gu).length)) := Ot2.out.keep b7
  have Qt3 : Hid (C4 t3 s (.slice a0 n0 c0) (.slice a1 n1 c1) (.slice a2 n2 c2) (.slice a3 n3 c3)) := Q.out.keep Bt3.out
  clear b7 Yt2 Gt2 Nt2 Ot2
  have q0 := Qt3.out.1
  have q1 := Qt3.out.2.1
  have q2 := Qt3.out.2.2.1
  have q3 := Qt3.out.2.2.2
  go_wp2_with fail
  refine (to_policy _ _ _ _ _ _ _ _ _ _ _ _ P _ (HP.out.stay Bt3.out) SM.out).mono ?_
  rintro e t4 ⟨h0, h1, h2, h3, rfl, m9, b7⟩
  clear q0 q1 q2 q3
  have Bt4 : Hid (Below _ W t4) := on Bt3.out b7
  have Yt4 : Hid (C2 t4 s3 (.int .i64 (askV P gu)) (.slice za0 zl zc0)) := Yt3.out.keep b7
  have Gt4 : Hid (C2 t4 s5 (.int .i64 (askV P gu)) (.slice zb0 yl zd0)) := Gt3.out.keep b7
  have Nt4 : Hid (Nums t4 _ (.slice za0 zl zc0) (mayZ P gu)) := Nt3.out.keep b7
  have Ot4 : Hid (Nums t4 _ (.slice zb0 yl zd0) (marks 1 (mayZ P gu).length)) := Ot3.out.keep b7
  have M9 : Hid (Mde t4 _ _ _ _ _ _ _ _ _ P) := m9
  clear b7 m9
  go_wp2_with fail
  refine (i_may _ _ _ _ _ _ _ _ _ _ _ _ P _ _ M9.out.pl (cell_keep Bt4.out HG.out)).mono ?_
  rintro e t6 ⟨v2, rfl, n2', b7⟩
  obtain ⟨zz0, zz1, hz2, _, _, _⟩ := n2'.shape
  obtain ⟨xl, hxl⟩ : ∃ xl, (mayZ P gu).length = xl := ⟨_, rfl⟩
  rw [hxl] at hz2
  clear hxl
  subst hz2
  have WN : Hid (Below t6.heap.size t6 (t6.alloc (.cells #[.int .i64 (askV P gu), .slice zz0 xl zz1] 31))) := al (Below.refl _ _) _
  have H6 : Hid (Nums (t6.alloc (.cells #[.int .i64 (askV P gu), .slice zz0 xl zz1] 31)) _ (.slice zz0 xl zz1) (mayZ P gu)) := n2'.keep WN.out
  have B7 : Hid (Below t6.heap.size t6 (t6.alloc (.cells #[.int .i64 (askV P gu), .slice zz0 xl zz1] 31))) := WN.out
  clear n2'
  have Bt6 : Hid (Below _ W t6) := on Bt4.out b7
  have Yt6 : Hid (C2 t6 s3 (.int .i64 (askV P gu)) (.slice za0 zl zc0)) := Yt4.out.keep b7
  have Gt6 : Hid (C2 t6 s5 (.int .i64 (askV P gu)) (.slice zb0 yl zd0)) := Gt4.out.keep b7
  have Nt6 : Hid (Nums t6 _ (.slice za0 zl zc0) (mayZ P gu)) := Nt4.out.keep b7
  have Ot6 : Hid (Nums t6 _ (.slice zb0 yl zd0) (marks 1 (mayZ P gu).length)) := Ot4.out.keep b7
  have y0 := Yt6.out.1
  have y1 := Yt6.out.2
  have l6 : s3 < t6.heap.size := Yt6.out.lt
  clear b7
  go_wp2_with fail
  refine (eq_ints _ _ _ _ _ _ _ H6.out (Nt6.out.keep B7.out)).mono ?_
  rintro e t7 ⟨rfl, b8⟩
  have b7 := on B7.out b8
  clear b8 y0 y1 l6
  have Bt7 : Hid (Below _ W t7) := on Bt6.out b7
  have Gt7 : Hid (C2 t7 s5 (.int .i64 (askV P gu)) (.slice zb0 yl zd0)) := Gt6.out.keep b7
  have Ot7 : Hid (Nums t7 _ (.slice zb0 yl zd0) (marks 1 (mayZ P gu).length)) := Ot6.out.keep b7
  clear b7
  have g0 := Gt7.out.1
  have g1 := Gt7.out.2
  go_wp2_with fail
  refine (held_ints _ _ 1 (mayZ P gu).length _ _ Ot7.out (by decide) HLEN.out).mono ?_
  rintro e t8 ⟨rfl, b8⟩
  go_wp2_with fail
  go_ret
  exact ⟨rfl, on B0.out (on Bt7.out b8)⟩
end Go.Proofs.YtnhebeehpkecfaaGreatDoor.fnExactMayChangeDone
