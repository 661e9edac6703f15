/- The walk of a law. -/
import Derived.Test.YtnhhbpemdgdaiaaGreatDoorBase
import Derived.Test.YtnhhbpemdgdaiaaGreatDoorCards
import Derived.Test.YtnhhbpemdgdaiaaGreatDoorTie
import Derived.Deep.DeepHandedRow
import Derived.LaidHandle
import Derived.LaidLaws
import Derived.Lib.LaidTab
import Derived.Stop.LaidErr
import Derived.Test.YtnhhbpemdgdaiaaGreatDoorPoo
import Derived.Test.YtnhhbpemdgdaiaaGreatDoorPlt
import Derived.Lib.SmallJoins
import Derived.Test.YtnhhbpemdgdaiaaGreatDoorWrs
import Derived.Test.YtnhhbpemdgdaiaaGreatDoorWri
import Derived.Test.YtnhhbpemdgdaiaaGreatDoorPlw
import Derived.Test.YtnhhbpemdgdaiaaGreatDoorIntr
import Derived.Test.YtnhhbpemdgdaiaaGreatDoorPlt
import Derived.Test.YtnhhbpemdgdaiaaGreatDoorPoo
import Derived.Deep.RegionWith
import Derived.Deep.Cut
import Derived.Deep.CutRange
namespace Go.Proofs.YtnhhbpemdgdaiaaGreatDoor.fnExactWordsOfDone
open Go.ChangeShapes Go.WideShapes Go.ChangeAt Go.RowKit
open Go.ChangeMaps (open_string shut_string)
set_option linter.unusedVariables false

set_option maxRecDepth 20000 in
set_option maxHeartbeats 8000000 in
theorem walk (a0 a1 a2 a3 : Option Addr) (n0 c0 n1 c1 n2 c2 n3 c3 : Nat) (P : Plc) (am : Option Addr) (lm cm : Nat) (ms : List Int) (gu : Int) (w : World) (h : Pin w a0 n0 c0 a1 n1 c1 a2 n2 c2 a3 n3 c3 P) (hm : IsRow .i64 w am lm cm ms) (wgu : (Lit.int .i64 gu).wf = true) (hg : w.cell? ⟨0, 0, none⟩ = some (.iface 130 (.agg #[.pointer (some ⟨1, 95, none⟩)]))) :
    Calls Tryz.prog 3 #[.agg #[.slice a0 n0 c0, .slice a1 n1 c1, .slice a2 n2 c2, .slice a3 n3 c3], .slice am lm cm, .int .i64 gu] w fun e w' => e = .returned (.bool true) ∧ Below w.heap.size w w' := by
  generalize hW : w.alloc (.cells #[.slice a0 n0 c0, .slice a1 n1 c1, .slice a2 n2 c2, .slice a3 n3 c3] 27) = W
  have B0 : Hid (Below w.heap.size w W) := by show Below _ _ _; rw [← hW]; exact al (Below.refl _ _) _
  obtain ⟨s, hS⟩ : ∃ s, w.heap.size = s := ⟨_, rfl⟩
  have Q : Hid (C4 W s (.slice a0 n0 c0) (.slice a1 n1 c1) (.slice a2 n2 c2) (.slice a3 n3 c3)) := by
    show C4 _ _ _ _ _ _
    rw [← hW, ← hS]
    exact C4.new _ _ _ _ _ _
  have HP : Hid (Pin W a0 n0 c0 a1 n1 c1 a2 n2 c2 a3 n3 c3 P) := h.stay B0.out
  have HG : Hid (W.cell? ⟨0, 0, none⟩ = some (.iface 130 (.agg #[.pointer (some ⟨1, 95, none⟩)]))) := cell_keep B0.out hg
  have HLEN : Hid (1 + ((wordsZ P ms gu).length : Int) ≤ 4611686018427387904) := by have := words_len P ms gu; show _ ≤ _; omega
  have HR : Hid (IsRow .i64 W am lm cm ms) := hm.stay B0.out
  have HRL : Hid (lm = ms.length ∧ lm ≤ 9223372036854775807) := hm.lens
  have hlmI : (lm : Int) ≤ 9223372036854775807 := by have := hm.lens.2; omega
  clear h hg wgu hm
  have q0 := Q.out.1
  have q1 := Q.out.2.1
  have q2 := Q.out.2.2.1
  have q3 := Q.out.2.2.2
  by_cases hbig : (1048576 : Int) < lm
  · go_enter Tryz.func3, Tryz.ntmps3
    go_wp2_with fail
    go_ret
    exact ⟨rfl, B0.out⟩
  have hsm : Hid (lm ≤ 1048576) := by show _ ≤ _; omega
  go_enter Tryz.func3, Tryz.ntmps3
  go_wp2_with fail
  clear hW hS
  refine (sz_policy _ _ _ _ _ _ _ _ _ _ _ _ P _ HP.out).mono ?_
  rintro e w1 ⟨⟨r, rfl, hr, hs⟩, b1⟩
  by_cases hneg : r < 0
  · go_wp2_with fail
    go_ret
    exact ⟨rfl, on B0.out b1⟩
  have SM : Hid (Small n0 n1 n2 n3 P) := hs (by omega)
  have B1 : Hid (Below _ W w1) := b1
  have Qw1 : Hid (C4 w1 s (.slice a0 n0 c0) (.slice a1 n1 c1) (.slice a2 n2 c2) (.slice a3 n3 c3)) := Q.out.keep b1
  have q0 := Qw1.out.1
  have q1 := Qw1.out.2.1
  have q2 := Qw1.out.2.2.1
  have q3 := Qw1.out.2.2.2
  clear hs b1
  go_wp2_with fail
  refine (to_policy _ _ _ _ _ _ _ _ _ _ _ _ P _ (HP.out.stay B1.out) SM.out).mono ?_
  rintro e w2 ⟨g0, g1, g2, g3, rfl, m2, b2⟩
  have B2 : Hid (Below _ W w2) := on B1.out b2
  have M2 : Hid (Mde w2 _ _ _ _ _ _ _ _ _ P) := m2
  clear m2 b2
  go_wp2_with fail
  refine (to_nums _ _ _ _ _ (HR.out.stay B2.out) hsm.out).mono ?_
  rintro e w2b ⟨gx, rfl, mx, b2⟩
  have B2b : Hid (Below _ W w2b) := on B2.out b2
  have M2b : Hid (Mde w2b _ _ _ _ _ _ _ _ _ P) := M2.out.keep b2
  have X2 : Hid (Nums w2b _ _ ms) := mx
  clear mx b2
  go_wp2_with fail
  refine (s_wordsOf _ _ _ _ _ _ _ _ _ _ _ _ P _ _ _ _ _ _ _ M2b.out.pl X2.out).mono ?_
  rintro e w3 ⟨v0, rfl, n0', b3⟩
  obtain ⟨za0, zc0, hz0, _, _, _⟩ := n0'.shape
  obtain ⟨zl, hzl⟩ : ∃ zl, (wordsZ P ms gu).length = zl := ⟨_, rfl⟩
  rw [hzl] at hz0
  clear hzl
  subst hz0
  have NZ3 : Hid (Nums w3 _ _ (wordsZ P ms gu)) := n0'
  have B3 : Hid (Below _ W (w3.alloc (.cells #[.int .i64 (wordsC P ms gu), .slice za0 zl zc0] 31))) := al (on B2b.out b3) _
  have Y3 : Hid (C2 (w3.alloc (.cells #[.int .i64 (wordsC P ms gu), .slice za0 zl zc0] 31)) w3.heap.size (.int .i64 (wordsC P ms gu)) (.slice za0 zl zc0)) := C2.new _ _ _ _
  have N3 : Hid (Nums (w3.alloc (.cells #[.int .i64 (wordsC P ms gu), .slice za0 zl zc0] 31)) _ _ (wordsZ P ms gu)) := n0'.keep (al (Below.refl _ _) _)
  have L3 : Hid (∀ k, (Value.slice za0 zl zc0).ownBlock = some k → k < w3.heap.size) := fun k e => (n0'.lt k e).2
  have Z3 : Hid (w3.heap.size + 1 = (w3.alloc (.cells #[.int .i64 (wordsC P ms gu), .slice za0 zl zc0] 31)).heap.size) := by show _ = _; simp
  have q3' : Hid (C4 w3 s (.slice a0 n0 c0) (.slice a1 n1 c1) (.slice a2 n2 c2) (.slice a3 n3 c3)) := Q.out.keep (on B2b.out b3)
  have q0 := q3'.out.1
  have q1 := q3'.out.2.1
  have q2 := q3'.out.2.2.1
  have q3 := q3'.out.2.2.2
  have ls3 : s < w3.heap.size := q3'.out.lt
  have LS3 : Hid (s < w3.heap.size) := ls3
  clear n0' b3 M2 B2 M2b B2b X2
  go_wp2_with fail
  generalize w3.alloc (.cells #[.int .i64 (wordsC P ms gu), .slice za0 zl zc0] 31) = W3 at *
  generalize w3.heap.size = s3 at *
  clear q0 q1 q2 q3 ls3 q3' NZ3
  refine (to_policy _ _ _ _ _ _ _ _ _ _ _ _ P _ (HP.out.stay B3.out) SM.out).mono ?_
  rintro e w4 ⟨k0, k1, k2, k3, rfl, m4, b4⟩
  have B4 : Hid (Below _ W (w4.alloc (.cells #[.slice (some ⟨k0, 0, none⟩) n0 n0, .slice (some ⟨k1, 0, none⟩) n1 n1, .slice (some ⟨k2, 0, none⟩) n2 n2, .slice (some ⟨k3, 0, none⟩) n3 n3] 37))) := al (on B3.out b4) _
  have M4 : Hid (Mde w4 W3.heap.size _ _ _ _ _ _ _ _ P) := m4
  have D4 : Hid (Below w4.heap.size w4 (w4.alloc (.cells #[.slice (some ⟨k0, 0, none⟩) n0 n0, .slice (some ⟨k1, 0, none⟩) n1 n1, .slice (some ⟨k2, 0, none⟩) n2 n2, .slice (some ⟨k3, 0, none⟩) n3 n3] 37))) := al (Below.refl _ _) _
  have X4 : Hid (C4 (w4.alloc (.cells #[.slice (some ⟨k0, 0, none⟩) n0 n0, .slice (some ⟨k1, 0, none⟩) n1 n1, .slice (some ⟨k2, 0, none⟩) n2 n2, .slice (some ⟨k3, 0, none⟩) n3 n3] 37)) w4.heap.size (.slice (some ⟨k0, 0, none⟩) n0 n0) (.slice (some ⟨k1, 0, none⟩) n1 n1) (.slice (some ⟨k2, 0, none⟩) n2 n2) (.slice (some ⟨k3, 0, none⟩) n3 n3)) := C4.new _ _ _ _ _ _
  have Y4 : Hid (C2 (w4.alloc (.cells #[.slice (some ⟨k0, 0, none⟩) n0 n0, .slice (some ⟨k1, 0, none⟩) n1 n1, .slice (some ⟨k2, 0, none⟩) n2 n2, .slice (some ⟨k3, 0, none⟩) n3 n3] 37)) s3 (.int .i64 (wordsC P ms gu)) (.slice za0 zl zc0)) := (Y3.out.keep b4).keep (al (Below.refl _ _) _)
  have N4 : Hid (Nums (w4.alloc (.cells #[.slice (some ⟨k0, 0, none⟩) n0 n0, .slice (some ⟨k1, 0, none⟩) n1 n1, .slice (some ⟨k2, 0, none⟩) n2 n2, .slice (some ⟨k3, 0, none⟩) n3 n3] 37)) _ _ (wordsZ P ms gu)) := (N3.out.keep b4).keep (al (Below.refl _ _) _)
  have Z4 : Hid (W3.heap.size ≤ w4.heap.size ∧ w4.heap.size + 1 = (w4.alloc (.cells #[.slice (some ⟨k0, 0, none⟩) n0 n0, .slice (some ⟨k1, 0, none⟩) n1 n1, .slice (some ⟨k2, 0, none⟩) n2 n2, .slice (some ⟨k3, 0, none⟩) n3 n3] 37)).heap.size) := ⟨b4.size, by simp⟩
  clear m4 b4 Y3 N3
  go_wp2_with fail
  generalize w4.alloc (.cells #[.slice (some ⟨k0, 0, none⟩) n0 n0, .slice (some ⟨k1, 0, none⟩) n1 n1, .slice (some ⟨k2, 0, none⟩) n2 n2, .slice (some ⟨k3, 0, none⟩) n3 n3] 37) = W4 at *
  obtain ⟨s4, hs4⟩ : ∃ s4, w4.heap.size = s4 := ⟨_, rfl⟩
  rw [hs4] at X4 Z4 ⊢
  have S4 : Hid (w4.heap.size = s4) := hs4
  clear hs4
  refine (to_nums _ _ _ _ _ (HR.out.stay B4.out) hsm.out).mono ?_
  rintro e w4b ⟨gy, rfl, my, b4⟩
  have B4b : Hid (Below _ W w4b) := on B4.out b4
  have D4b : Hid (Below w4.heap.size w4 w4b) := on D4.out b4
  have J4b : Hid (Nums w4b W4.heap.size (.slice (some ⟨gy, 0, none⟩) lm lm) ms) := my
  have X4b : Hid (C4 w4b s4 (.slice (some ⟨k0, 0, none⟩) n0 n0) (.slice (some ⟨k1, 0, none⟩) n1 n1) (.slice (some ⟨k2, 0, none⟩) n2 n2) (.slice (some ⟨k3, 0, none⟩) n3 n3)) := X4.out.keep b4
  have Y4b : Hid (C2 w4b s3 (.int .i64 (wordsC P ms gu)) (.slice za0 zl zc0)) := Y4.out.keep b4
  have N4b : Hid (Nums w4b _ _ (wordsZ P ms gu)) := N4.out.keep b4
  have Z4b : Hid (W4.heap.size ≤ w4b.heap.size) := b4.size
  clear my b4 D4 X4 Y4 N4 B4
  have x0 := X4b.out.1
  have x1 := X4b.out.2.1
  have x2 := X4b.out.2.2.1
  have x3 := X4b.out.2.2.2
  go_wp2_with fail
  refine (i_wordsOf _ _ _ _ _ _ _ _ _ _ _ _ P _ _ _ _ _ _ _ (M4.out.keep D4b.out).pl J4b.out (cell_keep B4b.out HG.out)).mono ?_
  rintro e w5 ⟨v1, rfl, n1', b5⟩
  obtain ⟨zb0, zd0, hz1, _, _, _⟩ := n1'.shape
  obtain ⟨yl, hyl⟩ : ∃ yl, (wordsZ P ms gu).length = yl := ⟨_, rfl⟩
  rw [hyl] at hz1
  clear hyl
  subst hz1
  have WN : Hid (Below w5.heap.size w5 (w5.alloc (.cells #[.int .i64 (wordsC P ms gu), .slice zb0 yl zd0] 31))) := al (Below.refl _ _) _
  have B5 : Hid (Below _ W (w5.alloc (.cells #[.int .i64 (wordsC P ms gu), .slice zb0 yl zd0] 31))) := al (on B4b.out b5) _
  have D5 : Hid (Below w4.heap.size w4 (w5.alloc (.cells #[.int .i64 (wordsC P ms gu), .slice zb0 yl zd0] 31))) := al (on D4b.out b5) _
  have G5 : Hid (C2 (w5.alloc (.cells #[.int .i64 (wordsC P ms gu), .slice zb0 yl zd0] 31)) w5.heap.size (.int .i64 (wordsC P ms gu)) (.slice zb0 yl zd0)) := C2.new _ _ _ _
  have X5 : Hid (C4 (w5.alloc (.cells #[.int .i64 (wordsC P ms gu), .slice zb0 yl zd0] 31)) s4 (.slice (some ⟨k0, 0, none⟩) n0 n0) (.slice (some ⟨k1, 0, none⟩) n1 n1) (.slice (some ⟨k2, 0, none⟩) n2 n2) (.slice (some ⟨k3, 0, none⟩) n3 n3)) := (X4b.out.keep b5).keep WN.out
  have Y5 : Hid (C2 (w5.alloc (.cells #[.int .i64 (wordsC P ms gu), .slice zb0 yl zd0] 31)) s3 (.int .i64 (wordsC P ms gu)) (.slice za0 zl zc0)) := (Y4b.out.keep b5).keep WN.out
  have N5 : Hid (Nums (w5.alloc (.cells #[.int .i64 (wordsC P ms gu), .slice zb0 yl zd0] 31)) _ (.slice za0 zl zc0) (wordsZ P ms gu)) := (N4b.out.keep b5).keep WN.out
  have O5 : Hid (Nums (w5.alloc (.cells #[.int .i64 (wordsC P ms gu), .slice zb0 yl zd0] 31)) _ (.slice zb0 yl zd0) (wordsZ P ms gu)) := n1'.keep WN.out
  have L5 : Hid (∀ k, (Value.slice zb0 yl zd0).ownBlock = some k → w4b.heap.size ≤ k ∧ k < w5.heap.size) := fun k e => n1'.lt k e
  have Z5 : Hid (w4b.heap.size ≤ w5.heap.size) := b5.size
  have y5 : Hid (C2 w5 s3 (.int .i64 (wordsC P ms gu)) (.slice za0 zl zc0)) := Y4b.out.keep b5
  have J5 : Hid (Nums (w5.alloc (.cells #[.int .i64 (wordsC P ms gu), .slice zb0 yl zd0] 31)) W4.heap.size (.slice (some ⟨gy, 0, none⟩) lm lm) ms) := (J4b.out.keep b5).keep WN.out
  have J5d : Hid (Below w4b.heap.size w4b (w5.alloc (.cells #[.int .i64 (wordsC P ms gu), .slice zb0 yl zd0] 31))) := al b5 _
  have y0 := y5.out.1
  have y1 := y5.out.2
  have ly : s3 < w5.heap.size := y5.out.lt
  clear b5 n1' X4b Y4b N4b WN
  go_wp2_with fail
  generalize w5.alloc (.cells #[.int .i64 (wordsC P ms gu), .slice zb0 yl zd0] 31) = W5 at *
  generalize w5.heap.size = s5 at *
  clear y0 y1 ly y5 x0 x1 x2 x3
  refine (eq_ints _ _ _ _ _ _ _ O5.out N5.out).mono ?_
  rintro e w6 ⟨rfl, b6⟩
  have B6 := B5
  have Bw6 : Hid (Below _ W w6) := on B5.out b6
  have Xw6 : Hid (C4 w6 s4 (.slice (some ⟨k0, 0, none⟩) n0 n0) (.slice (some ⟨k1, 0, none⟩) n1 n1) (.slice (some ⟨k2, 0, none⟩) n2 n2) (.slice (some ⟨k3, 0, none⟩) n3 n3)) := X5.out.keep b6
  have Yw6 : Hid (C2 w6 s3 (.int .i64 (wordsC P ms gu)) (.slice za0 zl zc0)) := Y5.out.keep b6
  have Gw6 : Hid (C2 w6 s5 (.int .i64 (wordsC P ms gu)) (.slice zb0 yl zd0)) := G5.out.keep b6
  have Nw6 : Hid (Nums w6 _ (.slice za0 zl zc0) (wordsZ P ms gu)) := N5.out.keep b6
  have Ow6 : Hid (Nums w6 _ (.slice zb0 yl zd0) (wordsZ P ms gu)) := O5.out.keep b6
  have Dw6 : Hid (Below w4.heap.size w4 w6) := on D5.out b6
  have Jw6 : Hid (Nums w6 W4.heap.size (.slice (some ⟨gy, 0, none⟩) lm lm) ms) := J5.out.keep b6
  have Jw6d : Hid (Below w4b.heap.size w4b w6) := on J5d.out b6
  have Qw6 : Hid (C4 w6 s (.slice a0 n0 c0) (.slice a1 n1 c1) (.slice a2 n2 c2) (.slice a3 n3 c3)) := Q.out.keep Bw6.out
  have M5 : Hid (Mde w6 _ _ _ _ _ _ _ _ _ P) := M4.out.keep Dw6.out
  have q0 := Qw6.out.1
  have q1 := Qw6.out.2.1
  have q2 := Qw6.out.2.2.1
  have q3 := Qw6.out.2.2.2
  have x0 := Xw6.out.1
  have x1 := Xw6.out.2.1
  have x2 := Xw6.out.2.2.1
  have x3 := Xw6.out.2.2.2
  clear b6 B6 B5 X5 Y5 G5 N5 O5 D5 J5 J5d
  go_wp2_with fail
  go_cut [46] from 16 to 94 (fun c wx => c = .bool false ∧ Below w6.heap.size w6 wx)
  case first =>
    go_region_with (first
      | (go_at_call 7; refine (to_policy _ _ _ _ _ _ _ _ _ _ _ _ P _ (HP.out.stay (by first | exact Bw6.out | exact Bw6.out.drew | exact Bw6.out.drew.drew | exact Bw6.out.drew.drew.drew)) SM.out).mono ?_; rintro e w8 ⟨h0, h1, h2, h3, rfl, m8, b8⟩; have E8 : Hid (Below w6.heap.size w6 w8) := (by first | exact b8 | exact on (Below.refl _ _).drew b8 | exact on (Below.refl _ _).drew.drew b8 | exact on (Below.refl _ _).drew.drew.drew b8); have x0 := cell_keep b8 x0; have x1 := cell_keep b8 x1; have x2 := cell_keep b8 x2; have x3 := cell_keep b8 x3; (first | have N8 := M5.out.keep b8 | have N8 := (M5.out.keep (Below.refl _ _).drew).keep b8 | have N8 := (M5.out.keep (Below.refl _ _).drew.drew).keep b8 | have N8 := (M5.out.keep (Below.refl _ _).drew.drew.drew).keep b8); clear b8)
      | (go_at_call 11; refine (eq_policy _ _ _ _ _ _ _ _ _ _ _ _ P _ _ _ (by first | exact N8 | exact N8.keep (Below.refl _ _).drew | exact N8.keep (Below.refl _ _).drew.drew) (by first | exact m8 | exact m8.keep (Below.refl _ _).drew | exact m8.keep (Below.refl _ _).drew.drew)).mono ?_; rintro e w7 ⟨rfl, b7⟩; (first | have E7 : Hid (Below w6.heap.size w6 w7) := on E8.out b7 | have E7 : Hid (Below w6.heap.size w6 w7) := on E8.out.drew b7 | have E7 : Hid (Below w6.heap.size w6 w7) := on E8.out.drew.drew b7); clear b7))
    all_goals (go_wp2_with fail; go_meet; exact ⟨rfl, by first | exact E7.out | exact E7.out.drew⟩)
  case rest =>
  obtain ⟨rfl, b7⟩ := hcut
  have Bwc : Hid (Below _ W wc) := on Bw6.out b7
  have Xwc : Hid (C4 wc s4 (.slice (some ⟨k0, 0, none⟩) n0 n0) (.slice (some ⟨k1, 0, none⟩) n1 n1) (.slice (some ⟨k2, 0, none⟩) n2 n2) (.slice (some ⟨k3, 0, none⟩) n3 n3)) := Xw6.out.keep b7
  have Ywc : Hid (C2 wc s3 (.int .i64 (wordsC P ms gu)) (.slice za0 zl zc0)) := Yw6.out.keep b7
  have Gwc : Hid (C2 wc s5 (.int .i64 (wordsC P ms gu)) (.slice zb0 yl zd0)) := Gw6.out.keep b7
  have Nwc : Hid (Nums wc _ (.slice za0 zl zc0) (wordsZ P ms gu)) := Nw6.out.keep b7
  have Owc : Hid (Nums wc _ (.slice zb0 yl zd0) (wordsZ P ms gu)) := Ow6.out.keep b7
  have Dwc : Hid (Below w4.heap.size w4 wc) := on Dw6.out b7
  have Jwc : Hid (Nums wc W4.heap.size (.slice (some ⟨gy, 0, none⟩) lm lm) ms) := Jw6.out.keep b7
  have Jwcd : Hid (Below w4b.heap.size w4b wc) := on Jw6d.out b7
  clear b7 q0 q1 q2 q3 x0 x1 x2 x3 Xw6 Yw6 Gw6 Nw6 Ow6 Dw6 Bw6 M5 Qw6 Jw6 Jw6d
  go_wp2_with fail
  refine (to_nums _ _ _ _ _ (HR.out.stay Bwc.out) hsm.out).mono ?_
  rintro e wd ⟨gv, rfl, mv, b7⟩
  have JN : Hid (Nums wd _ _ ms) := mv
  have Bwd : Hid (Below _ W wd) := on Bwc.out b7
  have Xwd : Hid (C4 wd s4 (.slice (some ⟨k0, 0, none⟩) n0 n0) (.slice (some ⟨k1, 0, none⟩) n1 n1) (.slice (some ⟨k2, 0, none⟩) n2 n2) (.slice (some ⟨k3, 0, none⟩) n3 n3)) := Xwc.out.keep b7
  have Ywd : Hid (C2 wd s3 (.int .i64 (wordsC P ms gu)) (.slice za0 zl zc0)) := Ywc.out.keep b7
  have Gwd : Hid (C2 wd s5 (.int .i64 (wordsC P ms gu)) (.slice zb0 yl zd0)) := Gwc.out.keep b7
  have Nwd : Hid (Nums wd _ (.slice za0 zl zc0) (wordsZ P ms gu)) := Nwc.out.keep b7
  have Owd : Hid (Nums wd _ (.slice zb0 yl zd0) (wordsZ P ms gu)) := Owc.out.keep b7
  have Dwd : Hid (Below w4.heap.size w4 wd) := on Dwc.out b7
  have Jwd : Hid (Nums wd W4.heap.size (.slice (some ⟨gy, 0, none⟩) lm lm) ms) := Jwc.out.keep b7
  have Jwdd : Hid (Below w4b.heap.size w4b wd) := on Jwcd.out b7
  clear b7 mv
  go_wp2_with fail
  refine (eq_nums _ _ _ _ _ _ Jwd.out JN.out).mono ?_
  rintro e we ⟨rfl, b7⟩
  have Bwe : Hid (Below _ W we) := on Bwd.out b7
  have Xwe : Hid (C4 we s4 (.slice (some ⟨k0, 0, none⟩) n0 n0) (.slice (some ⟨k1, 0, none⟩) n1 n1) (.slice (some ⟨k2, 0, none⟩) n2 n2) (.slice (some ⟨k3, 0, none⟩) n3 n3)) := Xwd.out.keep b7
  have Ywe : Hid (C2 we s3 (.int .i64 (wordsC P ms gu)) (.slice za0 zl zc0)) := Ywd.out.keep b7
  have Gwe : Hid (C2 we s5 (.int .i64 (wordsC P ms gu)) (.slice zb0 yl zd0)) := Gwd.out.keep b7
  have Nwe : Hid (Nums we _ (.slice za0 zl zc0) (wordsZ P ms gu)) := Nwd.out.keep b7
  have Owe : Hid (Nums we _ (.slice zb0 yl zd0) (wordsZ P ms gu)) := Owd.out.keep b7
  have Dwe : Hid (Below w4.heap.size w4 we) := on Dwd.out b7
  have Jwe : Hid (Nums we W4.heap.size (.slice (some ⟨gy, 0, none⟩) lm lm) ms) := Jwd.out.keep b7
  have Jwed : Hid (Below w4b.heap.size w4b we) := on Jwdd.out b7
  clear b7 JN
  have x0 := Xwe.out.1
  have x1 := Xwe.out.2.1
  have x2 := Xwe.out.2.2.1
  have x3 := Xwe.out.2.2.2
  go_wp2_with fail
  refine (mark_policy _ _ _ _ _ _ _ _ W3.heap.size w4b.heap.size P w4 we M4.out Dwe.out SM.out (by have := Z4.out.2; have := Z4b.out; have := S4.out; omega)).mono ?_
  rintro e m1 ⟨⟨r1, rfl, hr1, hr1b⟩, mk1⟩
  clear x0 x1 x2 x3
  go_wp2_with fail
  refine (mark_mb _ _ _ W3.heap.size w4b.heap.size _ _ ((((J4b.out.mb).stay Jwed.out).wide (by have := Z4.out.1; have := Z4.out.2; omega) (Nat.le_refl _)).mk mk1) hr1 (by have := hsm.out; omega)).mono ?_
  rintro e m2 ⟨rfl, mk2⟩
  have mk3 := mk1.trans mk2
  have hr2 : 0 ≤ r1 + (lm : Int) := by omega
  have hr2b : r1 + (lm : Int) ≤ 1100001048576 := by have := hsm.out; omega
  generalize r1 + (lm : Int) = r2 at *
  clear mk1 mk2 hr1 hr1b
  have Bm : Hid (Below _ W m2) := Mk.below Bwe.out mk3 (by have := B3.out.size; omega)
  have Ym : Hid (C2 m2 s3 (.int .i64 (wordsC P ms gu)) (.slice za0 zl zc0)) := Ywe.out.mk mk3 (.inl (by have := Z3.out; omega))
  have Gm : Hid (C2 m2 s5 (.int .i64 (wordsC P ms gu)) (.slice zb0 yl zd0)) := Gwe.out.mk mk3 (.inr (by have := S4.out; have := Z4.out.2; have := Z5.out; have := Z4b.out; omega))
  have Nm : Hid (Nums m2 _ (.slice za0 zl zc0) (wordsZ P ms gu)) := mk3.row Nwe.out (fun k e => .inl (by have := L3.out k e; have := Z3.out; omega))
  have Om : Hid (Nums m2 _ (.slice zb0 yl zd0) (wordsZ P ms gu)) := mk3.row Owe.out (fun k e => .inr (by have := (L5.out k e).1; have := S4.out; have := Z4.out.2; omega))
  clear mk3
  have y0 := Ym.out.1
  have y1 := Ym.out.2
  have g0 := Gm.out.1
  have g1 := Gm.out.2
  go_wp2_with fail
  refine (eq_ints _ _ _ _ _ _ _ Om.out Nm.out).mono ?_
  rintro e t1 ⟨rfl, b7⟩
  clear y0 y1 g0 g1
  have Bt1 : Hid (Below _ W t1) := on Bm.out b7
  have Yt1 : Hid (C2 t1 s3 (.int .i64 (wordsC P ms gu)) (.slice za0 zl zc0)) := Ym.out.keep b7
  have Gt1 : Hid (C2 t1 s5 (.int .i64 (wordsC P ms gu)) (.slice zb0 yl zd0)) := Gm.out.keep b7
  have Nt1 : Hid (Nums t1 _ (.slice za0 zl zc0) (wordsZ P ms gu)) := Nm.out.keep b7
  have Ot1 : Hid (Nums t1 _ (.slice zb0 yl zd0) (wordsZ P ms gu)) := Om.out.keep b7
  clear b7 Ym Gm Nm Om
  have g0 := Gt1.out.1
  have g1 := Gt1.out.2
  go_wp2_with fail
  refine (mark_ints _ _ _ 1 _ _ Ot1.out (by decide) HLEN.out).mono ?_
  rintro e t2 ⟨rfl, n7, g7⟩
  have Yt2 : Hid (C2 t2 s3 (.int .i64 (wordsC P ms gu)) (.slice za0 zl zc0)) := Yt1.out.grown g7 (fun e => by have := (L5.out _ e.symm).1; have := Z3.out; have := Z4.out; have := Z4b.out; omega)
  have Gt2 : Hid (C2 t2 s5 (.int .i64 (wordsC P ms gu)) (.slice zb0 yl zd0)) := Gt1.out.grown g7 (fun e => by have := (L5.out _ e.symm).2; omega)
  have Nt2 : Hid (Nums t2 _ (.slice za0 zl zc0) (wordsZ P ms gu)) := Nt1.out.kept g7 (by
    cases e : (Value.slice za0 zl zc0).ownBlock with
    | none => exact .inl rfl
    | some x => exact .inr fun e2 => by have := L3.out x e; have := (L5.out x e2.symm).1; have := Z3.out; have := Z4.out; have := Z4b.out; omega)
  have Ot2 : Hid (Nums t2 _ (.slice zb0 yl zd0) (marks 1 (wordsZ P ms gu).length)) := n7
  have Bt2 : Hid (Below _ W t2) := below_of_grown Bt1.out g7 Ot1.out (by have := B4b.out.size; omega)
  clear n7 g7 g0 g1
  have g0 := Gt2.out.1
  have g1 := Gt2.out.2
  go_wp2_with fail
  refine (held_ints _ _ 1 (wordsZ P ms gu).length _ _ Ot2.out (by decide) HLEN.out).mono ?_
  rintro e t3 ⟨rfl, b7⟩
  clear g0 g1
  have Bt3 : Hid (Below _ W t3) := on Bt2.out b7
  have Yt3 : Hid (C2 t3 s3 (.int .i64 (wordsC P ms gu)) (.slice za0 zl zc0)) := Yt2.out.keep b7
  have Gt3 : Hid (C2 t3 s5 (.int .i64 (wordsC P ms gu)) (.slice zb0 yl zd0)) := Gt2.out.keep b7
  have Nt3 : Hid (Nums t3 _ (.slice za0 zl zc0) (wordsZ P ms gu)) := Nt2.out.keep b7
  have Ot3 : Hid (Nums t3 _ (.slice zb0 yl zd0) (marks 1 (wordsZ P ms gu).length)) := Ot2.out.keep b7
  have Qt3 : Hid (C4 t3 s (.slice a0 n0 c0) (.slice a1 n1 c1) (.slice a2 n2 c2) (.slice a3 n3 c3)) := Q.out.keep Bt3.out
  clear b7 Yt2 Gt2 Nt2 Ot2
  have q0 := Qt3.out.1
  have q1 := Qt3.out.2.1
  have q2 := Qt3.out.2.2.1
  have q3 := Qt3.out.2.2.2
  go_wp2_with fail
  refine (to_policy _ _ _ _ _ _ _ _ _ _ _ _ P _ (HP.out.stay Bt3.out) SM.out).mono ?_
  rintro e t4 ⟨h0, h1, h2, h3, rfl, m9, b7⟩
  clear q0 q1 q2 q3
  have Bt4 : Hid (Below _ W t4) := on Bt3.out b7
  have Yt4 : Hid (C2 t4 s3 (.int .i64 (wordsC P ms gu)) (.slice za0 zl zc0)) := Yt3.out.keep b7
  have Gt4 : Hid (C2 t4 s5 (.int .i64 (wordsC P ms gu)) (.slice zb0 yl zd0)) := Gt3.out.keep b7
  have Nt4 : Hid (Nums t4 _ (.slice za0 zl zc0) (wordsZ P ms gu)) := Nt3.out.keep b7
  have Ot4 : Hid (Nums t4 _ (.slice zb0 yl zd0) (marks 1 (wordsZ P ms gu).length)) := Ot3.out.keep b7
  have M9 : Hid (Mde t4 _ _ _ _ _ _ _ _ _ P) := m9
  clear b7 m9
  go_wp2_with fail
  refine (to_nums _ _ _ _ _ (HR.out.stay Bt4.out) hsm.out).mono ?_
  rintro e t5 ⟨gz, rfl, mz, b7⟩
  have JZ : Hid (Nums t5 _ _ ms) := mz
  have M9b : Hid (Mde t5 _ _ _ _ _ _ _ _ _ P) := M9.out.keep b7
  have Bt5 : Hid (Below _ W t5) := on Bt4.out b7
  have Yt5 : Hid (C2 t5 s3 (.int .i64 (wordsC P ms gu)) (.slice za0 zl zc0)) := Yt4.out.keep b7
  have Gt5 : Hid (C2 t5 s5 (.int .i64 (wordsC P ms gu)) (.slice zb0 yl zd0)) := Gt4.out.keep b7
  have Nt5 : Hid (Nums t5 _ (.slice za0 zl zc0) (wordsZ P ms gu)) := Nt4.out.keep b7
  have Ot5 : Hid (Nums t5 _ (.slice zb0 yl zd0) (marks 1 (wordsZ P ms gu).length)) := Ot4.out.keep b7
  clear b7 mz
  go_wp2_with fail
  refine (i_wordsOf _ _ _ _ _ _ _ _ _ _ _ _ P _ _ _ _ _ _ _ M9b.out.pl JZ.out (cell_keep Bt5.out HG.out)).mono ?_
  rintro e t6 ⟨v2, rfl, n2', b7⟩
  obtain ⟨zz0, zz1, hz2, _, _, _⟩ := n2'.shape
  obtain ⟨xl, hxl⟩ : ∃ xl, (wordsZ P ms gu).length = xl := ⟨_, rfl⟩
  rw [hxl] at hz2
  clear hxl
  subst hz2
  have WN : Hid (Below t6.heap.size t6 (t6.alloc (.cells #[.int .i64 (wordsC P ms gu), .slice zz0 xl zz1] 31))) := al (Below.refl _ _) _
  have H6 : Hid (Nums (t6.alloc (.cells #[.int .i64 (wordsC P ms gu), .slice zz0 xl zz1] 31)) _ _ (wordsZ P ms gu)) := n2'.keep WN.out
  have B7 : Hid (Below t6.heap.size t6 (t6.alloc (.cells #[.int .i64 (wordsC P ms gu), .slice zz0 xl zz1] 31))) := WN.out
  clear n2'
  have Bt6 : Hid (Below _ W t6) := on Bt5.out b7
  have Yt6 : Hid (C2 t6 s3 (.int .i64 (wordsC P ms gu)) (.slice za0 zl zc0)) := Yt5.out.keep b7
  have Gt6 : Hid (C2 t6 s5 (.int .i64 (wordsC P ms gu)) (.slice zb0 yl zd0)) := Gt5.out.keep b7
  have Nt6 : Hid (Nums t6 _ (.slice za0 zl zc0) (wordsZ P ms gu)) := Nt5.out.keep b7
  have Ot6 : Hid (Nums t6 _ (.slice zb0 yl zd0) (marks 1 (wordsZ P ms gu).length)) := Ot5.out.keep b7
  have y0 := Yt6.out.1
  have y1 := Yt6.out.2
  have l6 : s3 < t6.heap.size := Yt6.out.lt
  clear b7
  go_wp2_with fail
  refine (eq_ints _ _ _ _ _ _ _ H6.out (Nt6.out.keep B7.out)).mono ?_
  rintro e t7 ⟨rfl, b8⟩
  have b7 := on B7.out b8
  clear b8 y0 y1 l6
  have Bt7 : Hid (Below _ W t7) := on Bt6.out b7
  have Gt7 : Hid (C2 t7 s5 (.int .i64 (wordsC P ms gu)) (.slice zb0 yl zd0)) := Gt6.out.keep b7
  have Ot7 : Hid (Nums t7 _ (.slice zb0 yl zd0) (marks 1 (wordsZ P ms gu).length)) := Ot6.out.keep b7
  clear b7
  have g0 := Gt7.out.1
  have g1 := Gt7.out.2
  go_wp2_with fail
  refine (held_ints _ _ 1 (wordsZ P ms gu).length _ _ Ot7.out (by decide) HLEN.out).mono ?_
  rintro e t8 ⟨rfl, b8⟩
  go_wp2_with fail
  go_ret
  exact ⟨rfl, on B0.out (on Bt7.out b8)⟩
end Go.Proofs.YtnhhbpemdgdaiaaGreatDoor.fnExactWordsOfDone
