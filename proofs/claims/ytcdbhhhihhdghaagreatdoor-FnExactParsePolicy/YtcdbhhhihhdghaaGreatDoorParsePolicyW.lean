/- The walk of a law. -/
import Derived.Test.YtcdbhhhihhdghaaGreatDoorCards
import Derived.Test.YtcdbhhhihhdghaaGreatDoorTie
import Derived.Deep.DeepHandedRow
import Derived.LaidHandle
import Derived.LaidLaws
import Derived.Lib.LaidTab
import Derived.Stop.LaidErr
import Derived.Shelf.Vars
import Derived.OpenVars
import Derived.Deep.RegionWith
import Derived.Deep.Cut
import Derived.Deep.CutRange
import Derived.Test.YtcdbhhhihhdghaaGreatDoorQ01
import Derived.Test.YtcdbhhhihhdghaaGreatDoorQ10
import Derived.Test.YtcdbhhhihhdghaaGreatDoorQ18
import Derived.Test.YtcdbhhhihhdghaaGreatDoorQ49
import Derived.Test.YtcdbhhhihhdghaaGreatDoorQ50
namespace Go.Proofs.YtcdbhhhihhdghaaGreatDoor.fnExactParsePolicyDone
open Go.ChangeShapes Go.WideShapes Go.ChangeAt Go.RowKit
open Go.ChangeMaps (open_string shut_string)
set_option linter.unusedVariables false

set_option maxRecDepth 20000 in
set_option maxHeartbeats 8000000 in
theorem walk (s0 : ByteArray) (w : World) (hs0 : s0.size ≤ maxLen) (gp : Gp w) :
    Calls Tryz.prog 3 #[.string s0] w fun e w' => e = .returned (.bool true) ∧ Below w.heap.size w w' := by
  obtain ⟨tx, rfl⟩ : ∃ tx, s0 = bq tx := ⟨_, bq_of s0⟩
  have hz : (bq tx).size = tx.length := bq_size tx
  obtain ⟨n, hn⟩ : ∃ n, tx.length = n := ⟨_, rfl⟩
  rw [hn] at hz
  have hmI : (n : Int) ≤ 9223372036854775807 := by rw [hz] at hs0; unfold maxLen at hs0; omega
  by_cases hbig : (1048576 : Int) < n
  · clear hs0
    go_enter Tryz.func3, Tryz.ntmps3
    go_wp2_with fail
    go_ret
    exact ⟨rfl, Below.refl _ _⟩
  have HB2 : Hid (tx.length ≤ 1048576) := by show _ ≤ _; omega
  have GP : Hid (Gp w) := gp
  have SI : Hid (∀ w, Calls Tryz.prog 4 #[.string (bq tx)] w fun e w' => ppO w w' (ppV tx) e ∧ Below w.heap.size w w') := fun w => s_parsePolicy tx HB2.out w
  have II : Hid (∀ w, Gp w → Calls Tryz.prog 5 #[.string (bq tx)] w fun e w' => ppO w w' (ppV tx) e ∧ Below w.heap.size w w') := fun w g => i_parsePolicy tx HB2.out w g
  have SQ : Hid (Spq (ppV tx).2.2) := spq_pp tx
  obtain ⟨V, hV⟩ : ∃ V, ppV tx = V := ⟨_, rfl⟩
  rw [hV] at SI II SQ
  obtain ⟨C, hC⟩ : ∃ C, V.1 = C := ⟨_, rfl⟩
  obtain ⟨A, hA⟩ : ∃ A : Int, ((V.2.1 : Nat) : Int) = A := ⟨_, rfl⟩
  obtain ⟨P, hP⟩ : ∃ P, V.2.2 = P := ⟨_, rfl⟩
  have VC : Hid (V.1 = C) := hC
  have VA : Hid (((V.2.1 : Nat) : Int) = A) := hA
  have VP : Hid (V.2.2 = P) := hP
  rw [hP] at SQ
  obtain ⟨e0, le0⟩ : ∃ n, P.own.length = n := ⟨_, rfl⟩
  obtain ⟨e1, le1⟩ : ∃ n, P.lanes.length = n := ⟨_, rfl⟩
  obtain ⟨e2, le2⟩ : ∃ n, P.bells.length = n := ⟨_, rfl⟩
  obtain ⟨e3, le3⟩ : ∃ n, P.plan.length = n := ⟨_, rfl⟩
  have LY : Hid (P.own.length = e0 ∧ P.lanes.length = e1 ∧ P.bells.length = e2 ∧ P.plan.length = e3) := ⟨le0, le1, le2, le3⟩
  clear hs0 hn gp hV hC hA hP le0 le1 le2 le3
  generalize bq tx = S at *
  go_enter Tryz.func3, Tryz.ntmps3
  go_wp2_with fail
  refine (SI.out _).mono ?_
  rintro e w1 ⟨⟨_, _, _, _, yxs, rfl, sp⟩, b1⟩
  obtain ⟨ya0, ya1, ya2, ya3, yk0, yk1, yk2, yk3, f0, f1, f2, f3⟩ := sp.shape
  subst f0 f1 f2 f3
  simp only [VC.out, VA.out, VP.out] at sp ⊢
  rw [LY.out.1, LY.out.2.1, LY.out.2.2.1, LY.out.2.2.2] at sp ⊢
  have Y0 : Hid (Wp w1 w.heap.size (.slice ya0 e0 yk0) (.slice ya1 e1 yk1) (.slice ya2 e2 yk2) (.slice ya3 e3 yk3) P yxs) := sp
  have B1 : Hid (Below w.heap.size w w1) := b1
  clear sp b1
  generalize hA1 : w1.alloc (.cells #[.int .i64 C, .int .i64 A, .slice ya0 e0 yk0, .slice ya1 e1 yk1, .slice ya2 e2 yk2, .slice ya3 e3 yk3] 29) = A1
  have D1 : Hid (Below w1.heap.size w1 A1) := by show Below _ _ _; rw [← hA1]; exact al (Below.refl _ _) _
  have KY : Hid (Kb A1 w1.heap.size #[.int .i64 C, .int .i64 A, .slice ya0 e0 yk0, .slice ya1 e1 yk1, .slice ya2 e2 yk2, .slice ya3 e3 yk3] 29) := by show Kb _ _ _ _; rw [← hA1]; exact Kb.new _ _ _
  have BA : Hid (Below w.heap.size w A1) := on B1.out D1.out
  have YA : Hid (Wp A1 w.heap.size (.slice ya0 e0 yk0) (.slice ya1 e1 yk1) (.slice ya2 e2 yk2) (.slice ya3 e3 yk3) P yxs) := Y0.out.keep D1.out
  have ly : w1.heap.size < A1.heap.size := KY.out.lt
  go_wp2_with fail
  clear ly
  refine (II.out _ (GP.out.keep BA.out)).mono ?_
  rintro e w2 ⟨⟨_, _, _, _, zxs, rfl, sp⟩, b2⟩
  obtain ⟨za0, za1, za2, za3, zk0, zk1, zk2, zk3, f0, f1, f2, f3⟩ := sp.shape
  subst f0 f1 f2 f3
  simp only [VC.out, VA.out, VP.out] at sp ⊢
  rw [LY.out.1, LY.out.2.1, LY.out.2.2.1, LY.out.2.2.2] at sp ⊢
  have Z0 : Hid (Wp w2 A1.heap.size (.slice za0 e0 zk0) (.slice za1 e1 zk1) (.slice za2 e2 zk2) (.slice za3 e3 zk3) P zxs) := sp
  have B2 : Hid (Below A1.heap.size A1 w2) := b2
  clear sp b2 hA1
  generalize hA2 : w2.alloc (.cells #[.int .i64 C, .int .i64 A, .slice za0 e0 zk0, .slice za1 e1 zk1, .slice za2 e2 zk2, .slice za3 e3 zk3] 29) = A2
  have D2 : Hid (Below w2.heap.size w2 A2) := by show Below _ _ _; rw [← hA2]; exact al (Below.refl _ _) _
  have KZ : Hid (Kb A2 w2.heap.size #[.int .i64 C, .int .i64 A, .slice za0 e0 zk0, .slice za1 e1 zk1, .slice za2 e2 zk2, .slice za3 e3 zk3] 29) := by show Kb _ _ _ _; rw [← hA2]; exact Kb.new _ _ _
  have B3 : Hid (Below A1.heap.size A1 A2) := on B2.out D2.out
  have ZA : Hid (Wp A2 A1.heap.size (.slice za0 e0 zk0) (.slice za1 e1 zk1) (.slice za2 e2 zk2) (.slice za3 e3 zk3) P zxs) := Z0.out.keep D2.out
  obtain ⟨g0, g1, g2, g3, R, PG0, LB⟩ := Z0.out.pg SQ.out
  have PG : Hid (Pg A2 za0 za1 za2 za3 e0 e1 e2 e3 g0 g1 g2 g3 R) := by show Pg ..; rw [← hA2]; exact PG0.alloc _
  have LL : Hid (∀ x ∈ pN g1 g2 g3 e1 e2 e3 R, A1.heap.size ≤ x.1.block ∧ x.1.block < w2.heap.size) := LB
  have lz : w2.heap.size < A2.heap.size := KZ.out.lt
  have ly : w1.heap.size < A1.heap.size := KY.out.lt
  clear PG0 LB
  have y0 := (KY.out.keep B3.out).cell (i := 0) rfl
  have y1 := (KY.out.keep B3.out).cell (i := 1) rfl
  have y2 := (KY.out.keep B3.out).cell (i := 2) rfl
  have y3 := (KY.out.keep B3.out).cell (i := 3) rfl
  have y4 := (KY.out.keep B3.out).cell (i := 4) rfl
  have y5 := (KY.out.keep B3.out).cell (i := 5) rfl
  have z0 := KZ.out.cell (i := 0) rfl
  have z1 := KZ.out.cell (i := 1) rfl
  have z2 := KZ.out.cell (i := 2) rfl
  have z3 := KZ.out.cell (i := 3) rfl
  have z4 := KZ.out.cell (i := 4) rfl
  have z5 := KZ.out.cell (i := 5) rfl
  go_wp2_with fail
  clear hA2 y0 y1 y2 y3 y4 y5 z0 z1 z2 z3 z4 z5 ly lz
  refine (eq_pres C A _ _ _ _ _ _ _ _ P zxs yxs _ _ _ ZA.out (YA.out.keep B3.out)).mono ?_
  rintro e w3 ⟨rfl, b3⟩
  have E3 : Hid (Below A2.heap.size A2 w3) := b3
  have F3 : Hid (Below A1.heap.size A1 w3) := on B3.out b3
  have KZ3 : Hid (Kb w3 w2.heap.size _ _) := KZ.out.keep b3
  have PG3 : Hid (Pg w3 za0 za1 za2 za3 e0 e1 e2 e3 g0 g1 g2 g3 R) := PG.out.keepB E3.out
  clear b3
  have z0 := KZ3.out.cell (i := 0) rfl
  have z1 := KZ3.out.cell (i := 1) rfl
  have z2 := KZ3.out.cell (i := 2) rfl
  have z3 := KZ3.out.cell (i := 3) rfl
  have z4 := KZ3.out.cell (i := 4) rfl
  have z5 := KZ3.out.cell (i := 5) rfl
  go_wp2_with fail
  clear z0 z1 z2 z3 z4 z5
  refine (mark_pres C A _ _ _ _ _ _ _ _ zk0 zk1 zk2 zk3 g0 g1 g2 g3 R _ PG3.out).mono ?_
  rintro e w4 ⟨rfl, mx⟩
  have M4 : Hid (Mx (pN g1 g2 g3 e1 e2 e3 R) 1 w3 w4) := mx
  have B4 : Hid (Below A1.heap.size A1 w4) := F3.out.trans (M4.out.lowB (fun x hx => (LL.out x hx).1) F3.out.size)
  have KZ4 : Hid (Kb w4 w2.heap.size _ _) := (M4.out.block _ KZ3.out.lt (fun x hx e => by have := (LL.out x hx).2; omega)).trans KZ3.out
  have PH4 : Hid (Ph w4 za0 za1 za2 za3 e0 e1 e2 e3 g0 g1 g2 g3 R) := PG3.out.ph mx fun h0 x hx => PG3.out.heads h0 x hx
  have HX4 : Hid (Hx (pN g1 g2 g3 e1 e2 e3 R) 1 w4) := mx.hx
  obtain ⟨l, hl⟩ : ∃ l, (pN g1 g2 g3 e1 e2 e3 R).length = l := ⟨_, rfl⟩
  have HLN : Hid ((pN g1 g2 g3 e1 e2 e3 R).length = l) := hl
  have hl0 : (0 : Int) ≤ 1 + (l : Int) := by omega
  rw [hl]
  clear mx hl
  have z0 := KZ4.out.cell (i := 0) rfl
  have z1 := KZ4.out.cell (i := 1) rfl
  have z2 := KZ4.out.cell (i := 2) rfl
  have z3 := KZ4.out.cell (i := 3) rfl
  have z4 := KZ4.out.cell (i := 4) rfl
  have z5 := KZ4.out.cell (i := 5) rfl
  go_wp2_with fail
  clear z0 z1 z2 z3 z4 z5
  refine (held_pres C A _ _ _ _ _ _ _ _ zk0 zk1 zk2 zk3 g0 g1 g2 g3 R _ PH4.out HX4.out).mono ?_
  rintro e w5 ⟨rfl, b5⟩
  rw [HLN.out]
  have E5 : Hid (Below w4.heap.size w4 w5) := b5
  have B5 : Hid (Below A1.heap.size A1 w5) := on B4.out b5
  clear b5
  go_wp2_with fail
  refine (II.out _ (GP.out.keep (on BA.out B5.out))).mono ?_
  rintro e w6 ⟨⟨_, _, _, _, hxs, rfl, sp⟩, b6⟩
  obtain ⟨ha0, ha1, ha2, ha3, hk0, hk1, hk2, hk3, f0, f1, f2, f3⟩ := sp.shape
  subst f0 f1 f2 f3
  simp only [VC.out, VA.out, VP.out] at sp ⊢
  rw [LY.out.1, LY.out.2.1, LY.out.2.2.1, LY.out.2.2.2] at sp ⊢
  have H0 : Hid (Wp w6 w5.heap.size (.slice ha0 e0 hk0) (.slice ha1 e1 hk1) (.slice ha2 e2 hk2) (.slice ha3 e3 hk3) P hxs) := sp
  have E6 : Hid (Below w4.heap.size w4 w6) := on E5.out b6
  have B6 : Hid (Below A1.heap.size A1 w6) := on B5.out b6
  clear sp b6
  generalize hA6 : w6.alloc (.cells #[.int .i64 C, .int .i64 A, .slice ha0 e0 hk0, .slice ha1 e1 hk1, .slice ha2 e2 hk2, .slice ha3 e3 hk3] 29) = A6
  have D6 : Hid (Below w6.heap.size w6 A6) := by show Below _ _ _; rw [← hA6]; exact al (Below.refl _ _) _
  have KH : Hid (Kb A6 w6.heap.size #[.int .i64 C, .int .i64 A, .slice ha0 e0 hk0, .slice ha1 e1 hk1, .slice ha2 e2 hk2, .slice ha3 e3 hk3] 29) := by show Kb _ _ _ _; rw [← hA6]; exact Kb.new _ _ _
  have HA : Hid (Wp A6 w5.heap.size (.slice ha0 e0 hk0) (.slice ha1 e1 hk1) (.slice ha2 e2 hk2) (.slice ha3 e3 hk3) P hxs) := H0.out.keep D6.out
  have E7 : Hid (Below w4.heap.size w4 A6) := on E6.out D6.out
  have B7 : Hid (Below A1.heap.size A1 A6) := on B6.out D6.out
  have KY7 : Hid (Kb A6 w1.heap.size _ _) := KY.out.keep B7.out
  have lh : w6.heap.size < A6.heap.size := KH.out.lt
  have ly : w1.heap.size < A6.heap.size := KY7.out.lt
  have y0 := KY7.out.cell (i := 0) rfl
  have y1 := KY7.out.cell (i := 1) rfl
  have y2 := KY7.out.cell (i := 2) rfl
  have y3 := KY7.out.cell (i := 3) rfl
  have y4 := KY7.out.cell (i := 4) rfl
  have y5 := KY7.out.cell (i := 5) rfl
  have z0 := KH.out.cell (i := 0) rfl
  have z1 := KH.out.cell (i := 1) rfl
  have z2 := KH.out.cell (i := 2) rfl
  have z3 := KH.out.cell (i := 3) rfl
  have z4 := KH.out.cell (i := 4) rfl
  have z5 := KH.out.cell (i := 5) rfl
  go_wp2_with fail
  clear hA6 y0 y1 y2 y3 y4 y5 z0 z1 z2 z3 z4 z5 ly lh
  refine (eq_pres C A _ _ _ _ _ _ _ _ P hxs yxs _ _ _ HA.out (YA.out.keep B7.out)).mono ?_
  rintro e w8 ⟨rfl, b8⟩
  have E8 : Hid (Below w4.heap.size w4 w8) := on E7.out b8
  have B8 : Hid (Below A1.heap.size A1 w8) := on B7.out b8
  have KZ8 : Hid (Kb w8 w2.heap.size _ _) := KZ4.out.keep E8.out
  clear b8
  have z0 := KZ8.out.cell (i := 0) rfl
  have z1 := KZ8.out.cell (i := 1) rfl
  have z2 := KZ8.out.cell (i := 2) rfl
  have z3 := KZ8.out.cell (i := 3) rfl
  have z4 := KZ8.out.cell (i := 4) rfl
  have z5 := KZ8.out.cell (i := 5) rfl
  go_wp2_with fail
  clear z0 z1 z2 z3 z4 z5
  refine (held_pres C A _ _ _ _ _ _ _ _ zk0 zk1 zk2 zk3 g0 g1 g2 g3 R _ (PH4.out.keep E8.out) (fun i x e => cell_keep E8.out (HX4.out i x e))).mono ?_
  rintro e w9 ⟨rfl, b9⟩
  rw [HLN.out]
  go_wp2_with fail
  go_ret
  exact ⟨rfl, on BA.out (on B8.out b9)⟩
end Go.Proofs.YtcdbhhhihhdghaaGreatDoor.fnExactParsePolicyDone
