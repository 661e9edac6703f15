/- The walk of a law. -/
import Derived.Test.YthnaggeilbcioaaGreatDoorCards
import Derived.Test.YthnaggeilbcioaaGreatDoorTie
import Derived.Deep.DeepHandedRow
import Derived.LaidHandle
import Derived.LaidLaws
import Derived.Lib.LaidTab
import Derived.Stop.LaidErr
import Derived.Lib.SmallJoins
import Derived.Deep.RegionWith
import Derived.Deep.RegionHeld3
import Derived.Test.YthnaggeilbcioaaGreatDoorQ01
import Derived.Test.YthnaggeilbcioaaGreatDoorQ17
import Derived.Test.YthnaggeilbcioaaGreatDoorQ21
import Derived.Test.YthnaggeilbcioaaGreatDoorQ30
import Derived.Test.YthnaggeilbcioaaGreatDoorQ41
import Derived.Test.YthnaggeilbcioaaGreatDoorQ48
import Derived.Test.YthnaggeilbcioaaGreatDoorQ50
namespace Go.Proofs.YthnaggeilbcioaaGreatDoor.fnExactSoloFromDone
open Go.ChangeShapes Go.WideShapes Go.ChangeAt Go.RowKit
open Go.ChangeMaps (open_string shut_string)
set_option linter.unusedVariables false

theorem vo_wid {S T : Nat → Prop} {w w' : World} (m : Mq S w w') (h : ∀ k, S k → T k) : Mq T w w' := ⟨m.os, m.tape, m.output, m.size, fun k hk hn => m.block k hk fun e => hn (h k e)⟩
theorem od_oj {w : World} {base g0 g1 g2 g3 n0 n1 n2 n3 : Nat} {m h : Value} {X : Hst} (d : Od w base g0 g1 g2 g3 n0 n1 n2 n3 m h X) : Oj w base (some ⟨g0, 0, none⟩) n0 n0 (some ⟨g1, 0, none⟩) n1 n1 (some ⟨g2, 0, none⟩) n2 n2 (some ⟨g3, 0, none⟩) n3 n3 m h X :=
  ⟨d.pol.pl, d.mem, d.harts⟩
theorem sm_mqF {S : Nat → Prop} {w w' : World} {base : Nat} {r c i o l m : Value} {H : Ht} {ps : List (Int × Int)} {zs : List Int} (s : Sm w base r c i o l m H ps zs) (g : Mq S w w') (hn : ∀ k, OwnS r c i o l m k → ¬ S k) : Sm w' base r c i o l m H ps zs :=
  ⟨g.hm s.h fun k e => hn k (.inl e), s.a, s.pl.low' g fun k e => hn k (.inr (.inl e)), g.nums s.mm fun k e => hn k (.inr (.inr e)), s.rm, s.cm, s.im, s.om⟩
theorem sm_ownF {w : World} {base : Nat} {r c i o l m : Value} {H : Ht} {ps : List (Int × Int)} {zs : List Int} (s : Sm w base r c i o l m H ps zs) (k : Nat) (e : OwnS r c i o l m k) : base ≤ k ∧ k < w.heap.size := by
  rcases e with e | e | e
  · exact s.h.own k e
  · exact s.pl.lt k e
  · exact s.mm.lt k e
theorem fr_small (X : Hst) (gu : Int) : totS (frH X gu) (frP X gu) (frZ X gu) ≤ 2000 := by
  by_cases hc : frC X gu = 0
  · have hu := fr_yes X gu hc
    rw [hu.1, hu.2.1, hu.2.2]
    by_cases ha : hoV X = 0
    · have hs : isG X.pol.own.length gu = true := by
        cases e : isG X.pol.own.length gu
        · rw [frC, if_pos ha, if_neg (by rw [e]; decide)] at hc
          exact absurd hc (by decide)
        · rfl
      obtain ⟨g, rfl⟩ := Int.eq_ofNat_of_zero_le ((isG_iff _ _).1 hs).1
      have ok := fok_of ha hs
      rw [Int.toNat_natCast]
      have h3 := aloL_len (pforL (X.pol.own.getD g []) X.pol.lanes (g : Int) 8)
      have h4 := seeS_len (pforL (X.pol.own.getD g []) X.pol.lanes (g : Int) 8) X.mem ok.ml ok.to_ 8 (Nat.le_refl _)
      have := ok.hk.r16
      have := ok.hk.c11
      have := ok.hk.i40
      have := ok.hk.o40
      unfold totS totH
      omega
    · rw [frC, if_neg ha] at hc
      exact absurd hc ha
  · have hu := fr_not X gu hc
    rw [hu.1, hu.2.1, hu.2.2]
    simp [totS, totH, voidH]
set_option maxRecDepth 20000 in
set_option maxHeartbeats 8000000 in
theorem walk (a0 a1 a2 a3 a4 a5 : Option Addr) (n0 c0 n1 c1 n2 c2 n3 c3 n4 c4 n5 c5 : Nat) (X : Hst) (gu : Int) (w : World) (h : Oi w a0 n0 c0 a1 n1 c1 a2 n2 c2 a3 n3 c3 a4 n4 c4 a5 n5 c5 X) (wgu : (Lit.int .i64 gu).wf = true) (hg : w.cell? ⟨0, 0, none⟩ = some (.iface 206 (.agg #[.pointer (some ⟨1, 165, none⟩)]))) :
    Calls Tryz.prog 3 #[.agg #[.slice a0 n0 c0, .slice a1 n1 c1, .slice a2 n2 c2, .slice a3 n3 c3, .slice a4 n4 c4, .slice a5 n5 c5, .int .i64 X.slot, .int .i64 X.left, .int .i64 X.clock], .int .i64 gu] w fun e w' => e = .returned (.bool true) ∧ Below w.heap.size w w' := by
  generalize hW : w.alloc (.cells #[.slice a0 n0 c0, .slice a1 n1 c1, .slice a2 n2 c2, .slice a3 n3 c3, .slice a4 n4 c4, .slice a5 n5 c5, .int .i64 X.slot, .int .i64 X.left, .int .i64 X.clock] 31) = W
  have B0 : Hid (Below w.heap.size w W) := by show Below _ _ _; rw [← hW]; exact al (Below.refl _ _) _
  obtain ⟨s, hS⟩ : ∃ s, w.heap.size = s := ⟨_, rfl⟩
  have Q : Hid (Vb W s #[.slice a0 n0 c0, .slice a1 n1 c1, .slice a2 n2 c2, .slice a3 n3 c3, .slice a4 n4 c4, .slice a5 n5 c5, .int .i64 X.slot, .int .i64 X.left, .int .i64 X.clock] 31) := by show Vb _ _ _ _; rw [← hW, ← hS]; exact Vb.new _ _ _
  have HP : Hid (Oi W a0 n0 c0 a1 n1 c1 a2 n2 c2 a3 n3 c3 a4 n4 c4 a5 n5 c5 X) := h.stay B0.out
  have HG : Hid (W.cell? ⟨0, 0, none⟩ = some (.iface 206 (.agg #[.pointer (some ⟨1, 165, none⟩)]))) := cell_keep B0.out hg
  clear h hg wgu
  have q0 := Q.out.cell 0 rfl
  have q1 := Q.out.cell 1 rfl
  have q2 := Q.out.cell 2 rfl
  have q3 := Q.out.cell 3 rfl
  have q4 := Q.out.cell 4 rfl
  have q5 := Q.out.cell 5 rfl
  have q6 := Q.out.cell 6 rfl
  have q7 := Q.out.cell 7 rfl
  have q8 := Q.out.cell 8 rfl
  go_enter Tryz.func3, Tryz.ntmps3
  go_wp2_with fail
  clear hW hS q0 q1 q2 q3 q4 q5 q6 q7 q8
  refine (sz_host _ _ _ _ _ _ _ _ _ _ _ _ _ _ _ _ _ _ X _ HP.out).mono ?_
  rintro e w1 ⟨⟨r, rfl, hr, hs⟩, b1⟩
  by_cases hneg : r < 0
  · go_wp2_with fail
    go_ret
    exact ⟨rfl, on B0.out b1⟩
  have SM : Hid (Osm n0 n1 n2 n3 n4 n5 X) := hs (by omega)
  have B1 : Hid (Below W.heap.size W w1) := b1
  obtain ⟨C, hC⟩ : ∃ C, frC X gu = C := ⟨_, rfl⟩
  obtain ⟨G, hG⟩ : ∃ G, frH X gu = G := ⟨_, rfl⟩
  obtain ⟨P, hO⟩ : ∃ P, frP X gu = P := ⟨_, rfl⟩
  obtain ⟨Z, hZ⟩ : ∃ Z, frZ X gu = Z := ⟨_, rfl⟩
  have HCZ : Hid (frC X gu = C ∧ frH X gu = G ∧ frP X gu = P ∧ frZ X gu = Z) := ⟨hC, hG, hO, hZ⟩
  have SY : Hid (totS G P Z ≤ 2000) := by have t := fr_small X gu; rw [hG, hO, hZ] at t; exact t
  obtain ⟨e0, le0⟩ : ∃ n, G.regs.length = n := ⟨_, rfl⟩
  obtain ⟨e1, le1⟩ : ∃ n, G.csr.length = n := ⟨_, rfl⟩
  obtain ⟨e2, le2⟩ : ∃ n, G.inn.length = n := ⟨_, rfl⟩
  obtain ⟨e3, le3⟩ : ∃ n, G.out.length = n := ⟨_, rfl⟩
  obtain ⟨e4, le4⟩ : ∃ n, P.length = n := ⟨_, rfl⟩
  obtain ⟨e5, le5⟩ : ∃ n, Z.length = n := ⟨_, rfl⟩
  have LY : Hid (G.regs.length = e0 ∧ G.csr.length = e1 ∧ G.inn.length = e2 ∧ G.out.length = e3 ∧ P.length = e4 ∧ Z.length = e5) := ⟨le0, le1, le2, le3, le4, le5⟩
  clear hC hG hO hZ le0 le1 le2 le3 le4 le5 hs b1
  have q0 := (Q.out.keep B1.out).cell 0 rfl
  have q1 := (Q.out.keep B1.out).cell 1 rfl
  have q2 := (Q.out.keep B1.out).cell 2 rfl
  have q3 := (Q.out.keep B1.out).cell 3 rfl
  have q4 := (Q.out.keep B1.out).cell 4 rfl
  have q5 := (Q.out.keep B1.out).cell 5 rfl
  have q6 := (Q.out.keep B1.out).cell 6 rfl
  have q7 := (Q.out.keep B1.out).cell 7 rfl
  have q8 := (Q.out.keep B1.out).cell 8 rfl
  go_wp2_with fail
  clear q0 q1 q2 q3 q4 q5 q6 q7 q8
  refine (to_host _ _ _ _ _ _ _ _ _ _ _ _ _ _ _ _ _ _ X _ (HP.out.stay B1.out) SM.out).mono ?_
  rintro e w2 ⟨g0, g1, g2, g3, g4, g5, rfl, m2, b2⟩
  have B2 : Hid (Below W.heap.size W w2) := on B1.out b2
  have M2 : Hid (Od w2 _ g0 g1 g2 g3 n0 n1 n2 n3 _ _ X) := m2
  clear m2 b2
  go_wp2_with fail
  have CALL := s_soloFrom _ _ _ _ _ _ _ _ _ _ _ _ _ _ X gu _ _ (od_oj M2.out)
  rw [HCZ.out.1, HCZ.out.2.1, HCZ.out.2.2.1, HCZ.out.2.2.2] at CALL
  refine CALL.mono ?_
  clear CALL
  rintro e w3 ⟨_, _, _, _, _, _, rfl, sp, b3⟩
  obtain ⟨ya0, yk0, f0, _⟩ := sp.h.r.shape
  obtain ⟨ya1, yk1, f1, _⟩ := sp.h.c.shape
  obtain ⟨ya2, yk2, f2, _⟩ := sp.h.i.shape
  obtain ⟨ya3, yk3, f3, _⟩ := sp.h.o.shape
  obtain ⟨ya4, yk4, f4, _⟩ := sp.pl.shape
  obtain ⟨ya5, yk5, f5, _⟩ := sp.mm.shape
  subst f0 f1 f2 f3 f4 f5
  rw [LY.out.1, LY.out.2.1, LY.out.2.2.1, LY.out.2.2.2.1, LY.out.2.2.2.2.1, LY.out.2.2.2.2.2] at sp ⊢
  have B3 : Hid (Below W.heap.size W (w3.alloc (.cells #[.int .i64 C, .slice ya0 e0 yk0, .int .i64 G.pc, .slice ya1 e1 yk1, .bool G.halted, .bool G.waiting, .bool G.rung, .int .i64 G.done, .slice ya2 e2 yk2, .slice ya3 e3 yk3, .slice ya4 e4 yk4, .slice ya5 e5 yk5] 39))) := al (on B2.out b3) _
  have Y3 : Hid (Vb (w3.alloc (.cells #[.int .i64 C, .slice ya0 e0 yk0, .int .i64 G.pc, .slice ya1 e1 yk1, .bool G.halted, .bool G.waiting, .bool G.rung, .int .i64 G.done, .slice ya2 e2 yk2, .slice ya3 e3 yk3, .slice ya4 e4 yk4, .slice ya5 e5 yk5] 39)) w3.heap.size #[.int .i64 C, .slice ya0 e0 yk0, .int .i64 G.pc, .slice ya1 e1 yk1, .bool G.halted, .bool G.waiting, .bool G.rung, .int .i64 G.done, .slice ya2 e2 yk2, .slice ya3 e3 yk3, .slice ya4 e4 yk4, .slice ya5 e5 yk5] 39) := Vb.new _ _ _
  have N3 : Hid (Sm (w3.alloc (.cells #[.int .i64 C, .slice ya0 e0 yk0, .int .i64 G.pc, .slice ya1 e1 yk1, .bool G.halted, .bool G.waiting, .bool G.rung, .int .i64 G.done, .slice ya2 e2 yk2, .slice ya3 e3 yk3, .slice ya4 e4 yk4, .slice ya5 e5 yk5] 39)) w2.heap.size (.slice ya0 e0 yk0) (.slice ya1 e1 yk1) (.slice ya2 e2 yk2) (.slice ya3 e3 yk3) (.slice ya4 e4 yk4) (.slice ya5 e5 yk5) G P Z) := sp.keep (al (Below.refl _ _) _)
  have L3 : Hid (∀ k, OwnS (.slice ya0 e0 yk0) (.slice ya1 e1 yk1) (.slice ya2 e2 yk2) (.slice ya3 e3 yk3) (.slice ya4 e4 yk4) (.slice ya5 e5 yk5) k → k < w3.heap.size) := fun k e => (sm_ownF sp k e).2
  have Z3 : Hid (w3.heap.size + 1 = (w3.alloc (.cells #[.int .i64 C, .slice ya0 e0 yk0, .int .i64 G.pc, .slice ya1 e1 yk1, .bool G.halted, .bool G.waiting, .bool G.rung, .int .i64 G.done, .slice ya2 e2 yk2, .slice ya3 e3 yk3, .slice ya4 e4 yk4, .slice ya5 e5 yk5] 39)).heap.size) := by show _ = _; simp
  have q3' : Hid (Vb w3 s #[.slice a0 n0 c0, .slice a1 n1 c1, .slice a2 n2 c2, .slice a3 n3 c3, .slice a4 n4 c4, .slice a5 n5 c5, .int .i64 X.slot, .int .i64 X.left, .int .i64 X.clock] 31) := Q.out.keep (on B2.out b3)
  have q0 := q3'.out.cell 0 rfl
  have q1 := q3'.out.cell 1 rfl
  have q2 := q3'.out.cell 2 rfl
  have q3 := q3'.out.cell 3 rfl
  have q4 := q3'.out.cell 4 rfl
  have q5 := q3'.out.cell 5 rfl
  have q6 := q3'.out.cell 6 rfl
  have q7 := q3'.out.cell 7 rfl
  have q8 := q3'.out.cell 8 rfl
  have ls3 : s < w3.heap.size := q3'.out.lt
  clear sp b3 M2 B2
  go_wp2_with fail
  generalize w3.alloc (.cells #[.int .i64 C, .slice ya0 e0 yk0, .int .i64 G.pc, .slice ya1 e1 yk1, .bool G.halted, .bool G.waiting, .bool G.rung, .int .i64 G.done, .slice ya2 e2 yk2, .slice ya3 e3 yk3, .slice ya4 e4 yk4, .slice ya5 e5 yk5] 39) = W3 at *
  generalize w3.heap.size = s3 at *
  clear q0 q1 q2 q3 q4 q5 q6 q7 q8 ls3 q3'
  refine (to_hostT _ _ _ _ _ _ _ _ _ _ _ _ _ _ _ _ _ _ X _ (HP.out.stay B3.out) SM.out).mono ?_
  rintro e w4 ⟨k0, k1, k2, k3, k4, k5, rfl, m4, b4, th4, l4a, l4b⟩
  have B4 : Hid (Below W.heap.size W (w4.alloc (.cells #[.slice (some ⟨k0, 0, none⟩) n0 n0, .slice (some ⟨k1, 0, none⟩) n1 n1, .slice (some ⟨k2, 0, none⟩) n2 n2, .slice (some ⟨k3, 0, none⟩) n3 n3, .slice (some ⟨k4, 0, none⟩) n4 n4, .slice (some ⟨k5, 0, none⟩) n5 n5, .int .i64 X.slot, .int .i64 X.left, .int .i64 X.clock] 48))) := al (on B3.out b4) _
  have M4 : Hid (Od w4 W3.heap.size k0 k1 k2 k3 n0 n1 n2 n3 (.slice (some ⟨k4, 0, none⟩) n4 n4) (.slice (some ⟨k5, 0, none⟩) n5 n5) X ∧ w4.there k5 0 (n5 * 9) ∧ W3.heap.size ≤ k5 ∧ k5 < w4.heap.size) := ⟨m4, th4, l4a, l4b⟩
  have D4 : Hid (Below w4.heap.size w4 (w4.alloc (.cells #[.slice (some ⟨k0, 0, none⟩) n0 n0, .slice (some ⟨k1, 0, none⟩) n1 n1, .slice (some ⟨k2, 0, none⟩) n2 n2, .slice (some ⟨k3, 0, none⟩) n3 n3, .slice (some ⟨k4, 0, none⟩) n4 n4, .slice (some ⟨k5, 0, none⟩) n5 n5, .int .i64 X.slot, .int .i64 X.left, .int .i64 X.clock] 48))) := al (Below.refl _ _) _
  have X4 : Hid (Vb (w4.alloc (.cells #[.slice (some ⟨k0, 0, none⟩) n0 n0, .slice (some ⟨k1, 0, none⟩) n1 n1, .slice (some ⟨k2, 0, none⟩) n2 n2, .slice (some ⟨k3, 0, none⟩) n3 n3, .slice (some ⟨k4, 0, none⟩) n4 n4, .slice (some ⟨k5, 0, none⟩) n5 n5, .int .i64 X.slot, .int .i64 X.left, .int .i64 X.clock] 48)) w4.heap.size #[.slice (some ⟨k0, 0, none⟩) n0 n0, .slice (some ⟨k1, 0, none⟩) n1 n1, .slice (some ⟨k2, 0, none⟩) n2 n2, .slice (some ⟨k3, 0, none⟩) n3 n3, .slice (some ⟨k4, 0, none⟩) n4 n4, .slice (some ⟨k5, 0, none⟩) n5 n5, .int .i64 X.slot, .int .i64 X.left, .int .i64 X.clock] 48) := Vb.new _ _ _
  have Y4 : Hid (Vb (w4.alloc (.cells #[.slice (some ⟨k0, 0, none⟩) n0 n0, .slice (some ⟨k1, 0, none⟩) n1 n1, .slice (some ⟨k2, 0, none⟩) n2 n2, .slice (some ⟨k3, 0, none⟩) n3 n3, .slice (some ⟨k4, 0, none⟩) n4 n4, .slice (some ⟨k5, 0, none⟩) n5 n5, .int .i64 X.slot, .int .i64 X.left, .int .i64 X.clock] 48)) s3 #[.int .i64 C, .slice ya0 e0 yk0, .int .i64 G.pc, .slice ya1 e1 yk1, .bool G.halted, .bool G.waiting, .bool G.rung, .int .i64 G.done, .slice ya2 e2 yk2, .slice ya3 e3 yk3, .slice ya4 e4 yk4, .slice ya5 e5 yk5] 39) := (Y3.out.keep b4).keep (al (Below.refl _ _) _)
  have N4 : Hid (Sm (w4.alloc (.cells #[.slice (some ⟨k0, 0, none⟩) n0 n0, .slice (some ⟨k1, 0, none⟩) n1 n1, .slice (some ⟨k2, 0, none⟩) n2 n2, .slice (some ⟨k3, 0, none⟩) n3 n3, .slice (some ⟨k4, 0, none⟩) n4 n4, .slice (some ⟨k5, 0, none⟩) n5 n5, .int .i64 X.slot, .int .i64 X.left, .int .i64 X.clock] 48)) _ (.slice ya0 e0 yk0) (.slice ya1 e1 yk1) (.slice ya2 e2 yk2) (.slice ya3 e3 yk3) (.slice ya4 e4 yk4) (.slice ya5 e5 yk5) G P Z) := (N3.out.keep b4).keep (al (Below.refl _ _) _)
  have Z4 : Hid (W3.heap.size ≤ w4.heap.size ∧ w4.heap.size + 1 = (w4.alloc (.cells #[.slice (some ⟨k0, 0, none⟩) n0 n0, .slice (some ⟨k1, 0, none⟩) n1 n1, .slice (some ⟨k2, 0, none⟩) n2 n2, .slice (some ⟨k3, 0, none⟩) n3 n3, .slice (some ⟨k4, 0, none⟩) n4 n4, .slice (some ⟨k5, 0, none⟩) n5 n5, .int .i64 X.slot, .int .i64 X.left, .int .i64 X.clock] 48)).heap.size) := ⟨b4.size, by simp⟩
  clear m4 b4 th4 l4a l4b Y3 N3
  go_wp2_with fail
  generalize w4.alloc (.cells #[.slice (some ⟨k0, 0, none⟩) n0 n0, .slice (some ⟨k1, 0, none⟩) n1 n1, .slice (some ⟨k2, 0, none⟩) n2 n2, .slice (some ⟨k3, 0, none⟩) n3 n3, .slice (some ⟨k4, 0, none⟩) n4 n4, .slice (some ⟨k5, 0, none⟩) n5 n5, .int .i64 X.slot, .int .i64 X.left, .int .i64 X.clock] 48) = W4 at *
  obtain ⟨s4, hs4⟩ : ∃ s4, w4.heap.size = s4 := ⟨_, rfl⟩
  have X4' : Hid (Vb W4 s4 #[.slice (some ⟨k0, 0, none⟩) n0 n0, .slice (some ⟨k1, 0, none⟩) n1 n1, .slice (some ⟨k2, 0, none⟩) n2 n2, .slice (some ⟨k3, 0, none⟩) n3 n3, .slice (some ⟨k4, 0, none⟩) n4 n4, .slice (some ⟨k5, 0, none⟩) n5 n5, .int .i64 X.slot, .int .i64 X.left, .int .i64 X.clock] 48) := by show Vb _ _ _ _; rw [← hs4]; exact X4.out
  have S4 : Hid (w4.heap.size = s4) := hs4
  rw [hs4]
  clear hs4 X4
  have CALL := i_soloFrom _ _ _ _ _ _ _ _ _ _ _ _ _ _ X gu _ _ (od_oj (M4.out.1.keep D4.out)) (cell_keep B4.out HG.out)
  rw [HCZ.out.1, HCZ.out.2.1, HCZ.out.2.2.1, HCZ.out.2.2.2] at CALL
  refine CALL.mono ?_
  clear CALL
  rintro e w5 ⟨_, _, _, _, _, _, rfl, sp, b5⟩
  obtain ⟨za0, zk0, f0, _⟩ := sp.h.r.shape
  obtain ⟨za1, zk1, f1, _⟩ := sp.h.c.shape
  obtain ⟨za2, zk2, f2, _⟩ := sp.h.i.shape
  obtain ⟨za3, zk3, f3, _⟩ := sp.h.o.shape
  obtain ⟨za4, zk4, f4, _⟩ := sp.pl.shape
  obtain ⟨za5, zk5, f5, _⟩ := sp.mm.shape
  subst f0 f1 f2 f3 f4 f5
  rw [LY.out.1, LY.out.2.1, LY.out.2.2.1, LY.out.2.2.2.1, LY.out.2.2.2.2.1, LY.out.2.2.2.2.2] at sp ⊢
  have WN : Hid (Below w5.heap.size w5 (w5.alloc (.cells #[.int .i64 C, .slice za0 e0 zk0, .int .i64 G.pc, .slice za1 e1 zk1, .bool G.halted, .bool G.waiting, .bool G.rung, .int .i64 G.done, .slice za2 e2 zk2, .slice za3 e3 zk3, .slice za4 e4 zk4, .slice za5 e5 zk5] 39))) := al (Below.refl _ _) _
  have B5 : Hid (Below W.heap.size W (w5.alloc (.cells #[.int .i64 C, .slice za0 e0 zk0, .int .i64 G.pc, .slice za1 e1 zk1, .bool G.halted, .bool G.waiting, .bool G.rung, .int .i64 G.done, .slice za2 e2 zk2, .slice za3 e3 zk3, .slice za4 e4 zk4, .slice za5 e5 zk5] 39))) := al (on B4.out b5) _
  have D5 : Hid (Below w4.heap.size w4 (w5.alloc (.cells #[.int .i64 C, .slice za0 e0 zk0, .int .i64 G.pc, .slice za1 e1 zk1, .bool G.halted, .bool G.waiting, .bool G.rung, .int .i64 G.done, .slice za2 e2 zk2, .slice za3 e3 zk3, .slice za4 e4 zk4, .slice za5 e5 zk5] 39))) := al (on D4.out b5) _
  have G5 : Hid (Vb (w5.alloc (.cells #[.int .i64 C, .slice za0 e0 zk0, .int .i64 G.pc, .slice za1 e1 zk1, .bool G.halted, .bool G.waiting, .bool G.rung, .int .i64 G.done, .slice za2 e2 zk2, .slice za3 e3 zk3, .slice za4 e4 zk4, .slice za5 e5 zk5] 39)) w5.heap.size #[.int .i64 C, .slice za0 e0 zk0, .int .i64 G.pc, .slice za1 e1 zk1, .bool G.halted, .bool G.waiting, .bool G.rung, .int .i64 G.done, .slice za2 e2 zk2, .slice za3 e3 zk3, .slice za4 e4 zk4, .slice za5 e5 zk5] 39) := Vb.new _ _ _
  have X5 : Hid (Vb (w5.alloc (.cells #[.int .i64 C, .slice za0 e0 zk0, .int .i64 G.pc, .slice za1 e1 zk1, .bool G.halted, .bool G.waiting, .bool G.rung, .int .i64 G.done, .slice za2 e2 zk2, .slice za3 e3 zk3, .slice za4 e4 zk4, .slice za5 e5 zk5] 39)) s4 #[.slice (some ⟨k0, 0, none⟩) n0 n0, .slice (some ⟨k1, 0, none⟩) n1 n1, .slice (some ⟨k2, 0, none⟩) n2 n2, .slice (some ⟨k3, 0, none⟩) n3 n3, .slice (some ⟨k4, 0, none⟩) n4 n4, .slice (some ⟨k5, 0, none⟩) n5 n5, .int .i64 X.slot, .int .i64 X.left, .int .i64 X.clock] 48) := (X4'.out.keep b5).keep WN.out
  have Y5 : Hid (Vb (w5.alloc (.cells #[.int .i64 C, .slice za0 e0 zk0, .int .i64 G.pc, .slice za1 e1 zk1, .bool G.halted, .bool G.waiting, .bool G.rung, .int .i64 G.done, .slice za2 e2 zk2, .slice za3 e3 zk3, .slice za4 e4 zk4, .slice za5 e5 zk5] 39)) s3 #[.int .i64 C, .slice ya0 e0 yk0, .int .i64 G.pc, .slice ya1 e1 yk1, .bool G.halted, .bool G.waiting, .bool G.rung, .int .i64 G.done, .slice ya2 e2 yk2, .slice ya3 e3 yk3, .slice ya4 e4 yk4, .slice ya5 e5 yk5] 39) := (Y4.out.keep b5).keep WN.out
  have N5 : Hid (Sm (w5.alloc (.cells #[.int .i64 C, .slice za0 e0 zk0, .int .i64 G.pc, .slice za1 e1 zk1, .bool G.halted, .bool G.waiting, .bool G.rung, .int .i64 G.done, .slice za2 e2 zk2, .slice za3 e3 zk3, .slice za4 e4 zk4, .slice za5 e5 zk5] 39)) _ (.slice ya0 e0 yk0) (.slice ya1 e1 yk1) (.slice ya2 e2 yk2) (.slice ya3 e3 yk3) (.slice ya4 e4 yk4) (.slice ya5 e5 yk5) G P Z) := (N4.out.keep b5).keep WN.out
  have O5 : Hid (Sm (w5.alloc (.cells #[.int .i64 C, .slice za0 e0 zk0, .int .i64 G.pc, .slice za1 e1 zk1, .bool G.halted, .bool G.waiting, .bool G.rung, .int .i64 G.done, .slice za2 e2 zk2, .slice za3 e3 zk3, .slice za4 e4 zk4, .slice za5 e5 zk5] 39)) W4.heap.size (.slice za0 e0 zk0) (.slice za1 e1 zk1) (.slice za2 e2 zk2) (.slice za3 e3 zk3) (.slice za4 e4 zk4) (.slice za5 e5 zk5) G P Z) := sp.keep WN.out
  have L5 : Hid (∀ k, OwnS (.slice za0 e0 zk0) (.slice za1 e1 zk1) (.slice za2 e2 zk2) (.slice za3 e3 zk3) (.slice za4 e4 zk4) (.slice za5 e5 zk5) k → W4.heap.size ≤ k ∧ k < w5.heap.size) := fun k e => sm_ownF sp k e
  have Z5 : Hid (W4.heap.size ≤ w5.heap.size) := b5.size
  have yy5 : Hid (Vb w5 s3 #[.int .i64 C, .slice ya0 e0 yk0, .int .i64 G.pc, .slice ya1 e1 yk1, .bool G.halted, .bool G.waiting, .bool G.rung, .int .i64 G.done, .slice ya2 e2 yk2, .slice ya3 e3 yk3, .slice ya4 e4 yk4, .slice ya5 e5 yk5] 39) := Y4.out.keep b5
  have y0 := yy5.out.cell 0 rfl
  have y1 := yy5.out.cell 1 rfl
  have y2 := yy5.out.cell 2 rfl
  have y3 := yy5.out.cell 3 rfl
  have y4 := yy5.out.cell 4 rfl
  have y5 := yy5.out.cell 5 rfl
  have y6 := yy5.out.cell 6 rfl
  have y7 := yy5.out.cell 7 rfl
  have y8 := yy5.out.cell 8 rfl
  have y9 := yy5.out.cell 9 rfl
  have y10 := yy5.out.cell 10 rfl
  have y11 := yy5.out.cell 11 rfl
  have ly : s3 < w5.heap.size := yy5.out.lt
  clear b5 sp X4' Y4 N4 WN D4 B4
  go_wp2_with fail
  generalize w5.alloc (.cells #[.int .i64 C, .slice za0 e0 zk0, .int .i64 G.pc, .slice za1 e1 zk1, .bool G.halted, .bool G.waiting, .bool G.rung, .int .i64 G.done, .slice za2 e2 zk2, .slice za3 e3 zk3, .slice za4 e4 zk4, .slice za5 e5 zk5] 39) = W5 at *
  generalize w5.heap.size = s5 at *
  clear y0 y1 y2 y3 y4 y5 y6 y7 y8 y9 y10 y11 ly yy5
  refine (eq_sres _ _ _ _ _ _ _ _ _ _ _ _ _ G P Z _ _ _ O5.out.sr N5.out.sr).mono ?_
  rintro e w6 ⟨rfl, b6⟩
  have B6 : Hid (Below W.heap.size W w6) := on B5.out b6
  have X6 : Hid (Vb w6 s4 #[.slice (some ⟨k0, 0, none⟩) n0 n0, .slice (some ⟨k1, 0, none⟩) n1 n1, .slice (some ⟨k2, 0, none⟩) n2 n2, .slice (some ⟨k3, 0, none⟩) n3 n3, .slice (some ⟨k4, 0, none⟩) n4 n4, .slice (some ⟨k5, 0, none⟩) n5 n5, .int .i64 X.slot, .int .i64 X.left, .int .i64 X.clock] 48) := X5.out.keep b6
  have Y6 : Hid (Vb w6 s3 #[.int .i64 C, .slice ya0 e0 yk0, .int .i64 G.pc, .slice ya1 e1 yk1, .bool G.halted, .bool G.waiting, .bool G.rung, .int .i64 G.done, .slice ya2 e2 yk2, .slice ya3 e3 yk3, .slice ya4 e4 yk4, .slice ya5 e5 yk5] 39) := Y5.out.keep b6
  have G6 : Hid (Vb w6 s5 #[.int .i64 C, .slice za0 e0 zk0, .int .i64 G.pc, .slice za1 e1 zk1, .bool G.halted, .bool G.waiting, .bool G.rung, .int .i64 G.done, .slice za2 e2 zk2, .slice za3 e3 zk3, .slice za4 e4 zk4, .slice za5 e5 zk5] 39) := G5.out.keep b6
  have N6 : Hid (Sm w6 _ (.slice ya0 e0 yk0) (.slice ya1 e1 yk1) (.slice ya2 e2 yk2) (.slice ya3 e3 yk3) (.slice ya4 e4 yk4) (.slice ya5 e5 yk5) G P Z) := N5.out.keep b6
  have O6 : Hid (Sm w6 W4.heap.size (.slice za0 e0 zk0) (.slice za1 e1 zk1) (.slice za2 e2 zk2) (.slice za3 e3 zk3) (.slice za4 e4 zk4) (.slice za5 e5 zk5) G P Z) := O5.out.keep b6
  have D6 : Hid (Below w4.heap.size w4 w6) := on D5.out b6
  clear b6 B5 X5 Y5 G5 N5 O5 D5
  go_wp2_with fail
  refine wp_region_held (S := fun w' => Below w6.heap.size w6 w') (by kernel_rfl) ?_
  change wpAnyH _ _ _ _ _ _ _ _ (World.drew _)
  have SD : Hid (Below w6.heap.size w6 w6.drew) := (Below.refl _ _).drew
  generalize w6.drew = x0 at *
  refine wpAnyH_take (i := 0) (v := (.agg #[.slice (some ⟨k0, 0, none⟩) n0 n0, .slice (some ⟨k1, 0, none⟩) n1 n1, .slice (some ⟨k2, 0, none⟩) n2 n2, .slice (some ⟨k3, 0, none⟩) n3 n3, .slice (some ⟨k4, 0, none⟩) n4 n4, .slice (some ⟨k5, 0, none⟩) n5 n5, .int .i64 X.slot, .int .i64 X.left, .int .i64 X.clock])) rfl (by kernel_rfl) (by kernel_rfl) (by kernel_rfl) (fun _ _ _ h => h) (Or.inl ⟨by rfl, fun w' hs => by have hq := X6.out.keep hs; have y0 := hq.cell 0 rfl; have y1 := hq.cell 1 rfl; have y2 := hq.cell 2 rfl; have y3 := hq.cell 3 rfl; have y4 := hq.cell 4 rfl; have y5 := hq.cell 5 rfl; have y6 := hq.cell 6 rfl; have y7 := hq.cell 7 rfl; have y8 := hq.cell 8 rfl; go_simp⟩) SD.out ?_
  change wpAnyH _ _ _ _ _ _ _ (Act.put _ (some 31) _) _
  simp only [Act.put, List.setIfInBounds_toArray, List.set_cons_zero, List.set_cons_succ]
  refine wpAnyH_take (i := 1) (v := (.agg #[.slice a0 n0 c0, .slice a1 n1 c1, .slice a2 n2 c2, .slice a3 n3 c3, .slice a4 n4 c4, .slice a5 n5 c5, .int .i64 X.slot, .int .i64 X.left, .int .i64 X.clock])) rfl (by kernel_rfl) (by kernel_rfl) (by kernel_rfl) (fun _ _ _ h => h) (Or.inl ⟨by rfl, fun w' hs => by have hq := (Q.out.keep B6.out).keep hs; have y0 := hq.cell 0 rfl; have y1 := hq.cell 1 rfl; have y2 := hq.cell 2 rfl; have y3 := hq.cell 3 rfl; have y4 := hq.cell 4 rfl; have y5 := hq.cell 5 rfl; have y6 := hq.cell 6 rfl; have y7 := hq.cell 7 rfl; have y8 := hq.cell 8 rfl; go_simp⟩) SD.out ?_
  change wpAnyH _ _ _ _ _ _ _ (Act.put _ (some 32) _) _
  simp only [Act.put, List.setIfInBounds_toArray, List.set_cons_zero, List.set_cons_succ]
  refine wpAnyH_ready (rs := [2]) (by kernel_rfl) (by simp) ?_
  refine AllReadyH.cons rfl (fun K hK => ?_) AllReadyH.nil
  rw [if_pos (by rfl)]
  go_simp
  refine (to_host _ _ _ _ _ _ _ _ _ _ _ _ _ _ _ _ _ _ X _ ((HP.out.stay B6.out).stay SD.out) SM.out).mono ?_
  rintro e w7 ⟨j0, j1, j2, j3, j4, j5, rfl, m7, b7⟩
  have S7 : Hid (Below w6.heap.size w6 w7) := on SD.out b7
  have M7 : Hid (Od w7 _ j0 j1 j2 j3 n0 n1 n2 n3 _ _ X) := m7
  clear m7 b7
  refine hK.out _ _ S7.out (fun _ => ?_)
  clear hK K
  refine wpAnyH_ready (rs := [3]) (by kernel_rfl) (by simp) ?_
  refine AllReadyH.cons rfl (fun K hK => ?_) AllReadyH.nil
  rw [if_pos (by rfl)]
  go_simp
  refine (eq_host _ _ _ _ _ _ _ _ _ _ _ _ _ _ _ _ X _ _ _ ((M4.out.1.keep D6.out).keep S7.out) M7.out).mono ?_
  rintro e w8 ⟨rfl, b8⟩
  have S8 : Hid (Below w6.heap.size w6 w8) := on S7.out b8
  clear b8 M7
  refine hK.out _ _ S8.out (fun _ => ?_)
  clear hK K
  refine wpAnyH_take (i := 4) (v := (.bool false)) rfl (by kernel_rfl) (by kernel_rfl) (by kernel_rfl) (fun _ _ _ h => h) (Or.inl ⟨by rfl, fun w' hs => by go_simp⟩) S8.out ?_
  change wpAnyH _ _ _ _ _ _ _ (Act.put _ (some 35) _) _
  simp only [Act.put, List.setIfInBounds_toArray, List.set_cons_zero, List.set_cons_succ]
  refine wpAnyH_done (by kernel_rfl) ?_ _
  have B8 : Hid (Below W.heap.size W w8) := on B6.out S8.out
  have X8 : Hid (Vb w8 s4 #[.slice (some ⟨k0, 0, none⟩) n0 n0, .slice (some ⟨k1, 0, none⟩) n1 n1, .slice (some ⟨k2, 0, none⟩) n2 n2, .slice (some ⟨k3, 0, none⟩) n3 n3, .slice (some ⟨k4, 0, none⟩) n4 n4, .slice (some ⟨k5, 0, none⟩) n5 n5, .int .i64 X.slot, .int .i64 X.left, .int .i64 X.clock] 48) := X6.out.keep S8.out
  have Y8 : Hid (Vb w8 s3 #[.int .i64 C, .slice ya0 e0 yk0, .int .i64 G.pc, .slice ya1 e1 yk1, .bool G.halted, .bool G.waiting, .bool G.rung, .int .i64 G.done, .slice ya2 e2 yk2, .slice ya3 e3 yk3, .slice ya4 e4 yk4, .slice ya5 e5 yk5] 39) := Y6.out.keep S8.out
  have G8 : Hid (Vb w8 s5 #[.int .i64 C, .slice za0 e0 zk0, .int .i64 G.pc, .slice za1 e1 zk1, .bool G.halted, .bool G.waiting, .bool G.rung, .int .i64 G.done, .slice za2 e2 zk2, .slice za3 e3 zk3, .slice za4 e4 zk4, .slice za5 e5 zk5] 39) := G6.out.keep S8.out
  have N8 : Hid (Sm w8 _ (.slice ya0 e0 yk0) (.slice ya1 e1 yk1) (.slice ya2 e2 yk2) (.slice ya3 e3 yk3) (.slice ya4 e4 yk4) (.slice ya5 e5 yk5) G P Z) := N6.out.keep S8.out
  have O8 : Hid (Sm w8 W4.heap.size (.slice za0 e0 zk0) (.slice za1 e1 zk1) (.slice za2 e2 zk2) (.slice za3 e3 zk3) (.slice za4 e4 zk4) (.slice za5 e5 zk5) G P Z) := O6.out.keep S8.out
  have D8 : Hid (Below w4.heap.size w4 w8) := on D6.out S8.out
  clear S8 S7 SD B6 X6 Y6 G6 N6 O6 D6
  have x0 := X8.out.cell 0 rfl
  have x1 := X8.out.cell 1 rfl
  have x2 := X8.out.cell 2 rfl
  have x3 := X8.out.cell 3 rfl
  have x4 := X8.out.cell 4 rfl
  have x5 := X8.out.cell 5 rfl
  have x6 := X8.out.cell 6 rfl
  have x7 := X8.out.cell 7 rfl
  have x8 := X8.out.cell 8 rfl
  go_wp2_with fail
  clear x0 x1 x2 x3 x4 x5 x6 x7 x8
  refine (mark_host _ _ _ _ _ _ _ _ _ _ _ _ W3.heap.size w4.heap.size X w4 w8 M4.out.1 M4.out.2.1 M4.out.2.2.1 M4.out.2.2.2 D8.out SM.out (Nat.le_refl _)).mono ?_
  rintro e m1 ⟨⟨r1, rfl, hr1⟩, mk1⟩
  have K2 : Hid (Mq (fun k => W3.heap.size ≤ k ∧ k < w4.heap.size) w8 m1) := mk1.mqv
  clear mk1
  have Bm : Hid (Below W.heap.size W m1) := Mq.below B8.out K2.out fun k e => by have := B3.out.size; omega
  have Ym : Hid (Vb m1 s3 #[.int .i64 C, .slice ya0 e0 yk0, .int .i64 G.pc, .slice ya1 e1 yk1, .bool G.halted, .bool G.waiting, .bool G.rung, .int .i64 G.done, .slice ya2 e2 yk2, .slice ya3 e3 yk3, .slice ya4 e4 yk4, .slice ya5 e5 yk5] 39) := K2.out.vb Y8.out fun e => by have := Z3.out; omega
  have Gm : Hid (Vb m1 s5 #[.int .i64 C, .slice za0 e0 zk0, .int .i64 G.pc, .slice za1 e1 zk1, .bool G.halted, .bool G.waiting, .bool G.rung, .int .i64 G.done, .slice za2 e2 zk2, .slice za3 e3 zk3, .slice za4 e4 zk4, .slice za5 e5 zk5] 39) := K2.out.vb G8.out fun e => by have := Z4.out; have := Z5.out; omega
  have Nm : Hid (Sm m1 _ (.slice ya0 e0 yk0) (.slice ya1 e1 yk1) (.slice ya2 e2 yk2) (.slice ya3 e3 yk3) (.slice ya4 e4 yk4) (.slice ya5 e5 yk5) G P Z) := sm_mqF N8.out K2.out fun k e f => by have := L3.out k e; have := Z3.out; omega
  have Om : Hid (Sm m1 W4.heap.size (.slice za0 e0 zk0) (.slice za1 e1 zk1) (.slice za2 e2 zk2) (.slice za3 e3 zk3) (.slice za4 e4 zk4) (.slice za5 e5 zk5) G P Z) := sm_mqF O8.out K2.out fun k e f => by have := (L5.out k e).1; have := Z4.out; omega
  clear K2 B8 Y8 G8 N8 O8 X8 D8
  have y0 := Ym.out.cell 0 rfl
  have y1 := Ym.out.cell 1 rfl
  have y2 := Ym.out.cell 2 rfl
  have y3 := Ym.out.cell 3 rfl
  have y4 := Ym.out.cell 4 rfl
  have y5 := Ym.out.cell 5 rfl
  have y6 := Ym.out.cell 6 rfl
  have y7 := Ym.out.cell 7 rfl
  have y8 := Ym.out.cell 8 rfl
  have y9 := Ym.out.cell 9 rfl
  have y10 := Ym.out.cell 10 rfl
  have y11 := Ym.out.cell 11 rfl
  have g0 := Gm.out.cell 0 rfl
  have g1 := Gm.out.cell 1 rfl
  have g2 := Gm.out.cell 2 rfl
  have g3 := Gm.out.cell 3 rfl
  have g4 := Gm.out.cell 4 rfl
  have g5 := Gm.out.cell 5 rfl
  have g6 := Gm.out.cell 6 rfl
  have g7 := Gm.out.cell 7 rfl
  have g8 := Gm.out.cell 8 rfl
  have g9 := Gm.out.cell 9 rfl
  have g10 := Gm.out.cell 10 rfl
  have g11 := Gm.out.cell 11 rfl
  go_wp2_with fail
  clear y0 y1 y2 y3 y4 y5 y6 y7 y8 y9 y10 y11 g0 g1 g2 g3 g4 g5 g6 g7 g8 g9 g10 g11
  refine (eq_sres _ _ _ _ _ _ _ _ _ _ _ _ _ G P Z _ _ _ Om.out.sr Nm.out.sr).mono ?_
  rintro e t1 ⟨rfl, b7⟩
  have Bt1 : Hid (Below W.heap.size W t1) := on Bm.out b7
  have Yt1 : Hid (Vb t1 s3 #[.int .i64 C, .slice ya0 e0 yk0, .int .i64 G.pc, .slice ya1 e1 yk1, .bool G.halted, .bool G.waiting, .bool G.rung, .int .i64 G.done, .slice ya2 e2 yk2, .slice ya3 e3 yk3, .slice ya4 e4 yk4, .slice ya5 e5 yk5] 39) := Ym.out.keep b7
  have Gt1 : Hid (Vb t1 s5 #[.int .i64 C, .slice za0 e0 zk0, .int .i64 G.pc, .slice za1 e1 zk1, .bool G.halted, .bool G.waiting, .bool G.rung, .int .i64 G.done, .slice za2 e2 zk2, .slice za3 e3 zk3, .slice za4 e4 zk4, .slice za5 e5 zk5] 39) := Gm.out.keep b7
  have Nt1 : Hid (Sm t1 _ (.slice ya0 e0 yk0) (.slice ya1 e1 yk1) (.slice ya2 e2 yk2) (.slice ya3 e3 yk3) (.slice ya4 e4 yk4) (.slice ya5 e5 yk5) G P Z) := Nm.out.keep b7
  have Ot1 : Hid (Sm t1 W4.heap.size (.slice za0 e0 zk0) (.slice za1 e1 zk1) (.slice za2 e2 zk2) (.slice za3 e3 zk3) (.slice za4 e4 zk4) (.slice za5 e5 zk5) G P Z) := Om.out.keep b7
  clear b7 Ym Gm Nm Om Bm
  have g0 := Gt1.out.cell 0 rfl
  have g1 := Gt1.out.cell 1 rfl
  have g2 := Gt1.out.cell 2 rfl
  have g3 := Gt1.out.cell 3 rfl
  have g4 := Gt1.out.cell 4 rfl
  have g5 := Gt1.out.cell 5 rfl
  have g6 := Gt1.out.cell 6 rfl
  have g7 := Gt1.out.cell 7 rfl
  have g8 := Gt1.out.cell 8 rfl
  have g9 := Gt1.out.cell 9 rfl
  have g10 := Gt1.out.cell 10 rfl
  have g11 := Gt1.out.cell 11 rfl
  go_wp2_with fail
  clear g0 g1 g2 g3 g4 g5 g6 g7 g8 g9 g10 g11 hr1
  refine (mark_sres _ _ _ _ _ _ _ G P Z 1 _ _ Ot1.out (by decide) (by have := SY.out; omega)).mono ?_
  rintro e t2 ⟨rfl, n7, g7⟩
  have TG : Hid ((1 : Int) + (totS G P Z : Nat) = 1 + (totH G : Nat) + (2 * P.length : Nat) + (Z.length : Nat)) := by show _ = _; unfold totS; omega
  have mk2 : Mq (fun k => W4.heap.size ≤ k ∧ k < s5) t1 t2 := vo_wid g7 fun k e => L5.out k e
  have Bt2 : Hid (Below W.heap.size W t2) := Mq.below Bt1.out mk2 fun k e => by have := B3.out.size; have := Z4.out; omega
  have Yt2 : Hid (Vb t2 s3 #[.int .i64 C, .slice ya0 e0 yk0, .int .i64 G.pc, .slice ya1 e1 yk1, .bool G.halted, .bool G.waiting, .bool G.rung, .int .i64 G.done, .slice ya2 e2 yk2, .slice ya3 e3 yk3, .slice ya4 e4 yk4, .slice ya5 e5 yk5] 39) := mk2.vb Yt1.out fun e => by have := Z3.out; have := Z4.out; omega
  have Gt2 : Hid (Vb t2 s5 #[.int .i64 C, .slice za0 e0 zk0, .int .i64 G.pc, .slice za1 e1 zk1, .bool G.halted, .bool G.waiting, .bool G.rung, .int .i64 G.done, .slice za2 e2 zk2, .slice za3 e3 zk3, .slice za4 e4 zk4, .slice za5 e5 zk5] 39) := mk2.vb Gt1.out fun e => by omega
  have Nt2 : Hid (Sm t2 _ (.slice ya0 e0 yk0) (.slice ya1 e1 yk1) (.slice ya2 e2 yk2) (.slice ya3 e3 yk3) (.slice ya4 e4 yk4) (.slice ya5 e5 yk5) G P Z) := sm_mqF Nt1.out mk2 fun k e f => by have := L3.out k e; have := Z3.out; have := Z4.out; omega
  have Ot2 : Hid (Sm t2 W4.heap.size (.slice za0 e0 zk0) (.slice za1 e1 zk1) (.slice za2 e2 zk2) (.slice za3 e3 zk3) (.slice za4 e4 zk4) (.slice za5 e5 zk5) (mkH 1 G) (pmarks (1 + totH G) P.length) (marks (1 + totH G + (2 * P.length : Nat)) Z.length)) := n7
  clear n7 g7 mk2 Bt1 Yt1 Gt1 Nt1 Ot1
  have TL : Hid (1 + (totH G : Int) + (2 * P.length : Nat) + (Z.length : Nat) ≤ 4611686018427387904) := by have := SY.out; have := TG.out; show _ ≤ _; omega
  rw [TG.out]
  have tp : 0 ≤ 1 + (totH G : Int) + (2 * P.length : Nat) + (Z.length : Nat) := by omega
  obtain ⟨TT, hTT⟩ : ∃ t, 1 + (totH G : Int) + (2 * P.length : Nat) + (Z.length : Nat) = t := ⟨_, rfl⟩
  have HTT : Hid (1 + (totH G : Int) + (2 * P.length : Nat) + (Z.length : Nat) = TT) := hTT
  rw [hTT] at tp ⊢
  clear hTT
  have g0 := Gt2.out.cell 0 rfl
  have g1 := Gt2.out.cell 1 rfl
  have g2 := Gt2.out.cell 2 rfl
  have g3 := Gt2.out.cell 3 rfl
  have g4 := Gt2.out.cell 4 rfl
  have g5 := Gt2.out.cell 5 rfl
  have g6 := Gt2.out.cell 6 rfl
  have g7 := Gt2.out.cell 7 rfl
  have g8 := Gt2.out.cell 8 rfl
  have g9 := Gt2.out.cell 9 rfl
  have g10 := Gt2.out.cell 10 rfl
  have g11 := Gt2.out.cell 11 rfl
  go_wp2_with fail
  clear g0 g1 g2 g3 g4 g5 g6 g7 g8 g9 g10 g11
  refine (held_sres _ _ _ _ _ _ _ G P.length Z.length 1 _ _ Ot2.out.h Ot2.out.pl Ot2.out.mm (by decide) TL.out).mono ?_
  rintro e t3 ⟨rfl, b7⟩
  rw [HTT.out]
  have Bt3 : Hid (Below W.heap.size W t3) := on Bt2.out b7
  have Yt3 : Hid (Vb t3 s3 #[.int .i64 C, .slice ya0 e0 yk0, .int .i64 G.pc, .slice ya1 e1 yk1, .bool G.halted, .bool G.waiting, .bool G.rung, .int .i64 G.done, .slice ya2 e2 yk2, .slice ya3 e3 yk3, .slice ya4 e4 yk4, .slice ya5 e5 yk5] 39) := Yt2.out.keep b7
  have Gt3 : Hid (Vb t3 s5 #[.int .i64 C, .slice za0 e0 zk0, .int .i64 G.pc, .slice za1 e1 zk1, .bool G.halted, .bool G.waiting, .bool G.rung, .int .i64 G.done, .slice za2 e2 zk2, .slice za3 e3 zk3, .slice za4 e4 zk4, .slice za5 e5 zk5] 39) := Gt2.out.keep b7
  have Nt3 : Hid (Sm t3 _ (.slice ya0 e0 yk0) (.slice ya1 e1 yk1) (.slice ya2 e2 yk2) (.slice ya3 e3 yk3) (.slice ya4 e4 yk4) (.slice ya5 e5 yk5) G P Z) := Nt2.out.keep b7
  have Ot3 : Hid (Sm t3 W4.heap.size (.slice za0 e0 zk0) (.slice za1 e1 zk1) (.slice za2 e2 zk2) (.slice za3 e3 zk3) (.slice za4 e4 zk4) (.slice za5 e5 zk5) (mkH 1 G) (pmarks (1 + totH G) P.length) (marks (1 + totH G + (2 * P.length : Nat)) Z.length)) := Ot2.out.keep b7
  clear b7 Bt2 Yt2 Gt2 Nt2 Ot2
  have q0 := (Q.out.keep Bt3.out).cell 0 rfl
  have q1 := (Q.out.keep Bt3.out).cell 1 rfl
  have q2 := (Q.out.keep Bt3.out).cell 2 rfl
  have q3 := (Q.out.keep Bt3.out).cell 3 rfl
  have q4 := (Q.out.keep Bt3.out).cell 4 rfl
  have q5 := (Q.out.keep Bt3.out).cell 5 rfl
  have q6 := (Q.out.keep Bt3.out).cell 6 rfl
  have q7 := (Q.out.keep Bt3.out).cell 7 rfl
  have q8 := (Q.out.keep Bt3.out).cell 8 rfl
  go_wp2_with fail
  clear q0 q1 q2 q3 q4 q5 q6 q7 q8
  refine (to_host _ _ _ _ _ _ _ _ _ _ _ _ _ _ _ _ _ _ X _ (HP.out.stay Bt3.out) SM.out).mono ?_
  rintro e t4 ⟨h0, h1, h2, h3, h4, h5, rfl, m9, b7⟩
  have Bt4 : Hid (Below W.heap.size W t4) := on Bt3.out b7
  have D9 : Hid (Below t3.heap.size t3 t4) := b7
  have M9 : Hid (Od t4 _ h0 h1 h2 h3 n0 n1 n2 n3 _ _ X) := m9
  clear b7 m9
  go_wp2_with fail
  have CALL := i_soloFrom _ _ _ _ _ _ _ _ _ _ _ _ _ _ X gu _ _ (od_oj M9.out) (cell_keep Bt4.out HG.out)
  rw [HCZ.out.1, HCZ.out.2.1, HCZ.out.2.2.1, HCZ.out.2.2.2] at CALL
  refine CALL.mono ?_
  clear CALL
  rintro e t6 ⟨_, _, _, _, _, _, rfl, sp, b7⟩
  obtain ⟨ta0, tk0, f0, _⟩ := sp.h.r.shape
  obtain ⟨ta1, tk1, f1, _⟩ := sp.h.c.shape
  obtain ⟨ta2, tk2, f2, _⟩ := sp.h.i.shape
  obtain ⟨ta3, tk3, f3, _⟩ := sp.h.o.shape
  obtain ⟨ta4, tk4, f4, _⟩ := sp.pl.shape
  obtain ⟨ta5, tk5, f5, _⟩ := sp.mm.shape
  subst f0 f1 f2 f3 f4 f5
  rw [LY.out.1, LY.out.2.1, LY.out.2.2.1, LY.out.2.2.2.1, LY.out.2.2.2.2.1, LY.out.2.2.2.2.2] at sp ⊢
  have WN : Hid (Below t6.heap.size t6 (t6.alloc (.cells #[.int .i64 C, .slice ta0 e0 tk0, .int .i64 G.pc, .slice ta1 e1 tk1, .bool G.halted, .bool G.waiting, .bool G.rung, .int .i64 G.done, .slice ta2 e2 tk2, .slice ta3 e3 tk3, .slice ta4 e4 tk4, .slice ta5 e5 tk5] 39))) := al (Below.refl _ _) _
  have H6 : Hid (Sm (t6.alloc (.cells #[.int .i64 C, .slice ta0 e0 tk0, .int .i64 G.pc, .slice ta1 e1 tk1, .bool G.halted, .bool G.waiting, .bool G.rung, .int .i64 G.done, .slice ta2 e2 tk2, .slice ta3 e3 tk3, .slice ta4 e4 tk4, .slice ta5 e5 tk5] 39)) _ (.slice ta0 e0 tk0) (.slice ta1 e1 tk1) (.slice ta2 e2 tk2) (.slice ta3 e3 tk3) (.slice ta4 e4 tk4) (.slice ta5 e5 tk5) G P Z) := sp.keep WN.out
  have Bt6 : Hid (Below W.heap.size W t6) := on Bt4.out b7
  have D6 : Hid (Below t3.heap.size t3 t6) := on D9.out b7
  have Yt6 : Hid (Vb t6 s3 #[.int .i64 C, .slice ya0 e0 yk0, .int .i64 G.pc, .slice ya1 e1 yk1, .bool G.halted, .bool G.waiting, .bool G.rung, .int .i64 G.done, .slice ya2 e2 yk2, .slice ya3 e3 yk3, .slice ya4 e4 yk4, .slice ya5 e5 yk5] 39) := Yt3.out.keep D6.out
  have Gt6 : Hid (Vb t6 s5 #[.int .i64 C, .slice za0 e0 zk0, .int .i64 G.pc, .slice za1 e1 zk1, .bool G.halted, .bool G.waiting, .bool G.rung, .int .i64 G.done, .slice za2 e2 zk2, .slice za3 e3 zk3, .slice za4 e4 zk4, .slice za5 e5 zk5] 39) := Gt3.out.keep D6.out
  have Nt6 : Hid (Sm t6 _ (.slice ya0 e0 yk0) (.slice ya1 e1 yk1) (.slice ya2 e2 yk2) (.slice ya3 e3 yk3) (.slice ya4 e4 yk4) (.slice ya5 e5 yk5) G P Z) := Nt3.out.keep D6.out
  have Ot6 : Hid (Sm t6 W4.heap.size (.slice za0 e0 zk0) (.slice za1 e1 zk1) (.slice za2 e2 zk2) (.slice za3 e3 zk3) (.slice za4 e4 zk4) (.slice za5 e5 zk5) (mkH 1 G) (pmarks (1 + totH G) P.length) (marks (1 + totH G + (2 * P.length : Nat)) Z.length)) := Ot3.out.keep D6.out
  clear sp b7 M9 D9 D6 Yt3 Gt3 Nt3 Ot3 Bt3 Bt4
  have y0 := Yt6.out.cell 0 rfl
  have y1 := Yt6.out.cell 1 rfl
  have y2 := Yt6.out.cell 2 rfl
  have y3 := Yt6.out.cell 3 rfl
  have y4 := Yt6.out.cell 4 rfl
  have y5 := Yt6.out.cell 5 rfl
  have y6 := Yt6.out.cell 6 rfl
  have y7 := Yt6.out.cell 7 rfl
  have y8 := Yt6.out.cell 8 rfl
  have y9 := Yt6.out.cell 9 rfl
  have y10 := Yt6.out.cell 10 rfl
  have y11 := Yt6.out.cell 11 rfl
  have l6 : s3 < t6.heap.size := Yt6.out.lt
  go_wp2_with fail
  clear y0 y1 y2 y3 y4 y5 y6 y7 y8 y9 y10 y11 l6
  refine (eq_sres _ _ _ _ _ _ _ _ _ _ _ _ _ G P Z _ _ _ H6.out.sr (Nt6.out.keep WN.out).sr).mono ?_
  rintro e t7 ⟨rfl, b8⟩
  have b7 := on WN.out b8
  have Bt7 : Hid (Below W.heap.size W t7) := on Bt6.out b7
  have Gt7 : Hid (Vb t7 s5 #[.int .i64 C, .slice za0 e0 zk0, .int .i64 G.pc, .slice za1 e1 zk1, .bool G.halted, .bool G.waiting, .bool G.rung, .int .i64 G.done, .slice za2 e2 zk2, .slice za3 e3 zk3, .slice za4 e4 zk4, .slice za5 e5 zk5] 39) := Gt6.out.keep b7
  have Ot7 : Hid (Sm t7 W4.heap.size (.slice za0 e0 zk0) (.slice za1 e1 zk1) (.slice za2 e2 zk2) (.slice za3 e3 zk3) (.slice za4 e4 zk4) (.slice za5 e5 zk5) (mkH 1 G) (pmarks (1 + totH G) P.length) (marks (1 + totH G + (2 * P.length : Nat)) Z.length)) := Ot6.out.keep b7
  clear b7 b8 WN H6 Bt6 Yt6 Gt6 Nt6 Ot6
  have g0 := Gt7.out.cell 0 rfl
  have g1 := Gt7.out.cell 1 rfl
  have g2 := Gt7.out.cell 2 rfl
  have g3 := Gt7.out.cell 3 rfl
  have g4 := Gt7.out.cell 4 rfl
  have g5 := Gt7.out.cell 5 rfl
  have g6 := Gt7.out.cell 6 rfl
  have g7 := Gt7.out.cell 7 rfl
  have g8 := Gt7.out.cell 8 rfl
  have g9 := Gt7.out.cell 9 rfl
  have g10 := Gt7.out.cell 10 rfl
  have g11 := Gt7.out.cell 11 rfl
  go_wp2_with fail
  clear g0 g1 g2 g3 g4 g5 g6 g7 g8 g9 g10 g11
  refine (held_sres _ _ _ _ _ _ _ G P.length Z.length 1 _ _ Ot7.out.h Ot7.out.pl Ot7.out.mm (by decide) TL.out).mono ?_
  rintro e t8 ⟨rfl, b8⟩
  rw [HTT.out]
  go_wp2_with fail
  go_ret
  exact ⟨rfl, on B0.out (on Bt7.out b8)⟩
end Go.Proofs.YthnaggeilbcioaaGreatDoor.fnExactSoloFromDone
