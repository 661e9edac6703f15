/- The walk of a law. -/
import Derived.Test.YtadkhognlapckaaGreatDoorCards
import Derived.Test.YtadkhognlapckaaGreatDoorTie
import Derived.Deep.DeepHandedRow
import Derived.LaidHandle
import Derived.LaidLaws
import Derived.Lib.LaidTab
import Derived.Stop.LaidErr
import Derived.Lib.SmallJoins
import Derived.Deep.RegionWith
import Derived.Deep.RegionHeld3
import Derived.Deep.Cut
import Derived.Deep.CutRange
import Derived.Test.YtadkhognlapckaaGreatDoorQ01
import Derived.Test.YtadkhognlapckaaGreatDoorQ20
import Derived.Test.YtadkhognlapckaaGreatDoorQ29
import Derived.Test.YtadkhognlapckaaGreatDoorQ30
import Derived.Test.YtadkhognlapckaaGreatDoorQ37
import Derived.Test.YtadkhognlapckaaGreatDoorQ39
import Derived.Test.YtadkhognlapckaaGreatDoorQ40
import Derived.Test.YtadkhognlapckaaGreatDoorQ49
import Derived.Test.YtadkhognlapckaaGreatDoorQ50
import Derived.Test.YtadkhognlapckaaGreatDoorQ51
namespace Go.Proofs.YtadkhognlapckaaGreatDoor.fnExactSoloViewDone
open Go.ChangeShapes Go.WideShapes Go.ChangeAt Go.RowKit
open Go.ChangeMaps (open_string shut_string)
set_option linter.unusedVariables false

set_option maxRecDepth 20000 in
set_option maxHeartbeats 8000000 in
theorem walk (a0 a1 a2 a3 : Option Addr) (n0 c0 n1 c1 n2 c2 n3 c3 : Nat) (P : Plc) (u0 u1 u2 u3 : Option Addr) (m0 k0 m1 k1 m2 k2 m3 k3 : Nat) (H : Ht) (la : Option Addr) (ln lc : Nat) (ps : List (Int × Int)) (ma : Option Addr) (mn mc : Nat) (zs : List Int) (gu : Int) (w : World) (hq : Pin w a0 n0 c0 a1 n1 c1 a2 n2 c2 a3 n3 c3 P) (h : Hin w u0 m0 k0 u1 m1 k1 u2 m2 k2 u3 m3 k3 H) (hp : IsPairs w la ln lc ps) (hz : IsRow .i64 w ma mn mc zs) (wgu : (Lit.int .i64 gu).wf = true) (hg : w.cell? ⟨0, 0, none⟩ = some (.iface 179 (.agg #[.pointer (some ⟨1, 145, none⟩)]))) :
    Calls Tryz.prog 3 #[.agg #[.slice a0 n0 c0, .slice a1 n1 c1, .slice a2 n2 c2, .slice a3 n3 c3], .agg #[.slice u0 m0 k0, .int .i64 H.pc, .slice u1 m1 k1, .bool H.halted, .bool H.waiting, .bool H.rung, .int .i64 H.done, .slice u2 m2 k2, .slice u3 m3 k3, .slice la ln lc, .slice ma mn mc], .int .i64 gu] w fun e w' => e = .returned (.bool true) ∧ Below w.heap.size w w' := by
  generalize hW : (w.alloc (.cells #[.slice a0 n0 c0, .slice a1 n1 c1, .slice a2 n2 c2, .slice a3 n3 c3] 27)).alloc (.cells #[.slice u0 m0 k0, .int .i64 H.pc, .slice u1 m1 k1, .bool H.halted, .bool H.waiting, .bool H.rung, .int .i64 H.done, .slice u2 m2 k2, .slice u3 m3 k3, .slice la ln lc, .slice ma mn mc] 33) = W
  have B0 : Hid (Below w.heap.size w W) := by show Below _ _ _; rw [← hW]; exact al (al (Below.refl _ _) _) _
  obtain ⟨s, hS⟩ : ∃ s, w.heap.size = s := ⟨_, rfl⟩
  have z1 : s + 1 = (w.alloc (.cells #[.slice a0 n0 c0, .slice a1 n1 c1, .slice a2 n2 c2, .slice a3 n3 c3] 27)).heap.size := by rw [← hS]; simp
  have Q : Hid (Vb W s #[.slice a0 n0 c0, .slice a1 n1 c1, .slice a2 n2 c2, .slice a3 n3 c3] 27) := by show Vb _ _ _ _; rw [← hW, ← hS]; exact (Vb.new _ _ _).push _
  have T : Hid (Vb W (s + 1) #[.slice u0 m0 k0, .int .i64 H.pc, .slice u1 m1 k1, .bool H.halted, .bool H.waiting, .bool H.rung, .int .i64 H.done, .slice u2 m2 k2, .slice u3 m3 k3, .slice la ln lc, .slice ma mn mc] 33) := by show Vb _ _ _ _; rw [← hW, z1]; exact Vb.new _ _ _
  clear z1
  have HQ : Hid (Pin W a0 n0 c0 a1 n1 c1 a2 n2 c2 a3 n3 c3 P) := hq.stay B0.out
  have HI : Hid (Hin W u0 m0 k0 u1 m1 k1 u2 m2 k2 u3 m3 k3 H ∧ IsPairs W la ln lc ps ∧ IsRow .i64 W ma mn mc zs) := ⟨h.stay B0.out, hp.stay B0.out, hz.stay B0.out⟩
  have EL : Hid (ln = ps.length ∧ mn = zs.length) := ⟨hp.len, hz.ln.1⟩
  have HG : Hid (W.cell? ⟨0, 0, none⟩ = some (.iface 179 (.agg #[.pointer (some ⟨1, 145, none⟩)]))) := cell_keep B0.out hg
  clear hq h hp hz wgu hg
  have q0 := Q.out.cell 0 rfl
  have q1 := Q.out.cell 1 rfl
  have q2 := Q.out.cell 2 rfl
  have q3 := Q.out.cell 3 rfl
  go_enter Tryz.func3, Tryz.ntmps3
  go_wp2_with fail
  clear hW hS q0 q1 q2 q3
  refine (sz_policy _ _ _ _ _ _ _ _ _ _ _ _ P _ HQ.out).mono ?_
  rintro e w1 ⟨⟨r, rfl, hr, hs⟩, b1⟩
  by_cases hneg : r < 0
  · go_wp2_with fail
    go_ret
    exact ⟨rfl, on B0.out b1⟩
  have SP : Hid (Small n0 n1 n2 n3 P) := hs (by omega)
  have HR : Hid (0 ≤ r ∧ r ≤ 1048576) := ⟨by omega, hr⟩
  have B1 : Hid (Below W.heap.size W w1) := b1
  have T1 := T.out.keep b1
  clear hs b1 hr
  have q0 := T1.cell 0 rfl
  have q1 := T1.cell 1 rfl
  have q2 := T1.cell 2 rfl
  have q3 := T1.cell 3 rfl
  have q4 := T1.cell 4 rfl
  have q5 := T1.cell 5 rfl
  have q6 := T1.cell 6 rfl
  have q7 := T1.cell 7 rfl
  have q8 := T1.cell 8 rfl
  have q9 := T1.cell 9 rfl
  have q10 := T1.cell 10 rfl
  clear T1
  go_wp2_with fail
  clear q0 q1 q2 q3 q4 q5 q6 q7 q8 q9 q10
  refine (sz_soloK r HR.out _ _ _ _ _ _ _ _ _ _ _ _ H _ _ _ ps _ _ _ zs _ (HI.out.1.stay B1.out) (HI.out.2.1.stay B1.out) (HI.out.2.2.stay B1.out)).mono ?_
  rintro e w2 ⟨⟨rr, rfl, hs⟩, b2⟩
  clear hneg
  by_cases hneg : rr < 0
  · go_wp2_with fail
    go_ret
    exact ⟨rfl, on B0.out (on B1.out b2)⟩
  have SM : Hid (Hs m0 m1 m2 m3 ∧ ln ≤ 1048576 ∧ mn ≤ 1048576) := hs (by omega)
  have PL : Hid (ps.length ≤ 1048576) := by show _ ≤ _; rw [← EL.out.1]; exact SM.out.2.1
  have B2 : Hid (Below W.heap.size W w2) := on B1.out b2
  clear hs b2 B1
  obtain ⟨C, hC⟩ : ∃ C, svC P gu H ps zs = C := ⟨_, rfl⟩
  obtain ⟨G, hG⟩ : ∃ G, svH P gu H ps zs = G := ⟨_, rfl⟩
  obtain ⟨O, hO⟩ : ∃ O, svO P gu H ps zs = O := ⟨_, rfl⟩
  obtain ⟨Z, hZ⟩ : ∃ Z, svG P gu H ps zs = Z := ⟨_, rfl⟩
  have HCZ : Hid (svC P gu H ps zs = C ∧ svH P gu H ps zs = G ∧ svO P gu H ps zs = O ∧ svG P gu H ps zs = Z) := ⟨hC, hG, hO, hZ⟩
  have SY : Hid (totV G O Z ≤ 2000) := by have t := sv_small P gu H ps zs; rw [hG, hO, hZ] at t; exact t
  obtain ⟨e0, le0⟩ : ∃ n, G.regs.length = n := ⟨_, rfl⟩
  obtain ⟨e1, le1⟩ : ∃ n, G.csr.length = n := ⟨_, rfl⟩
  obtain ⟨e2, le2⟩ : ∃ n, G.inn.length = n := ⟨_, rfl⟩
  obtain ⟨e3, le3⟩ : ∃ n, G.out.length = n := ⟨_, rfl⟩
  obtain ⟨e4, le4⟩ : ∃ n, O.length = n := ⟨_, rfl⟩
  obtain ⟨e5, le5⟩ : ∃ n, Z.length = n := ⟨_, rfl⟩
  have LY : Hid (G.regs.length = e0 ∧ G.csr.length = e1 ∧ G.inn.length = e2 ∧ G.out.length = e3 ∧ O.length = e4 ∧ Z.length = e5) := ⟨le0, le1, le2, le3, le4, le5⟩
  clear hC hG hO hZ le0 le1 le2 le3 le4 le5
  go_upto_region 8 with fail
  go_cut [8] from 26 to 31 (fun c wx => ∃ (s3 bn : Nat) (ya0 ya1 ya2 ya3 ya4 ya5 : Option Addr) (yk0 yk1 yk2 yk3 yk4 yk5 : Nat), c = .pointer (some ⟨s3, 0, none⟩) ∧ Below W.heap.size W wx ∧ Below w2.heap.size w2 wx ∧ Vb wx s3 #[.int .i64 C, .slice ya0 e0 yk0, .int .i64 G.pc, .slice ya1 e1 yk1, .bool G.halted, .bool G.waiting, .bool G.rung, .int .i64 G.done, .slice ya2 e2 yk2, .slice ya3 e3 yk3, .slice ya4 e4 yk4, .slice ya5 e5 yk5] 40 ∧ Vm wx bn (.slice ya0 e0 yk0) (.slice ya1 e1 yk1) (.slice ya2 e2 yk2) (.slice ya3 e3 yk3) (.slice ya4 e4 yk4) (.slice ya5 e5 yk5) G O Z ∧ (∀ k, OwnV (.slice ya0 e0 yk0) (.slice ya1 e1 yk1) (.slice ya2 e2 yk2) (.slice ya3 e3 yk3) (.slice ya4 e4 yk4) (.slice ya5 e5 yk5) k → W.heap.size ≤ k ∧ k < wx.heap.size ∧ k ≠ s3) ∧ s3 < wx.heap.size ∧ W.heap.size ≤ s3)
  case first =>
    have S0 : Hid (Below W.heap.size W w2.drew) := B2.out.drew
    have D0 : Hid (Below w2.heap.size w2 w2.drew) := (Below.refl _ _).drew
    refine wp_region_held (S := fun w' => Below W.heap.size W w') (by kernel_rfl) ?_
    change wpAnyH _ _ _ _ _ _ _ _ (World.drew _)
    generalize w2.drew = v0 at *
    refine wpAnyH_take (i := 0) (v := (.agg #[.slice a0 n0 c0, .slice a1 n1 c1, .slice a2 n2 c2, .slice a3 n3 c3])) rfl (by kernel_rfl) (by kernel_rfl) (by kernel_rfl) (fun _ _ _ h => h) (Or.inl ⟨by rfl, fun w' hs => by have hq := Q.out.keep hs; have q0 := hq.cell 0 rfl; have q1 := hq.cell 1 rfl; have q2 := hq.cell 2 rfl; have q3 := hq.cell 3 rfl; go_simp⟩) S0.out ?_
    change wpAnyH _ _ _ _ _ _ _ (Act.put _ (some 26) _) _
    simp only [Act.put, List.setIfInBounds_toArray, List.set_cons_zero, List.set_cons_succ]
    refine wpAnyH_take (i := 2) (v := (.agg #[.slice u0 m0 k0, .int .i64 H.pc, .slice u1 m1 k1, .bool H.halted, .bool H.waiting, .bool H.rung, .int .i64 H.done, .slice u2 m2 k2, .slice u3 m3 k3, .slice la ln lc, .slice ma mn mc])) rfl (by kernel_rfl) (by kernel_rfl) (by kernel_rfl) (fun _ _ _ h => h) (Or.inl ⟨by rfl, fun w' hs => by have hq := T.out.keep hs; have q0 := hq.cell 0 rfl; have q1 := hq.cell 1 rfl; have q2 := hq.cell 2 rfl; have q3 := hq.cell 3 rfl; have q4 := hq.cell 4 rfl; have q5 := hq.cell 5 rfl; have q6 := hq.cell 6 rfl; have q7 := hq.cell 7 rfl; have q8 := hq.cell 8 rfl; have q9 := hq.cell 9 rfl; have q10 := hq.cell 10 rfl; go_simp⟩) S0.out ?_
    change wpAnyH _ _ _ _ _ _ _ (Act.put _ (some 28) _) _
    simp only [Act.put, List.setIfInBounds_toArray, List.set_cons_zero, List.set_cons_succ]
    refine wpAnyH_take (i := 4) (v := (.int .i64 gu)) rfl (by kernel_rfl) (by kernel_rfl) (by kernel_rfl) (fun _ _ _ h => h) (Or.inl ⟨by rfl, fun w' hs => by go_simp⟩) S0.out ?_
    change wpAnyH _ _ _ _ _ _ _ (Act.put _ (some 30) _) _
    simp only [Act.put, List.setIfInBounds_toArray, List.set_cons_zero, List.set_cons_succ]
    refine wpAnyH_ready (rs := [1, 6]) (by kernel_rfl) (by simp) ?_
    refine AllReadyH.cons rfl (fun K hK => ?_) (AllReadyH.cons rfl (fun K hK => ?_) AllReadyH.nil)
    · skip
      rw [if_pos (by rfl)]
      go_simp
      refine (to_policy _ _ _ _ _ _ _ _ _ _ _ _ P _ (HQ.out.stay S0.out) SP.out).mono ?_
      rintro e v1 ⟨g0, g1, g2, g3, rfl, pm, pb⟩
      have S1 : Hid (Below W.heap.size W v1) := on S0.out pb
      have D1 : Hid (Below w2.heap.size w2 v1) := on D0.out pb
      have M1 : Hid (Mde v1 _ g0 g1 g2 g3 n0 n1 n2 n3 P) := pm
      clear pm pb
      refine hK.out _ _ S1.out (fun _ => ?_)
      clear hK K
      refine wpAnyH_ready (rs := [3, 6]) (by kernel_rfl) (by simp) ?_
      refine AllReadyH.cons rfl (fun K hK => ?_) (AllReadyH.cons rfl (fun K hK => ?_) AllReadyH.nil)
      · skip
        rw [if_pos (by rfl)]
        go_simp
        refine (to_solo _ _ _ _ _ _ _ _ _ _ _ _ H _ _ _ ps _ _ _ zs _ (HI.out.1.stay S1.out) (HI.out.2.1.stay S1.out) (HI.out.2.2.stay S1.out) SM.out.1 SM.out.2.1 SM.out.2.2).mono ?_
        rintro e v2 ⟨r2, d2, i2, o2, l2, m2', rfl, s2, b2⟩
        have S2 : Hid (Below W.heap.size W v2) := on S1.out b2
        have D2 : Hid (Below w2.heap.size w2 v2) := on D1.out b2
        have M2 : Hid (Mde v2 _ g0 g1 g2 g3 n0 n1 n2 n3 P) := M1.out.keep b2
        have X2 : Hid (Sm v2 _ r2 d2 i2 o2 l2 m2' H ps zs) := s2
        clear s2 b2
        refine hK.out _ _ S2.out (fun _ => ?_)
        clear hK K
        refine wpAnyH_ready (rs := [5, 6]) (by kernel_rfl) (by simp) ?_
        refine AllReadyH.cons rfl (fun K hK => ?_) (AllReadyH.cons rfl (fun K hK => ?_) AllReadyH.nil)
        · skip
          rw [if_pos (by rfl)]
          go_simp
          have CALL := s_soloView _ _ _ _ _ _ _ _ _ _ _ _ P _ _ _ _ _ _ H ps zs gu _ _ M2.out.pl X2.out PL.out
          rw [HCZ.out.1, HCZ.out.2.1, HCZ.out.2.2.1, HCZ.out.2.2.2] at CALL
          refine CALL.mono ?_
          clear CALL
          rintro e v3 ⟨_, _, _, _, _, _, rfl, sp, b3⟩
          obtain ⟨ya0, yk0, f0, _⟩ := sp.h.r.shape
          obtain ⟨ya1, yk1, f1, _⟩ := sp.h.c.shape
          obtain ⟨ya2, yk2, f2, _⟩ := sp.h.i.shape
          obtain ⟨ya3, yk3, f3, _⟩ := sp.h.o.shape
          obtain ⟨ya4, yk4, f4, _⟩ := sp.pl.shape
          obtain ⟨ya5, yk5, f5, _⟩ := sp.mm.shape
          subst f0 f1 f2 f3 f4 f5
          rw [LY.out.1, LY.out.2.1, LY.out.2.2.1, LY.out.2.2.2.1, LY.out.2.2.2.2.1, LY.out.2.2.2.2.2] at sp ⊢
          have S3 : Hid (Below W.heap.size W v3) := on S2.out b3
          have D3 : Hid (Below w2.heap.size w2 v3) := on D2.out b3
          have M3 : Hid (Mde v3 _ g0 g1 g2 g3 n0 n1 n2 n3 P) := M2.out.keep b3
          have X3 : Hid (Sm v3 _ r2 d2 i2 o2 l2 m2' H ps zs) := X2.out.keep b3
          have N3 : Hid (Vm v3 v2.heap.size (.slice ya0 e0 yk0) (.slice ya1 e1 yk1) (.slice ya2 e2 yk2) (.slice ya3 e3 yk3) (.slice ya4 e4 yk4) (.slice ya5 e5 yk5) G O Z) := sp
          have OW3 : Hid (∀ k, OwnV (.slice ya0 e0 yk0) (.slice ya1 e1 yk1) (.slice ya2 e2 yk2) (.slice ya3 e3 yk3) (.slice ya4 e4 yk4) (.slice ya5 e5 yk5) k → W.heap.size ≤ k ∧ k < v3.heap.size) := fun k e => ⟨Nat.le_trans S2.out.size (vm_own sp k e).1, (vm_own sp k e).2⟩
          clear sp b3
          refine hK.out _ _ S3.out (fun _ => ?_)
          clear hK K
          refine wpAnyH_ready (rs := [6]) (by kernel_rfl) (by simp) ?_
          refine AllReadyH.cons rfl (fun K hK => ?_) AllReadyH.nil
          rw [if_pos (by rfl)]
          go_simp
          have ba : Below v3.heap.size v3 (v3.alloc (.cells #[.int .i64 0, .slice none 0 0, .int .i64 0, .slice none 0 0, .bool false, .bool false, .bool false, .int .i64 0, .slice none 0 0, .slice none 0 0, .slice none 0 0, .slice none 0 0] 40)) := al (Below.refl _ _) _
          have RR : Hid (Vb (v3.alloc (.cells #[.int .i64 0, .slice none 0 0, .int .i64 0, .slice none 0 0, .bool false, .bool false, .bool false, .int .i64 0, .slice none 0 0, .slice none 0 0, .slice none 0 0, .slice none 0 0] 40)) v3.heap.size #[.int .i64 0, .slice none 0 0, .int .i64 0, .slice none 0 0, .bool false, .bool false, .bool false, .int .i64 0, .slice none 0 0, .slice none 0 0, .slice none 0 0, .slice none 0 0] 40) := Vb.new _ _ _
          have ZS : Hid (W.heap.size ≤ v3.heap.size ∧ w2.heap.size ≤ v3.heap.size) := ⟨S3.out.size, D3.out.size⟩
          have NE : Hid (∀ k, OwnV (.slice ya0 e0 yk0) (.slice ya1 e1 yk1) (.slice ya2 e2 yk2) (.slice ya3 e3 yk3) (.slice ya4 e4 yk4) (.slice ya5 e5 yk5) k → k ≠ v3.heap.size) := fun k e f => by have := (OW3.out k e).2; omega
          generalize (v3.alloc (.cells #[.int .i64 0, .slice none 0 0, .int .i64 0, .slice none 0 0, .bool false, .bool false, .bool false, .int .i64 0, .slice none 0 0, .slice none 0 0, .slice none 0 0, .slice none 0 0] 40)) = v4 at *
          have S4 : Hid (Below W.heap.size W v4) := on S3.out ba
          have D4 : Hid (Below w2.heap.size w2 v4) := on D3.out ba
          have M4 : Hid (Mde v4 _ g0 g1 g2 g3 n0 n1 n2 n3 P) := M3.out.keep ba
          have X4 : Hid (Sm v4 _ r2 d2 i2 o2 l2 m2' H ps zs) := X3.out.keep ba
          have N4 : Hid (Vm v4 _ (.slice ya0 e0 yk0) (.slice ya1 e1 yk1) (.slice ya2 e2 yk2) (.slice ya3 e3 yk3) (.slice ya4 e4 yk4) (.slice ya5 e5 yk5) G O Z) := N3.out.keep ba
          have OW4 : Hid (∀ k, OwnV (.slice ya0 e0 yk0) (.slice ya1 e1 yk1) (.slice ya2 e2 yk2) (.slice ya3 e3 yk3) (.slice ya4 e4 yk4) (.slice ya5 e5 yk5) k → W.heap.size ≤ k ∧ k < v4.heap.size) := fun k e => ⟨(OW3.out k e).1, Nat.lt_of_lt_of_le (OW3.out k e).2 (Below.size ba)⟩
          clear ba
          obtain ⟨s3, hs3⟩ : ∃ x, v3.heap.size = x := ⟨_, rfl⟩
          rw [hs3] at RR ZS NE ⊢
          clear hs3
          have R4 : Hid (Vb v4 s3 #[.int .i64 0, .slice none 0 0, .int .i64 0, .slice none 0 0, .bool false, .bool false, .bool false, .int .i64 0, .slice none 0 0, .slice none 0 0, .slice none 0 0, .slice none 0 0] 40) := RR.out
          clear RR
          refine hK.out _ _ S4.out (fun _ => ?_)
          clear hK K
          refine wpAnyH_ready (rs := [7]) (by kernel_rfl) (by simp) ?_
          refine AllReadyH.cons rfl (fun K hK => ?_) AllReadyH.nil
          rw [if_pos (by rfl)]
          refine wp_store_mid 40 (.tmp 8) (.tmp 31) rfl s3 0 #[.int .i64 C, .slice ya0 e0 yk0, .int .i64 G.pc, .slice ya1 e1 yk1, .bool G.halted, .bool G.waiting, .bool G.rung, .int .i64 G.done, .slice ya2 e2 yk2, .slice ya3 e3 yk3, .slice ya4 e4 yk4, .slice ya5 e5 yk5] rfl rfl (R4.out.there 12 (by decide)) (by kernel_rfl) (by simp [Value.oneCell']) ?_
          change K (Act.put _ none undef) _
          simp only [Act.put]
          have TW : Hid (Vb (v4.setCells s3 0 #[.int .i64 C, .slice ya0 e0 yk0, .int .i64 G.pc, .slice ya1 e1 yk1, .bool G.halted, .bool G.waiting, .bool G.rung, .int .i64 G.done, .slice ya2 e2 yk2, .slice ya3 e3 yk3, .slice ya4 e4 yk4, .slice ya5 e5 yk5].toList) s3 #[.int .i64 C, .slice ya0 e0 yk0, .int .i64 G.pc, .slice ya1 e1 yk1, .bool G.halted, .bool G.waiting, .bool G.rung, .int .i64 G.done, .slice ya2 e2 yk2, .slice ya3 e3 yk3, .slice ya4 e4 yk4, .slice ya5 e5 yk5] 40 ∧ Mq (fun k => k = s3) v4 (v4.setCells s3 0 #[.int .i64 C, .slice ya0 e0 yk0, .int .i64 G.pc, .slice ya1 e1 yk1, .bool G.halted, .bool G.waiting, .bool G.rung, .int .i64 G.done, .slice ya2 e2 yk2, .slice ya3 e3 yk3, .slice ya4 e4 yk4, .slice ya5 e5 yk5].toList)) := twelveV R4.out (.int .i64 C) (.slice ya0 e0 yk0) (.int .i64 G.pc) (.slice ya1 e1 yk1) (.bool G.halted) (.bool G.waiting) (.bool G.rung) (.int .i64 G.done) (.slice ya2 e2 yk2) (.slice ya3 e3 yk3) (.slice ya4 e4 yk4) (.slice ya5 e5 yk5)
          generalize (v4.setCells s3 0 #[.int .i64 C, .slice ya0 e0 yk0, .int .i64 G.pc, .slice ya1 e1 yk1, .bool G.halted, .bool G.waiting, .bool G.rung, .int .i64 G.done, .slice ya2 e2 yk2, .slice ya3 e3 yk3, .slice ya4 e4 yk4, .slice ya5 e5 yk5].toList) = V at *
          have VB : Hid (Below W.heap.size W V) := Mq.under S4.out TW.out.2 fun k e => by have := ZS.out; omega
          have VD : Hid (Below w2.heap.size w2 V) := Mq.under D4.out TW.out.2 fun k e => by have := ZS.out; omega
          have VN : Hid (Vm V _ (.slice ya0 e0 yk0) (.slice ya1 e1 yk1) (.slice ya2 e2 yk2) (.slice ya3 e3 yk3) (.slice ya4 e4 yk4) (.slice ya5 e5 yk5) G O Z) := vm_mqv N4.out TW.out.2 fun k e f => NE.out k e f
          have VL : Hid (∀ k, OwnV (.slice ya0 e0 yk0) (.slice ya1 e1 yk1) (.slice ya2 e2 yk2) (.slice ya3 e3 yk3) (.slice ya4 e4 yk4) (.slice ya5 e5 yk5) k → W.heap.size ≤ k ∧ k < V.heap.size ∧ k ≠ s3) := fun k e => ⟨(OW4.out k e).1, Nat.lt_of_lt_of_le (OW4.out k e).2 TW.out.2.size, NE.out k e⟩
          refine hK.out _ _ VB.out (fun _ => ?_)
          clear hK K
          refine wpAnyH_done (by kernel_rfl) ?_ _
          go_wp2_with fail
          go_meet
          exact ⟨s3, _, ya0, ya1, ya2, ya3, ya4, ya5, yk0, yk1, yk2, yk3, yk4, yk5, rfl, VB.out, VD.out, TW.out.1, VN.out, VL.out, TW.out.1.lt, ZS.out.1⟩
        · skip
          rw [if_pos (by rfl)]
          go_simp
          have ba : Below v2.heap.size v2 (v2.alloc (.cells #[.int .i64 0, .slice none 0 0, .int .i64 0, .slice none 0 0, .bool false, .bool false, .bool false, .int .i64 0, .slice none 0 0, .slice none 0 0, .slice none 0 0, .slice none 0 0] 40)) := al (Below.refl _ _) _
          have RR : Hid (Vb (v2.alloc (.cells #[.int .i64 0, .slice none 0 0, .int .i64 0, .slice none 0 0, .bool false, .bool false, .bool false, .int .i64 0, .slice none 0 0, .slice none 0 0, .slice none 0 0, .slice none 0 0] 40)) v2.heap.size #[.int .i64 0, .slice none 0 0, .int .i64 0, .slice none 0 0, .bool false, .bool false, .bool false, .int .i64 0, .slice none 0 0, .slice none 0 0, .slice none 0 0, .slice none 0 0] 40) := Vb.new _ _ _
          have ZS : Hid (W.heap.size ≤ v2.heap.size ∧ w2.heap.size ≤ v2.heap.size) := ⟨S2.out.size, D2.out.size⟩
          generalize (v2.alloc (.cells #[.int .i64 0, .slice none 0 0, .int .i64 0, .slice none 0 0, .bool false, .bool false, .bool false, .int .i64 0, .slice none 0 0, .slice none 0 0, .slice none 0 0, .slice none 0 0] 40)) = v3 at *
          have S3 : Hid (Below W.heap.size W v3) := on S2.out ba
          have D3 : Hid (Below w2.heap.size w2 v3) := on D2.out ba
          have M3 : Hid (Mde v3 _ g0 g1 g2 g3 n0 n1 n2 n3 P) := M2.out.keep ba
          have X3 : Hid (Sm v3 _ r2 d2 i2 o2 l2 m2' H ps zs) := X2.out.keep ba
          clear ba
          obtain ⟨s3, hs3⟩ : ∃ x, v2.heap.size = x := ⟨_, rfl⟩
          rw [hs3] at RR ZS ⊢
          clear hs3
          have R3 : Hid (Vb v3 s3 #[.int .i64 0, .slice none 0 0, .int .i64 0, .slice none 0 0, .bool false, .bool false, .bool false, .int .i64 0, .slice none 0 0, .slice none 0 0, .slice none 0 0, .slice none 0 0] 40) := RR.out
          clear RR
          refine hK.out _ _ S3.out (fun _ => ?_)
          clear hK K
          refine wpAnyH_ready (rs := [5]) (by kernel_rfl) (by simp) ?_
          refine AllReadyH.cons rfl (fun K hK => ?_) AllReadyH.nil
          rw [if_pos (by rfl)]
          go_simp
          have CALL := s_soloView _ _ _ _ _ _ _ _ _ _ _ _ P _ _ _ _ _ _ H ps zs gu _ _ M3.out.pl X3.out PL.out
          rw [HCZ.out.1, HCZ.out.2.1, HCZ.out.2.2.1, HCZ.out.2.2.2] at CALL
          refine CALL.mono ?_
          clear CALL
          rintro e v4 ⟨_, _, _, _, _, _, rfl, sp, b3⟩
          obtain ⟨ya0, yk0, f0, _⟩ := sp.h.r.shape
          obtain ⟨ya1, yk1, f1, _⟩ := sp.h.c.shape
          obtain ⟨ya2, yk2, f2, _⟩ := sp.h.i.shape
          obtain ⟨ya3, yk3, f3, _⟩ := sp.h.o.shape
          obtain ⟨ya4, yk4, f4, _⟩ := sp.pl.shape
          obtain ⟨ya5, yk5, f5, _⟩ := sp.mm.shape
          subst f0 f1 f2 f3 f4 f5
          rw [LY.out.1, LY.out.2.1, LY.out.2.2.1, LY.out.2.2.2.1, LY.out.2.2.2.2.1, LY.out.2.2.2.2.2] at sp ⊢
          have S4 : Hid (Below W.heap.size W v4) := on S3.out b3
          have D4 : Hid (Below w2.heap.size w2 v4) := on D3.out b3
          have M4 : Hid (Mde v4 _ g0 g1 g2 g3 n0 n1 n2 n3 P) := M3.out.keep b3
          have X4 : Hid (Sm v4 _ r2 d2 i2 o2 l2 m2' H ps zs) := X3.out.keep b3
          have R4 : Hid (Vb v4 s3 #[.int .i64 0, .slice none 0 0, .int .i64 0, .slice none 0 0, .bool false, .bool false, .bool false, .int .i64 0, .slice none 0 0, .slice none 0 0, .slice none 0 0, .slice none 0 0] 40) := R3.out.keep b3
          have N4 : Hid (Vm v4 v3.heap.size (.slice ya0 e0 yk0) (.slice ya1 e1 yk1) (.slice ya2 e2 yk2) (.slice ya3 e3 yk3) (.slice ya4 e4 yk4) (.slice ya5 e5 yk5) G O Z) := sp
          have OW4 : Hid (∀ k, OwnV (.slice ya0 e0 yk0) (.slice ya1 e1 yk1) (.slice ya2 e2 yk2) (.slice ya3 e3 yk3) (.slice ya4 e4 yk4) (.slice ya5 e5 yk5) k → W.heap.size ≤ k ∧ k < v4.heap.size) := fun k e => ⟨Nat.le_trans S3.out.size (vm_own sp k e).1, (vm_own sp k e).2⟩
          have NE : Hid (∀ k, OwnV (.slice ya0 e0 yk0) (.slice ya1 e1 yk1) (.slice ya2 e2 yk2) (.slice ya3 e3 yk3) (.slice ya4 e4 yk4) (.slice ya5 e5 yk5) k → k ≠ s3) := fun k e f => by have := (vm_own sp k e).1; have := R3.out.lt; omega
          clear sp b3
          refine hK.out _ _ S4.out (fun _ => ?_)
          clear hK K
          refine wpAnyH_ready (rs := [7]) (by kernel_rfl) (by simp) ?_
          refine AllReadyH.cons rfl (fun K hK => ?_) AllReadyH.nil
          rw [if_pos (by rfl)]
          refine wp_store_mid 40 (.tmp 8) (.tmp 31) rfl s3 0 #[.int .i64 C, .slice ya0 e0 yk0, .int .i64 G.pc, .slice ya1 e1 yk1, .bool G.halted, .bool G.waiting, .bool G.rung, .int .i64 G.done, .slice ya2 e2 yk2, .slice ya3 e3 yk3, .slice ya4 e4 yk4, .slice ya5 e5 yk5] rfl rfl (R4.out.there 12 (by decide)) (by kernel_rfl) (by simp [Value.oneCell']) ?_
          change K (Act.put _ none undef) _
          simp only [Act.put]
          have TW : Hid (Vb (v4.setCells s3 0 #[.int .i64 C, .slice ya0 e0 yk0, .int .i64 G.pc, .slice ya1 e1 yk1, .bool G.halted, .bool G.waiting, .bool G.rung, .int .i64 G.done, .slice ya2 e2 yk2, .slice ya3 e3 yk3, .slice ya4 e4 yk4, .slice ya5 e5 yk5].toList) s3 #[.int .i64 C, .slice ya0 e0 yk0, .int .i64 G.pc, .slice ya1 e1 yk1, .bool G.halted, .bool G.waiting, .bool G.rung, .int .i64 G.done, .slice ya2 e2 yk2, .slice ya3 e3 yk3, .slice ya4 e4 yk4, .slice ya5 e5 yk5] 40 ∧ Mq (fun k => k = s3) v4 (v4.setCells s3 0 #[.int .i64 C, .slice ya0 e0 yk0, .int .i64 G.pc, .slice ya1 e1 yk1, .bool G.halted, .bool G.waiting, .bool G.rung, .int .i64 G.done, .slice ya2 e2 yk2, .slice ya3 e3 yk3, .slice ya4 e4 yk4, .slice ya5 e5 yk5].toList)) := twelveV R4.out (.int .i64 C) (.slice ya0 e0 yk0) (.int .i64 G.pc) (.slice ya1 e1 yk1) (.bool G.halted) (.bool G.waiting) (.bool G.rung) (.int .i64 G.done) (.slice ya2 e2 yk2) (.slice ya3 e3 yk3) (.slice ya4 e4 yk4) (.slice ya5 e5 yk5)
          generalize (v4.setCells s3 0 #[.int .i64 C, .slice ya0 e0 yk0, .int .i64 G.pc, .slice ya1 e1 yk1, .bool G.halted, .bool G.waiting, .bool G.rung, .int .i64 G.done, .slice ya2 e2 yk2, .slice ya3 e3 yk3, .slice ya4 e4 yk4, .slice ya5 e5 yk5].toList) = V at *
          have VB : Hid (Below W.heap.size W V) := Mq.under S4.out TW.out.2 fun k e => by have := ZS.out; omega
          have VD : Hid (Below w2.heap.size w2 V) := Mq.under D4.out TW.out.2 fun k e => by have := ZS.out; omega
          have VN : Hid (Vm V _ (.slice ya0 e0 yk0) (.slice ya1 e1 yk1) (.slice ya2 e2 yk2) (.slice ya3 e3 yk3) (.slice ya4 e4 yk4) (.slice ya5 e5 yk5) G O Z) := vm_mqv N4.out TW.out.2 fun k e f => NE.out k e f
          have VL : Hid (∀ k, OwnV (.slice ya0 e0 yk0) (.slice ya1 e1 yk1) (.slice ya2 e2 yk2) (.slice ya3 e3 yk3) (.slice ya4 e4 yk4) (.slice ya5 e5 yk5) k → W.heap.size ≤ k ∧ k < V.heap.size ∧ k ≠ s3) := fun k e => ⟨(OW4.out k e).1, Nat.lt_of_lt_of_le (OW4.out k e).2 TW.out.2.size, NE.out k e⟩
          refine hK.out _ _ VB.out (fun _ => ?_)
          clear hK K
          refine wpAnyH_done (by kernel_rfl) ?_ _
          go_wp2_with fail
          go_meet
          exact ⟨s3, _, ya0, ya1, ya2, ya3, ya4, ya5, yk0, yk1, yk2, yk3, yk4, yk5, rfl, VB.out, VD.out, TW.out.1, VN.out, VL.out, TW.out.1.lt, ZS.out.1⟩
      · skip
        rw [if_pos (by rfl)]
        go_simp
        have ba : Below v1.heap.size v1 (v1.alloc (.cells #[.int .i64 0, .slice none 0 0, .int .i64 0, .slice none 0 0, .bool false, .bool false, .bool false, .int .i64 0, .slice none 0 0, .slice none 0 0, .slice none 0 0, .slice none 0 0] 40)) := al (Below.refl _ _) _
        have RR : Hid (Vb (v1.alloc (.cells #[.int .i64 0, .slice none 0 0, .int .i64 0, .slice none 0 0, .bool false, .bool false, .bool false, .int .i64 0, .slice none 0 0, .slice none 0 0, .slice none 0 0, .slice none 0 0] 40)) v1.heap.size #[.int .i64 0, .slice none 0 0, .int .i64 0, .slice none 0 0, .bool false, .bool false, .bool false, .int .i64 0, .slice none 0 0, .slice none 0 0, .slice none 0 0, .slice none 0 0] 40) := Vb.new _ _ _
        have ZS : Hid (W.heap.size ≤ v1.heap.size ∧ w2.heap.size ≤ v1.heap.size) := ⟨S1.out.size, D1.out.size⟩
        generalize (v1.alloc (.cells #[.int .i64 0, .slice none 0 0, .int .i64 0, .slice none 0 0, .bool false, .bool false, .bool false, .int .i64 0, .slice none 0 0, .slice none 0 0, .slice none 0 0, .slice none 0 0] 40)) = v2 at *
        have S2 : Hid (Below W.heap.size W v2) := on S1.out ba
        have D2 : Hid (Below w2.heap.size w2 v2) := on D1.out ba
        have M2 : Hid (Mde v2 _ g0 g1 g2 g3 n0 n1 n2 n3 P) := M1.out.keep ba
        clear ba
        obtain ⟨s3, hs3⟩ : ∃ x, v1.heap.size = x := ⟨_, rfl⟩
        rw [hs3] at RR ZS ⊢
        clear hs3
        have R2 : Hid (Vb v2 s3 #[.int .i64 0, .slice none 0 0, .int .i64 0, .slice none 0 0, .bool false, .bool false, .bool false, .int .i64 0, .slice none 0 0, .slice none 0 0, .slice none 0 0, .slice none 0 0] 40) := RR.out
        clear RR
        refine hK.out _ _ S2.out (fun _ => ?_)
        clear hK K
        refine wpAnyH_ready (rs := [3]) (by kernel_rfl) (by simp) ?_
        refine AllReadyH.cons rfl (fun K hK => ?_) AllReadyH.nil
        rw [if_pos (by rfl)]
        go_simp
        refine (to_solo _ _ _ _ _ _ _ _ _ _ _ _ H _ _ _ ps _ _ _ zs _ (HI.out.1.stay S2.out) (HI.out.2.1.stay S2.out) (HI.out.2.2.stay S2.out) SM.out.1 SM.out.2.1 SM.out.2.2).mono ?_
        rintro e v3 ⟨r2, d2, i2, o2, l2, m2', rfl, s2, b2⟩
        have S3 : Hid (Below W.heap.size W v3) := on S2.out b2
        have D3 : Hid (Below w2.heap.size w2 v3) := on D2.out b2
        have M3 : Hid (Mde v3 _ g0 g1 g2 g3 n0 n1 n2 n3 P) := M2.out.keep b2
        have R3 : Hid (Vb v3 s3 #[.int .i64 0, .slice none 0 0, .int .i64 0, .slice none 0 0, .bool false, .bool false, .bool false, .int .i64 0, .slice none 0 0, .slice none 0 0, .slice none 0 0, .slice none 0 0] 40) := R2.out.keep b2
        have X3 : Hid (Sm v3 _ r2 d2 i2 o2 l2 m2' H ps zs) := s2
        clear s2 b2
        refine hK.out _ _ S3.out (fun _ => ?_)
        clear hK K
        refine wpAnyH_ready (rs := [5]) (by kernel_rfl) (by simp) ?_
        refine AllReadyH.cons rfl (fun K hK => ?_) AllReadyH.nil
        rw [if_pos (by rfl)]
        go_simp
        have CALL := s_soloView _ _ _ _ _ _ _ _ _ _ _ _ P _ _ _ _ _ _ H ps zs gu _ _ M3.out.pl X3.out PL.out
        rw [HCZ.out.1, HCZ.out.2.1, HCZ.out.2.2.1, HCZ.out.2.2.2] at CALL
        refine CALL.mono ?_
        clear CALL
        rintro e v4 ⟨_, _, _, _, _, _, rfl, sp, b3⟩
        obtain ⟨ya0, yk0, f0, _⟩ := sp.h.r.shape
        obtain ⟨ya1, yk1, f1, _⟩ := sp.h.c.shape
        obtain ⟨ya2, yk2, f2, _⟩ := sp.h.i.shape
        obtain ⟨ya3, yk3, f3, _⟩ := sp.h.o.shape
        obtain ⟨ya4, yk4, f4, _⟩ := sp.pl.shape
        obtain ⟨ya5, yk5, f5, _⟩ := sp.mm.shape
        subst f0 f1 f2 f3 f4 f5
        rw [LY.out.1, LY.out.2.1, LY.out.2.2.1, LY.out.2.2.2.1, LY.out.2.2.2.2.1, LY.out.2.2.2.2.2] at sp ⊢
        have S4 : Hid (Below W.heap.size W v4) := on S3.out b3
        have D4 : Hid (Below w2.heap.size w2 v4) := on D3.out b3
        have M4 : Hid (Mde v4 _ g0 g1 g2 g3 n0 n1 n2 n3 P) := M3.out.keep b3
        have X4 : Hid (Sm v4 _ r2 d2 i2 o2 l2 m2' H ps zs) := X3.out.keep b3
        have R4 : Hid (Vb v4 s3 #[.int .i64 0, .slice none 0 0, .int .i64 0, .slice none 0 0, .bool false, .bool false, .bool false, .int .i64 0, .slice none 0 0, .slice none 0 0, .slice none 0 0, .slice none 0 0] 40) := R3.out.keep b3
        have N4 : Hid (Vm v4 v3.heap.size (.slice ya0 e0 yk0) (.slice ya1 e1 yk1) (.slice ya2 e2 yk2) (.slice ya3 e3 yk3) (.slice ya4 e4 yk4) (.slice ya5 e5 yk5) G O Z) := sp
        have OW4 : Hid (∀ k, OwnV (.slice ya0 e0 yk0) (.slice ya1 e1 yk1) (.slice ya2 e2 yk2) (.slice ya3 e3 yk3) (.slice ya4 e4 yk4) (.slice ya5 e5 yk5) k → W.heap.size ≤ k ∧ k < v4.heap.size) := fun k e => ⟨Nat.le_trans S3.out.size (vm_own sp k e).1, (vm_own sp k e).2⟩
        have NE : Hid (∀ k, OwnV (.slice ya0 e0 yk0) (.slice ya1 e1 yk1) (.slice ya2 e2 yk2) (.slice ya3 e3 yk3) (.slice ya4 e4 yk4) (.slice ya5 e5 yk5) k → k ≠ s3) := fun k e f => by have := (vm_own sp k e).1; have := R3.out.lt; omega
        clear sp b3
        refine hK.out _ _ S4.out (fun _ => ?_)
        clear hK K
        refine wpAnyH_ready (rs := [7]) (by kernel_rfl) (by simp) ?_
        refine AllReadyH.cons rfl (fun K hK => ?_) AllReadyH.nil
        rw [if_pos (by rfl)]
        refine wp_store_mid 40 (.tmp 8) (.tmp 31) rfl s3 0 #[.int .i64 C, .slice ya0 e0 yk0, .int .i64 G.pc, .slice ya1 e1 yk1, .bool G.halted, .bool G.waiting, .bool G.rung, .int .i64 G.done, .slice ya2 e2 yk2, .slice ya3 e3 yk3, .slice ya4 e4 yk4, .slice ya5 e5 yk5] rfl rfl (R4.out.there 12 (by decide)) (by kernel_rfl) (by simp [Value.oneCell']) ?_
        change K (Act.put _ none undef) _
        simp only [Act.put]
        have TW : Hid (Vb (v4.setCells s3 0 #[.int .i64 C, .slice ya0 e0 yk0, .int .i64 G.pc, .slice ya1 e1 yk1, .bool G.halted, .bool G.waiting, .bool G.rung, .int .i64 G.done, .slice ya2 e2 yk2, .slice ya3 e3 yk3, .slice ya4 e4 yk4, .slice ya5 e5 yk5].toList) s3 #[.int .i64 C, .slice ya0 e0 yk0, .int .i64 G.pc, .slice ya1 e1 yk1, .bool G.halted, .bool G.waiting, .bool G.rung, .int .i64 G.done, .slice ya2 e2 yk2, .slice ya3 e3 yk3, .slice ya4 e4 yk4, .slice ya5 e5 yk5] 40 ∧ Mq (fun k => k = s3) v4 (v4.setCells s3 0 #[.int .i64 C, .slice ya0 e0 yk0, .int .i64 G.pc, .slice ya1 e1 yk1, .bool G.halted, .bool G.waiting, .bool G.rung, .int .i64 G.done, .slice ya2 e2 yk2, .slice ya3 e3 yk3, .slice ya4 e4 yk4, .slice ya5 e5 yk5].toList)) := twelveV R4.out (.int .i64 C) (.slice ya0 e0 yk0) (.int .i64 G.pc) (.slice ya1 e1 yk1) (.bool G.halted) (.bool G.waiting) (.bool G.rung) (.int .i64 G.done) (.slice ya2 e2 yk2) (.slice ya3 e3 yk3) (.slice ya4 e4 yk4) (.slice ya5 e5 yk5)
        generalize (v4.setCells s3 0 #[.int .i64 C, .slice ya0 e0 yk0, .int .i64 G.pc, .slice ya1 e1 yk1, .bool G.halted, .bool G.waiting, .bool G.rung, .int .i64 G.done, .slice ya2 e2 yk2, .slice ya3 e3 yk3, .slice ya4 e4 yk4, .slice ya5 e5 yk5].toList) = V at *
        have VB : Hid (Below W.heap.size W V) := Mq.under S4.out TW.out.2 fun k e => by have := ZS.out; omega
        have VD : Hid (Below w2.heap.size w2 V) := Mq.under D4.out TW.out.2 fun k e => by have := ZS.out; omega
        have VN : Hid (Vm V _ (.slice ya0 e0 yk0) (.slice ya1 e1 yk1) (.slice ya2 e2 yk2) (.slice ya3 e3 yk3) (.slice ya4 e4 yk4) (.slice ya5 e5 yk5) G O Z) := vm_mqv N4.out TW.out.2 fun k e f => NE.out k e f
        have VL : Hid (∀ k, OwnV (.slice ya0 e0 yk0) (.slice ya1 e1 yk1) (.slice ya2 e2 yk2) (.slice ya3 e3 yk3) (.slice ya4 e4 yk4) (.slice ya5 e5 yk5) k → W.heap.size ≤ k ∧ k < V.heap.size ∧ k ≠ s3) := fun k e => ⟨(OW4.out k e).1, Nat.lt_of_lt_of_le (OW4.out k e).2 TW.out.2.size, NE.out k e⟩
        refine hK.out _ _ VB.out (fun _ => ?_)
        clear hK K
        refine wpAnyH_done (by kernel_rfl) ?_ _
        go_wp2_with fail
        go_meet
        exact ⟨s3, _, ya0, ya1, ya2, ya3, ya4, ya5, yk0, yk1, yk2, yk3, yk4, yk5, rfl, VB.out, VD.out, TW.out.1, VN.out, VL.out, TW.out.1.lt, ZS.out.1⟩
    · skip
      rw [if_pos (by rfl)]
      go_simp
      have ba : Below v0.heap.size v0 (v0.alloc (.cells #[.int .i64 0, .slice none 0 0, .int .i64 0, .slice none 0 0, .bool false, .bool false, .bool false, .int .i64 0, .slice none 0 0, .slice none 0 0, .slice none 0 0, .slice none 0 0] 40)) := al (Below.refl _ _) _
      have RR : Hid (Vb (v0.alloc (.cells #[.int .i64 0, .slice none 0 0, .int .i64 0, .slice none 0 0, .bool false, .bool false, .bool false, .int .i64 0, .slice none 0 0, .slice none 0 0, .slice none 0 0, .slice none 0 0] 40)) v0.heap.size #[.int .i64 0, .slice none 0 0, .int .i64 0, .slice none 0 0, .bool false, .bool false, .bool false, .int .i64 0, .slice none 0 0, .slice none 0 0, .slice none 0 0, .slice none 0 0] 40) := Vb.new _ _ _
      have ZS : Hid (W.heap.size ≤ v0.heap.size ∧ w2.heap.size ≤ v0.heap.size) := ⟨S0.out.size, D0.out.size⟩
      generalize (v0.alloc (.cells #[.int .i64 0, .slice none 0 0, .int .i64 0, .slice none 0 0, .bool false, .bool false, .bool false, .int .i64 0, .slice none 0 0, .slice none 0 0, .slice none 0 0, .slice none 0 0] 40)) = v1 at *
      have S1 : Hid (Below W.heap.size W v1) := on S0.out ba
      have D1 : Hid (Below w2.heap.size w2 v1) := on D0.out ba
      clear ba
      obtain ⟨s3, hs3⟩ : ∃ x, v0.heap.size = x := ⟨_, rfl⟩
      rw [hs3] at RR ZS ⊢
      clear hs3
      have R1 : Hid (Vb v1 s3 #[.int .i64 0, .slice none 0 0, .int .i64 0, .slice none 0 0, .bool false, .bool false, .bool false, .int .i64 0, .slice none 0 0, .slice none 0 0, .slice none 0 0, .slice none 0 0] 40) := RR.out
      clear RR
      refine hK.out _ _ S1.out (fun _ => ?_)
      clear hK K
      refine wpAnyH_ready (rs := [1]) (by kernel_rfl) (by simp) ?_
      refine AllReadyH.cons rfl (fun K hK => ?_) AllReadyH.nil
      rw [if_pos (by rfl)]
      go_simp
      refine (to_policy _ _ _ _ _ _ _ _ _ _ _ _ P _ (HQ.out.stay S1.out) SP.out).mono ?_
      rintro e v2 ⟨g0, g1, g2, g3, rfl, pm, pb⟩
      have S2 : Hid (Below W.heap.size W v2) := on S1.out pb
      have D2 : Hid (Below w2.heap.size w2 v2) := on D1.out pb
      have R2 : Hid (Vb v2 s3 #[.int .i64 0, .slice none 0 0, .int .i64 0, .slice none 0 0, .bool false, .bool false, .bool false, .int .i64 0, .slice none 0 0, .slice none 0 0, .slice none 0 0, .slice none 0 0] 40) := R1.out.keep pb
      have M2 : Hid (Mde v2 _ g0 g1 g2 g3 n0 n1 n2 n3 P) := pm
      clear pm pb
      refine hK.out _ _ S2.out (fun _ => ?_)
      clear hK K
      refine wpAnyH_ready (rs := [3]) (by kernel_rfl) (by simp) ?_
      refine AllReadyH.cons rfl (fun K hK => ?_) AllReadyH.nil
      rw [if_pos (by rfl)]
      go_simp
      refine (to_solo _ _ _ _ _ _ _ _ _ _ _ _ H _ _ _ ps _ _ _ zs _ (HI.out.1.stay S2.out) (HI.out.2.1.stay S2.out) (HI.out.2.2.stay S2.out) SM.out.1 SM.out.2.1 SM.out.2.2).mono ?_
      rintro e v3 ⟨r2, d2, i2, o2, l2, m2', rfl, s2, b2⟩
      have S3 : Hid (Below W.heap.size W v3) := on S2.out b2
      have D3 : Hid (Below w2.heap.size w2 v3) := on D2.out b2
      have M3 : Hid (Mde v3 _ g0 g1 g2 g3 n0 n1 n2 n3 P) := M2.out.keep b2
      have R3 : Hid (Vb v3 s3 #[.int .i64 0, .slice none 0 0, .int .i64 0, .slice none 0 0, .bool false, .bool false, .bool false, .int .i64 0, .slice none 0 0, .slice none 0 0, .slice none 0 0, .slice none 0 0] 40) := R2.out.keep b2
      have X3 : Hid (Sm v3 _ r2 d2 i2 o2 l2 m2' H ps zs) := s2
      clear s2 b2
      refine hK.out _ _ S3.out (fun _ => ?_)
      clear hK K
      refine wpAnyH_ready (rs := [5]) (by kernel_rfl) (by simp) ?_
      refine AllReadyH.cons rfl (fun K hK => ?_) AllReadyH.nil
      rw [if_pos (by rfl)]
      go_simp
      have CALL := s_soloView _ _ _ _ _ _ _ _ _ _ _ _ P _ _ _ _ _ _ H ps zs gu _ _ M3.out.pl X3.out PL.out
      rw [HCZ.out.1, HCZ.out.2.1, HCZ.out.2.2.1, HCZ.out.2.2.2] at CALL
      refine CALL.mono ?_
      clear CALL
      rintro e v4 ⟨_, _, _, _, _, _, rfl, sp, b3⟩
      obtain ⟨ya0, yk0, f0, _⟩ := sp.h.r.shape
      obtain ⟨ya1, yk1, f1, _⟩ := sp.h.c.shape
      obtain ⟨ya2, yk2, f2, _⟩ := sp.h.i.shape
      obtain ⟨ya3, yk3, f3, _⟩ := sp.h.o.shape
      obtain ⟨ya4, yk4, f4, _⟩ := sp.pl.shape
      obtain ⟨ya5, yk5, f5, _⟩ := sp.mm.shape
      subst f0 f1 f2 f3 f4 f5
      rw [LY.out.1, LY.out.2.1, LY.out.2.2.1, LY.out.2.2.2.1, LY.out.2.2.2.2.1, LY.out.2.2.2.2.2] at sp ⊢
      have S4 : Hid (Below W.heap.size W v4) := on S3.out b3
      have D4 : Hid (Below w2.heap.size w2 v4) := on D3.out b3
      have M4 : Hid (Mde v4 _ g0 g1 g2 g3 n0 n1 n2 n3 P) := M3.out.keep b3
      have X4 : Hid (Sm v4 _ r2 d2 i2 o2 l2 m2' H ps zs) := X3.out.keep b3
      have R4 : Hid (Vb v4 s3 #[.int .i64 0, .slice none 0 0, .int .i64 0, .slice none 0 0, .bool false, .bool false, .bool false, .int .i64 0, .slice none 0 0, .slice none 0 0, .slice none 0 0, .slice none 0 0] 40) := R3.out.keep b3
      have N4 : Hid (Vm v4 v3.heap.size (.slice ya0 e0 yk0) (.slice ya1 e1 yk1) (.slice ya2 e2 yk2) (.slice ya3 e3 yk3) (.slice ya4 e4 yk4) (.slice ya5 e5 yk5) G O Z) := sp
      have OW4 : Hid (∀ k, OwnV (.slice ya0 e0 yk0) (.slice ya1 e1 yk1) (.slice ya2 e2 yk2) (.slice ya3 e3 yk3) (.slice ya4 e4 yk4) (.slice ya5 e5 yk5) k → W.heap.size ≤ k ∧ k < v4.heap.size) := fun k e => ⟨Nat.le_trans S3.out.size (vm_own sp k e).1, (vm_own sp k e).2⟩
      have NE : Hid (∀ k, OwnV (.slice ya0 e0 yk0) (.slice ya1 e1 yk1) (.slice ya2 e2 yk2) (.slice ya3 e3 yk3) (.slice ya4 e4 yk4) (.slice ya5 e5 yk5) k → k ≠ s3) := fun k e f => by have := (vm_own sp k e).1; have := R3.out.lt; omega
      clear sp b3
      refine hK.out _ _ S4.out (fun _ => ?_)
      clear hK K
      refine wpAnyH_ready (rs := [7]) (by kernel_rfl) (by simp) ?_
      refine AllReadyH.cons rfl (fun K hK => ?_) AllReadyH.nil
      rw [if_pos (by rfl)]
      refine wp_store_mid 40 (.tmp 8) (.tmp 31) rfl s3 0 #[.int .i64 C, .slice ya0 e0 yk0, .int .i64 G.pc, .slice ya1 e1 yk1, .bool G.halted, .bool G.waiting, .bool G.rung, .int .i64 G.done, .slice ya2 e2 yk2, .slice ya3 e3 yk3, .slice ya4 e4 yk4, .slice ya5 e5 yk5] rfl rfl (R4.out.there 12 (by decide)) (by kernel_rfl) (by simp [Value.oneCell']) ?_
      change K (Act.put _ none undef) _
      simp only [Act.put]
      have TW : Hid (Vb (v4.setCells s3 0 #[.int .i64 C, .slice ya0 e0 yk0, .int .i64 G.pc, .slice ya1 e1 yk1, .bool G.halted, .bool G.waiting, .bool G.rung, .int .i64 G.done, .slice ya2 e2 yk2, .slice ya3 e3 yk3, .slice ya4 e4 yk4, .slice ya5 e5 yk5].toList) s3 #[.int .i64 C, .slice ya0 e0 yk0, .int .i64 G.pc, .slice ya1 e1 yk1, .bool G.halted, .bool G.waiting, .bool G.rung, .int .i64 G.done, .slice ya2 e2 yk2, .slice ya3 e3 yk3, .slice ya4 e4 yk4, .slice ya5 e5 yk5] 40 ∧ Mq (fun k => k = s3) v4 (v4.setCells s3 0 #[.int .i64 C, .slice ya0 e0 yk0, .int .i64 G.pc, .slice ya1 e1 yk1, .bool G.halted, .bool G.waiting, .bool G.rung, .int .i64 G.done, .slice ya2 e2 yk2, .slice ya3 e3 yk3, .slice ya4 e4 yk4, .slice ya5 e5 yk5].toList)) := twelveV R4.out (.int .i64 C) (.slice ya0 e0 yk0) (.int .i64 G.pc) (.slice ya1 e1 yk1) (.bool G.halted) (.bool G.waiting) (.bool G.rung) (.int .i64 G.done) (.slice ya2 e2 yk2) (.slice ya3 e3 yk3) (.slice ya4 e4 yk4) (.slice ya5 e5 yk5)
      generalize (v4.setCells s3 0 #[.int .i64 C, .slice ya0 e0 yk0, .int .i64 G.pc, .slice ya1 e1 yk1, .bool G.halted, .bool G.waiting, .bool G.rung, .int .i64 G.done, .slice ya2 e2 yk2, .slice ya3 e3 yk3, .slice ya4 e4 yk4, .slice ya5 e5 yk5].toList) = V at *
      have VB : Hid (Below W.heap.size W V) := Mq.under S4.out TW.out.2 fun k e => by have := ZS.out; omega
      have VD : Hid (Below w2.heap.size w2 V) := Mq.under D4.out TW.out.2 fun k e => by have := ZS.out; omega
      have VN : Hid (Vm V _ (.slice ya0 e0 yk0) (.slice ya1 e1 yk1) (.slice ya2 e2 yk2) (.slice ya3 e3 yk3) (.slice ya4 e4 yk4) (.slice ya5 e5 yk5) G O Z) := vm_mqv N4.out TW.out.2 fun k e f => NE.out k e f
      have VL : Hid (∀ k, OwnV (.slice ya0 e0 yk0) (.slice ya1 e1 yk1) (.slice ya2 e2 yk2) (.slice ya3 e3 yk3) (.slice ya4 e4 yk4) (.slice ya5 e5 yk5) k → W.heap.size ≤ k ∧ k < V.heap.size ∧ k ≠ s3) := fun k e => ⟨(OW4.out k e).1, Nat.lt_of_lt_of_le (OW4.out k e).2 TW.out.2.size, NE.out k e⟩
      refine hK.out _ _ VB.out (fun _ => ?_)
      clear hK K
      refine wpAnyH_done (by kernel_rfl) ?_ _
      go_wp2_with fail
      go_meet
      exact ⟨s3, _, ya0, ya1, ya2, ya3, ya4, ya5, yk0, yk1, yk2, yk3, yk4, yk5, rfl, VB.out, VD.out, TW.out.1, VN.out, VL.out, TW.out.1.lt, ZS.out.1⟩
  case rest =>
  obtain ⟨s3, Abn, ya0, ya1, ya2, ya3, ya4, ya5, yk0, yk1, yk2, yk3, yk4, yk5, rfl, x1, x2, x3, x4, x5, x6⟩ := hcut
  have AB : Hid (Below W.heap.size W wc) := x1
  have AD : Hid (Below w2.heap.size w2 wc) := x2
  have AY : Hid (Vb wc s3 #[.int .i64 C, .slice ya0 e0 yk0, .int .i64 G.pc, .slice ya1 e1 yk1, .bool G.halted, .bool G.waiting, .bool G.rung, .int .i64 G.done, .slice ya2 e2 yk2, .slice ya3 e3 yk3, .slice ya4 e4 yk4, .slice ya5 e5 yk5] 40) := x3
  have AN : Hid (Vm wc Abn (.slice ya0 e0 yk0) (.slice ya1 e1 yk1) (.slice ya2 e2 yk2) (.slice ya3 e3 yk3) (.slice ya4 e4 yk4) (.slice ya5 e5 yk5) G O Z) := x4
  have AL : Hid (∀ k, OwnV (.slice ya0 e0 yk0) (.slice ya1 e1 yk1) (.slice ya2 e2 yk2) (.slice ya3 e3 yk3) (.slice ya4 e4 yk4) (.slice ya5 e5 yk5) k → W.heap.size ≤ k ∧ k < wc.heap.size ∧ k ≠ s3) := x5
  have AZ : Hid (s3 < wc.heap.size ∧ W.heap.size ≤ s3) := x6
  clear x1 x2 x3 x4 x5 x6
  generalize wc = V3 at *
  have Q3 := Q.out.keep AB.out
  have q0 := Q3.cell 0 rfl
  have q1 := Q3.cell 1 rfl
  have q2 := Q3.cell 2 rfl
  have q3 := Q3.cell 3 rfl
  clear Q3 hneg
  go_wp2_with fail
  clear q0 q1 q2 q3
  refine (to_policy _ _ _ _ _ _ _ _ _ _ _ _ P _ (HQ.out.stay AB.out) SP.out).mono ?_
  rintro e w4 ⟨h0, h1, h2, h3, rfl, pm, b4⟩
  have M4 : Hid (Mde w4 V3.heap.size h0 h1 h2 h3 n0 n1 n2 n3 P) := pm
  have D4 : Hid (Below w4.heap.size w4 (w4.alloc (.cells #[.slice (some ⟨h0, 0, none⟩) n0 n0, .slice (some ⟨h1, 0, none⟩) n1 n1, .slice (some ⟨h2, 0, none⟩) n2 n2, .slice (some ⟨h3, 0, none⟩) n3 n3] 46))) := al (Below.refl _ _) _
  have B4 : Hid (Below W.heap.size W (w4.alloc (.cells #[.slice (some ⟨h0, 0, none⟩) n0 n0, .slice (some ⟨h1, 0, none⟩) n1 n1, .slice (some ⟨h2, 0, none⟩) n2 n2, .slice (some ⟨h3, 0, none⟩) n3 n3] 46))) := al (on AB.out b4) _
  have E4 : Hid (Below V3.heap.size V3 (w4.alloc (.cells #[.slice (some ⟨h0, 0, none⟩) n0 n0, .slice (some ⟨h1, 0, none⟩) n1 n1, .slice (some ⟨h2, 0, none⟩) n2 n2, .slice (some ⟨h3, 0, none⟩) n3 n3] 46))) := al b4 _
  have X4 : Hid (Vb (w4.alloc (.cells #[.slice (some ⟨h0, 0, none⟩) n0 n0, .slice (some ⟨h1, 0, none⟩) n1 n1, .slice (some ⟨h2, 0, none⟩) n2 n2, .slice (some ⟨h3, 0, none⟩) n3 n3] 46)) w4.heap.size #[.slice (some ⟨h0, 0, none⟩) n0 n0, .slice (some ⟨h1, 0, none⟩) n1 n1, .slice (some ⟨h2, 0, none⟩) n2 n2, .slice (some ⟨h3, 0, none⟩) n3 n3] 46) := Vb.new _ _ _
  have Z4 : Hid (V3.heap.size ≤ w4.heap.size ∧ w4.heap.size + 1 = (w4.alloc (.cells #[.slice (some ⟨h0, 0, none⟩) n0 n0, .slice (some ⟨h1, 0, none⟩) n1 n1, .slice (some ⟨h2, 0, none⟩) n2 n2, .slice (some ⟨h3, 0, none⟩) n3 n3] 46)).heap.size) := ⟨b4.size, by simp⟩
  have T4 := T.out.keep B4.out
  clear pm b4
  have q0 := T4.cell 0 rfl
  have q1 := T4.cell 1 rfl
  have q2 := T4.cell 2 rfl
  have q3 := T4.cell 3 rfl
  have q4 := T4.cell 4 rfl
  have q5 := T4.cell 5 rfl
  have q6 := T4.cell 6 rfl
  have q7 := T4.cell 7 rfl
  have q8 := T4.cell 8 rfl
  have q9 := T4.cell 9 rfl
  have q10 := T4.cell 10 rfl
  clear T4
  go_wp2_with fail
  clear q0 q1 q2 q3 q4 q5 q6 q7 q8 q9 q10
  generalize (w4.alloc (.cells #[.slice (some ⟨h0, 0, none⟩) n0 n0, .slice (some ⟨h1, 0, none⟩) n1 n1, .slice (some ⟨h2, 0, none⟩) n2 n2, .slice (some ⟨h3, 0, none⟩) n3 n3] 46)) = V4 at *
  obtain ⟨s4, hs4⟩ : ∃ x, w4.heap.size = x := ⟨_, rfl⟩
  rw [hs4] at X4 Z4 ⊢
  have S4 : Hid (w4.heap.size = s4) := hs4
  clear hs4
  refine (to_solo _ _ _ _ _ _ _ _ _ _ _ _ H _ _ _ ps _ _ _ zs _ (HI.out.1.stay B4.out) (HI.out.2.1.stay B4.out) (HI.out.2.2.stay B4.out) SM.out.1 SM.out.2.1 SM.out.2.2).mono ?_
  rintro e w5 ⟨r4, d4, i4, o4, l4, m4, rfl, s5', b5⟩
  obtain ⟨xa0, xk0, f0, _⟩ := s5'.h.r.shape
  obtain ⟨xa1, xk1, f1, _⟩ := s5'.h.c.shape
  obtain ⟨xa2, xk2, f2, _⟩ := s5'.h.i.shape
  obtain ⟨xa3, xk3, f3, _⟩ := s5'.h.o.shape
  obtain ⟨xa4, xk4, f4, _⟩ := s5'.pl.shape
  obtain ⟨xa5, xk5, f5, _⟩ := s5'.mm.shape
  subst f0 f1 f2 f3 f4 f5
  obtain ⟨rn, hn0⟩ : ∃ n, H.regs.length = n := ⟨_, rfl⟩
  obtain ⟨dn, hn1⟩ : ∃ n, H.csr.length = n := ⟨_, rfl⟩
  obtain ⟨jn, hn2⟩ : ∃ n, H.inn.length = n := ⟨_, rfl⟩
  obtain ⟨on0, hn3⟩ : ∃ n, H.out.length = n := ⟨_, rfl⟩
  obtain ⟨ln0, hn4⟩ : ∃ n, ps.length = n := ⟨_, rfl⟩
  obtain ⟨mn0, hn5⟩ : ∃ n, zs.length = n := ⟨_, rfl⟩
  rw [hn0, hn1, hn2, hn3, hn4, hn5] at s5' ⊢
  have M5 : Hid (Sm w5 V4.heap.size (.slice xa0 rn xk0) (.slice xa1 dn xk1) (.slice xa2 jn xk2) (.slice xa3 on0 xk3) (.slice xa4 ln0 xk4) (.slice xa5 mn0 xk5) H ps zs) := s5'
  have D5 : Hid (Below w5.heap.size w5 (w5.alloc (.cells #[.slice xa0 rn xk0, .int .i64 H.pc, .slice xa1 dn xk1, .bool H.halted, .bool H.waiting, .bool H.rung, .int .i64 H.done, .slice xa2 jn xk2, .slice xa3 on0 xk3, .slice xa4 ln0 xk4, .slice xa5 mn0 xk5] 50))) := al (Below.refl _ _) _
  have E5 : Hid (Below V4.heap.size V4 (w5.alloc (.cells #[.slice xa0 rn xk0, .int .i64 H.pc, .slice xa1 dn xk1, .bool H.halted, .bool H.waiting, .bool H.rung, .int .i64 H.done, .slice xa2 jn xk2, .slice xa3 on0 xk3, .slice xa4 ln0 xk4, .slice xa5 mn0 xk5] 50))) := al b5 _
  have B5 : Hid (Below W.heap.size W (w5.alloc (.cells #[.slice xa0 rn xk0, .int .i64 H.pc, .slice xa1 dn xk1, .bool H.halted, .bool H.waiting, .bool H.rung, .int .i64 H.done, .slice xa2 jn xk2, .slice xa3 on0 xk3, .slice xa4 ln0 xk4, .slice xa5 mn0 xk5] 50))) := on B4.out E5.out
  have X5 : Hid (Vb (w5.alloc (.cells #[.slice xa0 rn xk0, .int .i64 H.pc, .slice xa1 dn xk1, .bool H.halted, .bool H.waiting, .bool H.rung, .int .i64 H.done, .slice xa2 jn xk2, .slice xa3 on0 xk3, .slice xa4 ln0 xk4, .slice xa5 mn0 xk5] 50)) w5.heap.size #[.slice xa0 rn xk0, .int .i64 H.pc, .slice xa1 dn xk1, .bool H.halted, .bool H.waiting, .bool H.rung, .int .i64 H.done, .slice xa2 jn xk2, .slice xa3 on0 xk3, .slice xa4 ln0 xk4, .slice xa5 mn0 xk5] 50) := Vb.new _ _ _
  have RN : Hid (∀ k, OwnS (.slice xa0 rn xk0) (.slice xa1 dn xk1) (.slice xa2 jn xk2) (.slice xa3 on0 xk3) (.slice xa4 ln0 xk4) (.slice xa5 mn0 xk5) k → V4.heap.size ≤ k ∧ k < w5.heap.size) := fun k e => sm_own s5' k e
  have Z5 : Hid (V4.heap.size ≤ w5.heap.size ∧ w5.heap.size + 1 = (w5.alloc (.cells #[.slice xa0 rn xk0, .int .i64 H.pc, .slice xa1 dn xk1, .bool H.halted, .bool H.waiting, .bool H.rung, .int .i64 H.done, .slice xa2 jn xk2, .slice xa3 on0 xk3, .slice xa4 ln0 xk4, .slice xa5 mn0 xk5] 50)).heap.size) := ⟨b5.size, by simp⟩
  clear s5' b5 hn0 hn1 hn2 hn3 hn4 hn5
  have X45 := X4.out.keep E5.out
  have q0 := X45.cell 0 rfl
  have q1 := X45.cell 1 rfl
  have q2 := X45.cell 2 rfl
  have q3 := X45.cell 3 rfl
  have x0 := X5.out.cell 0 rfl
  have x1 := X5.out.cell 1 rfl
  have x2 := X5.out.cell 2 rfl
  have x3 := X5.out.cell 3 rfl
  have x4 := X5.out.cell 4 rfl
  have x5 := X5.out.cell 5 rfl
  have x6 := X5.out.cell 6 rfl
  have x7 := X5.out.cell 7 rfl
  have x8 := X5.out.cell 8 rfl
  have x9 := X5.out.cell 9 rfl
  have x10 := X5.out.cell 10 rfl
  clear X45
  go_wp2_with fail
  clear q0 q1 q2 q3 x0 x1 x2 x3 x4 x5 x6 x7 x8 x9 x10
  generalize (w5.alloc (.cells #[.slice xa0 rn xk0, .int .i64 H.pc, .slice xa1 dn xk1, .bool H.halted, .bool H.waiting, .bool H.rung, .int .i64 H.done, .slice xa2 jn xk2, .slice xa3 on0 xk3, .slice xa4 ln0 xk4, .slice xa5 mn0 xk5] 50)) = V5 at *
  obtain ⟨s5, hs5⟩ : ∃ x, w5.heap.size = x := ⟨_, rfl⟩
  rw [hs5] at X5 Z5 RN ⊢
  have S5 : Hid (w5.heap.size = s5) := hs5
  clear hs5
  have CALL := i_soloView _ _ _ _ _ _ _ _ _ _ _ _ P _ _ _ _ _ _ H ps zs gu _ _ (M4.out.keep (on D4.out E5.out)).pl (M5.out.keep D5.out) PL.out (cell_keep B5.out HG.out)
  rw [HCZ.out.1, HCZ.out.2.1, HCZ.out.2.2.1, HCZ.out.2.2.2] at CALL
  refine CALL.mono ?_
  clear CALL
  rintro e w6 ⟨_, _, _, _, _, _, rfl, sm, b6⟩
  obtain ⟨za0, zk0, f0, _⟩ := sm.h.r.shape
  obtain ⟨za1, zk1, f1, _⟩ := sm.h.c.shape
  obtain ⟨za2, zk2, f2, _⟩ := sm.h.i.shape
  obtain ⟨za3, zk3, f3, _⟩ := sm.h.o.shape
  obtain ⟨za4, zk4, f4, _⟩ := sm.pl.shape
  obtain ⟨za5, zk5, f5, _⟩ := sm.mm.shape
  subst f0 f1 f2 f3 f4 f5
  rw [LY.out.1, LY.out.2.1, LY.out.2.2.1, LY.out.2.2.2.1, LY.out.2.2.2.2.1, LY.out.2.2.2.2.2] at sm ⊢
  have E6 : Hid (Below V5.heap.size V5 (w6.alloc (.cells #[.int .i64 C, .slice za0 e0 zk0, .int .i64 G.pc, .slice za1 e1 zk1, .bool G.halted, .bool G.waiting, .bool G.rung, .int .i64 G.done, .slice za2 e2 zk2, .slice za3 e3 zk3, .slice za4 e4 zk4, .slice za5 e5 zk5] 40))) := al b6 _
  have B6 : Hid (Below W.heap.size W (w6.alloc (.cells #[.int .i64 C, .slice za0 e0 zk0, .int .i64 G.pc, .slice za1 e1 zk1, .bool G.halted, .bool G.waiting, .bool G.rung, .int .i64 G.done, .slice za2 e2 zk2, .slice za3 e3 zk3, .slice za4 e4 zk4, .slice za5 e5 zk5] 40))) := on B5.out E6.out
  have G6 : Hid (Vb (w6.alloc (.cells #[.int .i64 C, .slice za0 e0 zk0, .int .i64 G.pc, .slice za1 e1 zk1, .bool G.halted, .bool G.waiting, .bool G.rung, .int .i64 G.done, .slice za2 e2 zk2, .slice za3 e3 zk3, .slice za4 e4 zk4, .slice za5 e5 zk5] 40)) w6.heap.size #[.int .i64 C, .slice za0 e0 zk0, .int .i64 G.pc, .slice za1 e1 zk1, .bool G.halted, .bool G.waiting, .bool G.rung, .int .i64 G.done, .slice za2 e2 zk2, .slice za3 e3 zk3, .slice za4 e4 zk4, .slice za5 e5 zk5] 40) := Vb.new _ _ _
  have Y6 : Hid (Vb (w6.alloc (.cells #[.int .i64 C, .slice za0 e0 zk0, .int .i64 G.pc, .slice za1 e1 zk1, .bool G.halted, .bool G.waiting, .bool G.rung, .int .i64 G.done, .slice za2 e2 zk2, .slice za3 e3 zk3, .slice za4 e4 zk4, .slice za5 e5 zk5] 40)) s3 #[.int .i64 C, .slice ya0 e0 yk0, .int .i64 G.pc, .slice ya1 e1 yk1, .bool G.halted, .bool G.waiting, .bool G.rung, .int .i64 G.done, .slice ya2 e2 yk2, .slice ya3 e3 yk3, .slice ya4 e4 yk4, .slice ya5 e5 yk5] 40) := (AY.out.keep (on E4.out E5.out)).keep E6.out
  have N6 : Hid (Vm (w6.alloc (.cells #[.int .i64 C, .slice za0 e0 zk0, .int .i64 G.pc, .slice za1 e1 zk1, .bool G.halted, .bool G.waiting, .bool G.rung, .int .i64 G.done, .slice za2 e2 zk2, .slice za3 e3 zk3, .slice za4 e4 zk4, .slice za5 e5 zk5] 40)) _ (.slice ya0 e0 yk0) (.slice ya1 e1 yk1) (.slice ya2 e2 yk2) (.slice ya3 e3 yk3) (.slice ya4 e4 yk4) (.slice ya5 e5 yk5) G O Z) := (AN.out.keep (on E4.out E5.out)).keep E6.out
  have O6 : Hid (Vm (w6.alloc (.cells #[.int .i64 C, .slice za0 e0 zk0, .int .i64 G.pc, .slice za1 e1 zk1, .bool G.halted, .bool G.waiting, .bool G.rung, .int .i64 G.done, .slice za2 e2 zk2, .slice za3 e3 zk3, .slice za4 e4 zk4, .slice za5 e5 zk5] 40)) V5.heap.size (.slice za0 e0 zk0) (.slice za1 e1 zk1) (.slice za2 e2 zk2) (.slice za3 e3 zk3) (.slice za4 e4 zk4) (.slice za5 e5 zk5) G O Z) := sm.keep (al (Below.refl _ _) _)
  have L6 : Hid (∀ k, OwnV (.slice za0 e0 zk0) (.slice za1 e1 zk1) (.slice za2 e2 zk2) (.slice za3 e3 zk3) (.slice za4 e4 zk4) (.slice za5 e5 zk5) k → V5.heap.size ≤ k ∧ k < w6.heap.size) := fun k e => vm_own sm k e
  have Z6 : Hid (V5.heap.size ≤ w6.heap.size) := b6.size
  clear sm b6
  have y0 := Y6.out.cell 0 rfl
  have y1 := Y6.out.cell 1 rfl
  have y2 := Y6.out.cell 2 rfl
  have y3 := Y6.out.cell 3 rfl
  have y4 := Y6.out.cell 4 rfl
  have y5 := Y6.out.cell 5 rfl
  have y6 := Y6.out.cell 6 rfl
  have y7 := Y6.out.cell 7 rfl
  have y8 := Y6.out.cell 8 rfl
  have y9 := Y6.out.cell 9 rfl
  have y10 := Y6.out.cell 10 rfl
  have y11 := Y6.out.cell 11 rfl
  go_wp2_with fail
  clear y0 y1 y2 y3 y4 y5 y6 y7 y8 y9 y10 y11
  generalize (w6.alloc (.cells #[.int .i64 C, .slice za0 e0 zk0, .int .i64 G.pc, .slice za1 e1 zk1, .bool G.halted, .bool G.waiting, .bool G.rung, .int .i64 G.done, .slice za2 e2 zk2, .slice za3 e3 zk3, .slice za4 e4 zk4, .slice za5 e5 zk5] 40)) = V6 at *
  obtain ⟨s6, hs6⟩ : ∃ x, w6.heap.size = x := ⟨_, rfl⟩
  rw [hs6] at G6 L6 Z6 ⊢
  clear hs6
  refine (eq_vres _ _ _ _ _ _ _ _ _ _ _ _ _ G O Z _ _ _ O6.out.vq N6.out.vq).mono ?_
  rintro e w7 ⟨rfl, b7⟩
  have E7 : Hid (Below V6.heap.size V6 w7) := b7
  have B7 : Hid (Below W.heap.size W w7) := on B6.out b7
  have X47 : Hid (Vb w7 s4 #[.slice (some ⟨h0, 0, none⟩) n0 n0, .slice (some ⟨h1, 0, none⟩) n1 n1, .slice (some ⟨h2, 0, none⟩) n2 n2, .slice (some ⟨h3, 0, none⟩) n3 n3] 46) := ((X4.out.keep E5.out).keep E6.out).keep b7
  have X57 : Hid (Vb w7 s5 #[.slice xa0 rn xk0, .int .i64 H.pc, .slice xa1 dn xk1, .bool H.halted, .bool H.waiting, .bool H.rung, .int .i64 H.done, .slice xa2 jn xk2, .slice xa3 on0 xk3, .slice xa4 ln0 xk4, .slice xa5 mn0 xk5] 50) := (X5.out.keep E6.out).keep b7
  have D47 : Hid (Below w4.heap.size w4 w7) := on (on (on D4.out E5.out) E6.out) b7
  have D57 : Hid (Below w5.heap.size w5 w7) := on (on D5.out E6.out) b7
  have Y7 : Hid (Vb w7 s3 #[.int .i64 C, .slice ya0 e0 yk0, .int .i64 G.pc, .slice ya1 e1 yk1, .bool G.halted, .bool G.waiting, .bool G.rung, .int .i64 G.done, .slice ya2 e2 yk2, .slice ya3 e3 yk3, .slice ya4 e4 yk4, .slice ya5 e5 yk5] 40) := Y6.out.keep b7
  have G7 : Hid (Vb w7 s6 #[.int .i64 C, .slice za0 e0 zk0, .int .i64 G.pc, .slice za1 e1 zk1, .bool G.halted, .bool G.waiting, .bool G.rung, .int .i64 G.done, .slice za2 e2 zk2, .slice za3 e3 zk3, .slice za4 e4 zk4, .slice za5 e5 zk5] 40) := G6.out.keep b7
  have N7 : Hid (Vm w7 _ (.slice ya0 e0 yk0) (.slice ya1 e1 yk1) (.slice ya2 e2 yk2) (.slice ya3 e3 yk3) (.slice ya4 e4 yk4) (.slice ya5 e5 yk5) G O Z) := N6.out.keep b7
  have O7 : Hid (Vm w7 V5.heap.size (.slice za0 e0 zk0) (.slice za1 e1 zk1) (.slice za2 e2 zk2) (.slice za3 e3 zk3) (.slice za4 e4 zk4) (.slice za5 e5 zk5) G O Z) := O6.out.keep b7
  clear b7 E7 Y6 G6 N6 O6 X4 X5 E4 E5 E6 D4 D5
  go_upto_region 14 with fail
  have P0 : Hid (Below w7.heap.size w7 w7.drew) := (Below.refl _ _).drew
  refine wp_region_held (S := fun w' => Below w7.heap.size w7 w') (by kernel_rfl) ?_
  change wpAnyH _ _ _ _ _ _ _ _ (World.drew _)
  generalize w7.drew = p0 at *
  refine wpAnyH_take (i := 0) (v := (.agg #[.slice (some ⟨h0, 0, none⟩) n0 n0, .slice (some ⟨h1, 0, none⟩) n1 n1, .slice (some ⟨h2, 0, none⟩) n2 n2, .slice (some ⟨h3, 0, none⟩) n3 n3])) rfl (by kernel_rfl) (by kernel_rfl) (by kernel_rfl) (fun _ _ _ h => h) (Or.inl ⟨by rfl, fun w' hs => by have hq := X47.out.keep hs; have q0 := hq.cell 0 rfl; have q1 := hq.cell 1 rfl; have q2 := hq.cell 2 rfl; have q3 := hq.cell 3 rfl; go_simp⟩) P0.out ?_
  change wpAnyH _ _ _ _ _ _ _ (Act.put _ (some 44) _) _
  simp only [Act.put, List.setIfInBounds_toArray, List.set_cons_zero, List.set_cons_succ]
  refine wpAnyH_take (i := 1) (v := (.agg #[.slice a0 n0 c0, .slice a1 n1 c1, .slice a2 n2 c2, .slice a3 n3 c3])) rfl (by kernel_rfl) (by kernel_rfl) (by kernel_rfl) (fun _ _ _ h => h) (Or.inl ⟨by rfl, fun w' hs => by have hq := Q.out.keep (on B7.out hs); have q0 := hq.cell 0 rfl; have q1 := hq.cell 1 rfl; have q2 := hq.cell 2 rfl; have q3 := hq.cell 3 rfl; go_simp⟩) P0.out ?_
  change wpAnyH _ _ _ _ _ _ _ (Act.put _ (some 45) _) _
  simp only [Act.put, List.setIfInBounds_toArray, List.set_cons_zero, List.set_cons_succ]
  refine wpAnyH_ready (rs := [2]) (by kernel_rfl) (by simp) ?_
  refine AllReadyH.cons rfl (fun K hK => ?_) AllReadyH.nil
  rw [if_pos (by rfl)]
  go_simp
  refine (to_policy _ _ _ _ _ _ _ _ _ _ _ _ P _ (HQ.out.stay (on B7.out P0.out)) SP.out).mono ?_
  rintro e p1 ⟨j0, j1, j2, j3, rfl, pm, pb⟩
  have PM : Hid (Mde p1 _ j0 j1 j2 j3 n0 n1 n2 n3 P) := pm
  have P1 : Hid (Below w7.heap.size w7 p1) := on P0.out pb
  clear pm pb
  refine hK.out _ _ P1.out (fun _ => ?_)
  clear hK K
  refine wpAnyH_ready (rs := [3]) (by kernel_rfl) (by simp) ?_
  refine AllReadyH.cons rfl (fun K hK => ?_) AllReadyH.nil
  rw [if_pos (by rfl)]
  go_simp
  refine (eq_policy _ _ _ _ _ _ _ _ _ _ _ _ P _ _ _ (M4.out.keep (on D47.out P1.out)) PM.out).mono ?_
  rintro e p2 ⟨rfl, pb⟩
  have P2 : Hid (Below w7.heap.size w7 p2) := on P1.out pb
  clear pb
  refine hK.out _ _ P2.out (fun _ => ?_)
  clear hK K
  refine wpAnyH_take (i := 4) (v := (.bool false)) rfl (by kernel_rfl) (by kernel_rfl) (by kernel_rfl) (fun _ _ _ h => h) (Or.inl ⟨by rfl, fun w' hs => by go_simp⟩) P2.out ?_
  change wpAnyH _ _ _ _ _ _ _ (Act.put _ (some 48) _) _
  simp only [Act.put, List.setIfInBounds_toArray, List.set_cons_zero, List.set_cons_succ]
  refine wpAnyH_done (by kernel_rfl) ?_ _
  clear P0 P1 PM
  go_upto_region 16 with fail
  have R0 : Hid (Below w7.heap.size w7 p2.drew) := P2.out.drew
  refine wp_region_held (S := fun w' => Below w7.heap.size w7 w') (by kernel_rfl) ?_
  change wpAnyH _ _ _ _ _ _ _ _ (World.drew _)
  generalize p2.drew = r0 at *
  refine wpAnyH_take (i := 0) (v := (.agg #[.slice xa0 rn xk0, .int .i64 H.pc, .slice xa1 dn xk1, .bool H.halted, .bool H.waiting, .bool H.rung, .int .i64 H.done, .slice xa2 jn xk2, .slice xa3 on0 xk3, .slice xa4 ln0 xk4, .slice xa5 mn0 xk5])) rfl (by kernel_rfl) (by kernel_rfl) (by kernel_rfl) (fun _ _ _ h => h) (Or.inl ⟨by rfl, fun w' hs => by have hq := X57.out.keep hs; have q0 := hq.cell 0 rfl; have q1 := hq.cell 1 rfl; have q2 := hq.cell 2 rfl; have q3 := hq.cell 3 rfl; have q4 := hq.cell 4 rfl; have q5 := hq.cell 5 rfl; have q6 := hq.cell 6 rfl; have q7 := hq.cell 7 rfl; have q8 := hq.cell 8 rfl; have q9 := hq.cell 9 rfl; have q10 := hq.cell 10 rfl; go_simp⟩) R0.out ?_
  change wpAnyH _ _ _ _ _ _ _ (Act.put _ (some 49) _) _
  simp only [Act.put, List.setIfInBounds_toArray, List.set_cons_zero, List.set_cons_succ]
  refine wpAnyH_take (i := 1) (v := (.agg #[.slice u0 m0 k0, .int .i64 H.pc, .slice u1 m1 k1, .bool H.halted, .bool H.waiting, .bool H.rung, .int .i64 H.done, .slice u2 m2 k2, .slice u3 m3 k3, .slice la ln lc, .slice ma mn mc])) rfl (by kernel_rfl) (by kernel_rfl) (by kernel_rfl) (fun _ _ _ h => h) (Or.inl ⟨by rfl, fun w' hs => by have hq := T.out.keep (on B7.out hs); have q0 := hq.cell 0 rfl; have q1 := hq.cell 1 rfl; have q2 := hq.cell 2 rfl; have q3 := hq.cell 3 rfl; have q4 := hq.cell 4 rfl; have q5 := hq.cell 5 rfl; have q6 := hq.cell 6 rfl; have q7 := hq.cell 7 rfl; have q8 := hq.cell 8 rfl; have q9 := hq.cell 9 rfl; have q10 := hq.cell 10 rfl; go_simp⟩) R0.out ?_
  change wpAnyH _ _ _ _ _ _ _ (Act.put _ (some 50) _) _
  simp only [Act.put, List.setIfInBounds_toArray, List.set_cons_zero, List.set_cons_succ]
  refine wpAnyH_ready (rs := [2]) (by kernel_rfl) (by simp) ?_
  refine AllReadyH.cons rfl (fun K hK => ?_) AllReadyH.nil
  rw [if_pos (by rfl)]
  go_simp
  refine (to_solo _ _ _ _ _ _ _ _ _ _ _ _ H _ _ _ ps _ _ _ zs _ (HI.out.1.stay (on B7.out R0.out)) (HI.out.2.1.stay (on B7.out R0.out)) (HI.out.2.2.stay (on B7.out R0.out)) SM.out.1 SM.out.2.1 SM.out.2.2).mono ?_
  rintro e p3 ⟨r9, d9, i9, o9, l9, m9, rfl, s9, b9⟩
  have SM9 : Hid (Sm p3 _ r9 d9 i9 o9 l9 m9 H ps zs) := s9
  have R1 : Hid (Below w7.heap.size w7 p3) := on R0.out b9
  clear s9 b9
  refine hK.out _ _ R1.out (fun _ => ?_)
  clear hK K
  refine wpAnyH_ready (rs := [3]) (by kernel_rfl) (by simp) ?_
  refine AllReadyH.cons rfl (fun K hK => ?_) AllReadyH.nil
  rw [if_pos (by rfl)]
  go_simp
  refine (eq_solo _ _ _ _ _ _ _ _ _ _ _ _ H ps zs _ _ _ (M5.out.keep (on D57.out R1.out)) SM9.out).mono ?_
  rintro e p4 ⟨rfl, pb⟩
  have R2 : Hid (Below w7.heap.size w7 p4) := on R1.out pb
  clear pb
  refine hK.out _ _ R2.out (fun _ => ?_)
  clear hK K
  refine wpAnyH_take (i := 4) (v := (.bool false)) rfl (by kernel_rfl) (by kernel_rfl) (by kernel_rfl) (fun _ _ _ h => h) (Or.inl ⟨by rfl, fun w' hs => by go_simp⟩) R2.out ?_
  change wpAnyH _ _ _ _ _ _ _ (Act.put _ (some 53) _) _
  simp only [Act.put, List.setIfInBounds_toArray, List.set_cons_zero, List.set_cons_succ]
  refine wpAnyH_done (by kernel_rfl) ?_ _
  have B8 : Hid (Below W.heap.size W p4) := on B7.out R2.out
  have X48 : Hid (Vb p4 s4 #[.slice (some ⟨h0, 0, none⟩) n0 n0, .slice (some ⟨h1, 0, none⟩) n1 n1, .slice (some ⟨h2, 0, none⟩) n2 n2, .slice (some ⟨h3, 0, none⟩) n3 n3] 46) := X47.out.keep R2.out
  have X58 : Hid (Vb p4 s5 #[.slice xa0 rn xk0, .int .i64 H.pc, .slice xa1 dn xk1, .bool H.halted, .bool H.waiting, .bool H.rung, .int .i64 H.done, .slice xa2 jn xk2, .slice xa3 on0 xk3, .slice xa4 ln0 xk4, .slice xa5 mn0 xk5] 50) := X57.out.keep R2.out
  have D48 : Hid (Below w4.heap.size w4 p4) := on D47.out R2.out
  have M58 : Hid (Sm p4 V4.heap.size (.slice xa0 rn xk0) (.slice xa1 dn xk1) (.slice xa2 jn xk2) (.slice xa3 on0 xk3) (.slice xa4 ln0 xk4) (.slice xa5 mn0 xk5) H ps zs) := M5.out.keep (on D57.out R2.out)
  have Y8 : Hid (Vb p4 s3 #[.int .i64 C, .slice ya0 e0 yk0, .int .i64 G.pc, .slice ya1 e1 yk1, .bool G.halted, .bool G.waiting, .bool G.rung, .int .i64 G.done, .slice ya2 e2 yk2, .slice ya3 e3 yk3, .slice ya4 e4 yk4, .slice ya5 e5 yk5] 40) := Y7.out.keep R2.out
  have G8 : Hid (Vb p4 s6 #[.int .i64 C, .slice za0 e0 zk0, .int .i64 G.pc, .slice za1 e1 zk1, .bool G.halted, .bool G.waiting, .bool G.rung, .int .i64 G.done, .slice za2 e2 zk2, .slice za3 e3 zk3, .slice za4 e4 zk4, .slice za5 e5 zk5] 40) := G7.out.keep R2.out
  have N8 : Hid (Vm p4 _ (.slice ya0 e0 yk0) (.slice ya1 e1 yk1) (.slice ya2 e2 yk2) (.slice ya3 e3 yk3) (.slice ya4 e4 yk4) (.slice ya5 e5 yk5) G O Z) := N7.out.keep R2.out
  have O8 : Hid (Vm p4 V5.heap.size (.slice za0 e0 zk0) (.slice za1 e1 zk1) (.slice za2 e2 zk2) (.slice za3 e3 zk3) (.slice za4 e4 zk4) (.slice za5 e5 zk5) G O Z) := O7.out.keep R2.out
  clear P2 R0 R1 SM9 R2 X47 X57 D47 D57 Y7 G7 N7 O7 B7
  have q0 := X48.out.cell 0 rfl
  have q1 := X48.out.cell 1 rfl
  have q2 := X48.out.cell 2 rfl
  have q3 := X48.out.cell 3 rfl
  go_wp2_with fail
  clear q0 q1 q2 q3
  refine (mark_policy _ _ _ _ _ _ _ _ V3.heap.size w4.heap.size P w4 p4 M4.out D48.out SP.out (by exact Nat.le_refl _)).mono ?_
  rintro e m1' ⟨⟨r1, rfl, hr1, hr1b⟩, mk1⟩
  have K1 : Hid (Mq (fun k => V3.heap.size ≤ k ∧ k < s4) p4 m1') := by have := mk1.mqv; rw [S4.out] at this; exact this
  have M59 : Hid (Sm m1' V4.heap.size (.slice xa0 rn xk0) (.slice xa1 dn xk1) (.slice xa2 jn xk2) (.slice xa3 on0 xk3) (.slice xa4 ln0 xk4) (.slice xa5 mn0 xk5) H ps zs) := sm_mkv M58.out mk1 fun k e => by have := RN.out k e; have := Z4.out; have := S4.out; omega
  clear mk1 M58 X48 D48
  have X59 : Hid (Vb m1' s5 #[.slice xa0 rn xk0, .int .i64 H.pc, .slice xa1 dn xk1, .bool H.halted, .bool H.waiting, .bool H.rung, .int .i64 H.done, .slice xa2 jn xk2, .slice xa3 on0 xk3, .slice xa4 ln0 xk4, .slice xa5 mn0 xk5] 50) := K1.out.vb X58.out fun e => by have := Z4.out; have := Z5.out; omega
  have x0 := X59.out.cell 0 rfl
  have x1 := X59.out.cell 1 rfl
  have x2 := X59.out.cell 2 rfl
  have x3 := X59.out.cell 3 rfl
  have x4 := X59.out.cell 4 rfl
  have x5 := X59.out.cell 5 rfl
  have x6 := X59.out.cell 6 rfl
  have x7 := X59.out.cell 7 rfl
  have x8 := X59.out.cell 8 rfl
  have x9 := X59.out.cell 9 rfl
  have x10 := X59.out.cell 10 rfl
  go_wp2_with fail
  clear x0 x1 x2 x3 x4 x5 x6 x7 x8 x9 x10
  have TH : Hid ((totS H ps zs : Int) ≤ 12000000) := by
    show _ ≤ _
    have h0 := (HI.out.1.regs).ln.1
    have h1 := (HI.out.1.csr).ln.1
    have h2 := (HI.out.1.inn).ln.1
    have h3 := (HI.out.1.out).ln.1
    have := SM.out.1.regs
    have := SM.out.1.csr
    have := SM.out.1.inn
    have := SM.out.1.out
    have := SM.out.2
    have := EL.out
    unfold totS totH
    omega
  refine (mark_solo _ _ _ _ _ _ H ps zs r1 _ m1' M59.out hr1 (by have := TH.out; omega)).mono ?_
  rintro e m2' ⟨rfl, _, mk2⟩
  have K2 : Hid (Mq (fun k => V3.heap.size ≤ k ∧ k < s5) p4 m2') := (mq_wid K1.out fun k e => by have := Z4.out; have := Z5.out; omega).trans (mq_wid mk2 fun k e => by have := RN.out k e; have := Z4.out; omega)
  have hp3 : 0 ≤ r1 + (totS H ps zs : Nat) := by omega
  have hq3 : r1 + (totS H ps zs : Nat) ≤ 1200000000000 := by have := TH.out; omega
  generalize r1 + (totS H ps zs : Nat) = T3 at *
  clear mk2 K1 M59 X58 X59 TH hr1 hr1b
  have Bm : Hid (Below W.heap.size W m2') := Mq.below B8.out K2.out fun k e => by have := AZ.out; omega
  have Ym : Hid (Vb m2' s3 #[.int .i64 C, .slice ya0 e0 yk0, .int .i64 G.pc, .slice ya1 e1 yk1, .bool G.halted, .bool G.waiting, .bool G.rung, .int .i64 G.done, .slice ya2 e2 yk2, .slice ya3 e3 yk3, .slice ya4 e4 yk4, .slice ya5 e5 yk5] 40) := K2.out.vb Y8.out fun e => by have := AZ.out; omega
  have Gm : Hid (Vb m2' s6 #[.int .i64 C, .slice za0 e0 zk0, .int .i64 G.pc, .slice za1 e1 zk1, .bool G.halted, .bool G.waiting, .bool G.rung, .int .i64 G.done, .slice za2 e2 zk2, .slice za3 e3 zk3, .slice za4 e4 zk4, .slice za5 e5 zk5] 40) := K2.out.vb G8.out fun e => by have := Z5.out; have := Z6.out; omega
  have Nm : Hid (Vm m2' _ (.slice ya0 e0 yk0) (.slice ya1 e1 yk1) (.slice ya2 e2 yk2) (.slice ya3 e3 yk3) (.slice ya4 e4 yk4) (.slice ya5 e5 yk5) G O Z) := vm_mqv N8.out K2.out fun k e f => by have := AL.out k e; have := AZ.out; omega
  have Om : Hid (Vm m2' V5.heap.size (.slice za0 e0 zk0) (.slice za1 e1 zk1) (.slice za2 e2 zk2) (.slice za3 e3 zk3) (.slice za4 e4 zk4) (.slice za5 e5 zk5) G O Z) := vm_mqv O8.out K2.out fun k e f => by have := (L6.out k e).1; have := Z5.out; omega
  clear K2 B8 Y8 G8 N8 O8
  have y0 := Ym.out.cell 0 rfl
  have y1 := Ym.out.cell 1 rfl
  have y2 := Ym.out.cell 2 rfl
  have y3 := Ym.out.cell 3 rfl
  have y4 := Ym.out.cell 4 rfl
  have y5 := Ym.out.cell 5 rfl
  have y6 := Ym.out.cell 6 rfl
  have y7 := Ym.out.cell 7 rfl
  have y8 := Ym.out.cell 8 rfl
  have y9 := Ym.out.cell 9 rfl
  have y10 := Ym.out.cell 10 rfl
  have y11 := Ym.out.cell 11 rfl
  have g0 := Gm.out.cell 0 rfl
  have g1 := Gm.out.cell 1 rfl
  have g2 := Gm.out.cell 2 rfl
  have g3 := Gm.out.cell 3 rfl
  have g4 := Gm.out.cell 4 rfl
  have g5 := Gm.out.cell 5 rfl
  have g6 := Gm.out.cell 6 rfl
  have g7 := Gm.out.cell 7 rfl
  have g8 := Gm.out.cell 8 rfl
  have g9 := Gm.out.cell 9 rfl
  have g10 := Gm.out.cell 10 rfl
  have g11 := Gm.out.cell 11 rfl
  go_wp2_with fail
  clear y0 y1 y2 y3 y4 y5 y6 y7 y8 y9 y10 y11 g0 g1 g2 g3 g4 g5 g6 g7 g8 g9 g10 g11
  refine (eq_vres _ _ _ _ _ _ _ _ _ _ _ _ _ G O Z _ _ _ Om.out.vq Nm.out.vq).mono ?_
  rintro e t1 ⟨rfl, b7⟩
  have Bt1 : Hid (Below W.heap.size W t1) := on Bm.out b7
  have Yt1 : Hid (Vb t1 s3 #[.int .i64 C, .slice ya0 e0 yk0, .int .i64 G.pc, .slice ya1 e1 yk1, .bool G.halted, .bool G.waiting, .bool G.rung, .int .i64 G.done, .slice ya2 e2 yk2, .slice ya3 e3 yk3, .slice ya4 e4 yk4, .slice ya5 e5 yk5] 40) := Ym.out.keep b7
  have Gt1 : Hid (Vb t1 s6 #[.int .i64 C, .slice za0 e0 zk0, .int .i64 G.pc, .slice za1 e1 zk1, .bool G.halted, .bool G.waiting, .bool G.rung, .int .i64 G.done, .slice za2 e2 zk2, .slice za3 e3 zk3, .slice za4 e4 zk4, .slice za5 e5 zk5] 40) := Gm.out.keep b7
  have Nt1 : Hid (Vm t1 _ (.slice ya0 e0 yk0) (.slice ya1 e1 yk1) (.slice ya2 e2 yk2) (.slice ya3 e3 yk3) (.slice ya4 e4 yk4) (.slice ya5 e5 yk5) G O Z) := Nm.out.keep b7
  have Ot1 : Hid (Vm t1 V5.heap.size (.slice za0 e0 zk0) (.slice za1 e1 zk1) (.slice za2 e2 zk2) (.slice za3 e3 zk3) (.slice za4 e4 zk4) (.slice za5 e5 zk5) G O Z) := Om.out.keep b7
  clear b7 Ym Gm Nm Om Bm hq3
  have g0 := Gt1.out.cell 0 rfl
  have g1 := Gt1.out.cell 1 rfl
  have g2 := Gt1.out.cell 2 rfl
  have g3 := Gt1.out.cell 3 rfl
  have g4 := Gt1.out.cell 4 rfl
  have g5 := Gt1.out.cell 5 rfl
  have g6 := Gt1.out.cell 6 rfl
  have g7 := Gt1.out.cell 7 rfl
  have g8 := Gt1.out.cell 8 rfl
  have g9 := Gt1.out.cell 9 rfl
  have g10 := Gt1.out.cell 10 rfl
  have g11 := Gt1.out.cell 11 rfl
  go_wp2_with fail
  clear g0 g1 g2 g3 g4 g5 g6 g7 g8 g9 g10 g11
  refine (mark_vres _ _ _ _ _ _ _ G O Z 1 _ _ Ot1.out (by decide) (by have := SY.out; omega)).mono ?_
  rintro e t2 ⟨rfl, n7, g7⟩
  have TG : Hid ((1 : Int) + (totV G O Z : Nat) = 1 + (totH G : Nat) + (O.length : Nat) + (Z.length : Nat)) := by show _ = _; unfold totV; omega
  have mk2 : Mq (fun k => V5.heap.size ≤ k ∧ k < s6) t1 t2 := mq_wid g7 fun k e => L6.out k e
  have Bt2 : Hid (Below W.heap.size W t2) := Mq.below Bt1.out mk2 fun k e => by have := AZ.out; have := Z4.out; have := Z5.out; omega
  have Yt2 : Hid (Vb t2 s3 #[.int .i64 C, .slice ya0 e0 yk0, .int .i64 G.pc, .slice ya1 e1 yk1, .bool G.halted, .bool G.waiting, .bool G.rung, .int .i64 G.done, .slice ya2 e2 yk2, .slice ya3 e3 yk3, .slice ya4 e4 yk4, .slice ya5 e5 yk5] 40) := mk2.vb Yt1.out fun e => by have := AZ.out; have := Z4.out; have := Z5.out; omega
  have Gt2 : Hid (Vb t2 s6 #[.int .i64 C, .slice za0 e0 zk0, .int .i64 G.pc, .slice za1 e1 zk1, .bool G.halted, .bool G.waiting, .bool G.rung, .int .i64 G.done, .slice za2 e2 zk2, .slice za3 e3 zk3, .slice za4 e4 zk4, .slice za5 e5 zk5] 40) := mk2.vb Gt1.out fun e => by omega
  have Nt2 : Hid (Vm t2 _ (.slice ya0 e0 yk0) (.slice ya1 e1 yk1) (.slice ya2 e2 yk2) (.slice ya3 e3 yk3) (.slice ya4 e4 yk4) (.slice ya5 e5 yk5) G O Z) := vm_mqv Nt1.out mk2 fun k e f => by have := AL.out k e; have := AZ.out; have := Z4.out; have := Z5.out; omega
  have Ot2 : Hid (Vm t2 V5.heap.size (.slice za0 e0 zk0) (.slice za1 e1 zk1) (.slice za2 e2 zk2) (.slice za3 e3 zk3) (.slice za4 e4 zk4) (.slice za5 e5 zk5) (mkH 1 G) (marks (1 + totH G) O.length) (marks (1 + totH G + (O.length : Nat)) Z.length)) := n7
  clear n7 g7 mk2 Bt1 Yt1 Gt1 Nt1 Ot1
  have TL : Hid (1 + (totH G : Int) + (O.length : Nat) + (Z.length : Nat) ≤ 4611686018427387904) := by have := SY.out; have := TG.out; show _ ≤ _; omega
  rw [TG.out]
  have tp : 0 ≤ 1 + (totH G : Int) + (O.length : Nat) + (Z.length : Nat) := by omega
  obtain ⟨TT, hTT⟩ : ∃ t, 1 + (totH G : Int) + (O.length : Nat) + (Z.length : Nat) = t := ⟨_, rfl⟩
  have HTT : Hid (1 + (totH G : Int) + (O.length : Nat) + (Z.length : Nat) = TT) := hTT
  rw [hTT] at tp ⊢
  clear hTT
  have g0 := Gt2.out.cell 0 rfl
  have g1 := Gt2.out.cell 1 rfl
  have g2 := Gt2.out.cell 2 rfl
  have g3 := Gt2.out.cell 3 rfl
  have g4 := Gt2.out.cell 4 rfl
  have g5 := Gt2.out.cell 5 rfl
  have g6 := Gt2.out.cell 6 rfl
  have g7 := Gt2.out.cell 7 rfl
  have g8 := Gt2.out.cell 8 rfl
  have g9 := Gt2.out.cell 9 rfl
  have g10 := Gt2.out.cell 10 rfl
  have g11 := Gt2.out.cell 11 rfl
  go_wp2_with fail
  clear g0 g1 g2 g3 g4 g5 g6 g7 g8 g9 g10 g11
  refine (held_vres _ _ _ _ _ _ _ G O.length Z.length 1 _ _ Ot2.out.h Ot2.out.pl Ot2.out.mm (by decide) TL.out).mono ?_
  rintro e t3 ⟨rfl, b7⟩
  rw [HTT.out]
  have Bt3 : Hid (Below W.heap.size W t3) := on Bt2.out b7
  have Yt3 : Hid (Vb t3 s3 #[.int .i64 C, .slice ya0 e0 yk0, .int .i64 G.pc, .slice ya1 e1 yk1, .bool G.halted, .bool G.waiting, .bool G.rung, .int .i64 G.done, .slice ya2 e2 yk2, .slice ya3 e3 yk3, .slice ya4 e4 yk4, .slice ya5 e5 yk5] 40) := Yt2.out.keep b7
  have Gt3 : Hid (Vb t3 s6 #[.int .i64 C, .slice za0 e0 zk0, .int .i64 G.pc, .slice za1 e1 zk1, .bool G.halted, .bool G.waiting, .bool G.rung, .int .i64 G.done, .slice za2 e2 zk2, .slice za3 e3 zk3, .slice za4 e4 zk4, .slice za5 e5 zk5] 40) := Gt2.out.keep b7
  have Nt3 : Hid (Vm t3 _ (.slice ya0 e0 yk0) (.slice ya1 e1 yk1) (.slice ya2 e2 yk2) (.slice ya3 e3 yk3) (.slice ya4 e4 yk4) (.slice ya5 e5 yk5) G O Z) := Nt2.out.keep b7
  have Ot3 : Hid (Vm t3 V5.heap.size (.slice za0 e0 zk0) (.slice za1 e1 zk1) (.slice za2 e2 zk2) (.slice za3 e3 zk3) (.slice za4 e4 zk4) (.slice za5 e5 zk5) (mkH 1 G) (marks (1 + totH G) O.length) (marks (1 + totH G + (O.length : Nat)) Z.length)) := Ot2.out.keep b7
  clear b7 Bt2 Yt2 Gt2 Nt2 Ot2
  go_upto_region 31 with fail
  go_cut [15] from 79 to 84 (fun c wx => ∃ (s9 bn : Nat) (ta0 ta1 ta2 ta3 ta4 ta5 : Option Addr) (tk0 tk1 tk2 tk3 tk4 tk5 : Nat), c = .pointer (some ⟨s9, 0, none⟩) ∧ Below W.heap.size W wx ∧ Below t3.heap.size t3 wx ∧ Vb wx s9 #[.int .i64 C, .slice ta0 e0 tk0, .int .i64 G.pc, .slice ta1 e1 tk1, .bool G.halted, .bool G.waiting, .bool G.rung, .int .i64 G.done, .slice ta2 e2 tk2, .slice ta3 e3 tk3, .slice ta4 e4 tk4, .slice ta5 e5 tk5] 40 ∧ Vm wx bn (.slice ta0 e0 tk0) (.slice ta1 e1 tk1) (.slice ta2 e2 tk2) (.slice ta3 e3 tk3) (.slice ta4 e4 tk4) (.slice ta5 e5 tk5) G O Z ∧ (∀ k, OwnV (.slice ta0 e0 tk0) (.slice ta1 e1 tk1) (.slice ta2 e2 tk2) (.slice ta3 e3 tk3) (.slice ta4 e4 tk4) (.slice ta5 e5 tk5) k → W.heap.size ≤ k ∧ k < wx.heap.size ∧ k ≠ s9) ∧ s9 < wx.heap.size ∧ W.heap.size ≤ s9)
  case first =>
    have S0 : Hid (Below W.heap.size W t3.drew) := Bt3.out.drew
    have D0 : Hid (Below t3.heap.size t3 t3.drew) := (Below.refl _ _).drew
    refine wp_region_held (S := fun w' => Below W.heap.size W w') (by kernel_rfl) ?_
    change wpAnyH _ _ _ _ _ _ _ _ (World.drew _)
    generalize t3.drew = v0 at *
    refine wpAnyH_take (i := 0) (v := (.agg #[.slice a0 n0 c0, .slice a1 n1 c1, .slice a2 n2 c2, .slice a3 n3 c3])) rfl (by kernel_rfl) (by kernel_rfl) (by kernel_rfl) (fun _ _ _ h => h) (Or.inl ⟨by rfl, fun w' hs => by have hq := Q.out.keep hs; have q0 := hq.cell 0 rfl; have q1 := hq.cell 1 rfl; have q2 := hq.cell 2 rfl; have q3 := hq.cell 3 rfl; go_simp⟩) S0.out ?_
    change wpAnyH _ _ _ _ _ _ _ (Act.put _ (some 79) _) _
    simp only [Act.put, List.setIfInBounds_toArray, List.set_cons_zero, List.set_cons_succ]
    refine wpAnyH_take (i := 2) (v := (.agg #[.slice u0 m0 k0, .int .i64 H.pc, .slice u1 m1 k1, .bool H.halted, .bool H.waiting, .bool H.rung, .int .i64 H.done, .slice u2 m2 k2, .slice u3 m3 k3, .slice la ln lc, .slice ma mn mc])) rfl (by kernel_rfl) (by kernel_rfl) (by kernel_rfl) (fun _ _ _ h => h) (Or.inl ⟨by rfl, fun w' hs => by have hq := T.out.keep hs; have q0 := hq.cell 0 rfl; have q1 := hq.cell 1 rfl; have q2 := hq.cell 2 rfl; have q3 := hq.cell 3 rfl; have q4 := hq.cell 4 rfl; have q5 := hq.cell 5 rfl; have q6 := hq.cell 6 rfl; have q7 := hq.cell 7 rfl; have q8 := hq.cell 8 rfl; have q9 := hq.cell 9 rfl; have q10 := hq.cell 10 rfl; go_simp⟩) S0.out ?_
    change wpAnyH _ _ _ _ _ _ _ (Act.put _ (some 81) _) _
    simp only [Act.put, List.setIfInBounds_toArray, List.set_cons_zero, List.set_cons_succ]
    refine wpAnyH_take (i := 4) (v := (.int .i64 gu)) rfl (by kernel_rfl) (by kernel_rfl) (by kernel_rfl) (fun _ _ _ h => h) (Or.inl ⟨by rfl, fun w' hs => by go_simp⟩) S0.out ?_
    change wpAnyH _ _ _ _ _ _ _ (Act.put _ (some 83) _) _
    simp only [Act.put, List.setIfInBounds_toArray, List.set_cons_zero, List.set_cons_succ]
    refine wpAnyH_ready (rs := [1, 6]) (by kernel_rfl) (by simp) ?_
    refine AllReadyH.cons rfl (fun K hK => ?_) (AllReadyH.cons rfl (fun K hK => ?_) AllReadyH.nil)
    · skip
      rw [if_pos (by rfl)]
      go_simp
      refine (to_policy _ _ _ _ _ _ _ _ _ _ _ _ P _ (HQ.out.stay S0.out) SP.out).mono ?_
      rintro e v1 ⟨g0, g1, g2, g3, rfl, pm, pb⟩
      have S1 : Hid (Below W.heap.size W v1) := on S0.out pb
      have D1 : Hid (Below t3.heap.size t3 v1) := on D0.out pb
      have M1 : Hid (Mde v1 _ g0 g1 g2 g3 n0 n1 n2 n3 P) := pm
      clear pm pb
      refine hK.out _ _ S1.out (fun _ => ?_)
      clear hK K
      refine wpAnyH_ready (rs := [3, 6]) (by kernel_rfl) (by simp) ?_
      refine AllReadyH.cons rfl (fun K hK => ?_) (AllReadyH.cons rfl (fun K hK => ?_) AllReadyH.nil)
      · skip
        rw [if_pos (by rfl)]
        go_simp
        refine (to_solo _ _ _ _ _ _ _ _ _ _ _ _ H _ _ _ ps _ _ _ zs _ (HI.out.1.stay S1.out) (HI.out.2.1.stay S1.out) (HI.out.2.2.stay S1.out) SM.out.1 SM.out.2.1 SM.out.2.2).mono ?_
        rintro e v2 ⟨r2, d2, i2, o2, l2, m2', rfl, s2, b2⟩
        have S2 : Hid (Below W.heap.size W v2) := on S1.out b2
        have D2 : Hid (Below t3.heap.size t3 v2) := on D1.out b2
        have M2 : Hid (Mde v2 _ g0 g1 g2 g3 n0 n1 n2 n3 P) := M1.out.keep b2
        have X2 : Hid (Sm v2 _ r2 d2 i2 o2 l2 m2' H ps zs) := s2
        clear s2 b2
        refine hK.out _ _ S2.out (fun _ => ?_)
        clear hK K
        refine wpAnyH_ready (rs := [5, 6]) (by kernel_rfl) (by simp) ?_
        refine AllReadyH.cons rfl (fun K hK => ?_) (AllReadyH.cons rfl (fun K hK => ?_) AllReadyH.nil)
        · skip
          rw [if_pos (by rfl)]
          go_simp
          have CALL := i_soloView _ _ _ _ _ _ _ _ _ _ _ _ P _ _ _ _ _ _ H ps zs gu _ _ M2.out.pl X2.out PL.out (cell_keep S2.out HG.out)
          rw [HCZ.out.1, HCZ.out.2.1, HCZ.out.2.2.1, HCZ.out.2.2.2] at CALL
          refine CALL.mono ?_
          clear CALL
          rintro e v3 ⟨_, _, _, _, _, _, rfl, sp, b3⟩
          obtain ⟨ta0, tk0, f0, _⟩ := sp.h.r.shape
          obtain ⟨ta1, tk1, f1, _⟩ := sp.h.c.shape
          obtain ⟨ta2, tk2, f2, _⟩ := sp.h.i.shape
          obtain ⟨ta3, tk3, f3, _⟩ := sp.h.o.shape
          obtain ⟨ta4, tk4, f4, _⟩ := sp.pl.shape
          obtain ⟨ta5, tk5, f5, _⟩ := sp.mm.shape
          subst f0 f1 f2 f3 f4 f5
          rw [LY.out.1, LY.out.2.1, LY.out.2.2.1, LY.out.2.2.2.1, LY.out.2.2.2.2.1, LY.out.2.2.2.2.2] at sp ⊢
          have S3 : Hid (Below W.heap.size W v3) := on S2.out b3
          have D3 : Hid (Below t3.heap.size t3 v3) := on D2.out b3
          have M3 : Hid (Mde v3 _ g0 g1 g2 g3 n0 n1 n2 n3 P) := M2.out.keep b3
          have X3 : Hid (Sm v3 _ r2 d2 i2 o2 l2 m2' H ps zs) := X2.out.keep b3
          have N3 : Hid (Vm v3 v2.heap.size (.slice ta0 e0 tk0) (.slice ta1 e1 tk1) (.slice ta2 e2 tk2) (.slice ta3 e3 tk3) (.slice ta4 e4 tk4) (.slice ta5 e5 tk5) G O Z) := sp
          have OW3 : Hid (∀ k, OwnV (.slice ta0 e0 tk0) (.slice ta1 e1 tk1) (.slice ta2 e2 tk2) (.slice ta3 e3 tk3) (.slice ta4 e4 tk4) (.slice ta5 e5 tk5) k → W.heap.size ≤ k ∧ k < v3.heap.size) := fun k e => ⟨Nat.le_trans S2.out.size (vm_own sp k e).1, (vm_own sp k e).2⟩
          clear sp b3
          refine hK.out _ _ S3.out (fun _ => ?_)
          clear hK K
          refine wpAnyH_ready (rs := [6]) (by kernel_rfl) (by simp) ?_
          refine AllReadyH.cons rfl (fun K hK => ?_) AllReadyH.nil
          rw [if_pos (by rfl)]
          go_simp
          have ba : Below v3.heap.size v3 (v3.alloc (.cells #[.int .i64 0, .slice none 0 0, .int .i64 0, .slice none 0 0, .bool false, .bool false, .bool false, .int .i64 0, .slice none 0 0, .slice none 0 0, .slice none 0 0, .slice none 0 0] 40)) := al (Below.refl _ _) _
          have RR : Hid (Vb (v3.alloc (.cells #[.int .i64 0, .slice none 0 0, .int .i64 0, .slice none 0 0, .bool false, .bool false, .bool false, .int .i64 0, .slice none 0 0, .slice none 0 0, .slice none 0 0, .slice none 0 0] 40)) v3.heap.size #[.int .i64 0, .slice none 0 0, .int .i64 0, .slice none 0 0, .bool false, .bool false, .bool false, .int .i64 0, .slice none 0 0, .slice none 0 0, .slice none 0 0, .slice none 0 0] 40) := Vb.new _ _ _
          have ZS : Hid (W.heap.size ≤ v3.heap.size ∧ t3.heap.size ≤ v3.heap.size) := ⟨S3.out.size, D3.out.size⟩
          have NE : Hid (∀ k, OwnV (.slice ta0 e0 tk0) (.slice ta1 e1 tk1) (.slice ta2 e2 tk2) (.slice ta3 e3 tk3) (.slice ta4 e4 tk4) (.slice ta5 e5 tk5) k → k ≠ v3.heap.size) := fun k e f => by have := (OW3.out k e).2; omega
          generalize (v3.alloc (.cells #[.int .i64 0, .slice none 0 0, .int .i64 0, .slice none 0 0, .bool false, .bool false, .bool false, .int .i64 0, .slice none 0 0, .slice none 0 0, .slice none 0 0, .slice none 0 0] 40)) = v4 at *
          have S4 : Hid (Below W.heap.size W v4) := on S3.out ba
          have D4 : Hid (Below t3.heap.size t3 v4) := on D3.out ba
          have M4 : Hid (Mde v4 _ g0 g1 g2 g3 n0 n1 n2 n3 P) := M3.out.keep ba
          have X4 : Hid (Sm v4 _ r2 d2 i2 o2 l2 m2' H ps zs) := X3.out.keep ba
          have N4 : Hid (Vm v4 _ (.slice ta0 e0 tk0) (.slice ta1 e1 tk1) (.slice ta2 e2 tk2) (.slice ta3 e3 tk3) (.slice ta4 e4 tk4) (.slice ta5 e5 tk5) G O Z) := N3.out.keep ba
          have OW4 : Hid (∀ k, OwnV (.slice ta0 e0 tk0) (.slice ta1 e1 tk1) (.slice ta2 e2 tk2) (.slice ta3 e3 tk3) (.slice ta4 e4 tk4) (.slice ta5 e5 tk5) k → W.heap.size ≤ k ∧ k < v4.heap.size) := fun k e => ⟨(OW3.out k e).1, Nat.lt_of_lt_of_le (OW3.out k e).2 (Below.size ba)⟩
          clear ba
          obtain ⟨s9, hs9⟩ : ∃ x, v3.heap.size = x := ⟨_, rfl⟩
          rw [hs9] at RR ZS NE ⊢
          clear hs9
          have R4 : Hid (Vb v4 s9 #[.int .i64 0, .slice none 0 0, .int .i64 0, .slice none 0 0, .bool false, .bool false, .bool false, .int .i64 0, .slice none 0 0, .slice none 0 0, .slice none 0 0, .slice none 0 0] 40) := RR.out
          clear RR
          refine hK.out _ _ S4.out (fun _ => ?_)
          clear hK K
          refine wpAnyH_ready (rs := [7]) (by kernel_rfl) (by simp) ?_
          refine AllReadyH.cons rfl (fun K hK => ?_) AllReadyH.nil
          rw [if_pos (by rfl)]
          refine wp_store_mid 40 (.tmp 15) (.tmp 84) rfl s9 0 #[.int .i64 C, .slice ta0 e0 tk0, .int .i64 G.pc, .slice ta1 e1 tk1, .bool G.halted, .bool G.waiting, .bool G.rung, .int .i64 G.done, .slice ta2 e2 tk2, .slice ta3 e3 tk3, .slice ta4 e4 tk4, .slice ta5 e5 tk5] rfl rfl (R4.out.there 12 (by decide)) (by kernel_rfl) (by simp [Value.oneCell']) ?_
          change K (Act.put _ none undef) _
          simp only [Act.put]
          have TW : Hid (Vb (v4.setCells s9 0 #[.int .i64 C, .slice ta0 e0 tk0, .int .i64 G.pc, .slice ta1 e1 tk1, .bool G.halted, .bool G.waiting, .bool G.rung, .int .i64 G.done, .slice ta2 e2 tk2, .slice ta3 e3 tk3, .slice ta4 e4 tk4, .slice ta5 e5 tk5].toList) s9 #[.int .i64 C, .slice ta0 e0 tk0, .int .i64 G.pc, .slice ta1 e1 tk1, .bool G.halted, .bool G.waiting, .bool G.rung, .int .i64 G.done, .slice ta2 e2 tk2, .slice ta3 e3 tk3, .slice ta4 e4 tk4, .slice ta5 e5 tk5] 40 ∧ Mq (fun k => k = s9) v4 (v4.setCells s9 0 #[.int .i64 C, .slice ta0 e0 tk0, .int .i64 G.pc, .slice ta1 e1 tk1, .bool G.halted, .bool G.waiting, .bool G.rung, .int .i64 G.done, .slice ta2 e2 tk2, .slice ta3 e3 tk3, .slice ta4 e4 tk4, .slice ta5 e5 tk5].toList)) := twelveV R4.out (.int .i64 C) (.slice ta0 e0 tk0) (.int .i64 G.pc) (.slice ta1 e1 tk1) (.bool G.halted) (.bool G.waiting) (.bool G.rung) (.int .i64 G.done) (.slice ta2 e2 tk2) (.slice ta3 e3 tk3) (.slice ta4 e4 tk4) (.slice ta5 e5 tk5)
          generalize (v4.setCells s9 0 #[.int .i64 C, .slice ta0 e0 tk0, .int .i64 G.pc, .slice ta1 e1 tk1, .bool G.halted, .bool G.waiting, .bool G.rung, .int .i64 G.done, .slice ta2 e2 tk2, .slice ta3 e3 tk3, .slice ta4 e4 tk4, .slice ta5 e5 tk5].toList) = V at *
          have VB : Hid (Below W.heap.size W V) := Mq.under S4.out TW.out.2 fun k e => by have := ZS.out; omega
          have VD : Hid (Below t3.heap.size t3 V) := Mq.under D4.out TW.out.2 fun k e => by have := ZS.out; omega
          have VN : Hid (Vm V _ (.slice ta0 e0 tk0) (.slice ta1 e1 tk1) (.slice ta2 e2 tk2) (.slice ta3 e3 tk3) (.slice ta4 e4 tk4) (.slice ta5 e5 tk5) G O Z) := vm_mqv N4.out TW.out.2 fun k e f => NE.out k e f
          have VL : Hid (∀ k, OwnV (.slice ta0 e0 tk0) (.slice ta1 e1 tk1) (.slice ta2 e2 tk2) (.slice ta3 e3 tk3) (.slice ta4 e4 tk4) (.slice ta5 e5 tk5) k → W.heap.size ≤ k ∧ k < V.heap.size ∧ k ≠ s9) := fun k e => ⟨(OW4.out k e).1, Nat.lt_of_lt_of_le (OW4.out k e).2 TW.out.2.size, NE.out k e⟩
          refine hK.out _ _ VB.out (fun _ => ?_)
          clear hK K
          refine wpAnyH_done (by kernel_rfl) ?_ _
          go_wp2_with fail
          go_meet
          exact ⟨s9, _, ta0, ta1, ta2, ta3, ta4, ta5, tk0, tk1, tk2, tk3, tk4, tk5, rfl, VB.out, VD.out, TW.out.1, VN.out, VL.out, TW.out.1.lt, ZS.out.1⟩
        · skip
          rw [if_pos (by rfl)]
          go_simp
          have ba : Below v2.heap.size v2 (v2.alloc (.cells #[.int .i64 0, .slice none 0 0, .int .i64 0, .slice none 0 0, .bool false, .bool false, .bool false, .int .i64 0, .slice none 0 0, .slice none 0 0, .slice none 0 0, .slice none 0 0] 40)) := al (Below.refl _ _) _
          have RR : Hid (Vb (v2.alloc (.cells #[.int .i64 0, .slice none 0 0, .int .i64 0, .slice none 0 0, .bool false, .bool false, .bool false, .int .i64 0, .slice none 0 0, .slice none 0 0, .slice none 0 0, .slice none 0 0] 40)) v2.heap.size #[.int .i64 0, .slice none 0 0, .int .i64 0, .slice none 0 0, .bool false, .bool false, .bool false, .int .i64 0, .slice none 0 0, .slice none 0 0, .slice none 0 0, .slice none 0 0] 40) := Vb.new _ _ _
          have ZS : Hid (W.heap.size ≤ v2.heap.size ∧ t3.heap.size ≤ v2.heap.size) := ⟨S2.out.size, D2.out.size⟩
          generalize (v2.alloc (.cells #[.int .i64 0, .slice none 0 0, .int .i64 0, .slice none 0 0, .bool false, .bool false, .bool false, .int .i64 0, .slice none 0 0, .slice none 0 0, .slice none 0 0, .slice none 0 0] 40)) = v3 at *
          have S3 : Hid (Below W.heap.size W v3) := on S2.out ba
          have D3 : Hid (Below t3.heap.size t3 v3) := on D2.out ba
          have M3 : Hid (Mde v3 _ g0 g1 g2 g3 n0 n1 n2 n3 P) := M2.out.keep ba
          have X3 : Hid (Sm v3 _ r2 d2 i2 o2 l2 m2' H ps zs) := X2.out.keep ba
          clear ba
          obtain ⟨s9, hs9⟩ : ∃ x, v2.heap.size = x := ⟨_, rfl⟩
          rw [hs9] at RR ZS ⊢
          clear hs9
          have R3 : Hid (Vb v3 s9 #[.int .i64 0, .slice none 0 0, .int .i64 0, .slice none 0 0, .bool false, .bool false, .bool false, .int .i64 0, .slice none 0 0, .slice none 0 0, .slice none 0 0, .slice none 0 0] 40) := RR.out
          clear RR
          refine hK.out _ _ S3.out (fun _ => ?_)
          clear hK K
          refine wpAnyH_ready (rs := [5]) (by kernel_rfl) (by simp) ?_
          refine AllReadyH.cons rfl (fun K hK => ?_) AllReadyH.nil
          rw [if_pos (by rfl)]
          go_simp
          have CALL := i_soloView _ _ _ _ _ _ _ _ _ _ _ _ P _ _ _ _ _ _ H ps zs gu _ _ M3.out.pl X3.out PL.out (cell_keep S3.out HG.out)
          rw [HCZ.out.1, HCZ.out.2.1, HCZ.out.2.2.1, HCZ.out.2.2.2] at CALL
          refine CALL.mono ?_
          clear CALL
          rintro e v4 ⟨_, _, _, _, _, _, rfl, sp, b3⟩
          obtain ⟨ta0, tk0, f0, _⟩ := sp.h.r.shape
          obtain ⟨ta1, tk1, f1, _⟩ := sp.h.c.shape
          obtain ⟨ta2, tk2, f2, _⟩ := sp.h.i.shape
          obtain ⟨ta3, tk3, f3, _⟩ := sp.h.o.shape
          obtain ⟨ta4, tk4, f4, _⟩ := sp.pl.shape
          obtain ⟨ta5, tk5, f5, _⟩ := sp.mm.shape
          subst f0 f1 f2 f3 f4 f5
          rw [LY.out.1, LY.out.2.1, LY.out.2.2.1, LY.out.2.2.2.1, LY.out.2.2.2.2.1, LY.out.2.2.2.2.2] at sp ⊢
          have S4 : Hid (Below W.heap.size W v4) := on S3.out b3
          have D4 : Hid (Below t3.heap.size t3 v4) := on D3.out b3
          have M4 : Hid (Mde v4 _ g0 g1 g2 g3 n0 n1 n2 n3 P) := M3.out.keep b3
          have X4 : Hid (Sm v4 _ r2 d2 i2 o2 l2 m2' H ps zs) := X3.out.keep b3
          have R4 : Hid (Vb v4 s9 #[.int .i64 0, .slice none 0 0, .int .i64 0, .slice none 0 0, .bool false, .bool false, .bool false, .int .i64 0, .slice none 0 0, .slice none 0 0, .slice none 0 0, .slice none 0 0] 40) := R3.out.keep b3
          have N4 : Hid (Vm v4 v3.heap.size (.slice ta0 e0 tk0) (.slice ta1 e1 tk1) (.slice ta2 e2 tk2) (.slice ta3 e3 tk3) (.slice ta4 e4 tk4) (.slice ta5 e5 tk5) G O Z) := sp
          have OW4 : Hid (∀ k, OwnV (.slice ta0 e0 tk0) (.slice ta1 e1 tk1) (.slice ta2 e2 tk2) (.slice ta3 e3 tk3) (.slice ta4 e4 tk4) (.slice ta5 e5 tk5) k → W.heap.size ≤ k ∧ k < v4.heap.size) := fun k e => ⟨Nat.le_trans S3.out.size (vm_own sp k e).1, (vm_own sp k e).2⟩
          have NE : Hid (∀ k, OwnV (.slice ta0 e0 tk0) (.slice ta1 e1 tk1) (.slice ta2 e2 tk2) (.slice ta3 e3 tk3) (.slice ta4 e4 tk4) (.slice ta5 e5 tk5) k → k ≠ s9) := fun k e f => by have := (vm_own sp k e).1; have := R3.out.lt; omega
          clear sp b3
          refine hK.out _ _ S4.out (fun _ => ?_)
          clear hK K
          refine wpAnyH_ready (rs := [7]) (by kernel_rfl) (by simp) ?_
          refine AllReadyH.cons rfl (fun K hK => ?_) AllReadyH.nil
          rw [if_pos (by rfl)]
          refine wp_store_mid 40 (.tmp 15) (.tmp 84) rfl s9 0 #[.int .i64 C, .slice ta0 e0 tk0, .int .i64 G.pc, .slice ta1 e1 tk1, .bool G.halted, .bool G.waiting, .bool G.rung, .int .i64 G.done, .slice ta2 e2 tk2, .slice ta3 e3 tk3, .slice ta4 e4 tk4, .slice ta5 e5 tk5] rfl rfl (R4.out.there 12 (by decide)) (by kernel_rfl) (by simp [Value.oneCell']) ?_
          change K (Act.put _ none undef) _
          simp only [Act.put]
          have TW : Hid (Vb (v4.setCells s9 0 #[.int .i64 C, .slice ta0 e0 tk0, .int .i64 G.pc, .slice ta1 e1 tk1, .bool G.halted, .bool G.waiting, .bool G.rung, .int .i64 G.done, .slice ta2 e2 tk2, .slice ta3 e3 tk3, .slice ta4 e4 tk4, .slice ta5 e5 tk5].toList) s9 #[.int .i64 C, .slice ta0 e0 tk0, .int .i64 G.pc, .slice ta1 e1 tk1, .bool G.halted, .bool G.waiting, .bool G.rung, .int .i64 G.done, .slice ta2 e2 tk2, .slice ta3 e3 tk3, .slice ta4 e4 tk4, .slice ta5 e5 tk5] 40 ∧ Mq (fun k => k = s9) v4 (v4.setCells s9 0 #[.int .i64 C, .slice ta0 e0 tk0, .int .i64 G.pc, .slice ta1 e1 tk1, .bool G.halted, .bool G.waiting, .bool G.rung, .int .i64 G.done, .slice ta2 e2 tk2, .slice ta3 e3 tk3, .slice ta4 e4 tk4, .slice ta5 e5 tk5].toList)) := twelveV R4.out (.int .i64 C) (.slice ta0 e0 tk0) (.int .i64 G.pc) (.slice ta1 e1 tk1) (.bool G.halted) (.bool G.waiting) (.bool G.rung) (.int .i64 G.done) (.slice ta2 e2 tk2) (.slice ta3 e3 tk3) (.slice ta4 e4 tk4) (.slice ta5 e5 tk5)
          generalize (v4.setCells s9 0 #[.int .i64 C, .slice ta0 e0 tk0, .int .i64 G.pc, .slice ta1 e1 tk1, .bool G.halted, .bool G.waiting, .bool G.rung, .int .i64 G.done, .slice ta2 e2 tk2, .slice ta3 e3 tk3, .slice ta4 e4 tk4, .slice ta5 e5 tk5].toList) = V at *
          have VB : Hid (Below W.heap.size W V) := Mq.under S4.out TW.out.2 fun k e => by have := ZS.out; omega
          have VD : Hid (Below t3.heap.size t3 V) := Mq.under D4.out TW.out.2 fun k e => by have := ZS.out; omega
          have VN : Hid (Vm V _ (.slice ta0 e0 tk0) (.slice ta1 e1 tk1) (.slice ta2 e2 tk2) (.slice ta3 e3 tk3) (.slice ta4 e4 tk4) (.slice ta5 e5 tk5) G O Z) := vm_mqv N4.out TW.out.2 fun k e f => NE.out k e f
          have VL : Hid (∀ k, OwnV (.slice ta0 e0 tk0) (.slice ta1 e1 tk1) (.slice ta2 e2 tk2) (.slice ta3 e3 tk3) (.slice ta4 e4 tk4) (.slice ta5 e5 tk5) k → W.heap.size ≤ k ∧ k < V.heap.size ∧ k ≠ s9) := fun k e => ⟨(OW4.out k e).1, Nat.lt_of_lt_of_le (OW4.out k e).2 TW.out.2.size, NE.out k e⟩
          refine hK.out _ _ VB.out (fun _ => ?_)
          clear hK K
          refine wpAnyH_done (by kernel_rfl) ?_ _
          go_wp2_with fail
          go_meet
          exact ⟨s9, _, ta0, ta1, ta2, ta3, ta4, ta5, tk0, tk1, tk2, tk3, tk4, tk5, rfl, VB.out, VD.out, TW.out.1, VN.out, VL.out, TW.out.1.lt, ZS.out.1⟩
      · skip
        rw [if_pos (by rfl)]
        go_simp
        have ba : Below v1.heap.size v1 (v1.alloc (.cells #[.int .i64 0, .slice none 0 0, .int .i64 0, .slice none 0 0, .bool false, .bool false, .bool false, .int .i64 0, .slice none 0 0, .slice none 0 0, .slice none 0 0, .slice none 0 0] 40)) := al (Below.refl _ _) _
        have RR : Hid (Vb (v1.alloc (.cells #[.int .i64 0, .slice none 0 0, .int .i64 0, .slice none 0 0, .bool false, .bool false, .bool false, .int .i64 0, .slice none 0 0, .slice none 0 0, .slice none 0 0, .slice none 0 0] 40)) v1.heap.size #[.int .i64 0, .slice none 0 0, .int .i64 0, .slice none 0 0, .bool false, .bool false, .bool false, .int .i64 0, .slice none 0 0, .slice none 0 0, .slice none 0 0, .slice none 0 0] 40) := Vb.new _ _ _
        have ZS : Hid (W.heap.size ≤ v1.heap.size ∧ t3.heap.size ≤ v1.heap.size) := ⟨S1.out.size, D1.out.size⟩
        generalize (v1.alloc (.cells #[.int .i64 0, .slice none 0 0, .int .i64 0, .slice none 0 0, .bool false, .bool false, .bool false, .int .i64 0, .slice none 0 0, .slice none 0 0, .slice none 0 0, .slice none 0 0] 40)) = v2 at *
        have S2 : Hid (Below W.heap.size W v2) := on S1.out ba
        have D2 : Hid (Below t3.heap.size t3 v2) := on D1.out ba
        have M2 : Hid (Mde v2 _ g0 g1 g2 g3 n0 n1 n2 n3 P) := M1.out.keep ba
        clear ba
        obtain ⟨s9, hs9⟩ : ∃ x, v1.heap.size = x := ⟨_, rfl⟩
        rw [hs9] at RR ZS ⊢
        clear hs9
        have R2 : Hid (Vb v2 s9 #[.int .i64 0, .slice none 0 0, .int .i64 0, .slice none 0 0, .bool false, .bool false, .bool false, .int .i64 0, .slice none 0 0, .slice none 0 0, .slice none 0 0, .slice none 0 0] 40) := RR.out
        clear RR
        refine hK.out _ _ S2.out (fun _ => ?_)
        clear hK K
        refine wpAnyH_ready (rs := [3]) (by kernel_rfl) (by simp) ?_
        refine AllReadyH.cons rfl (fun K hK => ?_) AllReadyH.nil
        rw [if_pos (by rfl)]
        go_simp
        refine (to_solo _ _ _ _ _ _ _ _ _ _ _ _ H _ _ _ ps _ _ _ zs _ (HI.out.1.stay S2.out) (HI.out.2.1.stay S2.out) (HI.out.2.2.stay S2.out) SM.out.1 SM.out.2.1 SM.out.2.2).mono ?_
        rintro e v3 ⟨r2, d2, i2, o2, l2, m2', rfl, s2, b2⟩
        have S3 : Hid (Below W.heap.size W v3) := on S2.out b2
        have D3 : Hid (Below t3.heap.size t3 v3) := on D2.out b2
        have M3 : Hid (Mde v3 _ g0 g1 g2 g3 n0 n1 n2 n3 P) := M2.out.keep b2
        have R3 : Hid (Vb v3 s9 #[.int .i64 0, .slice none 0 0, .int .i64 0, .slice none 0 0, .bool false, .bool false, .bool false, .int .i64 0, .slice none 0 0, .slice none 0 0, .slice none 0 0, .slice none 0 0] 40) := R2.out.keep b2
        have X3 : Hid (Sm v3 _ r2 d2 i2 o2 l2 m2' H ps zs) := s2
        clear s2 b2
        refine hK.out _ _ S3.out (fun _ => ?_)
        clear hK K
        refine wpAnyH_ready (rs := [5]) (by kernel_rfl) (by simp) ?_
        refine AllReadyH.cons rfl (fun K hK => ?_) AllReadyH.nil
        rw [if_pos (by rfl)]
        go_simp
        have CALL := i_soloView _ _ _ _ _ _ _ _ _ _ _ _ P _ _ _ _ _ _ H ps zs gu _ _ M3.out.pl X3.out PL.out (cell_keep S3.out HG.out)
        rw [HCZ.out.1, HCZ.out.2.1, HCZ.out.2.2.1, HCZ.out.2.2.2] at CALL
        refine CALL.mono ?_
        clear CALL
        rintro e v4 ⟨_, _, _, _, _, _, rfl, sp, b3⟩
        obtain ⟨ta0, tk0, f0, _⟩ := sp.h.r.shape
        obtain ⟨ta1, tk1, f1, _⟩ := sp.h.c.shape
        obtain ⟨ta2, tk2, f2, _⟩ := sp.h.i.shape
        obtain ⟨ta3, tk3, f3, _⟩ := sp.h.o.shape
        obtain ⟨ta4, tk4, f4, _⟩ := sp.pl.shape
        obtain ⟨ta5, tk5, f5, _⟩ := sp.mm.shape
        subst f0 f1 f2 f3 f4 f5
        rw [LY.out.1, LY.out.2.1, LY.out.2.2.1, LY.out.2.2.2.1, LY.out.2.2.2.2.1, LY.out.2.2.2.2.2] at sp ⊢
        have S4 : Hid (Below W.heap.size W v4) := on S3.out b3
        have D4 : Hid (Below t3.heap.size t3 v4) := on D3.out b3
        have M4 : Hid (Mde v4 _ g0 g1 g2 g3 n0 n1 n2 n3 P) := M3.out.keep b3
        have X4 : Hid (Sm v4 _ r2 d2 i2 o2 l2 m2' H ps zs) := X3.out.keep b3
        have R4 : Hid (Vb v4 s9 #[.int .i64 0, .slice none 0 0, .int .i64 0, .slice none 0 0, .bool false, .bool false, .bool false, .int .i64 0, .slice none 0 0, .slice none 0 0, .slice none 0 0, .slice none 0 0] 40) := R3.out.keep b3
        have N4 : Hid (Vm v4 v3.heap.size (.slice ta0 e0 tk0) (.slice ta1 e1 tk1) (.slice ta2 e2 tk2) (.slice ta3 e3 tk3) (.slice ta4 e4 tk4) (.slice ta5 e5 tk5) G O Z) := sp
        have OW4 : Hid (∀ k, OwnV (.slice ta0 e0 tk0) (.slice ta1 e1 tk1) (.slice ta2 e2 tk2) (.slice ta3 e3 tk3) (.slice ta4 e4 tk4) (.slice ta5 e5 tk5) k → W.heap.size ≤ k ∧ k < v4.heap.size) := fun k e => ⟨Nat.le_trans S3.out.size (vm_own sp k e).1, (vm_own sp k e).2⟩
        have NE : Hid (∀ k, OwnV (.slice ta0 e0 tk0) (.slice ta1 e1 tk1) (.slice ta2 e2 tk2) (.slice ta3 e3 tk3) (.slice ta4 e4 tk4) (.slice ta5 e5 tk5) k → k ≠ s9) := fun k e f => by have := (vm_own sp k e).1; have := R3.out.lt; omega
        clear sp b3
        refine hK.out _ _ S4.out (fun _ => ?_)
        clear hK K
        refine wpAnyH_ready (rs := [7]) (by kernel_rfl) (by simp) ?_
        refine AllReadyH.cons rfl (fun K hK => ?_) AllReadyH.nil
        rw [if_pos (by rfl)]
        refine wp_store_mid 40 (.tmp 15) (.tmp 84) rfl s9 0 #[.int .i64 C, .slice ta0 e0 tk0, .int .i64 G.pc, .slice ta1 e1 tk1, .bool G.halted, .bool G.waiting, .bool G.rung, .int .i64 G.done, .slice ta2 e2 tk2, .slice ta3 e3 tk3, .slice ta4 e4 tk4, .slice ta5 e5 tk5] rfl rfl (R4.out.there 12 (by decide)) (by kernel_rfl) (by simp [Value.oneCell']) ?_
        change K (Act.put _ none undef) _
        simp only [Act.put]
        have TW : Hid (Vb (v4.setCells s9 0 #[.int .i64 C, .slice ta0 e0 tk0, .int .i64 G.pc, .slice ta1 e1 tk1, .bool G.halted, .bool G.waiting, .bool G.rung, .int .i64 G.done, .slice ta2 e2 tk2, .slice ta3 e3 tk3, .slice ta4 e4 tk4, .slice ta5 e5 tk5].toList) s9 #[.int .i64 C, .slice ta0 e0 tk0, .int .i64 G.pc, .slice ta1 e1 tk1, .bool G.halted, .bool G.waiting, .bool G.rung, .int .i64 G.done, .slice ta2 e2 tk2, .slice ta3 e3 tk3, .slice ta4 e4 tk4, .slice ta5 e5 tk5] 40 ∧ Mq (fun k => k = s9) v4 (v4.setCells s9 0 #[.int .i64 C, .slice ta0 e0 tk0, .int .i64 G.pc, .slice ta1 e1 tk1, .bool G.halted, .bool G.waiting, .bool G.rung, .int .i64 G.done, .slice ta2 e2 tk2, .slice ta3 e3 tk3, .slice ta4 e4 tk4, .slice ta5 e5 tk5].toList)) := twelveV R4.out (.int .i64 C) (.slice ta0 e0 tk0) (.int .i64 G.pc) (.slice ta1 e1 tk1) (.bool G.halted) (.bool G.waiting) (.bool G.rung) (.int .i64 G.done) (.slice ta2 e2 tk2) (.slice ta3 e3 tk3) (.slice ta4 e4 tk4) (.slice ta5 e5 tk5)
        generalize (v4.setCells s9 0 #[.int .i64 C, .slice ta0 e0 tk0, .int .i64 G.pc, .slice ta1 e1 tk1, .bool G.halted, .bool G.waiting, .bool G.rung, .int .i64 G.done, .slice ta2 e2 tk2, .slice ta3 e3 tk3, .slice ta4 e4 tk4, .slice ta5 e5 tk5].toList) = V at *
        have VB : Hid (Below W.heap.size W V) := Mq.under S4.out TW.out.2 fun k e => by have := ZS.out; omega
        have VD : Hid (Below t3.heap.size t3 V) := Mq.under D4.out TW.out.2 fun k e => by have := ZS.out; omega
        have VN : Hid (Vm V _ (.slice ta0 e0 tk0) (.slice ta1 e1 tk1) (.slice ta2 e2 tk2) (.slice ta3 e3 tk3) (.slice ta4 e4 tk4) (.slice ta5 e5 tk5) G O Z) := vm_mqv N4.out TW.out.2 fun k e f => NE.out k e f
        have VL : Hid (∀ k, OwnV (.slice ta0 e0 tk0) (.slice ta1 e1 tk1) (.slice ta2 e2 tk2) (.slice ta3 e3 tk3) (.slice ta4 e4 tk4) (.slice ta5 e5 tk5) k → W.heap.size ≤ k ∧ k < V.heap.size ∧ k ≠ s9) := fun k e => ⟨(OW4.out k e).1, Nat.lt_of_lt_of_le (OW4.out k e).2 TW.out.2.size, NE.out k e⟩
        refine hK.out _ _ VB.out (fun _ => ?_)
        clear hK K
        refine wpAnyH_done (by kernel_rfl) ?_ _
        go_wp2_with fail
        go_meet
        exact ⟨s9, _, ta0, ta1, ta2, ta3, ta4, ta5, tk0, tk1, tk2, tk3, tk4, tk5, rfl, VB.out, VD.out, TW.out.1, VN.out, VL.out, TW.out.1.lt, ZS.out.1⟩
    · skip
      rw [if_pos (by rfl)]
      go_simp
      have ba : Below v0.heap.size v0 (v0.alloc (.cells #[.int .i64 0, .slice none 0 0, .int .i64 0, .slice none 0 0, .bool false, .bool false, .bool false, .int .i64 0, .slice none 0 0, .slice none 0 0, .slice none 0 0, .slice none 0 0] 40)) := al (Below.refl _ _) _
      have RR : Hid (Vb (v0.alloc (.cells #[.int .i64 0, .slice none 0 0, .int .i64 0, .slice none 0 0, .bool false, .bool false, .bool false, .int .i64 0, .slice none 0 0, .slice none 0 0, .slice none 0 0, .slice none 0 0] 40)) v0.heap.size #[.int .i64 0, .slice none 0 0, .int .i64 0, .slice none 0 0, .bool false, .bool false, .bool false, .int .i64 0, .slice none 0 0, .slice none 0 0, .slice none 0 0, .slice none 0 0] 40) := Vb.new _ _ _
      have ZS : Hid (W.heap.size ≤ v0.heap.size ∧ t3.heap.size ≤ v0.heap.size) := ⟨S0.out.size, D0.out.size⟩
      generalize (v0.alloc (.cells #[.int .i64 0, .slice none 0 0, .int .i64 0, .slice none 0 0, .bool false, .bool false, .bool false, .int .i64 0, .slice none 0 0, .slice none 0 0, .slice none 0 0, .slice none 0 0] 40)) = v1 at *
      have S1 : Hid (Below W.heap.size W v1) := on S0.out ba
      have D1 : Hid (Below t3.heap.size t3 v1) := on D0.out ba
      clear ba
      obtain ⟨s9, hs9⟩ : ∃ x, v0.heap.size = x := ⟨_, rfl⟩
      rw [hs9] at RR ZS ⊢
      clear hs9
      have R1 : Hid (Vb v1 s9 #[.int .i64 0, .slice none 0 0, .int .i64 0, .slice none 0 0, .bool false, .bool false, .bool false, .int .i64 0, .slice none 0 0, .slice none 0 0, .slice none 0 0, .slice none 0 0] 40) := RR.out
      clear RR
      refine hK.out _ _ S1.out (fun _ => ?_)
      clear hK K
      refine wpAnyH_ready (rs := [1]) (by kernel_rfl) (by simp) ?_
      refine AllReadyH.cons rfl (fun K hK => ?_) AllReadyH.nil
      rw [if_pos (by rfl)]
      go_simp
      refine (to_policy _ _ _ _ _ _ _ _ _ _ _ _ P _ (HQ.out.stay S1.out) SP.out).mono ?_
      rintro e v2 ⟨g0, g1, g2, g3, rfl, pm, pb⟩
      have S2 : Hid (Below W.heap.size W v2) := on S1.out pb
      have D2 : Hid (Below t3.heap.size t3 v2) := on D1.out pb
      have R2 : Hid (Vb v2 s9 #[.int .i64 0, .slice none 0 0, .int .i64 0, .slice none 0 0, .bool false, .bool false, .bool false, .int .i64 0, .slice none 0 0, .slice none 0 0, .slice none 0 0, .slice none 0 0] 40) := R1.out.keep pb
      have M2 : Hid (Mde v2 _ g0 g1 g2 g3 n0 n1 n2 n3 P) := pm
      clear pm pb
      refine hK.out _ _ S2.out (fun _ => ?_)
      clear hK K
      refine wpAnyH_ready (rs := [3]) (by kernel_rfl) (by simp) ?_
      refine AllReadyH.cons rfl (fun K hK => ?_) AllReadyH.nil
      rw [if_pos (by rfl)]
      go_simp
      refine (to_solo _ _ _ _ _ _ _ _ _ _ _ _ H _ _ _ ps _ _ _ zs _ (HI.out.1.stay S2.out) (HI.out.2.1.stay S2.out) (HI.out.2.2.stay S2.out) SM.out.1 SM.out.2.1 SM.out.2.2).mono ?_
      rintro e v3 ⟨r2, d2, i2, o2, l2, m2', rfl, s2, b2⟩
      have S3 : Hid (Below W.heap.size W v3) := on S2.out b2
      have D3 : Hid (Below t3.heap.size t3 v3) := on D2.out b2
      have M3 : Hid (Mde v3 _ g0 g1 g2 g3 n0 n1 n2 n3 P) := M2.out.keep b2
      have R3 : Hid (Vb v3 s9 #[.int .i64 0, .slice none 0 0, .int .i64 0, .slice none 0 0, .bool false, .bool false, .bool false, .int .i64 0, .slice none 0 0, .slice none 0 0, .slice none 0 0, .slice none 0 0] 40) := R2.out.keep b2
      have X3 : Hid (Sm v3 _ r2 d2 i2 o2 l2 m2' H ps zs) := s2
      clear s2 b2
      refine hK.out _ _ S3.out (fun _ => ?_)
      clear hK K
      refine wpAnyH_ready (rs := [5]) (by kernel_rfl) (by simp) ?_
      refine AllReadyH.cons rfl (fun K hK => ?_) AllReadyH.nil
      rw [if_pos (by rfl)]
      go_simp
      have CALL := i_soloView _ _ _ _ _ _ _ _ _ _ _ _ P _ _ _ _ _ _ H ps zs gu _ _ M3.out.pl X3.out PL.out (cell_keep S3.out HG.out)
      rw [HCZ.out.1, HCZ.out.2.1, HCZ.out.2.2.1, HCZ.out.2.2.2] at CALL
      refine CALL.mono ?_
      clear CALL
      rintro e v4 ⟨_, _, _, _, _, _, rfl, sp, b3⟩
      obtain ⟨ta0, tk0, f0, _⟩ := sp.h.r.shape
      obtain ⟨ta1, tk1, f1, _⟩ := sp.h.c.shape
      obtain ⟨ta2, tk2, f2, _⟩ := sp.h.i.shape
      obtain ⟨ta3, tk3, f3, _⟩ := sp.h.o.shape
      obtain ⟨ta4, tk4, f4, _⟩ := sp.pl.shape
      obtain ⟨ta5, tk5, f5, _⟩ := sp.mm.shape
      subst f0 f1 f2 f3 f4 f5
      rw [LY.out.1, LY.out.2.1, LY.out.2.2.1, LY.out.2.2.2.1, LY.out.2.2.2.2.1, LY.out.2.2.2.2.2] at sp ⊢
      have S4 : Hid (Below W.heap.size W v4) := on S3.out b3
      have D4 : Hid (Below t3.heap.size t3 v4) := on D3.out b3
      have M4 : Hid (Mde v4 _ g0 g1 g2 g3 n0 n1 n2 n3 P) := M3.out.keep b3
      have X4 : Hid (Sm v4 _ r2 d2 i2 o2 l2 m2' H ps zs) := X3.out.keep b3
      have R4 : Hid (Vb v4 s9 #[.int .i64 0, .slice none 0 0, .int .i64 0, .slice none 0 0, .bool false, .bool false, .bool false, .int .i64 0, .slice none 0 0, .slice none 0 0, .slice none 0 0, .slice none 0 0] 40) := R3.out.keep b3
      have N4 : Hid (Vm v4 v3.heap.size (.slice ta0 e0 tk0) (.slice ta1 e1 tk1) (.slice ta2 e2 tk2) (.slice ta3 e3 tk3) (.slice ta4 e4 tk4) (.slice ta5 e5 tk5) G O Z) := sp
      have OW4 : Hid (∀ k, OwnV (.slice ta0 e0 tk0) (.slice ta1 e1 tk1) (.slice ta2 e2 tk2) (.slice ta3 e3 tk3) (.slice ta4 e4 tk4) (.slice ta5 e5 tk5) k → W.heap.size ≤ k ∧ k < v4.heap.size) := fun k e => ⟨Nat.le_trans S3.out.size (vm_own sp k e).1, (vm_own sp k e).2⟩
      have NE : Hid (∀ k, OwnV (.slice ta0 e0 tk0) (.slice ta1 e1 tk1) (.slice ta2 e2 tk2) (.slice ta3 e3 tk3) (.slice ta4 e4 tk4) (.slice ta5 e5 tk5) k → k ≠ s9) := fun k e f => by have := (vm_own sp k e).1; have := R3.out.lt; omega
      clear sp b3
      refine hK.out _ _ S4.out (fun _ => ?_)
      clear hK K
      refine wpAnyH_ready (rs := [7]) (by kernel_rfl) (by simp) ?_
      refine AllReadyH.cons rfl (fun K hK => ?_) AllReadyH.nil
      rw [if_pos (by rfl)]
      refine wp_store_mid 40 (.tmp 15) (.tmp 84) rfl s9 0 #[.int .i64 C, .slice ta0 e0 tk0, .int .i64 G.pc, .slice ta1 e1 tk1, .bool G.halted, .bool G.waiting, .bool G.rung, .int .i64 G.done, .slice ta2 e2 tk2, .slice ta3 e3 tk3, .slice ta4 e4 tk4, .slice ta5 e5 tk5] rfl rfl (R4.out.there 12 (by decide)) (by kernel_rfl) (by simp [Value.oneCell']) ?_
      change K (Act.put _ none undef) _
      simp only [Act.put]
      have TW : Hid (Vb (v4.setCells s9 0 #[.int .i64 C, .slice ta0 e0 tk0, .int .i64 G.pc, .slice ta1 e1 tk1, .bool G.halted, .bool G.waiting, .bool G.rung, .int .i64 G.done, .slice ta2 e2 tk2, .slice ta3 e3 tk3, .slice ta4 e4 tk4, .slice ta5 e5 tk5].toList) s9 #[.int .i64 C, .slice ta0 e0 tk0, .int .i64 G.pc, .slice ta1 e1 tk1, .bool G.halted, .bool G.waiting, .bool G.rung, .int .i64 G.done, .slice ta2 e2 tk2, .slice ta3 e3 tk3, .slice ta4 e4 tk4, .slice ta5 e5 tk5] 40 ∧ Mq (fun k => k = s9) v4 (v4.setCells s9 0 #[.int .i64 C, .slice ta0 e0 tk0, .int .i64 G.pc, .slice ta1 e1 tk1, .bool G.halted, .bool G.waiting, .bool G.rung, .int .i64 G.done, .slice ta2 e2 tk2, .slice ta3 e3 tk3, .slice ta4 e4 tk4, .slice ta5 e5 tk5].toList)) := twelveV R4.out (.int .i64 C) (.slice ta0 e0 tk0) (.int .i64 G.pc) (.slice ta1 e1 tk1) (.bool G.halted) (.bool G.waiting) (.bool G.rung) (.int .i64 G.done) (.slice ta2 e2 tk2) (.slice ta3 e3 tk3) (.slice ta4 e4 tk4) (.slice ta5 e5 tk5)
      generalize (v4.setCells s9 0 #[.int .i64 C, .slice ta0 e0 tk0, .int .i64 G.pc, .slice ta1 e1 tk1, .bool G.halted, .bool G.waiting, .bool G.rung, .int .i64 G.done, .slice ta2 e2 tk2, .slice ta3 e3 tk3, .slice ta4 e4 tk4, .slice ta5 e5 tk5].toList) = V at *
      have VB : Hid (Below W.heap.size W V) := Mq.under S4.out TW.out.2 fun k e => by have := ZS.out; omega
      have VD : Hid (Below t3.heap.size t3 V) := Mq.under D4.out TW.out.2 fun k e => by have := ZS.out; omega
      have VN : Hid (Vm V _ (.slice ta0 e0 tk0) (.slice ta1 e1 tk1) (.slice ta2 e2 tk2) (.slice ta3 e3 tk3) (.slice ta4 e4 tk4) (.slice ta5 e5 tk5) G O Z) := vm_mqv N4.out TW.out.2 fun k e f => NE.out k e f
      have VL : Hid (∀ k, OwnV (.slice ta0 e0 tk0) (.slice ta1 e1 tk1) (.slice ta2 e2 tk2) (.slice ta3 e3 tk3) (.slice ta4 e4 tk4) (.slice ta5 e5 tk5) k → W.heap.size ≤ k ∧ k < V.heap.size ∧ k ≠ s9) := fun k e => ⟨(OW4.out k e).1, Nat.lt_of_lt_of_le (OW4.out k e).2 TW.out.2.size, NE.out k e⟩
      refine hK.out _ _ VB.out (fun _ => ?_)
      clear hK K
      refine wpAnyH_done (by kernel_rfl) ?_ _
      go_wp2_with fail
      go_meet
      exact ⟨s9, _, ta0, ta1, ta2, ta3, ta4, ta5, tk0, tk1, tk2, tk3, tk4, tk5, rfl, VB.out, VD.out, TW.out.1, VN.out, VL.out, TW.out.1.lt, ZS.out.1⟩
  case rest =>
  obtain ⟨s9, Fbn, ta0, ta1, ta2, ta3, ta4, ta5, tk0, tk1, tk2, tk3, tk4, tk5, rfl, x1, x2, x3, x4, x5, x6⟩ := hcut
  have FB : Hid (Below W.heap.size W wc) := x1
  have FD : Hid (Below t3.heap.size t3 wc) := x2
  have FY : Hid (Vb wc s9 #[.int .i64 C, .slice ta0 e0 tk0, .int .i64 G.pc, .slice ta1 e1 tk1, .bool G.halted, .bool G.waiting, .bool G.rung, .int .i64 G.done, .slice ta2 e2 tk2, .slice ta3 e3 tk3, .slice ta4 e4 tk4, .slice ta5 e5 tk5] 40) := x3
  have FN : Hid (Vm wc Fbn (.slice ta0 e0 tk0) (.slice ta1 e1 tk1) (.slice ta2 e2 tk2) (.slice ta3 e3 tk3) (.slice ta4 e4 tk4) (.slice ta5 e5 tk5) G O Z) := x4
  have FL : Hid (∀ k, OwnV (.slice ta0 e0 tk0) (.slice ta1 e1 tk1) (.slice ta2 e2 tk2) (.slice ta3 e3 tk3) (.slice ta4 e4 tk4) (.slice ta5 e5 tk5) k → W.heap.size ≤ k ∧ k < wc.heap.size ∧ k ≠ s9) := x5
  have FZ : Hid (s9 < wc.heap.size ∧ W.heap.size ≤ s9) := x6
  clear x1 x2 x3 x4 x5 x6
  generalize wc = V9 at *
  have Yt := Yt3.out.keep FD.out
  have Gt6 : Hid (Vb V9 s6 #[.int .i64 C, .slice za0 e0 zk0, .int .i64 G.pc, .slice za1 e1 zk1, .bool G.halted, .bool G.waiting, .bool G.rung, .int .i64 G.done, .slice za2 e2 zk2, .slice za3 e3 zk3, .slice za4 e4 zk4, .slice za5 e5 zk5] 40) := Gt3.out.keep FD.out
  have Nt6 : Hid (Vm V9 _ (.slice ya0 e0 yk0) (.slice ya1 e1 yk1) (.slice ya2 e2 yk2) (.slice ya3 e3 yk3) (.slice ya4 e4 yk4) (.slice ya5 e5 yk5) G O Z) := Nt3.out.keep FD.out
  have Ot6 : Hid (Vm V9 V5.heap.size (.slice za0 e0 zk0) (.slice za1 e1 zk1) (.slice za2 e2 zk2) (.slice za3 e3 zk3) (.slice za4 e4 zk4) (.slice za5 e5 zk5) (mkH 1 G) (marks (1 + totH G) O.length) (marks (1 + totH G + (O.length : Nat)) Z.length)) := Ot3.out.keep FD.out
  have y0 := Yt.cell 0 rfl
  have y1 := Yt.cell 1 rfl
  have y2 := Yt.cell 2 rfl
  have y3 := Yt.cell 3 rfl
  have y4 := Yt.cell 4 rfl
  have y5 := Yt.cell 5 rfl
  have y6 := Yt.cell 6 rfl
  have y7 := Yt.cell 7 rfl
  have y8 := Yt.cell 8 rfl
  have y9 := Yt.cell 9 rfl
  have y10 := Yt.cell 10 rfl
  have y11 := Yt.cell 11 rfl
  have g0 := FY.out.cell 0 rfl
  have g1 := FY.out.cell 1 rfl
  have g2 := FY.out.cell 2 rfl
  have g3 := FY.out.cell 3 rfl
  have g4 := FY.out.cell 4 rfl
  have g5 := FY.out.cell 5 rfl
  have g6 := FY.out.cell 6 rfl
  have g7 := FY.out.cell 7 rfl
  have g8 := FY.out.cell 8 rfl
  have g9 := FY.out.cell 9 rfl
  have g10 := FY.out.cell 10 rfl
  have g11 := FY.out.cell 11 rfl
  clear Yt Yt3 Gt3 Nt3 Ot3 Bt3
  go_wp2_with fail
  clear y0 y1 y2 y3 y4 y5 y6 y7 y8 y9 y10 y11 g0 g1 g2 g3 g4 g5 g6 g7 g8 g9 g10 g11
  refine (eq_vres _ _ _ _ _ _ _ _ _ _ _ _ _ G O Z _ _ _ FN.out.vq Nt6.out.vq).mono ?_
  rintro e t7 ⟨rfl, b8⟩
  have Bt7 : Hid (Below W.heap.size W t7) := on FB.out b8
  have Gt7 : Hid (Vb t7 s6 #[.int .i64 C, .slice za0 e0 zk0, .int .i64 G.pc, .slice za1 e1 zk1, .bool G.halted, .bool G.waiting, .bool G.rung, .int .i64 G.done, .slice za2 e2 zk2, .slice za3 e3 zk3, .slice za4 e4 zk4, .slice za5 e5 zk5] 40) := Gt6.out.keep b8
  have Ot7 : Hid (Vm t7 V5.heap.size (.slice za0 e0 zk0) (.slice za1 e1 zk1) (.slice za2 e2 zk2) (.slice za3 e3 zk3) (.slice za4 e4 zk4) (.slice za5 e5 zk5) (mkH 1 G) (marks (1 + totH G) O.length) (marks (1 + totH G + (O.length : Nat)) Z.length)) := Ot6.out.keep b8
  clear b8
  have g0 := Gt7.out.cell 0 rfl
  have g1 := Gt7.out.cell 1 rfl
  have g2 := Gt7.out.cell 2 rfl
  have g3 := Gt7.out.cell 3 rfl
  have g4 := Gt7.out.cell 4 rfl
  have g5 := Gt7.out.cell 5 rfl
  have g6 := Gt7.out.cell 6 rfl
  have g7 := Gt7.out.cell 7 rfl
  have g8 := Gt7.out.cell 8 rfl
  have g9 := Gt7.out.cell 9 rfl
  have g10 := Gt7.out.cell 10 rfl
  have g11 := Gt7.out.cell 11 rfl
  go_wp2_with fail
  clear g0 g1 g2 g3 g4 g5 g6 g7 g8 g9 g10 g11
  refine (held_vres _ _ _ _ _ _ _ G O.length Z.length 1 _ _ Ot7.out.h Ot7.out.pl Ot7.out.mm (by decide) TL.out).mono ?_
  rintro e t8 ⟨rfl, b8⟩
  rw [HTT.out]
  go_wp2_with fail
  go_ret
  exact ⟨rfl, on B0.out (on Bt7.out b8)⟩
end Go.Proofs.YtadkhognlapckaaGreatDoor.fnExactSoloViewDone
