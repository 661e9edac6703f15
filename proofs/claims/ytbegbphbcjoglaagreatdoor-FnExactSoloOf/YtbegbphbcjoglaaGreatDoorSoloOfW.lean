/- The walk of a law. -/
import Derived.Test.YtbegbphbcjoglaaGreatDoorCards
import Derived.Test.YtbegbphbcjoglaaGreatDoorTie
import Derived.Deep.DeepHandedRow
import Derived.LaidHandle
import Derived.LaidLaws
import Derived.Lib.LaidTab
import Derived.Stop.LaidErr
import Derived.Lib.SmallJoins
import Derived.Deep.RegionWith
import Derived.Deep.RegionHeld3
import Derived.Deep.Cut
import Derived.Deep.CutRange
import Derived.Test.YtbegbphbcjoglaaGreatDoorQ01
import Derived.Test.YtbegbphbcjoglaaGreatDoorQ15
import Derived.Test.YtbegbphbcjoglaaGreatDoorQ24
import Derived.Test.YtbegbphbcjoglaaGreatDoorQ30
import Derived.Test.YtbegbphbcjoglaaGreatDoorQ37
import Derived.Test.YtbegbphbcjoglaaGreatDoorQ49
import Derived.Test.YtbegbphbcjoglaaGreatDoorQ50
namespace Go.Proofs.YtbegbphbcjoglaaGreatDoor.fnExactSoloOfDone
open Go.ChangeShapes Go.WideShapes Go.ChangeAt Go.RowKit
open Go.ChangeMaps (open_string shut_string)
set_option linter.unusedVariables false

theorem sm_mqX {S : Nat → Prop} {w w' : World} {base : Nat} {r c i o l m : Value} {H : Ht} {ps : List (Int × Int)} {zs : List Int} (s : Sm w base r c i o l m H ps zs) (g : Mq S w w') (hn : ∀ k, OwnS r c i o l m k → ¬ S k) : Sm w' base r c i o l m H ps zs :=
  ⟨g.hm s.h fun k e => hn k (.inl e), s.a, s.pl.low' g fun k e => hn k (.inr (.inl e)), g.nums s.mm fun k e => hn k (.inr (.inr e)), s.rm, s.cm, s.im, s.om⟩
theorem sm_ownX {w : World} {base : Nat} {r c i o l m : Value} {H : Ht} {ps : List (Int × Int)} {zs : List Int} (s : Sm w base r c i o l m H ps zs) (k : Nat) (e : OwnS r c i o l m k) : base ≤ k ∧ k < w.heap.size := by
  rcases e with e | e | e
  · exact s.h.own k e
  · exact s.pl.lt k e
  · exact s.mm.lt k e
theorem mk_mqX {lo hi : Nat} {w w' : World} (m : Mk lo hi w w') : Mq (fun k => lo ≤ k ∧ k < hi) w w' := ⟨m.os, m.tape, m.output, m.size, fun k hk hn => m.block k hk (by have : ¬ (lo ≤ k ∧ k < hi) := hn; omega)⟩
theorem vo_widX {S T : Nat → Prop} {w w' : World} (m : Mq S w w') (h : ∀ k, S k → T k) : Mq T w w' := ⟨m.os, m.tape, m.output, m.size, fun k hk hn => m.block k hk fun e => hn (h k e)⟩
set_option maxRecDepth 20000 in
set_option maxHeartbeats 8000000 in
theorem walk (a0 a1 a2 a3 : Option Addr) (n0 c0 n1 c1 n2 c2 n3 c3 : Nat) (P : Plc) (gu : Int) (ima : Option Addr) (iml imc : Nat) (im : List Int) (inpa : Option Addr) (inpl inpc : Nat) (inp : List Int) (w : World) (h : Pin w a0 n0 c0 a1 n1 c1 a2 n2 c2 a3 n3 c3 P) (wgu : (Lit.int .i64 gu).wf = true) (him : IsRow .i64 w ima iml imc im) (hinp : IsRow .i64 w inpa inpl inpc inp) (hg : w.cell? ⟨0, 0, none⟩ = some (.iface 174 (.agg #[.pointer (some ⟨1, 143, none⟩)]))) :
    Calls Tryz.prog 3 #[.agg #[.slice a0 n0 c0, .slice a1 n1 c1, .slice a2 n2 c2, .slice a3 n3 c3], .int .i64 gu, .slice ima iml imc, .slice inpa inpl inpc] w fun e w' => e = .returned (.bool true) ∧ Below w.heap.size w w' := by
  generalize hW : w.alloc (.cells #[.slice a0 n0 c0, .slice a1 n1 c1, .slice a2 n2 c2, .slice a3 n3 c3] 27) = W
  have B0 : Hid (Below w.heap.size w W) := by show Below _ _ _; rw [← hW]; exact al (Below.refl _ _) _
  obtain ⟨s, hS⟩ : ∃ s, w.heap.size = s := ⟨_, rfl⟩
  have Q : Hid (Vb W s #[.slice a0 n0 c0, .slice a1 n1 c1, .slice a2 n2 c2, .slice a3 n3 c3] 27) := by show Vb _ _ _ _; rw [← hW, ← hS]; exact Vb.new _ _ _
  have HP : Hid (Pin W a0 n0 c0 a1 n1 c1 a2 n2 c2 a3 n3 c3 P) := h.stay B0.out
  have HG : Hid (W.cell? ⟨0, 0, none⟩ = some (.iface 174 (.agg #[.pointer (some ⟨1, 143, none⟩)]))) := cell_keep B0.out hg
  have HRim : Hid (IsRow .i64 W ima iml imc im) := him.stay B0.out
  have HLim : Hid (iml = im.length) := him.ln.1
  have hcim : (iml : Int) ≤ 9223372036854775807 := by have := him.ln.2; unfold maxLen at this; omega
  have HRinp : Hid (IsRow .i64 W inpa inpl inpc inp) := hinp.stay B0.out
  have HLinp : Hid (inpl = inp.length) := hinp.ln.1
  have hcinp : (inpl : Int) ≤ 9223372036854775807 := by have := hinp.ln.2; unfold maxLen at this; omega
  clear hg h wgu him hinp
  by_cases hbim : (1048576 : Int) < (iml : Int)
  · go_enter Tryz.func3, Tryz.ntmps3
    go_wp2_with fail
    go_ret
    exact ⟨rfl, by first | exact B0.out | (rw [← hS]; exact B0.out)⟩
  have SMim : Hid (iml ≤ 1048576) := by show _ ≤ _; omega
  by_cases hbinp : (1048576 : Int) < (inpl : Int)
  · go_enter Tryz.func3, Tryz.ntmps3
    go_wp2_with fail
    go_ret
    exact ⟨rfl, by first | exact B0.out | (rw [← hS]; exact B0.out)⟩
  have SMinp : Hid (inpl ≤ 1048576) := by show _ ≤ _; omega
  have q0 := Q.out.cell 0 rfl
  have q1 := Q.out.cell 1 rfl
  have q2 := Q.out.cell 2 rfl
  have q3 := Q.out.cell 3 rfl
  go_enter Tryz.func3, Tryz.ntmps3
  go_wp2_with fail
  clear hW hS q0 q1 q2 q3 hbim hbinp
  refine (sz_policy _ _ _ _ _ _ _ _ _ _ _ _ P _ HP.out).mono ?_
  rintro e w1 ⟨⟨r, rfl, hr, hs⟩, b1⟩
  by_cases hneg : r < 0
  · go_wp2_with fail
    go_ret
    exact ⟨rfl, on B0.out b1⟩
  have SM : Hid (Small n0 n1 n2 n3 P) := hs (by omega)
  have B : Hid (Below W.heap.size W w1) := b1
  clear hs b1
  obtain ⟨C, hC⟩ : ∃ C, soC P gu im inp = C := ⟨_, rfl⟩
  obtain ⟨G, hG⟩ : ∃ G, soH P gu im inp = G := ⟨_, rfl⟩
  obtain ⟨PG, hO⟩ : ∃ PG, soP P gu im inp = PG := ⟨_, rfl⟩
  obtain ⟨Z, hZ⟩ : ∃ Z, soZ P gu im inp = Z := ⟨_, rfl⟩
  have HCZ : Hid (soC P gu im inp = C ∧ soH P gu im inp = G ∧ soP P gu im inp = PG ∧ soZ P gu im inp = Z) := ⟨hC, hG, hO, hZ⟩
  have SY : Hid (totS G PG Z ≤ 2000) := by have t := so_small P gu im inp; rw [hG, hO, hZ] at t; exact t
  have TG : Hid ((1 : Int) + (totS G PG Z : Nat) = 1 + (totH G : Nat) + (2 * PG.length : Nat) + (Z.length : Nat)) := by show _ = _; unfold totS; omega
  have TL : Hid (1 + (totH G : Int) + (2 * PG.length : Nat) + (Z.length : Nat) ≤ 4611686018427387904) := by have := SY.out; have := TG.out; show _ ≤ _; omega
  obtain ⟨e0, le0⟩ : ∃ n, G.regs.length = n := ⟨_, rfl⟩
  obtain ⟨e1, le1⟩ : ∃ n, G.csr.length = n := ⟨_, rfl⟩
  obtain ⟨e2, le2⟩ : ∃ n, G.inn.length = n := ⟨_, rfl⟩
  obtain ⟨e3, le3⟩ : ∃ n, G.out.length = n := ⟨_, rfl⟩
  obtain ⟨e4, le4⟩ : ∃ n, PG.length = n := ⟨_, rfl⟩
  obtain ⟨e5, le5⟩ : ∃ n, Z.length = n := ⟨_, rfl⟩
  have LY : Hid (G.regs.length = e0 ∧ G.csr.length = e1 ∧ G.inn.length = e2 ∧ G.out.length = e3 ∧ PG.length = e4 ∧ Z.length = e5) := ⟨le0, le1, le2, le3, le4, le5⟩
  clear hC hG hO hZ le0 le1 le2 le3 le4 le5
  have q0 := (Q.out.keep B.out).cell 0 rfl
  have q1 := (Q.out.keep B.out).cell 1 rfl
  have q2 := (Q.out.keep B.out).cell 2 rfl
  have q3 := (Q.out.keep B.out).cell 3 rfl
  go_wp2_with fail
  clear q0 q1 q2 q3
  refine (to_policy _ _ _ _ _ _ _ _ _ _ _ _ P _ (HP.out.stay B.out) SM.out).mono ?_
  rintro e wgP ⟨g0, g1, g2, g3, rfl, mm, bb⟩
  have Mg : Hid (Mde wgP _ g0 g1 g2 g3 n0 n1 n2 n3 P) := mm
  replace B : Hid (Below W.heap.size W wgP) := on B.out bb
  clear mm bb
  go_wp2_with fail
  refine (to_nums _ _ _ _ _ (HRim.out.stay B.out) SMim.out).mono ?_
  rintro e wgim ⟨gim, rfl, mm, bb⟩
  have Fgim : Hid (Nums wgim _ (.slice (some ⟨gim, 0, none⟩) iml iml) im) := mm
  replace Mg : Hid (Mde wgim _ g0 g1 g2 g3 n0 n1 n2 n3 P) := Mg.out.keep bb
  replace B : Hid (Below W.heap.size W wgim) := on B.out bb
  clear mm bb
  go_wp2_with fail
  refine (to_nums _ _ _ _ _ (HRinp.out.stay B.out) SMinp.out).mono ?_
  rintro e wginp ⟨ginp, rfl, mm, bb⟩
  have Fginp : Hid (Nums wginp _ (.slice (some ⟨ginp, 0, none⟩) inpl inpl) inp) := mm
  replace Mg : Hid (Mde wginp _ g0 g1 g2 g3 n0 n1 n2 n3 P) := Mg.out.keep bb
  replace Fgim : Hid (Nums wginp _ (.slice (some ⟨gim, 0, none⟩) iml iml) im) := Fgim.out.keep bb
  replace B : Hid (Below W.heap.size W wginp) := on B.out bb
  clear mm bb
  go_wp2_with fail
  have CALL := s_soloOf _ _ _ _ _ _ _ _ _ _ _ _ P gu _ _ _ im _ _ _ _ inp _ _ Mg.out.pl Fgim.out Fginp.out
  rw [HCZ.out.1, HCZ.out.2.1, HCZ.out.2.2.1, HCZ.out.2.2.2] at CALL
  refine CALL.mono ?_
  clear CALL
  rintro e w3 ⟨_, _, _, _, _, _, rfl, sp, b3⟩
  obtain ⟨ya0, yk0, f0, _⟩ := sp.h.r.shape
  obtain ⟨ya1, yk1, f1, _⟩ := sp.h.c.shape
  obtain ⟨ya2, yk2, f2, _⟩ := sp.h.i.shape
  obtain ⟨ya3, yk3, f3, _⟩ := sp.h.o.shape
  obtain ⟨ya4, yk4, f4, _⟩ := sp.pl.shape
  obtain ⟨ya5, yk5, f5, _⟩ := sp.mm.shape
  subst f0 f1 f2 f3 f4 f5
  rw [LY.out.1, LY.out.2.1, LY.out.2.2.1, LY.out.2.2.2.1, LY.out.2.2.2.2.1, LY.out.2.2.2.2.2] at sp ⊢
  have Y : Hid (Vb (w3.alloc (.cells #[.int .i64 C, .slice ya0 e0 yk0, .int .i64 G.pc, .slice ya1 e1 yk1, .bool G.halted, .bool G.waiting, .bool G.rung, .int .i64 G.done, .slice ya2 e2 yk2, .slice ya3 e3 yk3, .slice ya4 e4 yk4, .slice ya5 e5 yk5] 36)) w3.heap.size #[.int .i64 C, .slice ya0 e0 yk0, .int .i64 G.pc, .slice ya1 e1 yk1, .bool G.halted, .bool G.waiting, .bool G.rung, .int .i64 G.done, .slice ya2 e2 yk2, .slice ya3 e3 yk3, .slice ya4 e4 yk4, .slice ya5 e5 yk5] 36) := Vb.new _ _ _
  have N : Hid (Sm (w3.alloc (.cells #[.int .i64 C, .slice ya0 e0 yk0, .int .i64 G.pc, .slice ya1 e1 yk1, .bool G.halted, .bool G.waiting, .bool G.rung, .int .i64 G.done, .slice ya2 e2 yk2, .slice ya3 e3 yk3, .slice ya4 e4 yk4, .slice ya5 e5 yk5] 36)) _ (.slice ya0 e0 yk0) (.slice ya1 e1 yk1) (.slice ya2 e2 yk2) (.slice ya3 e3 yk3) (.slice ya4 e4 yk4) (.slice ya5 e5 yk5) G PG Z) := sp.keep (al (Below.refl _ _) _)
  have L3 : Hid (∀ k, OwnS (.slice ya0 e0 yk0) (.slice ya1 e1 yk1) (.slice ya2 e2 yk2) (.slice ya3 e3 yk3) (.slice ya4 e4 yk4) (.slice ya5 e5 yk5) k → k < w3.heap.size) := fun k e => (sm_ownX sp k e).2
  have Z3 : Hid (w3.heap.size + 1 = (w3.alloc (.cells #[.int .i64 C, .slice ya0 e0 yk0, .int .i64 G.pc, .slice ya1 e1 yk1, .bool G.halted, .bool G.waiting, .bool G.rung, .int .i64 G.done, .slice ya2 e2 yk2, .slice ya3 e3 yk3, .slice ya4 e4 yk4, .slice ya5 e5 yk5] 36)).heap.size) := by show _ = _; simp
  have q3' : Hid (Vb w3 s #[.slice a0 n0 c0, .slice a1 n1 c1, .slice a2 n2 c2, .slice a3 n3 c3] 27) := Q.out.keep (on B.out b3)
  replace B : Hid (Below W.heap.size W (w3.alloc (.cells #[.int .i64 C, .slice ya0 e0 yk0, .int .i64 G.pc, .slice ya1 e1 yk1, .bool G.halted, .bool G.waiting, .bool G.rung, .int .i64 G.done, .slice ya2 e2 yk2, .slice ya3 e3 yk3, .slice ya4 e4 yk4, .slice ya5 e5 yk5] 36))) := al (on B.out b3) _
  clear sp b3 Mg Fgim Fginp
  have q0 := q3'.out.cell 0 rfl
  have q1 := q3'.out.cell 1 rfl
  have q2 := q3'.out.cell 2 rfl
  have q3 := q3'.out.cell 3 rfl
  have ls3 : s < w3.heap.size := q3'.out.lt
  go_wp2_with fail
  have Bw3 : Hid (W.heap.size ≤ (w3.alloc (.cells #[.int .i64 C, .slice ya0 e0 yk0, .int .i64 G.pc, .slice ya1 e1 yk1, .bool G.halted, .bool G.waiting, .bool G.rung, .int .i64 G.done, .slice ya2 e2 yk2, .slice ya3 e3 yk3, .slice ya4 e4 yk4, .slice ya5 e5 yk5] 36)).heap.size) := B.out.size
  generalize (w3.alloc (.cells #[.int .i64 C, .slice ya0 e0 yk0, .int .i64 G.pc, .slice ya1 e1 yk1, .bool G.halted, .bool G.waiting, .bool G.rung, .int .i64 G.done, .slice ya2 e2 yk2, .slice ya3 e3 yk3, .slice ya4 e4 yk4, .slice ya5 e5 yk5] 36)) = W3 at *
  generalize w3.heap.size = s3 at *
  clear q0 q1 q2 q3 ls3 q3'
  refine (to_policy _ _ _ _ _ _ _ _ _ _ _ _ P _ (HP.out.stay B.out) SM.out).mono ?_
  rintro e w4 ⟨k0, k1, k2, k3, rfl, m4, b4⟩
  have M4 : Hid (Mde w4 W3.heap.size k0 k1 k2 k3 n0 n1 n2 n3 P) := m4
  have b4' : Below W3.heap.size W3 (w4.alloc (.cells #[.slice (some ⟨k0, 0, none⟩) n0 n0, .slice (some ⟨k1, 0, none⟩) n1 n1, .slice (some ⟨k2, 0, none⟩) n2 n2, .slice (some ⟨k3, 0, none⟩) n3 n3] 42)) := al b4 _
  have D4 : Hid (Below w4.heap.size w4 (w4.alloc (.cells #[.slice (some ⟨k0, 0, none⟩) n0 n0, .slice (some ⟨k1, 0, none⟩) n1 n1, .slice (some ⟨k2, 0, none⟩) n2 n2, .slice (some ⟨k3, 0, none⟩) n3 n3] 42))) := al (Below.refl _ _) _
  have X : Hid (Vb (w4.alloc (.cells #[.slice (some ⟨k0, 0, none⟩) n0 n0, .slice (some ⟨k1, 0, none⟩) n1 n1, .slice (some ⟨k2, 0, none⟩) n2 n2, .slice (some ⟨k3, 0, none⟩) n3 n3] 42)) w4.heap.size #[.slice (some ⟨k0, 0, none⟩) n0 n0, .slice (some ⟨k1, 0, none⟩) n1 n1, .slice (some ⟨k2, 0, none⟩) n2 n2, .slice (some ⟨k3, 0, none⟩) n3 n3] 42) := Vb.new _ _ _
  have Z4 : Hid (W3.heap.size ≤ w4.heap.size ∧ w4.heap.size + 1 = (w4.alloc (.cells #[.slice (some ⟨k0, 0, none⟩) n0 n0, .slice (some ⟨k1, 0, none⟩) n1 n1, .slice (some ⟨k2, 0, none⟩) n2 n2, .slice (some ⟨k3, 0, none⟩) n3 n3] 42)).heap.size) := ⟨b4.size, by simp⟩
  replace B : Hid (Below W.heap.size W (w4.alloc (.cells #[.slice (some ⟨k0, 0, none⟩) n0 n0, .slice (some ⟨k1, 0, none⟩) n1 n1, .slice (some ⟨k2, 0, none⟩) n2 n2, .slice (some ⟨k3, 0, none⟩) n3 n3] 42))) := on B.out b4'
  replace Y : Hid (Vb (w4.alloc (.cells #[.slice (some ⟨k0, 0, none⟩) n0 n0, .slice (some ⟨k1, 0, none⟩) n1 n1, .slice (some ⟨k2, 0, none⟩) n2 n2, .slice (some ⟨k3, 0, none⟩) n3 n3] 42)) s3 #[.int .i64 C, .slice ya0 e0 yk0, .int .i64 G.pc, .slice ya1 e1 yk1, .bool G.halted, .bool G.waiting, .bool G.rung, .int .i64 G.done, .slice ya2 e2 yk2, .slice ya3 e3 yk3, .slice ya4 e4 yk4, .slice ya5 e5 yk5] 36) := Y.out.keep b4'
  replace N : Hid (Sm (w4.alloc (.cells #[.slice (some ⟨k0, 0, none⟩) n0 n0, .slice (some ⟨k1, 0, none⟩) n1 n1, .slice (some ⟨k2, 0, none⟩) n2 n2, .slice (some ⟨k3, 0, none⟩) n3 n3] 42)) _ (.slice ya0 e0 yk0) (.slice ya1 e1 yk1) (.slice ya2 e2 yk2) (.slice ya3 e3 yk3) (.slice ya4 e4 yk4) (.slice ya5 e5 yk5) G PG Z) := N.out.keep b4'
  clear m4 b4 b4'
  go_wp2_with fail
  generalize (w4.alloc (.cells #[.slice (some ⟨k0, 0, none⟩) n0 n0, .slice (some ⟨k1, 0, none⟩) n1 n1, .slice (some ⟨k2, 0, none⟩) n2 n2, .slice (some ⟨k3, 0, none⟩) n3 n3] 42)) = W4 at *
  obtain ⟨s4, hs4⟩ : ∃ s4, w4.heap.size = s4 := ⟨_, rfl⟩
  replace X : Hid (Vb W4 s4 #[.slice (some ⟨k0, 0, none⟩) n0 n0, .slice (some ⟨k1, 0, none⟩) n1 n1, .slice (some ⟨k2, 0, none⟩) n2 n2, .slice (some ⟨k3, 0, none⟩) n3 n3] 42) := by show Vb _ _ _ _; rw [← hs4]; exact X.out
  have S4 : Hid (w4.heap.size = s4) := hs4
  rw [hs4]
  clear hs4
  refine (to_nums _ _ _ _ _ (HRim.out.stay B.out) SMim.out).mono ?_
  rintro e ximw ⟨xim, rfl, mm, bb⟩
  have Jim : Hid (Nums ximw W4.heap.size (.slice (some ⟨xim, 0, none⟩) iml iml) im) := mm
  have Zxim : Hid (W4.heap.size ≤ ximw.heap.size) := bb.size
  replace B : Hid (Below W.heap.size W ximw) := on B.out bb
  replace Y : Hid (Vb ximw s3 #[.int .i64 C, .slice ya0 e0 yk0, .int .i64 G.pc, .slice ya1 e1 yk1, .bool G.halted, .bool G.waiting, .bool G.rung, .int .i64 G.done, .slice ya2 e2 yk2, .slice ya3 e3 yk3, .slice ya4 e4 yk4, .slice ya5 e5 yk5] 36) := Y.out.keep bb
  replace N : Hid (Sm ximw _ (.slice ya0 e0 yk0) (.slice ya1 e1 yk1) (.slice ya2 e2 yk2) (.slice ya3 e3 yk3) (.slice ya4 e4 yk4) (.slice ya5 e5 yk5) G PG Z) := N.out.keep bb
  replace X : Hid (Vb ximw s4 #[.slice (some ⟨k0, 0, none⟩) n0 n0, .slice (some ⟨k1, 0, none⟩) n1 n1, .slice (some ⟨k2, 0, none⟩) n2 n2, .slice (some ⟨k3, 0, none⟩) n3 n3] 42) := X.out.keep bb
  replace D4 : Hid (Below w4.heap.size w4 ximw) := on D4.out bb
  have Dim : Hid (Below ximw.heap.size ximw ximw) := Below.refl _ _
  clear mm bb
  go_wp2_with fail
  refine (to_nums _ _ _ _ _ (HRinp.out.stay B.out) SMinp.out).mono ?_
  rintro e xinpw ⟨xinp, rfl, mm, bb⟩
  have Jinp : Hid (Nums xinpw ximw.heap.size (.slice (some ⟨xinp, 0, none⟩) inpl inpl) inp) := mm
  have Zxinp : Hid (ximw.heap.size ≤ xinpw.heap.size) := bb.size
  replace B : Hid (Below W.heap.size W xinpw) := on B.out bb
  replace Y : Hid (Vb xinpw s3 #[.int .i64 C, .slice ya0 e0 yk0, .int .i64 G.pc, .slice ya1 e1 yk1, .bool G.halted, .bool G.waiting, .bool G.rung, .int .i64 G.done, .slice ya2 e2 yk2, .slice ya3 e3 yk3, .slice ya4 e4 yk4, .slice ya5 e5 yk5] 36) := Y.out.keep bb
  replace N : Hid (Sm xinpw _ (.slice ya0 e0 yk0) (.slice ya1 e1 yk1) (.slice ya2 e2 yk2) (.slice ya3 e3 yk3) (.slice ya4 e4 yk4) (.slice ya5 e5 yk5) G PG Z) := N.out.keep bb
  replace X : Hid (Vb xinpw s4 #[.slice (some ⟨k0, 0, none⟩) n0 n0, .slice (some ⟨k1, 0, none⟩) n1 n1, .slice (some ⟨k2, 0, none⟩) n2 n2, .slice (some ⟨k3, 0, none⟩) n3 n3] 42) := X.out.keep bb
  replace D4 : Hid (Below w4.heap.size w4 xinpw) := on D4.out bb
  replace Dim : Hid (Below ximw.heap.size ximw xinpw) := on Dim.out bb
  have Dinp : Hid (Below xinpw.heap.size xinpw xinpw) := Below.refl _ _
  clear mm bb
  have x0 := X.out.cell 0 rfl
  have x1 := X.out.cell 1 rfl
  have x2 := X.out.cell 2 rfl
  have x3 := X.out.cell 3 rfl
  go_wp2_with fail
  clear x0 x1 x2 x3
  have CALL := i_soloOf _ _ _ _ _ _ _ _ _ _ _ _ P gu _ _ _ im _ _ _ _ inp _ _ (M4.out.keep D4.out).pl (Jim.out.keep Dim.out) (Jinp.out.keep Dinp.out) (cell_keep B.out HG.out)
  rw [HCZ.out.1, HCZ.out.2.1, HCZ.out.2.2.1, HCZ.out.2.2.2] at CALL
  refine CALL.mono ?_
  clear CALL
  rintro e w5 ⟨_, _, _, _, _, _, rfl, sp, b5⟩
  obtain ⟨za0, zk0, f0, _⟩ := sp.h.r.shape
  obtain ⟨za1, zk1, f1, _⟩ := sp.h.c.shape
  obtain ⟨za2, zk2, f2, _⟩ := sp.h.i.shape
  obtain ⟨za3, zk3, f3, _⟩ := sp.h.o.shape
  obtain ⟨za4, zk4, f4, _⟩ := sp.pl.shape
  obtain ⟨za5, zk5, f5, _⟩ := sp.mm.shape
  subst f0 f1 f2 f3 f4 f5
  rw [LY.out.1, LY.out.2.1, LY.out.2.2.1, LY.out.2.2.2.1, LY.out.2.2.2.2.1, LY.out.2.2.2.2.2] at sp ⊢
  have WN : Hid (Below w5.heap.size w5 (w5.alloc (.cells #[.int .i64 C, .slice za0 e0 zk0, .int .i64 G.pc, .slice za1 e1 zk1, .bool G.halted, .bool G.waiting, .bool G.rung, .int .i64 G.done, .slice za2 e2 zk2, .slice za3 e3 zk3, .slice za4 e4 zk4, .slice za5 e5 zk5] 36))) := al (Below.refl _ _) _
  have G5 : Hid (Vb (w5.alloc (.cells #[.int .i64 C, .slice za0 e0 zk0, .int .i64 G.pc, .slice za1 e1 zk1, .bool G.halted, .bool G.waiting, .bool G.rung, .int .i64 G.done, .slice za2 e2 zk2, .slice za3 e3 zk3, .slice za4 e4 zk4, .slice za5 e5 zk5] 36)) w5.heap.size #[.int .i64 C, .slice za0 e0 zk0, .int .i64 G.pc, .slice za1 e1 zk1, .bool G.halted, .bool G.waiting, .bool G.rung, .int .i64 G.done, .slice za2 e2 zk2, .slice za3 e3 zk3, .slice za4 e4 zk4, .slice za5 e5 zk5] 36) := Vb.new _ _ _
  have O : Hid (Sm (w5.alloc (.cells #[.int .i64 C, .slice za0 e0 zk0, .int .i64 G.pc, .slice za1 e1 zk1, .bool G.halted, .bool G.waiting, .bool G.rung, .int .i64 G.done, .slice za2 e2 zk2, .slice za3 e3 zk3, .slice za4 e4 zk4, .slice za5 e5 zk5] 36)) _ (.slice za0 e0 zk0) (.slice za1 e1 zk1) (.slice za2 e2 zk2) (.slice za3 e3 zk3) (.slice za4 e4 zk4) (.slice za5 e5 zk5) G PG Z) := sp.keep WN.out
  have L5 : Hid (∀ k, OwnS (.slice za0 e0 zk0) (.slice za1 e1 zk1) (.slice za2 e2 zk2) (.slice za3 e3 zk3) (.slice za4 e4 zk4) (.slice za5 e5 zk5) k → xinpw.heap.size ≤ k ∧ k < w5.heap.size) := fun k e => sm_ownX sp k e
  have Z5 : Hid (xinpw.heap.size ≤ w5.heap.size) := b5.size
  have yb : Hid (Vb w5 s3 #[.int .i64 C, .slice ya0 e0 yk0, .int .i64 G.pc, .slice ya1 e1 yk1, .bool G.halted, .bool G.waiting, .bool G.rung, .int .i64 G.done, .slice ya2 e2 yk2, .slice ya3 e3 yk3, .slice ya4 e4 yk4, .slice ya5 e5 yk5] 36) := Y.out.keep b5
  have b5' : Below xinpw.heap.size xinpw (w5.alloc (.cells #[.int .i64 C, .slice za0 e0 zk0, .int .i64 G.pc, .slice za1 e1 zk1, .bool G.halted, .bool G.waiting, .bool G.rung, .int .i64 G.done, .slice za2 e2 zk2, .slice za3 e3 zk3, .slice za4 e4 zk4, .slice za5 e5 zk5] 36)) := al b5 _
  replace B : Hid (Below W.heap.size W (w5.alloc (.cells #[.int .i64 C, .slice za0 e0 zk0, .int .i64 G.pc, .slice za1 e1 zk1, .bool G.halted, .bool G.waiting, .bool G.rung, .int .i64 G.done, .slice za2 e2 zk2, .slice za3 e3 zk3, .slice za4 e4 zk4, .slice za5 e5 zk5] 36))) := on B.out b5'
  replace Y : Hid (Vb (w5.alloc (.cells #[.int .i64 C, .slice za0 e0 zk0, .int .i64 G.pc, .slice za1 e1 zk1, .bool G.halted, .bool G.waiting, .bool G.rung, .int .i64 G.done, .slice za2 e2 zk2, .slice za3 e3 zk3, .slice za4 e4 zk4, .slice za5 e5 zk5] 36)) s3 #[.int .i64 C, .slice ya0 e0 yk0, .int .i64 G.pc, .slice ya1 e1 yk1, .bool G.halted, .bool G.waiting, .bool G.rung, .int .i64 G.done, .slice ya2 e2 yk2, .slice ya3 e3 yk3, .slice ya4 e4 yk4, .slice ya5 e5 yk5] 36) := Y.out.keep b5'
  replace N : Hid (Sm (w5.alloc (.cells #[.int .i64 C, .slice za0 e0 zk0, .int .i64 G.pc, .slice za1 e1 zk1, .bool G.halted, .bool G.waiting, .bool G.rung, .int .i64 G.done, .slice za2 e2 zk2, .slice za3 e3 zk3, .slice za4 e4 zk4, .slice za5 e5 zk5] 36)) _ (.slice ya0 e0 yk0) (.slice ya1 e1 yk1) (.slice ya2 e2 yk2) (.slice ya3 e3 yk3) (.slice ya4 e4 yk4) (.slice ya5 e5 yk5) G PG Z) := N.out.keep b5'
  replace X : Hid (Vb (w5.alloc (.cells #[.int .i64 C, .slice za0 e0 zk0, .int .i64 G.pc, .slice za1 e1 zk1, .bool G.halted, .bool G.waiting, .bool G.rung, .int .i64 G.done, .slice za2 e2 zk2, .slice za3 e3 zk3, .slice za4 e4 zk4, .slice za5 e5 zk5] 36)) s4 #[.slice (some ⟨k0, 0, none⟩) n0 n0, .slice (some ⟨k1, 0, none⟩) n1 n1, .slice (some ⟨k2, 0, none⟩) n2 n2, .slice (some ⟨k3, 0, none⟩) n3 n3] 42) := X.out.keep b5'
  replace D4 : Hid (Below w4.heap.size w4 (w5.alloc (.cells #[.int .i64 C, .slice za0 e0 zk0, .int .i64 G.pc, .slice za1 e1 zk1, .bool G.halted, .bool G.waiting, .bool G.rung, .int .i64 G.done, .slice za2 e2 zk2, .slice za3 e3 zk3, .slice za4 e4 zk4, .slice za5 e5 zk5] 36))) := on D4.out b5'
  replace Dim : Hid (Below ximw.heap.size ximw (w5.alloc (.cells #[.int .i64 C, .slice za0 e0 zk0, .int .i64 G.pc, .slice za1 e1 zk1, .bool G.halted, .bool G.waiting, .bool G.rung, .int .i64 G.done, .slice za2 e2 zk2, .slice za3 e3 zk3, .slice za4 e4 zk4, .slice za5 e5 zk5] 36))) := on Dim.out b5'
  replace Dinp : Hid (Below xinpw.heap.size xinpw (w5.alloc (.cells #[.int .i64 C, .slice za0 e0 zk0, .int .i64 G.pc, .slice za1 e1 zk1, .bool G.halted, .bool G.waiting, .bool G.rung, .int .i64 G.done, .slice za2 e2 zk2, .slice za3 e3 zk3, .slice za4 e4 zk4, .slice za5 e5 zk5] 36))) := on Dinp.out b5'
  have y0 := yb.out.cell 0 rfl
  have y1 := yb.out.cell 1 rfl
  have y2 := yb.out.cell 2 rfl
  have y3 := yb.out.cell 3 rfl
  have y4 := yb.out.cell 4 rfl
  have y5 := yb.out.cell 5 rfl
  have y6 := yb.out.cell 6 rfl
  have y7 := yb.out.cell 7 rfl
  have y8 := yb.out.cell 8 rfl
  have y9 := yb.out.cell 9 rfl
  have y10 := yb.out.cell 10 rfl
  have y11 := yb.out.cell 11 rfl
  have ly : s3 < w5.heap.size := yb.out.lt
  clear sp b5 b5' WN
  go_wp2_with fail
  generalize (w5.alloc (.cells #[.int .i64 C, .slice za0 e0 zk0, .int .i64 G.pc, .slice za1 e1 zk1, .bool G.halted, .bool G.waiting, .bool G.rung, .int .i64 G.done, .slice za2 e2 zk2, .slice za3 e3 zk3, .slice za4 e4 zk4, .slice za5 e5 zk5] 36)) = W5 at *
  generalize w5.heap.size = s5 at *
  clear y0 y1 y2 y3 y4 y5 y6 y7 y8 y9 y10 y11 ly yb
  refine (eq_sres _ _ _ _ _ _ _ _ _ _ _ _ _ G PG Z _ _ _ O.out.sr N.out.sr).mono ?_
  rintro e w6 ⟨rfl, bb⟩
  replace B : Hid (Below W.heap.size W w6) := on B.out bb
  replace Y : Hid (Vb w6 s3 #[.int .i64 C, .slice ya0 e0 yk0, .int .i64 G.pc, .slice ya1 e1 yk1, .bool G.halted, .bool G.waiting, .bool G.rung, .int .i64 G.done, .slice ya2 e2 yk2, .slice ya3 e3 yk3, .slice ya4 e4 yk4, .slice ya5 e5 yk5] 36) := Y.out.keep bb
  replace N : Hid (Sm w6 _ (.slice ya0 e0 yk0) (.slice ya1 e1 yk1) (.slice ya2 e2 yk2) (.slice ya3 e3 yk3) (.slice ya4 e4 yk4) (.slice ya5 e5 yk5) G PG Z) := N.out.keep bb
  replace X : Hid (Vb w6 s4 #[.slice (some ⟨k0, 0, none⟩) n0 n0, .slice (some ⟨k1, 0, none⟩) n1 n1, .slice (some ⟨k2, 0, none⟩) n2 n2, .slice (some ⟨k3, 0, none⟩) n3 n3] 42) := X.out.keep bb
  replace D4 : Hid (Below w4.heap.size w4 w6) := on D4.out bb
  replace Dim : Hid (Below ximw.heap.size ximw w6) := on Dim.out bb
  replace Dinp : Hid (Below xinpw.heap.size xinpw w6) := on Dinp.out bb
  replace G5 : Hid (Vb w6 s5 #[.int .i64 C, .slice za0 e0 zk0, .int .i64 G.pc, .slice za1 e1 zk1, .bool G.halted, .bool G.waiting, .bool G.rung, .int .i64 G.done, .slice za2 e2 zk2, .slice za3 e3 zk3, .slice za4 e4 zk4, .slice za5 e5 zk5] 36) := G5.out.keep bb
  replace O : Hid (Sm w6 _ (.slice za0 e0 zk0) (.slice za1 e1 zk1) (.slice za2 e2 zk2) (.slice za3 e3 zk3) (.slice za4 e4 zk4) (.slice za5 e5 zk5) G PG Z) := O.out.keep bb
  clear bb
  have q0 := (Q.out.keep B.out).cell 0 rfl
  have q1 := (Q.out.keep B.out).cell 1 rfl
  have q2 := (Q.out.keep B.out).cell 2 rfl
  have q3 := (Q.out.keep B.out).cell 3 rfl
  have x0 := X.out.cell 0 rfl
  have x1 := X.out.cell 1 rfl
  have x2 := X.out.cell 2 rfl
  have x3 := X.out.cell 3 rfl
  have M5 : Hid (Mde w6 _ k0 k1 k2 k3 n0 n1 n2 n3 P) := M4.out.keep D4.out
  go_wp2_with fail
  go_cut [57] from 53 to 57 (fun c wx => c = .bool false ∧ Below w6.heap.size w6 wx)
  case first =>
    go_region_with (first
      | (go_at_call 6; refine (to_policy _ _ _ _ _ _ _ _ _ _ _ _ P _ (HP.out.stay (by first | exact B.out | exact B.out.drew | exact B.out.drew.drew | exact B.out.drew.drew.drew)) SM.out).mono ?_; rintro e w8 ⟨h0, h1, h2, h3, rfl, m8, b8⟩; have E8 : Hid (Below w6.heap.size w6 w8) := (by first | exact b8 | exact on (Below.refl _ _).drew b8 | exact on (Below.refl _ _).drew.drew b8 | exact on (Below.refl _ _).drew.drew.drew b8); have x0 := cell_keep b8 x0; have x1 := cell_keep b8 x1; have x2 := cell_keep b8 x2; have x3 := cell_keep b8 x3; (first | have N8 := M5.out.keep b8 | have N8 := (M5.out.keep (Below.refl _ _).drew).keep b8 | have N8 := (M5.out.keep (Below.refl _ _).drew.drew).keep b8 | have N8 := (M5.out.keep (Below.refl _ _).drew.drew.drew).keep b8); clear b8)
      | (go_at_call 10; refine (eq_policy _ _ _ _ _ _ _ _ _ _ _ _ P _ _ _ (by first | exact N8 | exact N8.keep (Below.refl _ _).drew | exact N8.keep (Below.refl _ _).drew.drew) (by first | exact m8 | exact m8.keep (Below.refl _ _).drew | exact m8.keep (Below.refl _ _).drew.drew)).mono ?_; rintro e w7 ⟨rfl, b7⟩; (first | have E7 : Hid (Below w6.heap.size w6 w7) := on E8.out b7 | have E7 : Hid (Below w6.heap.size w6 w7) := on E8.out.drew b7 | have E7 : Hid (Below w6.heap.size w6 w7) := on E8.out.drew.drew b7); clear b7))
    all_goals (go_wp2_with fail; go_meet; exact ⟨rfl, by first | exact E7.out | exact E7.out.drew⟩)
  case rest =>
  obtain ⟨rfl, bb⟩ := hcut
  clear q0 q1 q2 q3 x0 x1 x2 x3 M5
  replace B : Hid (Below W.heap.size W wc) := on B.out bb
  replace Y : Hid (Vb wc s3 #[.int .i64 C, .slice ya0 e0 yk0, .int .i64 G.pc, .slice ya1 e1 yk1, .bool G.halted, .bool G.waiting, .bool G.rung, .int .i64 G.done, .slice ya2 e2 yk2, .slice ya3 e3 yk3, .slice ya4 e4 yk4, .slice ya5 e5 yk5] 36) := Y.out.keep bb
  replace N : Hid (Sm wc _ (.slice ya0 e0 yk0) (.slice ya1 e1 yk1) (.slice ya2 e2 yk2) (.slice ya3 e3 yk3) (.slice ya4 e4 yk4) (.slice ya5 e5 yk5) G PG Z) := N.out.keep bb
  replace X : Hid (Vb wc s4 #[.slice (some ⟨k0, 0, none⟩) n0 n0, .slice (some ⟨k1, 0, none⟩) n1 n1, .slice (some ⟨k2, 0, none⟩) n2 n2, .slice (some ⟨k3, 0, none⟩) n3 n3] 42) := X.out.keep bb
  replace D4 : Hid (Below w4.heap.size w4 wc) := on D4.out bb
  replace Dim : Hid (Below ximw.heap.size ximw wc) := on Dim.out bb
  replace Dinp : Hid (Below xinpw.heap.size xinpw wc) := on Dinp.out bb
  replace G5 : Hid (Vb wc s5 #[.int .i64 C, .slice za0 e0 zk0, .int .i64 G.pc, .slice za1 e1 zk1, .bool G.halted, .bool G.waiting, .bool G.rung, .int .i64 G.done, .slice za2 e2 zk2, .slice za3 e3 zk3, .slice za4 e4 zk4, .slice za5 e5 zk5] 36) := G5.out.keep bb
  replace O : Hid (Sm wc _ (.slice za0 e0 zk0) (.slice za1 e1 zk1) (.slice za2 e2 zk2) (.slice za3 e3 zk3) (.slice za4 e4 zk4) (.slice za5 e5 zk5) G PG Z) := O.out.keep bb
  clear bb
  go_wp2_with fail
  refine (to_nums _ _ _ _ _ (HRim.out.stay B.out) SMim.out).mono ?_
  rintro e dimw ⟨dim, rfl, mm, bb⟩
  have JN : Hid (Nums dimw _ (.slice (some ⟨dim, 0, none⟩) iml iml) im) := mm
  replace B : Hid (Below W.heap.size W dimw) := on B.out bb
  replace Y : Hid (Vb dimw s3 #[.int .i64 C, .slice ya0 e0 yk0, .int .i64 G.pc, .slice ya1 e1 yk1, .bool G.halted, .bool G.waiting, .bool G.rung, .int .i64 G.done, .slice ya2 e2 yk2, .slice ya3 e3 yk3, .slice ya4 e4 yk4, .slice ya5 e5 yk5] 36) := Y.out.keep bb
  replace N : Hid (Sm dimw _ (.slice ya0 e0 yk0) (.slice ya1 e1 yk1) (.slice ya2 e2 yk2) (.slice ya3 e3 yk3) (.slice ya4 e4 yk4) (.slice ya5 e5 yk5) G PG Z) := N.out.keep bb
  replace X : Hid (Vb dimw s4 #[.slice (some ⟨k0, 0, none⟩) n0 n0, .slice (some ⟨k1, 0, none⟩) n1 n1, .slice (some ⟨k2, 0, none⟩) n2 n2, .slice (some ⟨k3, 0, none⟩) n3 n3] 42) := X.out.keep bb
  replace D4 : Hid (Below w4.heap.size w4 dimw) := on D4.out bb
  replace Dim : Hid (Below ximw.heap.size ximw dimw) := on Dim.out bb
  replace Dinp : Hid (Below xinpw.heap.size xinpw dimw) := on Dinp.out bb
  replace G5 : Hid (Vb dimw s5 #[.int .i64 C, .slice za0 e0 zk0, .int .i64 G.pc, .slice za1 e1 zk1, .bool G.halted, .bool G.waiting, .bool G.rung, .int .i64 G.done, .slice za2 e2 zk2, .slice za3 e3 zk3, .slice za4 e4 zk4, .slice za5 e5 zk5] 36) := G5.out.keep bb
  replace O : Hid (Sm dimw _ (.slice za0 e0 zk0) (.slice za1 e1 zk1) (.slice za2 e2 zk2) (.slice za3 e3 zk3) (.slice za4 e4 zk4) (.slice za5 e5 zk5) G PG Z) := O.out.keep bb
  clear mm bb
  go_wp2_with fail
  refine (eq_nums _ _ _ _ _ _ (Jim.out.keep Dim.out) JN.out).mono ?_
  rintro e eimw ⟨rfl, bb⟩
  replace B : Hid (Below W.heap.size W eimw) := on B.out bb
  replace Y : Hid (Vb eimw s3 #[.int .i64 C, .slice ya0 e0 yk0, .int .i64 G.pc, .slice ya1 e1 yk1, .bool G.halted, .bool G.waiting, .bool G.rung, .int .i64 G.done, .slice ya2 e2 yk2, .slice ya3 e3 yk3, .slice ya4 e4 yk4, .slice ya5 e5 yk5] 36) := Y.out.keep bb
  replace N : Hid (Sm eimw _ (.slice ya0 e0 yk0) (.slice ya1 e1 yk1) (.slice ya2 e2 yk2) (.slice ya3 e3 yk3) (.slice ya4 e4 yk4) (.slice ya5 e5 yk5) G PG Z) := N.out.keep bb
  replace X : Hid (Vb eimw s4 #[.slice (some ⟨k0, 0, none⟩) n0 n0, .slice (some ⟨k1, 0, none⟩) n1 n1, .slice (some ⟨k2, 0, none⟩) n2 n2, .slice (some ⟨k3, 0, none⟩) n3 n3] 42) := X.out.keep bb
  replace D4 : Hid (Below w4.heap.size w4 eimw) := on D4.out bb
  replace Dim : Hid (Below ximw.heap.size ximw eimw) := on Dim.out bb
  replace Dinp : Hid (Below xinpw.heap.size xinpw eimw) := on Dinp.out bb
  replace G5 : Hid (Vb eimw s5 #[.int .i64 C, .slice za0 e0 zk0, .int .i64 G.pc, .slice za1 e1 zk1, .bool G.halted, .bool G.waiting, .bool G.rung, .int .i64 G.done, .slice za2 e2 zk2, .slice za3 e3 zk3, .slice za4 e4 zk4, .slice za5 e5 zk5] 36) := G5.out.keep bb
  replace O : Hid (Sm eimw _ (.slice za0 e0 zk0) (.slice za1 e1 zk1) (.slice za2 e2 zk2) (.slice za3 e3 zk3) (.slice za4 e4 zk4) (.slice za5 e5 zk5) G PG Z) := O.out.keep bb
  clear bb JN
  go_wp2_with fail
  refine (to_nums _ _ _ _ _ (HRinp.out.stay B.out) SMinp.out).mono ?_
  rintro e dinpw ⟨dinp, rfl, mm, bb⟩
  have JN : Hid (Nums dinpw _ (.slice (some ⟨dinp, 0, none⟩) inpl inpl) inp) := mm
  replace B : Hid (Below W.heap.size W dinpw) := on B.out bb
  replace Y : Hid (Vb dinpw s3 #[.int .i64 C, .slice ya0 e0 yk0, .int .i64 G.pc, .slice ya1 e1 yk1, .bool G.halted, .bool G.waiting, .bool G.rung, .int .i64 G.done, .slice ya2 e2 yk2, .slice ya3 e3 yk3, .slice ya4 e4 yk4, .slice ya5 e5 yk5] 36) := Y.out.keep bb
  replace N : Hid (Sm dinpw _ (.slice ya0 e0 yk0) (.slice ya1 e1 yk1) (.slice ya2 e2 yk2) (.slice ya3 e3 yk3) (.slice ya4 e4 yk4) (.slice ya5 e5 yk5) G PG Z) := N.out.keep bb
  replace X : Hid (Vb dinpw s4 #[.slice (some ⟨k0, 0, none⟩) n0 n0, .slice (some ⟨k1, 0, none⟩) n1 n1, .slice (some ⟨k2, 0, none⟩) n2 n2, .slice (some ⟨k3, 0, none⟩) n3 n3] 42) := X.out.keep bb
  replace D4 : Hid (Below w4.heap.size w4 dinpw) := on D4.out bb
  replace Dim : Hid (Below ximw.heap.size ximw dinpw) := on Dim.out bb
  replace Dinp : Hid (Below xinpw.heap.size xinpw dinpw) := on Dinp.out bb
  replace G5 : Hid (Vb dinpw s5 #[.int .i64 C, .slice za0 e0 zk0, .int .i64 G.pc, .slice za1 e1 zk1, .bool G.halted, .bool G.waiting, .bool G.rung, .int .i64 G.done, .slice za2 e2 zk2, .slice za3 e3 zk3, .slice za4 e4 zk4, .slice za5 e5 zk5] 36) := G5.out.keep bb
  replace O : Hid (Sm dinpw _ (.slice za0 e0 zk0) (.slice za1 e1 zk1) (.slice za2 e2 zk2) (.slice za3 e3 zk3) (.slice za4 e4 zk4) (.slice za5 e5 zk5) G PG Z) := O.out.keep bb
  clear mm bb
  go_wp2_with fail
  refine (eq_nums _ _ _ _ _ _ (Jinp.out.keep Dinp.out) JN.out).mono ?_
  rintro e einpw ⟨rfl, bb⟩
  replace B : Hid (Below W.heap.size W einpw) := on B.out bb
  replace Y : Hid (Vb einpw s3 #[.int .i64 C, .slice ya0 e0 yk0, .int .i64 G.pc, .slice ya1 e1 yk1, .bool G.halted, .bool G.waiting, .bool G.rung, .int .i64 G.done, .slice ya2 e2 yk2, .slice ya3 e3 yk3, .slice ya4 e4 yk4, .slice ya5 e5 yk5] 36) := Y.out.keep bb
  replace N : Hid (Sm einpw _ (.slice ya0 e0 yk0) (.slice ya1 e1 yk1) (.slice ya2 e2 yk2) (.slice ya3 e3 yk3) (.slice ya4 e4 yk4) (.slice ya5 e5 yk5) G PG Z) := N.out.keep bb
  replace X : Hid (Vb einpw s4 #[.slice (some ⟨k0, 0, none⟩) n0 n0, .slice (some ⟨k1, 0, none⟩) n1 n1, .slice (some ⟨k2, 0, none⟩) n2 n2, .slice (some ⟨k3, 0, none⟩) n3 n3] 42) := X.out.keep bb
  replace D4 : Hid (Below w4.heap.size w4 einpw) := on D4.out bb
  replace Dim : Hid (Below ximw.heap.size ximw einpw) := on Dim.out bb
  replace Dinp : Hid (Below xinpw.heap.size xinpw einpw) := on Dinp.out bb
  replace G5 : Hid (Vb einpw s5 #[.int .i64 C, .slice za0 e0 zk0, .int .i64 G.pc, .slice za1 e1 zk1, .bool G.halted, .bool G.waiting, .bool G.rung, .int .i64 G.done, .slice za2 e2 zk2, .slice za3 e3 zk3, .slice za4 e4 zk4, .slice za5 e5 zk5] 36) := G5.out.keep bb
  replace O : Hid (Sm einpw _ (.slice za0 e0 zk0) (.slice za1 e1 zk1) (.slice za2 e2 zk2) (.slice za3 e3 zk3) (.slice za4 e4 zk4) (.slice za5 e5 zk5) G PG Z) := O.out.keep bb
  clear bb JN
  have x0 := X.out.cell 0 rfl
  have x1 := X.out.cell 1 rfl
  have x2 := X.out.cell 2 rfl
  have x3 := X.out.cell 3 rfl
  go_wp2_with fail
  clear x0 x1 x2 x3
  refine (mark_policy _ _ _ _ _ _ _ _ W3.heap.size xinpw.heap.size P w4 einpw M4.out D4.out SM.out (by have := Z4.out; have := Zxim.out; have := Zxinp.out; have := Z3.out; have := S4.out; omega)).mono ?_
  rintro e m0 ⟨⟨r1, rfl, hr1, hr1b⟩, mk⟩
  have MK : Hid (Mk W3.heap.size xinpw.heap.size einpw m0) := mk
  clear mk
  go_wp2_with fail
  refine (mark_mb _ _ _ W3.heap.size xinpw.heap.size _ _ ((((Jim.out.mb).stay Dim.out).wide (by have := Z4.out; have := Zxim.out; have := Zxinp.out; have := Z3.out; have := S4.out; omega) (by have := Z4.out; have := Zxim.out; have := Zxinp.out; have := Z3.out; have := S4.out; omega)).mk MK.out) hr1 (by have := SMim.out; omega)).mono ?_
  rintro e m1 ⟨rfl, mk⟩
  replace MK : Hid (Mk W3.heap.size xinpw.heap.size einpw m1) := MK.out.trans mk
  clear mk
  have hr2 : 0 ≤ r1 + (iml : Int) := by omega
  have hr2b : r1 + (iml : Int) ≤ 2200000000000 := by have := SMim.out; omega
  generalize r1 + (iml : Int) = r2n at *
  clear hr1 hr1b
  have hr1 := hr2
  have hr1b := hr2b
  clear hr2 hr2b
  go_wp2_with fail
  refine (mark_mb _ _ _ W3.heap.size xinpw.heap.size _ _ ((((Jinp.out.mb).stay Dinp.out).wide (by have := Z4.out; have := Zxim.out; have := Zxinp.out; have := Z3.out; have := S4.out; omega) (by have := Z4.out; have := Zxim.out; have := Zxinp.out; have := Z3.out; have := S4.out; omega)).mk MK.out) hr1 (by have := SMinp.out; omega)).mono ?_
  rintro e m2 ⟨rfl, mk⟩
  replace MK : Hid (Mk W3.heap.size xinpw.heap.size einpw m2) := MK.out.trans mk
  clear mk
  have hr2 : 0 ≤ r2n + (inpl : Int) := by omega
  have hr2b : r2n + (inpl : Int) ≤ 3300000000000 := by have := SMinp.out; omega
  generalize r2n + (inpl : Int) = r3n at *
  clear hr1 hr1b
  have hr1 := hr2
  have hr1b := hr2b
  clear hr2 hr2b
  have MV : Hid (Mq (fun k => W3.heap.size ≤ k ∧ k < xinpw.heap.size) einpw m2) := mk_mqX MK.out
  replace B : Hid (Below W.heap.size W m2) := Mk.below B.out MK.out (by have := Bw3.out; omega)
  replace Y : Hid (Vb m2 s3 #[.int .i64 C, .slice ya0 e0 yk0, .int .i64 G.pc, .slice ya1 e1 yk1, .bool G.halted, .bool G.waiting, .bool G.rung, .int .i64 G.done, .slice ya2 e2 yk2, .slice ya3 e3 yk3, .slice ya4 e4 yk4, .slice ya5 e5 yk5] 36) := MV.out.vb Y.out (by have := Z4.out; have := Zxim.out; have := Zxinp.out; have := Z3.out; have := S4.out; omega)
  replace G5 : Hid (Vb m2 s5 #[.int .i64 C, .slice za0 e0 zk0, .int .i64 G.pc, .slice za1 e1 zk1, .bool G.halted, .bool G.waiting, .bool G.rung, .int .i64 G.done, .slice za2 e2 zk2, .slice za3 e3 zk3, .slice za4 e4 zk4, .slice za5 e5 zk5] 36) := MV.out.vb G5.out (by have := Z4.out; have := Zxim.out; have := Zxinp.out; have := Z3.out; have := S4.out; have := Z5.out; omega)
  replace N : Hid (Sm m2 _ (.slice ya0 e0 yk0) (.slice ya1 e1 yk1) (.slice ya2 e2 yk2) (.slice ya3 e3 yk3) (.slice ya4 e4 yk4) (.slice ya5 e5 yk5) G PG Z) := sm_mqX N.out MV.out fun k e f => by have := L3.out k e; have := Z4.out; have := Zxim.out; have := Zxinp.out; have := Z3.out; have := S4.out; omega
  replace O : Hid (Sm m2 _ (.slice za0 e0 zk0) (.slice za1 e1 zk1) (.slice za2 e2 zk2) (.slice za3 e3 zk3) (.slice za4 e4 zk4) (.slice za5 e5 zk5) G PG Z) := sm_mqX O.out MV.out fun k e f => by have := (L5.out k e).1; have := Z4.out; have := Zxim.out; have := Zxinp.out; have := Z3.out; have := S4.out; omega
  clear MK MV X D4 M4 Dim Jim Dinp Jinp
  have y0 := Y.out.cell 0 rfl
  have y1 := Y.out.cell 1 rfl
  have y2 := Y.out.cell 2 rfl
  have y3 := Y.out.cell 3 rfl
  have y4 := Y.out.cell 4 rfl
  have y5 := Y.out.cell 5 rfl
  have y6 := Y.out.cell 6 rfl
  have y7 := Y.out.cell 7 rfl
  have y8 := Y.out.cell 8 rfl
  have y9 := Y.out.cell 9 rfl
  have y10 := Y.out.cell 10 rfl
  have y11 := Y.out.cell 11 rfl
  have g0 := G5.out.cell 0 rfl
  have g1 := G5.out.cell 1 rfl
  have g2 := G5.out.cell 2 rfl
  have g3 := G5.out.cell 3 rfl
  have g4 := G5.out.cell 4 rfl
  have g5 := G5.out.cell 5 rfl
  have g6 := G5.out.cell 6 rfl
  have g7 := G5.out.cell 7 rfl
  have g8 := G5.out.cell 8 rfl
  have g9 := G5.out.cell 9 rfl
  have g10 := G5.out.cell 10 rfl
  have g11 := G5.out.cell 11 rfl
  go_wp2_with fail
  clear y0 y1 y2 y3 y4 y5 y6 y7 y8 y9 y10 y11 g0 g1 g2 g3 g4 g5 g6 g7 g8 g9 g10 g11
  refine (eq_sres _ _ _ _ _ _ _ _ _ _ _ _ _ G PG Z _ _ _ O.out.sr N.out.sr).mono ?_
  rintro e t1 ⟨rfl, bb⟩
  replace B : Hid (Below W.heap.size W t1) := on B.out bb
  replace Y : Hid (Vb t1 s3 #[.int .i64 C, .slice ya0 e0 yk0, .int .i64 G.pc, .slice ya1 e1 yk1, .bool G.halted, .bool G.waiting, .bool G.rung, .int .i64 G.done, .slice ya2 e2 yk2, .slice ya3 e3 yk3, .slice ya4 e4 yk4, .slice ya5 e5 yk5] 36) := Y.out.keep bb
  replace N : Hid (Sm t1 _ (.slice ya0 e0 yk0) (.slice ya1 e1 yk1) (.slice ya2 e2 yk2) (.slice ya3 e3 yk3) (.slice ya4 e4 yk4) (.slice ya5 e5 yk5) G PG Z) := N.out.keep bb
  replace G5 : Hid (Vb t1 s5 #[.int .i64 C, .slice za0 e0 zk0, .int .i64 G.pc, .slice za1 e1 zk1, .bool G.halted, .bool G.waiting, .bool G.rung, .int .i64 G.done, .slice za2 e2 zk2, .slice za3 e3 zk3, .slice za4 e4 zk4, .slice za5 e5 zk5] 36) := G5.out.keep bb
  replace O : Hid (Sm t1 _ (.slice za0 e0 zk0) (.slice za1 e1 zk1) (.slice za2 e2 zk2) (.slice za3 e3 zk3) (.slice za4 e4 zk4) (.slice za5 e5 zk5) G PG Z) := O.out.keep bb
  clear bb
  have g0 := G5.out.cell 0 rfl
  have g1 := G5.out.cell 1 rfl
  have g2 := G5.out.cell 2 rfl
  have g3 := G5.out.cell 3 rfl
  have g4 := G5.out.cell 4 rfl
  have g5 := G5.out.cell 5 rfl
  have g6 := G5.out.cell 6 rfl
  have g7 := G5.out.cell 7 rfl
  have g8 := G5.out.cell 8 rfl
  have g9 := G5.out.cell 9 rfl
  have g10 := G5.out.cell 10 rfl
  have g11 := G5.out.cell 11 rfl
  go_wp2_with fail
  clear g0 g1 g2 g3 g4 g5 g6 g7 g8 g9 g10 g11
  refine (mark_sres _ _ _ _ _ _ _ G PG Z 1 _ _ O.out (by decide) (by have := SY.out; omega)).mono ?_
  rintro e t2 ⟨rfl, n7, mq'⟩
  have MV : Hid (Mq (fun k => xinpw.heap.size ≤ k ∧ k < s5) t1 t2) := vo_widX mq' fun k e => L5.out k e
  have B' : Hid (Below W.heap.size W t2) := Mq.below B.out MV.out fun k e => by have := Bw3.out; have := Z4.out; have := Zxim.out; have := Zxinp.out; have := Z3.out; have := S4.out; omega
  replace Y : Hid (Vb t2 s3 #[.int .i64 C, .slice ya0 e0 yk0, .int .i64 G.pc, .slice ya1 e1 yk1, .bool G.halted, .bool G.waiting, .bool G.rung, .int .i64 G.done, .slice ya2 e2 yk2, .slice ya3 e3 yk3, .slice ya4 e4 yk4, .slice ya5 e5 yk5] 36) := MV.out.vb Y.out (by have := Z4.out; have := Zxim.out; have := Zxinp.out; have := Z3.out; have := S4.out; omega)
  replace G5 : Hid (Vb t2 s5 #[.int .i64 C, .slice za0 e0 zk0, .int .i64 G.pc, .slice za1 e1 zk1, .bool G.halted, .bool G.waiting, .bool G.rung, .int .i64 G.done, .slice za2 e2 zk2, .slice za3 e3 zk3, .slice za4 e4 zk4, .slice za5 e5 zk5] 36) := MV.out.vb G5.out (by omega)
  replace N : Hid (Sm t2 _ (.slice ya0 e0 yk0) (.slice ya1 e1 yk1) (.slice ya2 e2 yk2) (.slice ya3 e3 yk3) (.slice ya4 e4 yk4) (.slice ya5 e5 yk5) G PG Z) := sm_mqX N.out MV.out fun k e f => by have := L3.out k e; have := Z4.out; have := Zxim.out; have := Zxinp.out; have := Z3.out; have := S4.out; omega
  have O' : Hid (Sm t2 _ (.slice za0 e0 zk0) (.slice za1 e1 zk1) (.slice za2 e2 zk2) (.slice za3 e3 zk3) (.slice za4 e4 zk4) (.slice za5 e5 zk5) (mkH 1 G) (pmarks (1 + totH G) PG.length) (marks (1 + totH G + (2 * PG.length : Nat)) Z.length)) := n7
  clear B O MV n7 mq'
  have B := B'
  have O := O'
  clear B' O'
  rw [TG.out]
  have tp : 0 ≤ 1 + (totH G : Int) + (2 * PG.length : Nat) + (Z.length : Nat) := by omega
  obtain ⟨TT, hTT⟩ : ∃ t, 1 + (totH G : Int) + (2 * PG.length : Nat) + (Z.length : Nat) = t := ⟨_, rfl⟩
  have HTT : Hid (1 + (totH G : Int) + (2 * PG.length : Nat) + (Z.length : Nat) = TT) := hTT
  rw [hTT] at tp ⊢
  clear hTT
  have g0 := G5.out.cell 0 rfl
  have g1 := G5.out.cell 1 rfl
  have g2 := G5.out.cell 2 rfl
  have g3 := G5.out.cell 3 rfl
  have g4 := G5.out.cell 4 rfl
  have g5 := G5.out.cell 5 rfl
  have g6 := G5.out.cell 6 rfl
  have g7 := G5.out.cell 7 rfl
  have g8 := G5.out.cell 8 rfl
  have g9 := G5.out.cell 9 rfl
  have g10 := G5.out.cell 10 rfl
  have g11 := G5.out.cell 11 rfl
  go_wp2_with fail
  clear g0 g1 g2 g3 g4 g5 g6 g7 g8 g9 g10 g11
  refine (held_sres _ _ _ _ _ _ _ G PG.length Z.length 1 _ _ O.out.h O.out.pl O.out.mm (by decide) TL.out).mono ?_
  rintro e t3 ⟨rfl, bb⟩
  replace B : Hid (Below W.heap.size W t3) := on B.out bb
  replace Y : Hid (Vb t3 s3 #[.int .i64 C, .slice ya0 e0 yk0, .int .i64 G.pc, .slice ya1 e1 yk1, .bool G.halted, .bool G.waiting, .bool G.rung, .int .i64 G.done, .slice ya2 e2 yk2, .slice ya3 e3 yk3, .slice ya4 e4 yk4, .slice ya5 e5 yk5] 36) := Y.out.keep bb
  replace N : Hid (Sm t3 _ (.slice ya0 e0 yk0) (.slice ya1 e1 yk1) (.slice ya2 e2 yk2) (.slice ya3 e3 yk3) (.slice ya4 e4 yk4) (.slice ya5 e5 yk5) G PG Z) := N.out.keep bb
  replace G5 : Hid (Vb t3 s5 #[.int .i64 C, .slice za0 e0 zk0, .int .i64 G.pc, .slice za1 e1 zk1, .bool G.halted, .bool G.waiting, .bool G.rung, .int .i64 G.done, .slice za2 e2 zk2, .slice za3 e3 zk3, .slice za4 e4 zk4, .slice za5 e5 zk5] 36) := G5.out.keep bb
  replace O : Hid (Sm t3 _ (.slice za0 e0 zk0) (.slice za1 e1 zk1) (.slice za2 e2 zk2) (.slice za3 e3 zk3) (.slice za4 e4 zk4) (.slice za5 e5 zk5) (mkH 1 G) (pmarks (1 + totH G) PG.length) (marks (1 + totH G + (2 * PG.length : Nat)) Z.length)) := O.out.keep bb
  clear bb
  rw [HTT.out]
  have q0 := (Q.out.keep B.out).cell 0 rfl
  have q1 := (Q.out.keep B.out).cell 1 rfl
  have q2 := (Q.out.keep B.out).cell 2 rfl
  have q3 := (Q.out.keep B.out).cell 3 rfl
  go_wp2_with fail
  clear q0 q1 q2 q3
  refine (to_policy _ _ _ _ _ _ _ _ _ _ _ _ P _ (HP.out.stay B.out) SM.out).mono ?_
  rintro e whP ⟨h0, h1, h2, h3, rfl, mm, bb⟩
  have Mh : Hid (Mde whP _ h0 h1 h2 h3 n0 n1 n2 n3 P) := mm
  replace B : Hid (Below W.heap.size W whP) := on B.out bb
  replace Y : Hid (Vb whP s3 #[.int .i64 C, .slice ya0 e0 yk0, .int .i64 G.pc, .slice ya1 e1 yk1, .bool G.halted, .bool G.waiting, .bool G.rung, .int .i64 G.done, .slice ya2 e2 yk2, .slice ya3 e3 yk3, .slice ya4 e4 yk4, .slice ya5 e5 yk5] 36) := Y.out.keep bb
  replace N : Hid (Sm whP _ (.slice ya0 e0 yk0) (.slice ya1 e1 yk1) (.slice ya2 e2 yk2) (.slice ya3 e3 yk3) (.slice ya4 e4 yk4) (.slice ya5 e5 yk5) G PG Z) := N.out.keep bb
  replace G5 : Hid (Vb whP s5 #[.int .i64 C, .slice za0 e0 zk0, .int .i64 G.pc, .slice za1 e1 zk1, .bool G.halted, .bool G.waiting, .bool G.rung, .int .i64 G.done, .slice za2 e2 zk2, .slice za3 e3 zk3, .slice za4 e4 zk4, .slice za5 e5 zk5] 36) := G5.out.keep bb
  replace O : Hid (Sm whP _ (.slice za0 e0 zk0) (.slice za1 e1 zk1) (.slice za2 e2 zk2) (.slice za3 e3 zk3) (.slice za4 e4 zk4) (.slice za5 e5 zk5) (mkH 1 G) (pmarks (1 + totH G) PG.length) (marks (1 + totH G + (2 * PG.length : Nat)) Z.length)) := O.out.keep bb
  clear mm bb
  go_wp2_with fail
  refine (to_nums _ _ _ _ _ (HRim.out.stay B.out) SMim.out).mono ?_
  rintro e whim ⟨him, rfl, mm, bb⟩
  have Fhim : Hid (Nums whim _ (.slice (some ⟨him, 0, none⟩) iml iml) im) := mm
  replace Mh : Hid (Mde whim _ h0 h1 h2 h3 n0 n1 n2 n3 P) := Mh.out.keep bb
  replace B : Hid (Below W.heap.size W whim) := on B.out bb
  replace Y : Hid (Vb whim s3 #[.int .i64 C, .slice ya0 e0 yk0, .int .i64 G.pc, .slice ya1 e1 yk1, .bool G.halted, .bool G.waiting, .bool G.rung, .int .i64 G.done, .slice ya2 e2 yk2, .slice ya3 e3 yk3, .slice ya4 e4 yk4, .slice ya5 e5 yk5] 36) := Y.out.keep bb
  replace N : Hid (Sm whim _ (.slice ya0 e0 yk0) (.slice ya1 e1 yk1) (.slice ya2 e2 yk2) (.slice ya3 e3 yk3) (.slice ya4 e4 yk4) (.slice ya5 e5 yk5) G PG Z) := N.out.keep bb
  replace G5 : Hid (Vb whim s5 #[.int .i64 C, .slice za0 e0 zk0, .int .i64 G.pc, .slice za1 e1 zk1, .bool G.halted, .bool G.waiting, .bool G.rung, .int .i64 G.done, .slice za2 e2 zk2, .slice za3 e3 zk3, .slice za4 e4 zk4, .slice za5 e5 zk5] 36) := G5.out.keep bb
  replace O : Hid (Sm whim _ (.slice za0 e0 zk0) (.slice za1 e1 zk1) (.slice za2 e2 zk2) (.slice za3 e3 zk3) (.slice za4 e4 zk4) (.slice za5 e5 zk5) (mkH 1 G) (pmarks (1 + totH G) PG.length) (marks (1 + totH G + (2 * PG.length : Nat)) Z.length)) := O.out.keep bb
  clear mm bb
  go_wp2_with fail
  refine (to_nums _ _ _ _ _ (HRinp.out.stay B.out) SMinp.out).mono ?_
  rintro e whinp ⟨hinp, rfl, mm, bb⟩
  have Fhinp : Hid (Nums whinp _ (.slice (some ⟨hinp, 0, none⟩) inpl inpl) inp) := mm
  replace Mh : Hid (Mde whinp _ h0 h1 h2 h3 n0 n1 n2 n3 P) := Mh.out.keep bb
  replace Fhim : Hid (Nums whinp _ (.slice (some ⟨him, 0, none⟩) iml iml) im) := Fhim.out.keep bb
  replace B : Hid (Below W.heap.size W whinp) := on B.out bb
  replace Y : Hid (Vb whinp s3 #[.int .i64 C, .slice ya0 e0 yk0, .int .i64 G.pc, .slice ya1 e1 yk1, .bool G.halted, .bool G.waiting, .bool G.rung, .int .i64 G.done, .slice ya2 e2 yk2, .slice ya3 e3 yk3, .slice ya4 e4 yk4, .slice ya5 e5 yk5] 36) := Y.out.keep bb
  replace N : Hid (Sm whinp _ (.slice ya0 e0 yk0) (.slice ya1 e1 yk1) (.slice ya2 e2 yk2) (.slice ya3 e3 yk3) (.slice ya4 e4 yk4) (.slice ya5 e5 yk5) G PG Z) := N.out.keep bb
  replace G5 : Hid (Vb whinp s5 #[.int .i64 C, .slice za0 e0 zk0, .int .i64 G.pc, .slice za1 e1 zk1, .bool G.halted, .bool G.waiting, .bool G.rung, .int .i64 G.done, .slice za2 e2 zk2, .slice za3 e3 zk3, .slice za4 e4 zk4, .slice za5 e5 zk5] 36) := G5.out.keep bb
  replace O : Hid (Sm whinp _ (.slice za0 e0 zk0) (.slice za1 e1 zk1) (.slice za2 e2 zk2) (.slice za3 e3 zk3) (.slice za4 e4 zk4) (.slice za5 e5 zk5) (mkH 1 G) (pmarks (1 + totH G) PG.length) (marks (1 + totH G + (2 * PG.length : Nat)) Z.length)) := O.out.keep bb
  clear mm bb
  go_wp2_with fail
  have CALL := i_soloOf _ _ _ _ _ _ _ _ _ _ _ _ P gu _ _ _ im _ _ _ _ inp _ _ Mh.out.pl Fhim.out Fhinp.out (cell_keep B.out HG.out)
  rw [HCZ.out.1, HCZ.out.2.1, HCZ.out.2.2.1, HCZ.out.2.2.2] at CALL
  refine CALL.mono ?_
  clear CALL
  rintro e t6 ⟨_, _, _, _, _, _, rfl, sp, b7⟩
  obtain ⟨ta0, tk0, f0, _⟩ := sp.h.r.shape
  obtain ⟨ta1, tk1, f1, _⟩ := sp.h.c.shape
  obtain ⟨ta2, tk2, f2, _⟩ := sp.h.i.shape
  obtain ⟨ta3, tk3, f3, _⟩ := sp.h.o.shape
  obtain ⟨ta4, tk4, f4, _⟩ := sp.pl.shape
  obtain ⟨ta5, tk5, f5, _⟩ := sp.mm.shape
  subst f0 f1 f2 f3 f4 f5
  rw [LY.out.1, LY.out.2.1, LY.out.2.2.1, LY.out.2.2.2.1, LY.out.2.2.2.2.1, LY.out.2.2.2.2.2] at sp ⊢
  have WN : Hid (Below t6.heap.size t6 (t6.alloc (.cells #[.int .i64 C, .slice ta0 e0 tk0, .int .i64 G.pc, .slice ta1 e1 tk1, .bool G.halted, .bool G.waiting, .bool G.rung, .int .i64 G.done, .slice ta2 e2 tk2, .slice ta3 e3 tk3, .slice ta4 e4 tk4, .slice ta5 e5 tk5] 36))) := al (Below.refl _ _) _
  have H6 : Hid (Sm (t6.alloc (.cells #[.int .i64 C, .slice ta0 e0 tk0, .int .i64 G.pc, .slice ta1 e1 tk1, .bool G.halted, .bool G.waiting, .bool G.rung, .int .i64 G.done, .slice ta2 e2 tk2, .slice ta3 e3 tk3, .slice ta4 e4 tk4, .slice ta5 e5 tk5] 36)) _ (.slice ta0 e0 tk0) (.slice ta1 e1 tk1) (.slice ta2 e2 tk2) (.slice ta3 e3 tk3) (.slice ta4 e4 tk4) (.slice ta5 e5 tk5) G PG Z) := sp.keep WN.out
  replace B : Hid (Below W.heap.size W t6) := on B.out b7
  replace Y : Hid (Vb t6 s3 #[.int .i64 C, .slice ya0 e0 yk0, .int .i64 G.pc, .slice ya1 e1 yk1, .bool G.halted, .bool G.waiting, .bool G.rung, .int .i64 G.done, .slice ya2 e2 yk2, .slice ya3 e3 yk3, .slice ya4 e4 yk4, .slice ya5 e5 yk5] 36) := Y.out.keep b7
  replace N : Hid (Sm t6 _ (.slice ya0 e0 yk0) (.slice ya1 e1 yk1) (.slice ya2 e2 yk2) (.slice ya3 e3 yk3) (.slice ya4 e4 yk4) (.slice ya5 e5 yk5) G PG Z) := N.out.keep b7
  replace G5 : Hid (Vb t6 s5 #[.int .i64 C, .slice za0 e0 zk0, .int .i64 G.pc, .slice za1 e1 zk1, .bool G.halted, .bool G.waiting, .bool G.rung, .int .i64 G.done, .slice za2 e2 zk2, .slice za3 e3 zk3, .slice za4 e4 zk4, .slice za5 e5 zk5] 36) := G5.out.keep b7
  replace O : Hid (Sm t6 _ (.slice za0 e0 zk0) (.slice za1 e1 zk1) (.slice za2 e2 zk2) (.slice za3 e3 zk3) (.slice za4 e4 zk4) (.slice za5 e5 zk5) (mkH 1 G) (pmarks (1 + totH G) PG.length) (marks (1 + totH G + (2 * PG.length : Nat)) Z.length)) := O.out.keep b7
  have y0 := Y.out.cell 0 rfl
  have y1 := Y.out.cell 1 rfl
  have y2 := Y.out.cell 2 rfl
  have y3 := Y.out.cell 3 rfl
  have y4 := Y.out.cell 4 rfl
  have y5 := Y.out.cell 5 rfl
  have y6 := Y.out.cell 6 rfl
  have y7 := Y.out.cell 7 rfl
  have y8 := Y.out.cell 8 rfl
  have y9 := Y.out.cell 9 rfl
  have y10 := Y.out.cell 10 rfl
  have y11 := Y.out.cell 11 rfl
  have l6 : s3 < t6.heap.size := Y.out.lt
  clear sp b7 Mh Fhim Fhinp
  go_wp2_with fail
  clear y0 y1 y2 y3 y4 y5 y6 y7 y8 y9 y10 y11 l6
  refine (eq_sres _ _ _ _ _ _ _ _ _ _ _ _ _ G PG Z _ _ _ H6.out.sr (N.out.keep WN.out).sr).mono ?_
  rintro e t7 ⟨rfl, b8⟩
  have b7 := on WN.out b8
  replace B : Hid (Below W.heap.size W t7) := on B.out b7
  replace Y : Hid (Vb t7 s3 #[.int .i64 C, .slice ya0 e0 yk0, .int .i64 G.pc, .slice ya1 e1 yk1, .bool G.halted, .bool G.waiting, .bool G.rung, .int .i64 G.done, .slice ya2 e2 yk2, .slice ya3 e3 yk3, .slice ya4 e4 yk4, .slice ya5 e5 yk5] 36) := Y.out.keep b7
  replace N : Hid (Sm t7 _ (.slice ya0 e0 yk0) (.slice ya1 e1 yk1) (.slice ya2 e2 yk2) (.slice ya3 e3 yk3) (.slice ya4 e4 yk4) (.slice ya5 e5 yk5) G PG Z) := N.out.keep b7
  replace G5 : Hid (Vb t7 s5 #[.int .i64 C, .slice za0 e0 zk0, .int .i64 G.pc, .slice za1 e1 zk1, .bool G.halted, .bool G.waiting, .bool G.rung, .int .i64 G.done, .slice za2 e2 zk2, .slice za3 e3 zk3, .slice za4 e4 zk4, .slice za5 e5 zk5] 36) := G5.out.keep b7
  replace O : Hid (Sm t7 _ (.slice za0 e0 zk0) (.slice za1 e1 zk1) (.slice za2 e2 zk2) (.slice za3 e3 zk3) (.slice za4 e4 zk4) (.slice za5 e5 zk5) (mkH 1 G) (pmarks (1 + totH G) PG.length) (marks (1 + totH G + (2 * PG.length : Nat)) Z.length)) := O.out.keep b7
  clear b7 b8 WN H6
  have g0 := G5.out.cell 0 rfl
  have g1 := G5.out.cell 1 rfl
  have g2 := G5.out.cell 2 rfl
  have g3 := G5.out.cell 3 rfl
  have g4 := G5.out.cell 4 rfl
  have g5 := G5.out.cell 5 rfl
  have g6 := G5.out.cell 6 rfl
  have g7 := G5.out.cell 7 rfl
  have g8 := G5.out.cell 8 rfl
  have g9 := G5.out.cell 9 rfl
  have g10 := G5.out.cell 10 rfl
  have g11 := G5.out.cell 11 rfl
  go_wp2_with fail
  clear g0 g1 g2 g3 g4 g5 g6 g7 g8 g9 g10 g11
  refine (held_sres _ _ _ _ _ _ _ G PG.length Z.length 1 _ _ O.out.h O.out.pl O.out.mm (by decide) TL.out).mono ?_
  rintro e t8 ⟨rfl, b8⟩
  rw [HTT.out]
  go_wp2_with fail
  go_ret
  exact ⟨rfl, on B0.out (on B.out b8)⟩
end Go.Proofs.YtbegbphbcjoglaaGreatDoor.fnExactSoloOfDone
