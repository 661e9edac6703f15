/- Texts of this seat, joined. -/
import Derived.Deep.RegionLaw
import Derived.Deep.RegionHeld3
import Derived.BigQuiet
import Derived.Deep.RegionWith
import Derived.Deep.Cut
import Derived.Deep.CutRange
import Derived.Test.YtdhdfopkcpkbeaaGreatDoorQ07
import Derived.Test.YtdhdfopkcpkbeaaGreatDoorQ28
import Derived.Test.YtdhdfopkcpkbeaaGreatDoorQ33
import Derived.Test.YtdhdfopkcpkbeaaGreatDoorQ41
import Derived.Test.YtdhdfopkcpkbeaaGreatDoorQ42
namespace Go.Proofs.YtdhdfopkcpkbeaaGreatDoor
open Go.RowKit
set_option linter.unusedVariables false

set_option maxRecDepth 20000 in
set_option maxHeartbeats 4000000 in
theorem i_free (a0 a1 a2 a3 : Option Addr) (n0 c0 n1 c1 n2 c2 n3 c3 : Nat) (P : Plc) (w : World) (h : Pl w a0 n0 c0 a1 n1 c1 a2 n2 c2 a3 n3 c3 P) (hg : w.cell? ⟨0, 0, none⟩ = some (.iface 157 (.agg #[.pointer (some ⟨1, 91, none⟩)]))) :
    Calls Tryz.prog 13 #[.agg #[.slice a0 n0 c0, .slice a1 n1 c1, .slice a2 n2 c2, .slice a3 n3 c3]] w fun e w' => ∃ v, e = .returned (.agg #[.int .i64 (freeC P), v]) ∧ Nums w' w.heap.size v (freeZ P) ∧ Below w.heap.size w w' := by
  generalize hW : ((w.alloc (.cells #[.slice a0 n0 c0, .slice a1 n1 c1, .slice a2 n2 c2, .slice a3 n3 c3] 29))).alloc (.cells #[.int .i64 0, .slice none 0 0] 42) = W
  have B0 : Hid (Below w.heap.size w W) := by show Below _ _ _; rw [← hW]; exact al (al (Below.refl _ _) _) _
  obtain ⟨s, hS⟩ : ∃ s, w.heap.size = s := ⟨_, rfl⟩
  have HSs : Hid (w.heap.size = s) := hS
  have Q : Hid (W.cell? ⟨s, 0, none⟩ = some (.slice a0 n0 c0) ∧ W.cell? ⟨s, 1, none⟩ = some (.slice a1 n1 c1) ∧ W.cell? ⟨s, 2, none⟩ = some (.slice a2 n2 c2) ∧ W.cell? ⟨s, 3, none⟩ = some (.slice a3 n3 c3)) := by
    show _ ∧ _
    rw [← hW, ← hS]
    exact ⟨cell_push _ (cell_new rfl), cell_push _ (cell_new rfl), cell_push _ (cell_new rfl), cell_push _ (cell_new rfl)⟩
  have R : Hid (RsI W s) := by
    have z1 : s + 1 = ((w.alloc (.cells #[.slice a0 n0 c0, .slice a1 n1 c1, .slice a2 n2 c2, .slice a3 n3 c3] 29))).heap.size := by rw [← hS]; simp
    show RsI W s
    unfold RsI
    rw [← hW, z1]
    exact ⟨cell_new rfl, cell_new rfl, fz_new _ _ _ _, fz_new _ _ _ _, by simp⟩
  have HP : Hid (Pl W a0 n0 c0 a1 n1 c1 a2 n2 c2 a3 n3 c3 P) := h.stay B0.out
  have HA : Hid (PolAt W s P) := ⟨_, _, _, _, _, _, _, _, _, _, _, _, Q.out.1, Q.out.2.1, Q.out.2.2.1, Q.out.2.2.2, HP.out⟩
  have HG : Hid (_ = _) := cell_keep B0.out hg
  clear h hg
  have q0 := Q.out.1
  have q1 := Q.out.2.1
  have q2 := Q.out.2.2.1
  have q3 := Q.out.2.2.2
  go_enter Tryz.func13, Tryz.ntmps13
  go_wp2_with fail
  clear hW hS
  refine (impl_policy _ _ _ _ _ _ _ _ _ _ _ _ P _ HP.out HG.out).mono ?_
  rintro e w1 ⟨rfl, b1⟩
  by_cases hz : pfV P = 0
  · have ZV : Hid (freeZ P = freeUp P 24) := by show _ = _; rw [freeZ, if_pos hz]
    have AZ : Hid (freeC P = 0) := hz
    rw [hz]
    have B1 : Hid (Below w.heap.size w w1) := on B0.out b1
    have HPw : Hid (Pl w1 a0 n0 c0 a1 n1 c1 a2 n2 c2 a3 n3 c3 P) := HP.out.stay b1
    have R1 : Hid (RsI w1 s) := R.out.keep b1
    have Q1 : Hid (w1.cell? ⟨s, 0, none⟩ = some (.slice a0 n0 c0) ∧ w1.cell? ⟨s, 1, none⟩ = some (.slice a1 n1 c1) ∧ w1.cell? ⟨s, 2, none⟩ = some (.slice a2 n2 c2) ∧ w1.cell? ⟨s, 3, none⟩ = some (.slice a3 n3 c3)) := ⟨cell_keep b1 Q.out.1, cell_keep b1 Q.out.2.1, cell_keep b1 Q.out.2.2.1, cell_keep b1 Q.out.2.2.2⟩
    clear b1 hz q0 q1 q2 q3
    go_wp2_with fail
    go_loopw [4, 5, 12] (fun v _ c wr => ∃ j : Nat, j ≤ 24 ∧ c = .int .i64 j ∧ Nums wr w1.heap.size v (freeUp P j) ∧ Below w1.heap.size w1 wr) (fun _ _ c _ => 24 - (intOf c).toNat)
    case atStart => exact ⟨0, Nat.zero_le _, rfl, Nums.nil _ _, Below.refl _ _⟩
    case round =>
      obtain ⟨j, hj, rfl, hN, hB⟩ := hrel
      have HN : Hid (Nums wr _ _ (freeUp P j)) := hN
      have HB : Hid (Below _ w1 wr) := hB
      obtain ⟨ya, yc, hzz, _, _, _⟩ := hN.shape
      have HLN : Hid ((freeUp P j).length ≤ 24) := by have := freeUp_len P j; show _ ≤ _; omega
      generalize (freeUp P j).length = un at hzz
      subst hzz
      by_cases hlt : j < 24
      · have hI : (j : Int) < 24 := by omega
        have HL : Hid (j < 24) := hlt
        have q0 := cell_keep hB Q1.out.1
        have q1 := cell_keep hB Q1.out.2.1
        have q2 := cell_keep hB Q1.out.2.2.1
        have q3 := cell_keep hB Q1.out.2.2.2
        have FYH : Hid (ownerFrom 0 P.own (j : Int) = -1 → laneHas P.lanes (j : Int) = false → freeUp P (j + 1) = freeUp P j ++ [(j : Int)]) := freeUp_yes P j
        have FN1H : Hid (¬ ownerFrom 0 P.own (j : Int) = -1 → freeUp P (j + 1) = freeUp P j) := freeUp_no1 P j
        have FN2H : Hid (laneHas P.lanes (j : Int) = true → freeUp P (j + 1) = freeUp P j) := freeUp_no2 P j
        clear hN hB hlt
        go_wp2_with fail
        refine (i_owner _ _ _ _ _ _ _ _ _ _ _ _ P _ _ (HPw.out.stay HB.out)).mono ?_
        rintro e w2 ⟨rfl, b2⟩
        have B2 : Hid (Below _ w1 w2) := on HB.out b2
        have N2 : Hid (Nums w2 _ _ (freeUp P j)) := HN.out.keep b2
        clear b2
        by_cases ho : ownerFrom 0 P.own (j : Int) = -1
        · have q0 := cell_keep B2.out Q1.out.1
          have q1 := cell_keep B2.out Q1.out.2.1
          have q2 := cell_keep B2.out Q1.out.2.2.1
          have q3 := cell_keep B2.out Q1.out.2.2.2
          rw [ho]
          have FY2 := FYH.out ho
          clear ho FYH FN1H
          go_wp2_with fail
          refine (i_lanePg _ _ _ _ _ _ _ _ _ _ _ _ P _ _ (HPw.out.stay B2.out)).mono ?_
          rintro e w3 ⟨rfl, b3⟩
          have B3 : Hid (Below _ w1 w3) := on B2.out b3
          have N3 : Hid (Nums w3 _ _ (freeUp P j)) := N2.out.keep b3
          have SZ : Hid (w1.heap.size ≤ w3.heap.size) := B3.out.size
          clear b3 q0 q1 q2 q3
          generalize laneHas P.lanes (j : Int) = lh at *
          cases lh
          · have S2 : Hid (freeUp P (j + 1) = freeUp P j ++ [(j : Int)]) := FY2 rfl
            clear FY2
            go_wp2_with (at_builtin; refine wp_appn _ rfl _ _ rfl w1.heap.size _ _ rfl (N3.out.keep (al (Below.refl _ _) _)) w3.heap.size 1 1 [(j : Int)] rfl rfl (one_at (cell_new rfl)) (by have := HLN.out; simp; omega) (by have := SZ.out; simp; omega) ?_; intro v' w' hN' hG')
            have N' : Hid (Nums w' _ v' _) := hN'
            have B' : Hid (Below w1.heap.size w1 w') := (al B3.out _).grown hG' (by have := SZ.out; simp; omega) (fun k hk => (N3.out.lt k hk).1)
            clear hN' hG'
            go_wp2_with fail
            go_roundw
            case rel => exact ⟨j + 1, by have := HL.out; omega, by go_num, by rw [S2.out]; exact N'.out, B'.out⟩
            case measure => have := HL.out; simp [intOf]; omega
          · have S2 : Hid (freeUp P (j + 1) = freeUp P j) := FN2H.out rfl
            clear FY2
            go_wp2_with fail
            go_roundw
            case rel => exact ⟨j + 1, by have := HL.out; omega, by go_num, by rw [S2.out]; exact N3.out, B3.out⟩
            case measure => have := HL.out; simp [intOf]; omega
        · have S2 : Hid (freeUp P (j + 1) = freeUp P j) := FN1H.out ho
          have OR := owner_range P.own (j : Int) 0 (by omega)
          clear q0 q1 q2 q3 FYH FN1H FN2H
          generalize ownerFrom 0 P.own (j : Int) = ow at *
          have hw1 : (ow == -1) = false := by simpa using ho
          clear OR
          go_wp2_with fail
          go_roundw
          case rel => exact ⟨j + 1, by have := HL.out; omega, by go_num, by rw [S2.out]; exact N2.out, B2.out⟩
          case measure => have := HL.out; simp [intOf]; omega
      · have hI : ¬ (j : Int) < 24 := by omega
        obtain rfl : j = 24 := by omega
        obtain ⟨r0, r1, f0, f1, lt⟩ := R1.out.keep hB
        have LT : Hid (s + 1 < w1.heap.size) := R1.out.2.2.2.2
        clear hN hB hlt
        go_wp2_with fail
        refine bodyPost_ret (v := .agg #[.int .i64 0, .slice ya un yc]) (by simp [results, Tryz.results13, go_sem, r0, r1]) rfl ⟨.slice ya un yc, by rw [AZ.out], ?_, ((on B1.out HB.out).setCell (by have := HSs.out; show w.heap.size ≤ s + 1; omega) _).setCell (by have := HSs.out; show w.heap.size ≤ s + 1; omega) _⟩
        have ne : (Value.slice ya un yc).ownBlock ≠ some (s + 1) := fun e => by have := (HN.out.lt _ e).1; have := LT.out; omega
        rw [ZV.out]
        exact ((HN.out.put ⟨s + 1, 0, none⟩ (.int .i64 0) ne).put ⟨s + 1, 1, none⟩ (.slice ya un yc) ne).mono (by have := B1.out.size; omega)
  · have ZV : Hid (freeZ P = []) := by show _ = _; rw [freeZ, if_neg hz]
    obtain ⟨r0, r1, f0, f1, lt⟩ := R.out.keep b1
    have B1 : Hid (Below w.heap.size w w1) := on B0.out b1
    generalize hv : pfV P = v at *
    have HV : Hid (freeC P = v) := hv
    clear b1
    go_wp2_with fail
    exact bodyPost_ret (v := .agg #[.int .i64 v, .slice none 0 0]) (by simp [results, Tryz.results13, go_sem, r0, r1]) rfl ⟨.slice none 0 0, by rw [HV.out], by rw [ZV.out]; exact Nums.nil _ _, (B1.out.setCell (by have := HSs.out; show w.heap.size ≤ s + 1; omega) _).setCell (by have := HSs.out; show w.heap.size ≤ s + 1; omega) _⟩
end Go.Proofs.YtdhdfopkcpkbeaaGreatDoor
namespace Go.Proofs.YtdhdfopkcpkbeaaGreatDoor
open Go.RowKit
set_option linter.unusedVariables false

theorem i_wordsOn (gm n cap b : Nat) (ms : List Int) (ap : Option Addr) (lp cp : Nat) (ps : List Int) (w : World) (h : Nums w b (.slice (some ⟨gm, 0, none⟩) n cap) ms) (hm : ms.length = 192) (hp : IsNs w ap lp cp ps) (hr : ∀ x ∈ ps, 0 ≤ x ∧ x ≤ 23) (hl : 1 ≤ ps.length ∧ ps.length ≤ 5) :
    Calls Tryz.prog 32 #[.slice (some ⟨gm, 0, none⟩) n cap, .slice ap lp cp] w fun e w' => ∃ v, e = .returned v ∧ Nums w' w.heap.size v (wordsL ms ps) ∧ Below w.heap.size w w' :=
  i_wordsN gm n cap b ms ap lp cp ps w h 24 (by decide) (by decide) (by omega) hp (fun x hx => by have := hr x hx; omega) hl.2
set_option maxRecDepth 20000 in
set_option maxHeartbeats 4000000 in
theorem i_wordsOf (a0 a1 a2 a3 : Option Addr) (n0 c0 n1 c1 n2 c2 n3 c3 : Nat) (P : Plc) (b lm cm : Nat) (gm : Nat) (ms : List Int) (gu : Int) (w : World) (h : Pl w a0 n0 c0 a1 n1 c1 a2 n2 c2 a3 n3 c3 P) (hm : Nums w b (.slice (some ⟨gm, 0, none⟩) lm cm) ms) (hg : w.cell? ⟨0, 0, none⟩ = some (.iface 157 (.agg #[.pointer (some ⟨1, 91, none⟩)]))) :
    Calls Tryz.prog 10 #[.agg #[.slice a0 n0 c0, .slice a1 n1 c1, .slice a2 n2 c2, .slice a3 n3 c3], .slice (some ⟨gm, 0, none⟩) lm cm, .int .i64 gu] w fun e w' => ∃ v, e = .returned (.agg #[.int .i64 (wordsC P ms gu), v]) ∧ Nums w' w.heap.size v (wordsZ P ms gu) ∧ Below w.heap.size w w' := by
  generalize hW : ((w.alloc (.cells #[.slice a0 n0 c0, .slice a1 n1 c1, .slice a2 n2 c2, .slice a3 n3 c3] 29))).alloc (.cells #[.int .i64 0, .slice none 0 0] 42) = W
  have B0 : Hid (Below w.heap.size w W) := by show Below _ _ _; rw [← hW]; exact al (al (Below.refl _ _) _) _
  obtain ⟨s, hS⟩ : ∃ s, w.heap.size = s := ⟨_, rfl⟩
  have HSs : Hid (w.heap.size = s) := hS
  have Q : Hid (W.cell? ⟨s, 0, none⟩ = some (.slice a0 n0 c0) ∧ W.cell? ⟨s, 1, none⟩ = some (.slice a1 n1 c1) ∧ W.cell? ⟨s, 2, none⟩ = some (.slice a2 n2 c2) ∧ W.cell? ⟨s, 3, none⟩ = some (.slice a3 n3 c3)) := by
    show _ ∧ _
    rw [← hW, ← hS]
    exact ⟨cell_push _ (cell_new rfl), cell_push _ (cell_new rfl), cell_push _ (cell_new rfl), cell_push _ (cell_new rfl)⟩
  have R : Hid (RsI W s) := by
    have z1 : s + 1 = ((w.alloc (.cells #[.slice a0 n0 c0, .slice a1 n1 c1, .slice a2 n2 c2, .slice a3 n3 c3] 29))).heap.size := by rw [← hS]; simp
    show RsI W s
    unfold RsI
    rw [← hW, z1]
    exact ⟨cell_new rfl, cell_new rfl, fz_new _ _ _ _, fz_new _ _ _ _, by simp⟩
  have HP : Hid (Pl W a0 n0 c0 a1 n1 c1 a2 n2 c2 a3 n3 c3 P) := h.stay B0.out
  have HA : Hid (PolAt W s P) := ⟨_, _, _, _, _, _, _, _, _, _, _, _, Q.out.1, Q.out.2.1, Q.out.2.2.1, Q.out.2.2.2, HP.out⟩
  have HM : Hid (Nums W b (.slice (some ⟨gm, 0, none⟩) lm cm) ms) := hm.keep B0.out
  have HG : Hid (_ = _) := cell_keep B0.out hg
  clear h hg hm
  have q0 := Q.out.1
  have q1 := Q.out.2.1
  have q2 := Q.out.2.2.1
  have q3 := Q.out.2.2.2
  go_enter Tryz.func10, Tryz.ntmps10
  go_wp2_with fail
  clear hW hS
  refine (i_asked _ _ _ _ _ _ _ _ _ _ _ _ P _ _ HP.out HG.out).mono ?_
  rintro e w1 ⟨rfl, b1⟩
  have B1 : Hid (Below w.heap.size w w1) := on B0.out b1
  have R1 : Hid (RsI w1 s) := R.out.keep b1
  obtain ⟨r0, r1, f0, f1, lt⟩ := R1.out
  have Q1 : Hid (w1.cell? ⟨s, 0, none⟩ = some (.slice a0 n0 c0) ∧ w1.cell? ⟨s, 1, none⟩ = some (.slice a1 n1 c1)) := ⟨cell_keep b1 Q.out.1, cell_keep b1 Q.out.2.1⟩
  have HPw : Hid (Pl w1 a0 n0 c0 a1 n1 c1 a2 n2 c2 a3 n3 c3 P) := HP.out.stay b1
  have HMw : Hid (Nums w1 b (.slice (some ⟨gm, 0, none⟩) lm cm) ms) := HM.out.keep b1
  clear b1 q0 q1 q2 q3
  by_cases hz : askV P gu = 0
  case neg =>
    have CV : Hid (wordsC P ms gu = askV P gu) := by show _ = _; rw [wordsC, if_neg hz]
    have ZV : Hid (wordsZ P ms gu = []) := by show _ = _; rw [wordsZ, if_neg (by rw [CV.out]; exact hz)]
    generalize hv : askV P gu = v at *
    go_wp2_with fail
    exact bodyPost_ret (v := .agg #[.int .i64 v, .slice none 0 0]) (by simp [results, Tryz.results10, go_sem, r0, r1]) rfl ⟨.slice none 0 0, by rw [CV.out], by rw [ZV.out]; exact Nums.nil _ _, (B1.out.setCell (by have := HSs.out; show w.heap.size ≤ s + 1; omega) _).setCell (by have := HSs.out; show w.heap.size ≤ s + 1; omega) _⟩
  have AZ : Hid (askV P gu = 0) := hz
  have GU : Hid (0 ≤ gu ∧ gu < P.own.length) := ask_guest P gu hz
  obtain ⟨g, rfl⟩ := Int.eq_ofNat_of_zero_le GU.out.1
  have HGN : Hid (g < n0) := by have := HPw.out.own.len; have := GU.out.2; show _ < _; omega
  have hgI : (g : Int) < (n0 : Int) := by have := HGN.out; omega
  have hn0 : (n0 : Int) ≤ 9223372036854775807 := by have := HPw.out.own.cap; unfold maxLen at this; omega
  cases hw : wholeB ms with
  | false =>
    have CV : Hid (wordsC P ms (g : Int) = 1) := by show _ = _; rw [wordsC, if_pos AZ.out, hw]; rfl
    have ZV : Hid (wordsZ P ms (g : Int) = []) := by show _ = _; rw [wordsZ, if_neg (by rw [CV.out]; decide)]
    rw [hz]
    clear hz
    go_wp2_with (go_at_call 31; refine (i_whole _ ms b _ HMw.out).mono ?_; rintro e w1 ⟨rfl, rfl⟩; rw [hw])
    exact bodyPost_ret (v := .agg #[.int .i64 1, .slice none 0 0]) (by simp [results, Tryz.results10, go_sem, r0, r1]) rfl ⟨.slice none 0 0, by rw [CV.out], by rw [ZV.out]; exact Nums.nil _ _, (B1.out.setCell (by have := HSs.out; show w.heap.size ≤ s + 1; omega) _).setCell (by have := HSs.out; show w.heap.size ≤ s + 1; omega) _⟩
  | true =>
    have CV : Hid (wordsC P ms (g : Int) = 0) := by show _ = _; rw [wordsC, if_pos AZ.out, hw]; rfl
    have hwW : wholeB ms = true := hw
    have HWW : Hid (wholeB ms = true) := hw
    clear hwW
    rw [hz]
    clear hz
    obtain ⟨x, bb, ll, cc, rfl, k1, k2⟩ := HPw.out.own.at g HGN.out
    have NSP : Hid (IsNs w1 bb ll cc (P.own.getD g [])) := k2
    have OW : Hid (1 ≤ (P.own.getD g []).length ∧ (P.own.getD g []).length ≤ 5 ∧ ∀ x ∈ P.own.getD g [], 0 ≤ x ∧ x ≤ 23) := pf_own P (ask_pf P (g : Int) AZ.out) g (by have := GU.out; omega)
    have ZV : Hid (wordsZ P ms (g : Int) = wordsL ms (P.own.getD g [])) := by show _ = _; rw [wordsZ, if_pos CV.out, Int.toNat_natCast]
    have q0 := Q1.out.1
    generalize P.own.getD g [] = ow at *
    clear k2
    go_wp2_with (go_at_call 31; refine (i_whole _ ms b _ HMw.out).mono ?_; rintro e w1 ⟨rfl, rfl⟩; rw [hw])
    have hwW := HWW.out
    refine (i_wordsOn _ _ _ _ _ _ _ _ _ _ HMw.out (by unfold wholeB at hwW; simp at hwW; exact hwW.1) NSP.out OW.out.2.2 ⟨OW.out.1, OW.out.2.1⟩).mono ?_
    rintro e w2 ⟨v, rfl, n2', b2⟩
    clear hwW
    have B2 : Hid (Below w.heap.size w w2) := on B1.out b2
    have D2 : Hid (Below w1.heap.size w1 w2) := b2
    obtain ⟨ya, yc, hv, _, _, _⟩ := n2'.shape
    have NN : Hid (Nums w2 w.heap.size v (wordsL ms ow)) := n2'.mono (B1.out.size)
    have NL : Hid (∀ k, v.ownBlock = some k → w1.heap.size ≤ k) := fun k e => (n2'.lt k e).1
    have LT : Hid (s + 1 < w1.heap.size) := R1.out.2.2.2.2
    generalize (wordsL ms ow).length = ln at hv
    subst hv
    obtain ⟨r0, r1, f0, f1, lt⟩ := R1.out.keep D2.out
    clear b2 n2'
    go_wp2_with fail
    refine bodyPost_ret (v := .agg #[.int .i64 0, .slice ya ln yc]) (by simp [results, Tryz.results10, go_sem, r0, r1]) rfl ⟨.slice ya ln yc, by rw [CV.out], ?_, (B2.out.setCell (by have := HSs.out; show w.heap.size ≤ s + 1; omega) _).setCell (by have := HSs.out; show w.heap.size ≤ s + 1; omega) _⟩
    have ne : (Value.slice ya ln yc).ownBlock ≠ some (s + 1) := fun e => by have := NL.out _ e; have := LT.out; omega
    rw [ZV.out]
    exact (NN.out.put ⟨s + 1, 0, none⟩ (.int .i64 0) ne).put ⟨s + 1, 1, none⟩ (.slice ya ln yc) ne

end Go.Proofs.YtdhdfopkcpkbeaaGreatDoor
namespace Go.Proofs.YtdhdfopkcpkbeaaGreatDoor
open Go.RowKit
set_option linter.unusedVariables false

theorem imgC_len (own iss : List (List Int)) (h : ¬ iss.length = own.length) : imgC own iss = 2 := by rw [imgC, if_neg h]
theorem imgC_bad (own iss : List (List Int)) (h : iss.length = own.length) (j : Nat) (hj : j < iss.length) (hb : badAt own iss j = true) : imgC own iss = 8 := by rw [imgC, if_pos h, sizes_bad own iss j hb _ hj]
theorem imgC_good (own iss : List (List Int)) (h : iss.length = own.length) (hb : ∀ j, j < iss.length → badAt own iss j = false) : imgC own iss = 0 := by rw [imgC, if_pos h, sizes_good own iss _ hb]
theorem imgC_ok (own iss : List (List Int)) (h : imgC own iss = 0) : iss.length = own.length ∧ ∀ j, j < iss.length → (iss.getD j []).length ≤ (own.getD j []).length * 8 := by
  unfold imgC at h
  split at h
  · rename_i h1
    refine ⟨h1, fun j hj => ?_⟩
    have := sizes_all own iss _ h j hj
    unfold badAt at this
    have := of_decide_eq_false this
    omega
  · cases h
theorem bad_iff (own iss : List (List Int)) (j : Nat) : badAt own iss j = decide ((own.getD j []).length * 8 < (iss.getD j []).length) := rfl

set_option maxRecDepth 20000 in
set_option maxHeartbeats 4000000 in
theorem l7_images (q : Nat) (P : Plc) (ai : Option Addr) (ni ci : Nat) (iss : List (List Int)) (w : World) (h : PolAt w q P) (hi : IsS2 w ai ni ci iss) (hp : pfV P = 0) :
    Calls Tryz.prog 28 #[.pointer (some ⟨q, 0, none⟩), .slice ai ni ci] w fun e w' => e = .returned (.int .i64 (imgC P.own iss)) ∧ Below w.heap.size w w' := by
  obtain ⟨a0, n0, c0, a1, n1, c1, a2, n2, c2, a3, n3, c3, h0, h1, h2, h3, h4⟩ := h
  have H0 : Hid (w.cell? ⟨q, 0, none⟩ = some (.slice a0 n0 c0)) := h0
  have HO : Hid (IsS2 w a0 n0 c0 P.own) := h4.own
  have HI : Hid (IsS2 w ai ni ci iss) := hi
  have HL0 : Hid (n0 = P.own.length) := h4.own.len
  have HLI : Hid (ni = iss.length) := hi.len
  have hn0 : (n0 : Int) ≤ 3 := by have := h4.own.len; have := (pf_parts P hp).1; omega
  have hniM : (ni : Int) ≤ 9223372036854775807 := by have := hi.cap; unfold maxLen at this; omega
  have OW : Hid (∀ j, j < n0 → (P.own.getD j []).length ≤ 5) := fun j hj => (pf_own P hp j (by have := HL0.out; omega)).2.1
  clear h1 h2 h3 h4 hi hp
  by_cases hne : ni = n0
  case neg =>
    have V : Hid (imgC P.own iss = 2) := imgC_len _ _ (by have := HL0.out; have := HLI.out; omega)
    have hneI : ¬ (ni : Int) = (n0 : Int) := by omega
    go_enter Tryz.func28, Tryz.ntmps28
    go_wp2_with fail
    go_ret
    rw [V.out]
    exact ⟨rfl, Below.refl _ _⟩
  have HEQ : Hid (iss.length = P.own.length) := by show _ = _; have := HL0.out; have := HLI.out; omega
  subst hne
  go_enter Tryz.func28, Tryz.ntmps28
  go_wp2_with fail
  clear h0
  go_loopw [5] (fun c wr => ∃ j : Nat, j ≤ ni ∧ c = .int .i64 j ∧ Below w.heap.size w wr ∧ Hid (∀ i, i < j → badAt P.own iss i = false)) (fun c _ => ni - (intOf c).toNat)
  case atStart => exact ⟨0, Nat.zero_le _, rfl, Below.refl _ _, fun i hi => absurd hi (Nat.not_lt_zero _)⟩
  case round =>
    obtain ⟨j, hj, rfl, hB, hI⟩ := hrel
    have HB : Hid (Below _ w wr) := hB
    by_cases hlt : j < ni
    · obtain ⟨x, b, l, c, rfl, k1, k2⟩ := (HO.out.stay hB).at j hlt
      obtain ⟨y, b2, l2, c2, rfl, m1, m2⟩ := (HI.out.stay hB).at j hlt
      have h0 := cell_keep hB H0.out
      have hJ : (j : Int) < (ni : Int) := by omega
      have HLT : Hid (j < ni) := hlt
      have E1 : Hid (l = (P.own.getD j []).length) := k2.len
      have E2 : Hid (l2 = (iss.getD j []).length) := m2.len
      have hl5 : (l : Int) ≤ 5 := by have := k2.len; have := OW.out j hlt; omega
      have hl2M : (l2 : Int) ≤ 9223372036854775807 := by have := m2.cap; unfold maxLen at this; omega
      have BD : Hid (badAt P.own iss j = decide (l * 8 < l2)) := by show _ = _; rw [bad_iff, ← E1.out, ← E2.out]
      clear k2 m2 hB hlt
      have hw : IntKind.i64.wrap ((l : Int) * 8) = (l : Int) * 8 := by rw [IntKind.wrap_i64]; omega
      by_cases hb : l * 8 < l2
      · have hbI : (l : Int) * 8 < (l2 : Int) := by omega
        have V : Hid (imgC P.own iss = 8) := imgC_bad _ _ HEQ.out j (by have := HLT.out; have := HLI.out; omega) (by rw [BD.out]; exact decide_eq_true hb)
        clear hb BD
        go_wp2_with fail
        go_quiet (fail)
        go_wp2_with fail
        go_ret
        rw [V.out]
        exact ⟨rfl, dr HB.out _⟩
      · have hbI : ¬ (l : Int) * 8 < (l2 : Int) := by omega
        have S2 : Hid (∀ i, i < j + 1 → badAt P.own iss i = false) := fun i hi => by
          rcases Nat.lt_or_ge i j with h | h
          · exact hI.out i h
          · obtain rfl : i = j := by omega
            rw [BD.out]
            exact decide_eq_false hb
        clear hb BD
        go_wp2_with fail
        go_quiet (fail)
        go_wp2_with fail
        go_roundw
        case rel => exact ⟨j + 1, by have := HLT.out; omega, by go_num, dr HB.out _, S2⟩
        case measure => have := HLT.out; simp [intOf]; omega
    · have hJ : ¬ (j : Int) < (ni : Int) := by omega
      have V : Hid (imgC P.own iss = 0) := imgC_good _ _ HEQ.out (fun i hi => hI.out i (by have := HLI.out; omega))
      clear hlt hB
      go_wp2_with fail
      go_ret
      rw [V.out]
      exact ⟨rfl, HB.out⟩

set_option maxRecDepth 20000 in
set_option maxHeartbeats 8000000 in
theorem l7_load (q : Nat) (P : Plc) (ai : Option Addr) (ni ci : Nat) (iss : List (List Int)) (w : World) (h : PolAt w q P) (hi : IsS2 w ai ni ci iss) (hp : pfV P = 0) (hc : imgC P.own iss = 0) :
    Calls Tryz.prog 29 #[.pointer (some ⟨q, 0, none⟩), .slice ai ni ci] w fun e w' => ∃ v, e = .returned v ∧ Nums w' w.heap.size v (allM P.own iss (List.replicate 192 0) iss.length) ∧ Below w.heap.size w w' := by
  obtain ⟨i0, hi0, hz0, hz1, hz2⟩ := info_parts info_i64
  obtain ⟨a0, n0, c0, a1, n1, c1, a2, n2, c2, a3, n3, c3, h0, h1, h2, h3, h4⟩ := h
  have H0 : Hid (w.cell? ⟨q, 0, none⟩ = some (.slice a0 n0 c0)) := h0
  have HO : Hid (IsS2 w a0 n0 c0 P.own) := h4.own
  have HI : Hid (IsS2 w ai ni ci iss) := hi
  have HL0 : Hid (n0 = P.own.length) := h4.own.len
  have HLI : Hid (ni = iss.length) := hi.len
  have hn0 : (n0 : Int) ≤ 3 := by have := h4.own.len; have := (pf_parts P hp).1; omega
  have HNN : Hid (ni = n0) := by show _ = _; have := HL0.out; have := HLI.out; have := (imgC_ok _ _ hc).1; omega
  have hniI : (ni : Int) ≤ 3 := by have := HNN.out; omega
  have OW : Hid (∀ j, j < n0 → (P.own.getD j []).length ≤ 5 ∧ ∀ x ∈ P.own.getD j [], 0 ≤ x ∧ x ≤ 23) := fun j hj => (pf_own P hp j (by have := HL0.out; omega)).2
  have IL : Hid (∀ j, j < ni → (iss.getD j []).length ≤ (P.own.getD j []).length * 8) := fun j hj => (imgC_ok _ _ hc).2 j (by have := HLI.out; omega)
  have AL : Hid (∀ j, (allM P.own iss (List.replicate 192 0) j).length = 192) := fun j => by rw [allM_len, List.length_replicate]
  have AS : Hid (∀ j, allM P.own iss (List.replicate 192 0) (j + 1) = layM (P.own.getD j []) (iss.getD j []) (allM P.own iss (List.replicate 192 0) j) (iss.getD j []).length) := fun _ => rfl
  have A0 : Hid (allM P.own iss (List.replicate 192 0) 0 = List.replicate 192 0) := rfl
  generalize allM P.own iss (List.replicate 192 0) = A at *
  clear h0 h1 h2 h3 h4 hi hp hc
  go_enter Tryz.func29, Tryz.ntmps29
  go_wp2_with (at_make; refine wpList_make_full _ rfl _ _ 32 rfl w.heap.size 2 i0 _ 1 Tryz.underlying32 hi0 hz0 hz1 _ _ _ _ 192 rfl rfl rfl rfl (by rw [hz2]; omega) (by unfold maxLen; omega) (Nat.le_refl _) ?_; intro w1 hown hgrow)
  have N1 : Hid (Nums w1 w.heap.size (.slice (some ⟨w.heap.size, 0, none⟩) 192 192) (List.replicate 192 0)) := Nums.made hown (by rw [Nat.mul_one, show (Value.int .i64 0).cells = #[.int .i64 0] from rfl, toList_madeCells_one, List.map_replicate])
  have B1 : Hid (Below w.heap.size w w1) := (Below.refl _ _).grown hgrow (Nat.le_refl _) (by simp)
  clear hown hgrow hi0 hz0 hz1 hz2
  go_wp2_with fail
  go_loopw [6, 7, 8] (fun c _ _ wr => ∃ j : Nat, j ≤ ni ∧ c = .int .i64 j ∧ Nums wr w.heap.size (.slice (some ⟨w.heap.size, 0, none⟩) 192 192) (A j) ∧ Below w.heap.size w wr) (fun c _ _ _ => ni - (intOf c).toNat)
  case atStart => exact ⟨0, Nat.zero_le _, rfl, by rw [A0.out]; exact N1.out, B1.out⟩
  case round =>
    obtain ⟨j, hj, rfl, hN, hB⟩ := hrel
    have HN : Hid (Nums wr _ _ (A j)) := hN
    have HB : Hid (Below _ w wr) := hB
    by_cases hlt : j < ni
    · have hltn : j < n0 := by have := HNN.out; omega
      obtain ⟨x, b, l, c, rfl, k1, k2⟩ := HO.out.at j hltn
      obtain ⟨y, b2, l2, c2, rfl, m1, m2⟩ := HI.out.at j hlt
      have hJ : (j : Int) < (ni : Int) := by omega
      have hJ0 : (j : Int) < (n0 : Int) := by omega
      have HLT : Hid (j < ni) := hlt
      have K1 : Hid (w.cell? (x.add j) = some (.slice b l c)) := k1
      have MM1 : Hid (w.cell? (y.add j) = some (.slice b2 l2 c2)) := m1
      have HOW : Hid (IsNs w b l c (P.own.getD j [])) := k2
      have HIM : Hid (IsNs w b2 l2 c2 (iss.getD j [])) := m2
      have E1 : Hid (l = (P.own.getD j []).length ∧ l ≤ 5) := ⟨k2.len, by have := k2.len; have := (OW.out j hltn).1; omega⟩
      have E2 : Hid (l2 = (iss.getD j []).length ∧ l2 ≤ l * 8) := ⟨m2.len, by have := m2.len; have := k2.len; have := IL.out j hlt; omega⟩
      have hl5 : (l : Int) ≤ 5 := by have := E1.out.2; omega
      have hl2 : (l2 : Int) ≤ 40 := by have := E1.out.2; have := E2.out.2; omega
      have RN : Hid (∀ x ∈ P.own.getD j [], 0 ≤ x ∧ x ≤ 23) := (OW.out j hltn).2
      have A1 : Hid (A (j + 1) = layM (P.own.getD j []) (iss.getD j []) (A j) l2) := by show _ = _; rw [AS.out, ← E2.out.1]
      have ML : Hid (∀ i, (layM (P.own.getD j []) (iss.getD j []) (A j) i).length = 192) := fun i => by rw [layM_len]; exact AL.out j
      have MS : Hid (∀ i, layM (P.own.getD j []) (iss.getD j []) (A j) (i + 1) = (layM (P.own.getD j []) (iss.getD j []) (A j) i).set (((P.own.getD j []).getD (i / 8) 0).toNat * 8 + i % 8) (wd ((iss.getD j []).getD i 0))) := fun _ => rfl
      have M0 : Hid (layM (P.own.getD j []) (iss.getD j []) (A j) 0 = A j) := rfl
      generalize layM (P.own.getD j []) (iss.getD j []) (A j) = M at *
      generalize P.own.getD j [] = ow at *
      generalize iss.getD j [] = img at *
      have m1 := cell_keep hB MM1.out
      clear k1 k2 m2 hN hB hlt hltn
      go_wp2_with fail
      clear m1
      go_loopw [7, 8] (fun c _ wq => ∃ k : Nat, k ≤ l2 ∧ c = .int .i64 k ∧ Nums wq w.heap.size (.slice (some ⟨w.heap.size, 0, none⟩) 192 192) (M k) ∧ Below w.heap.size w wq) (fun c _ _ => l2 - (intOf c).toNat)
      case atStart => exact ⟨0, Nat.zero_le _, rfl, by rw [M0.out]; exact HN.out, HB.out⟩
      case round =>
        clear HN HB
        obtain ⟨k, hk, rfl, hN, hB⟩ := hrel
        have HN : Hid (Nums wr _ _ (M k)) := hN
        have HB : Hid (Below _ w wr) := hB
        have m1 := cell_keep hB MM1.out
        by_cases hks : k < l2
        · have h0 := cell_keep hB H0.out
          have k1 := cell_keep hB K1.out
          have HK : Hid (k < l2) := hks
          have hK : (k : Int) < (l2 : Int) := by omega
          rcases HOW.out.stay hB with ⟨_, e1, _, _⟩ | ⟨yo, rfl, e1, e2, e3, e4⟩
          · have := E2.out.2; omega
          rcases HIM.out.stay hB with ⟨_, f1, _, _⟩ | ⟨yi, rfl, f1, f2, f3, f4⟩
          · omega
          have hk8 : k / 8 < l := by have := E2.out.2; omega
          have d0 := e4 (k / 8) hk8
          have g0 := f4 k hks
          have hin := RN.out _ (getD_mem ow 0 (k / 8) (by have := E1.out.1; omega))
          have MS2 := MS.out k
          obtain ⟨z, hz⟩ : ∃ z, ow.getD (k / 8) 0 = z := ⟨_, rfl⟩
          rw [hz] at d0 hin MS2
          clear hz
          obtain ⟨p, rfl⟩ := Int.eq_ofNat_of_zero_le hin.1
          rw [Int.toNat_natCast] at MS2
          generalize img.getD k 0 = xv at *
          obtain ⟨kd, hkd⟩ : ∃ kd, k / 8 = kd := ⟨_, rfl⟩
          obtain ⟨km, hkm⟩ : ∃ km, k % 8 = km := ⟨_, rfl⟩
          obtain ⟨at0, hat⟩ : ∃ at0, p * 8 + km = at0 := ⟨_, rfl⟩
          rw [hkm, hat] at MS2
          rw [hkd] at d0 hk8
          have hA192 : at0 < 192 := by omega
          have hA : (at0 : Int) < 192 := by omega
          have hkdI : (kd : Int) < (l : Int) := by omega
          have td : Int.tdiv (k : Int) 8 = (kd : Int) := by rw [← hkd]; simp
          have tm : Int.tmod (k : Int) 8 = (km : Int) := by rw [← hkm, Int.tmod_eq_emod_of_nonneg (by omega)]; omega
          have hadd : (p : Int) * 8 + (km : Int) = (at0 : Int) := by omega
          have hpI : (p : Int) ≤ 23 := by omega
          have hmI : (km : Int) < 8 := by omega
          have c0 := hN.cell (by rw [ML.out]) at0 hA192
          have fz := hN.free (by rw [ML.out]) at0
          have S2 : Hid (M (k + 1) = (M k).set at0 (wd xv)) := MS2
          have ST : Hid (Nums (wr.setCell ⟨w.heap.size, at0, none⟩ (.int .i64 (wd xv))) w.heap.size (.slice (some ⟨w.heap.size, 0, none⟩) 192 192) (M (k + 1))) := by
            have := (hN.store at0 (wd xv)).1
            rw [← MS2] at this
            exact this
          generalize (M k).getD at0 0 = oldv at *
          clear e1 e2 e3 e4 f1 f2 f3 f4 hin MS2 hkd hkm hat hks hN hB hA192 hk8
          go_wp2_with (go_at_call 54; refine (spec_wrap7 _ _).mono ?_; rintro e w9 ⟨rfl, hw9⟩; subst hw9)
          go_roundw
          case rel => exact ⟨k + 1, by have := HK.out; omega, by go_num, ST.out, HB.out.setCell (by simp) _⟩
          case measure => have := HK.out; simp [intOf]; omega
        · have hK : ¬ (k : Int) < (l2 : Int) := by omega
          have HK : Hid (k = l2) := by show _ = _; omega
          clear hN hB hks
          go_wp2_with fail
          go_roundw
          case rel => exact ⟨j + 1, by have := HLT.out; omega, by go_num, by rw [A1.out, ← HK.out]; exact HN.out, HB.out⟩
          case measure => have := HLT.out; simp [intOf]; omega
    · have hJ : ¬ (j : Int) < (ni : Int) := by omega
      have HJ : Hid (j = iss.length) := by show _ = _; have := HLI.out; omega
      clear hlt hN hB
      go_wp2_with fail
      go_ret
      refine ⟨_, rfl, ?_, HB.out⟩
      rw [← HJ.out]
      exact HN.out

set_option maxRecDepth 20000 in
set_option maxHeartbeats 8000000 in
theorem s_load (a0 a1 a2 a3 : Option Addr) (n0 c0 n1 c1 n2 c2 n3 c3 : Nat) (P : Plc) (ai : Option Addr) (ni ci : Nat) (iss : List (List Int)) (w : World) (h : Pl w a0 n0 c0 a1 n1 c1 a2 n2 c2 a3 n3 c3 P) (hi : IsS2 w ai ni ci iss) :
    Calls Tryz.prog 9 #[.agg #[.slice a0 n0 c0, .slice a1 n1 c1, .slice a2 n2 c2, .slice a3 n3 c3], .slice ai ni ci] w fun e w' => ∃ v, e = .returned (.agg #[.int .i64 (loadC P iss), v]) ∧ Nums w' w.heap.size v (loadZ P iss) ∧ Below w.heap.size w w' := by
  generalize hW : ((w.alloc (.cells #[.slice a0 n0 c0, .slice a1 n1 c1, .slice a2 n2 c2, .slice a3 n3 c3] 29))).alloc (.cells #[.int .i64 0, .slice none 0 0] 34) = W
  have B0 : Hid (Below w.heap.size w W) := by show Below _ _ _; rw [← hW]; exact al (al (Below.refl _ _) _) _
  obtain ⟨s, hS⟩ : ∃ s, w.heap.size = s := ⟨_, rfl⟩
  have HSs : Hid (w.heap.size = s) := hS
  have Q : Hid (W.cell? ⟨s, 0, none⟩ = some (.slice a0 n0 c0) ∧ W.cell? ⟨s, 1, none⟩ = some (.slice a1 n1 c1) ∧ W.cell? ⟨s, 2, none⟩ = some (.slice a2 n2 c2) ∧ W.cell? ⟨s, 3, none⟩ = some (.slice a3 n3 c3)) := by
    show _ ∧ _
    rw [← hW, ← hS]
    exact ⟨cell_push _ (cell_new rfl), cell_push _ (cell_new rfl), cell_push _ (cell_new rfl), cell_push _ (cell_new rfl)⟩
  have R : Hid (RsI W s) := by
    have z1 : s + 1 = ((w.alloc (.cells #[.slice a0 n0 c0, .slice a1 n1 c1, .slice a2 n2 c2, .slice a3 n3 c3] 29))).heap.size := by rw [← hS]; simp
    show RsI W s
    unfold RsI
    rw [← hW, z1]
    exact ⟨cell_new rfl, cell_new rfl, fz_new _ _ _ _, fz_new _ _ _ _, by simp⟩
  have HP : Hid (Pl W a0 n0 c0 a1 n1 c1 a2 n2 c2 a3 n3 c3 P) := h.stay B0.out
  have HA : Hid (PolAt W s P) := ⟨_, _, _, _, _, _, _, _, _, _, _, _, Q.out.1, Q.out.2.1, Q.out.2.2.1, Q.out.2.2.2, HP.out⟩
  have HI : Hid (IsS2 W ai ni ci iss) := hi.stay B0.out
  clear h hi
  have q0 := Q.out.1
  have q1 := Q.out.2.1
  have q2 := Q.out.2.2.1
  have q3 := Q.out.2.2.2
  go_enter Tryz.func9, Tryz.ntmps9
  go_wp2_with fail
  clear hW hS
  refine (l6_fault _ P _ HA.out).mono ?_
  rintro e w1 ⟨rfl, b1⟩
  have BX : Hid (Below w.heap.size w w1) := on B0.out b1
  have R1 : Hid (RsI w1 s) := R.out.keep b1
  obtain ⟨r0, r1, f0, f1, lt⟩ := R1.out
  have Q1 : Hid (w1.cell? ⟨s, 0, none⟩ = some (.slice a0 n0 c0)) := cell_keep b1 Q.out.1
  have HPw : Hid (Pl w1 a0 n0 c0 a1 n1 c1 a2 n2 c2 a3 n3 c3 P) := HP.out.stay b1
  have HAw : Hid (PolAt w1 s P) := HA.out.stay b1
  have HIw : Hid (IsS2 w1 ai ni ci iss) := HI.out.stay b1
  clear b1 q0 q1 q2 q3
  by_cases hz : pfV P = 0
  case neg =>
    have CV : Hid (loadC P iss = pfV P) := by show _ = _; rw [loadC, if_neg hz]
    have ZV : Hid (loadZ P iss = []) := by show _ = _; rw [loadZ, if_neg (by rw [CV.out]; exact hz)]
    generalize hv : pfV P = v at *
    go_wp2_with fail
    exact bodyPost_ret (v := .agg #[.int .i64 v, .slice none 0 0]) (by simp [results, Tryz.results9, go_sem, r0, r1]) rfl ⟨.slice none 0 0, by rw [CV.out], by rw [ZV.out]; exact Nums.nil _ _, (BX.out.setCell (by have := HSs.out; show w.heap.size ≤ s + 1; omega) _).setCell (by have := HSs.out; show w.heap.size ≤ s + 1; omega) _⟩
  have PZ : Hid (pfV P = 0) := hz
  have CE : Hid (loadC P iss = imgC P.own iss) := by show _ = _; rw [loadC, if_pos hz]
  rw [hz]
  clear hz
  go_wp2_with fail
  refine (l7_images _ P _ _ _ _ _ HAw.out HIw.out PZ.out).mono ?_
  rintro e w2 ⟨rfl, b2⟩
  have HBJ : Hid (Below w1.heap.size w1 w2) := b2
  by_cases hc : imgC P.own iss = 0
  case neg =>
    have CV : Hid (loadC P iss = imgC P.own iss) := CE
    have ZV : Hid (loadZ P iss = []) := by show _ = _; rw [loadZ, if_neg (by rw [CV.out]; exact hc)]
    obtain ⟨r0, r1, f0, f1, lt⟩ := R1.out.keep b2
    have BX : Hid (Below w.heap.size w w2) := on BX.out b2
    clear b2
    generalize hv : imgC P.own iss = v at *
    go_wp2_with fail
    exact bodyPost_ret (v := .agg #[.int .i64 v, .slice none 0 0]) (by simp [results, Tryz.results9, go_sem, r0, r1]) rfl ⟨.slice none 0 0, by rw [CV.out], by rw [ZV.out]; exact Nums.nil _ _, (BX.out.setCell (by have := HSs.out; show w.heap.size ≤ s + 1; omega) _).setCell (by have := HSs.out; show w.heap.size ≤ s + 1; omega) _⟩
  have CV : Hid (loadC P iss = 0) := by show _ = _; rw [CE.out, hc]
  have ZV : Hid (loadZ P iss = allM P.own iss (List.replicate 192 0) iss.length) := by show _ = _; rw [loadZ, if_pos CV.out]
  have CZ : Hid (imgC P.own iss = 0) := hc
  rw [hc]
  have HA2 : Hid (PolAt w2 s P) := HAw.out.stay b2
  have HI2 : Hid (IsS2 w2 ai ni ci iss) := HIw.out.stay b2
  clear hc b2
  go_wp2_with fail
  refine (l7_load _ P _ _ _ _ _ HA2.out HI2.out PZ.out CZ.out).mono ?_
  rintro e w3 ⟨v, rfl, n2', b3⟩
  have B3 : Hid (Below w.heap.size w w3) := on BX.out (on HBJ.out b3)
  have D3 : Hid (Below w1.heap.size w1 w3) := on HBJ.out b3
  obtain ⟨ya, yc, hv, _, _, _⟩ := n2'.shape
  have NN : Hid (Nums w3 w.heap.size v (allM P.own iss (List.replicate 192 0) iss.length)) := n2'.mono (Nat.le_trans BX.out.size HBJ.out.size)
  have NL : Hid (∀ k, v.ownBlock = some k → w1.heap.size ≤ k) := fun k e => Nat.le_trans HBJ.out.size (n2'.lt k e).1
  have LT : Hid (s + 1 < w1.heap.size) := R1.out.2.2.2.2
  generalize (allM P.own iss (List.replicate 192 0) iss.length).length = ln at hv
  subst hv
  obtain ⟨r0, r1, f0, f1, lt⟩ := R1.out.keep D3.out
  clear b3 n2'
  go_wp2_with fail
  refine bodyPost_ret (v := .agg #[.int .i64 0, .slice ya ln yc]) (by simp [results, Tryz.results9, go_sem, r0, r1]) rfl ⟨.slice ya ln yc, by rw [CV.out], ?_, (B3.out.setCell (by have := HSs.out; show w.heap.size ≤ s + 1; omega) _).setCell (by have := HSs.out; show w.heap.size ≤ s + 1; omega) _⟩
  have ne : (Value.slice ya ln yc).ownBlock ≠ some (s + 1) := fun e => by have := NL.out _ e; have := LT.out; omega
  rw [ZV.out]
  exact (NN.out.put ⟨s + 1, 0, none⟩ (.int .i64 0) ne).put ⟨s + 1, 1, none⟩ (.slice ya ln yc) ne

set_option maxRecDepth 20000 in
set_option maxHeartbeats 8000000 in
theorem i_load (a0 a1 a2 a3 : Option Addr) (n0 c0 n1 c1 n2 c2 n3 c3 : Nat) (P : Plc) (ai : Option Addr) (ni ci : Nat) (iss : List (List Int)) (w : World) (h : Pl w a0 n0 c0 a1 n1 c1 a2 n2 c2 a3 n3 c3 P) (hi : IsS2 w ai ni ci iss) (hg : w.cell? ⟨0, 0, none⟩ = some (.iface 157 (.agg #[.pointer (some ⟨1, 91, none⟩)]))) :
    Calls Tryz.prog 6 #[.agg #[.slice a0 n0 c0, .slice a1 n1 c1, .slice a2 n2 c2, .slice a3 n3 c3], .slice ai ni ci] w fun e w' => ∃ v, e = .returned (.agg #[.int .i64 (loadC P iss), v]) ∧ Nums w' w.heap.size v (loadZ P iss) ∧ Below w.heap.size w w' := by
  generalize hW : ((w.alloc (.cells #[.slice a0 n0 c0, .slice a1 n1 c1, .slice a2 n2 c2, .slice a3 n3 c3] 29))).alloc (.cells #[.int .i64 0, .slice none 0 0] 34) = W
  have B0 : Hid (Below w.heap.size w W) := by show Below _ _ _; rw [← hW]; exact al (al (Below.refl _ _) _) _
  obtain ⟨s, hS⟩ : ∃ s, w.heap.size = s := ⟨_, rfl⟩
  have HSs : Hid (w.heap.size = s) := hS
  have Q : Hid (W.cell? ⟨s, 0, none⟩ = some (.slice a0 n0 c0) ∧ W.cell? ⟨s, 1, none⟩ = some (.slice a1 n1 c1) ∧ W.cell? ⟨s, 2, none⟩ = some (.slice a2 n2 c2) ∧ W.cell? ⟨s, 3, none⟩ = some (.slice a3 n3 c3)) := by
    show _ ∧ _
    rw [← hW, ← hS]
    exact ⟨cell_push _ (cell_new rfl), cell_push _ (cell_new rfl), cell_push _ (cell_new rfl), cell_push _ (cell_new rfl)⟩
  have R : Hid (RsI W s) := by
    have z1 : s + 1 = ((w.alloc (.cells #[.slice a0 n0 c0, .slice a1 n1 c1, .slice a2 n2 c2, .slice a3 n3 c3] 29))).heap.size := by rw [← hS]; simp
    show RsI W s
    unfold RsI
    rw [← hW, z1]
    exact ⟨cell_new rfl, cell_new rfl, fz_new _ _ _ _, fz_new _ _ _ _, by simp⟩
  have HP : Hid (Pl W a0 n0 c0 a1 n1 c1 a2 n2 c2 a3 n3 c3 P) := h.stay B0.out
  have HA : Hid (PolAt W s P) := ⟨_, _, _, _, _, _, _, _, _, _, _, _, Q.out.1, Q.out.2.1, Q.out.2.2.1, Q.out.2.2.2, HP.out⟩
  have HI : Hid (IsS2 W ai ni ci iss) := hi.stay B0.out
  have HG : Hid (_ = _) := cell_keep B0.out hg
  clear h hg hi
  have q0 := Q.out.1
  have q1 := Q.out.2.1
  have q2 := Q.out.2.2.1
  have q3 := Q.out.2.2.2
  go_enter Tryz.func6, Tryz.ntmps6
  go_wp2_with fail
  clear hW hS
  refine (impl_policy _ _ _ _ _ _ _ _ _ _ _ _ P _ HP.out HG.out).mono ?_
  rintro e w1 ⟨rfl, b1⟩
  have BX : Hid (Below w.heap.size w w1) := on B0.out b1
  have R1 : Hid (RsI w1 s) := R.out.keep b1
  obtain ⟨r0, r1, f0, f1, lt⟩ := R1.out
  have Q1 : Hid (w1.cell? ⟨s, 0, none⟩ = some (.slice a0 n0 c0)) := cell_keep b1 Q.out.1
  have HPw : Hid (Pl w1 a0 n0 c0 a1 n1 c1 a2 n2 c2 a3 n3 c3 P) := HP.out.stay b1
  have HAw : Hid (PolAt w1 s P) := HA.out.stay b1
  have HIw : Hid (IsS2 w1 ai ni ci iss) := HI.out.stay b1
  clear b1 q0 q1 q2 q3
  by_cases hz : pfV P = 0
  case neg =>
    have CV : Hid (loadC P iss = pfV P) := by show _ = _; rw [loadC, if_neg hz]
    have ZV : Hid (loadZ P iss = []) := by show _ = _; rw [loadZ, if_neg (by rw [CV.out]; exact hz)]
    generalize hv : pfV P = v at *
    go_wp2_with fail
    exact bodyPost_ret (v := .agg #[.int .i64 v, .slice none 0 0]) (by simp [results, Tryz.results6, go_sem, r0, r1]) rfl ⟨.slice none 0 0, by rw [CV.out], by rw [ZV.out]; exact Nums.nil _ _, (BX.out.setCell (by have := HSs.out; show w.heap.size ≤ s + 1; omega) _).setCell (by have := HSs.out; show w.heap.size ≤ s + 1; omega) _⟩
  have PZ : Hid (pfV P = 0) := hz
  have CE : Hid (loadC P iss = imgC P.own iss) := by show _ = _; rw [loadC, if_pos hz]
  rw [hz]
  clear hz
  obtain ⟨i0, hi0, hz0, hz1, hz2⟩ := info_parts info_wpage
  have HL0 : Hid (n0 = P.own.length) := HPw.out.own.len
  have HLI : Hid (ni = iss.length) := HIw.out.len
  have hn0 : (n0 : Int) ≤ 3 := by have := HL0.out; have := (pf_parts P PZ.out).1; omega
  have hniM : (ni : Int) ≤ 9223372036854775807 := by have := HIw.out.cap; unfold maxLen at this; omega
  have OW : Hid (∀ j, j < n0 → (P.own.getD j []).length ≤ 5 ∧ ∀ x ∈ P.own.getD j [], 0 ≤ x ∧ x ≤ 23) := fun j hj => (pf_own P PZ.out j (by have := HL0.out; omega)).2
  have q0 := Q1.out
  by_cases hne : ni = n0
  case neg =>
    have CV : Hid (loadC P iss = 2) := by show _ = _; rw [CE.out]; exact imgC_len _ _ (by have := HL0.out; have := HLI.out; omega)
    have ZV : Hid (loadZ P iss = []) := by show _ = _; rw [loadZ, if_neg (by rw [CV.out]; decide)]
    have hneI : ¬ (ni : Int) = (n0 : Int) := by omega
    clear hi0 hz0 hz1 hz2
    go_wp2_with fail
    exact bodyPost_ret (v := .agg #[.int .i64 2, .slice none 0 0]) (by simp [results, Tryz.results6, go_sem, r0, r1]) rfl ⟨.slice none 0 0, by rw [CV.out], by rw [ZV.out]; exact Nums.nil _ _, (BX.out.setCell (by have := HSs.out; show w.heap.size ≤ s + 1; omega) _).setCell (by have := HSs.out; show w.heap.size ≤ s + 1; omega) _⟩
  have HEQ : Hid (iss.length = P.own.length) := by show _ = _; have := HL0.out; have := HLI.out; omega
  subst hne
  go_wp2_with fail
  clear q0
  go_loop [6, 7, 26] (fun _ _ c => ∃ j : Nat, j ≤ ni ∧ c = .int .i64 j ∧ Hid (∀ i, i < j → badAt P.own iss i = false)) (fun _ _ c => ni - (intOf c).toNat)
  case atStart => exact ⟨0, Nat.zero_le _, rfl, fun i hi => absurd hi (Nat.not_lt_zero _)⟩
  case round =>
    obtain ⟨j, hj, rfl, hI⟩ := hrel
    by_cases hlt : j < ni
    · obtain ⟨x, b, l, c, rfl, k1, k2⟩ := HPw.out.own.at j hlt
      obtain ⟨y, b2, l2, c2, rfl, m1, m2⟩ := HIw.out.at j hlt
      have q0 := Q1.out
      have hJ : (j : Int) < (ni : Int) := by omega
      have HLT : Hid (j < ni) := hlt
      have E1 : Hid (l = (P.own.getD j []).length) := k2.len
      have E2 : Hid (l2 = (iss.getD j []).length) := m2.len
      have hl5 : (l : Int) ≤ 5 := by have := k2.len; have := (OW.out j hlt).1; omega
      have hl2M : (l2 : Int) ≤ 9223372036854775807 := by have := m2.cap; unfold maxLen at this; omega
      have BD : Hid (badAt P.own iss j = decide (l * 8 < l2)) := by show _ = _; rw [bad_iff, ← E1.out, ← E2.out]
      clear k2 m2 hlt
      by_cases hb : l * 8 < l2
      · have hbI : (l : Int) * 8 < (l2 : Int) := by omega
        have CV : Hid (loadC P iss = 8) := by show _ = _; rw [CE.out]; exact imgC_bad _ _ HEQ.out j (by have := HLT.out; have := HLI.out; omega) (by rw [BD.out]; exact decide_eq_true hb)
        have ZV : Hid (loadZ P iss = []) := by show _ = _; rw [loadZ, if_neg (by rw [CV.out]; decide)]
        clear hb BD hi0 hz0 hz1 hz2
        go_wp2_with fail
        exact bodyPost_ret (v := .agg #[.int .i64 8, .slice none 0 0]) (by simp [results, Tryz.results6, go_sem, r0, r1]) rfl ⟨.slice none 0 0, by rw [CV.out], by rw [ZV.out]; exact Nums.nil _ _, (BX.out.setCell (by have := HSs.out; show w.heap.size ≤ s + 1; omega) _).setCell (by have := HSs.out; show w.heap.size ≤ s + 1; omega) _⟩
      · have hbI : ¬ (l : Int) * 8 < (l2 : Int) := by omega
        have S2 : Hid (∀ i, i < j + 1 → badAt P.own iss i = false) := fun i hi => by
          rcases Nat.lt_or_ge i j with h | h
          · exact hI.out i h
          · obtain rfl : i = j := by omega
            rw [BD.out]
            exact decide_eq_false hb
        clear hb BD hi0 hz0 hz1 hz2
        go_wp2_with fail
        go_round
        case rel => exact ⟨j + 1, by have := HLT.out; omega, by go_num, S2⟩
        case measure => have := HLT.out; simp [intOf]; omega
    · have hJ : ¬ (j : Int) < (ni : Int) := by omega
      have CZ : Hid (imgC P.own iss = 0) := imgC_good _ _ HEQ.out (fun i hi => hI.out i (by have := HLI.out; omega))
      have CV : Hid (loadC P iss = 0) := by show _ = _; rw [CE.out, CZ.out]
      have ZV : Hid (loadZ P iss = allM P.own iss (List.replicate 192 0) iss.length) := by show _ = _; rw [loadZ, if_pos CV.out]
      have IL : Hid (∀ j, j < ni → (iss.getD j []).length ≤ (P.own.getD j []).length * 8) := fun j hj => (imgC_ok _ _ CZ.out).2 j (by have := HLI.out; omega)
      clear hlt hI
      go_wp2_with (at_make; refine wpList_make_full _ rfl _ _ 58 rfl w1.heap.size 94 i0 _ 8 Tryz.underlying58 hi0 hz0 hz1 _ _ _ _ 24 rfl rfl rfl rfl (by rw [hz2]; omega) (by unfold maxLen; omega) (Nat.le_refl _) ?_; intro w2 hown hgrow)
      have P2 : Hid (Pags w2 w1.heap.size (.slice (some ⟨w1.heap.size, 0, none⟩) 24 24) 24 (List.replicate 192 0)) := by
        show Pags _ _ _ _ _
        unfold Pags
        rw [show (Value.agg (Array.replicate 8 (.int .i64 0))).cells = Array.replicate 8 (.int .i64 0) from rfl, made_replicate _ _ _ (by decide)] at hown
        simpa using hown
      have B2 : Hid (Below w1.heap.size w1 w2) := (Below.refl _ _).grown hgrow (Nat.le_refl _) (by simp)
      clear hown hgrow hi0 hz0 hz1 hz2
      go_wp2_with fail
      go_loopw [9, 10, 46] (fun _ _ c wr => ∃ j : Nat, j ≤ ni ∧ c = .int .i64 j ∧ Pags wr w1.heap.size (.slice (some ⟨w1.heap.size, 0, none⟩) 24 24) 24 (allM P.own iss (List.replicate 192 0) j) ∧ Below w1.heap.size w1 wr) (fun _ _ c _ => ni - (intOf c).toNat)
      case atStart => exact ⟨0, Nat.zero_le _, rfl, P2.out, B2.out⟩
      case round =>
        clear P2 B2
        obtain ⟨j, hj, rfl, hN, hB⟩ := hrel
        have HN : Hid (Pags wr _ _ 24 (allM P.own iss (List.replicate 192 0) j)) := hN
        have HB : Hid (Below _ w1 wr) := hB
        by_cases hlt : j < ni
        · obtain ⟨x, b, l, c, rfl, k1, k2⟩ := HPw.out.own.at j hlt
          obtain ⟨y, b2, l2, c2, rfl, m1, m2⟩ := HIw.out.at j hlt
          have q0 := cell_keep hB Q1.out
          have k1 := cell_keep hB k1
          have m1 := cell_keep hB m1
          have hJ3 : (j : Int) < (ni : Int) := by omega
          have HLT : Hid (j < ni) := hlt
          have CL := i_layImage w1.heap.size w1.heap.size _ b l c _ b2 l2 c2 _ w1 wr hN hB (Nat.le_refl _) k2 m2 (OW.out j hlt).2 (OW.out j hlt).1
          rw [show min (8 * (P.own.getD j []).length) (iss.getD j []).length = (iss.getD j []).length by have := IL.out j hlt; omega] at CL
          clear k2 m2 hN hB hlt
          go_wp2_with fail
          refine CL.mono ?_
          rintro e w4 ⟨rfl, p4, b4⟩
          have P4 : Hid (Pags w4 w1.heap.size (.slice (some ⟨w1.heap.size, 0, none⟩) 24 24) 24 (allM P.own iss (List.replicate 192 0) (j + 1))) := p4
          have B4 : Hid (Below w1.heap.size w1 w4) := b4
          clear p4 b4 CL
          go_wp2_with fail
          go_roundw
          case rel => exact ⟨j + 1, by have := HLT.out; omega, by go_num, P4.out, B4.out⟩
          case measure => have := HLT.out; simp [intOf]; omega
        · have hJ3 : ¬ (j : Int) < (ni : Int) := by omega
          have HJ : Hid (j = iss.length) := by show _ = _; have := HLI.out; omega
          have HBJ : Hid (Below w1.heap.size w1 wr) := hB
          have PE : Hid (Pags wr w1.heap.size (.slice (some ⟨w1.heap.size, 0, none⟩) 24 24) 24 (allM P.own iss (List.replicate 192 0) iss.length)) := by rw [← HJ.out]; exact hN
          clear hlt hN hB HN
          go_wp2_with fail
          refine (impl_join _ _ _ _ _ _ PE.out (by decide)).mono ?_
          rintro e w3 ⟨v, rfl, n2', b3⟩
          have B3 : Hid (Below w.heap.size w w3) := on BX.out (on HBJ.out b3)
          have D3 : Hid (Below w1.heap.size w1 w3) := on HBJ.out b3
          obtain ⟨ya, yc, hv, _, _, _⟩ := n2'.shape
          have NN : Hid (Nums w3 w.heap.size v (allM P.own iss (List.replicate 192 0) iss.length)) := n2'.mono (Nat.le_trans BX.out.size HBJ.out.size)
          have NL : Hid (∀ k, v.ownBlock = some k → w1.heap.size ≤ k) := fun k e => Nat.le_trans HBJ.out.size (n2'.lt k e).1
          have LT : Hid (s + 1 < w1.heap.size) := R1.out.2.2.2.2
          generalize (allM P.own iss (List.replicate 192 0) iss.length).length = ln at hv
          subst hv
          obtain ⟨r0, r1, f0, f1, lt⟩ := R1.out.keep D3.out
          clear b3 n2'
          go_wp2_with fail
          refine bodyPost_ret (v := .agg #[.int .i64 0, .slice ya ln yc]) (by simp [results, Tryz.results6, go_sem, r0, r1]) rfl ⟨.slice ya ln yc, by rw [CV.out], ?_, (B3.out.setCell (by have := HSs.out; show w.heap.size ≤ s + 1; omega) _).setCell (by have := HSs.out; show w.heap.size ≤ s + 1; omega) _⟩
          have ne : (Value.slice ya ln yc).ownBlock ≠ some (s + 1) := fun e => by have := NL.out _ e; have := LT.out; omega
          rw [ZV.out]
          exact (NN.out.put ⟨s + 1, 0, none⟩ (.int .i64 0) ne).put ⟨s + 1, 1, none⟩ (.slice ya ln yc) ne
end Go.Proofs.YtdhdfopkcpkbeaaGreatDoor
namespace Go.Proofs.YtdhdfopkcpkbeaaGreatDoor
open Go.RowKit
set_option linter.unusedVariables false

set_option maxRecDepth 20000 in
set_option maxHeartbeats 8000000 in
theorem i_maps (a0 a1 a2 a3 : Option Addr) (n0 c0 n1 c1 n2 c2 n3 c3 : Nat) (P : Plc) (w : World) (h : Pl w a0 n0 c0 a1 n1 c1 a2 n2 c2 a3 n3 c3 P) (hg : w.cell? ⟨0, 0, none⟩ = some (.iface 157 (.agg #[.pointer (some ⟨1, 91, none⟩)]))) :
    Calls Tryz.prog 7 #[.agg #[.slice a0 n0 c0, .slice a1 n1 c1, .slice a2 n2 c2, .slice a3 n3 c3]] w fun e w' => ∃ v, e = .returned (.agg #[.int .i64 (pfV P), v]) ∧ SpX w' w.heap.size v (mapsN P) (mapsL P) ∧ Below w.heap.size w w' := by
  generalize hW : ((w.alloc (.cells #[.slice a0 n0 c0, .slice a1 n1 c1, .slice a2 n2 c2, .slice a3 n3 c3] 29))).alloc (.cells #[.int .i64 0, .slice none 0 0] 38) = W
  have B0 : Hid (Below w.heap.size w W) := by show Below _ _ _; rw [← hW]; exact al (al (Below.refl _ _) _) _
  obtain ⟨s, hS⟩ : ∃ s, w.heap.size = s := ⟨_, rfl⟩
  have HSs : Hid (w.heap.size = s) := hS
  have Q : Hid (W.cell? ⟨s, 0, none⟩ = some (.slice a0 n0 c0) ∧ W.cell? ⟨s, 1, none⟩ = some (.slice a1 n1 c1) ∧ W.cell? ⟨s, 2, none⟩ = some (.slice a2 n2 c2) ∧ W.cell? ⟨s, 3, none⟩ = some (.slice a3 n3 c3)) := by
    show _ ∧ _
    rw [← hW, ← hS]
    exact ⟨cell_push _ (cell_new rfl), cell_push _ (cell_new rfl), cell_push _ (cell_new rfl), cell_push _ (cell_new rfl)⟩
  have R : Hid (RsI W s) := by
    have z1 : s + 1 = ((w.alloc (.cells #[.slice a0 n0 c0, .slice a1 n1 c1, .slice a2 n2 c2, .slice a3 n3 c3] 29))).heap.size := by rw [← hS]; simp
    show RsI W s
    unfold RsI
    rw [← hW, z1]
    exact ⟨cell_new rfl, cell_new rfl, fz_new _ _ _ _, fz_new _ _ _ _, by simp⟩
  have HP : Hid (Pl W a0 n0 c0 a1 n1 c1 a2 n2 c2 a3 n3 c3 P) := h.stay B0.out
  have HA : Hid (PolAt W s P) := ⟨_, _, _, _, _, _, _, _, _, _, _, _, Q.out.1, Q.out.2.1, Q.out.2.2.1, Q.out.2.2.2, HP.out⟩
  have HG : Hid (_ = _) := cell_keep B0.out hg
  clear h hg
  have q0 := Q.out.1
  have q1 := Q.out.2.1
  have q2 := Q.out.2.2.1
  have q3 := Q.out.2.2.2
  go_enter Tryz.func7, Tryz.ntmps7
  go_wp2_with fail
  clear hW hS
  refine (impl_policy _ _ _ _ _ _ _ _ _ _ _ _ P _ HP.out HG.out).mono ?_
  rintro e w1 ⟨rfl, b1⟩
  have BX : Hid (Below w.heap.size w w1) := on B0.out b1
  have R1 : Hid (RsI w1 s) := R.out.keep b1
  obtain ⟨r0, r1, f0, f1, lt⟩ := R1.out
  have Q1 : Hid (w1.cell? ⟨s, 0, none⟩ = some (.slice a0 n0 c0) ∧ w1.cell? ⟨s, 1, none⟩ = some (.slice a1 n1 c1) ∧ w1.cell? ⟨s, 2, none⟩ = some (.slice a2 n2 c2) ∧ w1.cell? ⟨s, 3, none⟩ = some (.slice a3 n3 c3)) := ⟨cell_keep b1 Q.out.1, cell_keep b1 Q.out.2.1, cell_keep b1 Q.out.2.2.1, cell_keep b1 Q.out.2.2.2⟩
  have HPw : Hid (Pl w1 a0 n0 c0 a1 n1 c1 a2 n2 c2 a3 n3 c3 P) := HP.out.stay b1
  have HAw : Hid (PolAt w1 s P) := HA.out.stay b1
  clear b1 q0 q1 q2 q3
  by_cases hz : pfV P = 0
  case neg =>
    have NV : Hid (mapsN P = 0) := by show _ = _; rw [mapsN, if_neg hz]
    obtain ⟨v, hv⟩ : ∃ v, pfV P = v := ⟨_, rfl⟩
    rw [hv] at hz ⊢
    have HV : Hid (pfV P = v) := hv
    clear hv
    go_wp2_with fail
    exact bodyPost_ret (v := .agg #[.int .i64 v, .slice none 0 0]) (by simp [results, Tryz.results7, go_sem, r0, r1]) rfl ⟨.slice none 0 0, by rw [HV.out], by rw [NV.out]; exact ⟨fun _ => 0, fun _ => 0, Sp.nil _ _ _ _ _⟩, (BX.out.setCell (by have := HSs.out; show w.heap.size ≤ s + 1; omega) _).setCell (by have := HSs.out; show w.heap.size ≤ s + 1; omega) _⟩
  have PZ : Hid (pfV P = 0) := hz
  have NV : Hid (mapsN P = n0) := by show _ = _; rw [mapsN, if_pos hz]; exact HPw.out.own.len.symm
  have HL0 : Hid (n0 = P.own.length) := HPw.out.own.len
  have hn0 : (n0 : Int) ≤ 3 := by have := HL0.out; have := (pf_parts P hz).1; omega
  rw [hz]
  clear hz
  have q0 := Q1.out.1
  go_wp2_with fail
  clear q0
  go_loopw [4, 5, 15] (fun v _ c wr => ∃ (j : Nat) (B C : Nat → Nat), j ≤ n0 ∧ c = .int .i64 j ∧ Sp wr w1.heap.size v j B C (mapsL P) ∧ Below w1.heap.size w1 wr) (fun _ _ c _ => n0 - (intOf c).toNat)
  case atStart => exact ⟨0, fun _ => 0, fun _ => 0, Nat.zero_le _, rfl, Sp.nil _ _ _ _ _, Below.refl _ _⟩
  case round =>
    obtain ⟨j, B, C, hj, rfl, hN, hB⟩ := hrel
    have HN : Hid (Sp wr _ _ j B C (mapsL P)) := hN
    have HB : Hid (Below _ w1 wr) := hB
    obtain ⟨ya, yc, hzz, _, _, _⟩ := hN.shape
    subst hzz
    by_cases hlt : j < n0
    · have hJ : (j : Int) < (n0 : Int) := by omega
      have HLT : Hid (j < n0) := hlt
      have q0 := cell_keep hB Q1.out.1
      have q1 := cell_keep hB Q1.out.2.1
      have q2 := cell_keep hB Q1.out.2.2.1
      have q3 := cell_keep hB Q1.out.2.2.2
      have CL := i_pages0 _ _ _ _ _ _ _ _ _ _ _ _ P (j : Int) wr (HPw.out.stay hB) ⟨by omega, by have := HL0.out; omega⟩
      rw [Int.toNat_natCast] at CL
      clear hN hB hlt
      go_wp2_with fail
      refine CL.mono ?_
      rintro e w2 ⟨v2, rfl, p2, b2⟩
      obtain ⟨va, vc, hv2, _, _, hsome⟩ := p2.shape
      rw [pforL_len] at hv2 hsome
      obtain ⟨gb, rfl⟩ := hsome (by omega)
      subst hv2
      have B2 : Hid (Below _ w1 w2) := on HB.out b2
      have N2 : Hid (Sp w2 _ _ j B C (mapsL P)) := HN.out.keep b2
      have PB : Hid (Prs 96 w2 w1.heap.size (.slice (some ⟨gb, 0, none⟩) 8 vc) (mapsL P j)) := p2.mono HB.out.size
      have BL : Hid (∀ i, i < j → B i < gb) := fun i hi => by have := (HN.out.blt i hi).2; have := (p2.lt gb rfl).1; omega
      have SZ : Hid (w1.heap.size ≤ w2.heap.size) := B2.out.size
      clear b2 p2 CL q0 q1 q2 q3
      go_wp2_with (at_builtin; refine wp_slp _ rfl _ _ rfl w1.heap.size _ j B C (mapsL P) rfl (N2.out.keep (al (Below.refl _ _) _)) w2.heap.size gb vc rfl (cell_new rfl) (PB.out.keep (al (Below.refl _ _) _)) BL.out (by have := HLT.out; omega) (by have := SZ.out; simp; omega) ?_; intro v' w' hN' hG')
      have N' : Hid (Sp w' _ v' (j + 1) _ _ (mapsL P)) := hN'
      have B' : Hid (Below w1.heap.size w1 w') := (al B2.out _).grown hG' (by have := SZ.out; simp; omega) (fun k hk => (N2.out.lt k hk).1)
      clear hN' hG'
      go_wp2_with fail
      go_roundw
      case rel => exact ⟨j + 1, _, _, by have := HLT.out; omega, by go_num, N'.out, B'.out⟩
      case measure => have := HLT.out; simp [intOf]; omega
    · have hJ : ¬ (j : Int) < (n0 : Int) := by omega
      obtain rfl : j = n0 := by omega
      obtain ⟨r0, r1, f0, f1, lt⟩ := R1.out.keep hB
      have LT : Hid (s + 1 < w1.heap.size) := R1.out.2.2.2.2
      clear hN hB hlt
      go_wp2_with fail
      refine bodyPost_ret (v := .agg #[.int .i64 0, .slice ya j yc]) (by simp [results, Tryz.results7, go_sem, r0, r1]) rfl ⟨.slice ya j yc, by rw [PZ.out], ?_, ((on BX.out HB.out).setCell (by have := HSs.out; show w.heap.size ≤ s + 1; omega) _).setCell (by have := HSs.out; show w.heap.size ≤ s + 1; omega) _⟩
      rw [NV.out]
      refine ⟨B, C, ?_⟩
      exact ((HN.out.put ⟨s + 1, 0, none⟩ (.int .i64 0) (by have := LT.out; show s + 1 < _; omega)).put ⟨s + 1, 1, none⟩ (.slice ya j yc) (by have := LT.out; show s + 1 < _; omega)).mono BX.out.size
end Go.Proofs.YtdhdfopkcpkbeaaGreatDoor
namespace Go.Proofs.YtdhdfopkcpkbeaaGreatDoor
open Go.RowKit
set_option linter.unusedVariables false

theorem hl_clo (l : Ln) (g1 g2 g3 : Nat) (f t x : Int) (w : World) (hgp : w.cell? ⟨g1, 0, none⟩ = some (.int .i64 f) ∧ w.cell? ⟨g2, 0, none⟩ = some (.int .i64 t) ∧ w.cell? ⟨g3, 0, none⟩ = some (.int .i64 x)) :
    Calls Tryz.prog 77 #[.agg #[.int .i64 l.fr, .int .i64 l.dst, .int .i64 l.pg, .int .i64 l.af, .int .i64 l.tt], .pointer (some ⟨g1, 0, none⟩), .pointer (some ⟨g2, 0, none⟩), .pointer (some ⟨g3, 0, none⟩)] w fun e w' => e = .returned (.bool (decide (l.fr = f) && (decide (l.dst = t) && decide (l.pg = x)))) ∧ Below w.heap.size w w' := by
  obtain ⟨a, b, c, d, z⟩ := l
  obtain ⟨k1, k2, k3⟩ := hgp
  have b1 : g1 < w.heap.size := block_of_cell k1
  have b2 : g2 < w.heap.size := block_of_cell k2
  have b3 : g3 < w.heap.size := block_of_cell k3
  simp only
  by_cases h1 : a = f <;> by_cases h2 : b = t <;> by_cases h3 : c = x <;>
    (go_enter Tryz.func77, Tryz.ntmps77
     go_wp2_with fail
     go_ret
     exact ⟨by simp [*], by first | exact al (Below.refl _ _) _ | (simp [*]; exact al (Below.refl _ _) _)⟩)

set_option maxHeartbeats 1000000 in
theorem hl_idx (a : Option Addr) (n c : Nat) (g1 g2 g3 : Nat) (f t x : Int) (rs : List Ln) (w : World) (h : IsLanes w a n c rs) (hgp : w.cell? ⟨g1, 0, none⟩ = some (.int .i64 f) ∧ w.cell? ⟨g2, 0, none⟩ = some (.int .i64 t) ∧ w.cell? ⟨g3, 0, none⟩ = some (.int .i64 x)) :
    Calls Tryz.prog 86 #[.slice a n c, .func (.func 77) #[] #[.pointer (some ⟨g1, 0, none⟩), .pointer (some ⟨g2, 0, none⟩), .pointer (some ⟨g3, 0, none⟩)]] w fun e w' => (∃ v : Int, e = .returned (.int .i64 v) ∧ Hid (0 ≤ v ↔ rs.any (fun l => decide (l.fr = f) && (decide (l.dst = t) && decide (l.pg = x))) = true)) ∧ Below w.heap.size w w' := by
  have HL : Hid (n = rs.length) := h.len
  have HO : Hid (IsLanes w a n c rs) := h
  have Hgp : Hid (w.cell? ⟨g1, 0, none⟩ = some (.int .i64 f) ∧ w.cell? ⟨g2, 0, none⟩ = some (.int .i64 t) ∧ w.cell? ⟨g3, 0, none⟩ = some (.int .i64 x)) := hgp
  have hmax : (n : Int) ≤ 9223372036854775807 := by have := h.cap; unfold maxLen at this; omega
  clear h hgp
  go_enter Tryz.func86, Tryz.ntmps86
  go_wp2_with fail
  go_loopw [8] (fun c wq => ∃ j : Nat, j ≤ n ∧ c = .int .i64 j ∧ Below w.heap.size w wq ∧ Hid (rs.any (fun l => decide (l.fr = f) && (decide (l.dst = t) && decide (l.pg = x))) = (rs.drop j).any (fun l => decide (l.fr = f) && (decide (l.dst = t) && decide (l.pg = x))))) (fun c _ => n - (intOf c).toNat)
  case atStart => exact ⟨0, Nat.zero_le _, rfl, Below.refl _ _, by show _ = _; simp⟩
  case round =>
    obtain ⟨j, hj, rfl, hB, hI⟩ := hrel
    have HB : Hid (Below _ w wr) := hB
    by_cases hlt : j < n
    · obtain ⟨xa, rfl, k0, k1, k2, k3, k4⟩ := (HO.out.stay hB).at j hlt
      have hJ : (j : Int) < (n : Int) := by omega
      have HLT : Hid (j < n) := hlt
      have ST : Hid (_ = _) := any_step lz rs (fun l => decide (l.fr = f) && (decide (l.dst = t) && decide (l.pg = x))) j (by have := HL.out; omega)
      obtain ⟨O, hO⟩ : ∃ O, rs.getD j lz = O := ⟨_, rfl⟩
      rw [hO] at k0 k1 k2 k3 k4 ST
      clear hO hlt hB
      have CL := fun w1 (b1 : Below w.heap.size w w1) => hl_clo O _ _ _ _ _ _ w1 ⟨cell_keep b1 Hgp.out.1, cell_keep b1 Hgp.out.2.1, cell_keep b1 Hgp.out.2.2⟩
      have hPO : Hid (∀ q : Bool, q = (decide (O.fr = f) && (decide (O.dst = t) && decide (O.pg = x))) → (rs.drop j).any (fun l => decide (l.fr = f) && (decide (l.dst = t) && decide (l.pg = x))) = (q || (rs.drop (j + 1)).any (fun l => decide (l.fr = f) && (decide (l.dst = t) && decide (l.pg = x))))) := fun q hq => by rw [ST.out, hq]
      generalize hp : (decide (O.fr = f) && (decide (O.dst = t) && decide (O.pg = x))) = pv at *
      cases pv
      · have S2 : Hid ((rs.drop j).any (fun l => decide (l.fr = f) && (decide (l.dst = t) && decide (l.pg = x))) = (rs.drop (j + 1)).any (fun l => decide (l.fr = f) && (decide (l.dst = t) && decide (l.pg = x)))) := by show _ = _; rw [hPO.out false rfl]; rfl
        clear hp ST hPO
        go_wp2_with (go_at_call 77; refine (CL _ HB.out).mono ?_; rintro e w2 ⟨rfl, b2⟩; have B2 : Hid (Below _ w w2) := on HB.out b2; clear b2 CL)
        go_roundw
        case rel => exact ⟨j + 1, by have := HLT.out; omega, by go_num, B2.out, by show _ = _; rw [hI.out, S2.out]⟩
        case measure => have := HLT.out; simp [intOf]; omega
      · have S2 : Hid ((rs.drop j).any (fun l => decide (l.fr = f) && (decide (l.dst = t) && decide (l.pg = x))) = true) := by show _ = _; rw [hPO.out true rfl]; rfl
        clear hp ST hPO
        go_wp2_with (go_at_call 77; refine (CL _ HB.out).mono ?_; rintro e w2 ⟨rfl, b2⟩; have B2 : Hid (Below _ w w2) := on HB.out b2; clear b2 CL)
        go_ret
        exact ⟨⟨_, rfl, show _ ↔ _ from ⟨fun _ => by rw [hI.out, S2.out], fun _ => by omega⟩⟩, B2.out⟩
    · have hJ : ¬ (j : Int) < (n : Int) := by omega
      have HJ : Hid (j = n) := by show _ = _; omega
      clear hlt hB
      go_wp2_with fail
      go_ret
      have F := hI.out
      rw [List.drop_of_length_le (by have := HL.out; have := HJ.out; omega)] at F
      have G : (0 ≤ (-1 : Int) ↔ rs.any (fun l => decide (l.fr = f) && (decide (l.dst = t) && decide (l.pg = x))) = true) := by rw [F]; simp
      exact ⟨⟨_, rfl, by first | exact G | (simp only [List.any_eq_true, Bool.and_eq_true, decide_eq_true_eq] at G; exact G)⟩, HB.out⟩
theorem hl_has (a : Option Addr) (n c : Nat) (g1 g2 g3 : Nat) (f t x : Int) (rs : List Ln) (w : World) (h : IsLanes w a n c rs) (hgp : w.cell? ⟨g1, 0, none⟩ = some (.int .i64 f) ∧ w.cell? ⟨g2, 0, none⟩ = some (.int .i64 t) ∧ w.cell? ⟨g3, 0, none⟩ = some (.int .i64 x)) :
    Calls Tryz.prog 63 #[.slice a n c, .func (.func 77) #[] #[.pointer (some ⟨g1, 0, none⟩), .pointer (some ⟨g2, 0, none⟩), .pointer (some ⟨g3, 0, none⟩)]] w fun e w' => e = .returned (.bool (rs.any (fun l => decide (l.fr = f) && (decide (l.dst = t) && decide (l.pg = x))))) ∧ Below w.heap.size w w' := by
  have HR : Hid (IsLanes w a n c rs) := h
  have Hgp : Hid (w.cell? ⟨g1, 0, none⟩ = some (.int .i64 f) ∧ w.cell? ⟨g2, 0, none⟩ = some (.int .i64 t) ∧ w.cell? ⟨g3, 0, none⟩ = some (.int .i64 x)) := hgp
  clear h hgp
  go_enter Tryz.func63, Tryz.ntmps63
  go_wp2_with (go_at_call 86; refine (hl_idx _ _ _ _ _ _ _ _ _ _ _ HR.out Hgp.out).mono ?_; rintro e w1 ⟨⟨v, rfl, hv⟩, b1⟩)
  go_ret
  refine ⟨congrArg (fun b => Ending.returned (.bool b)) (by have h := hv.out; apply Bool.eq_iff_iff.2; simp only [decide_eq_true_eq]; exact h), b1⟩


theorem field_intsM (x0 x1 : Value) (w : World) : (Instr.field 42 (.agg #[x0, x1]) 1).run Tryz.prog w = .ok x1 w := by kernel_rfl
theorem i_hasLane (a0 a1 a2 a3 : Option Addr) (n0 c0 n1 c1 n2 c2 n3 c3 : Nat) (P : Plc) (f t x : Int) (w : World) (h : Pl w a0 n0 c0 a1 n1 c1 a2 n2 c2 a3 n3 c3 P) :
    Calls Tryz.prog 50 #[.agg #[.slice a0 n0 c0, .slice a1 n1 c1, .slice a2 n2 c2, .slice a3 n3 c3], .int .i64 f, .int .i64 t, .int .i64 x] w fun e w' => e = .returned (.bool (laneOf P.lanes f t x)) ∧ Below w.heap.size w w' := by
  generalize hW : (((w.alloc (.cells #[.slice a0 n0 c0, .slice a1 n1 c1, .slice a2 n2 c2, .slice a3 n3 c3] 29)).alloc (.cells #[.int .i64 f] 2)).alloc (.cells #[.int .i64 t] 2)).alloc (.cells #[.int .i64 x] 2) = W
  have B0 : Hid (Below w.heap.size w W) := by show Below _ _ _; rw [← hW]; exact al (al (al (al (Below.refl _ _) _) _) _) _
  obtain ⟨s, hS⟩ : ∃ s, w.heap.size = s := ⟨_, rfl⟩
  have q1 : W.cell? ⟨s, 1, none⟩ = some (.slice a1 n1 c1) := by rw [← hW, ← hS]; exact cell_push _ (cell_push _ (cell_push _ (cell_new rfl)))
  have z1 : s + 1 = (w.alloc (.cells #[.slice a0 n0 c0, .slice a1 n1 c1, .slice a2 n2 c2, .slice a3 n3 c3] 29)).heap.size := by rw [← hS]; simp
  have z2 : s + 2 = ((w.alloc (.cells #[.slice a0 n0 c0, .slice a1 n1 c1, .slice a2 n2 c2, .slice a3 n3 c3] 29)).alloc (.cells #[.int .i64 f] 2)).heap.size := by rw [← hS]; simp
  have z3 : s + 3 = (((w.alloc (.cells #[.slice a0 n0 c0, .slice a1 n1 c1, .slice a2 n2 c2, .slice a3 n3 c3] 29)).alloc (.cells #[.int .i64 f] 2)).alloc (.cells #[.int .i64 t] 2)).heap.size := by rw [← hS]; simp
  have QF : Hid (W.cell? ⟨s + 1, 0, none⟩ = some (.int .i64 f) ∧ W.cell? ⟨s + 2, 0, none⟩ = some (.int .i64 t) ∧ W.cell? ⟨s + 3, 0, none⟩ = some (.int .i64 x)) := by
    refine ⟨?_, ?_, ?_⟩
    · rw [← hW, z1]; exact cell_push _ (cell_push _ (cell_new rfl))
    · rw [← hW, z2]; exact cell_push _ (cell_new rfl)
    · rw [← hW, z3]; exact cell_new rfl
  have HP : Hid (IsLanes W a1 n1 c1 P.lanes) := h.lanes.stay B0.out
  clear h z1 z2 z3
  go_enter Tryz.func50, Tryz.ntmps50
  go_wp2_with fail
  clear hW hS
  refine (hl_has _ _ _ _ _ _ _ _ _ _ _ HP.out QF.out).mono ?_
  rintro e w2 ⟨rfl, b2⟩
  have B2 : Hid (Below w.heap.size w w2) := on B0.out b2
  have E : Hid ((P.lanes.any fun l => decide (l.fr = f) && (decide (l.dst = t) && decide (l.pg = x))) = laneOf P.lanes f t x) := rfl
  rw [E.out]
  clear b2
  go_wp2_with fail
  go_ret
  exact ⟨rfl, B2.out⟩
theorem i_mayWrite (v : Value) (rs : List (Int × Int)) (tg : Int) (b : Nat) (w : World) (h : Prs 96 w b v rs) (hm : rs.length ≤ 1048576) :
    Calls Tryz.prog 49 #[v, .int .i64 tg] w fun e w' => e = .returned (.bool (wrR rs tg)) ∧ Below w.heap.size w w' := by
  have LD := impl_leads v rs tg b w h hm
  have E : wrR rs tg = (bits BinOp.and .i64 (kndV rs tg) 2 != 0) := rfl
  rw [E]
  clear E h
  generalize kndV rs tg = k at *
  generalize ledB rs tg = d at *
  go_enter Tryz.func49, Tryz.ntmps49
  go_wp2_with fail
  refine LD.mono ?_
  rintro e w1 ⟨rfl, b1⟩
  go_wp2_with fail
  go_ret
  exact ⟨rfl, b1⟩
set_option maxHeartbeats 2000000 in
theorem i_others (a0 a1 a2 a3 : Option Addr) (n0 c0 n1 c1 n2 c2 n3 c3 : Nat) (P : Plc) (g : Int) (v : Value) (rs : List (Int × Int)) (b : Nat) (w : World) (h : Pl w a0 n0 c0 a1 n1 c1 a2 n2 c2 a3 n3 c3 P) (hv : Prs 96 w b v rs) (hm : rs.length ≤ 1048576) (hf : ∀ x : Int, 0 ≤ x → ledB rs x = true → ownerFrom 0 P.own x = -1 ∨ ownerFrom 0 P.own x = g) :
    Calls Tryz.prog 25 #[.agg #[.slice a0 n0 c0, .slice a1 n1 c1, .slice a2 n2 c2, .slice a3 n3 c3], .int .i64 g, v] w fun e w' => e = .returned (.bool false) ∧ Below w.heap.size w w' := by
  have HP : Hid (Pl w a0 n0 c0 a1 n1 c1 a2 n2 c2 a3 n3 c3 P) := h
  have HV : Hid (Prs 96 w b v rs ∧ rs.length ≤ 1048576) := ⟨hv, hm⟩
  have HF : Hid (∀ x : Int, 0 ≤ x → ledB rs x = true → ownerFrom 0 P.own x = -1 ∨ ownerFrom 0 P.own x = g) := hf
  obtain ⟨s, hS⟩ : ∃ s, w.heap.size = s := ⟨_, rfl⟩
  have BW : Hid (Below w.heap.size w (w.alloc (.cells #[.slice a0 n0 c0, .slice a1 n1 c1, .slice a2 n2 c2, .slice a3 n3 c3] 29))) := al (Below.refl _ _) _
  have QB : Hid (Bk (w.alloc (.cells #[.slice a0 n0 c0, .slice a1 n1 c1, .slice a2 n2 c2, .slice a3 n3 c3] 29)) s #[.slice a0 n0 c0, .slice a1 n1 c1, .slice a2 n2 c2, .slice a3 n3 c3] 29) := by show Bk _ _ _ _; rw [← hS]; exact Bk.new _ _ _
  obtain ⟨va, vc, ev, _, _, _⟩ := hv.shape
  obtain ⟨n, hn⟩ : ∃ n, rs.length = n := ⟨_, rfl⟩
  rw [hn] at ev
  subst ev
  clear h hv hf hm hn
  go_enter Tryz.func25, Tryz.ntmps25
  go_wp2_with fail
  generalize w.alloc (.cells #[.slice a0 n0 c0, .slice a1 n1 c1, .slice a2 n2 c2, .slice a3 n3 c3] 29) = W at *
  try rw [hS]
  clear hS
  go_loopw [11] (fun c wr => ∃ j : Nat, j ≤ 24 ∧ c = .int .i64 j ∧ Below W.heap.size W wr) (fun c _ => 24 - (intOf c).toNat)
  case atStart => exact ⟨0, Nat.zero_le _, rfl, Below.refl _ _⟩
  case round =>
    obtain ⟨j, hj, rfl, hB⟩ := hrel
    have HB : Hid (Below W.heap.size W wr) := hB
    have BWr : Hid (Below w.heap.size w wr) := on BW.out hB
    clear hB
    by_cases hlt : j < 24
    · have hI : (j : Int) < 24 := by omega
      have HL : Hid (j < 24) := hlt
      have q0 := (QB.out.keep HB.out).cell (i := 0) rfl
      have q1 := (QB.out.keep HB.out).cell (i := 1) rfl
      have q2 := (QB.out.keep HB.out).cell (i := 2) rfl
      have q3 := (QB.out.keep HB.out).cell (i := 3) rfl
      clear hlt hj
      go_wp2_with fail
      clear q0 q1 q2 q3
      refine (i_owner _ _ _ _ _ _ _ _ _ _ _ _ P (j : Int) _ (HP.out.stay BWr.out)).mono ?_
      rintro e w2 ⟨rfl, b2⟩
      have HQ : Hid (ledB rs (j : Int) = true → ownerFrom 0 P.own (j : Int) = -1 ∨ ownerFrom 0 P.own (j : Int) = g) := HF.out (j : Int) (by omega)
      have B2 : Hid (Below W.heap.size W w2) := on HB.out b2
      have L2 := impl_leads _ rs (j : Int) b w2 (HV.out.1.keep (on BWr.out b2)) HV.out.2
      clear b2
      generalize ownerFrom 0 P.own (j : Int) = ow at *
      generalize ledB rs (j : Int) = ld at *
      generalize kndV rs (j : Int) = kd at *
      go_wp2_with fail
      refine L2.mono ?_
      rintro e w3 ⟨rfl, b3⟩
      have B3 : Hid (Below W.heap.size W w3) := on B2.out b3
      clear b3 L2
      cases ld with
      | false =>
        go_wp2_with fail
        go_roundw
        case rel => exact ⟨j + 1, by have := HL.out; omega, by go_num, B3.out⟩
        case measure => have := HL.out; simp [intOf]; omega
      | true =>
        rcases HQ.out rfl with e | e
        · subst e
          go_wp2_with fail
          go_roundw
          case rel => exact ⟨j + 1, by have := HL.out; omega, by go_num, B3.out⟩
          case measure => have := HL.out; simp [intOf]; omega
        · subst e
          by_cases e1 : ow = -1
          · subst e1
            go_wp2_with fail
            go_roundw
            case rel => exact ⟨j + 1, by have := HL.out; omega, by go_num, B3.out⟩
            case measure => have := HL.out; simp [intOf]; omega
          · have e2 : (ow == -1) = false := by simpa using e1
            have e3 : (ow != -1) = true := by simpa using e1
            have e4 : (ow != ow) = false := by simp
            go_wp2_with fail
            go_roundw
            case rel => exact ⟨j + 1, by have := HL.out; omega, by go_num, B3.out⟩
            case measure => have := HL.out; simp [intOf]; omega
    · have hI : ¬ (j : Int) < 24 := by omega
      go_wp2_with fail
      go_ret
      exact ⟨rfl, BWr.out⟩
set_option maxHeartbeats 2000000 in
theorem i_gives (a0 a1 a2 a3 : Option Addr) (n0 c0 n1 c1 n2 c2 n3 c3 : Nat) (P : Plc) (f t : Int) (v u : Value) (rs qs : List (Int × Int)) (b b' : Nat) (w : World) (h : Pl w a0 n0 c0 a1 n1 c1 a2 n2 c2 a3 n3 c3 P) (hv : Prs 96 w b v rs) (hu : Prs 96 w b' u qs) (hm : rs.length ≤ 1048576) (km : qs.length ≤ 1048576) (hf : ∀ x ∈ wrZ rs qs, wrR rs x = true → wrR qs x = false ∧ laneOf P.lanes f t x = true) :
    Calls Tryz.prog 26 #[.agg #[.slice a0 n0 c0, .slice a1 n1 c1, .slice a2 n2 c2, .slice a3 n3 c3], .int .i64 f, v, .int .i64 t, u] w fun e w' => e = .returned (.bool true) ∧ Below w.heap.size w w' := by
  have HP : Hid (Pl w a0 n0 c0 a1 n1 c1 a2 n2 c2 a3 n3 c3 P) := h
  have HV : Hid (Prs 96 w b v rs ∧ rs.length ≤ 1048576 ∧ Prs 96 w b' u qs ∧ qs.length ≤ 1048576) := ⟨hv, hm, hu, km⟩
  have HF : Hid (∀ x ∈ wrZ rs qs, wrR rs x = true → wrR qs x = false ∧ laneOf P.lanes f t x = true) := hf
  have WL : Hid ((wrZ rs qs).length ≤ 24) := wrZ_len rs qs
  obtain ⟨s, hS⟩ : ∃ s, w.heap.size = s := ⟨_, rfl⟩
  have BW : Hid (Below w.heap.size w (w.alloc (.cells #[.slice a0 n0 c0, .slice a1 n1 c1, .slice a2 n2 c2, .slice a3 n3 c3] 29))) := al (Below.refl _ _) _
  have QB : Hid (Bk (w.alloc (.cells #[.slice a0 n0 c0, .slice a1 n1 c1, .slice a2 n2 c2, .slice a3 n3 c3] 29)) s #[.slice a0 n0 c0, .slice a1 n1 c1, .slice a2 n2 c2, .slice a3 n3 c3] 29) := by show Bk _ _ _ _; rw [← hS]; exact Bk.new _ _ _
  have WB := impl_writable v u rs qs b b' _ (hv.keep BW.out) (hu.keep BW.out) hm km
  obtain ⟨va, vc, ev, _, _, _⟩ := hv.shape
  obtain ⟨ua, uc, eu, _, _, _⟩ := hu.shape
  obtain ⟨rn, hrn⟩ : ∃ n, rs.length = n := ⟨_, rfl⟩
  obtain ⟨qn, hqn⟩ : ∃ n, qs.length = n := ⟨_, rfl⟩
  rw [hrn] at ev
  rw [hqn] at eu
  subst ev eu
  clear h hv hu hf hm km hrn hqn
  generalize twoV rs 24 qs = tw at *
  generalize wrZ rs qs = Z at *
  have hfl := field_intsM
  go_enter Tryz.func26, Tryz.ntmps26
  go_wp2_with fail
  generalize w.alloc (.cells #[.slice a0 n0 c0, .slice a1 n1 c1, .slice a2 n2 c2, .slice a3 n3 c3] 29) = W at *
  try rw [hS]
  clear hS
  refine WB.mono ?_
  rintro e w1 ⟨y, rfl, n1, b1⟩
  obtain ⟨ya, yc, rfl, _, _, hyg⟩ := n1.shape
  obtain ⟨n, hn⟩ : ∃ n, Z.length = n := ⟨_, rfl⟩
  have HN : Hid (Z.length = n ∧ n ≤ 24) := ⟨hn, by rw [← hn]; exact WL.out⟩
  rw [hn] at n1 hyg ⊢
  have N1 : Hid (Nums w1 W.heap.size (.slice ya n yc) Z) := n1
  have B1 : Hid (Below W.heap.size W w1) := b1
  have hnI : (n : Int) ≤ 24 := by have := HN.out.2; omega
  clear WB n1 b1 hn
  go_wp2_with fail
  clear hfl
  go_loopw [12, 18] (fun _ c wr => ∃ j : Nat, j ≤ n ∧ c = .int .i64 j ∧ Below w1.heap.size w1 wr) (fun _ c _ => n - (intOf c).toNat)
  case atStart => exact ⟨0, Nat.zero_le _, rfl, Below.refl _ _⟩
  case round =>
    obtain ⟨j, hj, rfl, hB⟩ := hrel
    have HB : Hid (Below w1.heap.size w1 wr) := hB
    have HBW : Hid (Below W.heap.size W wr) := on B1.out hB
    have BWr : Hid (Below w.heap.size w wr) := on BW.out HBW.out
    clear hB
    by_cases hlt : j < n
    · have hI : (j : Int) < (n : Int) := by omega
      have HL : Hid (j < n) := hlt
      obtain ⟨yg, rfl⟩ := hyg (by omega)
      have yc1 := (N1.out.keep HB.out).cell HN.out.1.symm j hlt
      have HX : Hid (wrR rs (Z.getD j 0) = true → wrR qs (Z.getD j 0) = false ∧ laneOf P.lanes f t (Z.getD j 0) = true) := HF.out _ (getD_mem Z 0 j (by have := HN.out.1; omega))
      generalize Z.getD j 0 = x at *
      clear hlt hj hyg
      go_wp2_with fail
      clear yc1
      refine (i_mayWrite _ rs x b _ (HV.out.1.keep BWr.out) HV.out.2.1).mono ?_
      rintro e w2 ⟨rfl, b2⟩
      have B2 : Hid (Below w1.heap.size w1 w2) := on HB.out b2
      have BW2 : Hid (Below w.heap.size w w2) := on BWr.out b2
      clear b2
      cases hw : wrR rs x with
      | false =>
        clear hw
        go_wp2_with fail
        go_roundw
        case rel => exact ⟨j + 1, by have := HL.out; omega, by go_num, B2.out⟩
        case measure => have := HL.out; simp [intOf]; omega
      | true =>
        obtain ⟨x1, x2⟩ := HX.out hw
        have X1 : Hid (wrR qs x = false ∧ laneOf P.lanes f t x = true) := ⟨x1, x2⟩
        clear hw x1 x2
        have KQ : Hid (Bk w2 s #[.slice a0 n0 c0, .slice a1 n1 c1, .slice a2 n2 c2, .slice a3 n3 c3] 29) := (QB.out.keep B1.out).keep B2.out
        go_wp2_with fail
        refine (i_mayWrite _ qs x b' _ (HV.out.2.2.1.keep BW2.out) HV.out.2.2.2).mono ?_
        rintro e w3 ⟨rfl, b3⟩
        rw [X1.out.1]
        have B3 : Hid (Below w1.heap.size w1 w3) := on B2.out b3
        have BW3 : Hid (Below w.heap.size w w3) := on BW2.out b3
        have q0 := (KQ.out.keep b3).cell (i := 0) rfl
        have q1 := (KQ.out.keep b3).cell (i := 1) rfl
        have q2 := (KQ.out.keep b3).cell (i := 2) rfl
        have q3 := (KQ.out.keep b3).cell (i := 3) rfl
        clear b3
        go_wp2_with fail
        clear q0 q1 q2 q3
        refine (i_hasLane _ _ _ _ _ _ _ _ _ _ _ _ P f t x _ (HP.out.stay BW3.out)).mono ?_
        rintro e w4 ⟨rfl, b4⟩
        rw [X1.out.2]
        have B4 : Hid (Below w1.heap.size w1 w4) := on B3.out b4
        clear b4
        go_wp2_with fail
        go_roundw
        case rel => exact ⟨j + 1, by have := HL.out; omega, by go_num, B4.out⟩
        case measure => have := HL.out; simp [intOf]; omega
    · have hI : ¬ (j : Int) < (n : Int) := by omega
      go_wp2_with fail
      go_ret
      exact ⟨rfl, BWr.out⟩
set_option maxRecDepth 20000 in
set_option maxHeartbeats 8000000 in
theorem i_mapsSafe (a0 a1 a2 a3 : Option Addr) (n0 c0 n1 c1 n2 c2 n3 c3 : Nat) (P : Plc) (b : Nat) (v : Value) (w : World) (h : Pl w a0 n0 c0 a1 n1 c1 a2 n2 c2 a3 n3 c3 P) (hv : SpX w b v P.own.length (mapsL P)) (hg : w.cell? ⟨0, 0, none⟩ = some (.iface 157 (.agg #[.pointer (some ⟨1, 91, none⟩)]))) (hp : pfV P = 0) :
    Calls Tryz.prog 8 #[.agg #[.slice a0 n0 c0, .slice a1 n1 c1, .slice a2 n2 c2, .slice a3 n3 c3], v] w fun e w' => e = .returned (.bool true) ∧ Below w.heap.size w w' := by
  have HP : Hid (Pl w a0 n0 c0 a1 n1 c1 a2 n2 c2 a3 n3 c3 P) := h
  have HGE : Hid (w.cell? ⟨0, 0, none⟩ = _) := hg
  have PF : Hid (pfV P = 0) := hp
  obtain ⟨B, C, sp⟩ := hv
  obtain ⟨va, vc, rfl, _, _, hvg⟩ := sp.shape
  have L8 : Hid (∀ i, i < P.own.length → (mapsL P i).length = 8) := fun i hi => sp.len8 i hi
  have N0 : n0 = P.own.length := h.own.len
  obtain ⟨n, hn⟩ : ∃ n, P.own.length = n := ⟨_, rfl⟩
  have N3 : n ≤ 3 := by rw [← hn]; exact (pf_parts P hp).1
  rw [hn] at sp L8 hvg N0 ⊢
  subst N0
  have SP : Hid (Sp w b (.slice va n0 vc) n0 B C (mapsL P)) := sp
  have HN : Hid (P.own.length = n0 ∧ n0 ≤ 3) := ⟨hn, N3⟩
  have hnI : (n0 : Int) ≤ 3 := by omega
  have POL := impl_policy _ _ _ _ _ _ _ _ _ _ _ _ P _ (h.stay (al (Below.refl w.heap.size w) (.cells #[.slice a0 n0 c0, .slice a1 n1 c1, .slice a2 n2 c2, .slice a3 n3 c3] 29))) (cell_keep (al (Below.refl w.heap.size w) (.cells #[.slice a0 n0 c0, .slice a1 n1 c1, .slice a2 n2 c2, .slice a3 n3 c3] 29)) hg)
  rw [hp] at POL
  obtain ⟨s, hS⟩ : ∃ s, w.heap.size = s := ⟨_, rfl⟩
  have BW : Hid (Below w.heap.size w (w.alloc (.cells #[.slice a0 n0 c0, .slice a1 n1 c1, .slice a2 n2 c2, .slice a3 n3 c3] 29))) := al (Below.refl _ _) _
  have QB : Hid (Bk (w.alloc (.cells #[.slice a0 n0 c0, .slice a1 n1 c1, .slice a2 n2 c2, .slice a3 n3 c3] 29)) s #[.slice a0 n0 c0, .slice a1 n1 c1, .slice a2 n2 c2, .slice a3 n3 c3] 29) := by show Bk _ _ _ _; rw [← hS]; exact Bk.new _ _ _
  clear h hg hp sp hn N3
  go_enter Tryz.func8, Tryz.ntmps8
  go_wp2_with fail
  generalize w.alloc (.cells #[.slice a0 n0 c0, .slice a1 n1 c1, .slice a2 n2 c2, .slice a3 n3 c3] 29) = W at *
  try rw [hS]
  clear hS
  refine POL.mono ?_
  rintro e w1 ⟨rfl, b1⟩
  have B1 : Hid (Below W.heap.size W w1) := b1
  have QB1 : Hid (Bk w1 s #[.slice a0 n0 c0, .slice a1 n1 c1, .slice a2 n2 c2, .slice a3 n3 c3] 29) := QB.out.keep b1
  have SP1 : Hid (Sp w1 b (.slice va n0 vc) n0 B C (mapsL P)) := SP.out.keep (on BW.out b1)
  have HP1 : Hid (Pl w1 a0 n0 c0 a1 n1 c1 a2 n2 c2 a3 n3 c3 P) := HP.out.stay (on BW.out b1)
  have BW1 : Hid (Below w.heap.size w w1) := on BW.out b1
  have q0 := QB1.out.cell (i := 0) rfl
  clear b1 POL
  go_wp2_with fail
  clear q0
  go_loopw [5, 6, 22] (fun _ _ c wr => ∃ j : Nat, j ≤ n0 ∧ c = .int .i64 j ∧ Below w1.heap.size w1 wr) (fun _ _ c _ => n0 - (intOf c).toNat)
  case atStart => exact ⟨0, Nat.zero_le _, rfl, Below.refl _ _⟩
  case round =>
    obtain ⟨j, hj, rfl, hB⟩ := hrel
    have HB : Hid (Below w1.heap.size w1 wr) := hB
    clear hB
    by_cases hlt : j < n0
    · have hI : (j : Int) < (n0 : Int) := by omega
      have HL : Hid (j < n0) := hlt
      obtain ⟨g, rfl⟩ := hvg (by omega)
      have c1 := (SP1.out.keep HB.out).cell j hlt
      clear hlt hj hvg
      go_wp2_with fail
      clear c1
      refine (impl_fault _ (mapsL P j) 24 b _ ((SP1.out.keep HB.out).inn j HL.out) (by have := L8.out j HL.out; omega)).mono ?_
      rintro e w2 ⟨rfl, b2⟩
      rw [map_pgs PF.out j]
      have B2 : Hid (Below w1.heap.size w1 w2) := on HB.out b2
      have q0 := (QB1.out.keep B2.out).cell (i := 0) rfl
      have q1 := (QB1.out.keep B2.out).cell (i := 1) rfl
      have q2 := (QB1.out.keep B2.out).cell (i := 2) rfl
      have q3 := (QB1.out.keep B2.out).cell (i := 3) rfl
      clear b2
      go_wp2_with fail
      clear q0 q1 q2 q3
      refine (i_others _ _ _ _ _ _ _ _ _ _ _ _ P (j : Int) _ (mapsL P j) b _ (HP1.out.stay B2.out) ((SP1.out.keep B2.out).inn j HL.out) (by have := L8.out j HL.out; omega) (fun x hx hl => map_lead PF.out j x hx hl)).mono ?_
      rintro e w3 ⟨rfl, b3⟩
      have B3 : Hid (Below w1.heap.size w1 w3) := on B2.out b3
      clear b3
      go_wp2_with fail
      go_roundw
      case rel => exact ⟨j + 1, by have := HL.out; omega, by go_num, B3.out⟩
      case measure => have := HL.out; simp [intOf]; omega
    · have hI : ¬ (j : Int) < (n0 : Int) := by omega
      clear hlt hj
      have HB1 : Hid (Below w1.heap.size w1 wr) := HB.out
      have QB2 : Hid (Bk wr s #[.slice a0 n0 c0, .slice a1 n1 c1, .slice a2 n2 c2, .slice a3 n3 c3] 29) := QB1.out.keep HB.out
      have SP2 : Hid (Sp wr b (.slice va n0 vc) n0 B C (mapsL P)) := SP1.out.keep HB.out
      have HP2 : Hid (Pl wr a0 n0 c0 a1 n1 c1 a2 n2 c2 a3 n3 c3 P) := HP1.out.stay HB.out
      have BW2 : Hid (Below w.heap.size w wr) := on BW1.out HB.out
      clear HB
      rename World => w4
      go_wp2_with fail

      go_loopw [7, 8, 39, 43, 44] (fun _ _ c _ _ wr => ∃ j : Nat, j ≤ n0 ∧ c = .int .i64 j ∧ Below w4.heap.size w4 wr) (fun _ _ c _ _ _ => n0 - (intOf c).toNat)
      case atStart => exact ⟨0, Nat.zero_le _, rfl, Below.refl _ _⟩
      case round =>
        obtain ⟨j, hj, rfl, hB⟩ := hrel
        have HB : Hid (Below w4.heap.size w4 wr) := hB
        clear hB
        by_cases hlt : j < n0
        · have hI : (j : Int) < (n0 : Int) := by omega
          have HL : Hid (j < n0) := hlt
          clear hlt hj
          rename World => w5
          go_wp2_with fail
          go_loopw [8, 44] (fun _ c wr => ∃ k : Nat, k ≤ n0 ∧ c = .int .i64 k ∧ Below w4.heap.size w4 wr) (fun _ c _ => n0 - (intOf c).toNat)
          case atStart => exact ⟨0, Nat.zero_le _, rfl, HB.out⟩
          case round =>
            obtain ⟨k, hk, rfl, hB2⟩ := hrel
            have HB2 : Hid (Below w4.heap.size w4 wr) := hB2
            clear hB2
            by_cases hkt : k < n0
            · have hKI : (k : Int) < (n0 : Int) := by omega
              have HK : Hid (k < n0) := hkt
              obtain ⟨g, rfl⟩ := hvg (by omega)
              have SPr : Hid (Sp wr b (.slice (some ⟨g, 0, none⟩) n0 vc) n0 B C (mapsL P)) := SP2.out.keep HB2.out
              have QBr : Hid (Bk wr s #[.slice a0 n0 c0, .slice a1 n1 c1, .slice a2 n2 c2, .slice a3 n3 c3] 29) := QB2.out.keep HB2.out
              clear hkt hk
              go_upto_region 15 with fail
              by_cases hjk : j = k
              · subst hjk
                have hjj : ((j : Int) != (j : Int)) = false := by simp
                have SD : Hid (Below wr.heap.size wr wr.drew) := (Below.refl _ _).drew
                refine wp_region_held (S := fun w' => Below wr.heap.size wr w') (by kernel_rfl) ?_
                change wpAnyH _ _ _ _ _ _ _ _ (World.drew _)
                generalize wr.drew = u0 at *
                refine wpAnyH_take (i := 0) (v := (.int .i64 (j : Int))) rfl (by kernel_rfl) (by kernel_rfl) (by kernel_rfl) (fun _ _ _ h => h) (Or.inl ⟨by rfl, fun w' hs => by go_simp⟩) SD.out ?_
                change wpAnyH _ _ _ _ _ _ _ (Act.put _ (some 47) _) _
                simp only [Act.put, List.setIfInBounds_toArray, List.set_cons_zero, List.set_cons_succ]
                refine wpAnyH_take (i := 1) (v := (.int .i64 (j : Int))) rfl (by kernel_rfl) (by kernel_rfl) (by kernel_rfl) (fun _ _ _ h => h) (Or.inl ⟨by rfl, fun w' hs => by go_simp⟩) SD.out ?_
                change wpAnyH _ _ _ _ _ _ _ (Act.put _ (some 48) _) _
                simp only [Act.put, List.setIfInBounds_toArray, List.set_cons_zero, List.set_cons_succ]
                refine wpAnyH_take (i := 2) (v := (.bool false)) rfl (by kernel_rfl) (by kernel_rfl) (by kernel_rfl) (fun _ _ _ h => h) (Or.inl ⟨by rfl, fun w' hs => by first | (go_simp; done) | (go_simp; simp)⟩) SD.out ?_
                change wpAnyH _ _ _ _ _ _ _ (Act.put _ (some 49) _) _
                simp only [Act.put, List.setIfInBounds_toArray, List.set_cons_zero, List.set_cons_succ]
                refine wpAnyH_take (i := 3) (v := (.bool false)) rfl (by kernel_rfl) (by kernel_rfl) (by kernel_rfl) (fun _ _ _ h => h) (Or.inl ⟨by rfl, fun w' hs => by go_simp⟩) SD.out ?_
                change wpAnyH _ _ _ _ _ _ _ (Act.put _ (some 50) _) _
                simp only [Act.put, List.setIfInBounds_toArray, List.set_cons_zero, List.set_cons_succ]
                refine wpAnyH_take (i := 4) (v := undef) rfl (by kernel_rfl) (by kernel_rfl) (by kernel_rfl) (fun _ _ _ h => h) (Or.inr ⟨by rfl, rfl⟩) SD.out ?_
                change wpAnyH _ _ _ _ _ _ _ (Act.put _ (some 51) _) _
                simp only [Act.put, List.setIfInBounds_toArray, List.set_cons_zero, List.set_cons_succ]
                refine wpAnyH_take (i := 5) (v := undef) rfl (by kernel_rfl) (by kernel_rfl) (by kernel_rfl) (fun _ _ _ h => h) (Or.inr ⟨by rfl, rfl⟩) SD.out ?_
                change wpAnyH _ _ _ _ _ _ _ (Act.put _ (some 52) _) _
                simp only [Act.put, List.setIfInBounds_toArray, List.set_cons_zero, List.set_cons_succ]
                refine wpAnyH_take (i := 6) (v := undef) rfl (by kernel_rfl) (by kernel_rfl) (by kernel_rfl) (fun _ _ _ h => h) (Or.inr ⟨by rfl, rfl⟩) SD.out ?_
                change wpAnyH _ _ _ _ _ _ _ (Act.put _ (some 53) _) _
                simp only [Act.put, List.setIfInBounds_toArray, List.set_cons_zero, List.set_cons_succ]
                refine wpAnyH_take (i := 7) (v := undef) rfl (by kernel_rfl) (by kernel_rfl) (by kernel_rfl) (fun _ _ _ h => h) (Or.inr ⟨by rfl, rfl⟩) SD.out ?_
                change wpAnyH _ _ _ _ _ _ _ (Act.put _ (some 54) _) _
                simp only [Act.put, List.setIfInBounds_toArray, List.set_cons_zero, List.set_cons_succ]
                refine wpAnyH_take (i := 8) (v := undef) rfl (by kernel_rfl) (by kernel_rfl) (by kernel_rfl) (fun _ _ _ h => h) (Or.inr ⟨by rfl, rfl⟩) SD.out ?_
                change wpAnyH _ _ _ _ _ _ _ (Act.put _ (some 55) _) _
                simp only [Act.put, List.setIfInBounds_toArray, List.set_cons_zero, List.set_cons_succ]
                refine wpAnyH_take (i := 9) (v := undef) rfl (by kernel_rfl) (by kernel_rfl) (by kernel_rfl) (fun _ _ _ h => h) (Or.inr ⟨by rfl, rfl⟩) SD.out ?_
                change wpAnyH _ _ _ _ _ _ _ (Act.put _ (some 56) _) _
                simp only [Act.put, List.setIfInBounds_toArray, List.set_cons_zero, List.set_cons_succ]
                refine wpAnyH_take (i := 10) (v := undef) rfl (by kernel_rfl) (by kernel_rfl) (by kernel_rfl) (fun _ _ _ h => h) (Or.inr ⟨by rfl, rfl⟩) SD.out ?_
                change wpAnyH _ _ _ _ _ _ _ (Act.put _ (some 57) _) _
                simp only [Act.put, List.setIfInBounds_toArray, List.set_cons_zero, List.set_cons_succ]
                refine wpAnyH_take (i := 11) (v := undef) rfl (by kernel_rfl) (by kernel_rfl) (by kernel_rfl) (fun _ _ _ h => h) (Or.inr ⟨by rfl, rfl⟩) SD.out ?_
                change wpAnyH _ _ _ _ _ _ _ (Act.put _ (some 58) _) _
                simp only [Act.put, List.setIfInBounds_toArray, List.set_cons_zero, List.set_cons_succ]
                refine wpAnyH_take (i := 12) (v := undef) rfl (by kernel_rfl) (by kernel_rfl) (by kernel_rfl) (fun _ _ _ h => h) (Or.inr ⟨by rfl, rfl⟩) SD.out ?_
                change wpAnyH _ _ _ _ _ _ _ (Act.put _ (some 59) _) _
                simp only [Act.put, List.setIfInBounds_toArray, List.set_cons_zero, List.set_cons_succ]
                refine wpAnyH_take (i := 13) (v := undef) rfl (by kernel_rfl) (by kernel_rfl) (by kernel_rfl) (fun _ _ _ h => h) (Or.inr ⟨by rfl, rfl⟩) SD.out ?_
                change wpAnyH _ _ _ _ _ _ _ (Act.put _ (some 60) _) _
                simp only [Act.put, List.setIfInBounds_toArray, List.set_cons_zero, List.set_cons_succ]
                refine wpAnyH_take (i := 14) (v := undef) rfl (by kernel_rfl) (by kernel_rfl) (by kernel_rfl) (fun _ _ _ h => h) (Or.inr ⟨by rfl, rfl⟩) SD.out ?_
                change wpAnyH _ _ _ _ _ _ _ (Act.put _ (some 61) _) _
                simp only [Act.put, List.setIfInBounds_toArray, List.set_cons_zero, List.set_cons_succ]
                refine wpAnyH_take (i := 15) (v := undef) rfl (by kernel_rfl) (by kernel_rfl) (by kernel_rfl) (fun _ _ _ h => h) (Or.inr ⟨by rfl, rfl⟩) SD.out ?_
                change wpAnyH _ _ _ _ _ _ _ (Act.put _ (some 62) _) _
                simp only [Act.put, List.setIfInBounds_toArray, List.set_cons_zero, List.set_cons_succ]
                refine wpAnyH_take (i := 16) (v := undef) rfl (by kernel_rfl) (by kernel_rfl) (by kernel_rfl) (fun _ _ _ h => h) (Or.inr ⟨by rfl, rfl⟩) SD.out ?_
                change wpAnyH _ _ _ _ _ _ _ (Act.put _ (some 63) _) _
                simp only [Act.put, List.setIfInBounds_toArray, List.set_cons_zero, List.set_cons_succ]
                refine wpAnyH_take (i := 17) (v := (.bool false)) rfl (by kernel_rfl) (by kernel_rfl) (by kernel_rfl) (fun _ _ _ h => h) (Or.inl ⟨by rfl, fun w' hs => by go_simp⟩) SD.out ?_
                change wpAnyH _ _ _ _ _ _ _ (Act.put _ (some 64) _) _
                simp only [Act.put, List.setIfInBounds_toArray, List.set_cons_zero, List.set_cons_succ]
                refine wpAnyH_done (by kernel_rfl) ?_ _
                go_wp2_with fail
                go_roundw
                case rel => exact ⟨j + 1, by have := HK.out; omega, by go_num, on HB2.out SD.out⟩
                case measure => have := HK.out; simp [intOf]; omega
              · have hne : ((j : Int) != (k : Int)) = true := by simp; omega
                have HNE : Hid (j ≠ k) := hjk
                clear hjk
                have SD : Hid (Below wr.heap.size wr wr.drew) := (Below.refl _ _).drew
                refine wp_region_held (S := fun w' => Below wr.heap.size wr w') (by kernel_rfl) ?_
                change wpAnyH _ _ _ _ _ _ _ _ (World.drew _)
                generalize wr.drew = u0 at *
                refine wpAnyH_take (i := 0) (v := (.int .i64 (j : Int))) rfl (by kernel_rfl) (by kernel_rfl) (by kernel_rfl) (fun _ _ _ h => h) (Or.inl ⟨by rfl, fun w' hs => by go_simp⟩) SD.out ?_
                change wpAnyH _ _ _ _ _ _ _ (Act.put _ (some 47) _) _
                simp only [Act.put, List.setIfInBounds_toArray, List.set_cons_zero, List.set_cons_succ]
                refine wpAnyH_take (i := 1) (v := (.int .i64 (k : Int))) rfl (by kernel_rfl) (by kernel_rfl) (by kernel_rfl) (fun _ _ _ h => h) (Or.inl ⟨by rfl, fun w' hs => by go_simp⟩) SD.out ?_
                change wpAnyH _ _ _ _ _ _ _ (Act.put _ (some 48) _) _
                simp only [Act.put, List.setIfInBounds_toArray, List.set_cons_zero, List.set_cons_succ]
                refine wpAnyH_take (i := 2) (v := (.bool true)) rfl (by kernel_rfl) (by kernel_rfl) (by kernel_rfl) (fun _ _ _ h => h) (Or.inl ⟨by rfl, fun w' hs => by first | (go_simp; done) | (go_simp; simp; omega)⟩) SD.out ?_
                change wpAnyH _ _ _ _ _ _ _ (Act.put _ (some 49) _) _
                simp only [Act.put, List.setIfInBounds_toArray, List.set_cons_zero, List.set_cons_succ]
                refine wpAnyH_take (i := 3) (v := (.bool true)) rfl (by kernel_rfl) (by kernel_rfl) (by kernel_rfl) (fun _ _ _ h => h) (Or.inl ⟨by rfl, fun w' hs => by go_simp⟩) SD.out ?_
                change wpAnyH _ _ _ _ _ _ _ (Act.put _ (some 50) _) _
                simp only [Act.put, List.setIfInBounds_toArray, List.set_cons_zero, List.set_cons_succ]
                refine wpAnyH_take (i := 4) (v := (.agg #[.slice a0 n0 c0, .slice a1 n1 c1, .slice a2 n2 c2, .slice a3 n3 c3])) rfl (by kernel_rfl) (by kernel_rfl) (by kernel_rfl) (fun _ _ _ h => h) (Or.inl ⟨by rfl, fun w' hs => by have hp := QBr.out.keep hs; have y0 := hp.cell (i := 0) rfl; have y1 := hp.cell (i := 1) rfl; have y2 := hp.cell (i := 2) rfl; have y3 := hp.cell (i := 3) rfl; go_simp⟩) SD.out ?_
                change wpAnyH _ _ _ _ _ _ _ (Act.put _ (some 51) _) _
                simp only [Act.put, List.setIfInBounds_toArray, List.set_cons_zero, List.set_cons_succ]
                refine wpAnyH_take (i := 5) (v := (.int .i64 (j : Int))) rfl (by kernel_rfl) (by kernel_rfl) (by kernel_rfl) (fun _ _ _ h => h) (Or.inl ⟨by rfl, fun w' hs => by go_simp⟩) SD.out ?_
                change wpAnyH _ _ _ _ _ _ _ (Act.put _ (some 52) _) _
                simp only [Act.put, List.setIfInBounds_toArray, List.set_cons_zero, List.set_cons_succ]
                refine wpAnyH_take (i := 6) (v := (.slice (some ⟨g, 0, none⟩) n0 vc)) rfl (by kernel_rfl) (by kernel_rfl) (by kernel_rfl) (fun _ _ _ h => h) (Or.inl ⟨by rfl, fun w' hs => by go_simp⟩) SD.out ?_
                change wpAnyH _ _ _ _ _ _ _ (Act.put _ (some 53) _) _
                simp only [Act.put, List.setIfInBounds_toArray, List.set_cons_zero, List.set_cons_succ]
                refine wpAnyH_take (i := 7) (v := (.int .i64 (j : Int))) rfl (by kernel_rfl) (by kernel_rfl) (by kernel_rfl) (fun _ _ _ h => h) (Or.inl ⟨by rfl, fun w' hs => by go_simp⟩) SD.out ?_
                change wpAnyH _ _ _ _ _ _ _ (Act.put _ (some 54) _) _
                simp only [Act.put, List.setIfInBounds_toArray, List.set_cons_zero, List.set_cons_succ]
                refine wpAnyH_take (i := 8) (v := (.pointer (some ⟨g, j, none⟩))) rfl (by kernel_rfl) (by kernel_rfl) (by kernel_rfl) (fun _ _ _ h => h) (Or.inl ⟨by rfl, fun w' hs => by have l1 := HL.out; go_simp⟩) SD.out ?_
                change wpAnyH _ _ _ _ _ _ _ (Act.put _ (some 55) _) _
                simp only [Act.put, List.setIfInBounds_toArray, List.set_cons_zero, List.set_cons_succ]
                refine wpAnyH_take (i := 9) (v := (.slice (some ⟨B j, 0, none⟩) 8 (C j))) rfl (by kernel_rfl) (by kernel_rfl) (by kernel_rfl) (fun _ _ _ h => h) (Or.inl ⟨by rfl, fun w' hs => by have y := (SPr.out.keep hs).cell j HL.out; go_simp⟩) SD.out ?_
                change wpAnyH _ _ _ _ _ _ _ (Act.put _ (some 56) _) _
                simp only [Act.put, List.setIfInBounds_toArray, List.set_cons_zero, List.set_cons_succ]
                refine wpAnyH_take (i := 10) (v := (.int .i64 (k : Int))) rfl (by kernel_rfl) (by kernel_rfl) (by kernel_rfl) (fun _ _ _ h => h) (Or.inl ⟨by rfl, fun w' hs => by go_simp⟩) SD.out ?_
                change wpAnyH _ _ _ _ _ _ _ (Act.put _ (some 57) _) _
                simp only [Act.put, List.setIfInBounds_toArray, List.set_cons_zero, List.set_cons_succ]
                refine wpAnyH_take (i := 11) (v := (.slice (some ⟨g, 0, none⟩) n0 vc)) rfl (by kernel_rfl) (by kernel_rfl) (by kernel_rfl) (fun _ _ _ h => h) (Or.inl ⟨by rfl, fun w' hs => by go_simp⟩) SD.out ?_
                change wpAnyH _ _ _ _ _ _ _ (Act.put _ (some 58) _) _
                simp only [Act.put, List.setIfInBounds_toArray, List.set_cons_zero, List.set_cons_succ]
                refine wpAnyH_take (i := 12) (v := (.int .i64 (k : Int))) rfl (by kernel_rfl) (by kernel_rfl) (by kernel_rfl) (fun _ _ _ h => h) (Or.inl ⟨by rfl, fun w' hs => by go_simp⟩) SD.out ?_
                change wpAnyH _ _ _ _ _ _ _ (Act.put _ (some 59) _) _
                simp only [Act.put, List.setIfInBounds_toArray, List.set_cons_zero, List.set_cons_succ]
                refine wpAnyH_take (i := 13) (v := (.pointer (some ⟨g, k, none⟩))) rfl (by kernel_rfl) (by kernel_rfl) (by kernel_rfl) (fun _ _ _ h => h) (Or.inl ⟨by rfl, fun w' hs => by have l1 := HK.out; go_simp⟩) SD.out ?_
                change wpAnyH _ _ _ _ _ _ _ (Act.put _ (some 60) _) _
                simp only [Act.put, List.setIfInBounds_toArray, List.set_cons_zero, List.set_cons_succ]
                refine wpAnyH_take (i := 14) (v := (.slice (some ⟨B k, 0, none⟩) 8 (C k))) rfl (by kernel_rfl) (by kernel_rfl) (by kernel_rfl) (fun _ _ _ h => h) (Or.inl ⟨by rfl, fun w' hs => by have y := (SPr.out.keep hs).cell k HK.out; go_simp⟩) SD.out ?_
                change wpAnyH _ _ _ _ _ _ _ (Act.put _ (some 61) _) _
                simp only [Act.put, List.setIfInBounds_toArray, List.set_cons_zero, List.set_cons_succ]
                refine wpAnyH_ready (rs := [15]) (by kernel_rfl) (by simp) ?_
                refine AllReadyH.cons rfl (fun K hK => ?_) AllReadyH.nil
                rw [if_pos (by rfl)]
                go_simp
                refine (i_gives _ _ _ _ _ _ _ _ _ _ _ _ P (j : Int) (k : Int) _ _ (mapsL P j) (mapsL P k) b b _ (HP2.out.stay (on HB2.out SD.out)) ((SPr.out.keep SD.out).inn j HL.out) ((SPr.out.keep SD.out).inn k HK.out) (by have := L8.out j HL.out; omega) (by have := L8.out k HK.out; omega) (fun x hx hw => map_give PF.out HNE.out hx hw)).mono ?_
                rintro e u1 ⟨rfl, b5⟩
                replace SD : Hid (Below wr.heap.size wr u1) := on SD.out b5
                clear b5
                refine hK.out _ _ SD.out (fun _ => ?_)
                clear hK K
                refine wpAnyH_take (i := 16) (v := (.bool false)) rfl (by kernel_rfl) (by kernel_rfl) (by kernel_rfl) (fun _ _ _ h => h) (Or.inl ⟨by rfl, fun w' hs => by go_simp⟩) SD.out ?_
                change wpAnyH _ _ _ _ _ _ _ (Act.put _ (some 63) _) _
                simp only [Act.put, List.setIfInBounds_toArray, List.set_cons_zero, List.set_cons_succ]
                refine wpAnyH_take (i := 17) (v := (.bool false)) rfl (by kernel_rfl) (by kernel_rfl) (by kernel_rfl) (fun _ _ _ h => h) (Or.inl ⟨by rfl, fun w' hs => by go_simp⟩) SD.out ?_
                change wpAnyH _ _ _ _ _ _ _ (Act.put _ (some 64) _) _
                simp only [Act.put, List.setIfInBounds_toArray, List.set_cons_zero, List.set_cons_succ]
                refine wpAnyH_done (by kernel_rfl) ?_ _
                go_wp2_with fail
                go_roundw
                case rel => exact ⟨k + 1, by have := HK.out; omega, by go_num, on HB2.out SD.out⟩
                case measure => have := HK.out; simp [intOf]; omega
            · have hKI : ¬ (k : Int) < (n0 : Int) := by omega
              clear hkt hk
              go_wp2_with fail
              go_roundw
              case rel => exact ⟨j + 1, by have := HL.out; omega, by go_num, HB2.out⟩
              case measure => have := HL.out; simp [intOf]; omega
        · have hI : ¬ (j : Int) < (n0 : Int) := by omega
          clear hlt hj
          go_wp2_with fail
          go_ret
          exact ⟨rfl, on BW2.out HB.out⟩
end Go.Proofs.YtdhdfopkcpkbeaaGreatDoor
namespace Go.Proofs.YtdhdfopkcpkbeaaGreatDoor
open Go.RowKit
set_option linter.unusedVariables false

theorem ld_same (zs : List Int) (k : Nat) (x : Int) (h : k < zs.length) : (zs.set k x).getD k 0 = x := by
  rw [List.getD, List.getElem?_set_self h]; rfl
theorem ld_other (zs : List Int) (k j : Nat) (x : Int) (h : k ≠ j) : (zs.set k x).getD j 0 = zs.getD j 0 := by
  rw [List.getD, List.getD, List.getElem?_set_ne h]
def posL (ow : List Int) (i : Nat) : Nat := (ow.getD (i / 8) 0).toNat * 8 + i % 8
theorem lay_other (ow img m : List Int) (q : Nat) : ∀ n, (∀ i, i < n → posL ow i ≠ q) → (layM ow img m n).getD q 0 = m.getD q 0
  | 0, _ => rfl
  | n + 1, h => by
    rw [layM, putW, ld_other _ _ _ _ (show (ow.getD (n / 8) 0).toNat * 8 + n % 8 ≠ q from h n (by omega))]
    exact lay_other ow img m q n fun i hi => h i (by omega)
theorem lay_at (ow img m : List Int) (i : Nat) (hb : posL ow i < m.length) : ∀ n, i < n → (∀ k, k < n → k ≠ i → posL ow k ≠ posL ow i) → (layM ow img m n).getD (posL ow i) 0 = wd (img.getD i 0)
  | 0, hi, _ => absurd hi (Nat.not_lt_zero _)
  | n + 1, hi, h => by
    rw [layM, putW]
    by_cases e : n = i
    · subst e
      exact ld_same _ _ _ (by rw [layM_len]; exact hb)
    · rw [ld_other _ _ _ _ (show (ow.getD (n / 8) 0).toNat * 8 + n % 8 ≠ posL ow i from h n (by omega) e)]
      exact lay_at ow img m i hb n (by omega) fun k hk => h k (by omega)
theorem dup_nodup : ∀ (l seen : List Int), dupF seen l = false → l.Nodup
  | [], _, _ => List.nodup_nil
  | z :: t, seen, h => by
    rw [dupF] at h
    split at h
    · cases h
    · refine List.nodup_cons.2 ⟨fun hz => ?_, dup_nodup t _ h⟩
      exact dup_seen (seen ++ [z]) t h z hz (by simp)
theorem flat_nodup : ∀ (own : List (List Int)), own.flatten.Nodup → ∀ o ∈ own, o.Nodup
  | [], _, o, ho => by cases ho
  | a :: t, h, o, ho => by
    rw [List.flatten_cons, List.nodup_append] at h
    rcases List.mem_cons.1 ho with rfl | ho
    · exact h.1
    · exact flat_nodup t h.2.1 o ho
theorem nodup_get {l : List Int} (h : l.Nodup) {a b : Nat} (ha : a < l.length) (hb : b < l.length) (e : l.getD a 0 = l.getD b 0) : a = b := by
  rw [List.getD, List.getD, List.getElem?_eq_getElem ha, List.getElem?_eq_getElem hb] at e
  have e : l[a] = l[b] := e
  unfold List.Nodup at h
  rw [List.pairwise_iff_getElem] at h
  rcases Nat.lt_trichotomy a b with k | k | k
  · exact absurd e (h a b ha hb k)
  · exact k
  · exact absurd e.symm (h b a hb ha k)
theorem pf_nodup {P : Plc} (h : pfV P = 0) (g : Nat) (hg : g < P.own.length) : (P.own.getD g []).Nodup := by
  have h2 := (or_zero (or_zero h).1).2
  unfold g2V at h2
  split at h2
  · cases h2
  · rename_i hd
    exact flat_nodup _ (dup_nodup _ [] (by simpa using hd)) _ (getD_mem P.own [] g hg)
/-- The place of a word of a guest. -/
theorem pos_fact {P : Plc} (h : pfV P = 0) {g i : Nat} (hg : g < P.own.length) (hi : i < (P.own.getD g []).length * 8) : ownerFrom 0 P.own ((P.own.getD g []).getD (i / 8) 0) = g ∧ 0 ≤ (P.own.getD g []).getD (i / 8) 0 ∧ (P.own.getD g []).getD (i / 8) 0 ≤ 23 :=
  (pf_lf h).own g _ (getD_mem _ 0 _ (by omega))
theorem pos_inj {P : Plc} (h : pfV P = 0) {g g' i i' : Nat} (hg : g < P.own.length) (hi : i < (P.own.getD g []).length * 8) (hg' : g' < P.own.length) (hi' : i' < (P.own.getD g' []).length * 8) (e : posL (P.own.getD g []) i = posL (P.own.getD g' []) i') : g = g' ∧ i = i' := by
  have f := pos_fact h hg hi
  have f' := pos_fact h hg' hi'
  unfold posL at e
  have e1 : (P.own.getD g []).getD (i / 8) 0 = (P.own.getD g' []).getD (i' / 8) 0 := by omega
  have e2 : i % 8 = i' % 8 := by omega
  have e3 : g = g' := by
    have := f.1
    rw [e1, f'.1] at this
    omega
  subst e3
  have := nodup_get (pf_nodup h g hg) (by omega) (by omega) e1
  exact ⟨rfl, by omega⟩
theorem all_at {P : Plc} (h : pfV P = 0) (iss : List (List Int)) (m : List Int) (hm : m.length = 192) (hl : iss.length = P.own.length) (hs : ∀ j, j < iss.length → (iss.getD j []).length ≤ (P.own.getD j []).length * 8) {g i : Nat} (hi : i < (iss.getD g []).length) : ∀ n, n ≤ iss.length → g < n → (allM P.own iss m n).getD (posL (P.own.getD g []) i) 0 = wd ((iss.getD g []).getD i 0)
  | 0, _, hg => absurd hg (Nat.not_lt_zero _)
  | n + 1, hn, hg => by
    have hs' := hs g (by omega)
    rw [allM]
    by_cases e : g = n
    · subst e
      refine lay_at _ _ _ i ?_ _ hi fun k hk hne he => hne (pos_inj h (by omega) (by omega) (by omega) (by omega) he).2
      rw [allM_len, hm]
      have := pos_fact h (show g < P.own.length by omega) (show i < (P.own.getD g []).length * 8 by omega)
      unfold posL
      omega
    · rw [lay_other _ _ _ _ _ fun k hk he => e (pos_inj h (by omega) (by omega) (by omega) (by have := hs n (by omega); omega) he.symm).1]
      exact all_at h iss m hm hl hs hi n (by omega) (by omega)
theorem all_free {P : Plc} (h : pfV P = 0) (iss : List (List Int)) (m : List Int) (hl : iss.length = P.own.length) (hs : ∀ j, j < iss.length → (iss.getD j []).length ≤ (P.own.getD j []).length * 8) {x : Int} (hx : 0 ≤ x) (ho : ownerFrom 0 P.own x = -1) {k : Nat} (hk : k < 8) : ∀ n, n ≤ iss.length → (allM P.own iss m n).getD (x.toNat * 8 + k) 0 = m.getD (x.toNat * 8 + k) 0
  | 0, _ => rfl
  | n + 1, hn => by
    rw [allM, lay_other _ _ _ _ _ fun i hi he => ?_]
    · exact all_free h iss m hl hs hx ho hk n (by omega)
    · have f := pos_fact h (show n < P.own.length by omega) (show i < (P.own.getD n []).length * 8 by have := hs n (by omega); omega)
      unfold posL at he
      have e1 : (P.own.getD n []).getD (i / 8) 0 = x := by omega
      rw [e1, ho] at f
      omega
theorem ld_isW (x : Int) : isW (wd x) = true := by
  have := wd_in x
  simp [isW]
  omega
theorem set_isW {zs : List Int} (h : zs.all isW = true) (k : Nat) (x : Int) : (zs.set k (wd x)).all isW = true := by
  rw [List.all_eq_true] at h ⊢
  intro y hy
  rcases List.mem_or_eq_of_mem_set hy with hy | rfl
  · exact h y hy
  · exact ld_isW x
theorem lay_isW (ow img : List Int) {m : List Int} (h : m.all isW = true) : ∀ n, (layM ow img m n).all isW = true
  | 0 => h
  | n + 1 => by rw [layM, putW]; exact set_isW (lay_isW ow img h n) _ _
theorem all_isW (own iss : List (List Int)) {m : List Int} (h : m.all isW = true) : ∀ n, (allM own iss m n).all isW = true
  | 0 => h
  | n + 1 => by rw [allM]; exact lay_isW _ _ (all_isW own iss h n) _
theorem zero_at (k : Nat) : (List.replicate 192 (0 : Int)).getD k 0 = 0 := by
  rw [List.getD, List.getElem?_replicate]
  split <;> rfl
/-- What stands in a memory into which images were laid. -/
structure Ldm (P : Plc) (iss : List (List Int)) (M : List Int) : Prop where
  pf : pfV P = 0
  len : iss.length = P.own.length
  size : ∀ j, j < iss.length → (iss.getD j []).length ≤ (P.own.getD j []).length * 8
  m192 : M.length = 192
  mem : memV M = 0
  word : ∀ g i, g < iss.length → i < (iss.getD g []).length → M.getD (posL (P.own.getD g []) i) 0 = wd ((iss.getD g []).getD i 0)
  zero : ∀ x : Int, 0 ≤ x → ownerFrom 0 P.own x = -1 → ∀ k, k < 8 → M.getD (x.toNat * 8 + k) 0 = 0
theorem ld_of {P : Plc} {iss : List (List Int)} (h : loadC P iss = 0) : Ldm P iss (loadZ P iss) := by
  have h0 := h
  unfold loadC at h
  split at h
  · rename_i hp
    have hs : iss.length = P.own.length ∧ ∀ j, j < iss.length → (iss.getD j []).length ≤ (P.own.getD j []).length * 8 := by
      unfold imgC at h
      split at h
      · rename_i h1
        refine ⟨h1, fun j hj => ?_⟩
        have := sizes_all P.own iss _ h j hj
        unfold badAt at this
        have := of_decide_eq_false this
        omega
      · cases h
    have e : loadZ P iss = allM P.own iss (List.replicate 192 0) iss.length := by unfold loadZ; rw [if_pos h0]
    have l : (loadZ P iss).length = 192 := by rw [e, allM_len, List.length_replicate]
    refine ⟨hp, hs.1, hs.2, l, ?_, fun g i hg hi => ?_, fun x hx ho k hk => ?_⟩
    · unfold memV
      rw [l, if_pos (by decide), e, if_pos (all_isW _ _ (by decide) _)]
    · rw [e]
      exact all_at hp iss _ (List.length_replicate) hs.1 hs.2 hi _ (Nat.le_refl _) hg
    · rw [e, all_free hp iss _ hs.1 hs.2 hx ho hk _ (Nat.le_refl _), zero_at]
  · rename_i hp; exact absurd h hp
theorem eight_at (ms : List Int) (hm : ms.length = 192) (p i : Nat) (hp : p < 24) (hi : i < 8) : (eight ms p).getD i 0 = ms.getD (p * 8 + i) 0 := by
  unfold eight
  rw [List.getD, List.getD, List.getElem?_take, if_pos hi, List.getElem?_drop]
theorem words_at (ms : List Int) (hm : ms.length = 192) : ∀ (ps : List Int) (i : Nat), (∀ x ∈ ps, 0 ≤ x ∧ x ≤ 23) → i < ps.length * 8 → (wordsL ms ps).getD i 0 = ms.getD (posL ps i) 0
  | [], i, _, hi => by simp at hi
  | p :: t, i, h, hi => by
    have hp := h p (by simp)
    have l8 := eight_length ms 24 p.toNat (by omega) (by omega)
    rw [wordsL]
    by_cases e : i < 8
    · have e1 : i / 8 = 0 := by omega
      have e2 : i % 8 = i := by omega
      rw [List.getD, List.getElem?_append_left (by omega)]
      have := eight_at ms hm p.toNat i (by omega) e
      rw [List.getD] at this
      rw [this]
      unfold posL
      rw [e1, e2]
      rfl
    · rw [List.getD, List.getElem?_append_right (by omega), l8]
      have := words_at ms hm t (i - 8) (fun x hx => h x (List.mem_cons_of_mem _ hx)) (by rw [List.length_cons] at hi; omega)
      rw [List.getD] at this
      rw [this]
      unfold posL
      have e1 : i / 8 = (i - 8) / 8 + 1 := by omega
      have e2 : i % 8 = (i - 8) % 8 := by omega
      rw [e1, e2]
      rfl
/-- The words of a guest in that memory. -/
theorem ld_words {P : Plc} {iss : List (List Int)} {M : List Int} (h : Ldm P iss M) (g : Nat) (hg : g < iss.length) : wordsC P M (g : Int) = 0 ∧ (wordsZ P M (g : Int)).length = (P.own.getD g []).length * 8 ∧ ∀ i, i < (iss.getD g []).length → (wordsZ P M (g : Int)).getD i 0 = wd ((iss.getD g []).getD i 0) := by
  have hg' : g < P.own.length := by rw [← h.len]; exact hg
  have c : wordsC P M (g : Int) = 0 := by
    have a : askV P (g : Int) = 0 := by
      unfold askV
      rw [if_pos h.pf, if_neg]
      rw [show isG P.own.length (g : Int) = true by rw [isG_iff]; omega]
      decide
    have b : wholeB M = true := by unfold wholeB; simp [h.m192, h.mem]
    unfold wordsC
    rw [if_pos a, if_pos b]
  have z : wordsZ P M (g : Int) = wordsL M (P.own.getD g []) := by unfold wordsZ; rw [if_pos c]; rfl
  have pg := (pf_own P h.pf g hg').2.2
  refine ⟨c, by rw [z, wordsL_len M h.m192 _ pg], fun i hi => ?_⟩
  rw [z, words_at M h.m192 _ i pg (by have := h.size g hg; omega), h.word g i hg hi]
/-- Where a guest's word lies, by the map. -/
theorem map_walk {P : Plc} (h : pfV P = 0) (g i : Nat) (hg : g < P.own.length) (hi : i < (P.own.getD g []).length * 8) : wpC (mapsL P g) (i : Int) 4 = 0 ∧ wpV (mapsL P g) (i : Int) 4 = ((posL (P.own.getD g []) i : Nat) : Int) := by
  have hp := map_pgs h g
  have f := pos_fact h hg hi
  have l5 := (pf_own P h g hg).2.1
  have hd : (i : Int) / 8 = ((i / 8 : Nat) : Int) := by omega
  have e : (mapsL P g).getD ((i : Int) / 8).toNat (0, 0) = ((P.own.getD g []).getD (i / 8) 0, 7) := by
    rw [hd, Int.toNat_natCast]
    unfold mapsL pforL
    rw [List.getD, List.getElem?_map, List.getElem?_range (by omega)]
    show pageV _ _ _ _ = _
    unfold pageV
    rw [if_pos (by omega)]
  have b : goesB (mapsL P g) (i : Int) 4 = true := by
    unfold goesB
    rw [e]
    rw [show (bits BinOp.and .i64 7 4 == 0) = false by decide]
    simp
    omega
  have k : kindB 4 = true := by decide
  unfold wpC wpV
  rw [if_pos hp, if_pos hp]
  unfold wkC wkV
  rw [if_pos k, if_pos b, if_pos k, if_pos b]
  refine ⟨rfl, ?_⟩
  unfold goesTo
  rw [e]
  unfold posL
  omega
theorem free_at (P : Plc) (x : Int) : ∀ n, x ∈ freeUp P n → ownerFrom 0 P.own x = -1 ∧ 0 ≤ x ∧ x < n
  | 0, h => by cases h
  | n + 1, h => by
    rw [freeUp] at h
    rcases List.mem_append.1 h with h | h
    · have := free_at P x n h; omega
    · split at h
      · rename_i h1
        have : x = n := by simpa using h
        subst this
        unfold isFree at h1
        simp only [Bool.and_eq_true, decide_eq_true_eq] at h1
        exact ⟨h1.1, by omega, by omega⟩
      · cases h
theorem free_fact {P : Plc} (x : Int) (h : x ∈ freeZ P) : ownerFrom 0 P.own x = -1 ∧ 0 ≤ x ∧ x < 24 := by
  unfold freeZ at h
  split at h
  · exact free_at P x 24 h
  · cases h
end Go.Proofs.YtdhdfopkcpkbeaaGreatDoor
