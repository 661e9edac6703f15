/- Free pages, by the program. -/
import Derived.Test.YtmboobbfoffafaaDoorFre
namespace Go.Proofs.YtmboobbfoffafaaDoor
open Go.RowKit
set_option linter.unusedVariables false

set_option maxRecDepth 20000 in
set_option maxHeartbeats 4000000 in
theorem i_free (a0 a1 a2 a3 : Option Addr) (n0 c0 n1 c1 n2 c2 n3 c3 : Nat) (P : Plc) (w : World) (h : Pl w a0 n0 c0 a1 n1 c1 a2 n2 c2 a3 n3 c3 P) (hg : w.cell? ⟨0, 0, none⟩ = some (.iface 138 (.agg #[.pointer (some ⟨1, 94, none⟩)]))) :
    Calls Tryd.prog 19 #[.agg #[.slice a0 n0 c0, .slice a1 n1 c1, .slice a2 n2 c2, .slice a3 n3 c3]] w fun e w' => ∃ v, e = .returned (.agg #[.int .i64 (freeC P), v]) ∧ Nums w' w.heap.size v (freeZ P) ∧ Below w.heap.size w w' := by
  generalize hW : ((w.alloc (.cells #[.slice a0 n0 c0, .slice a1 n1 c1, .slice a2 n2 c2, .slice a3 n3 c3] 38))).alloc (.cells #[.int .i64 0, .slice none 0 0] 48) = W
  have B0 : Hid (Below w.heap.size w W) := by show Below _ _ _; rw [← hW]; exact al (al (Below.refl _ _) _) _
  obtain ⟨s, hS⟩ : ∃ s, w.heap.size = s := ⟨_, rfl⟩
  have HSs : Hid (w.heap.size = s) := hS
  have Q : Hid (W.cell? ⟨s, 0, none⟩ = some (.slice a0 n0 c0) ∧ W.cell? ⟨s, 1, none⟩ = some (.slice a1 n1 c1) ∧ W.cell? ⟨s, 2, none⟩ = some (.slice a2 n2 c2) ∧ W.cell? ⟨s, 3, none⟩ = some (.slice a3 n3 c3)) := by
    show _ ∧ _
    rw [← hW, ← hS]
    exact ⟨cell_push _ (cell_new rfl), cell_push _ (cell_new rfl), cell_push _ (cell_new rfl), cell_push _ (cell_new rfl)⟩
  have R : Hid (RsI W s) := by
    have z1 : s + 1 = ((w.alloc (.cells #[.slice a0 n0 c0, .slice a1 n1 c1, .slice a2 n2 c2, .slice a3 n3 c3] 38))).heap.size := by rw [← hS]; simp
    show RsI W s
    unfold RsI
    rw [← hW, z1]
    exact ⟨cell_new rfl, cell_new rfl, fz_new _ _ _ _, fz_new _ _ _ _, by simp⟩
  have HP : Hid (Pl W a0 n0 c0 a1 n1 c1 a2 n2 c2 a3 n3 c3 P) := h.stay B0.out
  have HA : Hid (PolAt W s P) := ⟨_, _, _, _, _, _, _, _, _, _, _, _, Q.out.1, Q.out.2.1, Q.out.2.2.1, Q.out.2.2.2, HP.out⟩
  have HG : Hid (_ = _) := cell_keep B0.out hg
  clear h hg
  have q0 := Q.out.1
  have q1 := Q.out.2.1
  have q2 := Q.out.2.2.1
  have q3 := Q.out.2.2.2
  go_enter Tryd.func19, Tryd.ntmps19
  go_wp2_with fail
  clear hW hS
  refine (impl_policy _ _ _ _ _ _ _ _ _ _ _ _ P _ HP.out HG.out).mono ?_
  rintro e w1 ⟨rfl, b1⟩
  by_cases hz : pfV P = 0
  · have ZV : Hid (freeZ P = freeUp P 24) := by show _ = _; rw [freeZ, if_pos hz]
    have AZ : Hid (freeC P = 0) := hz
    rw [hz]
    have B1 : Hid (Below w.heap.size w w1) := on B0.out b1
    have HPw : Hid (Pl w1 a0 n0 c0 a1 n1 c1 a2 n2 c2 a3 n3 c3 P) := HP.out.stay b1
    have R1 : Hid (RsI w1 s) := R.out.keep b1
    have Q1 : Hid (w1.cell? ⟨s, 0, none⟩ = some (.slice a0 n0 c0) ∧ w1.cell? ⟨s, 1, none⟩ = some (.slice a1 n1 c1) ∧ w1.cell? ⟨s, 2, none⟩ = some (.slice a2 n2 c2) ∧ w1.cell? ⟨s, 3, none⟩ = some (.slice a3 n3 c3)) := ⟨cell_keep b1 Q.out.1, cell_keep b1 Q.out.2.1, cell_keep b1 Q.out.2.2.1, cell_keep b1 Q.out.2.2.2⟩
    clear b1 hz q0 q1 q2 q3
    go_wp2_with fail
    go_loopw [4, 5, 12] (fun v _ c wr => ∃ j : Nat, j ≤ 24 ∧ c = .int .i64 j ∧ Nums wr w1.heap.size v (freeUp P j) ∧ Below w1.heap.size w1 wr) (fun _ _ c _ => 24 - (intOf c).toNat)
    case atStart => exact ⟨0, Nat.zero_le _, rfl, Nums.nil _ _, Below.refl _ _⟩
    case round =>
      obtain ⟨j, hj, rfl, hN, hB⟩ := hrel
      have HN : Hid (Nums wr _ _ (freeUp P j)) := hN
      have HB : Hid (Below _ w1 wr) := hB
      obtain ⟨ya, yc, hzz, _, _, _⟩ := hN.shape
      have HLN : Hid ((freeUp P j).length ≤ 24) := by have := freeUp_len P j; show _ ≤ _; omega
      generalize (freeUp P j).length = un at hzz
      subst hzz
      by_cases hlt : j < 24
      · have hI : (j : Int) < 24 := by omega
        have HL : Hid (j < 24) := hlt
        have q0 := cell_keep hB Q1.out.1
        have q1 := cell_keep hB Q1.out.2.1
        have q2 := cell_keep hB Q1.out.2.2.1
        have q3 := cell_keep hB Q1.out.2.2.2
        have FYH : Hid (ownerFrom 0 P.own (j : Int) = -1 → laneHas P.lanes (j : Int) = false → freeUp P (j + 1) = freeUp P j ++ [(j : Int)]) := freeUp_yes P j
        have FN1H : Hid (¬ ownerFrom 0 P.own (j : Int) = -1 → freeUp P (j + 1) = freeUp P j) := freeUp_no1 P j
        have FN2H : Hid (laneHas P.lanes (j : Int) = true → freeUp P (j + 1) = freeUp P j) := freeUp_no2 P j
        clear hN hB hlt
        go_wp2_with fail
        refine (i_owner _ _ _ _ _ _ _ _ _ _ _ _ P _ _ (HPw.out.stay HB.out)).mono ?_
        rintro e w2 ⟨rfl, b2⟩
        have B2 : Hid (Below _ w1 w2) := on HB.out b2
        have N2 : Hid (Nums w2 _ _ (freeUp P j)) := HN.out.keep b2
        clear b2
        by_cases ho : ownerFrom 0 P.own (j : Int) = -1
        · have q0 := cell_keep B2.out Q1.out.1
          have q1 := cell_keep B2.out Q1.out.2.1
          have q2 := cell_keep B2.out Q1.out.2.2.1
          have q3 := cell_keep B2.out Q1.out.2.2.2
          rw [ho]
          have FY2 := FYH.out ho
          clear ho FYH FN1H
          go_wp2_with fail
          refine (i_lanePg _ _ _ _ _ _ _ _ _ _ _ _ P _ _ (HPw.out.stay B2.out)).mono ?_
          rintro e w3 ⟨rfl, b3⟩
          have B3 : Hid (Below _ w1 w3) := on B2.out b3
          have N3 : Hid (Nums w3 _ _ (freeUp P j)) := N2.out.keep b3
          have SZ : Hid (w1.heap.size ≤ w3.heap.size) := B3.out.size
          clear b3 q0 q1 q2 q3
          generalize laneHas P.lanes (j : Int) = lh at *
          cases lh
          · have S2 : Hid (freeUp P (j + 1) = freeUp P j ++ [(j : Int)]) := FY2 rfl
            clear FY2
            go_wp2_with (at_builtin; refine wp_appn _ rfl _ _ rfl w1.heap.size _ _ rfl (N3.out.keep (al (Below.refl _ _) _)) w3.heap.size 1 1 [(j : Int)] rfl rfl (one_at (cell_new rfl)) (by have := HLN.out; simp; omega) (by have := SZ.out; simp; omega) ?_; intro v' w' hN' hG')
            have N' : Hid (Nums w' _ v' _) := hN'
            have B' : Hid (Below w1.heap.size w1 w') := (al B3.out _).grown hG' (by have := SZ.out; simp; omega) (fun k hk => (N3.out.lt k hk).1)
            clear hN' hG'
            go_wp2_with fail
            go_roundw
            case rel => exact ⟨j + 1, by have := HL.out; omega, by go_num, by rw [S2.out]; exact N'.out, B'.out⟩
            case measure => have := HL.out; simp [intOf]; omega
          · have S2 : Hid (freeUp P (j + 1) = freeUp P j) := FN2H.out rfl
            clear FY2
            go_wp2_with fail
            go_roundw
            case rel => exact ⟨j + 1, by have := HL.out; omega, by go_num, by rw [S2.out]; exact N3.out, B3.out⟩
            case measure => have := HL.out; simp [intOf]; omega
        · have S2 : Hid (freeUp P (j + 1) = freeUp P j) := FN1H.out ho
          have OR := owner_range P.own (j : Int) 0 (by omega)
          clear q0 q1 q2 q3 FYH FN1H FN2H
          generalize ownerFrom 0 P.own (j : Int) = ow at *
          have hw1 : (ow == -1) = false := by simpa using ho
          clear OR
          go_wp2_with fail
          go_roundw
          case rel => exact ⟨j + 1, by have := HL.out; omega, by go_num, by rw [S2.out]; exact N2.out, B2.out⟩
          case measure => have := HL.out; simp [intOf]; omega
      · have hI : ¬ (j : Int) < 24 := by omega
        obtain rfl : j = 24 := by omega
        obtain ⟨r0, r1, f0, f1, lt⟩ := R1.out.keep hB
        have LT : Hid (s + 1 < w1.heap.size) := R1.out.2.2.2.2
        clear hN hB hlt
        go_wp2_with fail
        refine bodyPost_ret (v := .agg #[.int .i64 0, .slice ya un yc]) (by simp [results, Tryd.results19, go_sem, r0, r1]) rfl ⟨.slice ya un yc, by rw [AZ.out], ?_, ((on B1.out HB.out).setCell (by have := HSs.out; show w.heap.size ≤ s + 1; omega) _).setCell (by have := HSs.out; show w.heap.size ≤ s + 1; omega) _⟩
        have ne : (Value.slice ya un yc).ownBlock ≠ some (s + 1) := fun e => by have := (HN.out.lt _ e).1; have := LT.out; omega
        rw [ZV.out]
        exact ((HN.out.put ⟨s + 1, 0, none⟩ (.int .i64 0) ne).put ⟨s + 1, 1, none⟩ (.slice ya un yc) ne).mono (by have := B1.out.size; omega)
  · have ZV : Hid (freeZ P = []) := by show _ = _; rw [freeZ, if_neg hz]
    obtain ⟨r0, r1, f0, f1, lt⟩ := R.out.keep b1
    have B1 : Hid (Below w.heap.size w w1) := on B0.out b1
    generalize hv : pfV P = v at *
    have HV : Hid (freeC P = v) := hv
    clear b1
    go_wp2_with fail
    exact bodyPost_ret (v := .agg #[.int .i64 v, .slice none 0 0]) (by simp [results, Tryd.results19, go_sem, r0, r1]) rfl ⟨.slice none 0 0, by rw [HV.out], by rw [ZV.out]; exact Nums.nil _ _, (B1.out.setCell (by have := HSs.out; show w.heap.size ≤ s + 1; omega) _).setCell (by have := HSs.out; show w.heap.size ≤ s + 1; omega) _⟩
end Go.Proofs.YtmboobbfoffafaaDoor
