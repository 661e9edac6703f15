/- Free pages, by the model. -/
import Derived.Test.YtmboobbfoffafaaDoorFre
namespace Go.Proofs.YtmboobbfoffafaaDoor
open Go.RowKit
set_option linter.unusedVariables false

set_option maxRecDepth 20000 in
set_option maxHeartbeats 4000000 in
theorem s_free (a0 a1 a2 a3 : Option Addr) (n0 c0 n1 c1 n2 c2 n3 c3 : Nat) (P : Plc) (w : World) (h : Pl w a0 n0 c0 a1 n1 c1 a2 n2 c2 a3 n3 c3 P) :
    Calls Tryd.prog 18 #[.agg #[.slice a0 n0 c0, .slice a1 n1 c1, .slice a2 n2 c2, .slice a3 n3 c3]] w fun e w' => ∃ v, e = .returned (.agg #[.int .i64 (freeC P), v]) ∧ Nums w' w.heap.size v (freeZ P) ∧ Below w.heap.size w w' := by
  generalize hW : ((w.alloc (.cells #[.slice a0 n0 c0, .slice a1 n1 c1, .slice a2 n2 c2, .slice a3 n3 c3] 38))).alloc (.cells #[.int .i64 0, .slice none 0 0] 48) = W
  have B0 : Hid (Below w.heap.size w W) := by show Below _ _ _; rw [← hW]; exact al (al (Below.refl _ _) _) _
  obtain ⟨s, hS⟩ : ∃ s, w.heap.size = s := ⟨_, rfl⟩
  have HSs : Hid (w.heap.size = s) := hS
  have Q : Hid (W.cell? ⟨s, 0, none⟩ = some (.slice a0 n0 c0) ∧ W.cell? ⟨s, 1, none⟩ = some (.slice a1 n1 c1) ∧ W.cell? ⟨s, 2, none⟩ = some (.slice a2 n2 c2) ∧ W.cell? ⟨s, 3, none⟩ = some (.slice a3 n3 c3)) := by
    show _ ∧ _
    rw [← hW, ← hS]
    exact ⟨cell_push _ (cell_new rfl), cell_push _ (cell_new rfl), cell_push _ (cell_new rfl), cell_push _ (cell_new rfl)⟩
  have R : Hid (RsI W s) := by
    have z1 : s + 1 = ((w.alloc (.cells #[.slice a0 n0 c0, .slice a1 n1 c1, .slice a2 n2 c2, .slice a3 n3 c3] 38))).heap.size := by rw [← hS]; simp
    show RsI W s
    unfold RsI
    rw [← hW, z1]
    exact ⟨cell_new rfl, cell_new rfl, fz_new _ _ _ _, fz_new _ _ _ _, by simp⟩
  have HP : Hid (Pl W a0 n0 c0 a1 n1 c1 a2 n2 c2 a3 n3 c3 P) := h.stay B0.out
  have HA : Hid (PolAt W s P) := ⟨_, _, _, _, _, _, _, _, _, _, _, _, Q.out.1, Q.out.2.1, Q.out.2.2.1, Q.out.2.2.2, HP.out⟩
  clear h
  have q0 := Q.out.1
  have q1 := Q.out.2.1
  have q2 := Q.out.2.2.1
  have q3 := Q.out.2.2.2
  go_enter Tryd.func18, Tryd.ntmps18
  go_wp2_with fail
  clear hW hS
  refine (l6_fault _ P _ HA.out).mono ?_
  rintro e w1 ⟨rfl, b1⟩
  by_cases hz : pfV P = 0
  · have ZV : Hid (freeZ P = freeUp P 24) := by show _ = _; rw [freeZ, if_pos hz]
    have AZ : Hid (freeC P = 0) := hz
    rw [hz]
    have B1 : Hid (Below w.heap.size w w1) := on B0.out b1
    have HPw : Hid (Pl w1 a0 n0 c0 a1 n1 c1 a2 n2 c2 a3 n3 c3 P) := HP.out.stay b1
    have HAw : Hid (PolAt w1 s P) := HA.out.stay b1
    have R1 : Hid (RsI w1 s) := R.out.keep b1
    have Q1 : Hid (w1.cell? ⟨s, 1, none⟩ = some (.slice a1 n1 c1)) := cell_keep b1 Q.out.2.1
    have HL1 : Hid (n1 = P.lanes.length) := HPw.out.lanes.len
    have hi1 : (n1 : Int) ≤ 4 := by have := HPw.out.lanes.len; have := (pf_parts P hz).2.2.2.2.1; omega
    clear b1 hz q0 q1 q2 q3
    go_wp2_with fail
    go_loopw [5, 6, 7] (fun c _ _ wr => ∃ (j : Nat) (z : Value), j ≤ 24 ∧ c = .int .i64 j ∧ GrewJ w1 w1.heap.size z (freeUp P j) wr) (fun c _ _ _ => 24 - (intOf c).toNat)
    case atStart => exact ⟨0, .slice none 0 0, Nat.zero_le _, rfl, ⟨Nums.nil _ _, by simp, by simp, by simp, al (Below.refl _ _) _⟩⟩
    case round =>
      obtain ⟨j, z, hj, rfl, hG⟩ := hrel
      have GR : Hid (GrewJ w1 w1.heap.size z (freeUp P j) wr) := hG
      obtain ⟨ya, yc, hzz, _, _, _⟩ := hG.prs.shape
      have HLN : Hid ((freeUp P j).length ≤ 24) := by have := freeUp_len P j; show _ ≤ _; omega
      generalize (freeUp P j).length = un at hzz
      subst hzz
      have BW : Hid (Below w1.heap.size w1 wr) := hG.below
      have q1 := cell_keep hG.below Q1.out
      by_cases hlt : j < 24
      · have o1 := hG.o1
        have s1 : w1.heap.size < wr.heap.size := block_of_cell o1
        have hI : (j : Int) < 24 := by omega
        have HL : Hid (j < 24) := hlt
        have OR := owner_range P.own (j : Int) 0 (by omega)
        have FY := freeUp_yes P j
        have FN1 := freeUp_no1 P j
        have FN2 := freeUp_no2 P j
        have LT := fun k (hk : k < P.lanes.length) => laneHas_take P.lanes (j : Int) k hk
        clear hG hlt
        go_wp2_with fail
        refine (l6_owner _ _ P _ (HAw.out.stay BW.out)).mono ?_
        rintro e wr ⟨rfl, rfl⟩
        generalize ownerFrom 0 P.own (j : Int) = ow at *
        have HOW : Hid (decide (ow < 0) = decide (ow = -1)) := by show _ = _; congr 1; apply propext; omega
        have FYH : Hid (ow = -1 → laneHas P.lanes (j : Int) = false → freeUp P (j + 1) = freeUp P j ++ [(j : Int)]) := FY
        have FN1H : Hid (¬ ow = -1 → freeUp P (j + 1) = freeUp P j) := FN1
        have FN2H : Hid (laneHas P.lanes (j : Int) = true → freeUp P (j + 1) = freeUp P j) := FN2
        have LTH : Hid (∀ k, k < P.lanes.length → laneHas (P.lanes.take (k + 1)) (j : Int) = (laneHas (P.lanes.take k) (j : Int) || decide ((P.lanes.getD k lz).pg = (j : Int)))) := LT
        have HL0 : Hid (laneHas (P.lanes.take 0) (j : Int) = false) := by show _ = _; simp [laneHas]
        clear OR FY FN1 FN2 LT
        obtain ⟨bo, hbo⟩ : ∃ b, decide (ow < 0) = b := ⟨_, rfl⟩
        have HBO : Hid (decide (ow < 0) = bo) := hbo
        go_wp2_with fail
        clear hbo
        go_loop [6, 7] (fun f c => ∃ k : Nat, k ≤ n1 ∧ c = .int .i64 k ∧ f = .bool (bo && !laneHas (P.lanes.take k) (j : Int))) (fun _ c => n1 - (intOf c).toNat)
        case atStart => exact ⟨0, Nat.zero_le _, rfl, by rw [HL0.out]; simp⟩
        case round =>
          obtain ⟨k, hk, rfl, rfl⟩ := hrel
          by_cases hkl : k < n1
          · obtain ⟨x, rfl, k0, k1, k2, k3, k4⟩ := (HPw.out.lanes.stay BW.out).at k hkl
            have hK : (k : Int) < (n1 : Int) := by omega
            have HK : Hid (k < n1) := hkl
            have ST : Hid (_ = _) := LTH.out k (by have := HL1.out; omega)
            obtain ⟨L, hL⟩ : ∃ L, P.lanes.getD k lz = L := ⟨_, rfl⟩
            rw [hL] at k0 k1 k2 k3 k4 ST
            clear hL hkl
            by_cases hf : (bo && !laneHas (P.lanes.take k) (j : Int)) = true
            · by_cases hp : L.pg = (j : Int)
              · have S2 : Hid ((bo && !laneHas (P.lanes.take (k + 1)) (j : Int)) = false) := by show _ = _; rw [ST.out, decide_eq_true hp]; simp
                rw [hf]
                clear hf ST
                go_wp2_with fail
                go_round
                case rel => exact ⟨k + 1, by have := HK.out; omega, by go_num, by rw [S2.out]⟩
                case measure => have := HK.out; simp [intOf]; omega
              · have S2 : Hid ((bo && !laneHas (P.lanes.take (k + 1)) (j : Int)) = true) := by show _ = _; rw [ST.out, decide_eq_false hp, Bool.or_false]; exact hf
                rw [hf]
                clear hf ST
                go_wp2_with fail
                go_round
                case rel => exact ⟨k + 1, by have := HK.out; omega, by go_num, by rw [S2.out]; first | rfl | (congr 1; simpa using hp)⟩
                case measure => have := HK.out; simp [intOf]; omega
            · rw [Bool.not_eq_true] at hf
              have S2 : Hid ((bo && !laneHas (P.lanes.take (k + 1)) (j : Int)) = false) := by
                show _ = _
                rw [ST.out, Bool.not_or, ← Bool.and_assoc, hf, Bool.false_and]
              rw [hf]
              clear hf ST
              go_wp2_with fail
              go_round
              case rel => exact ⟨k + 1, by have := HK.out; omega, by go_num, by rw [S2.out]⟩
              case measure => have := HK.out; simp [intOf]; omega
          · have hK : ¬ (k : Int) < (n1 : Int) := by omega
            have HK : Hid (k = n1) := by show _ = _; omega
            have ET : Hid (P.lanes.take k = P.lanes) := by show _ = _; rw [List.take_of_length_le (by have := HL1.out; have := HK.out; omega)]
            rw [ET.out]
            clear hkl
            by_cases hf : (bo && !laneHas P.lanes (j : Int)) = true
            · have S2 : Hid (freeUp P (j + 1) = freeUp P j ++ [(j : Int)]) := by
                show _ = _
                rw [Bool.and_eq_true, Bool.not_eq_true'] at hf
                refine FYH.out ?_ hf.2
                have := HOW.out
                rw [HBO.out, hf.1] at this
                exact of_decide_eq_true this.symm
              rw [hf]
              clear hf
              go_wp2_with (at_builtin; refine wp_appn _ rfl _ _ rfl (w1.heap.size + 1) (.slice ya un yc) _ rfl (GR.out.keep (al (Below.refl _ _) _)).prs wr.heap.size 1 1 [(j : Int)] rfl rfl (one_at (cell_new rfl)) (by have := HLN.out; simp; omega) (by simp; omega) ?_; intro v' w' hN' hG'; obtain ⟨va, vc, hv', _, _, _⟩ := hN'.shape; generalize hvn : List.length _ = vn at hv'; clear hvn; subst hv'; have GG := (GR.out.keep (al (Below.refl _ _) _)).grown hN' hG' (Nat.le_refl _); have GF : Hid (GrewJ w1 w1.heap.size _ (freeUp P j ++ [(j : Int)]) _) := GG.1; have o1 := GG.2.1; have g1 := GG.2.2; clear GG hN' hG')
              go_roundw
              case rel => exact ⟨j + 1, _, by have := HL.out; omega, by go_num, by rw [S2.out]; exact GF.out⟩
              case measure => have := HL.out; simp [intOf]; omega
            · rw [Bool.not_eq_true] at hf
              have S2 : Hid (freeUp P (j + 1) = freeUp P j) := by
                show _ = _
                cases hb : laneHas P.lanes (j : Int) with
                | true => exact FN2H.out hb
                | false =>
                  rw [hb, Bool.not_false, Bool.and_true] at hf
                  refine FN1H.out ?_
                  have := HOW.out
                  rw [HBO.out, hf] at this
                  exact of_decide_eq_false this.symm
              rw [hf]
              clear hf
              go_wp2_with fail
              go_roundw
              case rel => exact ⟨j + 1, _, by have := HL.out; omega, by go_num, by rw [S2.out]; exact GR.out⟩
              case measure => have := HL.out; simp [intOf]; omega
      · have hI : ¬ (j : Int) < 24 := by omega
        obtain rfl : j = 24 := by omega
        obtain ⟨r0, r1, f0, f1, lt⟩ := R1.out.keep hG.below
        have o0 := hG.o0
        have o1 := hG.o1
        have LT : Hid (s + 1 < w1.heap.size) := R1.out.2.2.2.2
        have ls : s + 1 < wr.heap.size := lt
        clear hG hlt q1
        go_wp2_with fail
        refine bodyPost_ret (v := .agg #[.int .i64 0, .slice ya un yc]) (by simp [results, Tryd.results18, go_sem, r0, r1]) rfl ⟨.slice ya un yc, by rw [AZ.out], ?_, ((on B1.out BW.out).setCell (by have := HSs.out; show w.heap.size ≤ s + 1; omega) _).setCell (by have := HSs.out; show w.heap.size ≤ s + 1; omega) _⟩
        have ne : (Value.slice ya un yc).ownBlock ≠ some (s + 1) := fun e => by have := (GR.out.prs.lt _ e).1; have := LT.out; omega
        rw [ZV.out]
        exact ((GR.out.prs.put ⟨s + 1, 0, none⟩ (.int .i64 0) ne).put ⟨s + 1, 1, none⟩ (.slice ya un yc) ne).mono (by have := B1.out.size; omega)
  · have ZV : Hid (freeZ P = []) := by show _ = _; rw [freeZ, if_neg hz]
    obtain ⟨r0, r1, f0, f1, lt⟩ := R.out.keep b1
    have B1 : Hid (Below w.heap.size w w1) := on B0.out b1
    generalize hv : pfV P = v at *
    have HV : Hid (freeC P = v) := hv
    clear b1
    go_wp2_with fail
    exact bodyPost_ret (v := .agg #[.int .i64 v, .slice none 0 0]) (by simp [results, Tryd.results18, go_sem, r0, r1]) rfl ⟨.slice none 0 0, by rw [HV.out], by rw [ZV.out]; exact Nums.nil _ _, (B1.out.setCell (by have := HSs.out; show w.heap.size ≤ s + 1; omega) _).setCell (by have := HSs.out; show w.heap.size ≤ s + 1; omega) _⟩
end Go.Proofs.YtmboobbfoffafaaDoor
