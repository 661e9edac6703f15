/- Who reaches a guest, by the model. -/
import Derived.Test.YtnhebeehpkecfaaGreatDoorRcv
import Derived.Test.YtnhebeehpkecfaaGreatDoorLnl
namespace Go.Proofs.YtnhebeehpkecfaaGreatDoor
open Go.RowKit
set_option linter.unusedVariables false

def iterN (P : Plc) : Nat → List Int → List Int
  | 0, z => z
  | k + 1, z => iterN P k (nextV P z)
theorem rise_ok (z : List Int) (x : Int) (h : Up z ∧ In3 z) (hx : 0 ≤ x ∧ x < 3) : Up (riseV z x) ∧ In3 (riseV z x) :=
  ⟨riseV_up _ _ h.1, fun y hy => by
    rcases (riseV_mem z x y).1 hy with e | hy
    · rw [e]; exact hx
    · exact h.2 y hy⟩

set_option maxRecDepth 20000 in
set_option maxHeartbeats 8000000 in
theorem l6_reach (q : Nat) (g : Int) (P : Plc) (w : World) (h : PolAt w q P) (hp : pfV P = 0) :
    Calls Tryz.prog 41 #[.pointer (some ⟨q, 0, none⟩), .int .i64 g] w fun e w' => ∃ v, e = .returned v ∧ Nums w' w.heap.size v (rch P g) ∧ Below w.heap.size w w' := by
  have HA : Hid (PolAt w q P) := h
  have LN : Hid (P.lanes.length ≤ 100 ∧ P.bells.length ≤ 100) := ⟨by have := (pf_parts P hp).2.2.2.2.1; omega, by have := (pf_parts P hp).2.2.2.2.2.1; omega⟩
  have LK : Hid (∀ x, Up (lkV P x) ∧ In3 (lkV P x)) := fun x => ⟨lk_up P x, lk_in3 P hp x⟩
  have RI : Hid (rch P g = iterN P 3 (lkV P g)) := rfl
  clear h hp
  go_enter Tryz.func41, Tryz.ntmps41
  go_wp2_with fail
  refine (l6_links _ _ P _ HA.out LN.out.1 LN.out.2).mono ?_
  rintro e w1 ⟨v1, rfl, n1, b1⟩
  have N1 : Hid (Nums w1 w.heap.size v1 (lkV P g)) := n1
  have B1 : Hid (Below w.heap.size w w1) := b1
  clear n1 b1
  go_wp2_with fail
  go_loopw [5, 6, 7, 8, 9, 10] (fun v c _ _ _ _ wr => ∃ (j : Nat) (z : List Int), j ≤ 3 ∧ c = .int .i64 j ∧ Nums wr w.heap.size v z ∧ Below w.heap.size w wr ∧ Hid (rch P g = iterN P (3 - j) z) ∧ Hid (Up z ∧ In3 z)) (fun _ c _ _ _ _ _ => 3 - (intOf c).toNat)
  case atStart => exact ⟨0, _, Nat.zero_le _, rfl, N1.out, B1.out, RI, LK.out g⟩
  case round =>
    clear N1 B1
    obtain ⟨wo, rfl⟩ : ∃ wo, wo = wr := ⟨_, rfl⟩
    obtain ⟨j, z, hj, rfl, hN, hB, hR, hU⟩ := hrel
    have HN : Hid (Nums wo _ _ z) := hN
    have HB : Hid (Below _ w wo) := hB
    obtain ⟨ya, yc, hv, _, _, hsome⟩ := hN.shape
    have HZ3 : Hid (z.length ≤ 3) := up3 z hU.out.1 hU.out.2
    obtain ⟨zl, hzl⟩ : ∃ zl, z.length = zl := ⟨_, rfl⟩
    rw [hzl] at hv hsome
    have HZL : Hid (z.length = zl) := hzl
    have hzI : (zl : Int) ≤ 3 := by have := HZ3.out; omega
    subst hv
    clear hzl
    by_cases hlt : j < 3
    · have hJ : (j : Int) < 3 := by omega
      have HLT : Hid (j < 3) := hlt
      have R2 : Hid (rch P g = iterN P (3 - (j + 1)) (nextV P z)) := by show _ = _; rw [hR.out, show 3 - j = (3 - (j + 1)) + 1 by omega]; rfl
      clear hN hB hlt
      go_wp2_with fail
      go_loopw [7, 8, 9, 10] (fun v c _ _ wq => ∃ (i : Nat) (y : List Int), i ≤ zl ∧ c = .int .i64 i ∧ Nums wq w.heap.size v y ∧ Below wo.heap.size wo wq ∧ Hid (nextV P z = nextF P y (z.drop i)) ∧ Hid (Up y ∧ In3 y)) (fun _ c _ _ _ => zl - (intOf c).toNat)
      case atStart => exact ⟨0, z, Nat.zero_le _, rfl, HN.out, Below.refl _ _, rfl, hU⟩
      case round =>
        obtain ⟨wi, rfl⟩ : ∃ wi, wi = wr := ⟨_, rfl⟩
        obtain ⟨i, y, hi, rfl, hN2, hB2, hR2, hU2⟩ := hrel
        have HN2 : Hid (Nums _ _ _ y) := hN2
        have HB2 : Hid (Below _ _ _) := hB2
        obtain ⟨ya2, yc2, hv2, _, _, _⟩ := hN2.shape
        obtain ⟨yl, hyl⟩ : ∃ yl, y.length = yl := ⟨_, rfl⟩
        rw [hyl] at hv2
        subst hv2
        clear hyl
        by_cases hil : i < zl
        · obtain ⟨gz, rfl⟩ := hsome (by omega)
          have cz := cell_keep hB2 (HN.out.cell HZL.out.symm i hil)
          have hI : (i : Int) < (zl : Int) := by omega
          have HIL : Hid (i < zl) := hil
          have ST : Hid (_ = _) := nextF_step P y z i (by have := HZL.out; omega)
          obtain ⟨x, hx⟩ : ∃ x, z.getD i 0 = x := ⟨_, rfl⟩
          rw [hx] at cz ST
          have CL := l6_links q x P _ (HA.out.stay (on HB.out hB2)) LN.out.1 LN.out.2
          clear hx hN2 hB2 hil
          go_wp2_with fail
          refine CL.mono ?_
          rintro e w4 ⟨v4, rfl, n4, b4⟩
          obtain ⟨ma, mc, hv4, _, _, msome⟩ := n4.shape
          obtain ⟨ml, hml⟩ : ∃ ml, (lkV P x).length = ml := ⟨_, rfl⟩
          rw [hml] at hv4 msome
          have HML : Hid ((lkV P x).length = ml) := hml
          have hmI : (ml : Int) ≤ 3 := by have := up3 _ (LK.out x).1 (LK.out x).2; omega
          subst hv4
          have N4 : Hid (Nums w4 _ (.slice ma ml mc) (lkV P x)) := n4
          have NY : Hid (Nums w4 w.heap.size _ y) := HN2.out.keep b4
          have B4 : Hid (Below wo.heap.size wo w4) := on HB2.out b4
          clear n4 b4 CL hml cz
          go_wp2_with fail
          go_loopw [7, 10] (fun v c wp => ∃ (k : Nat) (u : List Int), k ≤ ml ∧ c = .int .i64 k ∧ Nums wp w.heap.size v u ∧ Below w4.heap.size w4 wp ∧ Hid (addAll y (lkV P x) = addAll u ((lkV P x).drop k)) ∧ Hid (Up u ∧ In3 u)) (fun _ c _ => ml - (intOf c).toNat)
          case atStart => exact ⟨0, y, Nat.zero_le _, rfl, NY.out, Below.refl _ _, rfl, hU2⟩
          case round =>
            obtain ⟨k, u, hk, rfl, hN3, hB3, hR3, hU3⟩ := hrel
            have HN3 : Hid (Nums _ _ _ u) := hN3
            have HB3 : Hid (Below _ _ _) := hB3
            obtain ⟨ya3, yc3, hv3, _, _, _⟩ := hN3.shape
            obtain ⟨ul, hul⟩ : ∃ ul, u.length = ul := ⟨_, rfl⟩
            rw [hul] at hv3
            subst hv3
            clear hul
            by_cases hkl : k < ml
            · obtain ⟨gm, rfl⟩ := msome (by omega)
              have cm := cell_keep hB3 (N4.out.cell HML.out.symm k hkl)
              have hK : (k : Int) < (ml : Int) := by omega
              have HKL : Hid (k < ml) := hkl
              have ST3 : Hid (_ = _) := addAll_step u (lkV P x) k (by have := HML.out; omega)
              have XR := (LK.out x).2 _ (getD_mem (lkV P x) 0 k (by have := HML.out; omega))
              obtain ⟨t, ht⟩ : ∃ t, (lkV P x).getD k 0 = t := ⟨_, rfl⟩
              rw [ht] at cm ST3 XR
              have HXR : Hid (0 ≤ t ∧ t < 3) := XR
              have RA := rise_any _ u t w.heap.size _ hN3 (by have := up3 u hU3.out.1 hU3.out.2; omega) (on HB.out (on B4.out hB3)).size
              clear ht hN3 hB3 hkl XR
              go_wp2_with fail
              refine RA.mono ?_
              rintro e w6 ⟨v6, rfl, n6, b6⟩
              have N6 : Hid (Nums w6 _ v6 (riseV u t)) := n6
              have B6 : Hid (Below w4.heap.size w4 w6) := on HB3.out b6
              clear n6 b6 RA cm
              go_wp2_with fail
              go_roundw
              case rel => exact ⟨k + 1, _, by have := HKL.out; omega, by go_num, N6.out, B6.out, by show _ = _; rw [hR3.out, ST3.out], rise_ok u t hU3.out HXR.out⟩
              case measure => have := HKL.out; simp [intOf]; omega
            · have hK : ¬ (k : Int) < (ml : Int) := by omega
              have EU : Hid (addAll y (lkV P x) = u) := by show _ = _; rw [hR3.out, List.drop_of_length_le (by have := HML.out; omega)]; rfl
              clear hN3 hB3 hkl
              go_wp2_with fail
              go_roundw
              case rel => exact ⟨i + 1, u, by have := HIL.out; omega, by go_num, HN3.out, on B4.out HB3.out, by show _ = _; rw [hR2.out, ST.out, EU.out], hU3⟩
              case measure => have := HIL.out; simp [intOf]; omega
        · have hI : ¬ (i : Int) < (zl : Int) := by omega
          have EY : Hid (nextV P z = y) := by show _ = _; rw [hR2.out, List.drop_of_length_le (by have := HZL.out; omega)]; rfl
          clear hN2 hB2 hil
          go_wp2_with fail
          go_roundw
          case rel => exact ⟨j + 1, y, by have := HLT.out; omega, by go_num, HN2.out, on HB.out HB2.out, by show _ = _; rw [R2.out, EY.out], hU2⟩
          case measure => have := HLT.out; simp [intOf]; omega
    · have hJ : ¬ (j : Int) < 3 := by omega
      have EZ : Hid (rch P g = z) := by show _ = _; rw [hR.out, show 3 - j = 0 by omega]; rfl
      clear hN hB hlt
      go_wp2_with fail
      go_ret
      rw [EZ.out]
      exact ⟨_, rfl, HN.out, HB.out⟩

end Go.Proofs.YtnhebeehpkecfaaGreatDoor
