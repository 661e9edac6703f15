/- Texts of this seat, joined. -/
import Derived.Deep.RegionWith
import Derived.Test.YtdhdfopkcpkbeaaGreatDoorQ16
import Derived.Test.YtdhdfopkcpkbeaaGreatDoorQ17
namespace Go.Proofs.YtdhdfopkcpkbeaaGreatDoor
open Go.RowKit
set_option linter.unusedVariables false

theorem mem_take_step (zs : List (Int × Int)) (b : Int × Int) (j k : Nat) (hk : k < j) (hj : j ≤ zs.length) : (b ∈ (zs.take j).drop k) ↔ (zs.getD k (0, 0) = b ∨ b ∈ (zs.take j).drop (k + 1)) := by
  rw [drop_cons_getD (zs.take j) (0, 0) k (by simp; omega), List.mem_cons]
  have e : (zs.take j).getD k (0, 0) = zs.getD k (0, 0) := by simp [List.getD, hk]
  rw [e]
  constructor
  · rintro (h | h)
    · exact .inl h.symm
    · exact .inr h
  · rintro (h | h)
    · exact .inl h.symm
    · exact .inr h

set_option maxRecDepth 20000 in
set_option maxHeartbeats 4000000 in
theorem l6_rest (q : Nat) (P : Plc) (w : World) (h : PolAt w q P) :
    Calls Tryz.prog 53 #[.pointer (some ⟨q, 0, none⟩)] w fun e w' => e = .returned (.int .i64 (restV P)) ∧ Below w.heap.size w w' := by
  have HP : Hid (PolAt w q P) := h
  obtain ⟨a0, n0, c0, a1, n1, c1, a2, n2, c2, a3, n3, c3, h0, h1, h2, h3, h4⟩ := h
  have HL2 : Hid (n2 = P.bells.length) := h4.bells.len
  have HL3 : Hid (n3 = P.plan.length) := h4.plan.len
  have HBe : Hid (IsPairs w a2 n2 c2 P.bells) := h4.bells
  have HPl : Hid (IsPairs w a3 n3 c3 P.plan) := h4.plan
  have hmax2 : (n2 : Int) ≤ 9223372036854775807 := by have := h4.bells.cap; unfold maxLen at this; omega
  have hmax3 : (n3 : Int) ≤ 9223372036854775807 := by have := h4.plan.cap; unfold maxLen at this; omega
  have H2 : Hid (w.cell? ⟨q, 2, none⟩ = some (.slice a2 n2 c2)) := h2
  have H3 : Hid (w.cell? ⟨q, 3, none⟩ = some (.slice a3 n3 c3)) := h3
  clear h0 h1 h2 h3 h4
  go_enter Tryz.func53, Tryz.ntmps53
  go_wp2_with fail
  go_loopw [3] (fun c wr => ∃ j : Nat, j ≤ n2 ∧ c = .int .i64 j ∧ Below w.heap.size w wr ∧ Hid (bellsV P.own.length [] P.bells = bellsV P.own.length (P.bells.take j) (P.bells.drop j))) (fun c _ => n2 - (intOf c).toNat)
  case atStart => exact ⟨0, Nat.zero_le _, rfl, Below.refl _ _, by show _ = _; simp⟩
  case round =>
    obtain ⟨j, hj, rfl, hB, hI⟩ := hrel
    have HB : Hid (Below _ w wr) := hB
    have h2 := cell_keep hB H2.out
    clear hB
    by_cases hlt : j < n2
    · obtain ⟨x, rfl, k0, k1⟩ := (HBe.out.stay HB.out).at j hlt
      have hJ : (j : Int) < (n2 : Int) := by omega
      have HLT : Hid (j < n2) := hlt
      have ST : Hid (_ = _) := bells_step P.own.length P.bells j (by have := HL2.out; omega)
      obtain ⟨⟨f, t⟩, hL⟩ : ∃ L, P.bells.getD j (0, 0) = L := ⟨_, rfl⟩
      rw [hL] at k0 k1 ST
      simp only at k0 k1
      clear hL hlt
      have HPn : Hid (PolAt (wr.alloc (.cells #[.int .i64 f, .int .i64 t] 85)) q P) := (HP.out.stay HB.out).stay (al (Below.refl _ _) _)
      have HBn : Hid (Below w.heap.size w (wr.alloc (.cells #[.int .i64 f, .int .i64 t] 85))) := al HB.out _
      by_cases he : endsV P.own.length f t ≠ 0
      · have HE : Hid (bellV P.own.length (P.bells.take j) (f, t) = endsV P.own.length f t) := by show _ = _; rw [bellV, if_neg he]
        have HE2 : Hid (¬ endsV P.own.length f t = 0) := he
        have RV : Hid (restV P = endsV P.own.length f t) := by
          show _ = _
          rw [restV, hI.out, ST.out, HE.out, if_neg HE2.out, orV, if_neg HE2.out]
        generalize hv : endsV P.own.length f t = v at *
        go_wp2_with (go_at_call 80; refine (l6_ends _ _ _ P _ HPn.out).mono ?_; rintro e wx ⟨rfl, rfl⟩; rw [hv])
        go_ret
        rw [RV.out]
        exact ⟨rfl, HBn.out⟩
      have he0 : endsV P.own.length f t = 0 := Decidable.not_not.1 he
      have V0 : Hid (bellV P.own.length (P.bells.take j) (f, t) = if (f, t) ∈ P.bells.take j then 6 else 0) := by show _ = _; rw [bellV, if_pos he0]
      clear he
      have q0 : (wr.alloc (.cells #[.int .i64 f, .int .i64 t] 85)).cell? ⟨wr.heap.size, 0, none⟩ = some (.int .i64 f) := cell_new rfl
      have q1 : (wr.alloc (.cells #[.int .i64 f, .int .i64 t] 85)).cell? ⟨wr.heap.size, 1, none⟩ = some (.int .i64 t) := cell_new rfl
      have Q : Hid (_ ∧ _) := ⟨q0, q1⟩
      clear q0 q1
      go_wp2_with (go_at_call 80; refine (l6_ends _ _ _ P _ HPn.out).mono ?_; rintro e wx ⟨rfl, rfl⟩; rw [he0])
      generalize wr.alloc (.cells #[.int .i64 f, .int .i64 t] 85) = W1 at *
      clear k0 k1 h2 he0
      generalize wr.heap.size = B at *
      clear HB
      go_loopw [6] (fun c wq => ∃ k : Nat, k ≤ j ∧ c = .int .i64 k ∧ Below W1.heap.size W1 wq ∧ Hid (((f, t) ∈ P.bells.take j) ↔ ((f, t) ∈ (P.bells.take j).drop k))) (fun c _ => j - (intOf c).toNat)
      case atStart => exact ⟨0, Nat.zero_le _, rfl, Below.refl _ _, by show _ ↔ _; simp⟩
      case round =>
        obtain ⟨k, hk, rfl, hB, hK⟩ := hrel
        have HBq : Hid (Below _ W1 wr) := hB
        have HBw : Hid (Below _ w wr) := on HBn.out hB
        obtain ⟨q0, q1⟩ := Q.out
        have q0 := cell_keep hB q0
        have q1 := cell_keep hB q1
        have h2 := cell_keep HBw.out H2.out
        have bB : B < wr.heap.size := block_of_cell q0
        clear hB
        by_cases hkj : k < j
        · have hK1 : (k : Int) < (j : Int) := by omega
          obtain ⟨x, hx, k0, k1⟩ := (HBe.out.stay HBw.out).at k (by have := HLT.out; omega)
          cases hx
          have hkn : (k : Int) < (n2 : Int) := by have := HLT.out; omega
          have HKJ : Hid (k < j) := hkj
          have SA : Hid (_ ↔ _) := mem_take_step P.bells (f, t) j k hkj (by have := HLT.out; have := HL2.out; omega)
          obtain ⟨⟨o1, o2⟩, hO⟩ : ∃ O, P.bells.getD k (0, 0) = O := ⟨_, rfl⟩
          rw [hO] at k0 k1 SA
          simp only at k0 k1
          clear hO hkj
          by_cases hq : o1 = f ∧ o2 = t
          · obtain ⟨rfl, rfl⟩ := hq
            have RV : Hid (restV P = 6) := by
              show _ = _
              rw [restV, hI.out, ST.out, V0.out, if_pos (hK.out.2 (SA.out.2 (.inl rfl)))]
              rfl
            go_wp2_with fail
            go_quiet (fail)
            go_wp2_with fail
            go_ret
            rw [RV.out]
            exact ⟨rfl, dr HBw.out _⟩
          · have HQ : Hid (¬ (o1 = f ∧ o2 = t)) := hq
            by_cases h1 : o1 = f
            · have h2 : ¬ o2 = t := fun h2 => hq ⟨h1, h2⟩
              clear hq
              go_wp2_with fail
              go_quiet (fail)
              go_wp2_with fail
              go_roundw
              case rel => exact ⟨k + 1, by have := HKJ.out; omega, by go_num, dr HBq.out _, by show _ ↔ _; rw [hK.out, SA.out]; constructor; exact fun h => h.elim (fun e => absurd ⟨congrArg Prod.fst e, congrArg Prod.snd e⟩ HQ.out) id; exact .inr⟩
              case measure => have := HKJ.out; simp [intOf]; omega
            · clear hq
              go_wp2_with fail
              go_quiet (fail)
              go_wp2_with fail
              go_roundw
              case rel => exact ⟨k + 1, by have := HKJ.out; omega, by go_num, dr HBq.out _, by show _ ↔ _; rw [hK.out, SA.out]; constructor; exact fun h => h.elim (fun e => absurd ⟨congrArg Prod.fst e, congrArg Prod.snd e⟩ HQ.out) id; exact .inr⟩
              case measure => have := HKJ.out; simp [intOf]; omega
        · have hK1 : ¬ (k : Int) < (j : Int) := by omega
          have HKJ : Hid (k = j) := by show _ = _; omega
          clear hkj
          have V4 : Hid (bellV P.own.length (P.bells.take j) (f, t) = 0) := by
            show _ = _
            rw [V0.out, if_neg]
            rw [hK.out, List.drop_of_length_le (by have := HKJ.out; simp; omega)]
            simp
          go_wp2_with fail
          go_roundw
          case rel => exact ⟨j + 1, by have := HLT.out; omega, by go_num, HBw.out, by show _ = _; rw [hI.out, ST.out, V4.out]; simp⟩
          case measure => have := HLT.out; simp [intOf]; omega
    · have hJ : ¬ (j : Int) < (n2 : Int) := by omega
      have HJ : Hid (j = n2) := by show _ = _; omega
      have RV : Hid (restV P = g6V P) := by
        show _ = _
        rw [restV, hI.out, List.drop_of_length_le (by have := HL2.out; have := HJ.out; omega)]
        rfl
      have h3 := cell_keep HB.out H3.out
      clear hlt
      by_cases hn : n3 < 1
      · have hb : (n3 : Int) < 1 := by omega
        have RV2 : Hid (restV P = 2) := by show _ = _; rw [RV.out, g6V, if_pos (.inl (by have := HL3.out; omega))]
        clear hn
        go_wp2_with fail
        go_ret
        rw [RV2.out]
        exact ⟨rfl, HB.out⟩
      by_cases hm : 8 < n3
      · have hb : ¬ (n3 : Int) < 1 := by omega
        have hb2 : (8 : Int) < n3 := by omega
        have RV2 : Hid (restV P = 2) := by show _ = _; rw [RV.out, g6V, if_pos (.inr (by have := HL3.out; omega))]
        clear hn hm
        go_wp2_with fail
        go_ret
        rw [RV2.out]
        exact ⟨rfl, HB.out⟩
      have RV2 : Hid (restV P = slotsV P.own.length P.plan) := by show _ = _; rw [RV.out, g6V, if_neg (by have := HL3.out; omega)]
      have hb : ¬ (n3 : Int) < 1 := by omega
      have hb2 : ¬ (8 : Int) < n3 := by omega
      have HPw : Hid (PolAt wr q P) := HP.out.stay HB.out
      have HPlw : Hid (IsPairs wr a3 n3 c3 P.plan) := HPl.out.stay HB.out
      clear hn hm
      go_wp2_with fail
      go_loop [7] (fun c => ∃ i : Nat, i ≤ n3 ∧ c = .int .i64 i ∧ Hid (slotsV P.own.length P.plan = slotsV P.own.length (P.plan.drop i))) (fun c => n3 - (intOf c).toNat)
      case atStart => exact ⟨0, Nat.zero_le _, rfl, by show _ = _; simp⟩
      case round =>
        obtain ⟨i, hi, rfl, hS⟩ := hrel
        by_cases hlt : i < n3
        · obtain ⟨x, rfl, k0, k1⟩ := HPlw.out.at i hlt
          have hJ : (i : Int) < (n3 : Int) := by omega
          have HLT : Hid (i < n3) := hlt
          have SS : Hid (_ = _) := slots_step P.own.length P.plan i (by have := HL3.out; omega)
          obtain ⟨⟨g, s⟩, hL⟩ : ∃ L, P.plan.getD i (0, 0) = L := ⟨_, rfl⟩
          rw [hL] at k0 k1 SS
          simp only at k0 k1
          clear hL hlt
          by_cases hg : isG P.own.length g = false
          · have RV3 : Hid (restV P = 4) := by
              show _ = _
              have e : slotV P.own.length (g, s) = 4 := by rw [slotV, if_pos hg]
              rw [RV2.out, hS.out, SS.out, e, if_neg (by decide)]
            go_wp2_with (go_at_call 83; refine (l6_guest _ _ P _ HPw.out).mono ?_; rintro e wx ⟨rfl, rfl⟩; rw [hg])
            go_ret
            rw [RV3.out]
            exact ⟨rfl, HB.out⟩
          rw [Bool.not_eq_false] at hg
          by_cases hs : stOk s = false
          · have RV3 : Hid (restV P = 3) := by
              show _ = _
              have e : slotV P.own.length (g, s) = 3 := by rw [slotV, if_neg (by rw [hg]; simp), if_pos hs]
              rw [RV2.out, hS.out, SS.out, e, if_neg (by decide)]
            go_wp2_with (first
              | (go_at_call 83; refine (l6_guest _ _ P _ HPw.out).mono ?_; rintro e wx ⟨rfl, rfl⟩; rw [hg])
              | (go_at_call 78; refine (l1_st _ _).mono ?_; rintro e wx ⟨rfl, rfl⟩; rw [hs]))
            go_ret
            rw [RV3.out]
            exact ⟨rfl, HB.out⟩
          rw [Bool.not_eq_false] at hs
          have V5 : Hid (slotV P.own.length (g, s) = 0) := by show _ = _; rw [slotV, if_neg (by rw [hg]; simp), if_neg (by rw [hs]; simp)]
          go_wp2_with (first
            | (go_at_call 83; refine (l6_guest _ _ P _ HPw.out).mono ?_; rintro e wx ⟨rfl, rfl⟩; rw [hg])
            | (go_at_call 78; refine (l1_st _ _).mono ?_; rintro e wx ⟨rfl, rfl⟩; rw [hs]))
          go_round
          case rel => exact ⟨i + 1, by have := HLT.out; omega, by go_num, by show _ = _; rw [hS.out, SS.out, V5.out]; simp⟩
          case measure => have := HLT.out; simp [intOf]; omega
        · have hJ : ¬ (i : Int) < (n3 : Int) := by omega
          have HJ : Hid (i = n3) := by show _ = _; omega
          clear hlt
          go_wp2_with fail
          go_ret
          rw [RV2.out, hS.out, List.drop_of_length_le (by have := HL3.out; have := HJ.out; omega)]
          exact ⟨rfl, HB.out⟩

theorem l6_fault (q : Nat) (P : Plc) (w : World) (h : PolAt w q P) :
    Calls Tryz.prog 27 #[.pointer (some ⟨q, 0, none⟩)] w fun e w' => e = .returned (.int .i64 (pfV P)) ∧ Below w.heap.size w w' := by
  have HP : Hid (PolAt w q P) := h
  clear h
  by_cases h1 : ownsV P = 0
  · by_cases h2 : linksV P = 0
    · have E : Hid (pfV P = restV P) := by show _ = _; rw [pfV, orV, if_pos h1, orV, if_pos h2]
      go_enter Tryz.func27, Tryz.ntmps27
      go_wp2_with (go_at_call 51; refine (l6_owns _ P _ HP.out).mono ?_; rintro e w1 ⟨rfl, b1⟩; rw [h1])
      go_wp2_with (go_at_call 52; refine (l6_lanes _ P _ (HP.out.stay b1)).mono ?_; rintro e w2 ⟨rfl, b2⟩; rw [h2])
      have B2 := on b1 b2
      go_wp2_with (go_at_call 53; refine (l6_rest _ P _ (HP.out.stay B2)).mono ?_; rintro e w3 ⟨rfl, b3⟩)
      go_ret
      rw [E.out]
      exact ⟨rfl, on B2 b3⟩
    · have E : Hid (pfV P = linksV P) := by show _ = _; rw [pfV, orV, if_pos h1, orV, if_neg h2]
      have H2 : Hid (¬ linksV P = 0) := h2
      go_enter Tryz.func27, Tryz.ntmps27
      go_wp2_with (go_at_call 51; refine (l6_owns _ P _ HP.out).mono ?_; rintro e w1 ⟨rfl, b1⟩; rw [h1])
      go_wp2_with (go_at_call 52; refine (l6_lanes _ P _ (HP.out.stay b1)).mono ?_; rintro e w2 ⟨rfl, b2⟩)
      go_ret
      rw [E.out]
      exact ⟨rfl, on b1 b2⟩
  · have E : Hid (pfV P = ownsV P) := by show _ = _; rw [pfV, orV, if_neg h1]
    go_enter Tryz.func27, Tryz.ntmps27
    go_wp2_with (go_at_call 51; refine (l6_owns _ P _ HP.out).mono ?_; rintro e w1 ⟨rfl, b1⟩)
    go_ret
    rw [E.out]
    exact ⟨rfl, b1⟩

end Go.Proofs.YtdhdfopkcpkbeaaGreatDoor
