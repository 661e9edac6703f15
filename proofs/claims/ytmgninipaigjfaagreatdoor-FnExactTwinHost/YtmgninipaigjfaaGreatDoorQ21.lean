/- Texts of this seat, joined. -/
import Derived.Deep.RegionWith
import Derived.Laws.ByValue
import Derived.Test.YtmgninipaigjfaaGreatDoorQ10
import Derived.Test.YtmgninipaigjfaaGreatDoorQ13
import Derived.Test.YtmgninipaigjfaaGreatDoorQ19
import Derived.Test.YtmgninipaigjfaaGreatDoorQ20
namespace Go.Proofs.YtmgninipaigjfaaGreatDoor
open Go.RowKit
set_option linter.unusedVariables false

theorem code_nil (w : World) : Calls Tryz.prog 71 #[.nilIface] w fun e w' => e = .returned (.int .i64 0) ∧ Below w.heap.size w w' := by
  go_enter Tryz.func71, Tryz.ntmps71
  go_wp2_with (go_at_call 90; refine (as_nil _ _).mono ?_; rintro e w' ⟨rfl, rfl⟩)
  go_ret
  exact ⟨rfl, al (Below.refl _ _) _⟩
set_option maxHeartbeats 1000000 in
theorem code_hit (c : Int) (w : World) (hg : w.cell? ⟨0, 0, none⟩ = some (.iface 165 (.agg #[.pointer (some ⟨1, 112, none⟩)]))) :
    Calls Tryz.prog 71 #[.iface 135 (.agg #[.int .i64 c])] w fun e w' => e = .returned (.int .i64 c) ∧ Below w.heap.size w w' := by
  have hgA : Hid (_ = _) := cell_push (.cells #[.int .i64 0] 135) hg
  have htA : Hid ((w.alloc (.cells #[.int .i64 0] 135)).cell? ⟨w.heap.size, 0, none⟩ = some (.int .i64 0)) := cell_new rfl
  have hfA : Hid ((w.alloc (.cells #[.int .i64 0] 135)).frozen? ⟨w.heap.size, 0, none⟩ = false) := by show _ = _; simp
  clear hg
  have AS : Calls Tryz.prog 90 #[.iface 135 (.agg #[.int .i64 c]), .iface 137 (.pointer (some ⟨w.heap.size, 0, none⟩))] (w.alloc (.cells #[.int .i64 0] 135)) fun e w' => e = .returned (.bool true) ∧ w'.cell? ⟨w.heap.size, 0, none⟩ = some (.int .i64 c) ∧ Below w.heap.size w w' := (as_hit c ⟨w.heap.size, 0, none⟩ (.int .i64 0) (w.alloc (.cells #[.int .i64 0] 135)) hgA.out htA.out hfA.out).mono (by
    rintro e w' ⟨h1, w1, b1, rfl⟩
    exact ⟨h1, World.cell?_setCell_same _ _ _ (cell_keep b1 htA.out), (on (al (Below.refl _ _) _) b1).setCell (by simp) _⟩)
  go_enter Tryz.func71, Tryz.ntmps71
  go_wp2_with (go_at_call 90; refine AS.mono ?_; rintro e w' ⟨rfl, k1, B1⟩)
  go_ret
  exact ⟨rfl, B1⟩
end Go.Proofs.YtmgninipaigjfaaGreatDoor
namespace Go.Proofs.YtmgninipaigjfaaGreatDoor
open Go.RowKit
set_option linter.unusedVariables false

theorem mem_take_step (zs : List (Int × Int)) (b : Int × Int) (j k : Nat) (hk : k < j) (hj : j ≤ zs.length) : (b ∈ (zs.take j).drop k) ↔ (zs.getD k (0, 0) = b ∨ b ∈ (zs.take j).drop (k + 1)) := by
  rw [drop_cons_getD (zs.take j) (0, 0) k (by simp; omega), List.mem_cons]
  have e : (zs.take j).getD k (0, 0) = zs.getD k (0, 0) := by simp [List.getD, hk]
  rw [e]
  constructor
  · rintro (h | h)
    · exact .inl h.symm
    · exact .inr h
  · rintro (h | h)
    · exact .inl h.symm
    · exact .inr h

set_option maxRecDepth 20000 in
set_option maxHeartbeats 4000000 in
theorem l6_rest (q : Nat) (P : Plc) (w : World) (h : PolAt w q P) :
    Calls Tryz.prog 66 #[.pointer (some ⟨q, 0, none⟩)] w fun e w' => e = .returned (.int .i64 (restV P)) ∧ Below w.heap.size w w' := by
  have HP : Hid (PolAt w q P) := h
  obtain ⟨a0, n0, c0, a1, n1, c1, a2, n2, c2, a3, n3, c3, h0, h1, h2, h3, h4⟩ := h
  have HL2 : Hid (n2 = P.bells.length) := h4.bells.len
  have HL3 : Hid (n3 = P.plan.length) := h4.plan.len
  have HBe : Hid (IsPairs w a2 n2 c2 P.bells) := h4.bells
  have HPl : Hid (IsPairs w a3 n3 c3 P.plan) := h4.plan
  have hmax2 : (n2 : Int) ≤ 9223372036854775807 := by have := h4.bells.cap; unfold maxLen at this; omega
  have hmax3 : (n3 : Int) ≤ 9223372036854775807 := by have := h4.plan.cap; unfold maxLen at this; omega
  have H2 : Hid (w.cell? ⟨q, 2, none⟩ = some (.slice a2 n2 c2)) := h2
  have H3 : Hid (w.cell? ⟨q, 3, none⟩ = some (.slice a3 n3 c3)) := h3
  clear h0 h1 h2 h3 h4
  go_enter Tryz.func66, Tryz.ntmps66
  go_wp2_with fail
  go_loopw [3] (fun c wr => ∃ j : Nat, j ≤ n2 ∧ c = .int .i64 j ∧ Below w.heap.size w wr ∧ Hid (bellsV P.own.length [] P.bells = bellsV P.own.length (P.bells.take j) (P.bells.drop j))) (fun c _ => n2 - (intOf c).toNat)
  case atStart => exact ⟨0, Nat.zero_le _, rfl, Below.refl _ _, by show _ = _; simp⟩
  case round =>
    obtain ⟨j, hj, rfl, hB, hI⟩ := hrel
    have HB : Hid (Below _ w wr) := hB
    have h2 := cell_keep hB H2.out
    clear hB
    by_cases hlt : j < n2
    · obtain ⟨x, rfl, k0, k1⟩ := (HBe.out.stay HB.out).at j hlt
      have hJ : (j : Int) < (n2 : Int) := by omega
      have HLT : Hid (j < n2) := hlt
      have ST : Hid (_ = _) := bells_step P.own.length P.bells j (by have := HL2.out; omega)
      obtain ⟨⟨f, t⟩, hL⟩ : ∃ L, P.bells.getD j (0, 0) = L := ⟨_, rfl⟩
      rw [hL] at k0 k1 ST
      simp only at k0 k1
      clear hL hlt
      have HPn : Hid (PolAt (wr.alloc (.cells #[.int .i64 f, .int .i64 t] 90)) q P) := (HP.out.stay HB.out).stay (al (Below.refl _ _) _)
      have HBn : Hid (Below w.heap.size w (wr.alloc (.cells #[.int .i64 f, .int .i64 t] 90))) := al HB.out _
      by_cases he : endsV P.own.length f t ≠ 0
      · have HE : Hid (bellV P.own.length (P.bells.take j) (f, t) = endsV P.own.length f t) := by show _ = _; rw [bellV, if_neg he]
        have HE2 : Hid (¬ endsV P.own.length f t = 0) := he
        have RV : Hid (restV P = endsV P.own.length f t) := by
          show _ = _
          rw [restV, hI.out, ST.out, HE.out, if_neg HE2.out, orV, if_neg HE2.out]
        generalize hv : endsV P.own.length f t = v at *
        go_wp2_with (go_at_call 85; refine (l6_ends _ _ _ P _ HPn.out).mono ?_; rintro e wx ⟨rfl, rfl⟩; rw [hv])
        go_ret
        rw [RV.out]
        exact ⟨rfl, HBn.out⟩
      have he0 : endsV P.own.length f t = 0 := Decidable.not_not.1 he
      have V0 : Hid (bellV P.own.length (P.bells.take j) (f, t) = if (f, t) ∈ P.bells.take j then 6 else 0) := by show _ = _; rw [bellV, if_pos he0]
      clear he
      have q0 : (wr.alloc (.cells #[.int .i64 f, .int .i64 t] 90)).cell? ⟨wr.heap.size, 0, none⟩ = some (.int .i64 f) := cell_new rfl
      have q1 : (wr.alloc (.cells #[.int .i64 f, .int .i64 t] 90)).cell? ⟨wr.heap.size, 1, none⟩ = some (.int .i64 t) := cell_new rfl
      have Q : Hid (_ ∧ _) := ⟨q0, q1⟩
      clear q0 q1
      go_wp2_with (go_at_call 85; refine (l6_ends _ _ _ P _ HPn.out).mono ?_; rintro e wx ⟨rfl, rfl⟩; rw [he0])
      generalize wr.alloc (.cells #[.int .i64 f, .int .i64 t] 90) = W1 at *
      clear k0 k1 h2 he0
      generalize wr.heap.size = B at *
      clear HB
      go_loopw [6] (fun c wq => ∃ k : Nat, k ≤ j ∧ c = .int .i64 k ∧ Below W1.heap.size W1 wq ∧ Hid (((f, t) ∈ P.bells.take j) ↔ ((f, t) ∈ (P.bells.take j).drop k))) (fun c _ => j - (intOf c).toNat)
      case atStart => exact ⟨0, Nat.zero_le _, rfl, Below.refl _ _, by show _ ↔ _; simp⟩
      case round =>
        obtain ⟨k, hk, rfl, hB, hK⟩ := hrel
        have HBq : Hid (Below _ W1 wr) := hB
        have HBw : Hid (Below _ w wr) := on HBn.out hB
        obtain ⟨q0, q1⟩ := Q.out
        have q0 := cell_keep hB q0
        have q1 := cell_keep hB q1
        have h2 := cell_keep HBw.out H2.out
        have bB : B < wr.heap.size := block_of_cell q0
        clear hB
        by_cases hkj : k < j
        · have hK1 : (k : Int) < (j : Int) := by omega
          obtain ⟨x, hx, k0, k1⟩ := (HBe.out.stay HBw.out).at k (by have := HLT.out; omega)
          cases hx
          have hkn : (k : Int) < (n2 : Int) := by have := HLT.out; omega
          have HKJ : Hid (k < j) := hkj
          have SA : Hid (_ ↔ _) := mem_take_step P.bells (f, t) j k hkj (by have := HLT.out; have := HL2.out; omega)
          obtain ⟨⟨o1, o2⟩, hO⟩ : ∃ O, P.bells.getD k (0, 0) = O := ⟨_, rfl⟩
          rw [hO] at k0 k1 SA
          simp only at k0 k1
          clear hO hkj
          by_cases hq : o1 = f ∧ o2 = t
          · obtain ⟨rfl, rfl⟩ := hq
            have RV : Hid (restV P = 6) := by
              show _ = _
              rw [restV, hI.out, ST.out, V0.out, if_pos (hK.out.2 (SA.out.2 (.inl rfl)))]
              rfl
            go_wp2_with fail
            go_quiet (fail)
            go_wp2_with fail
            go_ret
            rw [RV.out]
            exact ⟨rfl, dr HBw.out _⟩
          · have HQ : Hid (¬ (o1 = f ∧ o2 = t)) := hq
            by_cases h1 : o1 = f
            · have h2 : ¬ o2 = t := fun h2 => hq ⟨h1, h2⟩
              clear hq
              go_wp2_with fail
              go_quiet (fail)
              go_wp2_with fail
              go_roundw
              case rel => exact ⟨k + 1, by have := HKJ.out; omega, by go_num, dr HBq.out _, by show _ ↔ _; rw [hK.out, SA.out]; constructor; exact fun h => h.elim (fun e => absurd ⟨congrArg Prod.fst e, congrArg Prod.snd e⟩ HQ.out) id; exact .inr⟩
              case measure => have := HKJ.out; simp [intOf]; omega
            · clear hq
              go_wp2_with fail
              go_quiet (fail)
              go_wp2_with fail
              go_roundw
              case rel => exact ⟨k + 1, by have := HKJ.out; omega, by go_num, dr HBq.out _, by show _ ↔ _; rw [hK.out, SA.out]; constructor; exact fun h => h.elim (fun e => absurd ⟨congrArg Prod.fst e, congrArg Prod.snd e⟩ HQ.out) id; exact .inr⟩
              case measure => have := HKJ.out; simp [intOf]; omega
        · have hK1 : ¬ (k : Int) < (j : Int) := by omega
          have HKJ : Hid (k = j) := by show _ = _; omega
          clear hkj
          have V4 : Hid (bellV P.own.length (P.bells.take j) (f, t) = 0) := by
            show _ = _
            rw [V0.out, if_neg]
            rw [hK.out, List.drop_of_length_le (by have := HKJ.out; simp; omega)]
            simp
          go_wp2_with fail
          go_roundw
          case rel => exact ⟨j + 1, by have := HLT.out; omega, by go_num, HBw.out, by show _ = _; rw [hI.out, ST.out, V4.out]; simp⟩
          case measure => have := HLT.out; simp [intOf]; omega
    · have hJ : ¬ (j : Int) < (n2 : Int) := by omega
      have HJ : Hid (j = n2) := by show _ = _; omega
      have RV : Hid (restV P = g6V P) := by
        show _ = _
        rw [restV, hI.out, List.drop_of_length_le (by have := HL2.out; have := HJ.out; omega)]
        rfl
      have h3 := cell_keep HB.out H3.out
      clear hlt
      by_cases hn : n3 < 1
      · have hb : (n3 : Int) < 1 := by omega
        have RV2 : Hid (restV P = 2) := by show _ = _; rw [RV.out, g6V, if_pos (.inl (by have := HL3.out; omega))]
        clear hn
        go_wp2_with fail
        go_ret
        rw [RV2.out]
        exact ⟨rfl, HB.out⟩
      by_cases hm : 8 < n3
      · have hb : ¬ (n3 : Int) < 1 := by omega
        have hb2 : (8 : Int) < n3 := by omega
        have RV2 : Hid (restV P = 2) := by show _ = _; rw [RV.out, g6V, if_pos (.inr (by have := HL3.out; omega))]
        clear hn hm
        go_wp2_with fail
        go_ret
        rw [RV2.out]
        exact ⟨rfl, HB.out⟩
      have RV2 : Hid (restV P = slotsV P.own.length P.plan) := by show _ = _; rw [RV.out, g6V, if_neg (by have := HL3.out; omega)]
      have hb : ¬ (n3 : Int) < 1 := by omega
      have hb2 : ¬ (8 : Int) < n3 := by omega
      have HPw : Hid (PolAt wr q P) := HP.out.stay HB.out
      have HPlw : Hid (IsPairs wr a3 n3 c3 P.plan) := HPl.out.stay HB.out
      clear hn hm
      go_wp2_with fail
      go_loop [7] (fun c => ∃ i : Nat, i ≤ n3 ∧ c = .int .i64 i ∧ Hid (slotsV P.own.length P.plan = slotsV P.own.length (P.plan.drop i))) (fun c => n3 - (intOf c).toNat)
      case atStart => exact ⟨0, Nat.zero_le _, rfl, by show _ = _; simp⟩
      case round =>
        obtain ⟨i, hi, rfl, hS⟩ := hrel
        by_cases hlt : i < n3
        · obtain ⟨x, rfl, k0, k1⟩ := HPlw.out.at i hlt
          have hJ : (i : Int) < (n3 : Int) := by omega
          have HLT : Hid (i < n3) := hlt
          have SS : Hid (_ = _) := slots_step P.own.length P.plan i (by have := HL3.out; omega)
          obtain ⟨⟨g, s⟩, hL⟩ : ∃ L, P.plan.getD i (0, 0) = L := ⟨_, rfl⟩
          rw [hL] at k0 k1 SS
          simp only at k0 k1
          clear hL hlt
          by_cases hg : isG P.own.length g = false
          · have RV3 : Hid (restV P = 4) := by
              show _ = _
              have e : slotV P.own.length (g, s) = 4 := by rw [slotV, if_pos hg]
              rw [RV2.out, hS.out, SS.out, e, if_neg (by decide)]
            go_wp2_with (go_at_call 42; refine (l6_guest _ _ P _ HPw.out).mono ?_; rintro e wx ⟨rfl, rfl⟩; rw [hg])
            go_ret
            rw [RV3.out]
            exact ⟨rfl, HB.out⟩
          rw [Bool.not_eq_false] at hg
          by_cases hs : stOk s = false
          · have RV3 : Hid (restV P = 3) := by
              show _ = _
              have e : slotV P.own.length (g, s) = 3 := by rw [slotV, if_neg (by rw [hg]; simp), if_pos hs]
              rw [RV2.out, hS.out, SS.out, e, if_neg (by decide)]
            go_wp2_with (first
              | (go_at_call 42; refine (l6_guest _ _ P _ HPw.out).mono ?_; rintro e wx ⟨rfl, rfl⟩; rw [hg])
              | (go_at_call 67; refine (l1_st _ _).mono ?_; rintro e wx ⟨rfl, rfl⟩; rw [hs]))
            go_ret
            rw [RV3.out]
            exact ⟨rfl, HB.out⟩
          rw [Bool.not_eq_false] at hs
          have V5 : Hid (slotV P.own.length (g, s) = 0) := by show _ = _; rw [slotV, if_neg (by rw [hg]; simp), if_neg (by rw [hs]; simp)]
          go_wp2_with (first
            | (go_at_call 42; refine (l6_guest _ _ P _ HPw.out).mono ?_; rintro e wx ⟨rfl, rfl⟩; rw [hg])
            | (go_at_call 67; refine (l1_st _ _).mono ?_; rintro e wx ⟨rfl, rfl⟩; rw [hs]))
          go_round
          case rel => exact ⟨i + 1, by have := HLT.out; omega, by go_num, by show _ = _; rw [hS.out, SS.out, V5.out]; simp⟩
          case measure => have := HLT.out; simp [intOf]; omega
        · have hJ : ¬ (i : Int) < (n3 : Int) := by omega
          have HJ : Hid (i = n3) := by show _ = _; omega
          clear hlt
          go_wp2_with fail
          go_ret
          rw [RV2.out, hS.out, List.drop_of_length_le (by have := HL3.out; have := HJ.out; omega)]
          exact ⟨rfl, HB.out⟩

theorem l6_fault (q : Nat) (P : Plc) (w : World) (h : PolAt w q P) :
    Calls Tryz.prog 41 #[.pointer (some ⟨q, 0, none⟩)] w fun e w' => e = .returned (.int .i64 (pfV P)) ∧ Below w.heap.size w w' := by
  have HP : Hid (PolAt w q P) := h
  clear h
  by_cases h1 : ownsV P = 0
  · by_cases h2 : linksV P = 0
    · have E : Hid (pfV P = restV P) := by show _ = _; rw [pfV, orV, if_pos h1, orV, if_pos h2]
      go_enter Tryz.func41, Tryz.ntmps41
      go_wp2_with (go_at_call 64; refine (l6_owns _ P _ HP.out).mono ?_; rintro e w1 ⟨rfl, b1⟩; rw [h1])
      go_wp2_with (go_at_call 65; refine (l6_lanes _ P _ (HP.out.stay b1)).mono ?_; rintro e w2 ⟨rfl, b2⟩; rw [h2])
      have B2 := on b1 b2
      go_wp2_with (go_at_call 66; refine (l6_rest _ P _ (HP.out.stay B2)).mono ?_; rintro e w3 ⟨rfl, b3⟩)
      go_ret
      rw [E.out]
      exact ⟨rfl, on B2 b3⟩
    · have E : Hid (pfV P = linksV P) := by show _ = _; rw [pfV, orV, if_pos h1, orV, if_neg h2]
      have H2 : Hid (¬ linksV P = 0) := h2
      go_enter Tryz.func41, Tryz.ntmps41
      go_wp2_with (go_at_call 64; refine (l6_owns _ P _ HP.out).mono ?_; rintro e w1 ⟨rfl, b1⟩; rw [h1])
      go_wp2_with (go_at_call 65; refine (l6_lanes _ P _ (HP.out.stay b1)).mono ?_; rintro e w2 ⟨rfl, b2⟩)
      go_ret
      rw [E.out]
      exact ⟨rfl, on b1 b2⟩
  · have E : Hid (pfV P = ownsV P) := by show _ = _; rw [pfV, orV, if_neg h1]
    go_enter Tryz.func41, Tryz.ntmps41
    go_wp2_with (go_at_call 64; refine (l6_owns _ P _ HP.out).mono ?_; rintro e w1 ⟨rfl, b1⟩)
    go_ret
    rw [E.out]
    exact ⟨rfl, b1⟩

end Go.Proofs.YtmgninipaigjfaaGreatDoor
namespace Go.Proofs.YtmgninipaigjfaaGreatDoor
open Go.RowKit
set_option linter.unusedVariables false

theorem i_hostPage (x : Int) (w : World) : Calls Tryz.prog 107 #[.int .i64 x] w fun e w' => e = .returned (.bool (pgOk x)) ∧ w' = w := by
  by_cases h : 0 ≤ x
  · go_enter Tryz.func107, Tryz.ntmps107
    go_wp2
    go_ret
    exact ⟨congrArg (fun b => Ending.returned (.bool b)) (by apply Bool.eq_iff_iff.2; simp [pgOk]; omega), rfl⟩
  · go_enter Tryz.func107, Tryz.ntmps107
    go_wp2
    go_ret
    exact ⟨congrArg (fun b => Ending.returned (.bool b)) (by apply Bool.eq_iff_iff.2; simp [pgOk]; omega), rfl⟩
theorem i_lanePlace (x : Int) (w : World) : Calls Tryz.prog 109 #[.int .i64 x] w fun e w' => e = .returned (.bool (atOk x)) ∧ w' = w := by
  by_cases h : 5 ≤ x
  · go_enter Tryz.func109, Tryz.ntmps109
    go_wp2
    go_ret
    exact ⟨congrArg (fun b => Ending.returned (.bool b)) (by apply Bool.eq_iff_iff.2; simp [atOk]; omega), rfl⟩
  · go_enter Tryz.func109, Tryz.ntmps109
    go_wp2
    go_ret
    exact ⟨congrArg (fun b => Ending.returned (.bool b)) (by apply Bool.eq_iff_iff.2; simp [atOk]; omega), rfl⟩
theorem i_guest (a0 a1 a2 a3 : Option Addr) (n0 c0 n1 c1 n2 c2 n3 c3 : Nat) (g : Int) (w : World) (hmax : (n0 : Int) ≤ 9223372036854775807) :
    Calls Tryz.prog 50 #[.agg #[.slice a0 n0 c0, .slice a1 n1 c1, .slice a2 n2 c2, .slice a3 n3 c3], .int .i64 g] w fun e w' => e = .returned (.bool (isG n0 g)) ∧ w' = w.alloc (.cells #[.slice a0 n0 c0, .slice a1 n1 c1, .slice a2 n2 c2, .slice a3 n3 c3] 35) := by
  by_cases h : 0 ≤ g
  · go_enter Tryz.func50, Tryz.ntmps50
    go_wp2
    go_ret
    exact ⟨congrArg (fun b => Ending.returned (.bool b)) (by apply Bool.eq_iff_iff.2; simp [isG]; omega), rfl⟩
  · go_enter Tryz.func50, Tryz.ntmps50
    go_wp2
    go_ret
    exact ⟨congrArg (fun b => Ending.returned (.bool b)) (by apply Bool.eq_iff_iff.2; simp [isG]; omega), rfl⟩

/-- What is not right, as an error; 0: none. -/
def errV (c : Int) : Value := if c = 0 then .nilIface else .iface 135 (.agg #[.int .i64 c])

set_option maxHeartbeats 1000000 in
theorem i_ends (a0 a1 a2 a3 : Option Addr) (n0 c0 n1 c1 n2 c2 n3 c3 : Nat) (f t : Int) (w : World) (hmax : (n0 : Int) ≤ 9223372036854775807) :
    Calls Tryz.prog 108 #[.agg #[.slice a0 n0 c0, .slice a1 n1 c1, .slice a2 n2 c2, .slice a3 n3 c3], .int .i64 f, .int .i64 t] w fun e w' => e = .returned (errV (endsV n0 f t)) ∧ Below w.heap.size w w' := by
  have HM : Hid ((n0 : Int) ≤ 9223372036854775807) := hmax
  unfold endsV
  by_cases h1 : isG n0 f = true
  · by_cases h2 : isG n0 t = true
    · rw [if_neg (by simp [h1, h2])]
      by_cases h3 : f = t
      · rw [if_pos h3]
        go_enter Tryz.func108, Tryz.ntmps108
        go_wp2_with (go_at_call 50; refine (i_guest _ _ _ _ _ _ _ _ _ _ _ _ _ _ HM.out).mono ?_; rintro e w1 ⟨rfl, rfl⟩; first | rw [h1] | rw [h2])
        go_ret
        exact ⟨rfl, al (al (al (Below.refl _ _) _) _) _⟩
      · rw [if_neg h3]
        go_enter Tryz.func108, Tryz.ntmps108
        go_wp2_with (go_at_call 50; refine (i_guest _ _ _ _ _ _ _ _ _ _ _ _ _ _ HM.out).mono ?_; rintro e w1 ⟨rfl, rfl⟩; first | rw [h1] | rw [h2])
        go_ret
        exact ⟨rfl, al (al (al (Below.refl _ _) _) _) _⟩
    · rw [Bool.not_eq_true] at h2
      rw [if_pos (.inr h2)]
      go_enter Tryz.func108, Tryz.ntmps108
      go_wp2_with (go_at_call 50; refine (i_guest _ _ _ _ _ _ _ _ _ _ _ _ _ _ HM.out).mono ?_; rintro e w1 ⟨rfl, rfl⟩; first | rw [h1] | rw [h2])
      go_ret
      exact ⟨rfl, al (al (al (Below.refl _ _) _) _) _⟩
  · rw [Bool.not_eq_true] at h1
    rw [if_pos (.inl h1)]
    go_enter Tryz.func108, Tryz.ntmps108
    go_wp2_with (go_at_call 50; refine (i_guest _ _ _ _ _ _ _ _ _ _ _ _ _ _ HM.out).mono ?_; rintro e w1 ⟨rfl, rfl⟩; rw [h1])
    go_ret
    exact ⟨rfl, al (al (Below.refl _ _) _) _⟩

theorem i_laneAt (l : Ln) (g p : Int) (w : World) : Calls Tryz.prog 120 #[.agg #[.int .i64 l.fr, .int .i64 l.dst, .int .i64 l.pg, .int .i64 l.af, .int .i64 l.tt], .int .i64 g, .int .i64 p] w fun e w' => e = .returned (.bool (usesV l g p)) ∧ w' = w.alloc (.cells #[.int .i64 l.fr, .int .i64 l.dst, .int .i64 l.pg, .int .i64 l.af, .int .i64 l.tt] 86) := by
  obtain ⟨a, b, c, d, z⟩ := l
  unfold usesV
  simp only
  by_cases h1 : a = g <;> by_cases h2 : d = p <;> by_cases h3 : b = g <;> by_cases h4 : z = p <;>
    (go_enter Tryz.func120, Tryz.ntmps120
     go_wp2_with fail
     go_ret
     exact ⟨by simp [h1, h2, h3, h4], by first | rfl | simp [h1, h2, h3, h4]⟩)

set_option maxHeartbeats 2000000 in
theorem i_meets (a : Option Addr) (n c : Nat) (rs : List Ln) (L : Ln) (w : World) (h : IsLanes w a n c rs) :
    Calls Tryz.prog 111 #[.slice a n c, .agg #[.int .i64 L.fr, .int .i64 L.dst, .int .i64 L.pg, .int .i64 L.af, .int .i64 L.tt]] w fun e w' => e = .returned (.bool (rs.any fun o => meetV o L)) ∧ Below w.heap.size w w' := by
  have HR : Hid (IsLanes w a n c rs) := h
  have HL : Hid (n = rs.length) := h.len
  have hmax : (n : Int) ≤ 9223372036854775807 := by have := h.cap; unfold maxLen at this; omega
  clear h
  have q0 : (w.alloc (.cells #[.int .i64 L.fr, .int .i64 L.dst, .int .i64 L.pg, .int .i64 L.af, .int .i64 L.tt] 86)).cell? ⟨w.heap.size, 0, none⟩ = some (.int .i64 L.fr) := cell_new rfl
  have q1 : (w.alloc (.cells #[.int .i64 L.fr, .int .i64 L.dst, .int .i64 L.pg, .int .i64 L.af, .int .i64 L.tt] 86)).cell? ⟨w.heap.size, 1, none⟩ = some (.int .i64 L.dst) := cell_new rfl
  have q2 : (w.alloc (.cells #[.int .i64 L.fr, .int .i64 L.dst, .int .i64 L.pg, .int .i64 L.af, .int .i64 L.tt] 86)).cell? ⟨w.heap.size, 2, none⟩ = some (.int .i64 L.pg) := cell_new rfl
  have q3 : (w.alloc (.cells #[.int .i64 L.fr, .int .i64 L.dst, .int .i64 L.pg, .int .i64 L.af, .int .i64 L.tt] 86)).cell? ⟨w.heap.size, 3, none⟩ = some (.int .i64 L.af) := cell_new rfl
  have q4 : (w.alloc (.cells #[.int .i64 L.fr, .int .i64 L.dst, .int .i64 L.pg, .int .i64 L.af, .int .i64 L.tt] 86)).cell? ⟨w.heap.size, 4, none⟩ = some (.int .i64 L.tt) := cell_new rfl
  have Q : Hid (_ ∧ _ ∧ _ ∧ _ ∧ _) := ⟨q0, q1, q2, q3, q4⟩
  have HB1 : Hid (Below w.heap.size w (w.alloc (.cells #[.int .i64 L.fr, .int .i64 L.dst, .int .i64 L.pg, .int .i64 L.af, .int .i64 L.tt] 86))) := al (Below.refl _ _) _
  clear q0 q1 q2 q3 q4
  go_enter Tryz.func111, Tryz.ntmps111
  go_wp2_with fail
  generalize w.alloc (.cells #[.int .i64 L.fr, .int .i64 L.dst, .int .i64 L.pg, .int .i64 L.af, .int .i64 L.tt] 86) = W1 at *
  obtain ⟨B, hB⟩ : ∃ B, w.heap.size = B := ⟨_, rfl⟩
  rw [hB] at Q ⊢
  have HBB : Hid (w.heap.size = B) := hB
  clear hB
  go_loopw [9] (fun c wq => ∃ k : Nat, k ≤ n ∧ c = .int .i64 k ∧ Below W1.heap.size W1 wq ∧ Hid (rs.any (fun o => meetV o L) = (rs.drop k).any (fun o => meetV o L))) (fun c _ => n - (intOf c).toNat)
  case atStart => exact ⟨0, Nat.zero_le _, rfl, Below.refl _ _, by show _ = _; simp⟩
  case round =>
    obtain ⟨k, hk, rfl, hB, hK⟩ := hrel
    have HBq : Hid (Below _ W1 wr) := hB
    have HBw : Hid (Below _ w wr) := on HB1.out hB
    obtain ⟨q0, q1, q2, q3, q4⟩ := Q.out
    have q0 := cell_keep hB q0
    have q1 := cell_keep hB q1
    have q2 := cell_keep hB q2
    have q3 := cell_keep hB q3
    have q4 := cell_keep hB q4
    have bB : B < wr.heap.size := block_of_cell q0
    clear hB
    by_cases hkj : k < n
    · have hK1 : (k : Int) < (n : Int) := by omega
      obtain ⟨x, rfl, k0, k1, k2, k3, k4⟩ := (HR.out.stay HBw.out).at k hkj
      have HKJ : Hid (k < n) := hkj
      have SA : Hid (_ = _) := any_step lz rs (fun o => meetV o L) k (by have := HL.out; omega)
      obtain ⟨O, hO⟩ : ∃ O, rs.getD k lz = O := ⟨_, rfl⟩
      rw [hO] at k0 k1 k2 k3 k4 SA
      clear hO hkj
      by_cases hpg : O.pg = L.pg
      · have V4 : Hid (rs.any (fun o => meetV o L) = true) := by
          show _ = _
          rw [hK.out, SA.out]
          simp [meetV, hpg]
        go_wp2_with fail
        go_ret
        rw [V4.out]
        exact ⟨rfl, al HBw.out _⟩
      by_cases hu : usesV O L.fr L.af = true
      · have V4 : Hid (rs.any (fun o => meetV o L) = true) := by
          show _ = _
          rw [hK.out, SA.out]
          simp [meetV, hu]
        go_wp2_with (go_at_call 120; refine (i_laneAt O _ _ _).mono ?_; rintro e wx ⟨rfl, rfl⟩; rw [hu])
        go_ret
        rw [V4.out]
        exact ⟨rfl, al (al HBw.out _) _⟩
      rw [Bool.not_eq_true] at hu
      by_cases hu2 : usesV O L.dst L.tt = true
      · have V4 : Hid (rs.any (fun o => meetV o L) = true) := by
          show _ = _
          rw [hK.out, SA.out]
          simp [meetV, hu2]
        go_wp2_with (go_at_call 120; refine (i_laneAt O _ _ _).mono ?_; rintro e wx ⟨rfl, rfl⟩; first | rw [hu] | rw [hu2])
        go_ret
        rw [V4.out]
        exact ⟨rfl, al (al (al HBw.out _) _) _⟩
      rw [Bool.not_eq_true] at hu2
      have M0 : Hid (meetV O L = false) := by show _ = _; rw [meetV, hu, hu2]; simp [hpg]
      go_wp2_with (go_at_call 120; refine (i_laneAt O _ _ _).mono ?_; rintro e wx ⟨rfl, rfl⟩; first | rw [hu] | rw [hu2])
      go_roundw
      case rel => exact ⟨k + 1, by have := HKJ.out; omega, by go_num, al (al (al HBq.out _) _) _, by show _ = _; rw [hK.out, SA.out, M0.out, Bool.false_or]⟩
      case measure => have := HKJ.out; simp [intOf]; omega
    · have hK1 : ¬ (k : Int) < (n : Int) := by omega
      have V4 : Hid (rs.any (fun o => meetV o L) = false) := by
        show _ = _
        rw [hK.out, List.drop_of_length_le (by have := HL.out; omega)]
        rfl
      clear hkj
      go_wp2_with fail
      go_ret
      rw [V4.out]
      exact ⟨rfl, HBw.out⟩

end Go.Proofs.YtmgninipaigjfaaGreatDoor
