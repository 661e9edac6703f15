/- Texts of this seat, joined. -/
import Derived.Test.YtdhdfopkcpkbeaaGreatDoorQ13
namespace Go.Proofs.YtdhdfopkcpkbeaaGreatDoor
open Go.RowKit
set_option linter.unusedVariables false

theorem any_take_step (zs : List Ln) (f : Ln → Bool) (j k : Nat) (hk : k < j) (hj : j ≤ zs.length) : ((zs.take j).drop k).any f = (f (zs.getD k lz) || ((zs.take j).drop (k + 1)).any f) := by
  rw [any_step lz (zs.take j) f k (by simp; omega)]
  have e : (zs.take j).getD k lz = zs.getD k lz := by simp [List.getD, hk]
  rw [e]

set_option maxRecDepth 20000 in
set_option maxHeartbeats 4000000 in
theorem l6_lanes (q : Nat) (P : Plc) (w : World) (h : PolAt w q P) :
    Calls Tryz.prog 52 #[.pointer (some ⟨q, 0, none⟩)] w fun e w' => e = .returned (.int .i64 (linksV P)) ∧ Below w.heap.size w w' := by
  have HP : Hid (PolAt w q P) := h
  obtain ⟨a0, n0, c0, a1, n1, c1, a2, n2, c2, a3, n3, c3, h0, h1, h2, h3, h4⟩ := h
  have HL1 : Hid (n1 = P.lanes.length) := h4.lanes.len
  have HL2 : Hid (n2 = P.bells.length) := h4.bells.len
  have HLa : Hid (IsLanes w a1 n1 c1 P.lanes) := h4.lanes
  have hmax : (n1 : Int) ≤ 9223372036854775807 := by have := h4.lanes.cap; unfold maxLen at this; omega
  have hmax2 : (n2 : Int) ≤ 9223372036854775807 := by have := h4.bells.cap; unfold maxLen at this; omega
  have H1 : Hid (w.cell? ⟨q, 1, none⟩ = some (.slice a1 n1 c1)) := h1
  clear h0 h3 h4
  by_cases hn : 4 < n1
  · have hb : (4 : Int) < n1 := by omega
    have E : Hid (linksV P = 2) := by show _ = _; have := HL1.out; simp [linksV, orV, g3V, show 4 < P.lanes.length by omega]
    clear hn
    go_enter Tryz.func52, Tryz.ntmps52
    go_wp2_with fail
    go_ret
    rw [E.out]
    exact ⟨rfl, Below.refl _ _⟩
  by_cases hm : 4 < n2
  · have hb : ¬ (4 : Int) < n1 := by omega
    have hb2 : (4 : Int) < n2 := by omega
    have E : Hid (linksV P = 2) := by show _ = _; have := HL2.out; simp [linksV, orV, g3V, show 4 < P.bells.length by omega]
    clear hn hm
    go_enter Tryz.func52, Tryz.ntmps52
    go_wp2_with fail
    go_ret
    rw [E.out]
    exact ⟨rfl, Below.refl _ _⟩
  have E : Hid (linksV P = lanesV P.own [] P.lanes) := by
    show _ = _
    have := HL1.out
    have := HL2.out
    rw [linksV, g3V, if_neg (by omega)]
    rfl
  have hb : ¬ (4 : Int) < n1 := by omega
  have hb2 : ¬ (4 : Int) < n2 := by omega
  clear hn hm
  go_enter Tryz.func52, Tryz.ntmps52
  go_wp2_with fail
  clear h1 h2
  go_loopw [3] (fun c wr => ∃ j : Nat, j ≤ n1 ∧ c = .int .i64 j ∧ Below w.heap.size w wr ∧ Hid (lanesV P.own [] P.lanes = lanesV P.own (P.lanes.take j) (P.lanes.drop j))) (fun c _ => n1 - (intOf c).toNat)
  case atStart => exact ⟨0, Nat.zero_le _, rfl, Below.refl _ _, by show _ = _; simp⟩
  case round =>
    obtain ⟨j, hj, rfl, hB, hI⟩ := hrel
    have HB : Hid (Below _ w wr) := hB
    have h1 := cell_keep hB H1.out
    clear hB
    by_cases hlt : j < n1
    · obtain ⟨x, rfl, k0, k1, k2, k3, k4⟩ := (HLa.out.stay HB.out).at j hlt
      have hJ : (j : Int) < (n1 : Int) := by omega
      have HLT : Hid (j < n1) := hlt
      have ST : Hid (_ = _) := lanes_step P.own P.lanes j (by have := HL1.out; omega)
      obtain ⟨L, hL⟩ : ∃ L, P.lanes.getD j lz = L := ⟨_, rfl⟩
      rw [hL] at k0 k1 k2 k3 k4 ST
      clear hL hlt
      have HPn : Hid (PolAt (wr.alloc (.cells #[.int .i64 L.fr, .int .i64 L.dst, .int .i64 L.pg, .int .i64 L.af, .int .i64 L.tt] 83)) q P) := (HP.out.stay HB.out).stay (al (Below.refl _ _) _)
      have HBn : Hid (Below w.heap.size w (wr.alloc (.cells #[.int .i64 L.fr, .int .i64 L.dst, .int .i64 L.pg, .int .i64 L.af, .int .i64 L.tt] 83))) := al HB.out _
      by_cases he : endsV P.own.length L.fr L.dst ≠ 0
      · have HE : Hid (laneV P.own (P.lanes.take j) L = endsV P.own.length L.fr L.dst) := by show _ = _; rw [laneV, if_neg he]
        have HE2 : Hid (¬ endsV P.own.length L.fr L.dst = 0) := he
        generalize hv : endsV P.own.length L.fr L.dst = v at *
        go_wp2_with (go_at_call 80; refine (l6_ends _ _ _ P _ HPn.out).mono ?_; rintro e wx ⟨rfl, rfl⟩; rw [hv])
        go_ret
        rw [E.out, hI.out, ST.out, HE.out, if_neg HE2.out]
        exact ⟨rfl, HBn.out⟩
      have he0 : endsV P.own.length L.fr L.dst = 0 := Decidable.not_not.1 he
      have V0 : Hid (laneV P.own (P.lanes.take j) L = if pgOk L.pg = false ∨ atOk L.af = false ∨ atOk L.tt = false then 3 else if 0 ≤ ownerFrom 0 P.own L.pg then 6 else if (P.lanes.take j).any (fun o => meetV o L) then 6 else 0) := by
        show _ = _
        rw [laneV, if_pos he0]
      clear he
      by_cases hp : pgOk L.pg = false
      · have HP1 : Hid ((decide ((0 : Int) ≤ L.pg) && decide (L.pg ≤ 23)) = false) := hp
        have V1 : Hid (laneV P.own (P.lanes.take j) L = 3) := by show _ = _; rw [V0.out, if_pos (.inl hp)]
        go_wp2_with (first
          | (go_at_call 80; refine (l6_ends _ _ _ P _ HPn.out).mono ?_; rintro e wx ⟨rfl, rfl⟩; rw [he0])
          | (go_at_call 78; refine (l1_in _ _ _ _).mono ?_; rintro e wx ⟨rfl, rfl⟩; rw [HP1.out]))
        go_ret
        rw [E.out, hI.out, ST.out, V1.out]
        exact ⟨rfl, HBn.out⟩
      rw [Bool.not_eq_false] at hp
      have HP1 : Hid ((decide ((0 : Int) ≤ L.pg) && decide (L.pg ≤ 23)) = true) := hp
      by_cases ha : atOk L.af = false
      · have HA1 : Hid ((decide ((5 : Int) ≤ L.af) && decide (L.af ≤ 6)) = false) := ha
        have V1 : Hid (laneV P.own (P.lanes.take j) L = 3) := by show _ = _; rw [V0.out, if_pos (.inr (.inl ha))]
        go_wp2_with (first
          | (go_at_call 80; refine (l6_ends _ _ _ P _ HPn.out).mono ?_; rintro e wx ⟨rfl, rfl⟩; rw [he0])
          | (go_at_call 78; refine (l1_in _ _ _ _).mono ?_; rintro e wx ⟨rfl, rfl⟩; first | rw [HP1.out] | rw [HA1.out]))
        go_ret
        rw [E.out, hI.out, ST.out, V1.out]
        exact ⟨rfl, HBn.out⟩
      rw [Bool.not_eq_false] at ha
      have HA1 : Hid ((decide ((5 : Int) ≤ L.af) && decide (L.af ≤ 6)) = true) := ha
      by_cases ht : atOk L.tt = false
      · have HT1 : Hid ((decide ((5 : Int) ≤ L.tt) && decide (L.tt ≤ 6)) = false) := ht
        have V1 : Hid (laneV P.own (P.lanes.take j) L = 3) := by show _ = _; rw [V0.out, if_pos (.inr (.inr ht))]
        go_wp2_with (first
          | (go_at_call 80; refine (l6_ends _ _ _ P _ HPn.out).mono ?_; rintro e wx ⟨rfl, rfl⟩; rw [he0])
          | (go_at_call 78; refine (l1_in _ _ _ _).mono ?_; rintro e wx ⟨rfl, rfl⟩; first | rw [HP1.out] | rw [HA1.out] | rw [HT1.out]))
        go_ret
        rw [E.out, hI.out, ST.out, V1.out]
        exact ⟨rfl, HBn.out⟩
      rw [Bool.not_eq_false] at ht
      have HT1 : Hid ((decide ((5 : Int) ≤ L.tt) && decide (L.tt ≤ 6)) = true) := ht
      have V2 : Hid (laneV P.own (P.lanes.take j) L = if 0 ≤ ownerFrom 0 P.own L.pg then 6 else if (P.lanes.take j).any (fun o => meetV o L) then 6 else 0) := by
        show _ = _
        rw [V0.out, if_neg (by rw [hp, ha, ht]; simp)]
      clear V0
      by_cases ho : 0 ≤ ownerFrom 0 P.own L.pg
      · have V1 : Hid (laneV P.own (P.lanes.take j) L = 6) := by show _ = _; rw [V2.out, if_pos ho]
        generalize hv : ownerFrom 0 P.own L.pg = v at *
        go_wp2_with (first
          | (go_at_call 80; refine (l6_ends _ _ _ P _ HPn.out).mono ?_; rintro e wx ⟨rfl, rfl⟩; rw [he0])
          | (go_at_call 78; refine (l1_in _ _ _ _).mono ?_; rintro e wx ⟨rfl, rfl⟩; first | rw [HP1.out] | rw [HA1.out] | rw [HT1.out])
          | (go_at_call 81; refine (l6_owner _ _ P _ HPn.out).mono ?_; rintro e wx ⟨rfl, rfl⟩; rw [hv]))
        go_ret
        rw [E.out, hI.out, ST.out, V1.out]
        exact ⟨rfl, HBn.out⟩
      have V3 : Hid (laneV P.own (P.lanes.take j) L = if (P.lanes.take j).any (fun o => meetV o L) then 6 else 0) := by
        show _ = _
        rw [V2.out, if_neg ho]
      clear V2
      have q0 : (wr.alloc (.cells #[.int .i64 L.fr, .int .i64 L.dst, .int .i64 L.pg, .int .i64 L.af, .int .i64 L.tt] 83)).cell? ⟨wr.heap.size, 0, none⟩ = some (.int .i64 L.fr) := cell_new rfl
      have q1 : (wr.alloc (.cells #[.int .i64 L.fr, .int .i64 L.dst, .int .i64 L.pg, .int .i64 L.af, .int .i64 L.tt] 83)).cell? ⟨wr.heap.size, 1, none⟩ = some (.int .i64 L.dst) := cell_new rfl
      have q2 : (wr.alloc (.cells #[.int .i64 L.fr, .int .i64 L.dst, .int .i64 L.pg, .int .i64 L.af, .int .i64 L.tt] 83)).cell? ⟨wr.heap.size, 2, none⟩ = some (.int .i64 L.pg) := cell_new rfl
      have q3 : (wr.alloc (.cells #[.int .i64 L.fr, .int .i64 L.dst, .int .i64 L.pg, .int .i64 L.af, .int .i64 L.tt] 83)).cell? ⟨wr.heap.size, 3, none⟩ = some (.int .i64 L.af) := cell_new rfl
      have q4 : (wr.alloc (.cells #[.int .i64 L.fr, .int .i64 L.dst, .int .i64 L.pg, .int .i64 L.af, .int .i64 L.tt] 83)).cell? ⟨wr.heap.size, 4, none⟩ = some (.int .i64 L.tt) := cell_new rfl
      have Q : Hid (_ ∧ _ ∧ _ ∧ _ ∧ _) := ⟨q0, q1, q2, q3, q4⟩
      clear q0 q1 q2 q3 q4
      generalize hv : ownerFrom 0 P.own L.pg = v at *
      go_wp2_with (first
        | (go_at_call 80; refine (l6_ends _ _ _ P _ HPn.out).mono ?_; rintro e wx ⟨rfl, rfl⟩; rw [he0])
        | (go_at_call 78; refine (l1_in _ _ _ _).mono ?_; rintro e wx ⟨rfl, rfl⟩; first | rw [HP1.out] | rw [HA1.out] | rw [HT1.out])
        | (go_at_call 81; refine (l6_owner _ _ P _ HPn.out).mono ?_; rintro e wx ⟨rfl, rfl⟩; rw [hv]))
      generalize wr.alloc (.cells #[.int .i64 L.fr, .int .i64 L.dst, .int .i64 L.pg, .int .i64 L.af, .int .i64 L.tt] 83) = W1 at *
      clear k0 k1 k2 k3 k4 h1 hp ha ht ho hv he0
      generalize wr.heap.size = B at *
      clear HB
      go_loopw [6] (fun c wq => ∃ k : Nat, k ≤ j ∧ c = .int .i64 k ∧ Below W1.heap.size W1 wq ∧ Hid ((P.lanes.take j).any (fun o => meetV o L) = ((P.lanes.take j).drop k).any (fun o => meetV o L))) (fun c _ => j - (intOf c).toNat)
      case atStart => exact ⟨0, Nat.zero_le _, rfl, Below.refl _ _, by show _ = _; simp⟩
      case round =>
        obtain ⟨k, hk, rfl, hB, hK⟩ := hrel
        have HBq : Hid (Below _ W1 wr) := hB
        have HBw : Hid (Below _ w wr) := on HBn.out hB
        obtain ⟨q0, q1, q2, q3, q4⟩ := Q.out
        have q0 := cell_keep hB q0
        have q1 := cell_keep hB q1
        have q2 := cell_keep hB q2
        have q3 := cell_keep hB q3
        have q4 := cell_keep hB q4
        have h1 := cell_keep HBw.out H1.out
        have bB : B < wr.heap.size := block_of_cell q0
        clear hB
        by_cases hkj : k < j
        · have hK1 : (k : Int) < (j : Int) := by omega
          obtain ⟨x, hx, k0, k1, k2, k3, k4⟩ := (HLa.out.stay HBw.out).at k (by have := HLT.out; omega)
          cases hx
          have hkn : (k : Int) < (n1 : Int) := by have := HLT.out; omega
          have HKJ : Hid (k < j) := hkj
          have SA : Hid (_ = _) := any_take_step P.lanes (fun o => meetV o L) j k hkj (by have := HLT.out; have := HL1.out; omega)
          obtain ⟨O, hO⟩ : ∃ O, P.lanes.getD k lz = O := ⟨_, rfl⟩
          rw [hO] at k0 k1 k2 k3 k4 SA
          clear hO hkj
          have HBn2 : Hid (Below w.heap.size w (wr.alloc (.cells #[.int .i64 O.fr, .int .i64 O.dst, .int .i64 O.pg, .int .i64 O.af, .int .i64 O.tt] 83))) := al HBw.out _
          have HBn3 : Hid (Below W1.heap.size W1 (wr.alloc (.cells #[.int .i64 O.fr, .int .i64 O.dst, .int .i64 O.pg, .int .i64 O.af, .int .i64 O.tt] 83))) := al HBq.out _
          have MV : Hid (meetV O L = (decide (O.pg = L.pg) || usesV O L.fr L.af || usesV O L.dst L.tt)) := rfl
          by_cases hpg : O.pg = L.pg
          · have V4 : Hid (laneV P.own (P.lanes.take j) L = 6) := by
              show _ = _
              rw [V3.out, hK.out, SA.out, if_pos (by simp [meetV, hpg])]
            go_wp2_with fail
            go_ret
            rw [E.out, hI.out, ST.out, V4.out]
            exact ⟨rfl, al HBw.out _⟩
          by_cases hu : usesV O L.fr L.af = true
          · have V4 : Hid (laneV P.own (P.lanes.take j) L = 6) := by
              show _ = _
              rw [V3.out, hK.out, SA.out, if_pos (by simp [meetV, hu])]
            go_wp2_with (go_at_call 82; refine (l6_at O _ _ _).mono ?_; rintro e wx ⟨rfl, rfl⟩; rw [hu])
            go_ret
            rw [E.out, hI.out, ST.out, V4.out]
            exact ⟨rfl, al HBn2.out _⟩
          rw [Bool.not_eq_true] at hu
          by_cases hu2 : usesV O L.dst L.tt = true
          · have V4 : Hid (laneV P.own (P.lanes.take j) L = 6) := by
              show _ = _
              rw [V3.out, hK.out, SA.out, if_pos (by simp [meetV, hu2])]
            go_wp2_with (go_at_call 82; refine (l6_at O _ _ _).mono ?_; rintro e wx ⟨rfl, rfl⟩; first | rw [hu] | rw [hu2])
            go_ret
            rw [E.out, hI.out, ST.out, V4.out]
            exact ⟨rfl, al (al HBn2.out _) _⟩
          rw [Bool.not_eq_true] at hu2
          have M0 : Hid (meetV O L = false) := by show _ = _; rw [MV.out, hu, hu2]; simp [hpg]
          go_wp2_with (go_at_call 82; refine (l6_at O _ _ _).mono ?_; rintro e wx ⟨rfl, rfl⟩; first | rw [hu] | rw [hu2])
          go_roundw
          case rel => exact ⟨k + 1, by have := HKJ.out; omega, by go_num, al (al HBn3.out _) _, by show _ = _; rw [hK.out, SA.out, M0.out, Bool.false_or]⟩
          case measure => have := HKJ.out; simp [intOf]; omega
        · have hK1 : ¬ (k : Int) < (j : Int) := by omega
          have HKJ : Hid (k = j) := by show _ = _; omega
          clear hkj
          have V4 : Hid (laneV P.own (P.lanes.take j) L = 0) := by
            show _ = _
            rw [V3.out, hK.out, List.drop_of_length_le (by have := HKJ.out; simp; omega)]
            simp
          go_wp2_with fail
          go_roundw
          case rel => exact ⟨j + 1, by have := HLT.out; omega, by go_num, HBw.out, by show _ = _; rw [hI.out, ST.out, V4.out]; simp⟩
          case measure => have := HLT.out; simp [intOf]; omega
    · have hJ : ¬ (j : Int) < (n1 : Int) := by omega
      have HJ : Hid (j = n1) := by show _ = _; omega
      clear hlt
      go_wp2_with fail
      go_ret
      rw [E.out, hI.out, List.drop_of_length_le (by have := HL1.out; have := HJ.out; omega)]
      exact ⟨rfl, HB.out⟩
end Go.Proofs.YtdhdfopkcpkbeaaGreatDoor
