/- Texts of this seat, joined. -/
import Derived.Deep.RegionWith
import Derived.Laws.ByValue
import Derived.Test.YtggejbphdadckaaGreatDoorQ11
import Derived.Test.YtggejbphdadckaaGreatDoorQ13
import Derived.Test.YtggejbphdadckaaGreatDoorQ16
namespace Go.Proofs.YtggejbphdadckaaGreatDoor
open Go.RowKit
set_option linter.unusedVariables false
theorem flat_seen (own : List (List Int)) (i : Nat) (h : i < own.length) : (own.take i).flatten = seenAt own i 0 ∧ (own.drop i).flatten = leftAt own i 0 := by
  unfold seenAt leftAt
  rw [drop_cons_getD own [] i h]
  simp
theorem flat_next (own : List (List Int)) (i : Nat) (h : i < own.length) : seenAt own i (own.getD i []).length = (own.take (i + 1)).flatten ∧ leftAt own i (own.getD i []).length = (own.drop (i + 1)).flatten := by
  unfold seenAt leftAt
  rw [take_succ_getD own [] i h]
  simp
theorem flat_len (own : List (List Int)) (h : ∀ o ∈ own, o.length ≤ 5) : own.flatten.length ≤ 5 * own.length := by
  induction own with
  | nil => simp
  | cons o t ih =>
    have h1 := h o (List.mem_cons_self ..)
    have h2 := ih fun o ho => h o (List.mem_cons_of_mem _ ho)
    simp only [List.flatten_cons, List.length_append, List.length_cons]
    omega
theorem seen_len (own : List (List Int)) (i k : Nat) (h : guestsV own = 0) (hn : own.length ≤ 3) : (seenAt own i k).length ≤ 40 := by
  have ha := guests_all own h
  have h1 := flat_len (own.take i) fun o ho => (ha o (List.mem_of_mem_take ho)).2.1
  have h2 : ((own.getD i []).take k).length ≤ 5 := by
    by_cases hi : i < own.length
    · have : own.getD i [] ∈ own := by rw [List.getD, List.getElem?_eq_getElem hi]; exact List.getElem_mem hi
      have := (ha _ this).2.1
      simp only [List.length_take]; omega
    · rw [List.getD, List.getElem?_eq_none (by omega)]; simp
  unfold seenAt
  simp only [List.length_append, List.length_take] at *
  omega
set_option maxRecDepth 20000 in
set_option maxHeartbeats 4000000 in
theorem l6_owns (q : Nat) (P : Plc) (w : World) (h : PolAt w q P) :
    Calls Tryz.prog 77 #[.pointer (some ⟨q, 0, none⟩)] w fun e w' => e = .returned (.int .i64 (ownsV P)) ∧ Below w.heap.size w w' := by
  obtain ⟨a0, n0, c0, a1, n1, c1, a2, n2, c2, a3, n3, c3, h0, h1, h2, h3, h4⟩ := h
  have HL : Hid (n0 = P.own.length) := h4.own.len
  have HO : Hid (IsS2 w a0 n0 c0 P.own) := h4.own
  have hmax : (n0 : Int) ≤ 9223372036854775807 := by have := h4.own.cap; unfold maxLen at this; omega
  have qb : q < w.heap.size := block_of_cell h0
  have H0 : Hid (w.cell? ⟨q, 0, none⟩ = some (.slice a0 n0 c0)) := h0
  clear h1 h2 h3 h4
  by_cases hn : n0 < 1
  · have hb : (n0 : Int) < 1 := by omega
    have E : Hid (ownsV P = 2) := by show _ = _; have := HL.out; simp [ownsV, orV, g1V, show P.own.length < 1 by omega]
    clear hn
    go_enter Tryz.func77, Tryz.ntmps77
    go_wp2_with fail
    go_ret
    rw [E.out]
    exact ⟨rfl, Below.refl _ _⟩
  by_cases hm : 3 < n0
  · have hb : ¬ (n0 : Int) < 1 := by omega
    have hb2 : (3 : Int) < n0 := by omega
    have E : Hid (ownsV P = 2) := by show _ = _; have := HL.out; simp [ownsV, orV, g1V, show 3 < P.own.length by omega]
    clear hn hm
    go_enter Tryz.func77, Tryz.ntmps77
    go_wp2_with fail
    go_ret
    rw [E.out]
    exact ⟨rfl, Below.refl _ _⟩
  have E : Hid (ownsV P = orV (guestsV P.own) (g2V P.own)) := by
    show _ = _
    have := HL.out
    rw [ownsV, g1V, if_neg (by omega)]
  have HN3 : Hid (1 ≤ n0 ∧ n0 ≤ 3) := ⟨by omega, by omega⟩
  have hb : ¬ (n0 : Int) < 1 := by omega
  have hb2 : ¬ (3 : Int) < n0 := by omega
  clear hn hm
  go_enter Tryz.func77, Tryz.ntmps77
  go_wp2_with fail
  go_loop [3] (fun c => ∃ j : Nat, j ≤ n0 ∧ c = .int .i64 j ∧ Hid (guestsV P.own = guestsV (P.own.drop j))) (fun c => n0 - (intOf c).toNat)
  case atStart => exact ⟨0, Nat.zero_le _, rfl, by show _ = _; simp⟩
  case round =>
    obtain ⟨j, hj, rfl, hI⟩ := hrel
    by_cases hlt : j < n0
    · obtain ⟨x, b, l, c, rfl, k1, k2⟩ := HO.out.at j hlt
      have HN : Hid (IsNs w b l c _) := k2
      have HNL : Hid (l = (P.own.getD j []).length) := k2.len
      have hlmax : (l : Int) ≤ 9223372036854775807 := by have := k2.cap; unfold maxLen at this; omega
      have hJ : (j : Int) < (n0 : Int) := by omega
      have HLT : Hid (j < n0) := hlt
      have ST : Hid (_ = _) := guests_step P.own j (by have := HL.out; omega)
      clear k2 hlt
      by_cases hl1 : l < 1
      · have hi1 : (l : Int) < 1 := by omega
        have HL1 : Hid (l < 1) := hl1
        clear hl1
        go_wp2_with fail
        go_ret
        rw [E.out, hI.out, ST.out, if_pos (.inl (by have := HL1.out; have := HNL.out; omega))]
        exact ⟨rfl, Below.refl _ _⟩
      by_cases hl5 : 5 < l
      · have hi1 : ¬ (l : Int) < 1 := by omega
        have hi2 : (5 : Int) < l := by omega
        have HL1 : Hid (5 < l) := hl5
        clear hl1 hl5
        go_wp2_with fail
        go_ret
        rw [E.out, hI.out, ST.out, if_pos (.inr (by have := HL1.out; have := HNL.out; omega))]
        exact ⟨rfl, Below.refl _ _⟩
      have hi1 : ¬ (l : Int) < 1 := by omega
      have hi2 : ¬ (5 : Int) < l := by omega
      have ST2 : Hid (guestsV (P.own.drop j) = if (P.own.getD j []).all pgOk = false then 3 else guestsV (P.own.drop (j + 1))) := by
        show _ = _
        rw [ST.out, if_neg (by have := HNL.out; omega)]
      clear hl1 hl5 ST
      go_wp2_with fail
      go_loop [4] (fun c => ∃ k : Nat, k ≤ l ∧ c = .int .i64 k ∧ Hid ((P.own.getD j []).all pgOk = ((P.own.getD j []).drop k).all pgOk)) (fun c => l - (intOf c).toNat)
      case atStart => exact ⟨0, Nat.zero_le _, rfl, by show _ = _; simp⟩
      case round =>
        obtain ⟨k, hk, rfl, hK⟩ := hrel
        by_cases hkl : k < l
        · rcases HN.out with ⟨_, h1, _, _⟩ | ⟨y, rfl, h1, h2, h3, h4⟩
          · omega
          have d0 := h4 k hkl
          have hK1 : (k : Int) < (l : Int) := by omega
          have HKL : Hid (k < l) := hkl
          have SA : Hid (_ = _) := all_step (P.own.getD j []) pgOk k (by have := HNL.out; omega)
          clear h1 h2 h3 h4 hkl
          generalize hz : (P.own.getD j []).getD k 0 = z at *
          clear hz
          by_cases hp : pgOk z = true
          · have HP : Hid (pgOk z = true) := hp
            go_wp2_with (go_at_call 42; refine (l1_pg _ _).mono ?_; rintro e x ⟨rfl, rfl⟩; rw [hp])
            go_round
            case rel => exact ⟨k + 1, by have := HKL.out; omega, by go_num, by show _ = _; rw [hK.out, SA.out, HP.out, Bool.true_and]⟩
            case measure => have := HKL.out; simp [intOf]; omega
          · rw [Bool.not_eq_true] at hp
            have HP : Hid (pgOk z = false) := hp
            go_wp2_with (go_at_call 42; refine (l1_pg _ _).mono ?_; rintro e x ⟨rfl, rfl⟩; rw [hp])
            go_ret
            rw [E.out, hI.out, ST2.out, if_pos (by rw [hK.out, SA.out, HP.out, Bool.false_and])]
            exact ⟨rfl, Below.refl _ _⟩
        · have hK1 : ¬ (k : Int) < (l : Int) := by omega
          have HKL : Hid (k = l) := by show _ = _; omega
          clear hkl
          go_wp2_with fail
          go_round
          case rel =>
            refine ⟨j + 1, by have := HLT.out; omega, by go_num, ?_⟩
            show _ = _
            rw [hI.out, ST2.out, if_neg]
            rw [hK.out, List.drop_of_length_le (by have := HKL.out; have := HNL.out; omega)]
            simp
          case measure => have := HLT.out; simp [intOf]; omega
    · have hJ : ¬ (j : Int) < (n0 : Int) := by omega
      have G0 : Hid (guestsV P.own = 0) := by
        show _ = _
        rw [hI.out, List.drop_of_length_le (by have := HL.out; omega)]
        rfl
      have E2 : Hid (ownsV P = if dupF [] P.own.flatten then 6 else 0) := by
        show _ = _
        rw [E.out, G0.out]
        rfl
      clear hlt hI E
      have N1 : Hid (Nums _ w.heap.size _ []) := nums_empty w w.heap.size (Nat.le_refl _)
      have B1 : Hid (Below w.heap.size w _) := al (Below.refl w.heap.size w) (.cells #[] 2)
      go_wp2_with fail
      go_loopw [5, 6] (fun u c wr => ∃ i : Nat, i ≤ n0 ∧ c = .int .i64 i ∧ Nums wr w.heap.size u (P.own.take i).flatten ∧ Below w.heap.size w wr ∧ Hid (dupF [] P.own.flatten = dupF (P.own.take i).flatten (P.own.drop i).flatten)) (fun _ c _ => n0 - (intOf c).toNat)
      case atStart => exact ⟨0, Nat.zero_le _, rfl, by simpa using N1.out, B1.out, by show _ = _; simp⟩
      case round =>
        obtain ⟨i, hi, rfl, hN, hB, hD⟩ := hrel
        have HNu : Hid (Nums wr _ _ _) := hN
        have HB : Hid (Below _ w wr) := hB
        have h0 := cell_keep hB H0.out
        clear hN hB
        by_cases hlt : i < n0
        · obtain ⟨x, b, l, c, rfl, k1, k2⟩ := HO.out.at i hlt
          have HN : Hid (IsNs w b l c _) := k2
          have HK1 : Hid (w.cell? (x.add i) = some (.slice b l c)) := k1
          have k1 := cell_keep HB.out k1
          have HNL : Hid (l = (P.own.getD i []).length) := k2.len
          have hlmax : (l : Int) ≤ 9223372036854775807 := by have := k2.cap; unfold maxLen at this; omega
          have hJ : (i : Int) < (n0 : Int) := by omega
          have HLT : Hid (i < n0) := hlt
          obtain ⟨s1, s2⟩ := flat_seen P.own i (by have := HL.out; omega)
          have hns := HNu.out
          rw [s1] at hns
          have HNs : Hid (Nums wr w.heap.size _ (seenAt P.own i 0)) := hns
          have HDs : Hid (dupF [] P.own.flatten = dupF (seenAt P.own i 0) (leftAt P.own i 0)) := by show _ = _; rw [hD.out, s1, s2]
          obtain ⟨t1, t2⟩ := flat_next P.own i (by have := HL.out; omega)
          rw [← HNL.out] at t1 t2
          have T1 : Hid (_ = _) := t1
          have T2 : Hid (_ = _) := t2
          clear k2 hlt s1 s2 t1 t2 hns HNu hD
          go_wp2_with fail
          clear h0 k1
          go_loopw [5, 7] (fun u c wq => ∃ k : Nat, k ≤ l ∧ c = .int .i64 k ∧ Nums wq w.heap.size u (seenAt P.own i k) ∧ Below w.heap.size w wq ∧ Hid (dupF [] P.own.flatten = dupF (seenAt P.own i k) (leftAt P.own i k))) (fun _ c _ => l - (intOf c).toNat)
          case atStart => exact ⟨0, Nat.zero_le _, rfl, HNs.out, HB.out, HDs⟩
          case round =>
            obtain ⟨k, hk, rfl, hN, hB, hD⟩ := hrel
            have HNu : Hid (Nums wr _ _ _) := hN
            have HBq : Hid (Below _ w wr) := hB
            have h0 := cell_keep hB H0.out
            have k1 := cell_keep hB HK1.out
            have SQ : Hid (w.heap.size ≤ wr.heap.size) := hB.size
            obtain ⟨au, cu, rfl, _, _, _⟩ := hN.shape
            have HR : Hid (IsNs wr au _ cu _) := hN.read
            clear hN hB
            by_cases hkl : k < l
            · rcases HN.out with ⟨_, h1, _, _⟩ | ⟨y, rfl, h1, h2, h3, h4⟩
              · omega
              have d0 := cell_keep HBq.out (h4 k hkl)
              have hK1 : (k : Int) < (l : Int) := by omega
              have HKL : Hid (k < l) := hkl
              have DS : Hid (_ = _) := dup_step P.own i k (by have := HNL.out; omega)
              have SL : Hid ((seenAt P.own i k).length ≤ 40) := seen_len P.own i k G0.out (by have := HL.out; have := HN3.out; omega)
              have SS : Hid (seenAt P.own i (k + 1) = seenAt P.own i k ++ [(P.own.getD i []).getD k 0]) := by
                show _ = _
                unfold seenAt
                rw [take_succ_getD _ 0 k (by have := HNL.out; omega), List.append_assoc]
              clear h1 h2 h3 h4 hkl
              generalize hz : (P.own.getD i []).getD k 0 = z at *
              clear hz
              generalize hS : seenAt P.own i k = S at *
              have HS : Hid (seenAt P.own i k = S) := hS
              clear hS
              by_cases hm : z ∈ S
              · have HM : Hid (z ∈ S) := hm
                have hd : decide (z ∈ S) = true := decide_eq_true hm
                clear hm
                go_wp2_with (go_at_call 105; refine (l1_has _ _ _ _ _ _ HR.out).mono ?_; rintro e wr ⟨rfl, rfl⟩; rw [hd])
                go_ret
                rw [E2.out, hD.out, DS.out, if_pos HM.out]
                exact ⟨rfl, HBq.out⟩
              · have HM : Hid (¬ z ∈ S) := hm
                have hd : decide (z ∈ S) = false := decide_eq_false hm
                clear hm
                go_wp2_with (first
                  | (go_at_call 105; refine (l1_has _ _ _ _ _ _ HR.out).mono ?_; rintro e wr ⟨rfl, rfl⟩; rw [hd])
                  | (at_builtin; refine wp_appn _ rfl _ _ rfl w.heap.size _ _ rfl (HNu.out.keep (al (Below.refl _ _) _)) wr.heap.size 1 1 [z] rfl rfl (one_at (cell_new rfl)) (by have := SL.out; simp; omega) (by have := SQ.out; simp; omega) ?_; intro v' w' hN' hG'))
                have N' : Hid (Nums w' _ v' _) := hN'
                have B' : Hid (Below w.heap.size w w') := (al HBq.out _).grown hG' (by have := SQ.out; simp; omega) (fun k hk => (HNu.out.lt k hk).1)
                clear hN' hG'
                go_wp2_with fail
                go_roundw
                case rel => exact ⟨k + 1, by have := HKL.out; omega, by go_num, by rw [SS.out]; exact N'.out, B'.out, by show _ = _; rw [hD.out, DS.out, if_neg HM.out]⟩
                case measure => have := HKL.out; simp [intOf]; omega
            · have hK1 : ¬ (k : Int) < (l : Int) := by omega
              have HKL : Hid (k = l) := by show _ = _; omega
              clear hkl
              go_wp2_with fail
              go_roundw
              case rel =>
                have e := HKL.out
                subst e
                refine ⟨i + 1, by have := HLT.out; omega, by go_num, ?_, HBq.out, ?_⟩
                · rw [← T1.out]; exact HNu.out
                · show _ = _; rw [hD.out, T1.out, T2.out]
              case measure => have := HLT.out; simp [intOf]; omega
        · have hJ : ¬ (i : Int) < (n0 : Int) := by omega
          have HJ : Hid (i = n0) := by show _ = _; omega
          clear hlt
          go_wp2_with fail
          go_ret
          rw [E2.out, hD.out, List.drop_of_length_le (by have := HL.out; have := HJ.out; omega)]
          exact ⟨rfl, HB.out⟩
theorem any_take_step (zs : List Ln) (f : Ln → Bool) (j k : Nat) (hk : k < j) (hj : j ≤ zs.length) : ((zs.take j).drop k).any f = (f (zs.getD k lz) || ((zs.take j).drop (k + 1)).any f) := by
  rw [any_step lz (zs.take j) f k (by simp; omega)]
  have e : (zs.take j).getD k lz = zs.getD k lz := by simp [List.getD, hk]
  rw [e]
set_option maxRecDepth 20000 in
set_option maxHeartbeats 4000000 in
theorem l6_lanes (q : Nat) (P : Plc) (w : World) (h : PolAt w q P) :
    Calls Tryz.prog 78 #[.pointer (some ⟨q, 0, none⟩)] w fun e w' => e = .returned (.int .i64 (linksV P)) ∧ Below w.heap.size w w' := by
  have HP : Hid (PolAt w q P) := h
  obtain ⟨a0, n0, c0, a1, n1, c1, a2, n2, c2, a3, n3, c3, h0, h1, h2, h3, h4⟩ := h
  have HL1 : Hid (n1 = P.lanes.length) := h4.lanes.len
  have HL2 : Hid (n2 = P.bells.length) := h4.bells.len
  have HLa : Hid (IsLanes w a1 n1 c1 P.lanes) := h4.lanes
  have hmax : (n1 : Int) ≤ 9223372036854775807 := by have := h4.lanes.cap; unfold maxLen at this; omega
  have hmax2 : (n2 : Int) ≤ 9223372036854775807 := by have := h4.bells.cap; unfold maxLen at this; omega
  have H1 : Hid (w.cell? ⟨q, 1, none⟩ = some (.slice a1 n1 c1)) := h1
  clear h0 h3 h4
  by_cases hn : 4 < n1
  · have hb : (4 : Int) < n1 := by omega
    have E : Hid (linksV P = 2) := by show _ = _; have := HL1.out; simp [linksV, orV, g3V, show 4 < P.lanes.length by omega]
    clear hn
    go_enter Tryz.func78, Tryz.ntmps78
    go_wp2_with fail
    go_ret
    rw [E.out]
    exact ⟨rfl, Below.refl _ _⟩
  by_cases hm : 4 < n2
  · have hb : ¬ (4 : Int) < n1 := by omega
    have hb2 : (4 : Int) < n2 := by omega
    have E : Hid (linksV P = 2) := by show _ = _; have := HL2.out; simp [linksV, orV, g3V, show 4 < P.bells.length by omega]
    clear hn hm
    go_enter Tryz.func78, Tryz.ntmps78
    go_wp2_with fail
    go_ret
    rw [E.out]
    exact ⟨rfl, Below.refl _ _⟩
  have E : Hid (linksV P = lanesV P.own [] P.lanes) := by
    show _ = _
    have := HL1.out
    have := HL2.out
    rw [linksV, g3V, if_neg (by omega)]
    rfl
  have hb : ¬ (4 : Int) < n1 := by omega
  have hb2 : ¬ (4 : Int) < n2 := by omega
  clear hn hm
  go_enter Tryz.func78, Tryz.ntmps78
  go_wp2_with fail
  clear h1 h2
  go_loopw [3] (fun c wr => ∃ j : Nat, j ≤ n1 ∧ c = .int .i64 j ∧ Below w.heap.size w wr ∧ Hid (lanesV P.own [] P.lanes = lanesV P.own (P.lanes.take j) (P.lanes.drop j))) (fun c _ => n1 - (intOf c).toNat)
  case atStart => exact ⟨0, Nat.zero_le _, rfl, Below.refl _ _, by show _ = _; simp⟩
  case round =>
    obtain ⟨j, hj, rfl, hB, hI⟩ := hrel
    have HB : Hid (Below _ w wr) := hB
    have h1 := cell_keep hB H1.out
    clear hB
    by_cases hlt : j < n1
    · obtain ⟨x, rfl, k0, k1, k2, k3, k4⟩ := (HLa.out.stay HB.out).at j hlt
      have hJ : (j : Int) < (n1 : Int) := by omega
      have HLT : Hid (j < n1) := hlt
      have ST : Hid (_ = _) := lanes_step P.own P.lanes j (by have := HL1.out; omega)
      obtain ⟨L, hL⟩ : ∃ L, P.lanes.getD j lz = L := ⟨_, rfl⟩
      rw [hL] at k0 k1 k2 k3 k4 ST
      clear hL hlt
      have HPn : Hid (PolAt (wr.alloc (.cells #[.int .i64 L.fr, .int .i64 L.dst, .int .i64 L.pg, .int .i64 L.af, .int .i64 L.tt] 125)) q P) := (HP.out.stay HB.out).stay (al (Below.refl _ _) _)
      have HBn : Hid (Below w.heap.size w (wr.alloc (.cells #[.int .i64 L.fr, .int .i64 L.dst, .int .i64 L.pg, .int .i64 L.af, .int .i64 L.tt] 125))) := al HB.out _
      by_cases he : endsV P.own.length L.fr L.dst ≠ 0
      · have HE : Hid (laneV P.own (P.lanes.take j) L = endsV P.own.length L.fr L.dst) := by show _ = _; rw [laneV, if_neg he]
        have HE2 : Hid (¬ endsV P.own.length L.fr L.dst = 0) := he
        generalize hv : endsV P.own.length L.fr L.dst = v at *
        go_wp2_with (go_at_call 106; refine (l6_ends _ _ _ P _ HPn.out).mono ?_; rintro e wx ⟨rfl, rfl⟩; rw [hv])
        go_ret
        rw [E.out, hI.out, ST.out, HE.out, if_neg HE2.out]
        exact ⟨rfl, HBn.out⟩
      have he0 : endsV P.own.length L.fr L.dst = 0 := Decidable.not_not.1 he
      have V0 : Hid (laneV P.own (P.lanes.take j) L = if pgOk L.pg = false ∨ atOk L.af = false ∨ atOk L.tt = false then 3 else if 0 ≤ ownerFrom 0 P.own L.pg then 6 else if (P.lanes.take j).any (fun o => meetV o L) then 6 else 0) := by
        show _ = _
        rw [laneV, if_pos he0]
      clear he
      by_cases hp : pgOk L.pg = false
      · have HP1 : Hid ((decide ((0 : Int) ≤ L.pg) && decide (L.pg ≤ 23)) = false) := hp
        have V1 : Hid (laneV P.own (P.lanes.take j) L = 3) := by show _ = _; rw [V0.out, if_pos (.inl hp)]
        go_wp2_with (first
          | (go_at_call 106; refine (l6_ends _ _ _ P _ HPn.out).mono ?_; rintro e wx ⟨rfl, rfl⟩; rw [he0])
          | (go_at_call 42; refine (l1_in _ _ _ _).mono ?_; rintro e wx ⟨rfl, rfl⟩; rw [HP1.out]))
        go_ret
        rw [E.out, hI.out, ST.out, V1.out]
        exact ⟨rfl, HBn.out⟩
      rw [Bool.not_eq_false] at hp
      have HP1 : Hid ((decide ((0 : Int) ≤ L.pg) && decide (L.pg ≤ 23)) = true) := hp
      by_cases ha : atOk L.af = false
      · have HA1 : Hid ((decide ((5 : Int) ≤ L.af) && decide (L.af ≤ 6)) = false) := ha
        have V1 : Hid (laneV P.own (P.lanes.take j) L = 3) := by show _ = _; rw [V0.out, if_pos (.inr (.inl ha))]
        go_wp2_with (first
          | (go_at_call 106; refine (l6_ends _ _ _ P _ HPn.out).mono ?_; rintro e wx ⟨rfl, rfl⟩; rw [he0])
          | (go_at_call 42; refine (l1_in _ _ _ _).mono ?_; rintro e wx ⟨rfl, rfl⟩; first | rw [HP1.out] | rw [HA1.out]))
        go_ret
        rw [E.out, hI.out, ST.out, V1.out]
        exact ⟨rfl, HBn.out⟩
      rw [Bool.not_eq_false] at ha
      have HA1 : Hid ((decide ((5 : Int) ≤ L.af) && decide (L.af ≤ 6)) = true) := ha
      by_cases ht : atOk L.tt = false
      · have HT1 : Hid ((decide ((5 : Int) ≤ L.tt) && decide (L.tt ≤ 6)) = false) := ht
        have V1 : Hid (laneV P.own (P.lanes.take j) L = 3) := by show _ = _; rw [V0.out, if_pos (.inr (.inr ht))]
        go_wp2_with (first
          | (go_at_call 106; refine (l6_ends _ _ _ P _ HPn.out).mono ?_; rintro e wx ⟨rfl, rfl⟩; rw [he0])
          | (go_at_call 42; refine (l1_in _ _ _ _).mono ?_; rintro e wx ⟨rfl, rfl⟩; first | rw [HP1.out] | rw [HA1.out] | rw [HT1.out]))
        go_ret
        rw [E.out, hI.out, ST.out, V1.out]
        exact ⟨rfl, HBn.out⟩
      rw [Bool.not_eq_false] at ht
      have HT1 : Hid ((decide ((5 : Int) ≤ L.tt) && decide (L.tt ≤ 6)) = true) := ht
      have V2 : Hid (laneV P.own (P.lanes.take j) L = if 0 ≤ ownerFrom 0 P.own L.pg then 6 else if (P.lanes.take j).any (fun o => meetV o L) then 6 else 0) := by
        show _ = _
        rw [V0.out, if_neg (by rw [hp, ha, ht]; simp)]
      clear V0
      by_cases ho : 0 ≤ ownerFrom 0 P.own L.pg
      · have V1 : Hid (laneV P.own (P.lanes.take j) L = 6) := by show _ = _; rw [V2.out, if_pos ho]
        generalize hv : ownerFrom 0 P.own L.pg = v at *
        go_wp2_with (first
          | (go_at_call 106; refine (l6_ends _ _ _ P _ HPn.out).mono ?_; rintro e wx ⟨rfl, rfl⟩; rw [he0])
          | (go_at_call 42; refine (l1_in _ _ _ _).mono ?_; rintro e wx ⟨rfl, rfl⟩; first | rw [HP1.out] | rw [HA1.out] | rw [HT1.out])
          | (go_at_call 107; refine (l6_owner _ _ P _ HPn.out).mono ?_; rintro e wx ⟨rfl, rfl⟩; rw [hv]))
        go_ret
        rw [E.out, hI.out, ST.out, V1.out]
        exact ⟨rfl, HBn.out⟩
      have V3 : Hid (laneV P.own (P.lanes.take j) L = if (P.lanes.take j).any (fun o => meetV o L) then 6 else 0) := by
        show _ = _
        rw [V2.out, if_neg ho]
      clear V2
      have q0 : (wr.alloc (.cells #[.int .i64 L.fr, .int .i64 L.dst, .int .i64 L.pg, .int .i64 L.af, .int .i64 L.tt] 125)).cell? ⟨wr.heap.size, 0, none⟩ = some (.int .i64 L.fr) := cell_new rfl
      have q1 : (wr.alloc (.cells #[.int .i64 L.fr, .int .i64 L.dst, .int .i64 L.pg, .int .i64 L.af, .int .i64 L.tt] 125)).cell? ⟨wr.heap.size, 1, none⟩ = some (.int .i64 L.dst) := cell_new rfl
      have q2 : (wr.alloc (.cells #[.int .i64 L.fr, .int .i64 L.dst, .int .i64 L.pg, .int .i64 L.af, .int .i64 L.tt] 125)).cell? ⟨wr.heap.size, 2, none⟩ = some (.int .i64 L.pg) := cell_new rfl
      have q3 : (wr.alloc (.cells #[.int .i64 L.fr, .int .i64 L.dst, .int .i64 L.pg, .int .i64 L.af, .int .i64 L.tt] 125)).cell? ⟨wr.heap.size, 3, none⟩ = some (.int .i64 L.af) := cell_new rfl
      have q4 : (wr.alloc (.cells #[.int .i64 L.fr, .int .i64 L.dst, .int .i64 L.pg, .int .i64 L.af, .int .i64 L.tt] 125)).cell? ⟨wr.heap.size, 4, none⟩ = some (.int .i64 L.tt) := cell_new rfl
      have Q : Hid (_ ∧ _ ∧ _ ∧ _ ∧ _) := ⟨q0, q1, q2, q3, q4⟩
      clear q0 q1 q2 q3 q4
      generalize hv : ownerFrom 0 P.own L.pg = v at *
      go_wp2_with (first
        | (go_at_call 106; refine (l6_ends _ _ _ P _ HPn.out).mono ?_; rintro e wx ⟨rfl, rfl⟩; rw [he0])
        | (go_at_call 42; refine (l1_in _ _ _ _).mono ?_; rintro e wx ⟨rfl, rfl⟩; first | rw [HP1.out] | rw [HA1.out] | rw [HT1.out])
        | (go_at_call 107; refine (l6_owner _ _ P _ HPn.out).mono ?_; rintro e wx ⟨rfl, rfl⟩; rw [hv]))
      generalize wr.alloc (.cells #[.int .i64 L.fr, .int .i64 L.dst, .int .i64 L.pg, .int .i64 L.af, .int .i64 L.tt] 125) = W1 at *
      clear k0 k1 k2 k3 k4 h1 hp ha ht ho hv he0
      generalize wr.heap.size = B at *
      clear HB
      go_loopw [6] (fun c wq => ∃ k : Nat, k ≤ j ∧ c = .int .i64 k ∧ Below W1.heap.size W1 wq ∧ Hid ((P.lanes.take j).any (fun o => meetV o L) = ((P.lanes.take j).drop k).any (fun o => meetV o L))) (fun c _ => j - (intOf c).toNat)
      case atStart => exact ⟨0, Nat.zero_le _, rfl, Below.refl _ _, by show _ = _; simp⟩
      case round =>
        obtain ⟨k, hk, rfl, hB, hK⟩ := hrel
        have HBq : Hid (Below _ W1 wr) := hB
        have HBw : Hid (Below _ w wr) := on HBn.out hB
        obtain ⟨q0, q1, q2, q3, q4⟩ := Q.out
        have q0 := cell_keep hB q0
        have q1 := cell_keep hB q1
        have q2 := cell_keep hB q2
        have q3 := cell_keep hB q3
        have q4 := cell_keep hB q4
        have h1 := cell_keep HBw.out H1.out
        have bB : B < wr.heap.size := block_of_cell q0
        clear hB
        by_cases hkj : k < j
        · have hK1 : (k : Int) < (j : Int) := by omega
          obtain ⟨x, hx, k0, k1, k2, k3, k4⟩ := (HLa.out.stay HBw.out).at k (by have := HLT.out; omega)
          cases hx
          have hkn : (k : Int) < (n1 : Int) := by have := HLT.out; omega
          have HKJ : Hid (k < j) := hkj
          have SA : Hid (_ = _) := any_take_step P.lanes (fun o => meetV o L) j k hkj (by have := HLT.out; have := HL1.out; omega)
          obtain ⟨O, hO⟩ : ∃ O, P.lanes.getD k lz = O := ⟨_, rfl⟩
          rw [hO] at k0 k1 k2 k3 k4 SA
          clear hO hkj
          have HBn2 : Hid (Below w.heap.size w (wr.alloc (.cells #[.int .i64 O.fr, .int .i64 O.dst, .int .i64 O.pg, .int .i64 O.af, .int .i64 O.tt] 125))) := al HBw.out _
          have HBn3 : Hid (Below W1.heap.size W1 (wr.alloc (.cells #[.int .i64 O.fr, .int .i64 O.dst, .int .i64 O.pg, .int .i64 O.af, .int .i64 O.tt] 125))) := al HBq.out _
          have MV : Hid (meetV O L = (decide (O.pg = L.pg) || usesV O L.fr L.af || usesV O L.dst L.tt)) := rfl
          by_cases hpg : O.pg = L.pg
          · have V4 : Hid (laneV P.own (P.lanes.take j) L = 6) := by
              show _ = _
              rw [V3.out, hK.out, SA.out, if_pos (by simp [meetV, hpg])]
            go_wp2_with fail
            go_ret
            rw [E.out, hI.out, ST.out, V4.out]
            exact ⟨rfl, al HBw.out _⟩
          by_cases hu : usesV O L.fr L.af = true
          · have V4 : Hid (laneV P.own (P.lanes.take j) L = 6) := by
              show _ = _
              rw [V3.out, hK.out, SA.out, if_pos (by simp [meetV, hu])]
            go_wp2_with (go_at_call 108; refine (l6_at O _ _ _).mono ?_; rintro e wx ⟨rfl, rfl⟩; rw [hu])
            go_ret
            rw [E.out, hI.out, ST.out, V4.out]
            exact ⟨rfl, al HBn2.out _⟩
          rw [Bool.not_eq_true] at hu
          by_cases hu2 : usesV O L.dst L.tt = true
          · have V4 : Hid (laneV P.own (P.lanes.take j) L = 6) := by
              show _ = _
              rw [V3.out, hK.out, SA.out, if_pos (by simp [meetV, hu2])]
            go_wp2_with (go_at_call 108; refine (l6_at O _ _ _).mono ?_; rintro e wx ⟨rfl, rfl⟩; first | rw [hu] | rw [hu2])
            go_ret
            rw [E.out, hI.out, ST.out, V4.out]
            exact ⟨rfl, al (al HBn2.out _) _⟩
          rw [Bool.not_eq_true] at hu2
          have M0 : Hid (meetV O L = false) := by show _ = _; rw [MV.out, hu, hu2]; simp [hpg]
          go_wp2_with (go_at_call 108; refine (l6_at O _ _ _).mono ?_; rintro e wx ⟨rfl, rfl⟩; first | rw [hu] | rw [hu2])
          go_roundw
          case rel => exact ⟨k + 1, by have := HKJ.out; omega, by go_num, al (al HBn3.out _) _, by show _ = _; rw [hK.out, SA.out, M0.out, Bool.false_or]⟩
          case measure => have := HKJ.out; simp [intOf]; omega
        · have hK1 : ¬ (k : Int) < (j : Int) := by omega
          have HKJ : Hid (k = j) := by show _ = _; omega
          clear hkj
          have V4 : Hid (laneV P.own (P.lanes.take j) L = 0) := by
            show _ = _
            rw [V3.out, hK.out, List.drop_of_length_le (by have := HKJ.out; simp; omega)]
            simp
          go_wp2_with fail
          go_roundw
          case rel => exact ⟨j + 1, by have := HLT.out; omega, by go_num, HBw.out, by show _ = _; rw [hI.out, ST.out, V4.out]; simp⟩
          case measure => have := HLT.out; simp [intOf]; omega
    · have hJ : ¬ (j : Int) < (n1 : Int) := by omega
      have HJ : Hid (j = n1) := by show _ = _; omega
      clear hlt
      go_wp2_with fail
      go_ret
      rw [E.out, hI.out, List.drop_of_length_le (by have := HL1.out; have := HJ.out; omega)]
      exact ⟨rfl, HB.out⟩
theorem code_nil (w : World) : Calls Tryz.prog 85 #[.nilIface] w fun e w' => e = .returned (.int .i64 0) ∧ Below w.heap.size w w' := by
  go_enter Tryz.func85, Tryz.ntmps85
  go_wp2_with (go_at_call 109; refine (as_nil _ _).mono ?_; rintro e w' ⟨rfl, rfl⟩)
  go_ret
  exact ⟨rfl, al (Below.refl _ _) _⟩
set_option maxHeartbeats 1000000 in
theorem code_hit (c : Int) (w : World) (hg : w.cell? ⟨0, 0, none⟩ = some (.iface 200 (.agg #[.pointer (some ⟨1, 136, none⟩)]))) :
    Calls Tryz.prog 85 #[.iface 165 (.agg #[.int .i64 c])] w fun e w' => e = .returned (.int .i64 c) ∧ Below w.heap.size w w' := by
  have hgA : Hid (_ = _) := cell_push (.cells #[.int .i64 0] 165) hg
  have htA : Hid ((w.alloc (.cells #[.int .i64 0] 165)).cell? ⟨w.heap.size, 0, none⟩ = some (.int .i64 0)) := cell_new rfl
  have hfA : Hid ((w.alloc (.cells #[.int .i64 0] 165)).frozen? ⟨w.heap.size, 0, none⟩ = false) := by show _ = _; simp
  clear hg
  have AS : Calls Tryz.prog 109 #[.iface 165 (.agg #[.int .i64 c]), .iface 167 (.pointer (some ⟨w.heap.size, 0, none⟩))] (w.alloc (.cells #[.int .i64 0] 165)) fun e w' => e = .returned (.bool true) ∧ w'.cell? ⟨w.heap.size, 0, none⟩ = some (.int .i64 c) ∧ Below w.heap.size w w' := (as_hit c ⟨w.heap.size, 0, none⟩ (.int .i64 0) (w.alloc (.cells #[.int .i64 0] 165)) hgA.out htA.out hfA.out).mono (by
    rintro e w' ⟨h1, w1, b1, rfl⟩
    exact ⟨h1, World.cell?_setCell_same _ _ _ (cell_keep b1 htA.out), (on (al (Below.refl _ _) _) b1).setCell (by simp) _⟩)
  go_enter Tryz.func85, Tryz.ntmps85
  go_wp2_with (go_at_call 109; refine AS.mono ?_; rintro e w' ⟨rfl, k1, B1⟩)
  go_ret
  exact ⟨rfl, B1⟩
theorem mem_take_step (zs : List (Int × Int)) (b : Int × Int) (j k : Nat) (hk : k < j) (hj : j ≤ zs.length) : (b ∈ (zs.take j).drop k) ↔ (zs.getD k (0, 0) = b ∨ b ∈ (zs.take j).drop (k + 1)) := by
  rw [drop_cons_getD (zs.take j) (0, 0) k (by simp; omega), List.mem_cons]
  have e : (zs.take j).getD k (0, 0) = zs.getD k (0, 0) := by simp [List.getD, hk]
  rw [e]
  constructor
  · rintro (h | h)
    · exact .inl h.symm
    · exact .inr h
  · rintro (h | h)
    · exact .inl h.symm
    · exact .inr h
set_option maxRecDepth 20000 in
set_option maxHeartbeats 4000000 in
theorem l6_rest (q : Nat) (P : Plc) (w : World) (h : PolAt w q P) :
    Calls Tryz.prog 79 #[.pointer (some ⟨q, 0, none⟩)] w fun e w' => e = .returned (.int .i64 (restV P)) ∧ Below w.heap.size w w' := by
  have HP : Hid (PolAt w q P) := h
  obtain ⟨a0, n0, c0, a1, n1, c1, a2, n2, c2, a3, n3, c3, h0, h1, h2, h3, h4⟩ := h
  have HL2 : Hid (n2 = P.bells.length) := h4.bells.len
  have HL3 : Hid (n3 = P.plan.length) := h4.plan.len
  have HBe : Hid (IsPairs w a2 n2 c2 P.bells) := h4.bells
  have HPl : Hid (IsPairs w a3 n3 c3 P.plan) := h4.plan
  have hmax2 : (n2 : Int) ≤ 9223372036854775807 := by have := h4.bells.cap; unfold maxLen at this; omega
  have hmax3 : (n3 : Int) ≤ 9223372036854775807 := by have := h4.plan.cap; unfold maxLen at this; omega
  have H2 : Hid (w.cell? ⟨q, 2, none⟩ = some (.slice a2 n2 c2)) := h2
  have H3 : Hid (w.cell? ⟨q, 3, none⟩ = some (.slice a3 n3 c3)) := h3
  clear h0 h1 h2 h3 h4
  go_enter Tryz.func79, Tryz.ntmps79
  go_wp2_with fail
  go_loopw [3] (fun c wr => ∃ j : Nat, j ≤ n2 ∧ c = .int .i64 j ∧ Below w.heap.size w wr ∧ Hid (bellsV P.own.length [] P.bells = bellsV P.own.length (P.bells.take j) (P.bells.drop j))) (fun c _ => n2 - (intOf c).toNat)
  case atStart => exact ⟨0, Nat.zero_le _, rfl, Below.refl _ _, by show _ = _; simp⟩
  case round =>
    obtain ⟨j, hj, rfl, hB, hI⟩ := hrel
    have HB : Hid (Below _ w wr) := hB
    have h2 := cell_keep hB H2.out
    clear hB
    by_cases hlt : j < n2
    · obtain ⟨x, rfl, k0, k1⟩ := (HBe.out.stay HB.out).at j hlt
      have hJ : (j : Int) < (n2 : Int) := by omega
      have HLT : Hid (j < n2) := hlt
      have ST : Hid (_ = _) := bells_step P.own.length P.bells j (by have := HL2.out; omega)
      obtain ⟨⟨f, t⟩, hL⟩ : ∃ L, P.bells.getD j (0, 0) = L := ⟨_, rfl⟩
      rw [hL] at k0 k1 ST
      simp only at k0 k1
      clear hL hlt
      have HPn : Hid (PolAt (wr.alloc (.cells #[.int .i64 f, .int .i64 t] 129)) q P) := (HP.out.stay HB.out).stay (al (Below.refl _ _) _)
      have HBn : Hid (Below w.heap.size w (wr.alloc (.cells #[.int .i64 f, .int .i64 t] 129))) := al HB.out _
      by_cases he : endsV P.own.length f t ≠ 0
      · have HE : Hid (bellV P.own.length (P.bells.take j) (f, t) = endsV P.own.length f t) := by show _ = _; rw [bellV, if_neg he]
        have HE2 : Hid (¬ endsV P.own.length f t = 0) := he
        have RV : Hid (restV P = endsV P.own.length f t) := by
          show _ = _
          rw [restV, hI.out, ST.out, HE.out, if_neg HE2.out, orV, if_neg HE2.out]
        generalize hv : endsV P.own.length f t = v at *
        go_wp2_with (go_at_call 106; refine (l6_ends _ _ _ P _ HPn.out).mono ?_; rintro e wx ⟨rfl, rfl⟩; rw [hv])
        go_ret
        rw [RV.out]
        exact ⟨rfl, HBn.out⟩
      have he0 : endsV P.own.length f t = 0 := Decidable.not_not.1 he
      have V0 : Hid (bellV P.own.length (P.bells.take j) (f, t) = if (f, t) ∈ P.bells.take j then 6 else 0) := by show _ = _; rw [bellV, if_pos he0]
      clear he
      have q0 : (wr.alloc (.cells #[.int .i64 f, .int .i64 t] 129)).cell? ⟨wr.heap.size, 0, none⟩ = some (.int .i64 f) := cell_new rfl
      have q1 : (wr.alloc (.cells #[.int .i64 f, .int .i64 t] 129)).cell? ⟨wr.heap.size, 1, none⟩ = some (.int .i64 t) := cell_new rfl
      have Q : Hid (_ ∧ _) := ⟨q0, q1⟩
      clear q0 q1
      go_wp2_with (go_at_call 106; refine (l6_ends _ _ _ P _ HPn.out).mono ?_; rintro e wx ⟨rfl, rfl⟩; rw [he0])
      generalize wr.alloc (.cells #[.int .i64 f, .int .i64 t] 129) = W1 at *
      clear k0 k1 h2 he0
      generalize wr.heap.size = B at *
      clear HB
      go_loopw [6] (fun c wq => ∃ k : Nat, k ≤ j ∧ c = .int .i64 k ∧ Below W1.heap.size W1 wq ∧ Hid (((f, t) ∈ P.bells.take j) ↔ ((f, t) ∈ (P.bells.take j).drop k))) (fun c _ => j - (intOf c).toNat)
      case atStart => exact ⟨0, Nat.zero_le _, rfl, Below.refl _ _, by show _ ↔ _; simp⟩
      case round =>
        obtain ⟨k, hk, rfl, hB, hK⟩ := hrel
        have HBq : Hid (Below _ W1 wr) := hB
        have HBw : Hid (Below _ w wr) := on HBn.out hB
        obtain ⟨q0, q1⟩ := Q.out
        have q0 := cell_keep hB q0
        have q1 := cell_keep hB q1
        have h2 := cell_keep HBw.out H2.out
        have bB : B < wr.heap.size := block_of_cell q0
        clear hB
        by_cases hkj : k < j
        · have hK1 : (k : Int) < (j : Int) := by omega
          obtain ⟨x, hx, k0, k1⟩ := (HBe.out.stay HBw.out).at k (by have := HLT.out; omega)
          cases hx
          have hkn : (k : Int) < (n2 : Int) := by have := HLT.out; omega
          have HKJ : Hid (k < j) := hkj
          have SA : Hid (_ ↔ _) := mem_take_step P.bells (f, t) j k hkj (by have := HLT.out; have := HL2.out; omega)
          obtain ⟨⟨o1, o2⟩, hO⟩ : ∃ O, P.bells.getD k (0, 0) = O := ⟨_, rfl⟩
          rw [hO] at k0 k1 SA
          simp only at k0 k1
          clear hO hkj
          by_cases hq : o1 = f ∧ o2 = t
          · obtain ⟨rfl, rfl⟩ := hq
            have RV : Hid (restV P = 6) := by
              show _ = _
              rw [restV, hI.out, ST.out, V0.out, if_pos (hK.out.2 (SA.out.2 (.inl rfl)))]
              rfl
            go_wp2_with fail
            go_quiet (fail)
            go_wp2_with fail
            go_ret
            rw [RV.out]
            exact ⟨rfl, dr HBw.out _⟩
          · have HQ : Hid (¬ (o1 = f ∧ o2 = t)) := hq
            by_cases h1 : o1 = f
            · have h2 : ¬ o2 = t := fun h2 => hq ⟨h1, h2⟩
              clear hq
              go_wp2_with fail
              go_quiet (fail)
              go_wp2_with fail
              go_roundw
              case rel => exact ⟨k + 1, by have := HKJ.out; omega, by go_num, dr HBq.out _, by show _ ↔ _; rw [hK.out, SA.out]; constructor; exact fun h => h.elim (fun e => absurd ⟨congrArg Prod.fst e, congrArg Prod.snd e⟩ HQ.out) id; exact .inr⟩
              case measure => have := HKJ.out; simp [intOf]; omega
            · clear hq
              go_wp2_with fail
              go_quiet (fail)
              go_wp2_with fail
              go_roundw
              case rel => exact ⟨k + 1, by have := HKJ.out; omega, by go_num, dr HBq.out _, by show _ ↔ _; rw [hK.out, SA.out]; constructor; exact fun h => h.elim (fun e => absurd ⟨congrArg Prod.fst e, congrArg Prod.snd e⟩ HQ.out) id; exact .inr⟩
              case measure => have := HKJ.out; simp [intOf]; omega
        · have hK1 : ¬ (k : Int) < (j : Int) := by omega
          have HKJ : Hid (k = j) := by show _ = _; omega
          clear hkj
          have V4 : Hid (bellV P.own.length (P.bells.take j) (f, t) = 0) := by
            show _ = _
            rw [V0.out, if_neg]
            rw [hK.out, List.drop_of_length_le (by have := HKJ.out; simp; omega)]
            simp
          go_wp2_with fail
          go_roundw
          case rel => exact ⟨j + 1, by have := HLT.out; omega, by go_num, HBw.out, by show _ = _; rw [hI.out, ST.out, V4.out]; simp⟩
          case measure => have := HLT.out; simp [intOf]; omega
    · have hJ : ¬ (j : Int) < (n2 : Int) := by omega
      have HJ : Hid (j = n2) := by show _ = _; omega
      have RV : Hid (restV P = g6V P) := by
        show _ = _
        rw [restV, hI.out, List.drop_of_length_le (by have := HL2.out; have := HJ.out; omega)]
        rfl
      have h3 := cell_keep HB.out H3.out
      clear hlt
      by_cases hn : n3 < 1
      · have hb : (n3 : Int) < 1 := by omega
        have RV2 : Hid (restV P = 2) := by show _ = _; rw [RV.out, g6V, if_pos (.inl (by have := HL3.out; omega))]
        clear hn
        go_wp2_with fail
        go_ret
        rw [RV2.out]
        exact ⟨rfl, HB.out⟩
      by_cases hm : 8 < n3
      · have hb : ¬ (n3 : Int) < 1 := by omega
        have hb2 : (8 : Int) < n3 := by omega
        have RV2 : Hid (restV P = 2) := by show _ = _; rw [RV.out, g6V, if_pos (.inr (by have := HL3.out; omega))]
        clear hn hm
        go_wp2_with fail
        go_ret
        rw [RV2.out]
        exact ⟨rfl, HB.out⟩
      have RV2 : Hid (restV P = slotsV P.own.length P.plan) := by show _ = _; rw [RV.out, g6V, if_neg (by have := HL3.out; omega)]
      have hb : ¬ (n3 : Int) < 1 := by omega
      have hb2 : ¬ (8 : Int) < n3 := by omega
      have HPw : Hid (PolAt wr q P) := HP.out.stay HB.out
      have HPlw : Hid (IsPairs wr a3 n3 c3 P.plan) := HPl.out.stay HB.out
      clear hn hm
      go_wp2_with fail
      go_loop [7] (fun c => ∃ i : Nat, i ≤ n3 ∧ c = .int .i64 i ∧ Hid (slotsV P.own.length P.plan = slotsV P.own.length (P.plan.drop i))) (fun c => n3 - (intOf c).toNat)
      case atStart => exact ⟨0, Nat.zero_le _, rfl, by show _ = _; simp⟩
      case round =>
        obtain ⟨i, hi, rfl, hS⟩ := hrel
        by_cases hlt : i < n3
        · obtain ⟨x, rfl, k0, k1⟩ := HPlw.out.at i hlt
          have hJ : (i : Int) < (n3 : Int) := by omega
          have HLT : Hid (i < n3) := hlt
          have SS : Hid (_ = _) := slots_step P.own.length P.plan i (by have := HL3.out; omega)
          obtain ⟨⟨g, s⟩, hL⟩ : ∃ L, P.plan.getD i (0, 0) = L := ⟨_, rfl⟩
          rw [hL] at k0 k1 SS
          simp only at k0 k1
          clear hL hlt
          by_cases hg : isG P.own.length g = false
          · have RV3 : Hid (restV P = 4) := by
              show _ = _
              have e : slotV P.own.length (g, s) = 4 := by rw [slotV, if_pos hg]
              rw [RV2.out, hS.out, SS.out, e, if_neg (by decide)]
            go_wp2_with (go_at_call 20; refine (l6_guest _ _ P _ HPw.out).mono ?_; rintro e wx ⟨rfl, rfl⟩; rw [hg])
            go_ret
            rw [RV3.out]
            exact ⟨rfl, HB.out⟩
          rw [Bool.not_eq_false] at hg
          by_cases hs : stOk s = false
          · have RV3 : Hid (restV P = 3) := by
              show _ = _
              have e : slotV P.own.length (g, s) = 3 := by rw [slotV, if_neg (by rw [hg]; simp), if_pos hs]
              rw [RV2.out, hS.out, SS.out, e, if_neg (by decide)]
            go_wp2_with (first
              | (go_at_call 20; refine (l6_guest _ _ P _ HPw.out).mono ?_; rintro e wx ⟨rfl, rfl⟩; rw [hg])
              | (go_at_call 42; refine (l1_st _ _).mono ?_; rintro e wx ⟨rfl, rfl⟩; rw [hs]))
            go_ret
            rw [RV3.out]
            exact ⟨rfl, HB.out⟩
          rw [Bool.not_eq_false] at hs
          have V5 : Hid (slotV P.own.length (g, s) = 0) := by show _ = _; rw [slotV, if_neg (by rw [hg]; simp), if_neg (by rw [hs]; simp)]
          go_wp2_with (first
            | (go_at_call 20; refine (l6_guest _ _ P _ HPw.out).mono ?_; rintro e wx ⟨rfl, rfl⟩; rw [hg])
            | (go_at_call 42; refine (l1_st _ _).mono ?_; rintro e wx ⟨rfl, rfl⟩; rw [hs]))
          go_round
          case rel => exact ⟨i + 1, by have := HLT.out; omega, by go_num, by show _ = _; rw [hS.out, SS.out, V5.out]; simp⟩
          case measure => have := HLT.out; simp [intOf]; omega
        · have hJ : ¬ (i : Int) < (n3 : Int) := by omega
          have HJ : Hid (i = n3) := by show _ = _; omega
          clear hlt
          go_wp2_with fail
          go_ret
          rw [RV2.out, hS.out, List.drop_of_length_le (by have := HL3.out; have := HJ.out; omega)]
          exact ⟨rfl, HB.out⟩
theorem l6_fault (q : Nat) (P : Plc) (w : World) (h : PolAt w q P) :
    Calls Tryz.prog 39 #[.pointer (some ⟨q, 0, none⟩)] w fun e w' => e = .returned (.int .i64 (pfV P)) ∧ Below w.heap.size w w' := by
  have HP : Hid (PolAt w q P) := h
  clear h
  by_cases h1 : ownsV P = 0
  · by_cases h2 : linksV P = 0
    · have E : Hid (pfV P = restV P) := by show _ = _; rw [pfV, orV, if_pos h1, orV, if_pos h2]
      go_enter Tryz.func39, Tryz.ntmps39
      go_wp2_with (go_at_call 77; refine (l6_owns _ P _ HP.out).mono ?_; rintro e w1 ⟨rfl, b1⟩; rw [h1])
      go_wp2_with (go_at_call 78; refine (l6_lanes _ P _ (HP.out.stay b1)).mono ?_; rintro e w2 ⟨rfl, b2⟩; rw [h2])
      have B2 := on b1 b2
      go_wp2_with (go_at_call 79; refine (l6_rest _ P _ (HP.out.stay B2)).mono ?_; rintro e w3 ⟨rfl, b3⟩)
      go_ret
      rw [E.out]
      exact ⟨rfl, on B2 b3⟩
    · have E : Hid (pfV P = linksV P) := by show _ = _; rw [pfV, orV, if_pos h1, orV, if_neg h2]
      have H2 : Hid (¬ linksV P = 0) := h2
      go_enter Tryz.func39, Tryz.ntmps39
      go_wp2_with (go_at_call 77; refine (l6_owns _ P _ HP.out).mono ?_; rintro e w1 ⟨rfl, b1⟩; rw [h1])
      go_wp2_with (go_at_call 78; refine (l6_lanes _ P _ (HP.out.stay b1)).mono ?_; rintro e w2 ⟨rfl, b2⟩)
      go_ret
      rw [E.out]
      exact ⟨rfl, on b1 b2⟩
  · have E : Hid (pfV P = ownsV P) := by show _ = _; rw [pfV, orV, if_neg h1]
    go_enter Tryz.func39, Tryz.ntmps39
    go_wp2_with (go_at_call 77; refine (l6_owns _ P _ HP.out).mono ?_; rintro e w1 ⟨rfl, b1⟩)
    go_ret
    rw [E.out]
    exact ⟨rfl, b1⟩
theorem i_hostPage (x : Int) (w : World) : Calls Tryz.prog 124 #[.int .i64 x] w fun e w' => e = .returned (.bool (pgOk x)) ∧ w' = w := by
  by_cases h : 0 ≤ x
  · go_enter Tryz.func124, Tryz.ntmps124
    go_wp2
    go_ret
    exact ⟨congrArg (fun b => Ending.returned (.bool b)) (by apply Bool.eq_iff_iff.2; simp [pgOk]; omega), rfl⟩
  · go_enter Tryz.func124, Tryz.ntmps124
    go_wp2
    go_ret
    exact ⟨congrArg (fun b => Ending.returned (.bool b)) (by apply Bool.eq_iff_iff.2; simp [pgOk]; omega), rfl⟩
theorem i_lanePlace (x : Int) (w : World) : Calls Tryz.prog 126 #[.int .i64 x] w fun e w' => e = .returned (.bool (atOk x)) ∧ w' = w := by
  by_cases h : 5 ≤ x
  · go_enter Tryz.func126, Tryz.ntmps126
    go_wp2
    go_ret
    exact ⟨congrArg (fun b => Ending.returned (.bool b)) (by apply Bool.eq_iff_iff.2; simp [atOk]; omega), rfl⟩
  · go_enter Tryz.func126, Tryz.ntmps126
    go_wp2
    go_ret
    exact ⟨congrArg (fun b => Ending.returned (.bool b)) (by apply Bool.eq_iff_iff.2; simp [atOk]; omega), rfl⟩
theorem i_guest (a0 a1 a2 a3 : Option Addr) (n0 c0 n1 c1 n2 c2 n3 c3 : Nat) (g : Int) (w : World) (hmax : (n0 : Int) ≤ 9223372036854775807) :
    Calls Tryz.prog 26 #[.agg #[.slice a0 n0 c0, .slice a1 n1 c1, .slice a2 n2 c2, .slice a3 n3 c3], .int .i64 g] w fun e w' => e = .returned (.bool (isG n0 g)) ∧ w' = w.alloc (.cells #[.slice a0 n0 c0, .slice a1 n1 c1, .slice a2 n2 c2, .slice a3 n3 c3] 37) := by
  by_cases h : 0 ≤ g
  · go_enter Tryz.func26, Tryz.ntmps26
    go_wp2
    go_ret
    exact ⟨congrArg (fun b => Ending.returned (.bool b)) (by apply Bool.eq_iff_iff.2; simp [isG]; omega), rfl⟩
  · go_enter Tryz.func26, Tryz.ntmps26
    go_wp2
    go_ret
    exact ⟨congrArg (fun b => Ending.returned (.bool b)) (by apply Bool.eq_iff_iff.2; simp [isG]; omega), rfl⟩
def errV (c : Int) : Value := if c = 0 then .nilIface else .iface 165 (.agg #[.int .i64 c])
set_option maxHeartbeats 1000000 in
theorem i_ends (a0 a1 a2 a3 : Option Addr) (n0 c0 n1 c1 n2 c2 n3 c3 : Nat) (f t : Int) (w : World) (hmax : (n0 : Int) ≤ 9223372036854775807) :
    Calls Tryz.prog 125 #[.agg #[.slice a0 n0 c0, .slice a1 n1 c1, .slice a2 n2 c2, .slice a3 n3 c3], .int .i64 f, .int .i64 t] w fun e w' => e = .returned (errV (endsV n0 f t)) ∧ Below w.heap.size w w' := by
  have HM : Hid ((n0 : Int) ≤ 9223372036854775807) := hmax
  unfold endsV
  by_cases h1 : isG n0 f = true
  · by_cases h2 : isG n0 t = true
    · rw [if_neg (by simp [h1, h2])]
      by_cases h3 : f = t
      · rw [if_pos h3]
        go_enter Tryz.func125, Tryz.ntmps125
        go_wp2_with (go_at_call 26; refine (i_guest _ _ _ _ _ _ _ _ _ _ _ _ _ _ HM.out).mono ?_; rintro e w1 ⟨rfl, rfl⟩; first | rw [h1] | rw [h2])
        go_ret
        exact ⟨rfl, al (al (al (Below.refl _ _) _) _) _⟩
      · rw [if_neg h3]
        go_enter Tryz.func125, Tryz.ntmps125
        go_wp2_with (go_at_call 26; refine (i_guest _ _ _ _ _ _ _ _ _ _ _ _ _ _ HM.out).mono ?_; rintro e w1 ⟨rfl, rfl⟩; first | rw [h1] | rw [h2])
        go_ret
        exact ⟨rfl, al (al (al (Below.refl _ _) _) _) _⟩
    · rw [Bool.not_eq_true] at h2
      rw [if_pos (.inr h2)]
      go_enter Tryz.func125, Tryz.ntmps125
      go_wp2_with (go_at_call 26; refine (i_guest _ _ _ _ _ _ _ _ _ _ _ _ _ _ HM.out).mono ?_; rintro e w1 ⟨rfl, rfl⟩; first | rw [h1] | rw [h2])
      go_ret
      exact ⟨rfl, al (al (al (Below.refl _ _) _) _) _⟩
  · rw [Bool.not_eq_true] at h1
    rw [if_pos (.inl h1)]
    go_enter Tryz.func125, Tryz.ntmps125
    go_wp2_with (go_at_call 26; refine (i_guest _ _ _ _ _ _ _ _ _ _ _ _ _ _ HM.out).mono ?_; rintro e w1 ⟨rfl, rfl⟩; rw [h1])
    go_ret
    exact ⟨rfl, al (al (Below.refl _ _) _) _⟩
theorem i_laneAt (l : Ln) (g p : Int) (w : World) : Calls Tryz.prog 140 #[.agg #[.int .i64 l.fr, .int .i64 l.dst, .int .i64 l.pg, .int .i64 l.af, .int .i64 l.tt], .int .i64 g, .int .i64 p] w fun e w' => e = .returned (.bool (usesV l g p)) ∧ w' = w.alloc (.cells #[.int .i64 l.fr, .int .i64 l.dst, .int .i64 l.pg, .int .i64 l.af, .int .i64 l.tt] 125) := by
  obtain ⟨a, b, c, d, z⟩ := l
  unfold usesV
  simp only
  by_cases h1 : a = g <;> by_cases h2 : d = p <;> by_cases h3 : b = g <;> by_cases h4 : z = p <;>
    (go_enter Tryz.func140, Tryz.ntmps140
     go_wp2_with fail
     go_ret
     exact ⟨by simp [h1, h2, h3, h4], by first | rfl | simp [h1, h2, h3, h4]⟩)
set_option maxHeartbeats 2000000 in
theorem i_meets (a : Option Addr) (n c : Nat) (rs : List Ln) (L : Ln) (w : World) (h : IsLanes w a n c rs) :
    Calls Tryz.prog 128 #[.slice a n c, .agg #[.int .i64 L.fr, .int .i64 L.dst, .int .i64 L.pg, .int .i64 L.af, .int .i64 L.tt]] w fun e w' => e = .returned (.bool (rs.any fun o => meetV o L)) ∧ Below w.heap.size w w' := by
  have HR : Hid (IsLanes w a n c rs) := h
  have HL : Hid (n = rs.length) := h.len
  have hmax : (n : Int) ≤ 9223372036854775807 := by have := h.cap; unfold maxLen at this; omega
  clear h
  have q0 : (w.alloc (.cells #[.int .i64 L.fr, .int .i64 L.dst, .int .i64 L.pg, .int .i64 L.af, .int .i64 L.tt] 125)).cell? ⟨w.heap.size, 0, none⟩ = some (.int .i64 L.fr) := cell_new rfl
  have q1 : (w.alloc (.cells #[.int .i64 L.fr, .int .i64 L.dst, .int .i64 L.pg, .int .i64 L.af, .int .i64 L.tt] 125)).cell? ⟨w.heap.size, 1, none⟩ = some (.int .i64 L.dst) := cell_new rfl
  have q2 : (w.alloc (.cells #[.int .i64 L.fr, .int .i64 L.dst, .int .i64 L.pg, .int .i64 L.af, .int .i64 L.tt] 125)).cell? ⟨w.heap.size, 2, none⟩ = some (.int .i64 L.pg) := cell_new rfl
  have q3 : (w.alloc (.cells #[.int .i64 L.fr, .int .i64 L.dst, .int .i64 L.pg, .int .i64 L.af, .int .i64 L.tt] 125)).cell? ⟨w.heap.size, 3, none⟩ = some (.int .i64 L.af) := cell_new rfl
  have q4 : (w.alloc (.cells #[.int .i64 L.fr, .int .i64 L.dst, .int .i64 L.pg, .int .i64 L.af, .int .i64 L.tt] 125)).cell? ⟨w.heap.size, 4, none⟩ = some (.int .i64 L.tt) := cell_new rfl
  have Q : Hid (_ ∧ _ ∧ _ ∧ _ ∧ _) := ⟨q0, q1, q2, q3, q4⟩
  have HB1 : Hid (Below w.heap.size w (w.alloc (.cells #[.int .i64 L.fr, .int .i64 L.dst, .int .i64 L.pg, .int .i64 L.af, .int .i64 L.tt] 125))) := al (Below.refl _ _) _
  clear q0 q1 q2 q3 q4
  go_enter Tryz.func128, Tryz.ntmps128
  go_wp2_with fail
  generalize w.alloc (.cells #[.int .i64 L.fr, .int .i64 L.dst, .int .i64 L.pg, .int .i64 L.af, .int .i64 L.tt] 125) = W1 at *
  obtain ⟨B, hB⟩ : ∃ B, w.heap.size = B := ⟨_, rfl⟩
  rw [hB] at Q ⊢
  have HBB : Hid (w.heap.size = B) := hB
  clear hB
  go_loopw [9] (fun c wq => ∃ k : Nat, k ≤ n ∧ c = .int .i64 k ∧ Below W1.heap.size W1 wq ∧ Hid (rs.any (fun o => meetV o L) = (rs.drop k).any (fun o => meetV o L))) (fun c _ => n - (intOf c).toNat)
  case atStart => exact ⟨0, Nat.zero_le _, rfl, Below.refl _ _, by show _ = _; simp⟩
  case round =>
    obtain ⟨k, hk, rfl, hB, hK⟩ := hrel
    have HBq : Hid (Below _ W1 wr) := hB
    have HBw : Hid (Below _ w wr) := on HB1.out hB
    obtain ⟨q0, q1, q2, q3, q4⟩ := Q.out
    have q0 := cell_keep hB q0
    have q1 := cell_keep hB q1
    have q2 := cell_keep hB q2
    have q3 := cell_keep hB q3
    have q4 := cell_keep hB q4
    have bB : B < wr.heap.size := block_of_cell q0
    clear hB
    by_cases hkj : k < n
    · have hK1 : (k : Int) < (n : Int) := by omega
      obtain ⟨x, rfl, k0, k1, k2, k3, k4⟩ := (HR.out.stay HBw.out).at k hkj
      have HKJ : Hid (k < n) := hkj
      have SA : Hid (_ = _) := any_step lz rs (fun o => meetV o L) k (by have := HL.out; omega)
      obtain ⟨O, hO⟩ : ∃ O, rs.getD k lz = O := ⟨_, rfl⟩
      rw [hO] at k0 k1 k2 k3 k4 SA
      clear hO hkj
      by_cases hpg : O.pg = L.pg
      · have V4 : Hid (rs.any (fun o => meetV o L) = true) := by
          show _ = _
          rw [hK.out, SA.out]
          simp [meetV, hpg]
        go_wp2_with fail
        go_ret
        rw [V4.out]
        exact ⟨rfl, al HBw.out _⟩
      by_cases hu : usesV O L.fr L.af = true
      · have V4 : Hid (rs.any (fun o => meetV o L) = true) := by
          show _ = _
          rw [hK.out, SA.out]
          simp [meetV, hu]
        go_wp2_with (go_at_call 140; refine (i_laneAt O _ _ _).mono ?_; rintro e wx ⟨rfl, rfl⟩; rw [hu])
        go_ret
        rw [V4.out]
        exact ⟨rfl, al (al HBw.out _) _⟩
      rw [Bool.not_eq_true] at hu
      by_cases hu2 : usesV O L.dst L.tt = true
      · have V4 : Hid (rs.any (fun o => meetV o L) = true) := by
          show _ = _
          rw [hK.out, SA.out]
          simp [meetV, hu2]
        go_wp2_with (go_at_call 140; refine (i_laneAt O _ _ _).mono ?_; rintro e wx ⟨rfl, rfl⟩; first | rw [hu] | rw [hu2])
        go_ret
        rw [V4.out]
        exact ⟨rfl, al (al (al HBw.out _) _) _⟩
      rw [Bool.not_eq_true] at hu2
      have M0 : Hid (meetV O L = false) := by show _ = _; rw [meetV, hu, hu2]; simp [hpg]
      go_wp2_with (go_at_call 140; refine (i_laneAt O _ _ _).mono ?_; rintro e wx ⟨rfl, rfl⟩; first | rw [hu] | rw [hu2])
      go_roundw
      case rel => exact ⟨k + 1, by have := HKJ.out; omega, by go_num, al (al (al HBq.out _) _) _, by show _ = _; rw [hK.out, SA.out, M0.out, Bool.false_or]⟩
      case measure => have := HKJ.out; simp [intOf]; omega
    · have hK1 : ¬ (k : Int) < (n : Int) := by omega
      have V4 : Hid (rs.any (fun o => meetV o L) = false) := by
        show _ = _
        rw [hK.out, List.drop_of_length_le (by have := HL.out; omega)]
        rfl
      clear hkj
      go_wp2_with fail
      go_ret
      rw [V4.out]
      exact ⟨rfl, HBw.out⟩
end Go.Proofs.YtggejbphdadckaaGreatDoor
