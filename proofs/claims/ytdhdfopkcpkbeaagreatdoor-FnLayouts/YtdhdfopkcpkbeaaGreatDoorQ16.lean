/- Texts of this seat, joined. -/
import Derived.Test.YtdhdfopkcpkbeaaGreatDoorQ13
import Derived.Test.YtdhdfopkcpkbeaaGreatDoorQ14
namespace Go.Proofs.YtdhdfopkcpkbeaaGreatDoor
open Go.RowKit
set_option linter.unusedVariables false

theorem flat_seen (own : List (List Int)) (i : Nat) (h : i < own.length) : (own.take i).flatten = seenAt own i 0 ∧ (own.drop i).flatten = leftAt own i 0 := by
  unfold seenAt leftAt
  rw [drop_cons_getD own [] i h]
  simp
theorem flat_next (own : List (List Int)) (i : Nat) (h : i < own.length) : seenAt own i (own.getD i []).length = (own.take (i + 1)).flatten ∧ leftAt own i (own.getD i []).length = (own.drop (i + 1)).flatten := by
  unfold seenAt leftAt
  rw [take_succ_getD own [] i h]
  simp
theorem flat_len (own : List (List Int)) (h : ∀ o ∈ own, o.length ≤ 5) : own.flatten.length ≤ 5 * own.length := by
  induction own with
  | nil => simp
  | cons o t ih =>
    have h1 := h o (List.mem_cons_self ..)
    have h2 := ih fun o ho => h o (List.mem_cons_of_mem _ ho)
    simp only [List.flatten_cons, List.length_append, List.length_cons]
    omega
theorem seen_len (own : List (List Int)) (i k : Nat) (h : guestsV own = 0) (hn : own.length ≤ 3) : (seenAt own i k).length ≤ 40 := by
  have ha := guests_all own h
  have h1 := flat_len (own.take i) fun o ho => (ha o (List.mem_of_mem_take ho)).2.1
  have h2 : ((own.getD i []).take k).length ≤ 5 := by
    by_cases hi : i < own.length
    · have : own.getD i [] ∈ own := by rw [List.getD, List.getElem?_eq_getElem hi]; exact List.getElem_mem hi
      have := (ha _ this).2.1
      simp only [List.length_take]; omega
    · rw [List.getD, List.getElem?_eq_none (by omega)]; simp
  unfold seenAt
  simp only [List.length_append, List.length_take] at *
  omega

set_option maxRecDepth 20000 in
set_option maxHeartbeats 4000000 in
theorem l6_owns (q : Nat) (P : Plc) (w : World) (h : PolAt w q P) :
    Calls Tryz.prog 51 #[.pointer (some ⟨q, 0, none⟩)] w fun e w' => e = .returned (.int .i64 (ownsV P)) ∧ Below w.heap.size w w' := by
  obtain ⟨a0, n0, c0, a1, n1, c1, a2, n2, c2, a3, n3, c3, h0, h1, h2, h3, h4⟩ := h
  have HL : Hid (n0 = P.own.length) := h4.own.len
  have HO : Hid (IsS2 w a0 n0 c0 P.own) := h4.own
  have hmax : (n0 : Int) ≤ 9223372036854775807 := by have := h4.own.cap; unfold maxLen at this; omega
  have qb : q < w.heap.size := block_of_cell h0
  have H0 : Hid (w.cell? ⟨q, 0, none⟩ = some (.slice a0 n0 c0)) := h0
  clear h1 h2 h3 h4
  by_cases hn : n0 < 1
  · have hb : (n0 : Int) < 1 := by omega
    have E : Hid (ownsV P = 2) := by show _ = _; have := HL.out; simp [ownsV, orV, g1V, show P.own.length < 1 by omega]
    clear hn
    go_enter Tryz.func51, Tryz.ntmps51
    go_wp2_with fail
    go_ret
    rw [E.out]
    exact ⟨rfl, Below.refl _ _⟩
  by_cases hm : 3 < n0
  · have hb : ¬ (n0 : Int) < 1 := by omega
    have hb2 : (3 : Int) < n0 := by omega
    have E : Hid (ownsV P = 2) := by show _ = _; have := HL.out; simp [ownsV, orV, g1V, show 3 < P.own.length by omega]
    clear hn hm
    go_enter Tryz.func51, Tryz.ntmps51
    go_wp2_with fail
    go_ret
    rw [E.out]
    exact ⟨rfl, Below.refl _ _⟩
  have E : Hid (ownsV P = orV (guestsV P.own) (g2V P.own)) := by
    show _ = _
    have := HL.out
    rw [ownsV, g1V, if_neg (by omega)]
  have HN3 : Hid (1 ≤ n0 ∧ n0 ≤ 3) := ⟨by omega, by omega⟩
  have hb : ¬ (n0 : Int) < 1 := by omega
  have hb2 : ¬ (3 : Int) < n0 := by omega
  clear hn hm
  go_enter Tryz.func51, Tryz.ntmps51
  go_wp2_with fail
  go_loop [3] (fun c => ∃ j : Nat, j ≤ n0 ∧ c = .int .i64 j ∧ Hid (guestsV P.own = guestsV (P.own.drop j))) (fun c => n0 - (intOf c).toNat)
  case atStart => exact ⟨0, Nat.zero_le _, rfl, by show _ = _; simp⟩
  case round =>
    obtain ⟨j, hj, rfl, hI⟩ := hrel
    by_cases hlt : j < n0
    · obtain ⟨x, b, l, c, rfl, k1, k2⟩ := HO.out.at j hlt
      have HN : Hid (IsNs w b l c _) := k2
      have HNL : Hid (l = (P.own.getD j []).length) := k2.len
      have hlmax : (l : Int) ≤ 9223372036854775807 := by have := k2.cap; unfold maxLen at this; omega
      have hJ : (j : Int) < (n0 : Int) := by omega
      have HLT : Hid (j < n0) := hlt
      have ST : Hid (_ = _) := guests_step P.own j (by have := HL.out; omega)
      clear k2 hlt
      by_cases hl1 : l < 1
      · have hi1 : (l : Int) < 1 := by omega
        have HL1 : Hid (l < 1) := hl1
        clear hl1
        go_wp2_with fail
        go_ret
        rw [E.out, hI.out, ST.out, if_pos (.inl (by have := HL1.out; have := HNL.out; omega))]
        exact ⟨rfl, Below.refl _ _⟩
      by_cases hl5 : 5 < l
      · have hi1 : ¬ (l : Int) < 1 := by omega
        have hi2 : (5 : Int) < l := by omega
        have HL1 : Hid (5 < l) := hl5
        clear hl1 hl5
        go_wp2_with fail
        go_ret
        rw [E.out, hI.out, ST.out, if_pos (.inr (by have := HL1.out; have := HNL.out; omega))]
        exact ⟨rfl, Below.refl _ _⟩
      have hi1 : ¬ (l : Int) < 1 := by omega
      have hi2 : ¬ (5 : Int) < l := by omega
      have ST2 : Hid (guestsV (P.own.drop j) = if (P.own.getD j []).all pgOk = false then 3 else guestsV (P.own.drop (j + 1))) := by
        show _ = _
        rw [ST.out, if_neg (by have := HNL.out; omega)]
      clear hl1 hl5 ST
      go_wp2_with fail
      go_loop [4] (fun c => ∃ k : Nat, k ≤ l ∧ c = .int .i64 k ∧ Hid ((P.own.getD j []).all pgOk = ((P.own.getD j []).drop k).all pgOk)) (fun c => l - (intOf c).toNat)
      case atStart => exact ⟨0, Nat.zero_le _, rfl, by show _ = _; simp⟩
      case round =>
        obtain ⟨k, hk, rfl, hK⟩ := hrel
        by_cases hkl : k < l
        · rcases HN.out with ⟨_, h1, _, _⟩ | ⟨y, rfl, h1, h2, h3, h4⟩
          · omega
          have d0 := h4 k hkl
          have hK1 : (k : Int) < (l : Int) := by omega
          have HKL : Hid (k < l) := hkl
          have SA : Hid (_ = _) := all_step (P.own.getD j []) pgOk k (by have := HNL.out; omega)
          clear h1 h2 h3 h4 hkl
          generalize hz : (P.own.getD j []).getD k 0 = z at *
          clear hz
          by_cases hp : pgOk z = true
          · have HP : Hid (pgOk z = true) := hp
            go_wp2_with (go_at_call 78; refine (l1_pg _ _).mono ?_; rintro e x ⟨rfl, rfl⟩; rw [hp])
            go_round
            case rel => exact ⟨k + 1, by have := HKL.out; omega, by go_num, by show _ = _; rw [hK.out, SA.out, HP.out, Bool.true_and]⟩
            case measure => have := HKL.out; simp [intOf]; omega
          · rw [Bool.not_eq_true] at hp
            have HP : Hid (pgOk z = false) := hp
            go_wp2_with (go_at_call 78; refine (l1_pg _ _).mono ?_; rintro e x ⟨rfl, rfl⟩; rw [hp])
            go_ret
            rw [E.out, hI.out, ST2.out, if_pos (by rw [hK.out, SA.out, HP.out, Bool.false_and])]
            exact ⟨rfl, Below.refl _ _⟩
        · have hK1 : ¬ (k : Int) < (l : Int) := by omega
          have HKL : Hid (k = l) := by show _ = _; omega
          clear hkl
          go_wp2_with fail
          go_round
          case rel =>
            refine ⟨j + 1, by have := HLT.out; omega, by go_num, ?_⟩
            show _ = _
            rw [hI.out, ST2.out, if_neg]
            rw [hK.out, List.drop_of_length_le (by have := HKL.out; have := HNL.out; omega)]
            simp
          case measure => have := HLT.out; simp [intOf]; omega
    · have hJ : ¬ (j : Int) < (n0 : Int) := by omega
      have G0 : Hid (guestsV P.own = 0) := by
        show _ = _
        rw [hI.out, List.drop_of_length_le (by have := HL.out; omega)]
        rfl
      have E2 : Hid (ownsV P = if dupF [] P.own.flatten then 6 else 0) := by
        show _ = _
        rw [E.out, G0.out]
        rfl
      clear hlt hI E
      have N1 : Hid (Nums _ w.heap.size _ []) := nums_empty w w.heap.size (Nat.le_refl _)
      have B1 : Hid (Below w.heap.size w _) := al (Below.refl w.heap.size w) (.cells #[] 2)
      go_wp2_with fail
      go_loopw [5, 6] (fun u c wr => ∃ i : Nat, i ≤ n0 ∧ c = .int .i64 i ∧ Nums wr w.heap.size u (P.own.take i).flatten ∧ Below w.heap.size w wr ∧ Hid (dupF [] P.own.flatten = dupF (P.own.take i).flatten (P.own.drop i).flatten)) (fun _ c _ => n0 - (intOf c).toNat)
      case atStart => exact ⟨0, Nat.zero_le _, rfl, by simpa using N1.out, B1.out, by show _ = _; simp⟩
      case round =>
        obtain ⟨i, hi, rfl, hN, hB, hD⟩ := hrel
        have HNu : Hid (Nums wr _ _ _) := hN
        have HB : Hid (Below _ w wr) := hB
        have h0 := cell_keep hB H0.out
        clear hN hB
        by_cases hlt : i < n0
        · obtain ⟨x, b, l, c, rfl, k1, k2⟩ := HO.out.at i hlt
          have HN : Hid (IsNs w b l c _) := k2
          have HK1 : Hid (w.cell? (x.add i) = some (.slice b l c)) := k1
          have k1 := cell_keep HB.out k1
          have HNL : Hid (l = (P.own.getD i []).length) := k2.len
          have hlmax : (l : Int) ≤ 9223372036854775807 := by have := k2.cap; unfold maxLen at this; omega
          have hJ : (i : Int) < (n0 : Int) := by omega
          have HLT : Hid (i < n0) := hlt
          obtain ⟨s1, s2⟩ := flat_seen P.own i (by have := HL.out; omega)
          have hns := HNu.out
          rw [s1] at hns
          have HNs : Hid (Nums wr w.heap.size _ (seenAt P.own i 0)) := hns
          have HDs : Hid (dupF [] P.own.flatten = dupF (seenAt P.own i 0) (leftAt P.own i 0)) := by show _ = _; rw [hD.out, s1, s2]
          obtain ⟨t1, t2⟩ := flat_next P.own i (by have := HL.out; omega)
          rw [← HNL.out] at t1 t2
          have T1 : Hid (_ = _) := t1
          have T2 : Hid (_ = _) := t2
          clear k2 hlt s1 s2 t1 t2 hns HNu hD
          go_wp2_with fail
          clear h0 k1
          go_loopw [5, 7] (fun u c wq => ∃ k : Nat, k ≤ l ∧ c = .int .i64 k ∧ Nums wq w.heap.size u (seenAt P.own i k) ∧ Below w.heap.size w wq ∧ Hid (dupF [] P.own.flatten = dupF (seenAt P.own i k) (leftAt P.own i k))) (fun _ c _ => l - (intOf c).toNat)
          case atStart => exact ⟨0, Nat.zero_le _, rfl, HNs.out, HB.out, HDs⟩
          case round =>
            obtain ⟨k, hk, rfl, hN, hB, hD⟩ := hrel
            have HNu : Hid (Nums wr _ _ _) := hN
            have HBq : Hid (Below _ w wr) := hB
            have h0 := cell_keep hB H0.out
            have k1 := cell_keep hB HK1.out
            have SQ : Hid (w.heap.size ≤ wr.heap.size) := hB.size
            obtain ⟨au, cu, rfl, _, _, _⟩ := hN.shape
            have HR : Hid (IsNs wr au _ cu _) := hN.read
            clear hN hB
            by_cases hkl : k < l
            · rcases HN.out with ⟨_, h1, _, _⟩ | ⟨y, rfl, h1, h2, h3, h4⟩
              · omega
              have d0 := cell_keep HBq.out (h4 k hkl)
              have hK1 : (k : Int) < (l : Int) := by omega
              have HKL : Hid (k < l) := hkl
              have DS : Hid (_ = _) := dup_step P.own i k (by have := HNL.out; omega)
              have SL : Hid ((seenAt P.own i k).length ≤ 40) := seen_len P.own i k G0.out (by have := HL.out; have := HN3.out; omega)
              have SS : Hid (seenAt P.own i (k + 1) = seenAt P.own i k ++ [(P.own.getD i []).getD k 0]) := by
                show _ = _
                unfold seenAt
                rw [take_succ_getD _ 0 k (by have := HNL.out; omega), List.append_assoc]
              clear h1 h2 h3 h4 hkl
              generalize hz : (P.own.getD i []).getD k 0 = z at *
              clear hz
              generalize hS : seenAt P.own i k = S at *
              have HS : Hid (seenAt P.own i k = S) := hS
              clear hS
              by_cases hm : z ∈ S
              · have HM : Hid (z ∈ S) := hm
                have hd : decide (z ∈ S) = true := decide_eq_true hm
                clear hm
                go_wp2_with (go_at_call 79; refine (l1_has _ _ _ _ _ _ HR.out).mono ?_; rintro e wr ⟨rfl, rfl⟩; rw [hd])
                go_ret
                rw [E2.out, hD.out, DS.out, if_pos HM.out]
                exact ⟨rfl, HBq.out⟩
              · have HM : Hid (¬ z ∈ S) := hm
                have hd : decide (z ∈ S) = false := decide_eq_false hm
                clear hm
                go_wp2_with (first
                  | (go_at_call 79; refine (l1_has _ _ _ _ _ _ HR.out).mono ?_; rintro e wr ⟨rfl, rfl⟩; rw [hd])
                  | (at_builtin; refine wp_appn _ rfl _ _ rfl w.heap.size _ _ rfl (HNu.out.keep (al (Below.refl _ _) _)) wr.heap.size 1 1 [z] rfl rfl (one_at (cell_new rfl)) (by have := SL.out; simp; omega) (by have := SQ.out; simp; omega) ?_; intro v' w' hN' hG'))
                have N' : Hid (Nums w' _ v' _) := hN'
                have B' : Hid (Below w.heap.size w w') := (al HBq.out _).grown hG' (by have := SQ.out; simp; omega) (fun k hk => (HNu.out.lt k hk).1)
                clear hN' hG'
                go_wp2_with fail
                go_roundw
                case rel => exact ⟨k + 1, by have := HKL.out; omega, by go_num, by rw [SS.out]; exact N'.out, B'.out, by show _ = _; rw [hD.out, DS.out, if_neg HM.out]⟩
                case measure => have := HKL.out; simp [intOf]; omega
            · have hK1 : ¬ (k : Int) < (l : Int) := by omega
              have HKL : Hid (k = l) := by show _ = _; omega
              clear hkl
              go_wp2_with fail
              go_roundw
              case rel =>
                have e := HKL.out
                subst e
                refine ⟨i + 1, by have := HLT.out; omega, by go_num, ?_, HBq.out, ?_⟩
                · rw [← T1.out]; exact HNu.out
                · show _ = _; rw [hD.out, T1.out, T2.out]
              case measure => have := HLT.out; simp [intOf]; omega
        · have hJ : ¬ (i : Int) < (n0 : Int) := by omega
          have HJ : Hid (i = n0) := by show _ = _; omega
          clear hlt
          go_wp2_with fail
          go_ret
          rw [E2.out, hD.out, List.drop_of_length_le (by have := HL.out; have := HJ.out; omega)]
          exact ⟨rfl, HB.out⟩
end Go.Proofs.YtdhdfopkcpkbeaaGreatDoor
