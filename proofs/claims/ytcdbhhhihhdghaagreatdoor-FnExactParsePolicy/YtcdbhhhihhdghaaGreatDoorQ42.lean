/- Texts of this seat, joined. -/
import Derived.Deep.Cut
import Derived.Deep.CutRange
import Derived.BigQuiet
import Derived.Test.YtcdbhhhihhdghaaGreatDoorQ08
import Derived.Test.YtcdbhhhihhdghaaGreatDoorQ40
namespace Go.Proofs.YtcdbhhhihhdghaaGreatDoor
open Go.RowKit
set_option linter.unusedVariables false

theorem bqP_get (l : Wb) (j : Nat) (h : j < (bq l).size) : (bq l)[j]'h = l.getD j 0 := bq_get l j h
theorem allP_take (l : Wb) (j : Nat) (h : j < l.length) : (l.take (j + 1)).all dgP = ((l.take j).all dgP && dgP (l.getD j 0)) := all_takeB dgP l j h
theorem allP_false (l : Wb) (j : Nat) (h : j < l.length) (hf : dgP (l.getD j 0) = false) : l.all dgP = false := all_falseB dgP l j h hf
theorem vlP_next (l : Wb) (j : Nat) (h : j < l.length) : vlP (l.take (j + 1)) = vlP (l.take j) * 10 + ((l.getD j 0).toNat - 48) := by
  unfold vlP
  rw [List.take_add_one, List.getElem?_eq_getElem h, List.foldl_append, List.getD, List.getElem?_eq_getElem h]
  rfl
theorem vlP_small (l : Wb) (h : l.all dgP = true) (hl : l.length ≤ 3) : vlP l < 1000 := by
  match l, h, hl with
  | [], _, _ => show 0 < 1000; omega
  | [a], h, _ =>
    simp [dgP] at h
    show 0 * 10 + (a.toNat - 48) < 1000; omega
  | [a, b], h, _ =>
    simp [dgP] at h
    show (0 * 10 + (a.toNat - 48)) * 10 + (b.toNat - 48) < 1000; omega
  | [a, b, c], h, _ =>
    simp [dgP] at h
    show ((0 * 10 + (a.toNat - 48)) * 10 + (b.toNat - 48)) * 10 + (c.toNat - 48) < 1000; omega
def nmS : Option Int → Value
  | some z => .tuple #[.int .i64 z, .bool true]
  | none => .tuple #[.int .i64 0, .bool false]
set_option maxRecDepth 20000 in
set_option maxHeartbeats 4000000 in
theorem s_number (x : Wb) (hx : x.length ≤ 1048576) (w : World) : Calls Tryz.prog 20 #[.string (bq x)] w fun e w' => e = .returned (nmS (nmP x)) ∧ w' = w := by
  have hz : (bq x).size = x.length := bq_size x
  obtain ⟨n, hn⟩ : ∃ n, x.length = n := ⟨_, rfl⟩
  have GT : Hid (∀ j (h : j < (bq x).size), (bq x)[j]'h = x.getD j 0) := bqP_get x
  have hnI : (n : Int) ≤ 1048576 := by omega
  rw [hn] at hz
  generalize bq x = S at *
  have none_of : Hid (¬ okP x → nmS (nmP x) = .tuple #[.int .i64 0, .bool false]) := fun h => by unfold nmP; rw [if_neg h]; rfl
  by_cases h1 : n < 1
  · have e := none_of.out fun h => by have := h.1; omega
    rw [e]
    have hI : (n : Int) < 1 := by omega
    clear e none_of GT
    go_enter Tryz.func20, Tryz.ntmps20
    go_wp2_with fail
    go_ret2
    exact ⟨rfl, rfl⟩
  by_cases h3 : 3 < n
  · have e := none_of.out fun h => by have := h.2.1; omega
    rw [e]
    have hI : (3 : Int) < (n : Int) := by omega
    have hJ : ¬ (n : Int) < 1 := by omega
    clear e none_of GT
    go_enter Tryz.func20, Tryz.ntmps20
    go_wp2_with fail
    go_ret2
    exact ⟨rfl, rfl⟩
  have hI3 : ¬ (3 : Int) < (n : Int) := by omega
  have hI1 : ¬ (n : Int) < 1 := by omega
  by_cases hz0 : 1 < n ∧ x.getD 0 0 = 48
  · have e := none_of.out fun h => h.2.2.1 (by rw [hn]; exact hz0)
    rw [e]
    have hI : (1 : Int) < (n : Int) := by omega
    have hg := GT.out 0 (by omega)
    rw [hz0.2] at hg
    clear e none_of GT
    go_enter Tryz.func20, Tryz.ntmps20
    go_wp2_with fail
    go_ret2
    exact ⟨rfl, rfl⟩
  have HN : Hid (x.length = n ∧ 1 ≤ n ∧ n ≤ 3 ∧ ¬ (1 < n ∧ x.getD 0 0 = 48)) := ⟨hn, by omega, by omega, hz0⟩
  obtain ⟨V, hV⟩ : ∃ V, nmS (nmP x) = V := ⟨_, rfl⟩
  have HV : Hid (nmS (nmP x) = V) := hV
  rw [hV] at none_of ⊢
  clear hV hx hn
  have hs0 : 0 < S.size := by omega
  obtain ⟨c0, hc0⟩ : ∃ c, x.getD 0 0 = c := ⟨_, rfl⟩
  have hg : S[0] = c0 := by rw [← hc0]; exact GT.out 0 hs0
  have hC0 : n = 1 ∨ ¬ c0.toNat = 48 := by
    by_cases e : n = 1
    · exact .inl e
    · exact .inr fun h => HN.out.2.2.2 ⟨by have := HN.out; omega, by rw [hc0]; exact UInt8.toNat_inj.1 h⟩
  clear hz0 hc0 hnI h1 h3
  have P : Calls Tryz.prog 20 #[.string S] w fun e w' => e = .returned V ∧ w' = w := by
    rcases hC0 with hn1 | hn2
    · subst hn1
      go_enter Tryz.func20, Tryz.ntmps20
      go_wp2_with fail
      clear hg hs0
      go_loop [4, 5] (fun d i => ∃ j : Nat, j ≤ 1 ∧ i = .int .i64 (j : Int) ∧ d = .int .i64 (vlP (x.take j) : Nat) ∧ Hid ((x.take j).all dgP = true)) (fun _ i => 1 - (intOf i).toNat)
      case atStart => exact ⟨0, Nat.zero_le _, rfl, rfl, rfl⟩
      case round =>
        obtain ⟨j, hj, rfl, rfl, hA⟩ := hrel
        by_cases hlt : j < 1
        · have hJ : (j : Int) < 1 := by omega
          have HL : Hid (j < 1) := hlt
          have hg := GT.out j (by omega)
          have NX : Hid (_ = _) := vlP_next x j (by have := HN.out; omega)
          have HD := vlP_small (x.take j) hA.out (by rw [List.length_take]; have := HN.out; omega)
          have AT : Hid (_ = _) := allP_take x j (by have := HN.out; omega)
          have AF := allP_false x j (by have := HN.out; omega)
          obtain ⟨c, hc⟩ : ∃ c, x.getD j 0 = c := ⟨_, rfl⟩
          obtain ⟨d, hd⟩ : ∃ d, vlP (x.take j) = d := ⟨_, rfl⟩
          rw [hc] at hg NX AF AT
          rw [hd] at NX HD ⊢
          clear hc hd
          by_cases hg1 : c.toNat < 48
          · have e := none_of.out fun h => by have := h.2.2.2; rw [AF (by simp [dgP]; omega)] at this; cases this
            subst e
            clear AF
            go_wp2_with fail
            go_ret2
            exact ⟨rfl, rfl⟩
          · by_cases hg2 : 57 < c.toNat
            · have e := none_of.out fun h => by have := h.2.2.2; rw [AF (by simp [dgP]; omega)] at this; cases this
              subst e
              clear AF
              go_wp2_with fail
              go_ret2
              exact ⟨rfl, rfl⟩
            · have hc1 : 48 ≤ c.toNat := by omega
              have hc2 : c.toNat ≤ 57 := by omega
              have hcI1 : (48 : Int) ≤ (c.toNat : Int) := by omega
              have hcI2 : (c.toNat : Int) ≤ 57 := by omega
              have hd1 : (d : Int) ≤ 1000 := by omega
              have AN : Hid ((x.take (j + 1)).all dgP = true) := by
                show _ = _
                have := AT.out
                rw [hA.out, Bool.true_and] at this
                rw [this]
                simp [dgP]
                omega
              clear AF HD
              go_wp2_with fail
              go_round
              case rel => exact ⟨j + 1, by have := HL.out; omega, by go_num, by rw [NX.out]; go_num, AN.out⟩
              case measure => have := HL.out; simp [intOf]; omega
        · have hJ : ¬ (j : Int) < 1 := by omega
          obtain rfl : j = 1 := by omega
          have ok : okP x := ⟨by rw [HN.out.1]; exact HN.out.2.1, by rw [HN.out.1]; exact HN.out.2.2.1, by rw [HN.out.1]; exact HN.out.2.2.2, by have := hA.out; rwa [List.take_of_length_le (Nat.le_of_eq HN.out.1)] at this⟩
          have e : V = .tuple #[.int .i64 (vlP x : Nat), .bool true] := by rw [← HV.out]; unfold nmP; rw [if_pos ok]; rfl
          subst e
          rw [List.take_of_length_le (Nat.le_of_eq HN.out.1)]
          clear ok
          go_wp2_with fail
          go_ret2
          exact ⟨rfl, rfl⟩
    · by_cases h2 : 1 < n
      · have hnI : (1 : Int) < (n : Int) := by omega
        go_enter Tryz.func20, Tryz.ntmps20
        go_wp2_with fail
        clear hg hs0 hn2
        go_loop [4, 5] (fun d i => ∃ j : Nat, j ≤ n ∧ i = .int .i64 (j : Int) ∧ d = .int .i64 (vlP (x.take j) : Nat) ∧ Hid ((x.take j).all dgP = true)) (fun _ i => n - (intOf i).toNat)
        case atStart => exact ⟨0, Nat.zero_le _, rfl, rfl, rfl⟩
        case round =>
          obtain ⟨j, hj, rfl, rfl, hA⟩ := hrel
          by_cases hlt : j < n
          · have hJ : (j : Int) < (n : Int) := by omega
            have HL : Hid (j < n) := hlt
            have hg := GT.out j (by omega)
            have NX : Hid (_ = _) := vlP_next x j (by have := HN.out; omega)
            have HD := vlP_small (x.take j) hA.out (by rw [List.length_take]; have := HN.out; omega)
            have AT : Hid (_ = _) := allP_take x j (by have := HN.out; omega)
            have AF := allP_false x j (by have := HN.out; omega)
            obtain ⟨c, hc⟩ : ∃ c, x.getD j 0 = c := ⟨_, rfl⟩
            obtain ⟨d, hd⟩ : ∃ d, vlP (x.take j) = d := ⟨_, rfl⟩
            rw [hc] at hg NX AF AT
            rw [hd] at NX HD ⊢
            clear hc hd
            by_cases hg1 : c.toNat < 48
            · have e := none_of.out fun h => by have := h.2.2.2; rw [AF (by simp [dgP]; omega)] at this; cases this
              subst e
              clear AF
              go_wp2_with fail
              go_ret2
              exact ⟨rfl, rfl⟩
            · by_cases hg2 : 57 < c.toNat
              · have e := none_of.out fun h => by have := h.2.2.2; rw [AF (by simp [dgP]; omega)] at this; cases this
                subst e
                clear AF
                go_wp2_with fail
                go_ret2
                exact ⟨rfl, rfl⟩
              · have hc1 : 48 ≤ c.toNat := by omega
                have hc2 : c.toNat ≤ 57 := by omega
                have hcI1 : (48 : Int) ≤ (c.toNat : Int) := by omega
                have hcI2 : (c.toNat : Int) ≤ 57 := by omega
                have hd1 : (d : Int) ≤ 1000 := by omega
                have AN : Hid ((x.take (j + 1)).all dgP = true) := by
                  show _ = _
                  have := AT.out
                  rw [hA.out, Bool.true_and] at this
                  rw [this]
                  simp [dgP]
                  omega
                clear AF HD
                go_wp2_with fail
                go_round
                case rel => exact ⟨j + 1, by have := HL.out; omega, by go_num, by rw [NX.out]; go_num, AN.out⟩
                case measure => have := HL.out; simp [intOf]; omega
          · have hJ : ¬ (j : Int) < (n : Int) := by omega
            obtain rfl : j = n := by omega
            have ok : okP x := ⟨by rw [HN.out.1]; exact HN.out.2.1, by rw [HN.out.1]; exact HN.out.2.2.1, by rw [HN.out.1]; exact HN.out.2.2.2, by have := hA.out; rwa [List.take_of_length_le (Nat.le_of_eq HN.out.1)] at this⟩
            have e : V = .tuple #[.int .i64 (vlP x : Nat), .bool true] := by rw [← HV.out]; unfold nmP; rw [if_pos ok]; rfl
            subst e
            rw [List.take_of_length_le (Nat.le_of_eq HN.out.1)]
            clear ok
            go_wp2_with fail
            go_ret2
            exact ⟨rfl, rfl⟩
      · obtain rfl : n = 1 := by have := HN.out; omega
        go_enter Tryz.func20, Tryz.ntmps20
        go_wp2_with fail
        clear hg hs0 hn2
        go_loop [4, 5] (fun d i => ∃ j : Nat, j ≤ 1 ∧ i = .int .i64 (j : Int) ∧ d = .int .i64 (vlP (x.take j) : Nat) ∧ Hid ((x.take j).all dgP = true)) (fun _ i => 1 - (intOf i).toNat)
        case atStart => exact ⟨0, Nat.zero_le _, rfl, rfl, rfl⟩
        case round =>
          obtain ⟨j, hj, rfl, rfl, hA⟩ := hrel
          by_cases hlt : j < 1
          · have hJ : (j : Int) < 1 := by omega
            have HL : Hid (j < 1) := hlt
            have hg := GT.out j (by omega)
            have NX : Hid (_ = _) := vlP_next x j (by have := HN.out; omega)
            have HD := vlP_small (x.take j) hA.out (by rw [List.length_take]; have := HN.out; omega)
            have AT : Hid (_ = _) := allP_take x j (by have := HN.out; omega)
            have AF := allP_false x j (by have := HN.out; omega)
            obtain ⟨c, hc⟩ : ∃ c, x.getD j 0 = c := ⟨_, rfl⟩
            obtain ⟨d, hd⟩ : ∃ d, vlP (x.take j) = d := ⟨_, rfl⟩
            rw [hc] at hg NX AF AT
            rw [hd] at NX HD ⊢
            clear hc hd
            by_cases hg1 : c.toNat < 48
            · have e := none_of.out fun h => by have := h.2.2.2; rw [AF (by simp [dgP]; omega)] at this; cases this
              subst e
              clear AF
              go_wp2_with fail
              go_ret2
              exact ⟨rfl, rfl⟩
            · by_cases hg2 : 57 < c.toNat
              · have e := none_of.out fun h => by have := h.2.2.2; rw [AF (by simp [dgP]; omega)] at this; cases this
                subst e
                clear AF
                go_wp2_with fail
                go_ret2
                exact ⟨rfl, rfl⟩
              · have hc1 : 48 ≤ c.toNat := by omega
                have hc2 : c.toNat ≤ 57 := by omega
                have hcI1 : (48 : Int) ≤ (c.toNat : Int) := by omega
                have hcI2 : (c.toNat : Int) ≤ 57 := by omega
                have hd1 : (d : Int) ≤ 1000 := by omega
                have AN : Hid ((x.take (j + 1)).all dgP = true) := by
                  show _ = _
                  have := AT.out
                  rw [hA.out, Bool.true_and] at this
                  rw [this]
                  simp [dgP]
                  omega
                clear AF HD
                go_wp2_with fail
                go_round
                case rel => exact ⟨j + 1, by have := HL.out; omega, by go_num, by rw [NX.out]; go_num, AN.out⟩
                case measure => have := HL.out; simp [intOf]; omega
          · have hJ : ¬ (j : Int) < 1 := by omega
            obtain rfl : j = 1 := by omega
            have ok : okP x := ⟨by rw [HN.out.1]; exact HN.out.2.1, by rw [HN.out.1]; exact HN.out.2.2.1, by rw [HN.out.1]; exact HN.out.2.2.2, by have := hA.out; rwa [List.take_of_length_le (Nat.le_of_eq HN.out.1)] at this⟩
            have e : V = .tuple #[.int .i64 (vlP x : Nat), .bool true] := by rw [← HV.out]; unfold nmP; rw [if_pos ok]; rfl
            subst e
            rw [List.take_of_length_le (Nat.le_of_eq HN.out.1)]
            clear ok
            go_wp2_with fail
            go_ret2
            exact ⟨rfl, rfl⟩
  exact P
end Go.Proofs.YtcdbhhhihhdghaaGreatDoor
