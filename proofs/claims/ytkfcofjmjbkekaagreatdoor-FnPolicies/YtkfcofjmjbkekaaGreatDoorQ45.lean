/- Texts of this seat, joined. -/
import Derived.Deep.Cut
import Derived.Deep.CutRange
import Derived.BigQuiet
import Derived.Deep.RegionWith
import Derived.Test.YtkfcofjmjbkekaaGreatDoorQ11
import Derived.Test.YtkfcofjmjbkekaaGreatDoorQ26
import Derived.Test.YtkfcofjmjbkekaaGreatDoorQ42
import Derived.Test.YtkfcofjmjbkekaaGreatDoorQ44
namespace Go.Proofs.YtkfcofjmjbkekaaGreatDoor
open Go.RowKit
set_option linter.unusedVariables false

theorem bqP_get (l : Wb) (j : Nat) (h : j < (bq l).size) : (bq l)[j]'h = l.getD j 0 := bq_get l j h
theorem allP_take (l : Wb) (j : Nat) (h : j < l.length) : (l.take (j + 1)).all dgP = ((l.take j).all dgP && dgP (l.getD j 0)) := all_takeB dgP l j h
theorem allP_false (l : Wb) (j : Nat) (h : j < l.length) (hf : dgP (l.getD j 0) = false) : l.all dgP = false := all_falseB dgP l j h hf
theorem vlP_next (l : Wb) (j : Nat) (h : j < l.length) : vlP (l.take (j + 1)) = vlP (l.take j) * 10 + ((l.getD j 0).toNat - 48) := by
  unfold vlP
  rw [List.take_add_one, List.getElem?_eq_getElem h, List.foldl_append, List.getD, List.getElem?_eq_getElem h]
  rfl
theorem vlP_small (l : Wb) (h : l.all dgP = true) (hl : l.length ≤ 3) : vlP l < 1000 := by
  match l, h, hl with
  | [], _, _ => show 0 < 1000; omega
  | [a], h, _ =>
    simp [dgP] at h
    show 0 * 10 + (a.toNat - 48) < 1000; omega
  | [a, b], h, _ =>
    simp [dgP] at h
    show (0 * 10 + (a.toNat - 48)) * 10 + (b.toNat - 48) < 1000; omega
  | [a, b, c], h, _ =>
    simp [dgP] at h
    show ((0 * 10 + (a.toNat - 48)) * 10 + (b.toNat - 48)) * 10 + (c.toNat - 48) < 1000; omega
def nmS : Option Int → Value
  | some z => .tuple #[.int .i64 z, .bool true]
  | none => .tuple #[.int .i64 0, .bool false]
set_option maxRecDepth 20000 in
set_option maxHeartbeats 4000000 in
theorem s_number (x : Wb) (hx : x.length ≤ 1048576) (w : World) : Calls Tryz.prog 44 #[.string (bq x)] w fun e w' => e = .returned (nmS (nmP x)) ∧ w' = w := by
  have hz : (bq x).size = x.length := bq_size x
  obtain ⟨n, hn⟩ : ∃ n, x.length = n := ⟨_, rfl⟩
  have GT : Hid (∀ j (h : j < (bq x).size), (bq x)[j]'h = x.getD j 0) := bqP_get x
  have hnI : (n : Int) ≤ 1048576 := by omega
  rw [hn] at hz
  generalize bq x = S at *
  have none_of : Hid (¬ okP x → nmS (nmP x) = .tuple #[.int .i64 0, .bool false]) := fun h => by unfold nmP; rw [if_neg h]; rfl
  by_cases h1 : n < 1
  · have e := none_of.out fun h => by have := h.1; omega
    rw [e]
    have hI : (n : Int) < 1 := by omega
    clear e none_of GT
    go_enter Tryz.func44, Tryz.ntmps44
    go_wp2_with fail
    go_ret2
    exact ⟨rfl, rfl⟩
  by_cases h3 : 3 < n
  · have e := none_of.out fun h => by have := h.2.1; omega
    rw [e]
    have hI : (3 : Int) < (n : Int) := by omega
    have hJ : ¬ (n : Int) < 1 := by omega
    clear e none_of GT
    go_enter Tryz.func44, Tryz.ntmps44
    go_wp2_with fail
    go_ret2
    exact ⟨rfl, rfl⟩
  have hI3 : ¬ (3 : Int) < (n : Int) := by omega
  have hI1 : ¬ (n : Int) < 1 := by omega
  by_cases hz0 : 1 < n ∧ x.getD 0 0 = 48
  · have e := none_of.out fun h => h.2.2.1 (by rw [hn]; exact hz0)
    rw [e]
    have hI : (1 : Int) < (n : Int) := by omega
    have hg := GT.out 0 (by omega)
    rw [hz0.2] at hg
    clear e none_of GT
    go_enter Tryz.func44, Tryz.ntmps44
    go_wp2_with fail
    go_ret2
    exact ⟨rfl, rfl⟩
  have HN : Hid (x.length = n ∧ 1 ≤ n ∧ n ≤ 3 ∧ ¬ (1 < n ∧ x.getD 0 0 = 48)) := ⟨hn, by omega, by omega, hz0⟩
  obtain ⟨V, hV⟩ : ∃ V, nmS (nmP x) = V := ⟨_, rfl⟩
  have HV : Hid (nmS (nmP x) = V) := hV
  rw [hV] at none_of ⊢
  clear hV hx hn
  have hs0 : 0 < S.size := by omega
  obtain ⟨c0, hc0⟩ : ∃ c, x.getD 0 0 = c := ⟨_, rfl⟩
  have hg : S[0] = c0 := by rw [← hc0]; exact GT.out 0 hs0
  have hC0 : n = 1 ∨ ¬ c0.toNat = 48 := by
    by_cases e : n = 1
    · exact .inl e
    · exact .inr fun h => HN.out.2.2.2 ⟨by have := HN.out; omega, by rw [hc0]; exact UInt8.toNat_inj.1 h⟩
  clear hz0 hc0 hnI h1 h3
  have P : Calls Tryz.prog 44 #[.string S] w fun e w' => e = .returned V ∧ w' = w := by
    rcases hC0 with hn1 | hn2
    · subst hn1
      go_enter Tryz.func44, Tryz.ntmps44
      go_wp2_with fail
      clear hg hs0
      go_loop [4, 5] (fun d i => ∃ j : Nat, j ≤ 1 ∧ i = .int .i64 (j : Int) ∧ d = .int .i64 (vlP (x.take j) : Nat) ∧ Hid ((x.take j).all dgP = true)) (fun _ i => 1 - (intOf i).toNat)
      case atStart => exact ⟨0, Nat.zero_le _, rfl, rfl, rfl⟩
      case round =>
        obtain ⟨j, hj, rfl, rfl, hA⟩ := hrel
        by_cases hlt : j < 1
        · have hJ : (j : Int) < 1 := by omega
          have HL : Hid (j < 1) := hlt
          have hg := GT.out j (by omega)
          have NX : Hid (_ = _) := vlP_next x j (by have := HN.out; omega)
          have HD := vlP_small (x.take j) hA.out (by rw [List.length_take]; have := HN.out; omega)
          have AT : Hid (_ = _) := allP_take x j (by have := HN.out; omega)
          have AF := allP_false x j (by have := HN.out; omega)
          obtain ⟨c, hc⟩ : ∃ c, x.getD j 0 = c := ⟨_, rfl⟩
          obtain ⟨d, hd⟩ : ∃ d, vlP (x.take j) = d := ⟨_, rfl⟩
          rw [hc] at hg NX AF AT
          rw [hd] at NX HD ⊢
          clear hc hd
          by_cases hg1 : c.toNat < 48
          · have e := none_of.out fun h => by have := h.2.2.2; rw [AF (by simp [dgP]; omega)] at this; cases this
            subst e
            clear AF
            go_wp2_with fail
            go_ret2
            exact ⟨rfl, rfl⟩
          · by_cases hg2 : 57 < c.toNat
            · have e := none_of.out fun h => by have := h.2.2.2; rw [AF (by simp [dgP]; omega)] at this; cases this
              subst e
              clear AF
              go_wp2_with fail
              go_ret2
              exact ⟨rfl, rfl⟩
            · have hc1 : 48 ≤ c.toNat := by omega
              have hc2 : c.toNat ≤ 57 := by omega
              have hcI1 : (48 : Int) ≤ (c.toNat : Int) := by omega
              have hcI2 : (c.toNat : Int) ≤ 57 := by omega
              have hd1 : (d : Int) ≤ 1000 := by omega
              have AN : Hid ((x.take (j + 1)).all dgP = true) := by
                show _ = _
                have := AT.out
                rw [hA.out, Bool.true_and] at this
                rw [this]
                simp [dgP]
                omega
              clear AF HD
              go_wp2_with fail
              go_round
              case rel => exact ⟨j + 1, by have := HL.out; omega, by go_num, by rw [NX.out]; go_num, AN.out⟩
              case measure => have := HL.out; simp [intOf]; omega
        · have hJ : ¬ (j : Int) < 1 := by omega
          obtain rfl : j = 1 := by omega
          have ok : okP x := ⟨by rw [HN.out.1]; exact HN.out.2.1, by rw [HN.out.1]; exact HN.out.2.2.1, by rw [HN.out.1]; exact HN.out.2.2.2, by have := hA.out; rwa [List.take_of_length_le (Nat.le_of_eq HN.out.1)] at this⟩
          have e : V = .tuple #[.int .i64 (vlP x : Nat), .bool true] := by rw [← HV.out]; unfold nmP; rw [if_pos ok]; rfl
          subst e
          rw [List.take_of_length_le (Nat.le_of_eq HN.out.1)]
          clear ok
          go_wp2_with fail
          go_ret2
          exact ⟨rfl, rfl⟩
    · by_cases h2 : 1 < n
      · have hnI : (1 : Int) < (n : Int) := by omega
        go_enter Tryz.func44, Tryz.ntmps44
        go_wp2_with fail
        clear hg hs0 hn2
        go_loop [4, 5] (fun d i => ∃ j : Nat, j ≤ n ∧ i = .int .i64 (j : Int) ∧ d = .int .i64 (vlP (x.take j) : Nat) ∧ Hid ((x.take j).all dgP = true)) (fun _ i => n - (intOf i).toNat)
        case atStart => exact ⟨0, Nat.zero_le _, rfl, rfl, rfl⟩
        case round =>
          obtain ⟨j, hj, rfl, rfl, hA⟩ := hrel
          by_cases hlt : j < n
          · have hJ : (j : Int) < (n : Int) := by omega
            have HL : Hid (j < n) := hlt
            have hg := GT.out j (by omega)
            have NX : Hid (_ = _) := vlP_next x j (by have := HN.out; omega)
            have HD := vlP_small (x.take j) hA.out (by rw [List.length_take]; have := HN.out; omega)
            have AT : Hid (_ = _) := allP_take x j (by have := HN.out; omega)
            have AF := allP_false x j (by have := HN.out; omega)
            obtain ⟨c, hc⟩ : ∃ c, x.getD j 0 = c := ⟨_, rfl⟩
            obtain ⟨d, hd⟩ : ∃ d, vlP (x.take j) = d := ⟨_, rfl⟩
            rw [hc] at hg NX AF AT
            rw [hd] at NX HD ⊢
            clear hc hd
            by_cases hg1 : c.toNat < 48
            · have e := none_of.out fun h => by have := h.2.2.2; rw [AF (by simp [dgP]; omega)] at this; cases this
              subst e
              clear AF
              go_wp2_with fail
              go_ret2
              exact ⟨rfl, rfl⟩
            · by_cases hg2 : 57 < c.toNat
              · have e := none_of.out fun h => by have := h.2.2.2; rw [AF (by simp [dgP]; omega)] at this; cases this
                subst e
                clear AF
                go_wp2_with fail
                go_ret2
                exact ⟨rfl, rfl⟩
              · have hc1 : 48 ≤ c.toNat := by omega
                have hc2 : c.toNat ≤ 57 := by omega
                have hcI1 : (48 : Int) ≤ (c.toNat : Int) := by omega
                have hcI2 : (c.toNat : Int) ≤ 57 := by omega
                have hd1 : (d : Int) ≤ 1000 := by omega
                have AN : Hid ((x.take (j + 1)).all dgP = true) := by
                  show _ = _
                  have := AT.out
                  rw [hA.out, Bool.true_and] at this
                  rw [this]
                  simp [dgP]
                  omega
                clear AF HD
                go_wp2_with fail
                go_round
                case rel => exact ⟨j + 1, by have := HL.out; omega, by go_num, by rw [NX.out]; go_num, AN.out⟩
                case measure => have := HL.out; simp [intOf]; omega
          · have hJ : ¬ (j : Int) < (n : Int) := by omega
            obtain rfl : j = n := by omega
            have ok : okP x := ⟨by rw [HN.out.1]; exact HN.out.2.1, by rw [HN.out.1]; exact HN.out.2.2.1, by rw [HN.out.1]; exact HN.out.2.2.2, by have := hA.out; rwa [List.take_of_length_le (Nat.le_of_eq HN.out.1)] at this⟩
            have e : V = .tuple #[.int .i64 (vlP x : Nat), .bool true] := by rw [← HV.out]; unfold nmP; rw [if_pos ok]; rfl
            subst e
            rw [List.take_of_length_le (Nat.le_of_eq HN.out.1)]
            clear ok
            go_wp2_with fail
            go_ret2
            exact ⟨rfl, rfl⟩
      · obtain rfl : n = 1 := by have := HN.out; omega
        go_enter Tryz.func44, Tryz.ntmps44
        go_wp2_with fail
        clear hg hs0 hn2
        go_loop [4, 5] (fun d i => ∃ j : Nat, j ≤ 1 ∧ i = .int .i64 (j : Int) ∧ d = .int .i64 (vlP (x.take j) : Nat) ∧ Hid ((x.take j).all dgP = true)) (fun _ i => 1 - (intOf i).toNat)
        case atStart => exact ⟨0, Nat.zero_le _, rfl, rfl, rfl⟩
        case round =>
          obtain ⟨j, hj, rfl, rfl, hA⟩ := hrel
          by_cases hlt : j < 1
          · have hJ : (j : Int) < 1 := by omega
            have HL : Hid (j < 1) := hlt
            have hg := GT.out j (by omega)
            have NX : Hid (_ = _) := vlP_next x j (by have := HN.out; omega)
            have HD := vlP_small (x.take j) hA.out (by rw [List.length_take]; have := HN.out; omega)
            have AT : Hid (_ = _) := allP_take x j (by have := HN.out; omega)
            have AF := allP_false x j (by have := HN.out; omega)
            obtain ⟨c, hc⟩ : ∃ c, x.getD j 0 = c := ⟨_, rfl⟩
            obtain ⟨d, hd⟩ : ∃ d, vlP (x.take j) = d := ⟨_, rfl⟩
            rw [hc] at hg NX AF AT
            rw [hd] at NX HD ⊢
            clear hc hd
            by_cases hg1 : c.toNat < 48
            · have e := none_of.out fun h => by have := h.2.2.2; rw [AF (by simp [dgP]; omega)] at this; cases this
              subst e
              clear AF
              go_wp2_with fail
              go_ret2
              exact ⟨rfl, rfl⟩
            · by_cases hg2 : 57 < c.toNat
              · have e := none_of.out fun h => by have := h.2.2.2; rw [AF (by simp [dgP]; omega)] at this; cases this
                subst e
                clear AF
                go_wp2_with fail
                go_ret2
                exact ⟨rfl, rfl⟩
              · have hc1 : 48 ≤ c.toNat := by omega
                have hc2 : c.toNat ≤ 57 := by omega
                have hcI1 : (48 : Int) ≤ (c.toNat : Int) := by omega
                have hcI2 : (c.toNat : Int) ≤ 57 := by omega
                have hd1 : (d : Int) ≤ 1000 := by omega
                have AN : Hid ((x.take (j + 1)).all dgP = true) := by
                  show _ = _
                  have := AT.out
                  rw [hA.out, Bool.true_and] at this
                  rw [this]
                  simp [dgP]
                  omega
                clear AF HD
                go_wp2_with fail
                go_round
                case rel => exact ⟨j + 1, by have := HL.out; omega, by go_num, by rw [NX.out]; go_num, AN.out⟩
                case measure => have := HL.out; simp [intOf]; omega
          · have hJ : ¬ (j : Int) < 1 := by omega
            obtain rfl : j = 1 := by omega
            have ok : okP x := ⟨by rw [HN.out.1]; exact HN.out.2.1, by rw [HN.out.1]; exact HN.out.2.2.1, by rw [HN.out.1]; exact HN.out.2.2.2, by have := hA.out; rwa [List.take_of_length_le (Nat.le_of_eq HN.out.1)] at this⟩
            have e : V = .tuple #[.int .i64 (vlP x : Nat), .bool true] := by rw [← HV.out]; unfold nmP; rw [if_pos ok]; rfl
            subst e
            rw [List.take_of_length_le (Nat.le_of_eq HN.out.1)]
            clear ok
            go_wp2_with fail
            go_ret2
            exact ⟨rfl, rfl⟩
  exact P
end Go.Proofs.YtkfcofjmjbkekaaGreatDoor
namespace Go.Proofs.YtkfcofjmjbkekaaGreatDoor
open Go.RowKit
set_option linter.unusedVariables false

theorem num_cell {w : World} {B g c : Nat} {zs : List Int} (h : Nums w B (.slice (some ⟨g, 0, none⟩) zs.length c) zs) (i : Nat) (hi : i < zs.length) : w.cell? ⟨g, i, none⟩ = some (.int .i64 (zs.getD i 0)) := by
  have := World.ownsRow.cellAt h i (by omega)
  rw [this, List.getElem?_map, List.getD, List.getElem?_eq_getElem hi]
  rfl
theorem num_cell' {w : World} {B g n c : Nat} {zs : List Int} {y : Int} (h : Nums w B (.slice (some ⟨g, 0, none⟩) n c) zs) (i : Nat) (hi : i < n) (hy : zs.getD i 0 = y) : w.cell? ⟨g, i, none⟩ = some (.int .i64 y) := by
  obtain ⟨a, cap, hv, _, _, _⟩ := h.shape
  have hn : n = zs.length := by cases hv; rfl
  subst hn
  rw [← hy]
  exact num_cell h i hi
theorem stepW_pair {ops : Array Oper} {o : Oper} {act : Act} {w : World} {K : Act → World → Prop} {Q : Exit → Act → World → Prop} {E : Prop} (t e : TypeId) (he : Tryz.prog.underlying t = some (.slice e)) (hinfo : (Tryz.prog.info? e).map (fun i => (i.zero, i.size, i.bytes)) = some (some (.agg #[.int .i64 0, .int .i64 0]), 2, 16))
    (hgd : o.guard = none) (s x : Operand)
    (ho : o.op = .call { callee := .builtin .append, args := #[s, x], argTypes := #[t, t] }) (base : Nat) (v : Value) (rs : List (Int × Int)) (hs : act.eval s = v) (hN : Prs e w base v rs)
    (B : Nat) (a b : Int) (hx : act.eval x = .slice (some ⟨B, 0, none⟩) 1 1) (h0 : w.cell? ⟨B, 0, none⟩ = some (.int .i64 a)) (h1 : w.cell? ⟨B, 1, none⟩ = some (.int .i64 b))
    (hlen : rs.length ≤ 1000000000) (hbase : base ≤ w.heap.size)
    (h : ∀ v' w', Hid (Prs e w' base v' (rs ++ [(a, b)])) → w.grownBy w' v.ownBlock → K (act.put o.dst v') w') :
    if Region.wanted o (yielded ops act.tmps) = true then Oper.wp Tryz.prog o act w K Q else E := by
  have hw : Region.wanted o (yielded ops act.tmps) = true := by simp [Region.wanted, hgd]
  rw [if_pos hw]
  obtain ⟨i, hi, hz0, hz1, hz2⟩ := info_parts hinfo
  refine wp_append_own w s x t ho base e i _ 2 16 he hi hz0 hz1 hz2 rfl (by decide) v rs.length _ hs hN ⟨B, 0, none⟩ 1 1 (flat [(a, b)]) hx rfl ?_ (flat_one _) (by unfold maxLen; omega) (by omega) hbase ?_
  · intro j u hj
    rw [Addr.add_lit, Nat.zero_add]
    match j, hj with
    | 0, hj => rw [h0]; exact hj
    | 1, hj => rw [h1]; exact hj
    | j + 2, hj => simp [flat] at hj
  · intro v' w' hown hgrow _
    refine h v' w' ?_ hgrow
    show Prs e w' base v' (rs ++ [(a, b)])
    unfold Prs
    rw [List.length_append, flat_append]
    exact hown
theorem stepW_lane {ops : Array Oper} {o : Oper} {act : Act} {w : World} {K : Act → World → Prop} {Q : Exit → Act → World → Prop} {E : Prop} (hgd : o.guard = none) (s x : Operand)
    (ho : o.op = .call { callee := .builtin .append, args := #[s, x], argTypes := #[26, 26] }) (base : Nat) (v : Value) (rs : List Ln) (hs : act.eval s = v) (hN : Ls 58 w base v rs)
    (B : Nat) (r : Ln) (hx : act.eval x = .slice (some ⟨B, 0, none⟩) 1 1) (h0 : w.cell? ⟨B, 0, none⟩ = some (.int .i64 r.fr)) (h1 : w.cell? ⟨B, 1, none⟩ = some (.int .i64 r.dst)) (h2 : w.cell? ⟨B, 2, none⟩ = some (.int .i64 r.pg)) (h3 : w.cell? ⟨B, 3, none⟩ = some (.int .i64 r.af)) (h4 : w.cell? ⟨B, 4, none⟩ = some (.int .i64 r.tt))
    (hlen : rs.length ≤ 1000000) (hbase : base ≤ w.heap.size)
    (h : ∀ v' w', Hid (Ls 58 w' base v' (rs ++ [r])) → w.grownBy w' v.ownBlock → K (act.put o.dst v') w') :
    if Region.wanted o (yielded ops act.tmps) = true then Oper.wp Tryz.prog o act w K Q else E := by
  have hw : Region.wanted o (yielded ops act.tmps) = true := by simp [Region.wanted, hgd]
  rw [if_pos hw]
  obtain ⟨i, hi, hz0, hz1, hz2⟩ := info_parts info_lane
  refine wp_append_own w s x 26 ho base 58 i _ 5 40 Tryz.underlying26 hi hz0 hz1 hz2 rfl (by decide) v rs.length _ hs hN ⟨B, 0, none⟩ 1 1 (flat5 [r]) hx rfl ?_ (flat5_one _) (by unfold maxLen; omega) (by omega) hbase ?_
  · intro j u hj
    rw [Addr.add_lit, Nat.zero_add]
    match j, hj with
    | 0, hj => rw [h0]; exact hj
    | 1, hj => rw [h1]; exact hj
    | 2, hj => rw [h2]; exact hj
    | 3, hj => rw [h3]; exact hj
    | 4, hj => rw [h4]; exact hj
    | j + 5, hj => simp [flat5] at hj
  · intro v' w' hown hgrow _
    refine h v' w' ?_ hgrow
    show Ls 58 w' base v' (rs ++ [r])
    unfold Ls
    rw [List.length_append, flat5_append]
    exact hown
/-- The world may have grown in what is the call's own. -/
def Gn (base : Nat) (w w' : World) : Prop := ∀ (B : Nat) (a : World), Below B a w → B ≤ base → B ≤ a.heap.size → Below B a w'
theorem below_rowB {a w w' : World} {v : Value} {B base e sz n : Nat} {xs : List Value} (h : Below B a w) (g : w.grownBy w' v.ownBlock) (k : w.ownsRow base e sz v n xs) (hb : B ≤ base) (ha : B ≤ a.heap.size) : Below B a w' :=
  ⟨g.os.trans h.os, g.tape.trans h.tape, g.output.trans h.output, Nat.le_trans h.size g.size, fun j hj => by
    rw [g.block j (Nat.lt_of_lt_of_le hj (Nat.le_trans ha h.size)) (fun e => by have := (World.ownsRow.lt k j e.symm).1; omega)]
    exact h.block j hj⟩
theorem Gn.of {base : Nat} {w w' : World} (b : Below w.heap.size w w') : Gn base w w' := fun B a h _ ha => h.trans (b.mono (Nat.le_trans ha h.size))
theorem Gn.row {w w1 w' : World} {v : Value} {base e sz n : Nat} {xs : List Value} (b : Below w.heap.size w w1) (g : w1.grownBy w' v.ownBlock) (k : w1.ownsRow base e sz v n xs) : Gn base w w' := fun B a h hb ha => below_rowB (h.trans (b.mono (Nat.le_trans ha h.size))) g k hb ha
theorem Gn.trans {base : Nat} {w w1 w2 : World} (g : Gn base w w1) (h : Gn base w1 w2) : Gn base w w2 := fun B a b hb ha => h B a (g B a b hb ha) hb ha
theorem Gn.put {base : Nat} {w w' : World} (g : Gn base w w') (q : Nat) (hq : base ≤ q) (i : Nat) (u : Value) : Gn base w (w'.setCell ⟨q, i, none⟩ u) := fun B a h hb ha => (g B a h hb ha).setCell (Nat.le_trans hb hq) _
theorem Gn.self {base : Nat} {w w' : World} (g : Gn base w w') (hb : base ≤ w.heap.size) : Below base w w' := g base w (Below.refl _ _) (Nat.le_refl _) hb
theorem cell_atW {w : World} {cs : Array Value} {t : TypeId} {i n : Nat} {v : Value} (hn : w.heap.size = n) (h : cs[i]? = some v) : (w.alloc (.cells cs t)).cell? ⟨n, i, none⟩ = some v := by
  subst hn
  exact cell_new h
/-- A block as it is. -/
def Kb (w : World) (q : Nat) (cs : Array Value) (t : TypeId) : Prop := w.heap[q]? = some (.cells cs t (0, 0))
theorem Kb.cell {w : World} {q : Nat} {cs : Array Value} {t : TypeId} (h : Kb w q cs t) {i : Nat} {v : Value} (hi : cs[i]? = some v) : w.cell? ⟨q, i, none⟩ = some v := by
  unfold World.cell?
  rw [h]
  simpa using hi
theorem Kb.free {w : World} {q : Nat} {cs : Array Value} {t : TypeId} (h : Kb w q cs t) (i : Nat) : w.frozen? ⟨q, i, none⟩ = false := by
  unfold World.frozen?
  rw [h]
  simp
theorem Kb.lt {w : World} {q : Nat} {cs : Array Value} {t : TypeId} (h : Kb w q cs t) : q < w.heap.size := (Array.getElem?_eq_some_iff.1 h).1
theorem Kb.new (w : World) (cs : Array Value) (t : TypeId) : Kb (w.alloc (.cells cs t)) w.heap.size cs t := heap_alloc_new w _
theorem Kb.gr {w w' : World} {q : Nat} {cs : Array Value} {t : TypeId} {row : Option Nat} (h : Kb w q cs t) (g : w.grownBy w' row) (hn : some q ≠ row) : Kb w' q cs t := (g.block q h.lt hn).trans h
theorem Kb.keep {w w' : World} {q : Nat} {cs : Array Value} {t : TypeId} (h : Kb w q cs t) (b : Below w.heap.size w w') : Kb w' q cs t := (b.block q h.lt).trans h
theorem Kb.put {w : World} {q : Nat} {cs : Array Value} {t : TypeId} (h : Kb w q cs t) (p i : Nat) (u : Value) (hp : q ≠ p) : Kb (w.setCell ⟨p, i, none⟩ u) q cs t := (heap_setCell_other w ⟨p, i, none⟩ q u hp).trans h
theorem Kb.set {w : World} {q : Nat} {cs : Array Value} {t : TypeId} (h : Kb w q cs t) (i : Nat) (u : Value) : Kb (w.setCell ⟨q, i, none⟩ u) q (cs.setIfInBounds i u) t := heap_setCell_same w q i cs t u h
theorem Kb.row {w : World} {q base e sz n : Nat} {cs : Array Value} {t : TypeId} {v : Value} {xs : List Value} (h : Kb w q cs t) (k : w.ownsRow base e sz v n xs) (hne : e ≠ t) : v.ownBlock ≠ some q := by
  obtain ⟨h1, ⟨rfl, h3⟩ | ⟨g, cap, cur, rfl, hg, hr, rest⟩⟩ := k
  · intro e; cases e
  · intro e
    have e : g = q := by simpa [Value.ownBlock] using e
    subst e
    rw [show w.heap[g]? = _ from h] at hr
    cases hr
    exact hne rfl
theorem row_put {w : World} {q i base e sz n : Nat} {cs : Array Value} {t : TypeId} {v u : Value} {xs : List Value} (k : w.ownsRow base e sz v n xs) (h : Kb w q cs t) (hne : e ≠ t) : (w.setCell ⟨q, i, none⟩ u).ownsRow base e sz v n xs :=
  World.ownsRow.kept k (grown_set w ⟨q, i, none⟩ u) (.inr (h.row k hne))
theorem Wp.put {w : World} {base q i : Nat} {v0 v1 v2 v3 u : Value} {P : Plc} {xs : List Value} {cs : Array Value} (h : Wp w base v0 v1 v2 v3 P xs) (k : Kb w q cs 30) : Wp (w.setCell ⟨q, i, none⟩ u) base v0 v1 v2 v3 P xs :=
  ⟨row_put h.own k (by decide), h.xl, fun i x e => row_put (h.rows i x e) k (by decide), h.apart, row_put h.lanes k (by decide), row_put h.bells k (by decide), row_put h.plan k (by decide)⟩
theorem Wp.put4 {w : World} {base q : Nat} {v0 v1 v2 v3 u0 u1 u2 u3 : Value} {P : Plc} {xs : List Value} {cs : Array Value} (h : Wp w base v0 v1 v2 v3 P xs) (k : Kb w q cs 30) : Wp ((((w.setCell ⟨q, 0, none⟩ u0).setCell ⟨q, 1, none⟩ u1).setCell ⟨q, 2, none⟩ u2).setCell ⟨q, 3, none⟩ u3) base v0 v1 v2 v3 P xs :=
  (((h.put k).put (k.set 0 u0)).put ((k.set 0 u0).set 1 u1)).put (((k.set 0 u0).set 1 u1).set 2 u2)
theorem Wp.shape0 {w : World} {base : Nat} {v0 v1 v2 v3 : Value} {P : Plc} {xs : List Value} (h : Wp w base v0 v1 v2 v3 P xs) : ∃ e f, v0 = .slice e P.own.length f := by
  obtain ⟨c0, c1, c2, c3, g0, g1, g2, g3, q0, q1, q2, q3⟩ := h.shape
  exact ⟨_, _, q0⟩
theorem Wp.shape1 {w : World} {base : Nat} {v0 v1 v2 v3 : Value} {P : Plc} {xs : List Value} (h : Wp w base v0 v1 v2 v3 P xs) : ∃ e f, v1 = .slice e P.lanes.length f := by
  obtain ⟨c0, c1, c2, c3, g0, g1, g2, g3, q0, q1, q2, q3⟩ := h.shape
  exact ⟨_, _, q1⟩
theorem Wp.shape2 {w : World} {base : Nat} {v0 v1 v2 v3 : Value} {P : Plc} {xs : List Value} (h : Wp w base v0 v1 v2 v3 P xs) : ∃ e f, v2 = .slice e P.bells.length f := by
  obtain ⟨c0, c1, c2, c3, g0, g1, g2, g3, q0, q1, q2, q3⟩ := h.shape
  exact ⟨_, _, q2⟩
theorem Wp.shape3 {w : World} {base : Nat} {v0 v1 v2 v3 : Value} {P : Plc} {xs : List Value} (h : Wp w base v0 v1 v2 v3 P xs) : ∃ e f, v3 = .slice e P.plan.length f := by
  obtain ⟨c0, c1, c2, c3, g0, g1, g2, g3, q0, q1, q2, q3⟩ := h.shape
  exact ⟨_, _, q3⟩
theorem Gn.put4 {base : Nat} {w w' : World} (g : Gn base w w') (q : Nat) (hq : base ≤ q) (u0 u1 u2 u3 : Value) : Gn base w ((((w'.setCell ⟨q, 0, none⟩ u0).setCell ⟨q, 1, none⟩ u1).setCell ⟨q, 2, none⟩ u2).setCell ⟨q, 3, none⟩ u3) :=
  (((g.put q hq _ _).put q hq _ _).put q hq _ _).put q hq _ _
set_option maxRecDepth 20000 in
set_option maxHeartbeats 8000000 in
theorem i_with0 (base : Nat) (v0 v1 v2 v3 u : Value) (P : Plc) (xs : List Value) (zs : List Int) (w : World) (h : Wp w base v0 v1 v2 v3 P xs) (hu : Nums w base u zs) (ha : ∀ x ∈ xs, Apt x u) (hb : base ≤ w.heap.size) (hs : SmP P 1000) :
    Calls Tryz.prog 34 #[.agg #[v0, v1, v2, v3], .int .i64 0, u] w fun e w' => ∃ v0' v1' v2' v3' xs', e = .returned (.agg #[v0', v1', v2', v3']) ∧ Wp w' base v0' v1' v2' v3' (adP P 0 zs) xs' ∧ Gn base w w' := by
  obtain ⟨b0, b1, b2, b3, d0, d1, d2, d3, rfl, rfl, rfl, rfl⟩ := h.shape
  obtain ⟨ua, uc, hv, _, _, hg⟩ := hu.shape
  subst hv
  have HW : Hid (Wp w base _ _ _ _ P xs) := h
  have HU : Hid (Nums w base _ zs) := hu
  have HA : Hid (∀ x ∈ xs, Apt x _) := ha
  have HB : Hid (base ≤ w.heap.size ∧ xs.length ≤ 1000) := ⟨hb, by rw [h.xl]; exact hs.own⟩
  obtain ⟨n0, hn0⟩ : ∃ n, P.own.length = n := ⟨_, rfl⟩
  obtain ⟨n1, hn1⟩ : ∃ n, P.lanes.length = n := ⟨_, rfl⟩
  obtain ⟨n2, hn2⟩ : ∃ n, P.bells.length = n := ⟨_, rfl⟩
  obtain ⟨n3, hn3⟩ : ∃ n, P.plan.length = n := ⟨_, rfl⟩
  obtain ⟨m, hm⟩ : ∃ n, zs.length = n := ⟨_, rfl⟩
  rw [hn0, hn1, hn2, hn3] at HW
  rw [hm] at HU HA
  rw [hn0, hn1, hn2, hn3, hm]
  clear h hu hb hs hg hn0 hn1 hn2 hn3 ha hm
  generalize hW : (((w.alloc (.cells #[.slice b0 n0 d0, .slice b1 n1 d1, .slice b2 n2 d2, .slice b3 n3 d3] 30)).alloc (.cells #[.slice none 0 0, .slice none 0 0, .slice none 0 0, .slice none 0 0] 30)).alloc (.cells #[.slice ua m uc] 53)) = W3
  have B3 : Hid (Below w.heap.size w W3) := by show Below _ _ _; rw [← hW]; exact al (al (al (Below.refl _ _) _) _) _
  have KB : Hid (Kb W3 w.heap.size #[.slice b0 n0 d0, .slice b1 n1 d1, .slice b2 n2 d2, .slice b3 n3 d3] 30) := by show Kb _ _ _ _; rw [← hW]; exact ((Kb.new w _ _).keep (al (Below.refl _ _) _)).keep (al (Below.refl _ _) _)
  have KR : Hid (Kb W3 (w.heap.size + 1) #[.slice none 0 0, .slice none 0 0, .slice none 0 0, .slice none 0 0] 30) := by
    show Kb _ _ _ _
    rw [← hW]
    have e : (w.alloc (.cells #[.slice b0 n0 d0, .slice b1 n1 d1, .slice b2 n2 d2, .slice b3 n3 d3] 30)).heap.size = w.heap.size + 1 := by simp
    have := Kb.new (w.alloc (.cells #[.slice b0 n0 d0, .slice b1 n1 d1, .slice b2 n2 d2, .slice b3 n3 d3] 30)) #[.slice none 0 0, .slice none 0 0, .slice none 0 0, .slice none 0 0] 30
    rw [e] at this
    exact this.keep (al (Below.refl _ _) _)
  have x0 : W3.cell? ⟨w.heap.size + 1 + 1, 0, none⟩ = some (.slice ua m uc) := by rw [← hW]; exact cell_atW (by simp) rfl
  have XC : Hid (W3.cell? ⟨w.heap.size + 1 + 1, 0, none⟩ = some (.slice ua m uc)) := x0
  have S3 : Hid (base ≤ W3.heap.size) := Nat.le_trans HB.out.1 B3.out.size
  clear x0
  go_enter Tryz.func34, Tryz.ntmps34
  go_wp2_with (at_builtin; refine wp_rowsX _ rfl _ _ rfl base _ xs rfl (HW.out.keep B3.out).own (w.heap.size + 1 + 1) _ rfl XC.out rfl (by have := HB.out; omega) S3.out ?_; intro v' w' hN' hG'; have PW := (HW.out.keep B3.out).pushOwn (HU.out.keep B3.out) HA.out hN' hG'; have G1 : Hid (Gn base w w') := Gn.row B3.out hG' (HW.out.keep B3.out).own; have ht : ∀ q, w.heap.size ≤ q → some q ≠ (Value.slice b0 n0 d0).ownBlock := fun q hq e => (by have := (World.ownsRow.lt HW.out.own q e.symm).2; omega); have K1 := KB.out.gr hG' (ht _ (Nat.le_refl _)); have K2 := KR.out.gr hG' (ht _ (Nat.le_succ _)); obtain ⟨e0, f0, hv'⟩ : ∃ e f, v' = .slice e (adP P 0 zs).own.length f := PW.shape0; generalize (adP P 0 zs).own.length = m0 at hv'; subst hv'; have PWH : Hid (Wp w' base _ _ _ _ (adP P 0 zs) _) := PW; have K1H : Hid (Kb w' _ _ _) := K1; have K2H : Hid (Kb w' _ _ _) := K2; have k0 := K1.cell (i := 0) rfl; have r0 := K2.cell (i := 0) rfl; have t0 := K2.free 0; have k1 := K1.cell (i := 1) rfl; have r1 := K2.cell (i := 1) rfl; have t1 := K2.free 1; have k2 := K1.cell (i := 2) rfl; have r2 := K2.cell (i := 2) rfl; have t2 := K2.free 2; have k3 := K1.cell (i := 3) rfl; have r3 := K2.cell (i := 3) rfl; have t3 := K2.free 3; have s0 := K1.free 0; clear hN' hG' PW ht K1 K2)
  have KF : Kb _ (w.heap.size + 1) #[.slice e0 m0 f0, .slice b1 n1 d1, .slice b2 n2 d2, .slice b3 n3 d3] 30 := ((((K2H.out.put w.heap.size 0 (.slice e0 m0 f0) (by omega)).set 0 (.slice e0 m0 f0)).set 1 (.slice b1 n1 d1)).set 2 (.slice b2 n2 d2)).set 3 (.slice b3 n3 d3)
  have LD := run_loadVar_mid (P := Tryz.prog) _ (w.heap.size + 1) 0 30 #[.slice e0 m0 f0, .slice b1 n1 d1, .slice b2 n2 d2, .slice b3 n3 d3].toList _ (fun j v hj => by rw [Nat.zero_add]; exact KF.cell (by simpa using hj)) Tryz.underlying30 rfl (by kernel_rfl)
  exact bodyPost_ret (v := .agg #[.slice e0 m0 f0, .slice b1 n1 d1, .slice b2 n2 d2, .slice b3 n3 d3]) (by simp [results, Tryz.results34, asAddr]; rw [LD]) rfl ⟨_, _, _, _, _, rfl, (PWH.out.put K1H.out).put4 (K2H.out.put _ _ _ (by omega)), (G1.out.put w.heap.size HB.out.1 _ _).put4 (w.heap.size + 1) (by have := HB.out.1; omega) _ _ _ _⟩
set_option maxRecDepth 20000 in
set_option maxHeartbeats 8000000 in
theorem i_with1 (base : Nat) (v0 v1 v2 v3 u : Value) (P : Plc) (xs : List Value) (zs : List Int) (B : Nat) (w : World) (h : Wp w base v0 v1 v2 v3 P xs) (hu : Nums w B u zs) (hc : zs.length = 5) (hb : base ≤ w.heap.size) (hs : SmP P 1000) :
    Calls Tryz.prog 34 #[.agg #[v0, v1, v2, v3], .int .i64 1, u] w fun e w' => ∃ v0' v1' v2' v3' xs', e = .returned (.agg #[v0', v1', v2', v3']) ∧ Wp w' base v0' v1' v2' v3' (adP P 1 zs) xs' ∧ Gn base w w' := by
  obtain ⟨b0, b1, b2, b3, d0, d1, d2, d3, rfl, rfl, rfl, rfl⟩ := h.shape
  obtain ⟨ua, uc, hv, _, _, hg⟩ := hu.shape
  subst hv
  rw [hc] at hu hg ⊢
  obtain ⟨g, rfl⟩ := hg (by omega)
  have HW : Hid (Wp w base _ _ _ _ P xs) := h
  have HUN : Hid (Nums w B _ zs) := hu
  have HB : Hid (base ≤ w.heap.size ∧ P.lanes.length ≤ 1000) := ⟨hb, hs.lanes⟩
  obtain ⟨y0, hy0⟩ : ∃ y, zs.getD 0 0 = y := ⟨_, rfl⟩
  obtain ⟨y1, hy1⟩ : ∃ y, zs.getD 1 0 = y := ⟨_, rfl⟩
  obtain ⟨y2, hy2⟩ : ∃ y, zs.getD 2 0 = y := ⟨_, rfl⟩
  obtain ⟨y3, hy3⟩ : ∃ y, zs.getD 3 0 = y := ⟨_, rfl⟩
  obtain ⟨y4, hy4⟩ : ∃ y, zs.getD 4 0 = y := ⟨_, rfl⟩
  have z0 : w.cell? ⟨g, 0, none⟩ = some (.int .i64 y0) := num_cell' hu 0 (by decide) hy0
  have z1 : w.cell? ⟨g, 1, none⟩ = some (.int .i64 y1) := num_cell' hu 1 (by decide) hy1
  have z2 : w.cell? ⟨g, 2, none⟩ = some (.int .i64 y2) := num_cell' hu 2 (by decide) hy2
  have z3 : w.cell? ⟨g, 3, none⟩ = some (.int .i64 y3) := num_cell' hu 3 (by decide) hy3
  have z4 : w.cell? ⟨g, 4, none⟩ = some (.int .i64 y4) := num_cell' hu 4 (by decide) hy4
  have HY : Hid (zs.getD 0 0 = y0 ∧ zs.getD 1 0 = y1 ∧ zs.getD 2 0 = y2 ∧ zs.getD 3 0 = y3 ∧ zs.getD 4 0 = y4) := ⟨hy0, hy1, hy2, hy3, hy4⟩
  have HZ : Hid (w.cell? ⟨g, 0, none⟩ = some (.int .i64 y0) ∧ w.cell? ⟨g, 1, none⟩ = some (.int .i64 y1) ∧ w.cell? ⟨g, 2, none⟩ = some (.int .i64 y2) ∧ w.cell? ⟨g, 3, none⟩ = some (.int .i64 y3) ∧ w.cell? ⟨g, 4, none⟩ = some (.int .i64 y4)) := ⟨z0, z1, z2, z3, z4⟩
  obtain ⟨n0, hn0⟩ : ∃ n, P.own.length = n := ⟨_, rfl⟩
  obtain ⟨n1, hn1⟩ : ∃ n, P.lanes.length = n := ⟨_, rfl⟩
  obtain ⟨n2, hn2⟩ : ∃ n, P.bells.length = n := ⟨_, rfl⟩
  obtain ⟨n3, hn3⟩ : ∃ n, P.plan.length = n := ⟨_, rfl⟩
  rw [hn0, hn1, hn2, hn3] at HW
  rw [hn0, hn1, hn2, hn3]
  clear h hu hb hs hn0 hn1 hn2 hn3 hc hg hy0 z0 hy1 z1 hy2 z2 hy3 z3 hy4 z4
  generalize hW : ((w.alloc (.cells #[.slice b0 n0 d0, .slice b1 n1 d1, .slice b2 n2 d2, .slice b3 n3 d3] 30)).alloc (.cells #[.slice none 0 0, .slice none 0 0, .slice none 0 0, .slice none 0 0] 30)) = W2
  have B2 : Hid (Below w.heap.size w W2) := by show Below _ _ _; rw [← hW]; exact al (al (Below.refl _ _) _) _
  have KB2 : Hid (Kb W2 w.heap.size #[.slice b0 n0 d0, .slice b1 n1 d1, .slice b2 n2 d2, .slice b3 n3 d3] 30) := by show Kb _ _ _ _; rw [← hW]; exact (Kb.new w _ _).keep (al (Below.refl _ _) _)
  have KR2 : Hid (Kb W2 (w.heap.size + 1) #[.slice none 0 0, .slice none 0 0, .slice none 0 0, .slice none 0 0] 30) := by
    show Kb _ _ _ _
    rw [← hW]
    have e : (w.alloc (.cells #[.slice b0 n0 d0, .slice b1 n1 d1, .slice b2 n2 d2, .slice b3 n3 d3] 30)).heap.size = w.heap.size + 1 := by simp
    have := Kb.new (w.alloc (.cells #[.slice b0 n0 d0, .slice b1 n1 d1, .slice b2 n2 d2, .slice b3 n3 d3] 30)) #[.slice none 0 0, .slice none 0 0, .slice none 0 0, .slice none 0 0] 30
    rw [e] at this
    exact this
  go_enter Tryz.func34, Tryz.ntmps34
  go_wp2_with fail
  obtain ⟨Sw, hSw⟩ : ∃ Sw : World → Prop, Sw = fun w' => w'.cell? ⟨w.heap.size, 1, none⟩ = some (.slice b1 n1 d1) ∧ w'.cell? ⟨g, 0, none⟩ = some (.int .i64 y0) ∧ w'.cell? ⟨g, 1, none⟩ = some (.int .i64 y1) ∧ w'.cell? ⟨g, 2, none⟩ = some (.int .i64 y2) ∧ w'.cell? ⟨g, 3, none⟩ = some (.int .i64 y3) ∧ w'.cell? ⟨g, 4, none⟩ = some (.int .i64 y4) := ⟨_, rfl⟩
  refine hz_region (fun w' => w'.cell? ⟨w.heap.size, 1, none⟩ = some (.slice b1 n1 d1) ∧ w'.cell? ⟨g, 0, none⟩ = some (.int .i64 y0) ∧ w'.cell? ⟨g, 1, none⟩ = some (.int .i64 y1) ∧ w'.cell? ⟨g, 2, none⟩ = some (.int .i64 y2) ∧ w'.cell? ⟨g, 3, none⟩ = some (.int .i64 y3) ∧ w'.cell? ⟨g, 4, none⟩ = some (.int .i64 y4)) 21 (by kernel_rfl) ?_
  have BD : Hid (Below W2.heap.size W2 W2.drew) := (Below.refl _ _).drew
  have B0 : Hid (Below w.heap.size w W2.drew) := on B2.out BD.out
  have KB : Hid (Kb W2.drew _ _ _) := KB2.out.keep BD.out
  have KR : Hid (Kb W2.drew _ _ _) := KR2.out.keep BD.out
  have SS : Hid (W2.drew.cell? ⟨w.heap.size, 1, none⟩ = some (.slice b1 n1 d1) ∧ W2.drew.cell? ⟨g, 0, none⟩ = some (.int .i64 y0) ∧ W2.drew.cell? ⟨g, 1, none⟩ = some (.int .i64 y1) ∧ W2.drew.cell? ⟨g, 2, none⟩ = some (.int .i64 y2) ∧ W2.drew.cell? ⟨g, 3, none⟩ = some (.int .i64 y3) ∧ W2.drew.cell? ⟨g, 4, none⟩ = some (.int .i64 y4)) := ⟨KB.out.cell (i := 1) rfl, cell_keep B0.out HZ.out.1, cell_keep B0.out HZ.out.2.1, cell_keep B0.out HZ.out.2.2.1, cell_keep B0.out HZ.out.2.2.2.1, cell_keep B0.out HZ.out.2.2.2.2⟩
  clear BD KB2 KR2 hSw Sw hW
  generalize W2.drew = u0 at *
  refine hz_take (i := 0) (v := (.pointer (some ⟨w.heap.size, 1, none⟩))) rfl rfl (by kernel_rfl) (by decide) (by kernel_rfl) (by kernel_rfl) (by kernel_rfl) (fun _ _ _ h => h) (Or.inl ⟨by rfl, fun w' hs => by go_simp⟩) SS.out ?_
  change Hz _ _ _ _ _ _ _ _ (Act.put _ (some 18) _) _
  simp only [Act.put, List.setIfInBounds_toArray, List.set_cons_zero, List.set_cons_succ]
  refine hz_take (i := 1) (v := (.slice b1 n1 d1)) rfl rfl (by kernel_rfl) (by decide) (by kernel_rfl) (by kernel_rfl) (by kernel_rfl) (fun _ _ _ h => h) (Or.inl ⟨by rfl, fun w' hs => by have h0 := hs.1; go_simp⟩) SS.out ?_
  change Hz _ _ _ _ _ _ _ _ (Act.put _ (some 19) _) _
  simp only [Act.put, List.setIfInBounds_toArray, List.set_cons_zero, List.set_cons_succ]
  refine hz_take (i := 2) (v := (.slice (some ⟨g, 0, none⟩) 5 uc)) rfl rfl (by kernel_rfl) (by decide) (by kernel_rfl) (by kernel_rfl) (by kernel_rfl) (fun _ _ _ h => h) (Or.inl ⟨by rfl, fun w' hs => by go_simp⟩) SS.out ?_
  change Hz _ _ _ _ _ _ _ _ (Act.put _ (some 20) _) _
  simp only [Act.put, List.setIfInBounds_toArray, List.set_cons_zero, List.set_cons_succ]
  refine hz_take (i := 3) (v := (.pointer (some ⟨g, 0, none⟩))) rfl rfl (by kernel_rfl) (by decide) (by kernel_rfl) (by kernel_rfl) (by kernel_rfl) (fun _ _ _ h => h) (Or.inl ⟨by rfl, fun w' hs => by go_simp⟩) SS.out ?_
  change Hz _ _ _ _ _ _ _ _ (Act.put _ (some 21) _) _
  simp only [Act.put, List.setIfInBounds_toArray, List.set_cons_zero, List.set_cons_succ]
  refine hz_take (i := 4) (v := (.int .i64 y0)) rfl rfl (by kernel_rfl) (by decide) (by kernel_rfl) (by kernel_rfl) (by kernel_rfl) (fun _ _ _ h => h) (Or.inl ⟨by rfl, fun w' hs => by have h0 := hs.2.1; go_simp⟩) SS.out ?_
  change Hz _ _ _ _ _ _ _ _ (Act.put _ (some 22) _) _
  simp only [Act.put, List.setIfInBounds_toArray, List.set_cons_zero, List.set_cons_succ]
  refine hz_take (i := 5) (v := (.slice (some ⟨g, 0, none⟩) 5 uc)) rfl rfl (by kernel_rfl) (by decide) (by kernel_rfl) (by kernel_rfl) (by kernel_rfl) (fun _ _ _ h => h) (Or.inl ⟨by rfl, fun w' hs => by go_simp⟩) SS.out ?_
  change Hz _ _ _ _ _ _ _ _ (Act.put _ (some 23) _) _
  simp only [Act.put, List.setIfInBounds_toArray, List.set_cons_zero, List.set_cons_succ]
  refine hz_take (i := 6) (v := (.pointer (some ⟨g, 1, none⟩))) rfl rfl (by kernel_rfl) (by decide) (by kernel_rfl) (by kernel_rfl) (by kernel_rfl) (fun _ _ _ h => h) (Or.inl ⟨by rfl, fun w' hs => by go_simp⟩) SS.out ?_
  change Hz _ _ _ _ _ _ _ _ (Act.put _ (some 24) _) _
  simp only [Act.put, List.setIfInBounds_toArray, List.set_cons_zero, List.set_cons_succ]
  refine hz_take (i := 7) (v := (.int .i64 y1)) rfl rfl (by kernel_rfl) (by decide) (by kernel_rfl) (by kernel_rfl) (by kernel_rfl) (fun _ _ _ h => h) (Or.inl ⟨by rfl, fun w' hs => by have h0 := hs.2.2.1; go_simp⟩) SS.out ?_
  change Hz _ _ _ _ _ _ _ _ (Act.put _ (some 25) _) _
  simp only [Act.put, List.setIfInBounds_toArray, List.set_cons_zero, List.set_cons_succ]
  refine hz_take (i := 8) (v := (.slice (some ⟨g, 0, none⟩) 5 uc)) rfl rfl (by kernel_rfl) (by decide) (by kernel_rfl) (by kernel_rfl) (by kernel_rfl) (fun _ _ _ h => h) (Or.inl ⟨by rfl, fun w' hs => by go_simp⟩) SS.out ?_
  change Hz _ _ _ _ _ _ _ _ (Act.put _ (some 26) _) _
  simp only [Act.put, List.setIfInBounds_toArray, List.set_cons_zero, List.set_cons_succ]
  refine hz_take (i := 9) (v := (.pointer (some ⟨g, 2, none⟩))) rfl rfl (by kernel_rfl) (by decide) (by kernel_rfl) (by kernel_rfl) (by kernel_rfl) (fun _ _ _ h => h) (Or.inl ⟨by rfl, fun w' hs => by go_simp⟩) SS.out ?_
  change Hz _ _ _ _ _ _ _ _ (Act.put _ (some 27) _) _
  simp only [Act.put, List.setIfInBounds_toArray, List.set_cons_zero, List.set_cons_succ]
  refine hz_take (i := 10) (v := (.int .i64 y2)) rfl rfl (by kernel_rfl) (by decide) (by kernel_rfl) (by kernel_rfl) (by kernel_rfl) (fun _ _ _ h => h) (Or.inl ⟨by rfl, fun w' hs => by have h0 := hs.2.2.2.1; go_simp⟩) SS.out ?_
  change Hz _ _ _ _ _ _ _ _ (Act.put _ (some 28) _) _
  simp only [Act.put, List.setIfInBounds_toArray, List.set_cons_zero, List.set_cons_succ]
  refine hz_take (i := 11) (v := (.slice (some ⟨g, 0, none⟩) 5 uc)) rfl rfl (by kernel_rfl) (by decide) (by kernel_rfl) (by kernel_rfl) (by kernel_rfl) (fun _ _ _ h => h) (Or.inl ⟨by rfl, fun w' hs => by go_simp⟩) SS.out ?_
  change Hz _ _ _ _ _ _ _ _ (Act.put _ (some 29) _) _
  simp only [Act.put, List.setIfInBounds_toArray, List.set_cons_zero, List.set_cons_succ]
  refine hz_take (i := 12) (v := (.pointer (some ⟨g, 3, none⟩))) rfl rfl (by kernel_rfl) (by decide) (by kernel_rfl) (by kernel_rfl) (by kernel_rfl) (fun _ _ _ h => h) (Or.inl ⟨by rfl, fun w' hs => by go_simp⟩) SS.out ?_
  change Hz _ _ _ _ _ _ _ _ (Act.put _ (some 30) _) _
  simp only [Act.put, List.setIfInBounds_toArray, List.set_cons_zero, List.set_cons_succ]
  refine hz_take (i := 13) (v := (.int .i64 y3)) rfl rfl (by kernel_rfl) (by decide) (by kernel_rfl) (by kernel_rfl) (by kernel_rfl) (fun _ _ _ h => h) (Or.inl ⟨by rfl, fun w' hs => by have h0 := hs.2.2.2.2.1; go_simp⟩) SS.out ?_
  change Hz _ _ _ _ _ _ _ _ (Act.put _ (some 31) _) _
  simp only [Act.put, List.setIfInBounds_toArray, List.set_cons_zero, List.set_cons_succ]
  refine hz_take (i := 14) (v := (.slice (some ⟨g, 0, none⟩) 5 uc)) rfl rfl (by kernel_rfl) (by decide) (by kernel_rfl) (by kernel_rfl) (by kernel_rfl) (fun _ _ _ h => h) (Or.inl ⟨by rfl, fun w' hs => by go_simp⟩) SS.out ?_
  change Hz _ _ _ _ _ _ _ _ (Act.put _ (some 32) _) _
  simp only [Act.put, List.setIfInBounds_toArray, List.set_cons_zero, List.set_cons_succ]
  refine hz_take (i := 15) (v := (.pointer (some ⟨g, 4, none⟩))) rfl rfl (by kernel_rfl) (by decide) (by kernel_rfl) (by kernel_rfl) (by kernel_rfl) (fun _ _ _ h => h) (Or.inl ⟨by rfl, fun w' hs => by go_simp⟩) SS.out ?_
  change Hz _ _ _ _ _ _ _ _ (Act.put _ (some 33) _) _
  simp only [Act.put, List.setIfInBounds_toArray, List.set_cons_zero, List.set_cons_succ]
  refine hz_take (i := 16) (v := (.int .i64 y4)) rfl rfl (by kernel_rfl) (by decide) (by kernel_rfl) (by kernel_rfl) (by kernel_rfl) (fun _ _ _ h => h) (Or.inl ⟨by rfl, fun w' hs => by have h0 := hs.2.2.2.2.2; go_simp⟩) SS.out ?_
  change Hz _ _ _ _ _ _ _ _ (Act.put _ (some 34) _) _
  simp only [Act.put, List.setIfInBounds_toArray, List.set_cons_zero, List.set_cons_succ]
  refine hz_take (i := 17) (v := (.agg #[.int .i64 y0, .int .i64 y1, .int .i64 y2, .int .i64 y3, .int .i64 y4])) rfl rfl (by kernel_rfl) (by decide) (by kernel_rfl) (by kernel_rfl) (by kernel_rfl) (fun _ _ _ h => h) (Or.inl ⟨by rfl, fun w' hs => by go_simp⟩) SS.out ?_
  change Hz _ _ _ _ _ _ _ _ (Act.put _ (some 35) _) _
  simp only [Act.put, List.setIfInBounds_toArray, List.set_cons_zero, List.set_cons_succ]
  refine hz_ready (rs := [18]) (by kernel_rfl) (by simp) ?_
  refine hz_cons (hz_next rfl (fun K hK => ?_)) hz_nil
  rw [if_pos (by rfl)]
  go_simp
  have x0 : (u0.alloc (.cells #[.int .i64 y0, .int .i64 y1, .int .i64 y2, .int .i64 y3, .int .i64 y4] 58)).cell? ⟨u0.heap.size, 0, none⟩ = some (.int .i64 y0) := cell_new rfl
  have x1 : (u0.alloc (.cells #[.int .i64 y0, .int .i64 y1, .int .i64 y2, .int .i64 y3, .int .i64 y4] 58)).cell? ⟨u0.heap.size, 1, none⟩ = some (.int .i64 y1) := cell_new rfl
  have x2 : (u0.alloc (.cells #[.int .i64 y0, .int .i64 y1, .int .i64 y2, .int .i64 y3, .int .i64 y4] 58)).cell? ⟨u0.heap.size, 2, none⟩ = some (.int .i64 y2) := cell_new rfl
  have x3 : (u0.alloc (.cells #[.int .i64 y0, .int .i64 y1, .int .i64 y2, .int .i64 y3, .int .i64 y4] 58)).cell? ⟨u0.heap.size, 3, none⟩ = some (.int .i64 y3) := cell_new rfl
  have x4 : (u0.alloc (.cells #[.int .i64 y0, .int .i64 y1, .int .i64 y2, .int .i64 y3, .int .i64 y4] 58)).cell? ⟨u0.heap.size, 4, none⟩ = some (.int .i64 y4) := cell_new rfl
  have BA : Hid (Below u0.heap.size u0 (u0.alloc (.cells #[.int .i64 y0, .int .i64 y1, .int .i64 y2, .int .i64 y3, .int .i64 y4] 58))) := al (Below.refl _ _) _
  have SA : Hid ((u0.alloc (.cells #[.int .i64 y0, .int .i64 y1, .int .i64 y2, .int .i64 y3, .int .i64 y4] 58)).cell? ⟨w.heap.size, 1, none⟩ = some (.slice b1 n1 d1) ∧ (u0.alloc (.cells #[.int .i64 y0, .int .i64 y1, .int .i64 y2, .int .i64 y3, .int .i64 y4] 58)).cell? ⟨g, 0, none⟩ = some (.int .i64 y0) ∧ (u0.alloc (.cells #[.int .i64 y0, .int .i64 y1, .int .i64 y2, .int .i64 y3, .int .i64 y4] 58)).cell? ⟨g, 1, none⟩ = some (.int .i64 y1) ∧ (u0.alloc (.cells #[.int .i64 y0, .int .i64 y1, .int .i64 y2, .int .i64 y3, .int .i64 y4] 58)).cell? ⟨g, 2, none⟩ = some (.int .i64 y2) ∧ (u0.alloc (.cells #[.int .i64 y0, .int .i64 y1, .int .i64 y2, .int .i64 y3, .int .i64 y4] 58)).cell? ⟨g, 3, none⟩ = some (.int .i64 y3) ∧ (u0.alloc (.cells #[.int .i64 y0, .int .i64 y1, .int .i64 y2, .int .i64 y3, .int .i64 y4] 58)).cell? ⟨g, 4, none⟩ = some (.int .i64 y4)) := ⟨cell_keep BA.out SS.out.1, cell_keep BA.out SS.out.2.1, cell_keep BA.out SS.out.2.2.1, cell_keep BA.out SS.out.2.2.2.1, cell_keep BA.out SS.out.2.2.2.2.1, cell_keep BA.out SS.out.2.2.2.2.2⟩
  refine hK.out _ _ (fun _ => SA.out) ?_
  clear hK K
  have XC : Hid ((u0.alloc (.cells #[.int .i64 y0, .int .i64 y1, .int .i64 y2, .int .i64 y3, .int .i64 y4] 58)).cell? ⟨u0.heap.size, 0, none⟩ = some (.int .i64 y0) ∧ (u0.alloc (.cells #[.int .i64 y0, .int .i64 y1, .int .i64 y2, .int .i64 y3, .int .i64 y4] 58)).cell? ⟨u0.heap.size, 1, none⟩ = some (.int .i64 y1) ∧ (u0.alloc (.cells #[.int .i64 y0, .int .i64 y1, .int .i64 y2, .int .i64 y3, .int .i64 y4] 58)).cell? ⟨u0.heap.size, 2, none⟩ = some (.int .i64 y2) ∧ (u0.alloc (.cells #[.int .i64 y0, .int .i64 y1, .int .i64 y2, .int .i64 y3, .int .i64 y4] 58)).cell? ⟨u0.heap.size, 3, none⟩ = some (.int .i64 y3) ∧ (u0.alloc (.cells #[.int .i64 y0, .int .i64 y1, .int .i64 y2, .int .i64 y3, .int .i64 y4] 58)).cell? ⟨u0.heap.size, 4, none⟩ = some (.int .i64 y4)) := ⟨x0, x1, x2, x3, x4⟩
  clear x0 x1 x2 x3 x4
  have B3 : Hid (Below w.heap.size w (u0.alloc (.cells #[.int .i64 y0, .int .i64 y1, .int .i64 y2, .int .i64 y3, .int .i64 y4] 58))) := on B0.out BA.out
  have S3 : Hid (base ≤ (u0.alloc (.cells #[.int .i64 y0, .int .i64 y1, .int .i64 y2, .int .i64 y3, .int .i64 y4] 58)).heap.size) := Nat.le_trans HB.out.1 B3.out.size
  replace KB : Hid (Kb (u0.alloc (.cells #[.int .i64 y0, .int .i64 y1, .int .i64 y2, .int .i64 y3, .int .i64 y4] 58)) _ _ _) := KB.out.keep BA.out
  replace KR : Hid (Kb _ _ _ _) := KR.out.keep BA.out
  generalize (u0.alloc (.cells #[.int .i64 y0, .int .i64 y1, .int .i64 y2, .int .i64 y3, .int .i64 y4] 58)) = u2 at *
  generalize u0.heap.size = s0 at *
  clear BA SS
  refine hz_ready (rs := [19]) (by kernel_rfl) (by simp) ?_
  refine hz_cons (hz_next rfl (fun K hK => ?_)) hz_nil
  refine stepW_lane rfl (.tmp 19) (.tmp 36) rfl base (.slice b1 n1 d1) P.lanes rfl (HW.out.keep B3.out).lanes s0 ⟨y0, y1, y2, y3, y4⟩ rfl XC.out.1 XC.out.2.1 XC.out.2.2.1 XC.out.2.2.2.1 XC.out.2.2.2.2 (by have := HB.out; omega) S3.out ?_
  intro v' w' hN' hG'
  change K (Act.put _ (some 37) _) _
  simp only [Act.put, List.setIfInBounds_toArray, List.set_cons_zero, List.set_cons_succ]
  have PW := (HW.out.keep B3.out).pushLane (zs := zs) (by rw [HY.out.1, HY.out.2.1, HY.out.2.2.1, HY.out.2.2.2.1, HY.out.2.2.2.2]; exact hN'.out) hG'
  have G1 : Hid (Gn base w w') := Gn.row B3.out hG' (HW.out.keep B3.out).lanes
  have K1 := KB.out.gr hG' (fun e => KB.out.row (HW.out.keep B3.out).lanes (by decide) e.symm)
  have K2H : Hid (Kb w' _ _ _) := KR.out.gr hG' (fun e => KR.out.row (HW.out.keep B3.out).lanes (by decide) e.symm)
  obtain ⟨e1, f1, hv'⟩ : ∃ e f, v' = .slice e (adP P 1 zs).lanes.length f := PW.shape1
  generalize (adP P 1 zs).lanes.length = m1 at hv'
  subst hv'
  have PWH : Hid (Wp w' base _ _ _ _ (adP P 1 zs) _) := PW
  have K1H : Hid (Kb w' _ _ _) := K1
  have SB : Hid (w'.cell? ⟨w.heap.size, 1, none⟩ = some (.slice b1 n1 d1) ∧ w'.cell? ⟨g, 0, none⟩ = some (.int .i64 y0) ∧ w'.cell? ⟨g, 1, none⟩ = some (.int .i64 y1) ∧ w'.cell? ⟨g, 2, none⟩ = some (.int .i64 y2) ∧ w'.cell? ⟨g, 3, none⟩ = some (.int .i64 y3) ∧ w'.cell? ⟨g, 4, none⟩ = some (.int .i64 y4)) := ⟨K1.cell (i := 1) rfl, num_cell' (rowW (HUN.out.keep B3.out) (HW.out.keep B3.out).lanes hG' (by decide)) 0 (by decide) HY.out.1, num_cell' (rowW (HUN.out.keep B3.out) (HW.out.keep B3.out).lanes hG' (by decide)) 1 (by decide) HY.out.2.1, num_cell' (rowW (HUN.out.keep B3.out) (HW.out.keep B3.out).lanes hG' (by decide)) 2 (by decide) HY.out.2.2.1, num_cell' (rowW (HUN.out.keep B3.out) (HW.out.keep B3.out).lanes hG' (by decide)) 3 (by decide) HY.out.2.2.2.1, num_cell' (rowW (HUN.out.keep B3.out) (HW.out.keep B3.out).lanes hG' (by decide)) 4 (by decide) HY.out.2.2.2.2⟩
  refine hK.out _ _ (fun _ => SB.out) ?_
  clear hK K hN' hG' PW SA
  refine hz_take (i := 20) (v := (.pointer (some ⟨w.heap.size, 1, none⟩))) rfl rfl (by kernel_rfl) (by decide) (by kernel_rfl) (by kernel_rfl) (by kernel_rfl) (fun _ _ _ h => h) (Or.inl ⟨by rfl, fun w' hs => by go_simp⟩) SB.out ?_
  change Hz _ _ _ _ _ _ _ _ (Act.put _ (some 38) _) _
  simp only [Act.put, List.setIfInBounds_toArray, List.set_cons_zero, List.set_cons_succ]
  have s1 := K1H.out.free 1
  have k1 := K1H.out.cell (i := 1) rfl
  refine hz_ready (rs := [21]) (by kernel_rfl) (by simp) ?_
  refine hz_cons (hz_next rfl (fun K hK => ?_)) hz_nil
  rw [if_pos (by rfl)]
  have lq := K1H.out.lt
  go_simp
  clear s1 k1 lq
  refine hK.out _ _ (fun e => absurd rfl e) ?_
  clear hK K
  refine hz_done (by kernel_rfl) ?_
  have k0 := K1H.out.cell (i := 0) rfl
  have r0 := K2H.out.cell (i := 0) rfl
  have t0 := K2H.out.free 0
  have k1 := K1H.out.cell (i := 1) rfl
  have r1 := K2H.out.cell (i := 1) rfl
  have t1 := K2H.out.free 1
  have k2 := K1H.out.cell (i := 2) rfl
  have r2 := K2H.out.cell (i := 2) rfl
  have t2 := K2H.out.free 2
  have k3 := K1H.out.cell (i := 3) rfl
  have r3 := K2H.out.cell (i := 3) rfl
  have t3 := K2H.out.free 3
  go_wp2_with fail
  have KF : Kb _ (w.heap.size + 1) #[.slice b0 n0 d0, .slice e1 m1 f1, .slice b2 n2 d2, .slice b3 n3 d3] 30 := ((((K2H.out.put w.heap.size 1 (.slice e1 m1 f1) (by omega)).set 0 (.slice b0 n0 d0)).set 1 (.slice e1 m1 f1)).set 2 (.slice b2 n2 d2)).set 3 (.slice b3 n3 d3)
  have LD := run_loadVar_mid (P := Tryz.prog) _ (w.heap.size + 1) 0 30 #[.slice b0 n0 d0, .slice e1 m1 f1, .slice b2 n2 d2, .slice b3 n3 d3].toList _ (fun j v hj => by rw [Nat.zero_add]; exact KF.cell (by simpa using hj)) Tryz.underlying30 rfl (by kernel_rfl)
  exact bodyPost_ret (v := .agg #[.slice b0 n0 d0, .slice e1 m1 f1, .slice b2 n2 d2, .slice b3 n3 d3]) (by simp [results, Tryz.results34, asAddr]; rw [LD]) rfl ⟨_, _, _, _, _, rfl, (PWH.out.put K1H.out).put4 (K2H.out.put _ _ _ (by omega)), (G1.out.put w.heap.size HB.out.1 _ _).put4 (w.heap.size + 1) (by have := HB.out.1; omega) _ _ _ _⟩
set_option maxRecDepth 20000 in
set_option maxHeartbeats 8000000 in
theorem i_with2 (base : Nat) (v0 v1 v2 v3 u : Value) (P : Plc) (xs : List Value) (zs : List Int) (B : Nat) (w : World) (h : Wp w base v0 v1 v2 v3 P xs) (hu : Nums w B u zs) (hc : zs.length = 2) (hb : base ≤ w.heap.size) (hs : SmP P 1000) :
    Calls Tryz.prog 34 #[.agg #[v0, v1, v2, v3], .int .i64 2, u] w fun e w' => ∃ v0' v1' v2' v3' xs', e = .returned (.agg #[v0', v1', v2', v3']) ∧ Wp w' base v0' v1' v2' v3' (adP P 2 zs) xs' ∧ Gn base w w' := by
  obtain ⟨b0, b1, b2, b3, d0, d1, d2, d3, rfl, rfl, rfl, rfl⟩ := h.shape
  obtain ⟨ua, uc, hv, _, _, hg⟩ := hu.shape
  subst hv
  rw [hc] at hu hg ⊢
  obtain ⟨g, rfl⟩ := hg (by omega)
  have HW : Hid (Wp w base _ _ _ _ P xs) := h
  have HUN : Hid (Nums w B _ zs) := hu
  have HB : Hid (base ≤ w.heap.size ∧ P.bells.length ≤ 1000) := ⟨hb, hs.bells⟩
  obtain ⟨y0, hy0⟩ : ∃ y, zs.getD 0 0 = y := ⟨_, rfl⟩
  obtain ⟨y1, hy1⟩ : ∃ y, zs.getD 1 0 = y := ⟨_, rfl⟩
  have z0 : w.cell? ⟨g, 0, none⟩ = some (.int .i64 y0) := num_cell' hu 0 (by decide) hy0
  have z1 : w.cell? ⟨g, 1, none⟩ = some (.int .i64 y1) := num_cell' hu 1 (by decide) hy1
  have HY : Hid (zs.getD 0 0 = y0 ∧ zs.getD 1 0 = y1) := ⟨hy0, hy1⟩
  have HZ : Hid (w.cell? ⟨g, 0, none⟩ = some (.int .i64 y0) ∧ w.cell? ⟨g, 1, none⟩ = some (.int .i64 y1)) := ⟨z0, z1⟩
  obtain ⟨n0, hn0⟩ : ∃ n, P.own.length = n := ⟨_, rfl⟩
  obtain ⟨n1, hn1⟩ : ∃ n, P.lanes.length = n := ⟨_, rfl⟩
  obtain ⟨n2, hn2⟩ : ∃ n, P.bells.length = n := ⟨_, rfl⟩
  obtain ⟨n3, hn3⟩ : ∃ n, P.plan.length = n := ⟨_, rfl⟩
  rw [hn0, hn1, hn2, hn3] at HW
  rw [hn0, hn1, hn2, hn3]
  clear h hu hb hs hn0 hn1 hn2 hn3 hc hg hy0 z0 hy1 z1
  generalize hW : ((w.alloc (.cells #[.slice b0 n0 d0, .slice b1 n1 d1, .slice b2 n2 d2, .slice b3 n3 d3] 30)).alloc (.cells #[.slice none 0 0, .slice none 0 0, .slice none 0 0, .slice none 0 0] 30)) = W2
  have B2 : Hid (Below w.heap.size w W2) := by show Below _ _ _; rw [← hW]; exact al (al (Below.refl _ _) _) _
  have KB2 : Hid (Kb W2 w.heap.size #[.slice b0 n0 d0, .slice b1 n1 d1, .slice b2 n2 d2, .slice b3 n3 d3] 30) := by show Kb _ _ _ _; rw [← hW]; exact (Kb.new w _ _).keep (al (Below.refl _ _) _)
  have KR2 : Hid (Kb W2 (w.heap.size + 1) #[.slice none 0 0, .slice none 0 0, .slice none 0 0, .slice none 0 0] 30) := by
    show Kb _ _ _ _
    rw [← hW]
    have e : (w.alloc (.cells #[.slice b0 n0 d0, .slice b1 n1 d1, .slice b2 n2 d2, .slice b3 n3 d3] 30)).heap.size = w.heap.size + 1 := by simp
    have := Kb.new (w.alloc (.cells #[.slice b0 n0 d0, .slice b1 n1 d1, .slice b2 n2 d2, .slice b3 n3 d3] 30)) #[.slice none 0 0, .slice none 0 0, .slice none 0 0, .slice none 0 0] 30
    rw [e] at this
    exact this
  go_enter Tryz.func34, Tryz.ntmps34
  go_wp2_with fail
  obtain ⟨Sw, hSw⟩ : ∃ Sw : World → Prop, Sw = fun w' => w'.cell? ⟨w.heap.size, 2, none⟩ = some (.slice b2 n2 d2) ∧ w'.cell? ⟨g, 0, none⟩ = some (.int .i64 y0) ∧ w'.cell? ⟨g, 1, none⟩ = some (.int .i64 y1) := ⟨_, rfl⟩
  refine hz_region (fun w' => w'.cell? ⟨w.heap.size, 2, none⟩ = some (.slice b2 n2 d2) ∧ w'.cell? ⟨g, 0, none⟩ = some (.int .i64 y0) ∧ w'.cell? ⟨g, 1, none⟩ = some (.int .i64 y1)) 12 (by kernel_rfl) ?_
  have BD : Hid (Below W2.heap.size W2 W2.drew) := (Below.refl _ _).drew
  have B0 : Hid (Below w.heap.size w W2.drew) := on B2.out BD.out
  have KB : Hid (Kb W2.drew _ _ _) := KB2.out.keep BD.out
  have KR : Hid (Kb W2.drew _ _ _) := KR2.out.keep BD.out
  have SS : Hid (W2.drew.cell? ⟨w.heap.size, 2, none⟩ = some (.slice b2 n2 d2) ∧ W2.drew.cell? ⟨g, 0, none⟩ = some (.int .i64 y0) ∧ W2.drew.cell? ⟨g, 1, none⟩ = some (.int .i64 y1)) := ⟨KB.out.cell (i := 2) rfl, cell_keep B0.out HZ.out.1, cell_keep B0.out HZ.out.2⟩
  clear BD KB2 KR2 hSw Sw hW
  generalize W2.drew = u0 at *
  refine hz_take (i := 0) (v := (.pointer (some ⟨w.heap.size, 2, none⟩))) rfl rfl (by kernel_rfl) (by decide) (by kernel_rfl) (by kernel_rfl) (by kernel_rfl) (fun _ _ _ h => h) (Or.inl ⟨by rfl, fun w' hs => by go_simp⟩) SS.out ?_
  change Hz _ _ _ _ _ _ _ _ (Act.put _ (some 41) _) _
  simp only [Act.put, List.setIfInBounds_toArray, List.set_cons_zero, List.set_cons_succ]
  refine hz_take (i := 1) (v := (.slice b2 n2 d2)) rfl rfl (by kernel_rfl) (by decide) (by kernel_rfl) (by kernel_rfl) (by kernel_rfl) (fun _ _ _ h => h) (Or.inl ⟨by rfl, fun w' hs => by have h0 := hs.1; go_simp⟩) SS.out ?_
  change Hz _ _ _ _ _ _ _ _ (Act.put _ (some 42) _) _
  simp only [Act.put, List.setIfInBounds_toArray, List.set_cons_zero, List.set_cons_succ]
  refine hz_take (i := 2) (v := (.slice (some ⟨g, 0, none⟩) 2 uc)) rfl rfl (by kernel_rfl) (by decide) (by kernel_rfl) (by kernel_rfl) (by kernel_rfl) (fun _ _ _ h => h) (Or.inl ⟨by rfl, fun w' hs => by go_simp⟩) SS.out ?_
  change Hz _ _ _ _ _ _ _ _ (Act.put _ (some 43) _) _
  simp only [Act.put, List.setIfInBounds_toArray, List.set_cons_zero, List.set_cons_succ]
  refine hz_take (i := 3) (v := (.pointer (some ⟨g, 0, none⟩))) rfl rfl (by kernel_rfl) (by decide) (by kernel_rfl) (by kernel_rfl) (by kernel_rfl) (fun _ _ _ h => h) (Or.inl ⟨by rfl, fun w' hs => by go_simp⟩) SS.out ?_
  change Hz _ _ _ _ _ _ _ _ (Act.put _ (some 44) _) _
  simp only [Act.put, List.setIfInBounds_toArray, List.set_cons_zero, List.set_cons_succ]
  refine hz_take (i := 4) (v := (.int .i64 y0)) rfl rfl (by kernel_rfl) (by decide) (by kernel_rfl) (by kernel_rfl) (by kernel_rfl) (fun _ _ _ h => h) (Or.inl ⟨by rfl, fun w' hs => by have h0 := hs.2.1; go_simp⟩) SS.out ?_
  change Hz _ _ _ _ _ _ _ _ (Act.put _ (some 45) _) _
  simp only [Act.put, List.setIfInBounds_toArray, List.set_cons_zero, List.set_cons_succ]
  refine hz_take (i := 5) (v := (.slice (some ⟨g, 0, none⟩) 2 uc)) rfl rfl (by kernel_rfl) (by decide) (by kernel_rfl) (by kernel_rfl) (by kernel_rfl) (fun _ _ _ h => h) (Or.inl ⟨by rfl, fun w' hs => by go_simp⟩) SS.out ?_
  change Hz _ _ _ _ _ _ _ _ (Act.put _ (some 46) _) _
  simp only [Act.put, List.setIfInBounds_toArray, List.set_cons_zero, List.set_cons_succ]
  refine hz_take (i := 6) (v := (.pointer (some ⟨g, 1, none⟩))) rfl rfl (by kernel_rfl) (by decide) (by kernel_rfl) (by kernel_rfl) (by kernel_rfl) (fun _ _ _ h => h) (Or.inl ⟨by rfl, fun w' hs => by go_simp⟩) SS.out ?_
  change Hz _ _ _ _ _ _ _ _ (Act.put _ (some 47) _) _
  simp only [Act.put, List.setIfInBounds_toArray, List.set_cons_zero, List.set_cons_succ]
  refine hz_take (i := 7) (v := (.int .i64 y1)) rfl rfl (by kernel_rfl) (by decide) (by kernel_rfl) (by kernel_rfl) (by kernel_rfl) (fun _ _ _ h => h) (Or.inl ⟨by rfl, fun w' hs => by have h0 := hs.2.2; go_simp⟩) SS.out ?_
  change Hz _ _ _ _ _ _ _ _ (Act.put _ (some 48) _) _
  simp only [Act.put, List.setIfInBounds_toArray, List.set_cons_zero, List.set_cons_succ]
  refine hz_take (i := 8) (v := (.agg #[.int .i64 y0, .int .i64 y1])) rfl rfl (by kernel_rfl) (by decide) (by kernel_rfl) (by kernel_rfl) (by kernel_rfl) (fun _ _ _ h => h) (Or.inl ⟨by rfl, fun w' hs => by go_simp⟩) SS.out ?_
  change Hz _ _ _ _ _ _ _ _ (Act.put _ (some 49) _) _
  simp only [Act.put, List.setIfInBounds_toArray, List.set_cons_zero, List.set_cons_succ]
  refine hz_ready (rs := [9]) (by kernel_rfl) (by simp) ?_
  refine hz_cons (hz_next rfl (fun K hK => ?_)) hz_nil
  rw [if_pos (by rfl)]
  go_simp
  have x0 : (u0.alloc (.cells #[.int .i64 y0, .int .i64 y1] 60)).cell? ⟨u0.heap.size, 0, none⟩ = some (.int .i64 y0) := cell_new rfl
  have x1 : (u0.alloc (.cells #[.int .i64 y0, .int .i64 y1] 60)).cell? ⟨u0.heap.size, 1, none⟩ = some (.int .i64 y1) := cell_new rfl
  have BA : Hid (Below u0.heap.size u0 (u0.alloc (.cells #[.int .i64 y0, .int .i64 y1] 60))) := al (Below.refl _ _) _
  have SA : Hid ((u0.alloc (.cells #[.int .i64 y0, .int .i64 y1] 60)).cell? ⟨w.heap.size, 2, none⟩ = some (.slice b2 n2 d2) ∧ (u0.alloc (.cells #[.int .i64 y0, .int .i64 y1] 60)).cell? ⟨g, 0, none⟩ = some (.int .i64 y0) ∧ (u0.alloc (.cells #[.int .i64 y0, .int .i64 y1] 60)).cell? ⟨g, 1, none⟩ = some (.int .i64 y1)) := ⟨cell_keep BA.out SS.out.1, cell_keep BA.out SS.out.2.1, cell_keep BA.out SS.out.2.2⟩
  refine hK.out _ _ (fun _ => SA.out) ?_
  clear hK K
  have XC : Hid ((u0.alloc (.cells #[.int .i64 y0, .int .i64 y1] 60)).cell? ⟨u0.heap.size, 0, none⟩ = some (.int .i64 y0) ∧ (u0.alloc (.cells #[.int .i64 y0, .int .i64 y1] 60)).cell? ⟨u0.heap.size, 1, none⟩ = some (.int .i64 y1)) := ⟨x0, x1⟩
  clear x0 x1
  have B3 : Hid (Below w.heap.size w (u0.alloc (.cells #[.int .i64 y0, .int .i64 y1] 60))) := on B0.out BA.out
  have S3 : Hid (base ≤ (u0.alloc (.cells #[.int .i64 y0, .int .i64 y1] 60)).heap.size) := Nat.le_trans HB.out.1 B3.out.size
  replace KB : Hid (Kb (u0.alloc (.cells #[.int .i64 y0, .int .i64 y1] 60)) _ _ _) := KB.out.keep BA.out
  replace KR : Hid (Kb _ _ _ _) := KR.out.keep BA.out
  generalize (u0.alloc (.cells #[.int .i64 y0, .int .i64 y1] 60)) = u2 at *
  generalize u0.heap.size = s0 at *
  clear BA SS
  refine hz_ready (rs := [10]) (by kernel_rfl) (by simp) ?_
  refine hz_cons (hz_next rfl (fun K hK => ?_)) hz_nil
  refine stepW_pair 27 60 Tryz.underlying27 info_bell rfl (.tmp 42) (.tmp 50) rfl base (.slice b2 n2 d2) P.bells rfl (HW.out.keep B3.out).bells s0 y0 y1 rfl XC.out.1 XC.out.2 (by have := HB.out; omega) S3.out ?_
  intro v' w' hN' hG'
  change K (Act.put _ (some 51) _) _
  simp only [Act.put, List.setIfInBounds_toArray, List.set_cons_zero, List.set_cons_succ]
  have PW := (HW.out.keep B3.out).pushBell (zs := zs) (by rw [HY.out.1, HY.out.2]; exact hN'.out) hG'
  have G1 : Hid (Gn base w w') := Gn.row B3.out hG' (HW.out.keep B3.out).bells
  have K1 := KB.out.gr hG' (fun e => KB.out.row (HW.out.keep B3.out).bells (by decide) e.symm)
  have K2H : Hid (Kb w' _ _ _) := KR.out.gr hG' (fun e => KR.out.row (HW.out.keep B3.out).bells (by decide) e.symm)
  obtain ⟨e2, f2, hv'⟩ : ∃ e f, v' = .slice e (adP P 2 zs).bells.length f := PW.shape2
  generalize (adP P 2 zs).bells.length = m2 at hv'
  subst hv'
  have PWH : Hid (Wp w' base _ _ _ _ (adP P 2 zs) _) := PW
  have K1H : Hid (Kb w' _ _ _) := K1
  have SB : Hid (w'.cell? ⟨w.heap.size, 2, none⟩ = some (.slice b2 n2 d2) ∧ w'.cell? ⟨g, 0, none⟩ = some (.int .i64 y0) ∧ w'.cell? ⟨g, 1, none⟩ = some (.int .i64 y1)) := ⟨K1.cell (i := 2) rfl, num_cell' (rowW (HUN.out.keep B3.out) (HW.out.keep B3.out).bells hG' (by decide)) 0 (by decide) HY.out.1, num_cell' (rowW (HUN.out.keep B3.out) (HW.out.keep B3.out).bells hG' (by decide)) 1 (by decide) HY.out.2⟩
  refine hK.out _ _ (fun _ => SB.out) ?_
  clear hK K hN' hG' PW SA
  refine hz_take (i := 11) (v := (.pointer (some ⟨w.heap.size, 2, none⟩))) rfl rfl (by kernel_rfl) (by decide) (by kernel_rfl) (by kernel_rfl) (by kernel_rfl) (fun _ _ _ h => h) (Or.inl ⟨by rfl, fun w' hs => by go_simp⟩) SB.out ?_
  change Hz _ _ _ _ _ _ _ _ (Act.put _ (some 52) _) _
  simp only [Act.put, List.setIfInBounds_toArray, List.set_cons_zero, List.set_cons_succ]
  have s2 := K1H.out.free 2
  have k2 := K1H.out.cell (i := 2) rfl
  refine hz_ready (rs := [12]) (by kernel_rfl) (by simp) ?_
  refine hz_cons (hz_next rfl (fun K hK => ?_)) hz_nil
  rw [if_pos (by rfl)]
  have lq := K1H.out.lt
  go_simp
  clear s2 k2 lq
  refine hK.out _ _ (fun e => absurd rfl e) ?_
  clear hK K
  refine hz_done (by kernel_rfl) ?_
  have k0 := K1H.out.cell (i := 0) rfl
  have r0 := K2H.out.cell (i := 0) rfl
  have t0 := K2H.out.free 0
  have k1 := K1H.out.cell (i := 1) rfl
  have r1 := K2H.out.cell (i := 1) rfl
  have t1 := K2H.out.free 1
  have k2 := K1H.out.cell (i := 2) rfl
  have r2 := K2H.out.cell (i := 2) rfl
  have t2 := K2H.out.free 2
  have k3 := K1H.out.cell (i := 3) rfl
  have r3 := K2H.out.cell (i := 3) rfl
  have t3 := K2H.out.free 3
  go_wp2_with fail
  have KF : Kb _ (w.heap.size + 1) #[.slice b0 n0 d0, .slice b1 n1 d1, .slice e2 m2 f2, .slice b3 n3 d3] 30 := ((((K2H.out.put w.heap.size 2 (.slice e2 m2 f2) (by omega)).set 0 (.slice b0 n0 d0)).set 1 (.slice b1 n1 d1)).set 2 (.slice e2 m2 f2)).set 3 (.slice b3 n3 d3)
  have LD := run_loadVar_mid (P := Tryz.prog) _ (w.heap.size + 1) 0 30 #[.slice b0 n0 d0, .slice b1 n1 d1, .slice e2 m2 f2, .slice b3 n3 d3].toList _ (fun j v hj => by rw [Nat.zero_add]; exact KF.cell (by simpa using hj)) Tryz.underlying30 rfl (by kernel_rfl)
  exact bodyPost_ret (v := .agg #[.slice b0 n0 d0, .slice b1 n1 d1, .slice e2 m2 f2, .slice b3 n3 d3]) (by simp [results, Tryz.results34, asAddr]; rw [LD]) rfl ⟨_, _, _, _, _, rfl, (PWH.out.put K1H.out).put4 (K2H.out.put _ _ _ (by omega)), (G1.out.put w.heap.size HB.out.1 _ _).put4 (w.heap.size + 1) (by have := HB.out.1; omega) _ _ _ _⟩
set_option maxRecDepth 20000 in
set_option maxHeartbeats 8000000 in
theorem i_with3 (base : Nat) (v0 v1 v2 v3 u : Value) (P : Plc) (xs : List Value) (zs : List Int) (B : Nat) (w : World) (h : Wp w base v0 v1 v2 v3 P xs) (hu : Nums w B u zs) (hc : zs.length = 2) (hb : base ≤ w.heap.size) (hs : SmP P 1000) :
    Calls Tryz.prog 34 #[.agg #[v0, v1, v2, v3], .int .i64 3, u] w fun e w' => ∃ v0' v1' v2' v3' xs', e = .returned (.agg #[v0', v1', v2', v3']) ∧ Wp w' base v0' v1' v2' v3' (adP P 3 zs) xs' ∧ Gn base w w' := by
  obtain ⟨b0, b1, b2, b3, d0, d1, d2, d3, rfl, rfl, rfl, rfl⟩ := h.shape
  obtain ⟨ua, uc, hv, _, _, hg⟩ := hu.shape
  subst hv
  rw [hc] at hu hg ⊢
  obtain ⟨g, rfl⟩ := hg (by omega)
  have HW : Hid (Wp w base _ _ _ _ P xs) := h
  have HUN : Hid (Nums w B _ zs) := hu
  have HB : Hid (base ≤ w.heap.size ∧ P.plan.length ≤ 1000) := ⟨hb, hs.plan⟩
  obtain ⟨y0, hy0⟩ : ∃ y, zs.getD 0 0 = y := ⟨_, rfl⟩
  obtain ⟨y1, hy1⟩ : ∃ y, zs.getD 1 0 = y := ⟨_, rfl⟩
  have z0 : w.cell? ⟨g, 0, none⟩ = some (.int .i64 y0) := num_cell' hu 0 (by decide) hy0
  have z1 : w.cell? ⟨g, 1, none⟩ = some (.int .i64 y1) := num_cell' hu 1 (by decide) hy1
  have HY : Hid (zs.getD 0 0 = y0 ∧ zs.getD 1 0 = y1) := ⟨hy0, hy1⟩
  have HZ : Hid (w.cell? ⟨g, 0, none⟩ = some (.int .i64 y0) ∧ w.cell? ⟨g, 1, none⟩ = some (.int .i64 y1)) := ⟨z0, z1⟩
  obtain ⟨n0, hn0⟩ : ∃ n, P.own.length = n := ⟨_, rfl⟩
  obtain ⟨n1, hn1⟩ : ∃ n, P.lanes.length = n := ⟨_, rfl⟩
  obtain ⟨n2, hn2⟩ : ∃ n, P.bells.length = n := ⟨_, rfl⟩
  obtain ⟨n3, hn3⟩ : ∃ n, P.plan.length = n := ⟨_, rfl⟩
  rw [hn0, hn1, hn2, hn3] at HW
  rw [hn0, hn1, hn2, hn3]
  clear h hu hb hs hn0 hn1 hn2 hn3 hc hg hy0 z0 hy1 z1
  generalize hW : ((w.alloc (.cells #[.slice b0 n0 d0, .slice b1 n1 d1, .slice b2 n2 d2, .slice b3 n3 d3] 30)).alloc (.cells #[.slice none 0 0, .slice none 0 0, .slice none 0 0, .slice none 0 0] 30)) = W2
  have B2 : Hid (Below w.heap.size w W2) := by show Below _ _ _; rw [← hW]; exact al (al (Below.refl _ _) _) _
  have KB2 : Hid (Kb W2 w.heap.size #[.slice b0 n0 d0, .slice b1 n1 d1, .slice b2 n2 d2, .slice b3 n3 d3] 30) := by show Kb _ _ _ _; rw [← hW]; exact (Kb.new w _ _).keep (al (Below.refl _ _) _)
  have KR2 : Hid (Kb W2 (w.heap.size + 1) #[.slice none 0 0, .slice none 0 0, .slice none 0 0, .slice none 0 0] 30) := by
    show Kb _ _ _ _
    rw [← hW]
    have e : (w.alloc (.cells #[.slice b0 n0 d0, .slice b1 n1 d1, .slice b2 n2 d2, .slice b3 n3 d3] 30)).heap.size = w.heap.size + 1 := by simp
    have := Kb.new (w.alloc (.cells #[.slice b0 n0 d0, .slice b1 n1 d1, .slice b2 n2 d2, .slice b3 n3 d3] 30)) #[.slice none 0 0, .slice none 0 0, .slice none 0 0, .slice none 0 0] 30
    rw [e] at this
    exact this
  go_enter Tryz.func34, Tryz.ntmps34
  go_wp2_with fail
  obtain ⟨Sw, hSw⟩ : ∃ Sw : World → Prop, Sw = fun w' => w'.cell? ⟨w.heap.size, 3, none⟩ = some (.slice b3 n3 d3) ∧ w'.cell? ⟨g, 0, none⟩ = some (.int .i64 y0) ∧ w'.cell? ⟨g, 1, none⟩ = some (.int .i64 y1) := ⟨_, rfl⟩
  refine hz_region (fun w' => w'.cell? ⟨w.heap.size, 3, none⟩ = some (.slice b3 n3 d3) ∧ w'.cell? ⟨g, 0, none⟩ = some (.int .i64 y0) ∧ w'.cell? ⟨g, 1, none⟩ = some (.int .i64 y1)) 12 (by kernel_rfl) ?_
  have BD : Hid (Below W2.heap.size W2 W2.drew) := (Below.refl _ _).drew
  have B0 : Hid (Below w.heap.size w W2.drew) := on B2.out BD.out
  have KB : Hid (Kb W2.drew _ _ _) := KB2.out.keep BD.out
  have KR : Hid (Kb W2.drew _ _ _) := KR2.out.keep BD.out
  have SS : Hid (W2.drew.cell? ⟨w.heap.size, 3, none⟩ = some (.slice b3 n3 d3) ∧ W2.drew.cell? ⟨g, 0, none⟩ = some (.int .i64 y0) ∧ W2.drew.cell? ⟨g, 1, none⟩ = some (.int .i64 y1)) := ⟨KB.out.cell (i := 3) rfl, cell_keep B0.out HZ.out.1, cell_keep B0.out HZ.out.2⟩
  clear BD KB2 KR2 hSw Sw hW
  generalize W2.drew = u0 at *
  refine hz_take (i := 0) (v := (.pointer (some ⟨w.heap.size, 3, none⟩))) rfl rfl (by kernel_rfl) (by decide) (by kernel_rfl) (by kernel_rfl) (by kernel_rfl) (fun _ _ _ h => h) (Or.inl ⟨by rfl, fun w' hs => by go_simp⟩) SS.out ?_
  change Hz _ _ _ _ _ _ _ _ (Act.put _ (some 55) _) _
  simp only [Act.put, List.setIfInBounds_toArray, List.set_cons_zero, List.set_cons_succ]
  refine hz_take (i := 1) (v := (.slice b3 n3 d3)) rfl rfl (by kernel_rfl) (by decide) (by kernel_rfl) (by kernel_rfl) (by kernel_rfl) (fun _ _ _ h => h) (Or.inl ⟨by rfl, fun w' hs => by have h0 := hs.1; go_simp⟩) SS.out ?_
  change Hz _ _ _ _ _ _ _ _ (Act.put _ (some 56) _) _
  simp only [Act.put, List.setIfInBounds_toArray, List.set_cons_zero, List.set_cons_succ]
  refine hz_take (i := 2) (v := (.slice (some ⟨g, 0, none⟩) 2 uc)) rfl rfl (by kernel_rfl) (by decide) (by kernel_rfl) (by kernel_rfl) (by kernel_rfl) (fun _ _ _ h => h) (Or.inl ⟨by rfl, fun w' hs => by go_simp⟩) SS.out ?_
  change Hz _ _ _ _ _ _ _ _ (Act.put _ (some 57) _) _
  simp only [Act.put, List.setIfInBounds_toArray, List.set_cons_zero, List.set_cons_succ]
  refine hz_take (i := 3) (v := (.pointer (some ⟨g, 0, none⟩))) rfl rfl (by kernel_rfl) (by decide) (by kernel_rfl) (by kernel_rfl) (by kernel_rfl) (fun _ _ _ h => h) (Or.inl ⟨by rfl, fun w' hs => by go_simp⟩) SS.out ?_
  change Hz _ _ _ _ _ _ _ _ (Act.put _ (some 58) _) _
  simp only [Act.put, List.setIfInBounds_toArray, List.set_cons_zero, List.set_cons_succ]
  refine hz_take (i := 4) (v := (.int .i64 y0)) rfl rfl (by kernel_rfl) (by decide) (by kernel_rfl) (by kernel_rfl) (by kernel_rfl) (fun _ _ _ h => h) (Or.inl ⟨by rfl, fun w' hs => by have h0 := hs.2.1; go_simp⟩) SS.out ?_
  change Hz _ _ _ _ _ _ _ _ (Act.put _ (some 59) _) _
  simp only [Act.put, List.setIfInBounds_toArray, List.set_cons_zero, List.set_cons_succ]
  refine hz_take (i := 5) (v := (.slice (some ⟨g, 0, none⟩) 2 uc)) rfl rfl (by kernel_rfl) (by decide) (by kernel_rfl) (by kernel_rfl) (by kernel_rfl) (fun _ _ _ h => h) (Or.inl ⟨by rfl, fun w' hs => by go_simp⟩) SS.out ?_
  change Hz _ _ _ _ _ _ _ _ (Act.put _ (some 60) _) _
  simp only [Act.put, List.setIfInBounds_toArray, List.set_cons_zero, List.set_cons_succ]
  refine hz_take (i := 6) (v := (.pointer (some ⟨g, 1, none⟩))) rfl rfl (by kernel_rfl) (by decide) (by kernel_rfl) (by kernel_rfl) (by kernel_rfl) (fun _ _ _ h => h) (Or.inl ⟨by rfl, fun w' hs => by go_simp⟩) SS.out ?_
  change Hz _ _ _ _ _ _ _ _ (Act.put _ (some 61) _) _
  simp only [Act.put, List.setIfInBounds_toArray, List.set_cons_zero, List.set_cons_succ]
  refine hz_take (i := 7) (v := (.int .i64 y1)) rfl rfl (by kernel_rfl) (by decide) (by kernel_rfl) (by kernel_rfl) (by kernel_rfl) (fun _ _ _ h => h) (Or.inl ⟨by rfl, fun w' hs => by have h0 := hs.2.2; go_simp⟩) SS.out ?_
  change Hz _ _ _ _ _ _ _ _ (Act.put _ (some 62) _) _
  simp only [Act.put, List.setIfInBounds_toArray, List.set_cons_zero, List.set_cons_succ]
  refine hz_take (i := 8) (v := (.agg #[.int .i64 y0, .int .i64 y1])) rfl rfl (by kernel_rfl) (by decide) (by kernel_rfl) (by kernel_rfl) (by kernel_rfl) (fun _ _ _ h => h) (Or.inl ⟨by rfl, fun w' hs => by go_simp⟩) SS.out ?_
  change Hz _ _ _ _ _ _ _ _ (Act.put _ (some 63) _) _
  simp only [Act.put, List.setIfInBounds_toArray, List.set_cons_zero, List.set_cons_succ]
  refine hz_ready (rs := [9]) (by kernel_rfl) (by simp) ?_
  refine hz_cons (hz_next rfl (fun K hK => ?_)) hz_nil
  rw [if_pos (by rfl)]
  go_simp
  have x0 : (u0.alloc (.cells #[.int .i64 y0, .int .i64 y1] 62)).cell? ⟨u0.heap.size, 0, none⟩ = some (.int .i64 y0) := cell_new rfl
  have x1 : (u0.alloc (.cells #[.int .i64 y0, .int .i64 y1] 62)).cell? ⟨u0.heap.size, 1, none⟩ = some (.int .i64 y1) := cell_new rfl
  have BA : Hid (Below u0.heap.size u0 (u0.alloc (.cells #[.int .i64 y0, .int .i64 y1] 62))) := al (Below.refl _ _) _
  have SA : Hid ((u0.alloc (.cells #[.int .i64 y0, .int .i64 y1] 62)).cell? ⟨w.heap.size, 3, none⟩ = some (.slice b3 n3 d3) ∧ (u0.alloc (.cells #[.int .i64 y0, .int .i64 y1] 62)).cell? ⟨g, 0, none⟩ = some (.int .i64 y0) ∧ (u0.alloc (.cells #[.int .i64 y0, .int .i64 y1] 62)).cell? ⟨g, 1, none⟩ = some (.int .i64 y1)) := ⟨cell_keep BA.out SS.out.1, cell_keep BA.out SS.out.2.1, cell_keep BA.out SS.out.2.2⟩
  refine hK.out _ _ (fun _ => SA.out) ?_
  clear hK K
  have XC : Hid ((u0.alloc (.cells #[.int .i64 y0, .int .i64 y1] 62)).cell? ⟨u0.heap.size, 0, none⟩ = some (.int .i64 y0) ∧ (u0.alloc (.cells #[.int .i64 y0, .int .i64 y1] 62)).cell? ⟨u0.heap.size, 1, none⟩ = some (.int .i64 y1)) := ⟨x0, x1⟩
  clear x0 x1
  have B3 : Hid (Below w.heap.size w (u0.alloc (.cells #[.int .i64 y0, .int .i64 y1] 62))) := on B0.out BA.out
  have S3 : Hid (base ≤ (u0.alloc (.cells #[.int .i64 y0, .int .i64 y1] 62)).heap.size) := Nat.le_trans HB.out.1 B3.out.size
  replace KB : Hid (Kb (u0.alloc (.cells #[.int .i64 y0, .int .i64 y1] 62)) _ _ _) := KB.out.keep BA.out
  replace KR : Hid (Kb _ _ _ _) := KR.out.keep BA.out
  generalize (u0.alloc (.cells #[.int .i64 y0, .int .i64 y1] 62)) = u2 at *
  generalize u0.heap.size = s0 at *
  clear BA SS
  refine hz_ready (rs := [10]) (by kernel_rfl) (by simp) ?_
  refine hz_cons (hz_next rfl (fun K hK => ?_)) hz_nil
  refine stepW_pair 28 62 Tryz.underlying28 info_slot rfl (.tmp 56) (.tmp 64) rfl base (.slice b3 n3 d3) P.plan rfl (HW.out.keep B3.out).plan s0 y0 y1 rfl XC.out.1 XC.out.2 (by have := HB.out; omega) S3.out ?_
  intro v' w' hN' hG'
  change K (Act.put _ (some 65) _) _
  simp only [Act.put, List.setIfInBounds_toArray, List.set_cons_zero, List.set_cons_succ]
  have PW := (HW.out.keep B3.out).pushSlot (zs := zs) (by rw [HY.out.1, HY.out.2]; exact hN'.out) hG'
  have G1 : Hid (Gn base w w') := Gn.row B3.out hG' (HW.out.keep B3.out).plan
  have K1 := KB.out.gr hG' (fun e => KB.out.row (HW.out.keep B3.out).plan (by decide) e.symm)
  have K2H : Hid (Kb w' _ _ _) := KR.out.gr hG' (fun e => KR.out.row (HW.out.keep B3.out).plan (by decide) e.symm)
  obtain ⟨e3, f3, hv'⟩ : ∃ e f, v' = .slice e (adP P 3 zs).plan.length f := PW.shape3
  generalize (adP P 3 zs).plan.length = m3 at hv'
  subst hv'
  have PWH : Hid (Wp w' base _ _ _ _ (adP P 3 zs) _) := PW
  have K1H : Hid (Kb w' _ _ _) := K1
  have SB : Hid (w'.cell? ⟨w.heap.size, 3, none⟩ = some (.slice b3 n3 d3) ∧ w'.cell? ⟨g, 0, none⟩ = some (.int .i64 y0) ∧ w'.cell? ⟨g, 1, none⟩ = some (.int .i64 y1)) := ⟨K1.cell (i := 3) rfl, num_cell' (rowW (HUN.out.keep B3.out) (HW.out.keep B3.out).plan hG' (by decide)) 0 (by decide) HY.out.1, num_cell' (rowW (HUN.out.keep B3.out) (HW.out.keep B3.out).plan hG' (by decide)) 1 (by decide) HY.out.2⟩
  refine hK.out _ _ (fun _ => SB.out) ?_
  clear hK K hN' hG' PW SA
  refine hz_take (i := 11) (v := (.pointer (some ⟨w.heap.size, 3, none⟩))) rfl rfl (by kernel_rfl) (by decide) (by kernel_rfl) (by kernel_rfl) (by kernel_rfl) (fun _ _ _ h => h) (Or.inl ⟨by rfl, fun w' hs => by go_simp⟩) SB.out ?_
  change Hz _ _ _ _ _ _ _ _ (Act.put _ (some 66) _) _
  simp only [Act.put, List.setIfInBounds_toArray, List.set_cons_zero, List.set_cons_succ]
  have s3 := K1H.out.free 3
  have k3 := K1H.out.cell (i := 3) rfl
  refine hz_ready (rs := [12]) (by kernel_rfl) (by simp) ?_
  refine hz_cons (hz_next rfl (fun K hK => ?_)) hz_nil
  rw [if_pos (by rfl)]
  have lq := K1H.out.lt
  go_simp
  clear s3 k3 lq
  refine hK.out _ _ (fun e => absurd rfl e) ?_
  clear hK K
  refine hz_done (by kernel_rfl) ?_
  have k0 := K1H.out.cell (i := 0) rfl
  have r0 := K2H.out.cell (i := 0) rfl
  have t0 := K2H.out.free 0
  have k1 := K1H.out.cell (i := 1) rfl
  have r1 := K2H.out.cell (i := 1) rfl
  have t1 := K2H.out.free 1
  have k2 := K1H.out.cell (i := 2) rfl
  have r2 := K2H.out.cell (i := 2) rfl
  have t2 := K2H.out.free 2
  have k3 := K1H.out.cell (i := 3) rfl
  have r3 := K2H.out.cell (i := 3) rfl
  have t3 := K2H.out.free 3
  go_wp2_with fail
  have KF : Kb _ (w.heap.size + 1) #[.slice b0 n0 d0, .slice b1 n1 d1, .slice b2 n2 d2, .slice e3 m3 f3] 30 := ((((K2H.out.put w.heap.size 3 (.slice e3 m3 f3) (by omega)).set 0 (.slice b0 n0 d0)).set 1 (.slice b1 n1 d1)).set 2 (.slice b2 n2 d2)).set 3 (.slice e3 m3 f3)
  have LD := run_loadVar_mid (P := Tryz.prog) _ (w.heap.size + 1) 0 30 #[.slice b0 n0 d0, .slice b1 n1 d1, .slice b2 n2 d2, .slice e3 m3 f3].toList _ (fun j v hj => by rw [Nat.zero_add]; exact KF.cell (by simpa using hj)) Tryz.underlying30 rfl (by kernel_rfl)
  exact bodyPost_ret (v := .agg #[.slice b0 n0 d0, .slice b1 n1 d1, .slice b2 n2 d2, .slice e3 m3 f3]) (by simp [results, Tryz.results34, asAddr]; rw [LD]) rfl ⟨_, _, _, _, _, rfl, (PWH.out.put K1H.out).put4 (K2H.out.put _ _ _ (by omega)), (G1.out.put w.heap.size HB.out.1 _ _).put4 (w.heap.size + 1) (by have := HB.out.1; omega) _ _ _ _⟩
end Go.Proofs.YtkfcofjmjbkekaaGreatDoor
