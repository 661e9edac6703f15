/- Texts of this seat, joined. -/
import Derived.Deep.RegionLaw
import Derived.Test.YthnaggeilbcioaaGreatDoorQ04
import Derived.Test.YthnaggeilbcioaaGreatDoorQ07
import Derived.Test.YthnaggeilbcioaaGreatDoorQ08
import Derived.Test.YthnaggeilbcioaaGreatDoorQ10
import Derived.Test.YthnaggeilbcioaaGreatDoorQ13
import Derived.Test.YthnaggeilbcioaaGreatDoorQ17
namespace Go.Proofs.YthnaggeilbcioaaGreatDoor
open Go.RowKit
set_option linter.unusedVariables false

theorem getD_mem {α : Type} (zs : List α) (d : α) (k : Nat) (h : k < zs.length) : zs.getD k d ∈ zs := by
  rw [List.getD, List.getElem?_eq_getElem h]
  exact List.getElem_mem h
def wordsL (ms : List Int) : List Int → List Int
  | [] => []
  | p :: t => eight ms p.toNat ++ wordsL ms t
theorem wordsL_append (ms a b : List Int) : wordsL ms (a ++ b) = wordsL ms a ++ wordsL ms b := by
  induction a with
  | nil => rfl
  | cons p t ih => rw [List.cons_append, wordsL, wordsL, ih, List.append_assoc]
theorem wordsL_take (ms ps : List Int) (j : Nat) (h : j < ps.length) : wordsL ms (ps.take (j + 1)) = wordsL ms (ps.take j) ++ eight ms (ps.getD j 0).toNat := by
  rw [take_succ_getD ps 0 j h, wordsL_append, wordsL, wordsL, List.append_nil]
theorem eight_le (ms : List Int) (j : Nat) : (eight ms j).length ≤ 8 := by simp [eight]; omega
theorem wordsL_le (ms : List Int) : ∀ ps : List Int, (wordsL ms ps).length ≤ 8 * ps.length
  | [] => by simp [wordsL]
  | p :: t => by
    have := wordsL_le ms t
    have := eight_le ms p.toNat
    rw [wordsL, List.length_append, List.length_cons]
    omega
theorem ns_one (w : World) (pg : Int) (t : TypeId) : IsNs (w.alloc (.cells #[.int .i64 pg] t)) (some ⟨w.heap.size, 0, none⟩) 1 1 [pg] := by
  refine .inr ⟨_, rfl, Nat.le_refl _, by unfold maxLen; omega, rfl, fun i hi => ?_⟩
  obtain rfl : i = 0 := by omega
  exact cell_new rfl
theorem Pags.nil (w : World) (base : Nat) : Pags w base (.slice none 0 0) 0 [] := World.ownsRow_nil w base _ _
theorem nums_empty (w : World) (base : Nat) (hb : base ≤ w.heap.size) : Nums (w.alloc (.cells #[] 2)) base (.slice (some ⟨w.heap.size, 0, none⟩) 0 0) [] :=
  World.ownsRow_lit w #[] 0 hb (by decide) rfl
theorem Pags.shape {w : World} {base n : Nat} {v : Value} {zs : List Int} (h : Pags w base v n zs) : ∃ a cap, v = .slice a n cap ∧ n ≤ cap ∧ cap ≤ maxLen ∧ (0 < n → ∃ g, a = some ⟨g, 0, none⟩) := by
  have h' := h
  obtain ⟨h1, ⟨rfl, h3⟩ | ⟨g, cap, cur, rfl, _, _, h4, h5, _⟩⟩ := h'
  · exact ⟨none, 0, by rw [h3], by omega, by unfold maxLen; omega, fun hz => by omega⟩
  · exact ⟨_, _, rfl, h4, h5, fun _ => ⟨g, rfl⟩⟩
theorem Pags.inb {w : World} {base n : Nat} {v : Value} {zs : List Int} (h : Pags w base v n zs) : ∀ k, v.ownBlock = some k → base ≤ k ∧ k < w.heap.size := World.ownsRow.lt h
theorem eight_list (zs : List Int) (p : Nat) (h : p * 8 + 8 ≤ zs.length) : eight zs p = [zs.getD (p * 8) 0, zs.getD (p * 8 + 1) 0, zs.getD (p * 8 + 2) 0, zs.getD (p * 8 + 3) 0, zs.getD (p * 8 + 4) 0, zs.getD (p * 8 + 5) 0, zs.getD (p * 8 + 6) 0, zs.getD (p * 8 + 7) 0] := by
  have h1 := take_eight zs (p * 8) h
  rw [List.take_add] at h1
  exact List.append_cancel_left h1
/-- append of one page to a slice of pages of the call's own. -/
theorem wp_pag {ops : Array Oper} {rest : List Oper} {o : Oper} {act : Act} {Q : Exit → Act → World → Prop} (w : World) (hgd : o.guard = none) (s x : Operand)
    (ho : o.op = .call { callee := .builtin .append, args := #[s, x], argTypes := #[130, 130] }) (base : Nat) (v : Value) (n : Nat) (zs : List Int) (hs : act.eval s = v) (hN : Pags w base v n zs)
    (B : Nat) (ys : List Int) (hy : ys.length = 8) (hx : act.eval x = .slice (some ⟨B, 0, none⟩) 1 1) (hc : ∀ i, i < 8 → w.cell? ⟨B, i, none⟩ = some (.int .i64 (ys.getD i 0)))
    (hlen : n ≤ 1000) (hbase : base ≤ w.heap.size)
    (h : ∀ v' w', Pags w' base v' (n + 1) (zs ++ ys) → w.grownBy w' v.ownBlock → wpList Tryz.prog ops Q rest (act.put o.dst v') w') : wpList Tryz.prog ops Q (o :: rest) act w := by
  obtain ⟨i, hi, hz0, hz1, hz2⟩ := info_parts info_wpage
  refine wpList_append_own w hgd s x 130 ho base 79 i _ 8 64 Tryz.underlying130 hi hz0 hz1 hz2 rfl (by decide) v n _ hs hN ⟨B, 0, none⟩ 1 1 (ys.map (Value.int .i64)) hx (by simpa using hy) ?_ ?_ (by unfold maxLen; omega) (by omega) hbase ?_
  · intro j u hj
    have hjl : j < ys.length := by have := (List.getElem?_eq_some_iff.1 hj).1; simpa using this
    rw [List.getElem?_map, List.getElem?_eq_getElem hjl] at hj
    have := hc j (by omega)
    rw [List.getD, List.getElem?_eq_getElem hjl] at this
    rw [show (⟨B, 0, none⟩ : Addr).add j = ⟨B, j, none⟩ by rw [Addr.add_lit]; simp, this]
    exact hj
  · intro u hu
    obtain ⟨z, _, rfl⟩ := List.mem_map.1 hu
    rfl
  · intro v' w' hown hgrow _
    refine h v' w' ?_ hgrow
    unfold Pags
    rw [List.map_append]
    exact hown
set_option maxRecDepth 20000 in
set_option maxHeartbeats 4000000 in
theorem l7_wordsN (gm n cap b : Nat) (ms : List Int) (ap : Option Addr) (lp cp : Nat) (ps : List Int) (w : World) (h : Nums w b (.slice (some ⟨gm, 0, none⟩) n cap) ms) (mp : Nat) (h1 : 1 ≤ mp) (h24 : mp ≤ 24) (hm : ms.length = mp * 8) (hp : IsNs w ap lp cp ps) (hr : ∀ x ∈ ps, 0 ≤ x ∧ x < mp) (hl : ps.length ≤ 5) :
    Calls Tryz.prog 52 #[.slice (some ⟨gm, 0, none⟩) n cap, .slice ap lp cp] w fun e w' => ∃ v, e = .returned v ∧ Nums w' w.heap.size v (wordsL ms ps) ∧ Below w.heap.size w w' := by
  have HM : Hid (Nums w b (.slice (some ⟨gm, 0, none⟩) n cap) ms) := h
  have HP : Hid (IsNs w ap lp cp ps) := hp
  have HR : Hid (∀ x ∈ ps, 0 ≤ x ∧ x < mp) := hr
  have HMP : Hid (1 ≤ mp ∧ mp ≤ 24) := ⟨h1, h24⟩
  have hmpI : (mp : Int) ≤ 24 := by omega
  have hmp1 : (1 : Int) ≤ (mp : Int) := by omega
  clear h1 h24
  have HLP : Hid (lp = ps.length ∧ lp ≤ 5) := ⟨hp.len, by have := hp.len; omega⟩
  have HMS : Hid (ms.length = mp * 8) := hm
  have hn : n = mp * 8 := by have := h.len; omega
  have HNN : Hid (n = mp * 8) := hn
  clear hn
  have hcap : n ≤ cap ∧ cap ≤ 9223372036854775807 := by have := h.lens; unfold maxLen at this; omega
  have HC : Hid (n ≤ cap ∧ cap ≤ 9223372036854775807) := hcap
  have hc1 : (n : Int) ≤ (cap : Int) := by omega
  have hnI : (n : Int) ≤ 192 := by have := HNN.out; omega
  have hlpI : (lp : Int) ≤ 5 := by have := HLP.out; omega
  clear h hp hr hl hm hcap
  go_enter Tryz.func52, Tryz.ntmps52
  go_wp2_with fail
  go_loopw [5, 6] (fun v c wr => ∃ j : Nat, j ≤ lp ∧ c = .int .i64 j ∧ Nums wr w.heap.size v (wordsL ms (ps.take j)) ∧ Below w.heap.size w wr) (fun _ c _ => lp - (intOf c).toNat)
  case atStart => exact ⟨0, Nat.zero_le _, rfl, nums_empty _ _ (Nat.le_refl _), al (Below.refl _ _) _⟩
  case round =>
    obtain ⟨j, hj, rfl, hN, hB⟩ := hrel
    have HN : Hid (Nums wr _ _ (wordsL ms (ps.take j))) := hN
    have HB : Hid (Below _ w wr) := hB
    obtain ⟨ya, yc, hz, _, _, _⟩ := hN.shape
    have HLN : Hid ((wordsL ms (ps.take j)).length ≤ 40) := by
      have h1 := wordsL_le ms (ps.take j)
      have h2 : (ps.take j).length ≤ 5 := by rw [List.length_take]; have := HLP.out; omega
      show _ ≤ _
      omega
    generalize (wordsL ms (ps.take j)).length = un at hz
    subst hz
    by_cases hlt : j < lp
    · rcases HP.out.stay hB with ⟨_, e1, _, _⟩ | ⟨y, rfl, e1, e2, e3, e4⟩
      · omega
      have d0 := e4 j hlt
      have hJ : (j : Int) < (lp : Int) := by omega
      have HLT : Hid (j < lp) := hlt
      have hin := HR.out _ (getD_mem ps 0 j (by have := HLP.out; omega))
      have TK : Hid (_ = _) := wordsL_take ms ps j (by have := HLP.out; omega)
      obtain ⟨z, hz⟩ : ∃ z, ps.getD j 0 = z := ⟨_, rfl⟩
      rw [hz] at d0 hin TK
      clear hz e1 e2 e3 e4
      obtain ⟨p, rfl⟩ := Int.eq_ofNat_of_zero_le hin.1
      rw [Int.toNat_natCast] at TK
      have hpN : p < mp := by omega
      have E8 : Hid ((eight ms p).length = 8) := eight_length ms mp p HMS.out hpN
      have EC : Hid (∀ wz, Below wr.heap.size wr wz → ∀ ad, some (⟨gm, p * 8, none⟩ : Addr) = some ad → ∀ i, i < 8 → wz.cell? (ad.add i) = some (.int .i64 ((eight ms p).getD i 0))) := by
        intro wz hb ad had i hi
        obtain rfl := Option.some.inj had
        have hv : ((eight ms p).map (Value.int .i64))[i]? = some (.int .i64 ((eight ms p).getD i 0)) := by
          rw [List.getElem?_map, List.getD, List.getElem?_eq_getElem (by rw [E8.out]; exact hi)]
          rfl
        exact cell_keep hb (cell_keep HB.out (eight_cell HM.out mp p HMS.out hpN (by rw [HMS.out]; exact HNN.out) i _ hv))
      have hw1 : IntKind.i64.wrap ((p : Int) * 8) = ((p * 8 : Nat) : Int) := by rw [IntKind.wrap_i64]; omega
      obtain ⟨k, hk⟩ : ∃ k : Nat, p * 8 = k := ⟨_, rfl⟩
      obtain ⟨m, hmm⟩ : ∃ m : Nat, p * 8 + 8 = m := ⟨_, rfl⟩
      have hw2 : IntKind.i64.wrap ((p : Int) + 1) = (p : Int) + 1 := by rw [IntKind.wrap_i64]; omega
      have hw3 : IntKind.i64.wrap (((p : Int) + 1) * 8) = (m : Int) := by rw [IntKind.wrap_i64]; omega
      rw [hk] at hw1 EC
      have hk2 : k ≤ m := by omega
      have hk3 : (m : Int) ≤ (cap : Int) := by have := HNN.out; have := HC.out; omega
      have hk4 : ¬ cap = k := by have := HC.out; have := HNN.out; omega
      have E9 : Hid ((eight ms p).length = m - k) := by have := E8.out; show _ = _; omega
      have HMK : Hid (m - k = 8) := by show _ = _; omega
      have SZ : Hid (w.heap.size ≤ wr.heap.size) := hB.size
      clear hin hlt hN hB hk hmm
      go_wp2_with fail
      go_region_law (refine step_append rfl (.tmp 14) (.tmp 27) rfl w.heap.size (.slice ya un yc) _ (by simp [Act.eval, Act.put]) (HN.out.keep (by first | exact Below.refl _ _ | exact (Below.refl _ _).drew | exact (Below.refl _ _).drew.drew)) (some ⟨gm, k, none⟩) (m - k) (cap - k) (eight ms p) (by simp [Act.eval, Act.put]) E9.out (by simp) (by rw [HMK.out]; exact EC.out _ (by first | exact Below.refl _ _ | exact (Below.refl _ _).drew | exact (Below.refl _ _).drew.drew)) (by have := HLN.out; have := HMK.out; omega) w.heap.size w (by first | exact HB.out | exact HB.out.drew | exact HB.out.drew.drew) (Nat.le_refl _) (by have := SZ.out; first | exact this | simpa using this) ?_; intro v1 w2 N1 G1 B1)
      all_goals have NN : Hid (Nums w2 w.heap.size v1 (wordsL ms (ps.take (j + 1)))) := by show Nums _ _ _ _; rw [TK.out]; exact N1.out
      all_goals have BB : Hid (Below w.heap.size w w2) := B1
      all_goals clear N1 G1 B1
      all_goals go_wp2_with fail
      all_goals go_roundw
      all_goals first
        | exact ⟨j + 1, by have := HLT.out; omega, by go_num, NN.out, BB.out⟩
        | (have := HLT.out; simp [intOf]; omega)
    · have hJ : ¬ (j : Int) < (lp : Int) := by omega
      have HJ : Hid (j = lp) := by show _ = _; omega
      have ET : Hid (wordsL ms (ps.take j) = wordsL ms ps) := by show _ = _; rw [List.take_of_length_le (by have := HLP.out; have := HJ.out; omega)]
      clear hlt hN hB
      go_wp2_with fail
      go_ret
      refine ⟨_, rfl, ?_, HB.out⟩
      rw [← ET.out]
      exact HN.out
end Go.Proofs.YthnaggeilbcioaaGreatDoor
namespace Go.Proofs.YthnaggeilbcioaaGreatDoor
open Go.RowKit
set_option linter.unusedVariables false

/-- A policy that came in. -/
structure Pin (w : World) (a0 : Option Addr) (n0 c0 : Nat) (a1 : Option Addr) (n1 c1 : Nat) (a2 : Option Addr) (n2 c2 : Nat) (a3 : Option Addr) (n3 c3 : Nat) (P : Plc) : Prop where
  own : IsSS w a0 n0 c0 P.own
  lanes : IsLanes w a1 n1 c1 P.lanes
  bells : IsPairs w a2 n2 c2 P.bells
  plan : IsPairs w a3 n3 c3 P.plan
theorem Pin.stay {w w' : World} {a0 a1 a2 a3 : Option Addr} {n0 c0 n1 c1 n2 c2 n3 c3 : Nat} {P : Plc} (h : Pin w a0 n0 c0 a1 n1 c1 a2 n2 c2 a3 n3 c3 P) (b : Below w.heap.size w w') : Pin w' a0 n0 c0 a1 n1 c1 a2 n2 c2 a3 n3 c3 P :=
  ⟨h.own.stay b, h.lanes.stay b, h.bells.stay b, h.plan.stay b⟩
/-- How great a policy that came in may be. -/
structure Small (n0 n1 n2 n3 : Nat) (P : Plc) : Prop where
  own : n0 ≤ 1048576
  each : ∀ i, i < n0 → (P.own.getD i []).length ≤ 1048576
  lanes : n1 ≤ 1048576
  bells : n2 ≤ 1048576
  plan : n3 ≤ 1048576

theorem lim {n c : Nat} (h : n ≤ c ∧ c ≤ maxLen) : n ≤ 9223372036854775807 := by have := h; unfold maxLen at this; omega

set_option maxHeartbeats 2000000 in
theorem sz_policy (a0 a1 a2 a3 : Option Addr) (n0 c0 n1 c1 n2 c2 n3 c3 : Nat) (P : Plc) (w : World) (h : Pin w a0 n0 c0 a1 n1 c1 a2 n2 c2 a3 n3 c3 P) :
    Calls Tryz.prog 13 #[.agg #[.slice a0 n0 c0, .slice a1 n1 c1, .slice a2 n2 c2, .slice a3 n3 c3], .int .i64 1048576] w fun e w' => (∃ r : Int, e = .returned (.int .i64 r) ∧ r ≤ 1048576 ∧ (0 ≤ r → Small n0 n1 n2 n3 P)) ∧ Below w.heap.size w w' := by
  have HO : Hid (IsSS (w.alloc (.cells #[.slice a0 n0 c0, .slice a1 n1 c1, .slice a2 n2 c2, .slice a3 n3 c3] 27)) a0 n0 c0 P.own) := h.own.stay (al (Below.refl _ _) _)
  have L1 : Hid (n1 ≤ 9223372036854775807) := lim h.lanes.cap
  have L2 : Hid (n2 ≤ 9223372036854775807) := lim h.bells.cap
  have L3 : Hid (n3 ≤ 9223372036854775807) := lim h.plan.cap
  clear h
  go_enter Tryz.func13, Tryz.ntmps13
  go_wp2_with fail
  refine (sz_ss _ _ _ _ _ _ HO.out (by decide) (by decide)).mono ?_
  rintro e w1 ⟨⟨r0, rfl, hr0, hs0⟩, rfl⟩
  by_cases h0 : r0 < 0
  · go_wp2_with fail
    go_ret
    exact ⟨⟨-1, rfl, by omega, fun h => by omega⟩, al (Below.refl _ _) _⟩
  have SS : Hid _ := hs0 (by omega)
  have E0 : Hid (0 ≤ r0 ∧ r0 ≤ 1048576) := ⟨by omega, hr0⟩
  clear hs0
  by_cases h1 : r0 - n1 < 0
  · have H1 : Hid (r0 - n1 < 0) := h1
    go_wp2_with fail
    refine (sz_lanes _ _ _ _ _ L1.out E0.out.1 E0.out.2).mono ?_
    rintro e w2 ⟨rfl, rfl⟩
    rw [if_pos H1.out]
    go_wp2_with fail
    go_ret
    exact ⟨⟨-1, rfl, by omega, fun h => by omega⟩, al (Below.refl _ _) _⟩
  have H1 : Hid (¬ r0 - n1 < 0) := h1
  have E1 : Hid (0 ≤ r0 - n1 ∧ r0 - n1 ≤ 1048576) := ⟨by omega, by omega⟩
  have e1 : 0 ≤ r0 - n1 := E1.out.1
  by_cases h2 : r0 - n1 - n2 < 0
  · have H2 : Hid (r0 - n1 - n2 < 0) := h2
    go_wp2_with fail
    refine (sz_lanes _ _ _ _ _ L1.out E0.out.1 E0.out.2).mono ?_
    rintro e w2 ⟨rfl, rfl⟩
    rw [if_neg (by have := H1.out; omega)]
    go_wp2_with fail
    refine (sz_bells _ _ _ _ _ L2.out E1.out.1 E1.out.2).mono ?_
    rintro e w2 ⟨rfl, rfl⟩
    rw [if_pos H2.out]
    go_wp2_with fail
    go_ret
    exact ⟨⟨-1, rfl, by omega, fun h => by omega⟩, al (Below.refl _ _) _⟩
  have H2 : Hid (¬ r0 - n1 - n2 < 0) := h2
  have E2 : Hid (0 ≤ r0 - n1 - n2 ∧ r0 - n1 - n2 ≤ 1048576) := ⟨by omega, by omega⟩
  have e2 : 0 ≤ r0 - n1 - n2 := E2.out.1
  by_cases h3 : r0 - n1 - n2 - n3 < 0
  · have H3 : Hid (r0 - n1 - n2 - n3 < 0) := h3
    go_wp2_with fail
    refine (sz_lanes _ _ _ _ _ L1.out E0.out.1 E0.out.2).mono ?_
    rintro e w2 ⟨rfl, rfl⟩
    rw [if_neg (by have := H1.out; omega)]
    go_wp2_with fail
    refine (sz_bells _ _ _ _ _ L2.out E1.out.1 E1.out.2).mono ?_
    rintro e w2 ⟨rfl, rfl⟩
    rw [if_neg (by have := H2.out; omega)]
    go_wp2_with fail
    refine (sz_slots _ _ _ _ _ L3.out E2.out.1 E2.out.2).mono ?_
    rintro e w2 ⟨rfl, rfl⟩
    rw [if_pos H3.out]
    go_wp2_with fail
    go_ret
    exact ⟨⟨-1, rfl, by omega, fun h => by omega⟩, al (Below.refl _ _) _⟩
  have H3 : Hid (¬ r0 - n1 - n2 - n3 < 0) := h3
  have e3 : 0 ≤ r0 - n1 - n2 - n3 := by omega
  have SM : Hid (Small n0 n1 n2 n3 P) := ⟨SS.out.1, SS.out.2, by omega, by omega, by omega⟩
  have hb : Hid (r0 - n1 - n2 - n3 ≤ 1048576) := by show _ ≤ _; omega
  go_wp2_with fail
  refine (sz_lanes _ _ _ _ _ L1.out E0.out.1 E0.out.2).mono ?_
  rintro e w2 ⟨rfl, rfl⟩
  rw [if_neg (by have := H1.out; omega)]
  go_wp2_with fail
  refine (sz_bells _ _ _ _ _ L2.out E1.out.1 E1.out.2).mono ?_
  rintro e w2 ⟨rfl, rfl⟩
  rw [if_neg (by have := H2.out; omega)]
  go_wp2_with fail
  refine (sz_slots _ _ _ _ _ L3.out E2.out.1 E2.out.2).mono ?_
  rintro e w2 ⟨rfl, rfl⟩
  rw [if_neg (by have := H3.out; omega)]
  go_wp2_with fail
  go_ret
  exact ⟨⟨_, rfl, hb.out, fun _ => SM.out⟩, al (Below.refl _ _) _⟩

/-- A policy that was made. -/
structure Mde (w : World) (base g0 g1 g2 g3 n0 n1 n2 n3 : Nat) (P : Plc) : Prop where
  own : SSo w base g0 n0 P.own
  lanes : Ls 154 w base (.slice (some ⟨g1, 0, none⟩) n1 n1) P.lanes
  bells : Prs 158 w base (.slice (some ⟨g2, 0, none⟩) n2 n2) P.bells
  plan : Prs 151 w base (.slice (some ⟨g3, 0, none⟩) n3 n3) P.plan
theorem Mde.keep {w w' : World} {base g0 g1 g2 g3 n0 n1 n2 n3 : Nat} {P : Plc} (h : Mde w base g0 g1 g2 g3 n0 n1 n2 n3 P) (b : Below w.heap.size w w') : Mde w' base g0 g1 g2 g3 n0 n1 n2 n3 P :=
  ⟨h.own.keep b, h.lanes.keep b, h.bells.keep b, h.plan.keep b⟩
theorem Mde.pl {w : World} {base g0 g1 g2 g3 n0 n1 n2 n3 : Nat} {P : Plc} (h : Mde w base g0 g1 g2 g3 n0 n1 n2 n3 P) : Pl w (some ⟨g0, 0, none⟩) n0 n0 (some ⟨g1, 0, none⟩) n1 n1 (some ⟨g2, 0, none⟩) n2 n2 (some ⟨g3, 0, none⟩) n3 n3 P :=
  ⟨h.own.read, h.lanes.read, h.bells.read, h.plan.read⟩
theorem SSo.mono {w : World} {base base' g n : Nat} {oss : List (List Int)} (h : SSo w base g n oss) (hb : base' ≤ base) : SSo w base' g n oss :=
  ⟨h.len, h.small, Nat.le_trans hb h.low, fun i hi => by
    obtain ⟨x, l, c, k1, k2⟩ := h.row i hi
    exact ⟨x, l, c, k1, k2.mono hb⟩⟩
theorem Ls.mono {e : TypeId} {w : World} {base base' : Nat} {v : Value} {rs : List Ln} (h : Ls e w base v rs) (hb : base' ≤ base) : Ls e w base' v rs := by
  obtain ⟨h1, h2 | ⟨g, cap, cur, hv, hg, hr⟩⟩ := h
  · exact ⟨h1, .inl h2⟩
  · exact ⟨h1, .inr ⟨g, cap, cur, hv, Nat.le_trans hb hg, hr⟩⟩
theorem Prs.mono' {e : TypeId} {w : World} {base base' : Nat} {v : Value} {rs : List (Int × Int)} (h : Prs e w base v rs) (hb : base' ≤ base) : Prs e w base' v rs := by
  obtain ⟨h1, h2 | ⟨g, cap, cur, hv, hg, hr⟩⟩ := h
  · exact ⟨h1, .inl h2⟩
  · exact ⟨h1, .inr ⟨g, cap, cur, hv, Nat.le_trans hb hg, hr⟩⟩

set_option maxHeartbeats 4000000 in
theorem eq_policy (g0 g1 g2 g3 k0 k1 k2 k3 n0 n1 n2 n3 : Nat) (P : Plc) (b c : Nat) (w : World) (h : Mde w b g0 g1 g2 g3 n0 n1 n2 n3 P) (k : Mde w c k0 k1 k2 k3 n0 n1 n2 n3 P) :
    Calls Tryz.prog 30 #[.agg #[.slice (some ⟨g0, 0, none⟩) n0 n0, .slice (some ⟨g1, 0, none⟩) n1 n1, .slice (some ⟨g2, 0, none⟩) n2 n2, .slice (some ⟨g3, 0, none⟩) n3 n3],
      .agg #[.slice (some ⟨k0, 0, none⟩) n0 n0, .slice (some ⟨k1, 0, none⟩) n1 n1, .slice (some ⟨k2, 0, none⟩) n2 n2, .slice (some ⟨k3, 0, none⟩) n3 n3]] w fun e w' => e = .returned (.bool true) ∧ Below w.heap.size w w' := by
  generalize hW : (w.alloc (.cells #[.slice (some ⟨g0, 0, none⟩) n0 n0, .slice (some ⟨g1, 0, none⟩) n1 n1, .slice (some ⟨g2, 0, none⟩) n2 n2, .slice (some ⟨g3, 0, none⟩) n3 n3] 45)).alloc (.cells #[.slice (some ⟨k0, 0, none⟩) n0 n0, .slice (some ⟨k1, 0, none⟩) n1 n1, .slice (some ⟨k2, 0, none⟩) n2 n2, .slice (some ⟨k3, 0, none⟩) n3 n3] 45) = W
  have B0 : Hid (Below w.heap.size w W) := by show Below _ _ _; rw [← hW]; exact al (al (Below.refl _ _) _) _
  have Q : Hid (W.cell? ⟨w.heap.size, 0, none⟩ = some (.slice (some ⟨g0, 0, none⟩) n0 n0) ∧ W.cell? ⟨w.heap.size, 1, none⟩ = some (.slice (some ⟨g1, 0, none⟩) n1 n1) ∧ W.cell? ⟨w.heap.size, 2, none⟩ = some (.slice (some ⟨g2, 0, none⟩) n2 n2) ∧ W.cell? ⟨w.heap.size, 3, none⟩ = some (.slice (some ⟨g3, 0, none⟩) n3 n3)) := by
    show _ ∧ _
    rw [← hW]
    exact ⟨cell_push _ (cell_new rfl), cell_push _ (cell_new rfl), cell_push _ (cell_new rfl), cell_push _ (cell_new rfl)⟩
  have K : Hid (W.cell? ⟨w.heap.size + 1, 0, none⟩ = some (.slice (some ⟨k0, 0, none⟩) n0 n0) ∧ W.cell? ⟨w.heap.size + 1, 1, none⟩ = some (.slice (some ⟨k1, 0, none⟩) n1 n1) ∧ W.cell? ⟨w.heap.size + 1, 2, none⟩ = some (.slice (some ⟨k2, 0, none⟩) n2 n2) ∧ W.cell? ⟨w.heap.size + 1, 3, none⟩ = some (.slice (some ⟨k3, 0, none⟩) n3 n3)) := by
    show _ ∧ _
    rw [← hW]
    simp
  have HM : Hid (Mde W b g0 g1 g2 g3 n0 n1 n2 n3 P) := h.keep B0.out
  have KM : Hid (Mde W c k0 k1 k2 k3 n0 n1 n2 n3 P) := k.keep B0.out
  clear h k
  have q0 := Q.out.1
  have s0 := K.out.1
  go_enter Tryz.func30, Tryz.ntmps30
  go_wp2_with fail
  clear hW
  refine (eq_ss _ _ _ _ _ _ _ HM.out.own KM.out.own).mono ?_
  rintro e w1 ⟨rfl, b1⟩
  have q1 := cell_keep b1 Q.out.2.1
  have s1 := cell_keep b1 K.out.2.1
  go_wp2_with fail
  refine (eq_lanes _ _ _ _ _ _ (HM.out.lanes.keep b1) (KM.out.lanes.keep b1)).mono ?_
  rintro e w2 ⟨rfl, b2⟩
  have b2 := on b1 b2
  have q2 := cell_keep b2 Q.out.2.2.1
  have s2 := cell_keep b2 K.out.2.2.1
  go_wp2_with fail
  refine (eq_bells _ _ _ _ _ _ (HM.out.bells.keep b2) (KM.out.bells.keep b2)).mono ?_
  rintro e w3 ⟨rfl, b3⟩
  have b3 := on b2 b3
  have q3 := cell_keep b3 Q.out.2.2.2
  have s3 := cell_keep b3 K.out.2.2.2
  go_wp2_with fail
  refine (eq_slots _ _ _ _ _ _ (HM.out.plan.keep b3) (KM.out.plan.keep b3)).mono ?_
  rintro e w4 ⟨rfl, b4⟩
  go_wp2_with fail
  go_ret
  exact ⟨rfl, on B0.out (on b3 b4)⟩

/-- From one world to another: blocks from base on stay. -/
structure Hi (base : Nat) (w w' : World) : Prop where
  size : w.heap.size ≤ w'.heap.size
  block : ∀ k, base ≤ k → k < w.heap.size → w'.heap[k]? = w.heap[k]?
theorem Hi.refl (base : Nat) (w : World) : Hi base w w := ⟨Nat.le_refl _, fun _ _ _ => rfl⟩
theorem Hi.trans {base : Nat} {a b c : World} (h : Hi base a b) (k : Hi base b c) : Hi base a c :=
  ⟨Nat.le_trans h.size k.size, fun i hb hi => (k.block i hb (Nat.lt_of_lt_of_le hi h.size)).trans (h.block i hb hi)⟩
theorem Hi.of {base : Nat} {w w' : World} (h : Below w.heap.size w w') : Hi base w w' := ⟨h.size, fun k _ hk => h.block k hk⟩
theorem Hi.set {base : Nat} (w : World) (p : Addr) (u : Value) (h : p.block < base) : Hi base w (w.setCell p u) :=
  ⟨(grown_set w p u).size, fun k hb hk => (grown_set w p u).block k hk (fun e => by cases e; omega)⟩
theorem cell_hi {base : Nat} {w w' : World} (H : Hi base w w') {p : Addr} {v : Value} (hp : base ≤ p.block) (h : w.cell? p = some v) : w'.cell? p = some v := by
  have hb := block_of_cell h
  unfold World.cell? at *
  rw [H.block _ hp hb]
  exact h
theorem row_hi {base e sz n : Nat} {v : Value} {w w' : World} {xs : List Value} (h : w.ownsRow base e sz v n xs) (H : Hi base w w') : w'.ownsRow base e sz v n xs := by
  obtain ⟨h1, h2 | ⟨g, cap, cur, hv, hg, hr, rest⟩⟩ := h
  · exact ⟨h1, .inl h2⟩
  · refine ⟨h1, .inr ⟨g, cap, cur, hv, hg, ?_, rest⟩⟩
    rw [H.block g hg ((Array.getElem?_eq_some_iff.1 hr).1)]
    exact hr
theorem SSo.hi {w w' : World} {base g n : Nat} {oss : List (List Int)} (h : SSo w base g n oss) (H : Hi base w w') : SSo w' base g n oss :=
  ⟨h.len, h.small, h.low, fun i hi => by
    obtain ⟨x, l, c, k1, k2⟩ := h.row i hi
    exact ⟨x, l, c, cell_hi H h.low k1, row_hi k2 H⟩⟩

theorem fz_new (w : World) (cs : Array Value) (t : TypeId) (i : Nat) : (w.alloc (.cells cs t)).frozen? ⟨w.heap.size, i, none⟩ = false := by simp
theorem fz_old (w : World) (o : Obj) (p : Addr) (hp : p.block < w.heap.size) (h : w.frozen? p = false) : (w.alloc o).frozen? p = false := by
  rw [World.frozen?_alloc_old _ _ p (Nat.ne_of_lt hp)]; exact h
/-- What toPolicy has under way: the policy that came in (A), the answer's place, and what is made so far (x). -/
structure Stt (v : World) (s : Nat) (A x : Nat → Value) : Prop where
  A : ∀ i, i < 4 → v.cell? ⟨s, i, none⟩ = some (A i)
  O : ∀ i, i < 4 → v.cell? ⟨s + 1 + 1, i, none⟩ = some (x i) ∧ v.frozen? ⟨s + 1 + 1, i, none⟩ = false
  R : ∀ i, i < 4 → v.cell? ⟨s + 1, i, none⟩ = some (.slice none 0 0) ∧ v.frozen? ⟨s + 1, i, none⟩ = false
  lt : s + 1 + 1 < v.heap.size
theorem Stt.keep {v v' : World} {s : Nat} {A x : Nat → Value} (h : Stt v s A x) (b : Below v.heap.size v v') : Stt v' s A x :=
  ⟨fun i hi => cell_keep b (h.A i hi),
   fun i hi => ⟨cell_keep b (h.O i hi).1, by rw [b.frozen (p := ⟨s + 1 + 1, i, none⟩) h.lt]; exact (h.O i hi).2⟩,
   fun i hi => ⟨cell_keep b (h.R i hi).1, by rw [b.frozen (p := ⟨s + 1, i, none⟩) (by have := h.lt; show s + 1 < _; omega)]; exact (h.R i hi).2⟩,
   Nat.lt_of_lt_of_le h.lt b.size⟩
theorem Stt.put {v : World} {s : Nat} {A x : Nat → Value} (h : Stt v s A x) (j : Nat) (hj : j < 4) (u : Value) : Stt (v.setCell ⟨s + 1 + 1, j, none⟩ u) s A (fun i => if i = j then u else x i) := by
  refine ⟨fun i hi => ?_, fun i hi => ⟨?_, by rw [World.frozen?_setCell]; exact (h.O i hi).2⟩, fun i hi => ⟨?_, by rw [World.frozen?_setCell]; exact (h.R i hi).2⟩, Nat.lt_of_lt_of_le h.lt (grown_set v _ u).size⟩
  · rw [World.cell?_setCell_other _ _ _ _ (by intro e; have := congrArg Addr.block e; simp at this; omega)]
    exact h.A i hi
  · by_cases e : i = j
    · subst e
      rw [if_pos rfl]
      exact World.cell?_setCell_same _ _ _ (h.O i hi).1
    · rw [if_neg e, World.cell?_setCell_other _ _ _ _ (by intro h; cases h; exact e rfl)]
      exact (h.O i hi).1
  · rw [World.cell?_setCell_other _ _ _ _ (by intro e; have := congrArg Addr.block e; simp at this)]
    exact (h.R i hi).1
theorem row_up {base base' e sz n : Nat} {v : Value} {w : World} {xs : List Value} (h : w.ownsRow base e sz v n xs) (hb : base' ≤ base) : w.ownsRow base' e sz v n xs := by
  obtain ⟨h1, h2 | ⟨g, cap, cur, hv, hg, hr⟩⟩ := h
  · exact ⟨h1, .inl h2⟩
  · exact ⟨h1, .inr ⟨g, cap, cur, hv, Nat.le_trans hb hg, hr⟩⟩

set_option maxHeartbeats 4000000 in
theorem to_policy (a0 a1 a2 a3 : Option Addr) (n0 c0 n1 c1 n2 c2 n3 c3 : Nat) (P : Plc) (w : World) (h : Pin w a0 n0 c0 a1 n1 c1 a2 n2 c2 a3 n3 c3 P) (hs : Small n0 n1 n2 n3 P) :
    Calls Tryz.prog 19 #[.agg #[.slice a0 n0 c0, .slice a1 n1 c1, .slice a2 n2 c2, .slice a3 n3 c3]] w fun e w' => ∃ g0 g1 g2 g3, e = .returned (.agg #[.slice (some ⟨g0, 0, none⟩) n0 n0, .slice (some ⟨g1, 0, none⟩) n1 n1, .slice (some ⟨g2, 0, none⟩) n2 n2, .slice (some ⟨g3, 0, none⟩) n3 n3]) ∧
      Mde w' w.heap.size g0 g1 g2 g3 n0 n1 n2 n3 P ∧ Below w.heap.size w w' := by
  have HS : Hid (Small n0 n1 n2 n3 P) := hs
  have HP : Hid (Pin w a0 n0 c0 a1 n1 c1 a2 n2 c2 a3 n3 c3 P) := h
  clear h hs
  generalize hW : ((w.alloc (.cells #[.slice a0 n0 c0, .slice a1 n1 c1, .slice a2 n2 c2, .slice a3 n3 c3] 27)).alloc (.cells #[.slice none 0 0, .slice none 0 0, .slice none 0 0, .slice none 0 0] 45)).alloc (.cells #[.slice none 0 0, .slice none 0 0, .slice none 0 0, .slice none 0 0] 45) = W
  have B0 : Hid (Below w.heap.size w W) := by show Below _ _ _; rw [← hW]; exact al (al (al (Below.refl _ _) _) _) _
  have SZ : Hid (W.heap.size = w.heap.size + 3) := by show _ = _; rw [← hW]; simp
  obtain ⟨s, hS⟩ : ∃ s, w.heap.size = s := ⟨_, rfl⟩
  have HSs : Hid (w.heap.size = s) := hS
  have S0 : Hid (Stt W s (fun i => match i with | 0 => .slice a0 n0 c0 | 1 => .slice a1 n1 c1 | 2 => .slice a2 n2 c2 | _ => .slice a3 n3 c3) (fun _ => .slice none 0 0)) := by
    have z1 : s + 1 = (w.alloc (.cells #[.slice a0 n0 c0, .slice a1 n1 c1, .slice a2 n2 c2, .slice a3 n3 c3] 27)).heap.size := by rw [← hS]; simp
    have z2 : s + 1 + 1 = ((w.alloc (.cells #[.slice a0 n0 c0, .slice a1 n1 c1, .slice a2 n2 c2, .slice a3 n3 c3] 27)).alloc (.cells #[.slice none 0 0, .slice none 0 0, .slice none 0 0, .slice none 0 0] 45)).heap.size := by rw [← hS]; simp
    have four : ∀ i : Nat, i < 4 → i = 0 ∨ i = 1 ∨ i = 2 ∨ i = 3 := fun i hi => by omega
    refine ⟨fun i hi => ?_, fun i hi => ?_, fun i hi => ?_, by rw [SZ.out, hS]; omega⟩
    · rw [← hW, ← hS]
      rcases four i hi with rfl | rfl | rfl | rfl <;> exact cell_push _ (cell_push _ (cell_new rfl))
    · rw [← hW, z2]
      rcases four i hi with rfl | rfl | rfl | rfl <;> exact ⟨cell_new rfl, fz_new _ _ _ _⟩
    · rw [← hW, z1]
      rcases four i hi with rfl | rfl | rfl | rfl <;> exact ⟨cell_push _ (cell_new rfl), fz_old _ _ _ (by simp) (fz_new _ _ _ _)⟩
  have a0' := S0.out.A 0 (by omega)
  go_enter Tryz.func19, Tryz.ntmps19
  go_wp2_with fail
  clear hW a0'
  refine (to_ss _ _ _ _ _ (HP.out.own.stay B0.out) HS.out.own HS.out.each).mono ?_
  rintro e w1 ⟨g0, rfl, m0, b1⟩
  have S1 := S0.out.keep b1
  have S1' := S1.put 0 (by omega) (.slice (some ⟨g0, 0, none⟩) n0 n0)
  have o1 := (S1.O 0 (by omega)).1
  have f1 := (S1.O 0 (by omega)).2
  have t1 := S1'.A 1 (by omega)
  simp only at t1
  have M0 : Hid (SSo w1 (s + 3) g0 n0 P.own) := m0.mono (by have := SZ.out; have := HSs.out; omega)
  have V1 : Hid (Below w.heap.size w (w1.setCell ⟨s + 1 + 1, 0, none⟩ (.slice (some ⟨g0, 0, none⟩) n0 n0))) := (on B0.out b1).setCell (by have := HSs.out; show w.heap.size ≤ s + 1 + 1; omega) _
  have H1 : Hid (Hi (s + 3) w1 (w1.setCell ⟨s + 1 + 1, 0, none⟩ (.slice (some ⟨g0, 0, none⟩) n0 n0))) := Hi.set _ _ _ (by show s + 1 + 1 < s + 3; omega)
  have Z1 : Hid (s + 3 ≤ (w1.setCell ⟨s + 1 + 1, 0, none⟩ (.slice (some ⟨g0, 0, none⟩) n0 n0)).heap.size) := by have := S1'.lt; show _ ≤ _; omega
  have SS1 : Hid (Stt _ s _ _) := S1'
  clear S1 S1' m0 b1
  go_wp2_with fail
  generalize w1.setCell ⟨s + 1 + 1, 0, none⟩ (.slice (some ⟨g0, 0, none⟩) n0 n0) = v1 at *
  clear o1 f1 t1
  refine (to_lanes _ _ _ _ _ (HP.out.lanes.stay V1.out) HS.out.lanes).mono ?_
  rintro e w2 ⟨g1, rfl, m1, b2⟩
  have S2 := SS1.out.keep b2
  have S2' := S2.put 1 (by omega) (.slice (some ⟨g1, 0, none⟩) n1 n1)
  have o1 := (S2.O 1 (by omega)).1
  have f1 := (S2.O 1 (by omega)).2
  have t1 := S2'.A 2 (by omega)
  simp only at t1
  have M1 : Hid (Ls 154 w2 (s + 3) (.slice (some ⟨g1, 0, none⟩) n1 n1) P.lanes) := row_up m1 Z1.out
  have V2 : Hid (Below w.heap.size w (w2.setCell ⟨s + 1 + 1, 1, none⟩ (.slice (some ⟨g1, 0, none⟩) n1 n1))) := (on V1.out b2).setCell (by have := HSs.out; show w.heap.size ≤ s + 1 + 1; omega) _
  have H2 : Hid (Hi (s + 3) w2 (w2.setCell ⟨s + 1 + 1, 1, none⟩ (.slice (some ⟨g1, 0, none⟩) n1 n1))) := Hi.set _ _ _ (by show s + 1 + 1 < s + 3; omega)
  have H12 : Hid (Hi (s + 3) w1 w2) := H1.out.trans (Hi.of b2)
  have Z2 : Hid (s + 3 ≤ (w2.setCell ⟨s + 1 + 1, 1, none⟩ (.slice (some ⟨g1, 0, none⟩) n1 n1)).heap.size) := by have := S2'.lt; show _ ≤ _; omega
  have SS2 : Hid (Stt _ s _ _) := S2'
  clear S2 S2' m1 b2
  go_wp2_with fail
  generalize w2.setCell ⟨s + 1 + 1, 1, none⟩ (.slice (some ⟨g1, 0, none⟩) n1 n1) = v2 at *
  clear o1 f1 t1
  refine (to_bells _ _ _ _ _ (HP.out.bells.stay V2.out) HS.out.bells).mono ?_
  rintro e w3 ⟨g2, rfl, m2, b3⟩
  have S3 := SS2.out.keep b3
  have S3' := S3.put 2 (by omega) (.slice (some ⟨g2, 0, none⟩) n2 n2)
  have o1 := (S3.O 2 (by omega)).1
  have f1 := (S3.O 2 (by omega)).2
  have t1 := S3'.A 3 (by omega)
  simp only at t1
  have M2 : Hid (Prs 158 w3 (s + 3) (.slice (some ⟨g2, 0, none⟩) n2 n2) P.bells) := row_up m2 Z2.out
  have V3 : Hid (Below w.heap.size w (w3.setCell ⟨s + 1 + 1, 2, none⟩ (.slice (some ⟨g2, 0, none⟩) n2 n2))) := (on V2.out b3).setCell (by have := HSs.out; show w.heap.size ≤ s + 1 + 1; omega) _
  have H3 : Hid (Hi (s + 3) w3 (w3.setCell ⟨s + 1 + 1, 2, none⟩ (.slice (some ⟨g2, 0, none⟩) n2 n2))) := Hi.set _ _ _ (by show s + 1 + 1 < s + 3; omega)
  have H23 : Hid (Hi (s + 3) w2 w3) := H2.out.trans (Hi.of b3)
  have Z3 : Hid (s + 3 ≤ (w3.setCell ⟨s + 1 + 1, 2, none⟩ (.slice (some ⟨g2, 0, none⟩) n2 n2)).heap.size) := by have := S3'.lt; show _ ≤ _; omega
  have SS3 : Hid (Stt _ s _ _) := S3'
  clear S3 S3' m2 b3
  go_wp2_with fail
  generalize w3.setCell ⟨s + 1 + 1, 2, none⟩ (.slice (some ⟨g2, 0, none⟩) n2 n2) = v3 at *
  clear o1 f1 t1
  refine (to_slots _ _ _ _ _ (HP.out.plan.stay V3.out) HS.out.plan).mono ?_
  rintro e w4 ⟨g3, rfl, m3, b4⟩
  have S4 := SS3.out.keep b4
  have S4' := S4.put 3 (by omega) (.slice (some ⟨g3, 0, none⟩) n3 n3)
  have o1 := (S4.O 3 (by omega)).1
  have f1 := (S4.O 3 (by omega)).2
  have p0 := (S4'.O 0 (by omega)).1
  have p1 := (S4'.O 1 (by omega)).1
  have p2 := (S4'.O 2 (by omega)).1
  have p3 := (S4'.O 3 (by omega)).1
  simp only [reduceIte, Nat.reduceEqDiff] at p0 p1 p2 p3
  obtain ⟨r0, y0⟩ := S4'.R 0 (by omega)
  obtain ⟨r1, y1⟩ := S4'.R 1 (by omega)
  obtain ⟨r2, y2⟩ := S4'.R 2 (by omega)
  obtain ⟨r3, y3⟩ := S4'.R 3 (by omega)
  have M3 : Hid (Prs 151 w4 (s + 3) (.slice (some ⟨g3, 0, none⟩) n3 n3) P.plan) := row_up m3 Z3.out
  have V4 : Hid (Below w.heap.size w (w4.setCell ⟨s + 1 + 1, 3, none⟩ (.slice (some ⟨g3, 0, none⟩) n3 n3))) := (on V3.out b4).setCell (by have := HSs.out; show w.heap.size ≤ s + 1 + 1; omega) _
  have H4 : Hid (Hi (s + 3) w4 (w4.setCell ⟨s + 1 + 1, 3, none⟩ (.slice (some ⟨g3, 0, none⟩) n3 n3))) := Hi.set _ _ _ (by show s + 1 + 1 < s + 3; omega)
  have H34 : Hid (Hi (s + 3) w3 w4) := H3.out.trans (Hi.of b4)
  clear S4 S4' m3 b4
  go_wp2_with fail
  have F : Hid (Below w.heap.size w _ ∧ Hi (s + 3) w4 _) := ⟨(((V4.out.setCell (p := ⟨s + 1, 0, none⟩) (by have := HSs.out; show w.heap.size ≤ s + 1; omega) (.slice (some ⟨g0, 0, none⟩) n0 n0)).setCell (p := ⟨s + 1, 1, none⟩) (by have := HSs.out; show w.heap.size ≤ s + 1; omega) (.slice (some ⟨g1, 0, none⟩) n1 n1)).setCell (p := ⟨s + 1, 2, none⟩) (by have := HSs.out; show w.heap.size ≤ s + 1; omega) (.slice (some ⟨g2, 0, none⟩) n2 n2)).setCell (p := ⟨s + 1, 3, none⟩) (by have := HSs.out; show w.heap.size ≤ s + 1; omega) (.slice (some ⟨g3, 0, none⟩) n3 n3),
    (((H4.out.trans (Hi.set _ ⟨s + 1, 0, none⟩ (.slice (some ⟨g0, 0, none⟩) n0 n0) (by show s + 1 < s + 3; omega))).trans (Hi.set _ ⟨s + 1, 1, none⟩ (.slice (some ⟨g1, 0, none⟩) n1 n1) (by show s + 1 < s + 3; omega))).trans (Hi.set _ ⟨s + 1, 2, none⟩ (.slice (some ⟨g2, 0, none⟩) n2 n2) (by show s + 1 < s + 3; omega))).trans (Hi.set _ ⟨s + 1, 3, none⟩ (.slice (some ⟨g3, 0, none⟩) n3 n3) (by show s + 1 < s + 3; omega))⟩
  refine bodyPost_ret (v := .agg #[.slice (some ⟨g0, 0, none⟩) n0 n0, .slice (some ⟨g1, 0, none⟩) n1 n1, .slice (some ⟨g2, 0, none⟩) n2 n2, .slice (some ⟨g3, 0, none⟩) n3 n3]) (by simp [results, Tryz.results19, go_sem, r0, r1, r2, r3]) rfl
    ⟨g0, g1, g2, g3, rfl, ⟨(M0.out.hi (H12.out.trans (H23.out.trans (H34.out.trans F.out.2)))).mono (by have := HSs.out; omega), row_up (row_hi M1.out (H23.out.trans (H34.out.trans F.out.2))) (by have := HSs.out; omega), row_up (row_hi M2.out (H34.out.trans F.out.2)) (by have := HSs.out; omega), row_up (row_hi M3.out F.out.2) (by have := HSs.out; omega)⟩, F.out.1⟩
end Go.Proofs.YthnaggeilbcioaaGreatDoor
namespace Go.Proofs.YthnaggeilbcioaaGreatDoor
open Go.RowKit Go.ChangeShapes Go.WideShapes Go.ChangeAt
set_option linter.unusedVariables false

/-- The nine cells of a machine at a place. -/
structure Hc (w : World) (p : Addr) (r c i o : Value) (H : Ht) : Prop where
  c0 : w.cell? p = some r
  c1 : w.cell? ⟨p.block, p.off + 1, none⟩ = some (.int .i64 H.pc)
  c2 : w.cell? ⟨p.block, p.off + 2, none⟩ = some c
  c3 : w.cell? ⟨p.block, p.off + 3, none⟩ = some (.bool H.halted)
  c4 : w.cell? ⟨p.block, p.off + 4, none⟩ = some (.bool H.waiting)
  c5 : w.cell? ⟨p.block, p.off + 5, none⟩ = some (.bool H.rung)
  c6 : w.cell? ⟨p.block, p.off + 6, none⟩ = some (.int .i64 H.done)
  c7 : w.cell? ⟨p.block, p.off + 7, none⟩ = some i
  c8 : w.cell? ⟨p.block, p.off + 8, none⟩ = some o
theorem Hc.stay {w : World} {p : Addr} {r c i o : Value} {H : Ht} {w' : World} (h : Hc w p r c i o H) (b : Below w.heap.size w w') : Hc w' p r c i o H :=
  ⟨cell_keep b h.c0, cell_keep b h.c1, cell_keep b h.c2, cell_keep b h.c3, cell_keep b h.c4, cell_keep b h.c5, cell_keep b h.c6, cell_keep b h.c7, cell_keep b h.c8⟩
/-- Machines that came in. -/
def IsHs (w : World) (a : Option Addr) (n c : Nat) (hs : List Ht) : Prop :=
  (a = none ∧ n = 0 ∧ c = 0 ∧ hs = []) ∨
  ∃ x, a = some x ∧ n ≤ c ∧ c ≤ maxLen ∧ hs.length = n ∧ ∀ i, i < n → ∃ (a0 a1 a2 a3 : Option Addr) (n0 k0 n1 k1 n2 k2 n3 k3 : Nat), Hc w (x.add (i * 9)) (.slice a0 n0 k0) (.slice a1 n1 k1) (.slice a2 n2 k2) (.slice a3 n3 k3) (hs.getD i voidH) ∧ Hin w a0 n0 k0 a1 n1 k1 a2 n2 k2 a3 n3 k3 (hs.getD i voidH)
theorem IsHs.stay {w w' : World} {a : Option Addr} {n c : Nat} {hs : List Ht} (h : IsHs w a n c hs) (b : Below w.heap.size w w') : IsHs w' a n c hs := by
  rcases h with h | ⟨x, h1, h2, h3, h4, h5⟩
  · exact .inl h
  · refine .inr ⟨x, h1, h2, h3, h4, fun i hi => ?_⟩
    obtain ⟨a0, a1, a2, a3, n0, k0, n1, k1, n2, k2, n3, k3, g1, g2⟩ := h5 i hi
    exact ⟨a0, a1, a2, a3, n0, k0, n1, k1, n2, k2, n3, k3, g1.stay b, g2.stay b⟩
theorem IsHs.len {w : World} {a : Option Addr} {n c : Nat} {hs : List Ht} (h : IsHs w a n c hs) : n = hs.length ∧ n ≤ 9223372036854775807 := by
  rcases h with ⟨_, h1, _, rfl⟩ | ⟨x, h1, h2, h3, h4, _⟩
  · exact ⟨by simpa using h1, by omega⟩
  · exact ⟨h4.symm, by unfold maxLen at h3; omega⟩
theorem IsHs.at {w : World} {a : Option Addr} {n c : Nat} {hs : List Ht} (h : IsHs w a n c hs) (i : Nat) (hi : i < n) : ∃ (x : Addr) (a0 a1 a2 a3 : Option Addr) (n0 k0 n1 k1 n2 k2 n3 k3 : Nat), a = some x ∧ Hc w (x.add (i * 9)) (.slice a0 n0 k0) (.slice a1 n1 k1) (.slice a2 n2 k2) (.slice a3 n3 k3) (hs.getD i voidH) ∧ Hin w a0 n0 k0 a1 n1 k1 a2 n2 k2 a3 n3 k3 (hs.getD i voidH) := by
  rcases h with ⟨_, h1, _, _⟩ | ⟨x, h1, h2, h3, h4, h5⟩
  · omega
  · obtain ⟨a0, a1, a2, a3, n0, k0, n1, k1, n2, k2, n3, k3, g⟩ := h5 i hi
    exact ⟨x, a0, a1, a2, a3, n0, k0, n1, k1, n2, k2, n3, k3, h1, g⟩
set_option maxHeartbeats 1000000 in
theorem harts_open {K : Type} {enc : TypeId × Value → K} {P : Program} {w : World} {base : Nat} {held : Bool} {t e : TypeId} {f0 f1 f2 f3 f4 f5 f6 f7 f8 : Field} {v : Value} {fuel : Nat} {x : DataW K × List MemPlace} {e0 e2 e7 e8 : TypeId}
    (ht : P.underlying t = some (.slice e)) (hs : P.underlying e = some (.struct #[f0, f1, f2, f3, f4, f5, f6, f7, f8])) (hone : Go.Deep.oneCellFields P #[f0, f1, f2, f3, f4, f5, f6, f7, f8] = true) (ce : P.cellsOf e = 9)
    (u0 : P.underlying f0.type = some (.slice e0)) (u1 : P.underlying f1.type = some (.int .i64)) (u2 : P.underlying f2.type = some (.slice e2)) (u3 : P.underlying f3.type = some .bool) (u4 : P.underlying f4.type = some .bool) (u5 : P.underlying f5.type = some .bool)
    (u6 : P.underlying f6.type = some (.int .i64)) (u7 : P.underlying f7.type = some (.slice e7)) (u8 : P.underlying f8.type = some (.slice e8))
    (i0 : P.underlying e0 = some (.int .i64)) (i2 : P.underlying e2 = some (.int .i64)) (i7 : P.underlying e7 = some (.int .i64)) (i8 : P.underlying e8 = some (.int .i64))
    (c0 : P.cellsOf e0 = 1) (c2 : P.cellsOf e2 = 1) (c7 : P.cellsOf e7 = 1) (c8 : P.cellsOf e8 = 1)
    (h : DataW.trod enc P w base (fun _ => true) held fuel t [v] = some x) : ∃ a len cap hs, v = .slice a len cap ∧ IsHs w a len cap hs := by
  rcases Go.Deep.open_slice ht h with h0 | ⟨a, len, cap, m, n, D, Pl, hv, hb, hl, hm, hmm, rfl, hx⟩
  · exact ⟨none, 0, 0, [], by simpa using h0.1, .inl ⟨rfl, rfl, rfl, rfl⟩⟩
  have hlm : len ≤ m := by rw [hmm]; split <;> omega
  have each : ∀ i, i < len → ∃ (H : Ht) (a0 a1 a2 a3 : Option Addr) (n0 k0 n1 k1 n2 k2 n3 k3 : Nat), Hc w (a.add (i * 9)) (.slice a0 n0 k0) (.slice a1 n1 k1) (.slice a2 n2 k2) (.slice a3 n3 k3) H ∧ Hin w a0 n0 k0 a1 n1 k1 a2 n2 k2 a3 n3 k3 H := by
    intro i hi
    obtain ⟨cs', h1, h2⟩ := hx i (by omega)
    rw [ce] at h1
    obtain ⟨_, hlen, hcell⟩ := World.cells?_some h1
    obtain ⟨v0, v1, v2, v3, v4, v5, v6, v7, v8, rfl⟩ := list9 (show cs'.length = 9 from hlen)
    obtain ⟨a0, a1, a2, a3, n0, k0, n1, k1, n2, k2, n3, k3, H, e, hin⟩ := hart_trod hs hone u0 u1 u2 u3 u4 u5 u6 u7 u8 i0 i2 i7 i8 c0 c2 c7 c8 h2
    simp at e
    obtain ⟨rfl, rfl, rfl, rfl, rfl, rfl, rfl, rfl, rfl⟩ := e
    exact ⟨H, a0, a1, a2, a3, n0, _, n1, _, n2, _, n3, _, ⟨hcell 0 (by simp), hcell 1 (by simp), hcell 2 (by simp), hcell 3 (by simp), hcell 4 (by simp), hcell 5 (by simp), hcell 6 (by simp), hcell 7 (by simp), hcell 8 (by simp)⟩, hin⟩
  refine ⟨some a, len, cap, (List.range len).map fun i => if h : i < len then Classical.choose (each i h) else voidH, by simpa using hv, .inr ⟨a, rfl, hl, hm, by simp, fun i hi => ?_⟩⟩
  have e : ((List.range len).map fun i => if h : i < len then Classical.choose (each i h) else voidH).getD i voidH = Classical.choose (each i hi) := by
    simp [List.getD, hi]
  rw [e]
  exact Classical.choose_spec (each i hi)
theorem hlen9 {l : List Value} (h : (Array.mk l).size = 9) : l.length = 9 := by simpa using h
/-- A host, as a value. -/
structure Hst where
  pol : Plc
  mem : List Int
  harts : List Ht
  slot : Int
  left : Int
  clock : Int
/-- A host that came in. -/
structure Oi (w : World) (a0 : Option Addr) (n0 c0 : Nat) (a1 : Option Addr) (n1 c1 : Nat) (a2 : Option Addr) (n2 c2 : Nat) (a3 : Option Addr) (n3 c3 : Nat) (a4 : Option Addr) (n4 c4 : Nat) (a5 : Option Addr) (n5 c5 : Nat) (X : Hst) : Prop where
  pol : Pin w a0 n0 c0 a1 n1 c1 a2 n2 c2 a3 n3 c3 X.pol
  mem : IsRow .i64 w a4 n4 c4 X.mem
  harts : IsHs w a5 n5 c5 X.harts
theorem Oi.stay {w w' : World} {a0 a1 a2 a3 a4 a5 : Option Addr} {n0 c0 n1 c1 n2 c2 n3 c3 n4 c4 n5 c5 : Nat} {X : Hst} (h : Oi w a0 n0 c0 a1 n1 c1 a2 n2 c2 a3 n3 c3 a4 n4 c4 a5 n5 c5 X) (b : Below w.heap.size w w') : Oi w' a0 n0 c0 a1 n1 c1 a2 n2 c2 a3 n3 c3 a4 n4 c4 a5 n5 c5 X :=
  ⟨h.pol.stay b, h.mem.stay b, h.harts.stay b⟩
set_option maxRecDepth 100000 in
set_option maxHeartbeats 4000000 in
theorem host_open {K : Type} {enc : TypeId × Value → K} {w : World} {base : Nat} {held : Bool} {r : Reach} {b0 : Nat} {v : Value} {d : DataW K} {p : List MemPlace}
    (hv : Value.okWide Tryz.prog w r b0 31 v) (h : DataW.Trod enc Tryz.prog w base (fun _ => true) held 31 v d p) :
    ∃ (a0 a1 a2 a3 a4 a5 : Option Addr) (n0 c0 n1 c1 n2 c2 n3 c3 n4 c4 n5 c5 : Nat) (X : Hst), v = .agg #[.slice a0 n0 c0, .slice a1 n1 c1, .slice a2 n2 c2, .slice a3 n3 c3, .slice a4 n4 c4, .slice a5 n5 c5, .int .i64 X.slot, .int .i64 X.left, .int .i64 X.clock] ∧
      Oi w a0 n0 c0 a1 n1 c1 a2 n2 c2 a3 n3 c3 a4 n4 c4 a5 n5 c5 X := by
  obtain ⟨cs, rfl, hsz⟩ := okWide_struct Tryz.underlying31 hv
  obtain ⟨l⟩ := cs
  obtain ⟨v0, v1, v2, v3, v4, v5, v6, v7, v8, rfl⟩ := list9 (hlen9 (hsz.trans (show Tryz.prog.cellsOf 31 = 9 by kernel_rfl)))
  obtain ⟨fuel, hf⟩ := h
  obtain ⟨xs, n, _, hx, hl, hlen, hg⟩ := DataW.trod_struct Tryz.underlying31 hf
  have h6 : xs.length = 6 := by simpa using hlen
  obtain ⟨z0, z1, z2, z3, z4, z5, rfl⟩ : ∃ a b c d e f, xs = [a, b, c, d, e, f] := by
    match xs, h6 with
    | [a, b, c, d, e, f], _ => exact ⟨a, b, c, d, e, f, rfl⟩
  have G0 := hg 0 _ rfl
  have G1 := hg 1 _ rfl
  have G2 := hg 2 _ rfl
  have G3 := hg 3 _ rfl
  have G4 := hg 4 _ rfl
  have G5 := hg 5 _ rfl
  simp [Value.cells, show Tryz.prog.cellsOf 27 = 4 by kernel_rfl] at G0
  simp [Value.cells, show Tryz.prog.cellsOf 28 = 1 by kernel_rfl] at G1
  simp [Value.cells, show Tryz.prog.cellsOf 29 = 1 by kernel_rfl] at G2
  simp [Value.cells, show Tryz.prog.cellsOf 2 = 1 by kernel_rfl] at G3 G4 G5
  obtain ⟨ys, m, _, hy, hl2, hlen2, hp⟩ := DataW.trod_struct Tryz.underlying27 G0
  have h4 : ys.length = 4 := by simpa using hlen2
  obtain ⟨y0, y1, y2, y3, rfl⟩ : ∃ a b c d, ys = [a, b, c, d] := by
    match ys, h4 with
    | [a, b, c, d], _ => exact ⟨a, b, c, d, rfl⟩
  have P0 := hp 0 _ rfl
  have P1 := hp 1 _ rfl
  have P2 := hp 2 _ rfl
  have P3 := hp 3 _ rfl
  simp [show Tryz.prog.cellsOf 22 = 1 by kernel_rfl] at P0
  simp [show Tryz.prog.cellsOf 23 = 1 by kernel_rfl] at P1
  simp [show Tryz.prog.cellsOf 24 = 1 by kernel_rfl] at P2
  simp [show Tryz.prog.cellsOf 25 = 1 by kernel_rfl] at P3
  have k2 : Tryz.prog.cellsOf 2 = 1 := by kernel_rfl
  obtain ⟨a0, n0, c0, po, q0, w0⟩ := ss_open Tryz.underlying22 Tryz.underlying28 Tryz.underlying2 (by kernel_rfl) (by kernel_rfl) P0
  obtain ⟨a1, n1, c1, pl, q1, w1⟩ := lanes_open2 Tryz.underlying23 Tryz.underlying156 (by kernel_rfl) rfl rfl rfl rfl rfl Tryz.underlying2 Tryz.underlying2 Tryz.underlying2 Tryz.underlying2 Tryz.underlying2 k2 k2 k2 k2 k2 P1
  obtain ⟨a2, n2, c2, pb, q2, w2⟩ := pairs_open Tryz.underlying24 Tryz.underlying160 (by kernel_rfl) rfl rfl Tryz.underlying2 Tryz.underlying2 k2 k2 P2
  obtain ⟨a3, n3, c3, pp, q3, w3⟩ := pairs_open Tryz.underlying25 Tryz.underlying162 (by kernel_rfl) rfl rfl Tryz.underlying2 Tryz.underlying2 k2 k2 P3
  obtain ⟨a4, n4, c4, ms, e4, w4⟩ := rn_open Tryz.underlying28 Tryz.underlying2 k2 G1
  obtain ⟨a5, n5, c5, hs, e5, w5⟩ := harts_open Tryz.underlying29 Tryz.underlying103 (by kernel_rfl) (by kernel_rfl) Tryz.underlying28 Tryz.underlying2 Tryz.underlying28 Tryz.underlying4 Tryz.underlying4 Tryz.underlying4 Tryz.underlying2 Tryz.underlying28 Tryz.underlying28 Tryz.underlying2 Tryz.underlying2 Tryz.underlying2 Tryz.underlying2 k2 k2 k2 k2 G2
  obtain ⟨sl, s3, _, _⟩ := DataW.trod_int Tryz.underlying2 G3
  obtain ⟨le, s4, _, _⟩ := DataW.trod_int Tryz.underlying2 G4
  obtain ⟨cl, s5, _, _⟩ := DataW.trod_int Tryz.underlying2 G5
  simp at q0 q1 q2 q3 s3 s4 s5
  subst q0 q1 q2 q3 e4 e5 s3 s4 s5
  exact ⟨a0, a1, a2, a3, a4, a5, n0, c0, n1, c1, n2, c2, n3, c3, n4, c4, n5, c5, ⟨⟨po, pl, pb, pp⟩, ms, hs, sl, le, cl⟩, rfl, ⟨⟨w0, w1, w2, w3⟩, w4, w5⟩⟩
end Go.Proofs.YthnaggeilbcioaaGreatDoor
