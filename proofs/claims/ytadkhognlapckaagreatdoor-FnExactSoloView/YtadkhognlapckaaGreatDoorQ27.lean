/- Texts of this seat, joined. -/
import Derived.Deep.RegionLaw
import Derived.Test.YtadkhognlapckaaGreatDoorQ05
import Derived.Test.YtadkhognlapckaaGreatDoorQ09
import Derived.Test.YtadkhognlapckaaGreatDoorQ10
import Derived.Test.YtadkhognlapckaaGreatDoorQ14
import Derived.Test.YtadkhognlapckaaGreatDoorQ15
import Derived.Test.YtadkhognlapckaaGreatDoorQ19
namespace Go.Proofs.YtadkhognlapckaaGreatDoor
open Go.RowKit
set_option linter.unusedVariables false

theorem getD_mem {α : Type} (zs : List α) (d : α) (k : Nat) (h : k < zs.length) : zs.getD k d ∈ zs := by
  rw [List.getD, List.getElem?_eq_getElem h]
  exact List.getElem_mem h
def wordsL (ms : List Int) : List Int → List Int
  | [] => []
  | p :: t => eight ms p.toNat ++ wordsL ms t
theorem wordsL_append (ms a b : List Int) : wordsL ms (a ++ b) = wordsL ms a ++ wordsL ms b := by
  induction a with
  | nil => rfl
  | cons p t ih => rw [List.cons_append, wordsL, wordsL, ih, List.append_assoc]
theorem wordsL_take (ms ps : List Int) (j : Nat) (h : j < ps.length) : wordsL ms (ps.take (j + 1)) = wordsL ms (ps.take j) ++ eight ms (ps.getD j 0).toNat := by
  rw [take_succ_getD ps 0 j h, wordsL_append, wordsL, wordsL, List.append_nil]
theorem eight_le (ms : List Int) (j : Nat) : (eight ms j).length ≤ 8 := by simp [eight]; omega
theorem wordsL_le (ms : List Int) : ∀ ps : List Int, (wordsL ms ps).length ≤ 8 * ps.length
  | [] => by simp [wordsL]
  | p :: t => by
    have := wordsL_le ms t
    have := eight_le ms p.toNat
    rw [wordsL, List.length_append, List.length_cons]
    omega
theorem Pags.nil (w : World) (base : Nat) : Pags w base (.slice none 0 0) 0 [] := World.ownsRow_nil w base _ _
theorem nums_empty (w : World) (base : Nat) (hb : base ≤ w.heap.size) : Nums (w.alloc (.cells #[] 2)) base (.slice (some ⟨w.heap.size, 0, none⟩) 0 0) [] :=
  World.ownsRow_lit w #[] 0 hb (by decide) rfl
theorem Pags.shape {w : World} {base n : Nat} {v : Value} {zs : List Int} (h : Pags w base v n zs) : ∃ a cap, v = .slice a n cap ∧ n ≤ cap ∧ cap ≤ maxLen ∧ (0 < n → ∃ g, a = some ⟨g, 0, none⟩) := by
  have h' := h
  obtain ⟨h1, ⟨rfl, h3⟩ | ⟨g, cap, cur, rfl, _, _, h4, h5, _⟩⟩ := h'
  · exact ⟨none, 0, by rw [h3], by omega, by unfold maxLen; omega, fun hz => by omega⟩
  · exact ⟨_, _, rfl, h4, h5, fun _ => ⟨g, rfl⟩⟩
theorem Pags.inb {w : World} {base n : Nat} {v : Value} {zs : List Int} (h : Pags w base v n zs) : ∀ k, v.ownBlock = some k → base ≤ k ∧ k < w.heap.size := World.ownsRow.lt h
theorem eight_list (zs : List Int) (p : Nat) (h : p * 8 + 8 ≤ zs.length) : eight zs p = [zs.getD (p * 8) 0, zs.getD (p * 8 + 1) 0, zs.getD (p * 8 + 2) 0, zs.getD (p * 8 + 3) 0, zs.getD (p * 8 + 4) 0, zs.getD (p * 8 + 5) 0, zs.getD (p * 8 + 6) 0, zs.getD (p * 8 + 7) 0] := by
  have h1 := take_eight zs (p * 8) h
  rw [List.take_add] at h1
  exact List.append_cancel_left h1
/-- append of one page to a slice of pages of the call's own. -/
theorem wp_pag {ops : Array Oper} {rest : List Oper} {o : Oper} {act : Act} {Q : Exit → Act → World → Prop} (w : World) (hgd : o.guard = none) (s x : Operand)
    (ho : o.op = .call { callee := .builtin .append, args := #[s, x], argTypes := #[92, 92] }) (base : Nat) (v : Value) (n : Nat) (zs : List Int) (hs : act.eval s = v) (hN : Pags w base v n zs)
    (B : Nat) (ys : List Int) (hy : ys.length = 8) (hx : act.eval x = .slice (some ⟨B, 0, none⟩) 1 1) (hc : ∀ i, i < 8 → w.cell? ⟨B, i, none⟩ = some (.int .i64 (ys.getD i 0)))
    (hlen : n ≤ 1000) (hbase : base ≤ w.heap.size)
    (h : ∀ v' w', Pags w' base v' (n + 1) (zs ++ ys) → w.grownBy w' v.ownBlock → wpList Tryz.prog ops Q rest (act.put o.dst v') w') : wpList Tryz.prog ops Q (o :: rest) act w := by
  obtain ⟨i, hi, hz0, hz1, hz2⟩ := info_parts info_wpage
  refine wpList_append_own w hgd s x 92 ho base 135 i _ 8 64 Tryz.underlying92 hi hz0 hz1 hz2 rfl (by decide) v n _ hs hN ⟨B, 0, none⟩ 1 1 (ys.map (Value.int .i64)) hx (by simpa using hy) ?_ ?_ (by unfold maxLen; omega) (by omega) hbase ?_
  · intro j u hj
    have hjl : j < ys.length := by have := (List.getElem?_eq_some_iff.1 hj).1; simpa using this
    rw [List.getElem?_map, List.getElem?_eq_getElem hjl] at hj
    have := hc j (by omega)
    rw [List.getD, List.getElem?_eq_getElem hjl] at this
    rw [show (⟨B, 0, none⟩ : Addr).add j = ⟨B, j, none⟩ by rw [Addr.add_lit]; simp, this]
    exact hj
  · intro u hu
    obtain ⟨z, _, rfl⟩ := List.mem_map.1 hu
    rfl
  · intro v' w' hown hgrow _
    refine h v' w' ?_ hgrow
    unfold Pags
    rw [List.map_append]
    exact hown
theorem i_join0 (w : World) : Calls Tryz.prog 95 #[.slice none 0 0] w fun e w' => e = .returned (.slice none 0 0) ∧ w' = w := by
  go_enter Tryz.func95, Tryz.ntmps95
  go_wp2_with fail
  go_loop [3, 5, 8] (fun v _ c => c = .int .i64 0 ∧ v = .slice none 0 0) (fun _ _ _ => 0)
  case atStart => exact ⟨rfl, rfl⟩
  case round =>
    obtain ⟨rfl, rfl⟩ := hrel
    go_wp2_with fail
    go_ret
    exact ⟨rfl, rfl⟩
set_option maxRecDepth 20000 in
set_option maxHeartbeats 4000000 in
theorem i_among (g mc : Nat) (ms : List Int) (ap : Option Addr) (lp cp : Nat) (ps : List Int) (w : World) (mp : Nat) (hpc0 : ∀ k, k < mp * 8 → w.cell? ⟨g, k, none⟩ = some (.int .i64 (ms.getD k 0))) (h1 : 1 ≤ mp) (h24 : mp ≤ 24) (hm : ms.length = mp * 8) (hp : IsNs w ap lp cp ps) (hr : ∀ x ∈ ps, 0 ≤ x ∧ x < mp) (hl : ps.length ≤ 5) :
    Calls Tryz.prog 75 #[.slice (some ⟨g, 0, none⟩) mp mc, .slice ap lp cp] w fun e w' => ∃ v, e = .returned v ∧ Nums w' w.heap.size v (wordsL ms ps) ∧ Below w.heap.size w w' := by
  have PC : Hid (∀ k, k < mp * 8 → w.cell? ⟨g, k, none⟩ = some (.int .i64 (ms.getD k 0))) := hpc0
  have HP : Hid (IsNs w ap lp cp ps) := hp
  have HR : Hid (∀ x ∈ ps, 0 ≤ x ∧ x < mp) := hr
  have HMP : Hid (1 ≤ mp ∧ mp ≤ 24) := ⟨h1, h24⟩
  have hmpI : (mp : Int) ≤ 24 := by omega
  have hmp1 : (1 : Int) ≤ (mp : Int) := by omega
  clear h1 h24
  have HLP : Hid (lp = ps.length ∧ lp ≤ 5) := ⟨hp.len, by have := hp.len; omega⟩
  have HMS : Hid (ms.length = mp * 8) := hm
  have hlpI : (lp : Int) ≤ 5 := by have := HLP.out; omega
  clear hpc0 hp hr hl hm
  go_enter Tryz.func75, Tryz.ntmps75
  go_wp2_with fail
  have B1 : Hid (Below w.heap.size w w) := Below.refl _ _
  go_loopw [5, 7, 10] (fun v _ c wr => ∃ j : Nat, j ≤ lp ∧ c = .int .i64 j ∧ Pags wr w.heap.size v j (wordsL ms (ps.take j)) ∧ Below w.heap.size w wr) (fun _ _ c _ => lp - (intOf c).toNat)
  case atStart => exact ⟨0, Nat.zero_le _, rfl, Pags.nil _ _, Below.refl _ _⟩
  case round =>
    obtain ⟨j, hj, rfl, hN, hB⟩ := hrel
    have HN : Hid (Pags wr _ _ j _) := hN
    have HB : Hid (Below _ w wr) := hB
    obtain ⟨ya, yc, hz, _, _, hsome⟩ := hN.shape
    subst hz
    by_cases hlt : j < lp
    · rcases HP.out.stay (on B1.out hB) with ⟨_, e1, _, _⟩ | ⟨y, rfl, e1, e2, e3, e4⟩
      · omega
      have d0 := e4 j hlt
      have hJ : (j : Int) < (lp : Int) := by omega
      have HLT : Hid (j < lp) := hlt
      have hin := HR.out _ (getD_mem ps 0 j (by have := HLP.out; omega))
      have TK : Hid (_ = _) := wordsL_take ms ps j (by have := HLP.out; omega)
      obtain ⟨z, hz⟩ : ∃ z, ps.getD j 0 = z := ⟨_, rfl⟩
      rw [hz] at d0 hin TK
      clear hz e1 e2 e3 e4
      obtain ⟨p, rfl⟩ := Int.eq_ofNat_of_zero_le hin.1
      have hp8 : (p : Int) < (mp : Int) := by omega
      have hpN : p < mp := by omega
      have EL : Hid (wordsL ms (ps.take (j + 1)) = wordsL ms (ps.take j) ++ [ms.getD (p * 8) 0, ms.getD (p * 8 + 1) 0, ms.getD (p * 8 + 2) 0, ms.getD (p * 8 + 3) 0, ms.getD (p * 8 + 4) 0, ms.getD (p * 8 + 5) 0, ms.getD (p * 8 + 6) 0, ms.getD (p * 8 + 7) 0]) := by
        show _ = _
        rw [TK.out, Int.toNat_natCast, eight_list ms p (by have := HMS.out; omega)]
      have hpc := fun k (hk : k < mp * 8) => cell_keep hB (PC.out k hk)
      have f0 := hpc (p * 8) (by omega)
      have f1 := hpc (p * 8 + 1) (by omega)
      have f2 := hpc (p * 8 + 2) (by omega)
      have f3 := hpc (p * 8 + 3) (by omega)
      have f4 := hpc (p * 8 + 4) (by omega)
      have f5 := hpc (p * 8 + 5) (by omega)
      have f6 := hpc (p * 8 + 6) (by omega)
      have f7 := hpc (p * 8 + 7) (by omega)
      generalize ms.getD (p * 8) 0 = x0 at *
      generalize ms.getD (p * 8 + 1) 0 = x1 at *
      generalize ms.getD (p * 8 + 2) 0 = x2 at *
      generalize ms.getD (p * 8 + 3) 0 = x3 at *
      generalize ms.getD (p * 8 + 4) 0 = x4 at *
      generalize ms.getD (p * 8 + 5) 0 = x5 at *
      generalize ms.getD (p * 8 + 6) 0 = x6 at *
      generalize ms.getD (p * 8 + 7) 0 = x7 at *
      have SZ : Hid (w.heap.size ≤ wr.heap.size) := hB.size
      clear hpc hin TK hlt hN hB hsome
      go_wp2_with (at_builtin; refine wp_pag _ rfl _ _ rfl w.heap.size _ j _ rfl (HN.out.keep (al (Below.refl _ _) _)) wr.heap.size [x0, x1, x2, x3, x4, x5, x6, x7] rfl rfl (cells_eight _ _ _ _ _ _ _ _ _ _) (by have := HLT.out; have := HLP.out; omega) (by have := SZ.out; simp; omega) ?_; intro v' w' hN' hG')
      have N' : Hid (Pags w' _ v' (j + 1) _) := hN'
      have B' : Hid (Below w.heap.size w w') := (al HB.out _).grown hG' (by have := SZ.out; simp; omega) (fun k hk => (HN.out.inb k hk).1)
      clear hN' hG'
      go_wp2_with fail
      go_roundw
      case rel => exact ⟨j + 1, by have := HLT.out; omega, by go_num, by rw [EL.out]; exact N'.out, B'.out⟩
      case measure => have := HLT.out; simp [intOf]; omega
    · have hJ : ¬ (j : Int) < (lp : Int) := by omega
      have HJ : Hid (j = lp) := by show _ = _; omega
      have ET : Hid (wordsL ms (ps.take j) = wordsL ms ps) := by show _ = _; rw [List.take_of_length_le (by have := HLP.out; have := HJ.out; omega)]
      by_cases h0 : j = 0
      · subst h0
        have e0 : ps = [] := List.eq_nil_of_length_eq_zero (by have := HLP.out.1; have := HJ.out; omega)
        have hya : ya = none ∧ yc = 0 ∨ ∃ g', ya = some ⟨g', 0, none⟩ := by
          obtain ⟨_, ⟨h2, _⟩ | ⟨g', cap', cur, h2, _⟩⟩ := hN
          · simp at h2; exact .inl ⟨h2.1, h2.2⟩
          · simp at h2; exact .inr ⟨g', h2.1⟩
        rcases hya with ⟨rfl, rfl⟩ | ⟨gg, rfl⟩
        · clear hlt hN hB hsome
          go_wp2_with fail
          refine (i_join0 _).mono ?_
          rintro e w2 ⟨rfl, rfl⟩
          have N2 : Hid (Nums w2 w.heap.size (.slice none 0 0) (wordsL ms ps)) := by rw [e0]; exact Nums.nil _ _
          go_wp2_with fail
          go_ret
          exact ⟨_, rfl, N2.out, on B1.out HB.out⟩
        · clear hlt hN hB hsome
          go_wp2_with fail
          refine (impl_join _ _ _ _ _ _ HN.out (by omega)).mono ?_
          rintro e w2 ⟨v, rfl, n2', b2⟩
          have B2 : Hid (Below w.heap.size w w2) := on B1.out (on HB.out b2)
          have N2 : Hid (Nums w2 w.heap.size v (wordsL ms ps)) := by rw [ET.out] at n2'; exact n2'.mono ((on B1.out HB.out).size)
          clear b2 n2'
          go_wp2_with fail
          go_ret
          exact ⟨_, rfl, N2.out, B2.out⟩
      obtain ⟨gg, rfl⟩ := hsome (by omega)
      clear hlt hN hB hsome
      go_wp2_with fail
      refine (impl_join _ _ _ _ _ _ HN.out (by have := HJ.out; have := HLP.out; omega)).mono ?_
      rintro e w2 ⟨v, rfl, n2', b2⟩
      have B2 : Hid (Below w.heap.size w w2) := on B1.out (on HB.out b2)
      have N2 : Hid (Nums w2 w.heap.size v (wordsL ms ps)) := by rw [ET.out] at n2'; exact n2'.mono ((on B1.out HB.out).size)
      clear b2 n2'
      go_wp2_with fail
      go_ret
      exact ⟨_, rfl, N2.out, B2.out⟩
set_option maxRecDepth 20000 in
set_option maxHeartbeats 4000000 in
theorem l7_wordsN (gm n cap b : Nat) (ms : List Int) (ap : Option Addr) (lp cp : Nat) (ps : List Int) (w : World) (h : Nums w b (.slice (some ⟨gm, 0, none⟩) n cap) ms) (mp : Nat) (h1 : 1 ≤ mp) (h24 : mp ≤ 24) (hm : ms.length = mp * 8) (hp : IsNs w ap lp cp ps) (hr : ∀ x ∈ ps, 0 ≤ x ∧ x < mp) (hl : ps.length ≤ 5) :
    Calls Tryz.prog 27 #[.slice (some ⟨gm, 0, none⟩) n cap, .slice ap lp cp] w fun e w' => ∃ v, e = .returned v ∧ Nums w' w.heap.size v (wordsL ms ps) ∧ Below w.heap.size w w' := by
  have HM : Hid (Nums w b (.slice (some ⟨gm, 0, none⟩) n cap) ms) := h
  have HP : Hid (IsNs w ap lp cp ps) := hp
  have HR : Hid (∀ x ∈ ps, 0 ≤ x ∧ x < mp) := hr
  have HMP : Hid (1 ≤ mp ∧ mp ≤ 24) := ⟨h1, h24⟩
  have hmpI : (mp : Int) ≤ 24 := by omega
  have hmp1 : (1 : Int) ≤ (mp : Int) := by omega
  clear h1 h24
  have HLP : Hid (lp = ps.length ∧ lp ≤ 5) := ⟨hp.len, by have := hp.len; omega⟩
  have HMS : Hid (ms.length = mp * 8) := hm
  have hn : n = mp * 8 := by have := h.len; omega
  have HNN : Hid (n = mp * 8) := hn
  clear hn
  have hcap : n ≤ cap ∧ cap ≤ 9223372036854775807 := by have := h.lens; unfold maxLen at this; omega
  have HC : Hid (n ≤ cap ∧ cap ≤ 9223372036854775807) := hcap
  have hc1 : (n : Int) ≤ (cap : Int) := by omega
  have hnI : (n : Int) ≤ 192 := by have := HNN.out; omega
  have hlpI : (lp : Int) ≤ 5 := by have := HLP.out; omega
  clear h hp hr hl hm hcap
  go_enter Tryz.func27, Tryz.ntmps27
  go_wp2_with fail
  go_loopw [5, 6] (fun v c wr => ∃ j : Nat, j ≤ lp ∧ c = .int .i64 j ∧ Nums wr w.heap.size v (wordsL ms (ps.take j)) ∧ Below w.heap.size w wr) (fun _ c _ => lp - (intOf c).toNat)
  case atStart => exact ⟨0, Nat.zero_le _, rfl, nums_empty _ _ (Nat.le_refl _), al (Below.refl _ _) _⟩
  case round =>
    obtain ⟨j, hj, rfl, hN, hB⟩ := hrel
    have HN : Hid (Nums wr _ _ (wordsL ms (ps.take j))) := hN
    have HB : Hid (Below _ w wr) := hB
    obtain ⟨ya, yc, hz, _, _, _⟩ := hN.shape
    have HLN : Hid ((wordsL ms (ps.take j)).length ≤ 40) := by
      have h1 := wordsL_le ms (ps.take j)
      have h2 : (ps.take j).length ≤ 5 := by rw [List.length_take]; have := HLP.out; omega
      show _ ≤ _
      omega
    generalize (wordsL ms (ps.take j)).length = un at hz
    subst hz
    by_cases hlt : j < lp
    · rcases HP.out.stay hB with ⟨_, e1, _, _⟩ | ⟨y, rfl, e1, e2, e3, e4⟩
      · omega
      have d0 := e4 j hlt
      have hJ : (j : Int) < (lp : Int) := by omega
      have HLT : Hid (j < lp) := hlt
      have hin := HR.out _ (getD_mem ps 0 j (by have := HLP.out; omega))
      have TK : Hid (_ = _) := wordsL_take ms ps j (by have := HLP.out; omega)
      obtain ⟨z, hz⟩ : ∃ z, ps.getD j 0 = z := ⟨_, rfl⟩
      rw [hz] at d0 hin TK
      clear hz e1 e2 e3 e4
      obtain ⟨p, rfl⟩ := Int.eq_ofNat_of_zero_le hin.1
      rw [Int.toNat_natCast] at TK
      have hpN : p < mp := by omega
      have E8 : Hid ((eight ms p).length = 8) := eight_length ms mp p HMS.out hpN
      have EC : Hid (∀ wz, Below wr.heap.size wr wz → ∀ ad, some (⟨gm, p * 8, none⟩ : Addr) = some ad → ∀ i, i < 8 → wz.cell? (ad.add i) = some (.int .i64 ((eight ms p).getD i 0))) := by
        intro wz hb ad had i hi
        obtain rfl := Option.some.inj had
        have hv : ((eight ms p).map (Value.int .i64))[i]? = some (.int .i64 ((eight ms p).getD i 0)) := by
          rw [List.getElem?_map, List.getD, List.getElem?_eq_getElem (by rw [E8.out]; exact hi)]
          rfl
        exact cell_keep hb (cell_keep HB.out (eight_cell HM.out mp p HMS.out hpN (by rw [HMS.out]; exact HNN.out) i _ hv))
      have hw1 : IntKind.i64.wrap ((p : Int) * 8) = ((p * 8 : Nat) : Int) := by rw [IntKind.wrap_i64]; omega
      obtain ⟨k, hk⟩ : ∃ k : Nat, p * 8 = k := ⟨_, rfl⟩
      obtain ⟨m, hmm⟩ : ∃ m : Nat, p * 8 + 8 = m := ⟨_, rfl⟩
      have hw2 : IntKind.i64.wrap ((p : Int) + 1) = (p : Int) + 1 := by rw [IntKind.wrap_i64]; omega
      have hw3 : IntKind.i64.wrap (((p : Int) + 1) * 8) = (m : Int) := by rw [IntKind.wrap_i64]; omega
      rw [hk] at hw1 EC
      have hk2 : k ≤ m := by omega
      have hk3 : (m : Int) ≤ (cap : Int) := by have := HNN.out; have := HC.out; omega
      have hk4 : ¬ cap = k := by have := HC.out; have := HNN.out; omega
      have E9 : Hid ((eight ms p).length = m - k) := by have := E8.out; show _ = _; omega
      have HMK : Hid (m - k = 8) := by show _ = _; omega
      have SZ : Hid (w.heap.size ≤ wr.heap.size) := hB.size
      clear hin hlt hN hB hk hmm
      go_wp2_with fail
      go_region_law (refine step_append rfl (.tmp 14) (.tmp 27) rfl w.heap.size (.slice ya un yc) _ (by simp [Act.eval, Act.put]) (HN.out.keep (by first | exact Below.refl _ _ | exact (Below.refl _ _).drew | exact (Below.refl _ _).drew.drew)) (some ⟨gm, k, none⟩) (m - k) (cap - k) (eight ms p) (by simp [Act.eval, Act.put]) E9.out (by simp) (by rw [HMK.out]; exact EC.out _ (by first | exact Below.refl _ _ | exact (Below.refl _ _).drew | exact (Below.refl _ _).drew.drew)) (by have := HLN.out; have := HMK.out; omega) w.heap.size w (by first | exact HB.out | exact HB.out.drew | exact HB.out.drew.drew) (Nat.le_refl _) (by have := SZ.out; first | exact this | simpa using this) ?_; intro v1 w2 N1 G1 B1)
      all_goals have NN : Hid (Nums w2 w.heap.size v1 (wordsL ms (ps.take (j + 1)))) := by show Nums _ _ _ _; rw [TK.out]; exact N1.out
      all_goals have BB : Hid (Below w.heap.size w w2) := B1
      all_goals clear N1 G1 B1
      all_goals go_wp2_with fail
      all_goals go_roundw
      all_goals first
        | exact ⟨j + 1, by have := HLT.out; omega, by go_num, NN.out, BB.out⟩
        | (have := HLT.out; simp [intOf]; omega)
    · have hJ : ¬ (j : Int) < (lp : Int) := by omega
      have HJ : Hid (j = lp) := by show _ = _; omega
      have ET : Hid (wordsL ms (ps.take j) = wordsL ms ps) := by show _ = _; rw [List.take_of_length_le (by have := HLP.out; have := HJ.out; omega)]
      clear hlt hN hB
      go_wp2_with fail
      go_ret
      refine ⟨_, rfl, ?_, HB.out⟩
      rw [← ET.out]
      exact HN.out
end Go.Proofs.YtadkhognlapckaaGreatDoor
