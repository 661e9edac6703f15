/- Who reaches a guest, by the program. -/
import Derived.Test.YtnhebeehpkecfaaGreatDoorRsp
import Derived.Test.YtnhebeehpkecfaaGreatDoorLnl
import Derived.Maps.AppendAt
import Derived.Deep.RegionWith
import Derived.Deep.Cut
import Derived.Deep.CutRange
namespace Go.Proofs.YtnhebeehpkecfaaGreatDoor
open Go.RowKit
set_option linter.unusedVariables false

theorem wp_appn_at {ops : Array Oper} {rest : List Oper} {o : Oper} {act : Act} {Q : Exit → Act → World → Prop} (w : World) (hgd : o.guard = none) (s x : Operand)
    (ho : o.op = .call { callee := .builtin .append, args := #[s, x], argTypes := #[29, 29] }) (base : Nat) (v : Value) (zs : List Int) (hs : act.eval s = v) (hN : Nums w base v zs)
    (B m c : Nat) (ys : List Int) (hx : act.eval x = .slice (some ⟨B, 0, none⟩) m c) (hy : ys.length = m) (hc : ∀ i, i < m → w.cell? ⟨B, i, none⟩ = some (.int .i64 (ys.getD i 0)))
    (hlen : zs.length + m ≤ 1000000000) (hbase : base ≤ w.heap.size)
    (h : ∀ v' w', Nums w' base v' (zs ++ ys) → w.grownBy w' v.ownBlock → (v'.ownBlock = v.ownBlock ∨ v'.ownBlock = some w.heap.size) → wpList Tryz.prog ops Q rest (act.put o.dst v') w') : wpList Tryz.prog ops Q (o :: rest) act w := by
  obtain ⟨i, hi, hz0, hz1, hz2⟩ := info_parts info_i64
  refine wpList_append_own_at w hgd s x 29 ho base 2 i _ 1 8 Tryz.underlying29 hi hz0 hz1 hz2 rfl (by decide) v zs.length _ hs hN ⟨B, 0, none⟩ m c (ys.map (Value.int .i64)) hx (by simpa using hy) ?_ ?_ (by unfold maxLen; omega) (by omega) hbase ?_
  · intro j u hj
    have hjl : j < ys.length := by have := (List.getElem?_eq_some_iff.1 hj).1; simpa using this
    rw [List.getElem?_map, List.getElem?_eq_getElem hjl] at hj
    have := hc j (by omega)
    rw [List.getD, List.getElem?_eq_getElem hjl] at this
    rw [show (⟨B, 0, none⟩ : Addr).add j = ⟨B, j, none⟩ by rw [Addr.add_lit]; simp, this]
    exact hj
  · intro u hu
    obtain ⟨z, _, rfl⟩ := List.mem_map.1 hu
    rfl
  · intro v' w' hown hgrow _ hat
    refine h v' w' ?_ hgrow hat
    unfold Nums
    rw [List.length_append, hy, List.map_append]
    exact hown

/-- What is known of the list while it is gone through. -/
structure Rk (P : Plc) (g : Int) (r : List Int) (j : Nat) : Prop where
  nd : r.Nodup
  in3 : In3 r
  first : ∀ x ∈ lkV P g, x ∈ r
  done : ∀ y ∈ r.take j, ∀ x ∈ lkV P y, x ∈ r
  least : ∀ x ∈ r, x ∈ rch P g
theorem Rk.start (P : Plc) (g : Int) (hp : pfV P = 0) : Rk P g (lkV P g) 0 :=
  ⟨up_nodup _ (lk_up P g), lk_in3 P hp g, fun _ h => h, fun y hy => by simp at hy, rch_first P g⟩
theorem Rk.push {P : Plc} {g : Int} {r : List Int} {j : Nat} (h : Rk P g r j) (hp : pfV P = 0) (hj : j ≤ r.length) (x t : Int) (hx : x ∈ r) (ht : t ∈ lkV P x) (hn : t ∉ r) : Rk P g (r ++ [t]) j := by
  refine ⟨?_, fun y hy => ?_, fun y hy => List.mem_append_left _ (h.first y hy), fun y hy z hz => ?_, fun y hy => ?_⟩
  · rw [List.nodup_append]
    refine ⟨h.nd, by simp, fun a ha b hb e => ?_⟩
    rw [List.mem_singleton] at hb
    subst hb
    subst e
    exact hn ha
  · rcases List.mem_append.1 hy with hy | hy
    · exact h.in3 y hy
    · rw [List.mem_singleton] at hy
      rw [hy]
      exact lk_in3 P hp x t ht
  · rw [List.take_append_of_le_length hj] at hy
    exact List.mem_append_left _ (h.done y hy z hz)
  · rcases List.mem_append.1 hy with hy | hy
    · exact h.least y hy
    · rw [List.mem_singleton] at hy
      rw [hy]
      exact rch_closed P hp g x (h.least x hx) t ht
theorem Rk.next {P : Plc} {g : Int} {r : List Int} {j : Nat} (h : Rk P g r j) (hj : j < r.length) (ha : ∀ t ∈ lkV P (r.getD j 0), t ∈ r) : Rk P g r (j + 1) := by
  refine ⟨h.nd, h.in3, h.first, fun y hy z hz => ?_, h.least⟩
  rw [take_succ_getD r 0 j hj, List.mem_append, List.mem_singleton] at hy
  rcases hy with hy | hy
  · exact h.done y hy z hz
  · rw [hy] at hz
    exact ha z hz
theorem getD_app (r e : List Int) (j : Nat) (h : j < r.length) : (r ++ e).getD j 0 = r.getD j 0 := by
  rw [List.getD, List.getD, List.getElem?_append_left h]
theorem lk_take (zs : List Int) (t : Int) (k : Nat) (r : List Int) (h : k < zs.length) (he : zs.getD k 0 = t) (ht : t ∈ r) (ha : ∀ y ∈ zs.take k, y ∈ r) : ∀ y ∈ zs.take (k + 1), y ∈ r := by
  intro y hy
  rw [take_succ_getD zs 0 k h, List.mem_append, List.mem_singleton] at hy
  rcases hy with hy | hy
  · exact ha y hy
  · rw [hy, he]; exact ht

set_option maxRecDepth 20000 in
set_option maxHeartbeats 8000000 in
theorem i_reach (a0 a1 a2 a3 : Option Addr) (n0 c0 n1 c1 n2 c2 n3 c3 : Nat) (P : Plc) (gu : Int) (w : World) (h : Pl w a0 n0 c0 a1 n1 c1 a2 n2 c2 a3 n3 c3 P) (hg : w.cell? ⟨0, 0, none⟩ = some (.iface 158 (.agg #[.pointer (some ⟨1, 103, none⟩)]))) :
    Calls Tryz.prog 43 #[.agg #[.slice a0 n0 c0, .slice a1 n1 c1, .slice a2 n2 c2, .slice a3 n3 c3], .int .i64 gu] w fun e w' => ∃ v, e = .returned (.agg #[.int .i64 (askV P gu), v]) ∧ Nums w' w.heap.size v (reachZ P gu) ∧ Below w.heap.size w w' := by
  generalize hW : ((w.alloc (.cells #[.slice a0 n0 c0, .slice a1 n1 c1, .slice a2 n2 c2, .slice a3 n3 c3] 37))).alloc (.cells #[.int .i64 0, .slice none 0 0] 31) = W
  have B0 : Hid (Below w.heap.size w W) := by show Below _ _ _; rw [← hW]; exact al (al (Below.refl _ _) _) _
  obtain ⟨s, hS⟩ : ∃ s, w.heap.size = s := ⟨_, rfl⟩
  have HSs : Hid (w.heap.size = s) := hS
  have Q : Hid (W.cell? ⟨s, 0, none⟩ = some (.slice a0 n0 c0) ∧ W.cell? ⟨s, 1, none⟩ = some (.slice a1 n1 c1) ∧ W.cell? ⟨s, 2, none⟩ = some (.slice a2 n2 c2) ∧ W.cell? ⟨s, 3, none⟩ = some (.slice a3 n3 c3)) := by
    show _ ∧ _
    rw [← hW, ← hS]
    exact ⟨cell_push _ (cell_new rfl), cell_push _ (cell_new rfl), cell_push _ (cell_new rfl), cell_push _ (cell_new rfl)⟩
  have R : Hid (RsI W s) := by
    have z1 : s + 1 = ((w.alloc (.cells #[.slice a0 n0 c0, .slice a1 n1 c1, .slice a2 n2 c2, .slice a3 n3 c3] 37))).heap.size := by rw [← hS]; simp
    show RsI W s
    unfold RsI
    rw [← hW, z1]
    exact ⟨cell_new rfl, cell_new rfl, fz_new _ _ _ _, fz_new _ _ _ _, by simp⟩
  have HP : Hid (Pl W a0 n0 c0 a1 n1 c1 a2 n2 c2 a3 n3 c3 P) := h.stay B0.out
  have HA : Hid (PolAt W s P) := ⟨_, _, _, _, _, _, _, _, _, _, _, _, Q.out.1, Q.out.2.1, Q.out.2.2.1, Q.out.2.2.2, HP.out⟩
  have HG : Hid (_ = _) := cell_keep B0.out hg
  clear h hg
  have q0 := Q.out.1
  have q1 := Q.out.2.1
  have q2 := Q.out.2.2.1
  have q3 := Q.out.2.2.2
  go_enter Tryz.func43, Tryz.ntmps43
  go_wp2_with fail
  clear hW hS
  refine (i_asked _ _ _ _ _ _ _ _ _ _ _ _ P _ _ HP.out HG.out).mono ?_
  rintro e w1 ⟨rfl, b1⟩
  by_cases hz : askV P gu = 0
  case neg =>
    have ZV : Hid (reachZ P gu = []) := by show _ = _; rw [reachZ, if_neg hz]
    obtain ⟨r0, r1, f0, f1, lt⟩ := R.out.keep b1
    have B1 : Hid (Below w.heap.size w w1) := on B0.out b1
    generalize hv : askV P gu = v at *
    have HV : Hid (askV P gu = v) := hv
    clear b1
    go_wp2_with fail
    exact bodyPost_ret (v := .agg #[.int .i64 v, .slice none 0 0]) (by simp [results, Tryz.results43, go_sem, r0, r1]) rfl ⟨.slice none 0 0, by rw [HV.out], by rw [ZV.out]; exact Nums.nil _ _, (B1.out.setCell (by have := HSs.out; show w.heap.size ≤ s + 1; omega) _).setCell (by have := HSs.out; show w.heap.size ≤ s + 1; omega) _⟩
  have ZV : Hid (reachZ P gu = rch P gu) := by show _ = _; rw [reachZ, if_pos hz]
  have AZ : Hid (askV P gu = 0) := hz
  have PZ : Hid (pfV P = 0) := ask_pf P gu hz
  rw [hz]
  have B1 : Hid (Below w.heap.size w w1) := on B0.out b1
  have HPw : Hid (Pl w1 a0 n0 c0 a1 n1 c1 a2 n2 c2 a3 n3 c3 P) := HP.out.stay b1
  have R1 : Hid (RsI w1 s) := R.out.keep b1
  have Q1 : Hid (w1.cell? ⟨s, 0, none⟩ = some (.slice a0 n0 c0) ∧ w1.cell? ⟨s, 1, none⟩ = some (.slice a1 n1 c1) ∧ w1.cell? ⟨s, 2, none⟩ = some (.slice a2 n2 c2) ∧ w1.cell? ⟨s, 3, none⟩ = some (.slice a3 n3 c3)) := ⟨cell_keep b1 Q.out.1, cell_keep b1 Q.out.2.1, cell_keep b1 Q.out.2.2.1, cell_keep b1 Q.out.2.2.2⟩
  have HN3 : Hid (n0 ≤ 1000) := by have := HPw.out.own.len; have := (pf_parts P PZ.out).1; show _ ≤ _; omega
  have LE : Hid (∀ x, linkUp P x P.own.length = lkV P x) := fun x => (link_eq P x PZ.out).symm
  have q0 := Q1.out.1
  have q1 := Q1.out.2.1
  have q2 := Q1.out.2.2.1
  have q3 := Q1.out.2.2.2
  clear b1 hz
  go_wp2_with fail
  refine (i_links0 _ _ _ _ _ _ _ _ _ _ _ _ P _ _ HPw.out HN3.out).mono ?_
  rintro e w2 ⟨v2, rfl, n2', b2⟩
  rw [LE.out] at n2'
  have N2 : Hid (Nums w2 w1.heap.size v2 (lkV P gu)) := n2'
  have B2 : Hid (Below w1.heap.size w1 w2) := b2
  clear n2' b2 q0 q1 q2 q3
  go_wp2_with fail
  go_loopw [6, 7, 9] (fun v c _ wr => ∃ (j : Nat) (r : List Int), c = .int .i64 j ∧ j ≤ r.length ∧ Nums wr w1.heap.size v r ∧ Below w1.heap.size w1 wr ∧ Hid (Rk P gu r j)) (fun _ c _ _ => 3 - (intOf c).toNat)
  case atStart => exact ⟨0, _, rfl, Nat.zero_le _, N2.out, B2.out, Rk.start P gu PZ.out⟩
  case round =>
    clear N2 B2
    obtain ⟨wo, rfl⟩ : ∃ wo, wo = wr := ⟨_, rfl⟩
    obtain ⟨j, r, rfl, hj, hN, hB, hR⟩ := hrel
    have HN : Hid (Nums wo _ _ r) := hN
    have HB : Hid (Below _ w1 wo) := hB
    have HR3 : Hid (r.length ≤ 3) := nodup3 r hR.out.nd hR.out.in3
    obtain ⟨ya, yc, hv, _, _, hsome⟩ := hN.shape
    obtain ⟨rl, hrl⟩ : ∃ rl, r.length = rl := ⟨_, rfl⟩
    rw [hrl] at hv hsome hj
    have HRL : Hid (r.length = rl) := hrl
    have hrI : (rl : Int) ≤ 3 := by have := HR3.out; omega
    subst hv
    clear hrl
    by_cases hlt : j < rl
    · obtain ⟨gr, rfl⟩ := hsome (by omega)
      have cr := hN.cell HRL.out.symm j hlt
      have hJ : (j : Int) < (rl : Int) := by omega
      have HLT : Hid (j < rl) := hlt
      have q0 := cell_keep hB Q1.out.1
      have q1 := cell_keep hB Q1.out.2.1
      have q2 := cell_keep hB Q1.out.2.2.1
      have q3 := cell_keep hB Q1.out.2.2.2
      obtain ⟨x, hx⟩ : ∃ x, r.getD j 0 = x := ⟨_, rfl⟩
      have HX : Hid (r.getD j 0 = x) := hx
      rw [hx] at cr
      clear hx hN hB hlt hsome
      go_wp2_with fail
      go_cut [31, 32, 33] from 20 to 45 (fun m l c wx => ∃ (ma : Option Addr) (ml mc : Nat), m = .slice ma ml mc ∧ l = .int .i64 ml ∧ c = .int .i64 0 ∧ Nums wx wo.heap.size (.slice ma ml mc) (lkV P x) ∧ Below wo.heap.size wo wx)
      case first =>
        go_region_with (go_at_call 61; refine (i_links0 _ _ _ _ _ _ _ _ _ _ _ _ P x _ (HPw.out.stay (by first | exact HB.out | exact HB.out.drew | exact HB.out.drew.drew)) HN3.out).mono ?_; rintro e w3 ⟨v3, rfl, n3', b3⟩; rw [LE.out] at n3'; obtain ⟨ma, mc, hm, _, _, _⟩ := n3'.shape; have hml : ((lkV P x).length : Int) ≤ 3 := (by have := up3 _ (lk_up P x) (lk_in3 P PZ.out x); omega); have N3 : Hid (Nums w3 wo.heap.size v3 (lkV P x)) := n3'; have B3 : Hid (Below wo.heap.size wo w3) := (by first | exact b3 | exact on (Below.refl _ _).drew b3 | exact on (Below.refl _ _).drew.drew b3); obtain ⟨ml, hmm⟩ : ∃ ml, (lkV P x).length = ml := ⟨_, rfl⟩; rw [hmm] at hm hml; subst hm; clear n3' b3 hmm)
        all_goals (go_wp2_with fail; go_meet; exact ⟨_, _, _, rfl, rfl, rfl, N3.out, by first | exact B3.out | exact B3.out.drew⟩)
      case rest =>
      obtain ⟨ma, ml, mc, rfl, rfl, rfl, n3', b3⟩ := hcut
      have N3 : Hid (Nums wc wo.heap.size (.slice ma ml mc) (lkV P x)) := n3'
      have B3 : Hid (Below wo.heap.size wo wc) := b3
      have HML : Hid (ml = (lkV P x).length) := n3'.len
      obtain ⟨ma', mc', hmv, _, _, msome⟩ := n3'.shape
      rw [← HML.out] at hmv msome
      cases hmv
      have hmI : (ml : Int) ≤ 3 := by have := up3 _ (lk_up P x) (lk_in3 P PZ.out x); have := HML.out; omega
      have NR : Hid (Nums wc w1.heap.size (.slice (some ⟨gr, 0, none⟩) rl yc) r) := HN.out.keep b3
      clear n3' b3 cr q0 q1 q2 q3
      go_wp2_with fail
      go_loopw [6, 9, 33] (fun v _ c wq => ∃ (k : Nat) (e : List Int), k ≤ ml ∧ c = .int .i64 k ∧ Nums wq w1.heap.size v (r ++ e) ∧ Nums wq wo.heap.size (.slice ma ml mc) (lkV P x) ∧ (∀ bk, (Value.slice ma ml mc).ownBlock = some bk → v.ownBlock ≠ some bk) ∧ Below w1.heap.size w1 wq ∧ Hid (Rk P gu (r ++ e) j ∧ ∀ t ∈ (lkV P x).take k, t ∈ r ++ e)) (fun _ _ c _ => ml - (intOf c).toNat)
      case atStart => exact ⟨0, [], Nat.zero_le _, rfl, by rw [List.append_nil]; exact NR.out, N3.out, fun bk hb e2 => by have := (N3.out.lt bk hb).1; have := (HN.out.lt bk e2).2; omega, on HB.out B3.out, by rw [List.append_nil]; exact ⟨hR.out, fun t ht => by simp at ht⟩⟩
      case round =>
        clear NR N3
        obtain ⟨k, e, hk, rfl, hN4, hM4, hne, hB4, hR4⟩ := hrel
        have HN4 : Hid (Nums wr _ _ (r ++ e)) := hN4
        have HM4 : Hid (Nums wr _ _ (lkV P x)) := hM4
        have HB4 : Hid (Below _ w1 wr) := hB4
        have HNE : Hid (∀ bk, (Value.slice ma ml mc).ownBlock = some bk → _ ≠ some bk) := hne
        have H43 : Hid ((r ++ e).length ≤ 3) := nodup3 _ hR4.out.1.nd hR4.out.1.in3
        obtain ⟨ya4, yc4, hv4, _, _, _⟩ := hN4.shape
        obtain ⟨el, hel⟩ : ∃ el, (r ++ e).length = el := ⟨_, rfl⟩
        rw [hel] at hv4
        subst hv4
        have IS : Hid (IsNs wr ya4 el yc4 (r ++ e)) := hN4.read
        have SZ : Hid (w1.heap.size ≤ wr.heap.size) := hB4.size
        clear hel hne
        by_cases hkl : k < ml
        · obtain ⟨gm, rfl⟩ := msome (by omega)
          have cm := hM4.cell HML.out k hkl
          have hK : (k : Int) < (ml : Int) := by omega
          have HKL : Hid (k < ml ∧ k < (lkV P x).length) := ⟨hkl, by have := HML.out; omega⟩
          have HT0 : Hid ((lkV P x).getD k 0 ∈ lkV P x) := getD_mem (lkV P x) 0 k HKL.out.2
          obtain ⟨t, ht⟩ : ∃ t, (lkV P x).getD k 0 = t := ⟨_, rfl⟩
          have HT : Hid ((lkV P x).getD k 0 = t) := ht
          rw [ht] at cm
          have HTM : Hid (t ∈ lkV P x) := by rw [← ht]; exact HT0.out
          clear ht HT0 hN4 hM4 hB4 hkl
          by_cases hin : t ∈ r ++ e
          · have hd : decide (t ∈ r ++ e) = true := decide_eq_true hin
            have R5 : Hid (Rk P gu (r ++ e) j ∧ ∀ t ∈ (lkV P x).take (k + 1), t ∈ r ++ e) := ⟨hR4.out.1, lk_take _ t k _ HKL.out.2 HT.out hin hR4.out.2⟩
            clear hin
            go_wp2_with (go_at_call 44; refine (i_contains _ _ _ _ _ _ IS.out).mono ?_; rintro e5 wr ⟨rfl, rfl⟩; rw [hd])
            go_roundw
            case rel => exact ⟨k + 1, e, by have := HKL.out; omega, by go_num, HN4.out, HM4.out, HNE.out, HB4.out, R5⟩
            case measure => have := HKL.out; simp [intOf]; omega
          · have hd : decide (t ∈ r ++ e) = false := decide_eq_false hin
            have HXI : Hid (x ∈ r ++ e) := List.mem_append_left _ (by rw [← HX.out]; exact getD_mem r 0 j (by have := HRL.out; have := HLT.out; omega))
            have R5 : Hid (Rk P gu (r ++ (e ++ [t])) j ∧ ∀ u ∈ (lkV P x).take (k + 1), u ∈ r ++ (e ++ [t])) := by
              rw [← List.append_assoc]
              exact ⟨hR4.out.1.push PZ.out (by have := HRL.out; have := HLT.out; rw [List.length_append]; omega) x t HXI.out HTM.out hin, lk_take _ t k _ HKL.out.2 HT.out (by simp) (fun y hy => List.mem_append_left _ (hR4.out.2 y hy))⟩
            clear hin
            go_wp2_with (first | (go_at_call 44; refine (i_contains _ _ _ _ _ _ IS.out).mono ?_; rintro e5 wr ⟨rfl, rfl⟩; rw [hd]) | (at_builtin; refine wp_appn_at _ rfl _ _ rfl w1.heap.size _ _ rfl (HN4.out.keep (al (Below.refl _ _) _)) wr.heap.size 1 1 [t] rfl rfl (one_at (cell_new rfl)) (by have := H43.out; omega) (by have := SZ.out; simp; omega) ?_; intro v' w' hN' hG' hat))
            have N' : Hid (Nums w' w1.heap.size v' (r ++ (e ++ [t]))) := by rw [← List.append_assoc]; exact hN'
            have HWA := HM4.out.keep (al (Below.refl _ _) (.cells #[.int .i64 t] 2))
            have MBL : ∀ bk, (Value.slice (some ⟨gm, 0, none⟩) ml mc).ownBlock = some bk → bk < wr.heap.size := fun bk hb => (HM4.out.lt bk hb).2
            have M' : Hid (Nums w' wo.heap.size (.slice (some ⟨gm, 0, none⟩) ml mc) (lkV P x)) := HWA.kept hG' (.inr (fun e2 => HNE.out gm rfl e2.symm))
            have NE' : Hid (∀ bk, (Value.slice (some ⟨gm, 0, none⟩) ml mc).ownBlock = some bk → v'.ownBlock ≠ some bk) := fun bk hb e2 => by
              rcases hat with h | h
              · exact HNE.out bk hb (h.symm.trans e2)
              · have := MBL bk hb
                rw [h] at e2
                have e3 := Option.some.inj e2
                simp at e3
                omega
            have B' : Hid (Below w1.heap.size w1 w') := (al HB4.out _).grown hG' (by have := SZ.out; simp; omega) (fun k hk => (HN4.out.lt k hk).1)
            clear hN' hG' hat HWA MBL
            go_wp2_with fail
            go_roundw
            case rel => exact ⟨k + 1, e ++ [t], by have := HKL.out; omega, by go_num, N'.out, M'.out, NE'.out, B'.out, R5⟩
            case measure => have := HKL.out; simp [intOf]; omega
        · have hK : ¬ (k : Int) < (ml : Int) := by omega
          have LJ : Hid (j < (r ++ e).length) := by rw [List.length_append]; have := HRL.out; have := HLT.out; show _ < _; omega
          have R6 : Hid (Rk P gu (r ++ e) (j + 1)) := hR4.out.1.next LJ.out (fun t ht => by
            rw [getD_app r e j (by have := HRL.out; have := HLT.out; omega), HX.out] at ht
            have := hR4.out.2 t
            rw [List.take_of_length_le (by have := HML.out; omega)] at this
            exact this ht)
          have J3 : Hid (j < 3) := by show _ < _; have := LJ.out; have := H43.out; omega
          clear hN4 hM4 hB4 hkl
          go_wp2_with fail
          go_roundw
          case rel => exact ⟨j + 1, r ++ e, by go_num, by have := LJ.out; omega, HN4.out, HB4.out, R6⟩
          case measure => have := J3.out; simp [intOf]; omega
    · have hJ : ¬ (j : Int) < (rl : Int) := by omega
      have ALL : Hid (∀ y ∈ r, ∀ x ∈ lkV P y, x ∈ r) := fun y hy x hx => hR.out.done y (by rw [List.take_of_length_le (by have := HRL.out; omega)]; exact hy) x hx
      have CS := sort_few (.slice ya rl yc) r w1.heap.size wo hN HR3.out hR.out.nd
      clear hN hB hlt hsome
      go_wp2_with fail
      refine CS.mono ?_
      rintro e w5 ⟨rfl, ys, h1, h2, h3, h4⟩
      have EY : ys = rch P gu := rch_eq P PZ.out gu r ys h2 h3 hR.out.first ALL.out hR.out.least
      subst EY
      have N5 : Hid (Nums w5 w1.heap.size (.slice ya rl yc) (rch P gu)) := h1
      have B5 : Hid (Below w1.heap.size w1 w5) := HB.out.grown h4 HB.out.size (fun k hk => (HN.out.lt k hk).1)
      obtain ⟨r0, r1, f0, f1, lt⟩ := R1.out.keep B5.out
      have LT : Hid (s + 1 < w1.heap.size) := R1.out.2.2.2.2
      clear CS h1 h2 h3 h4
      go_wp2_with fail
      refine bodyPost_ret (v := .agg #[.int .i64 0, .slice ya rl yc]) (by simp [results, Tryz.results43, go_sem, r0, r1]) rfl ⟨.slice ya rl yc, by rw [AZ.out], ?_, ((on B1.out B5.out).setCell (by have := HSs.out; show w.heap.size ≤ s + 1; omega) _).setCell (by have := HSs.out; show w.heap.size ≤ s + 1; omega) _⟩
      have ne : (Value.slice ya rl yc).ownBlock ≠ some (s + 1) := fun e => by have := (N5.out.lt _ e).1; have := LT.out; omega
      rw [ZV.out]
      exact ((N5.out.put ⟨s + 1, 0, none⟩ (.int .i64 0) ne).put ⟨s + 1, 1, none⟩ (.slice ya rl yc) ne).mono B1.out.size
end Go.Proofs.YtnhebeehpkecfaaGreatDoor
