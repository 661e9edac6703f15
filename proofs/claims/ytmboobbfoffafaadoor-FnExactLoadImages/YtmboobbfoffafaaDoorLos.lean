/- Images laid into a memory: the two functions. -/
import Derived.Test.YtmboobbfoffafaaDoorLoi
import Derived.Test.YtmboobbfoffafaaDoorMemr
namespace Go.Proofs.YtmboobbfoffafaaDoor
open Go.RowKit
set_option linter.unusedVariables false

theorem imgC_len (own iss : List (List Int)) (h : ¬ iss.length = own.length) : imgC own iss = 2 := by rw [imgC, if_neg h]
theorem imgC_bad (own iss : List (List Int)) (h : iss.length = own.length) (j : Nat) (hj : j < iss.length) (hb : badAt own iss j = true) : imgC own iss = 8 := by rw [imgC, if_pos h, sizes_bad own iss j hb _ hj]
theorem imgC_good (own iss : List (List Int)) (h : iss.length = own.length) (hb : ∀ j, j < iss.length → badAt own iss j = false) : imgC own iss = 0 := by rw [imgC, if_pos h, sizes_good own iss _ hb]
theorem imgC_ok (own iss : List (List Int)) (h : imgC own iss = 0) : iss.length = own.length ∧ ∀ j, j < iss.length → (iss.getD j []).length ≤ (own.getD j []).length * 8 := by
  unfold imgC at h
  split at h
  · rename_i h1
    refine ⟨h1, fun j hj => ?_⟩
    have := sizes_all own iss _ h j hj
    unfold badAt at this
    have := of_decide_eq_false this
    omega
  · cases h
theorem bad_iff (own iss : List (List Int)) (j : Nat) : badAt own iss j = decide ((own.getD j []).length * 8 < (iss.getD j []).length) := rfl

set_option maxRecDepth 20000 in
set_option maxHeartbeats 4000000 in
theorem l7_images (q : Nat) (P : Plc) (ai : Option Addr) (ni ci : Nat) (iss : List (List Int)) (w : World) (h : PolAt w q P) (hi : IsS2 w ai ni ci iss) (hp : pfV P = 0) :
    Calls Tryd.prog 28 #[.pointer (some ⟨q, 0, none⟩), .slice ai ni ci] w fun e w' => e = .returned (.int .i64 (imgC P.own iss)) ∧ Below w.heap.size w w' := by
  obtain ⟨a0, n0, c0, a1, n1, c1, a2, n2, c2, a3, n3, c3, h0, h1, h2, h3, h4⟩ := h
  have H0 : Hid (w.cell? ⟨q, 0, none⟩ = some (.slice a0 n0 c0)) := h0
  have HO : Hid (IsS2 w a0 n0 c0 P.own) := h4.own
  have HI : Hid (IsS2 w ai ni ci iss) := hi
  have HL0 : Hid (n0 = P.own.length) := h4.own.len
  have HLI : Hid (ni = iss.length) := hi.len
  have hn0 : (n0 : Int) ≤ 3 := by have := h4.own.len; have := (pf_parts P hp).1; omega
  have hniM : (ni : Int) ≤ 9223372036854775807 := by have := hi.cap; unfold maxLen at this; omega
  have OW : Hid (∀ j, j < n0 → (P.own.getD j []).length ≤ 5) := fun j hj => (pf_own P hp j (by have := HL0.out; omega)).2.1
  clear h1 h2 h3 h4 hi hp
  by_cases hne : ni = n0
  case neg =>
    have V : Hid (imgC P.own iss = 2) := imgC_len _ _ (by have := HL0.out; have := HLI.out; omega)
    have hneI : ¬ (ni : Int) = (n0 : Int) := by omega
    go_enter Tryd.func28, Tryd.ntmps28
    go_wp2_with fail
    go_ret
    rw [V.out]
    exact ⟨rfl, Below.refl _ _⟩
  have HEQ : Hid (iss.length = P.own.length) := by show _ = _; have := HL0.out; have := HLI.out; omega
  subst hne
  go_enter Tryd.func28, Tryd.ntmps28
  go_wp2_with fail
  clear h0
  go_loopw [5] (fun c wr => ∃ j : Nat, j ≤ ni ∧ c = .int .i64 j ∧ Below w.heap.size w wr ∧ Hid (∀ i, i < j → badAt P.own iss i = false)) (fun c _ => ni - (intOf c).toNat)
  case atStart => exact ⟨0, Nat.zero_le _, rfl, Below.refl _ _, fun i hi => absurd hi (Nat.not_lt_zero _)⟩
  case round =>
    obtain ⟨j, hj, rfl, hB, hI⟩ := hrel
    have HB : Hid (Below _ w wr) := hB
    by_cases hlt : j < ni
    · obtain ⟨x, b, l, c, rfl, k1, k2⟩ := (HO.out.stay hB).at j hlt
      obtain ⟨y, b2, l2, c2, rfl, m1, m2⟩ := (HI.out.stay hB).at j hlt
      have h0 := cell_keep hB H0.out
      have hJ : (j : Int) < (ni : Int) := by omega
      have HLT : Hid (j < ni) := hlt
      have E1 : Hid (l = (P.own.getD j []).length) := k2.len
      have E2 : Hid (l2 = (iss.getD j []).length) := m2.len
      have hl5 : (l : Int) ≤ 5 := by have := k2.len; have := OW.out j hlt; omega
      have hl2M : (l2 : Int) ≤ 9223372036854775807 := by have := m2.cap; unfold maxLen at this; omega
      have BD : Hid (badAt P.own iss j = decide (l * 8 < l2)) := by show _ = _; rw [bad_iff, ← E1.out, ← E2.out]
      clear k2 m2 hB hlt
      have hw : IntKind.i64.wrap ((l : Int) * 8) = (l : Int) * 8 := by rw [IntKind.wrap_i64]; omega
      by_cases hb : l * 8 < l2
      · have hbI : (l : Int) * 8 < (l2 : Int) := by omega
        have V : Hid (imgC P.own iss = 8) := imgC_bad _ _ HEQ.out j (by have := HLT.out; have := HLI.out; omega) (by rw [BD.out]; exact decide_eq_true hb)
        clear hb BD
        go_wp2_with fail
        go_quiet (fail)
        go_wp2_with fail
        go_ret
        rw [V.out]
        exact ⟨rfl, dr HB.out _⟩
      · have hbI : ¬ (l : Int) * 8 < (l2 : Int) := by omega
        have S2 : Hid (∀ i, i < j + 1 → badAt P.own iss i = false) := fun i hi => by
          rcases Nat.lt_or_ge i j with h | h
          · exact hI.out i h
          · obtain rfl : i = j := by omega
            rw [BD.out]
            exact decide_eq_false hb
        clear hb BD
        go_wp2_with fail
        go_quiet (fail)
        go_wp2_with fail
        go_roundw
        case rel => exact ⟨j + 1, by have := HLT.out; omega, by go_num, dr HB.out _, S2⟩
        case measure => have := HLT.out; simp [intOf]; omega
    · have hJ : ¬ (j : Int) < (ni : Int) := by omega
      have V : Hid (imgC P.own iss = 0) := imgC_good _ _ HEQ.out (fun i hi => hI.out i (by have := HLI.out; omega))
      clear hlt hB
      go_wp2_with fail
      go_ret
      rw [V.out]
      exact ⟨rfl, HB.out⟩

set_option maxRecDepth 20000 in
set_option maxHeartbeats 8000000 in
theorem l7_load (q : Nat) (P : Plc) (ai : Option Addr) (ni ci : Nat) (iss : List (List Int)) (w : World) (h : PolAt w q P) (hi : IsS2 w ai ni ci iss) (hp : pfV P = 0) (hc : imgC P.own iss = 0) :
    Calls Tryd.prog 29 #[.pointer (some ⟨q, 0, none⟩), .slice ai ni ci] w fun e w' => ∃ v, e = .returned v ∧ Nums w' w.heap.size v (allM P.own iss (List.replicate 192 0) iss.length) ∧ Below w.heap.size w w' := by
  obtain ⟨i0, hi0, hz0, hz1, hz2⟩ := info_parts info_i64
  obtain ⟨a0, n0, c0, a1, n1, c1, a2, n2, c2, a3, n3, c3, h0, h1, h2, h3, h4⟩ := h
  have H0 : Hid (w.cell? ⟨q, 0, none⟩ = some (.slice a0 n0 c0)) := h0
  have HO : Hid (IsS2 w a0 n0 c0 P.own) := h4.own
  have HI : Hid (IsS2 w ai ni ci iss) := hi
  have HL0 : Hid (n0 = P.own.length) := h4.own.len
  have HLI : Hid (ni = iss.length) := hi.len
  have hn0 : (n0 : Int) ≤ 3 := by have := h4.own.len; have := (pf_parts P hp).1; omega
  have HNN : Hid (ni = n0) := by show _ = _; have := HL0.out; have := HLI.out; have := (imgC_ok _ _ hc).1; omega
  have hniI : (ni : Int) ≤ 3 := by have := HNN.out; omega
  have OW : Hid (∀ j, j < n0 → (P.own.getD j []).length ≤ 5 ∧ ∀ x ∈ P.own.getD j [], 0 ≤ x ∧ x ≤ 23) := fun j hj => (pf_own P hp j (by have := HL0.out; omega)).2
  have IL : Hid (∀ j, j < ni → (iss.getD j []).length ≤ (P.own.getD j []).length * 8) := fun j hj => (imgC_ok _ _ hc).2 j (by have := HLI.out; omega)
  have AL : Hid (∀ j, (allM P.own iss (List.replicate 192 0) j).length = 192) := fun j => by rw [allM_len, List.length_replicate]
  have AS : Hid (∀ j, allM P.own iss (List.replicate 192 0) (j + 1) = layM (P.own.getD j []) (iss.getD j []) (allM P.own iss (List.replicate 192 0) j) (iss.getD j []).length) := fun _ => rfl
  have A0 : Hid (allM P.own iss (List.replicate 192 0) 0 = List.replicate 192 0) := rfl
  generalize allM P.own iss (List.replicate 192 0) = A at *
  clear h0 h1 h2 h3 h4 hi hp hc
  go_enter Tryd.func29, Tryd.ntmps29
  go_wp2_with (at_make; refine wpList_make_full _ rfl _ _ 30 rfl w.heap.size 2 i0 _ 1 Tryd.underlying30 hi0 hz0 hz1 _ _ _ _ 192 rfl rfl rfl rfl (by rw [hz2]; omega) (by unfold maxLen; omega) (Nat.le_refl _) ?_; intro w1 hown hgrow)
  have N1 : Hid (Nums w1 w.heap.size (.slice (some ⟨w.heap.size, 0, none⟩) 192 192) (List.replicate 192 0)) := Nums.made hown (by rw [Nat.mul_one, show (Value.int .i64 0).cells = #[.int .i64 0] from rfl, toList_madeCells_one, List.map_replicate])
  have B1 : Hid (Below w.heap.size w w1) := (Below.refl _ _).grown hgrow (Nat.le_refl _) (by simp)
  clear hown hgrow hi0 hz0 hz1 hz2
  go_wp2_with fail
  go_loopw [6, 7, 8] (fun c _ _ wr => ∃ j : Nat, j ≤ ni ∧ c = .int .i64 j ∧ Nums wr w.heap.size (.slice (some ⟨w.heap.size, 0, none⟩) 192 192) (A j) ∧ Below w.heap.size w wr) (fun c _ _ _ => ni - (intOf c).toNat)
  case atStart => exact ⟨0, Nat.zero_le _, rfl, by rw [A0.out]; exact N1.out, B1.out⟩
  case round =>
    obtain ⟨j, hj, rfl, hN, hB⟩ := hrel
    have HN : Hid (Nums wr _ _ (A j)) := hN
    have HB : Hid (Below _ w wr) := hB
    by_cases hlt : j < ni
    · have hltn : j < n0 := by have := HNN.out; omega
      obtain ⟨x, b, l, c, rfl, k1, k2⟩ := HO.out.at j hltn
      obtain ⟨y, b2, l2, c2, rfl, m1, m2⟩ := HI.out.at j hlt
      have hJ : (j : Int) < (ni : Int) := by omega
      have hJ0 : (j : Int) < (n0 : Int) := by omega
      have HLT : Hid (j < ni) := hlt
      have K1 : Hid (w.cell? (x.add j) = some (.slice b l c)) := k1
      have MM1 : Hid (w.cell? (y.add j) = some (.slice b2 l2 c2)) := m1
      have HOW : Hid (IsNs w b l c (P.own.getD j [])) := k2
      have HIM : Hid (IsNs w b2 l2 c2 (iss.getD j [])) := m2
      have E1 : Hid (l = (P.own.getD j []).length ∧ l ≤ 5) := ⟨k2.len, by have := k2.len; have := (OW.out j hltn).1; omega⟩
      have E2 : Hid (l2 = (iss.getD j []).length ∧ l2 ≤ l * 8) := ⟨m2.len, by have := m2.len; have := k2.len; have := IL.out j hlt; omega⟩
      have hl5 : (l : Int) ≤ 5 := by have := E1.out.2; omega
      have hl2 : (l2 : Int) ≤ 40 := by have := E1.out.2; have := E2.out.2; omega
      have RN : Hid (∀ x ∈ P.own.getD j [], 0 ≤ x ∧ x ≤ 23) := (OW.out j hltn).2
      have A1 : Hid (A (j + 1) = layM (P.own.getD j []) (iss.getD j []) (A j) l2) := by show _ = _; rw [AS.out, ← E2.out.1]
      have ML : Hid (∀ i, (layM (P.own.getD j []) (iss.getD j []) (A j) i).length = 192) := fun i => by rw [layM_len]; exact AL.out j
      have MS : Hid (∀ i, layM (P.own.getD j []) (iss.getD j []) (A j) (i + 1) = (layM (P.own.getD j []) (iss.getD j []) (A j) i).set (((P.own.getD j []).getD (i / 8) 0).toNat * 8 + i % 8) (wd ((iss.getD j []).getD i 0))) := fun _ => rfl
      have M0 : Hid (layM (P.own.getD j []) (iss.getD j []) (A j) 0 = A j) := rfl
      generalize layM (P.own.getD j []) (iss.getD j []) (A j) = M at *
      generalize P.own.getD j [] = ow at *
      generalize iss.getD j [] = img at *
      have m1 := cell_keep hB MM1.out
      clear k1 k2 m2 hN hB hlt hltn
      go_wp2_with fail
      clear m1
      go_loopw [7, 8] (fun c _ wq => ∃ k : Nat, k ≤ l2 ∧ c = .int .i64 k ∧ Nums wq w.heap.size (.slice (some ⟨w.heap.size, 0, none⟩) 192 192) (M k) ∧ Below w.heap.size w wq) (fun c _ _ => l2 - (intOf c).toNat)
      case atStart => exact ⟨0, Nat.zero_le _, rfl, by rw [M0.out]; exact HN.out, HB.out⟩
      case round =>
        clear HN HB
        obtain ⟨k, hk, rfl, hN, hB⟩ := hrel
        have HN : Hid (Nums wr _ _ (M k)) := hN
        have HB : Hid (Below _ w wr) := hB
        have m1 := cell_keep hB MM1.out
        by_cases hks : k < l2
        · have h0 := cell_keep hB H0.out
          have k1 := cell_keep hB K1.out
          have HK : Hid (k < l2) := hks
          have hK : (k : Int) < (l2 : Int) := by omega
          rcases HOW.out.stay hB with ⟨_, e1, _, _⟩ | ⟨yo, rfl, e1, e2, e3, e4⟩
          · have := E2.out.2; omega
          rcases HIM.out.stay hB with ⟨_, f1, _, _⟩ | ⟨yi, rfl, f1, f2, f3, f4⟩
          · omega
          have hk8 : k / 8 < l := by have := E2.out.2; omega
          have d0 := e4 (k / 8) hk8
          have g0 := f4 k hks
          have hin := RN.out _ (getD_mem ow 0 (k / 8) (by have := E1.out.1; omega))
          have MS2 := MS.out k
          obtain ⟨z, hz⟩ : ∃ z, ow.getD (k / 8) 0 = z := ⟨_, rfl⟩
          rw [hz] at d0 hin MS2
          clear hz
          obtain ⟨p, rfl⟩ := Int.eq_ofNat_of_zero_le hin.1
          rw [Int.toNat_natCast] at MS2
          generalize img.getD k 0 = xv at *
          obtain ⟨kd, hkd⟩ : ∃ kd, k / 8 = kd := ⟨_, rfl⟩
          obtain ⟨km, hkm⟩ : ∃ km, k % 8 = km := ⟨_, rfl⟩
          obtain ⟨at0, hat⟩ : ∃ at0, p * 8 + km = at0 := ⟨_, rfl⟩
          rw [hkm, hat] at MS2
          rw [hkd] at d0 hk8
          have hA192 : at0 < 192 := by omega
          have hA : (at0 : Int) < 192 := by omega
          have hkdI : (kd : Int) < (l : Int) := by omega
          have td : Int.tdiv (k : Int) 8 = (kd : Int) := by rw [← hkd]; simp
          have tm : Int.tmod (k : Int) 8 = (km : Int) := by rw [← hkm, Int.tmod_eq_emod_of_nonneg (by omega)]; omega
          have hadd : (p : Int) * 8 + (km : Int) = (at0 : Int) := by omega
          have hpI : (p : Int) ≤ 23 := by omega
          have hmI : (km : Int) < 8 := by omega
          have c0 := hN.cell (by rw [ML.out]) at0 hA192
          have fz := hN.free (by rw [ML.out]) at0
          have S2 : Hid (M (k + 1) = (M k).set at0 (wd xv)) := MS2
          have ST : Hid (Nums (wr.setCell ⟨w.heap.size, at0, none⟩ (.int .i64 (wd xv))) w.heap.size (.slice (some ⟨w.heap.size, 0, none⟩) 192 192) (M (k + 1))) := by
            have := (hN.store at0 (wd xv)).1
            rw [← MS2] at this
            exact this
          generalize (M k).getD at0 0 = oldv at *
          clear e1 e2 e3 e4 f1 f2 f3 f4 hin MS2 hkd hkm hat hks hN hB hA192 hk8
          go_wp2_with (go_at_call 52; refine (spec_wrap7 _ _).mono ?_; rintro e w9 ⟨rfl, hw9⟩; subst hw9)
          go_roundw
          case rel => exact ⟨k + 1, by have := HK.out; omega, by go_num, ST.out, HB.out.setCell (by simp) _⟩
          case measure => have := HK.out; simp [intOf]; omega
        · have hK : ¬ (k : Int) < (l2 : Int) := by omega
          have HK : Hid (k = l2) := by show _ = _; omega
          clear hN hB hks
          go_wp2_with fail
          go_roundw
          case rel => exact ⟨j + 1, by have := HLT.out; omega, by go_num, by rw [A1.out, ← HK.out]; exact HN.out, HB.out⟩
          case measure => have := HLT.out; simp [intOf]; omega
    · have hJ : ¬ (j : Int) < (ni : Int) := by omega
      have HJ : Hid (j = iss.length) := by show _ = _; have := HLI.out; omega
      clear hlt hN hB
      go_wp2_with fail
      go_ret
      refine ⟨_, rfl, ?_, HB.out⟩
      rw [← HJ.out]
      exact HN.out

set_option maxRecDepth 20000 in
set_option maxHeartbeats 8000000 in
theorem s_load (a0 a1 a2 a3 : Option Addr) (n0 c0 n1 c1 n2 c2 n3 c3 : Nat) (P : Plc) (ai : Option Addr) (ni ci : Nat) (iss : List (List Int)) (w : World) (h : Pl w a0 n0 c0 a1 n1 c1 a2 n2 c2 a3 n3 c3 P) (hi : IsS2 w ai ni ci iss) :
    Calls Tryd.prog 7 #[.agg #[.slice a0 n0 c0, .slice a1 n1 c1, .slice a2 n2 c2, .slice a3 n3 c3], .slice ai ni ci] w fun e w' => ∃ v, e = .returned (.agg #[.int .i64 (loadC P iss), v]) ∧ Nums w' w.heap.size v (loadZ P iss) ∧ Below w.heap.size w w' := by
  generalize hW : ((w.alloc (.cells #[.slice a0 n0 c0, .slice a1 n1 c1, .slice a2 n2 c2, .slice a3 n3 c3] 38))).alloc (.cells #[.int .i64 0, .slice none 0 0] 32) = W
  have B0 : Hid (Below w.heap.size w W) := by show Below _ _ _; rw [← hW]; exact al (al (Below.refl _ _) _) _
  obtain ⟨s, hS⟩ : ∃ s, w.heap.size = s := ⟨_, rfl⟩
  have HSs : Hid (w.heap.size = s) := hS
  have Q : Hid (W.cell? ⟨s, 0, none⟩ = some (.slice a0 n0 c0) ∧ W.cell? ⟨s, 1, none⟩ = some (.slice a1 n1 c1) ∧ W.cell? ⟨s, 2, none⟩ = some (.slice a2 n2 c2) ∧ W.cell? ⟨s, 3, none⟩ = some (.slice a3 n3 c3)) := by
    show _ ∧ _
    rw [← hW, ← hS]
    exact ⟨cell_push _ (cell_new rfl), cell_push _ (cell_new rfl), cell_push _ (cell_new rfl), cell_push _ (cell_new rfl)⟩
  have R : Hid (RsI W s) := by
    have z1 : s + 1 = ((w.alloc (.cells #[.slice a0 n0 c0, .slice a1 n1 c1, .slice a2 n2 c2, .slice a3 n3 c3] 38))).heap.size := by rw [← hS]; simp
    show RsI W s
    unfold RsI
    rw [← hW, z1]
    exact ⟨cell_new rfl, cell_new rfl, fz_new _ _ _ _, fz_new _ _ _ _, by simp⟩
  have HP : Hid (Pl W a0 n0 c0 a1 n1 c1 a2 n2 c2 a3 n3 c3 P) := h.stay B0.out
  have HA : Hid (PolAt W s P) := ⟨_, _, _, _, _, _, _, _, _, _, _, _, Q.out.1, Q.out.2.1, Q.out.2.2.1, Q.out.2.2.2, HP.out⟩
  have HI : Hid (IsS2 W ai ni ci iss) := hi.stay B0.out
  clear h hi
  have q0 := Q.out.1
  have q1 := Q.out.2.1
  have q2 := Q.out.2.2.1
  have q3 := Q.out.2.2.2
  go_enter Tryd.func7, Tryd.ntmps7
  go_wp2_with fail
  clear hW hS
  refine (l6_fault _ P _ HA.out).mono ?_
  rintro e w1 ⟨rfl, b1⟩
  have BX : Hid (Below w.heap.size w w1) := on B0.out b1
  have R1 : Hid (RsI w1 s) := R.out.keep b1
  obtain ⟨r0, r1, f0, f1, lt⟩ := R1.out
  have Q1 : Hid (w1.cell? ⟨s, 0, none⟩ = some (.slice a0 n0 c0)) := cell_keep b1 Q.out.1
  have HPw : Hid (Pl w1 a0 n0 c0 a1 n1 c1 a2 n2 c2 a3 n3 c3 P) := HP.out.stay b1
  have HAw : Hid (PolAt w1 s P) := HA.out.stay b1
  have HIw : Hid (IsS2 w1 ai ni ci iss) := HI.out.stay b1
  clear b1 q0 q1 q2 q3
  by_cases hz : pfV P = 0
  case neg =>
    have CV : Hid (loadC P iss = pfV P) := by show _ = _; rw [loadC, if_neg hz]
    have ZV : Hid (loadZ P iss = []) := by show _ = _; rw [loadZ, if_neg (by rw [CV.out]; exact hz)]
    generalize hv : pfV P = v at *
    go_wp2_with fail
    exact bodyPost_ret (v := .agg #[.int .i64 v, .slice none 0 0]) (by simp [results, Tryd.results7, go_sem, r0, r1]) rfl ⟨.slice none 0 0, by rw [CV.out], by rw [ZV.out]; exact Nums.nil _ _, (BX.out.setCell (by have := HSs.out; show w.heap.size ≤ s + 1; omega) _).setCell (by have := HSs.out; show w.heap.size ≤ s + 1; omega) _⟩
  have PZ : Hid (pfV P = 0) := hz
  have CE : Hid (loadC P iss = imgC P.own iss) := by show _ = _; rw [loadC, if_pos hz]
  rw [hz]
  clear hz
  go_wp2_with fail
  refine (l7_images _ P _ _ _ _ _ HAw.out HIw.out PZ.out).mono ?_
  rintro e w2 ⟨rfl, b2⟩
  have HBJ : Hid (Below w1.heap.size w1 w2) := b2
  by_cases hc : imgC P.own iss = 0
  case neg =>
    have CV : Hid (loadC P iss = imgC P.own iss) := CE
    have ZV : Hid (loadZ P iss = []) := by show _ = _; rw [loadZ, if_neg (by rw [CV.out]; exact hc)]
    obtain ⟨r0, r1, f0, f1, lt⟩ := R1.out.keep b2
    have BX : Hid (Below w.heap.size w w2) := on BX.out b2
    clear b2
    generalize hv : imgC P.own iss = v at *
    go_wp2_with fail
    exact bodyPost_ret (v := .agg #[.int .i64 v, .slice none 0 0]) (by simp [results, Tryd.results7, go_sem, r0, r1]) rfl ⟨.slice none 0 0, by rw [CV.out], by rw [ZV.out]; exact Nums.nil _ _, (BX.out.setCell (by have := HSs.out; show w.heap.size ≤ s + 1; omega) _).setCell (by have := HSs.out; show w.heap.size ≤ s + 1; omega) _⟩
  have CV : Hid (loadC P iss = 0) := by show _ = _; rw [CE.out, hc]
  have ZV : Hid (loadZ P iss = allM P.own iss (List.replicate 192 0) iss.length) := by show _ = _; rw [loadZ, if_pos CV.out]
  have CZ : Hid (imgC P.own iss = 0) := hc
  rw [hc]
  have HA2 : Hid (PolAt w2 s P) := HAw.out.stay b2
  have HI2 : Hid (IsS2 w2 ai ni ci iss) := HIw.out.stay b2
  clear hc b2
  go_wp2_with fail
  refine (l7_load _ P _ _ _ _ _ HA2.out HI2.out PZ.out CZ.out).mono ?_
  rintro e w3 ⟨v, rfl, n2', b3⟩
  have B3 : Hid (Below w.heap.size w w3) := on BX.out (on HBJ.out b3)
  have D3 : Hid (Below w1.heap.size w1 w3) := on HBJ.out b3
  obtain ⟨ya, yc, hv, _, _, _⟩ := n2'.shape
  have NN : Hid (Nums w3 w.heap.size v (allM P.own iss (List.replicate 192 0) iss.length)) := n2'.mono (Nat.le_trans BX.out.size HBJ.out.size)
  have NL : Hid (∀ k, v.ownBlock = some k → w1.heap.size ≤ k) := fun k e => Nat.le_trans HBJ.out.size (n2'.lt k e).1
  have LT : Hid (s + 1 < w1.heap.size) := R1.out.2.2.2.2
  generalize (allM P.own iss (List.replicate 192 0) iss.length).length = ln at hv
  subst hv
  obtain ⟨r0, r1, f0, f1, lt⟩ := R1.out.keep D3.out
  clear b3 n2'
  go_wp2_with fail
  refine bodyPost_ret (v := .agg #[.int .i64 0, .slice ya ln yc]) (by simp [results, Tryd.results7, go_sem, r0, r1]) rfl ⟨.slice ya ln yc, by rw [CV.out], ?_, (B3.out.setCell (by have := HSs.out; show w.heap.size ≤ s + 1; omega) _).setCell (by have := HSs.out; show w.heap.size ≤ s + 1; omega) _⟩
  have ne : (Value.slice ya ln yc).ownBlock ≠ some (s + 1) := fun e => by have := NL.out _ e; have := LT.out; omega
  rw [ZV.out]
  exact (NN.out.put ⟨s + 1, 0, none⟩ (.int .i64 0) ne).put ⟨s + 1, 1, none⟩ (.slice ya ln yc) ne

set_option maxRecDepth 20000 in
set_option maxHeartbeats 8000000 in
theorem i_load (a0 a1 a2 a3 : Option Addr) (n0 c0 n1 c1 n2 c2 n3 c3 : Nat) (P : Plc) (ai : Option Addr) (ni ci : Nat) (iss : List (List Int)) (w : World) (h : Pl w a0 n0 c0 a1 n1 c1 a2 n2 c2 a3 n3 c3 P) (hi : IsS2 w ai ni ci iss) (hg : w.cell? ⟨0, 0, none⟩ = some (.iface 138 (.agg #[.pointer (some ⟨1, 94, none⟩)]))) :
    Calls Tryd.prog 10 #[.agg #[.slice a0 n0 c0, .slice a1 n1 c1, .slice a2 n2 c2, .slice a3 n3 c3], .slice ai ni ci] w fun e w' => ∃ v, e = .returned (.agg #[.int .i64 (loadC P iss), v]) ∧ Nums w' w.heap.size v (loadZ P iss) ∧ Below w.heap.size w w' := by
  generalize hW : ((w.alloc (.cells #[.slice a0 n0 c0, .slice a1 n1 c1, .slice a2 n2 c2, .slice a3 n3 c3] 38))).alloc (.cells #[.int .i64 0, .slice none 0 0] 32) = W
  have B0 : Hid (Below w.heap.size w W) := by show Below _ _ _; rw [← hW]; exact al (al (Below.refl _ _) _) _
  obtain ⟨s, hS⟩ : ∃ s, w.heap.size = s := ⟨_, rfl⟩
  have HSs : Hid (w.heap.size = s) := hS
  have Q : Hid (W.cell? ⟨s, 0, none⟩ = some (.slice a0 n0 c0) ∧ W.cell? ⟨s, 1, none⟩ = some (.slice a1 n1 c1) ∧ W.cell? ⟨s, 2, none⟩ = some (.slice a2 n2 c2) ∧ W.cell? ⟨s, 3, none⟩ = some (.slice a3 n3 c3)) := by
    show _ ∧ _
    rw [← hW, ← hS]
    exact ⟨cell_push _ (cell_new rfl), cell_push _ (cell_new rfl), cell_push _ (cell_new rfl), cell_push _ (cell_new rfl)⟩
  have R : Hid (RsI W s) := by
    have z1 : s + 1 = ((w.alloc (.cells #[.slice a0 n0 c0, .slice a1 n1 c1, .slice a2 n2 c2, .slice a3 n3 c3] 38))).heap.size := by rw [← hS]; simp
    show RsI W s
    unfold RsI
    rw [← hW, z1]
    exact ⟨cell_new rfl, cell_new rfl, fz_new _ _ _ _, fz_new _ _ _ _, by simp⟩
  have HP : Hid (Pl W a0 n0 c0 a1 n1 c1 a2 n2 c2 a3 n3 c3 P) := h.stay B0.out
  have HA : Hid (PolAt W s P) := ⟨_, _, _, _, _, _, _, _, _, _, _, _, Q.out.1, Q.out.2.1, Q.out.2.2.1, Q.out.2.2.2, HP.out⟩
  have HI : Hid (IsS2 W ai ni ci iss) := hi.stay B0.out
  have HG : Hid (_ = _) := cell_keep B0.out hg
  clear h hg hi
  have q0 := Q.out.1
  have q1 := Q.out.2.1
  have q2 := Q.out.2.2.1
  have q3 := Q.out.2.2.2
  go_enter Tryd.func10, Tryd.ntmps10
  go_wp2_with fail
  clear hW hS
  refine (impl_policy _ _ _ _ _ _ _ _ _ _ _ _ P _ HP.out HG.out).mono ?_
  rintro e w1 ⟨rfl, b1⟩
  have BX : Hid (Below w.heap.size w w1) := on B0.out b1
  have R1 : Hid (RsI w1 s) := R.out.keep b1
  obtain ⟨r0, r1, f0, f1, lt⟩ := R1.out
  have Q1 : Hid (w1.cell? ⟨s, 0, none⟩ = some (.slice a0 n0 c0)) := cell_keep b1 Q.out.1
  have HPw : Hid (Pl w1 a0 n0 c0 a1 n1 c1 a2 n2 c2 a3 n3 c3 P) := HP.out.stay b1
  have HAw : Hid (PolAt w1 s P) := HA.out.stay b1
  have HIw : Hid (IsS2 w1 ai ni ci iss) := HI.out.stay b1
  clear b1 q0 q1 q2 q3
  by_cases hz : pfV P = 0
  case neg =>
    have CV : Hid (loadC P iss = pfV P) := by show _ = _; rw [loadC, if_neg hz]
    have ZV : Hid (loadZ P iss = []) := by show _ = _; rw [loadZ, if_neg (by rw [CV.out]; exact hz)]
    generalize hv : pfV P = v at *
    go_wp2_with fail
    exact bodyPost_ret (v := .agg #[.int .i64 v, .slice none 0 0]) (by simp [results, Tryd.results10, go_sem, r0, r1]) rfl ⟨.slice none 0 0, by rw [CV.out], by rw [ZV.out]; exact Nums.nil _ _, (BX.out.setCell (by have := HSs.out; show w.heap.size ≤ s + 1; omega) _).setCell (by have := HSs.out; show w.heap.size ≤ s + 1; omega) _⟩
  have PZ : Hid (pfV P = 0) := hz
  have CE : Hid (loadC P iss = imgC P.own iss) := by show _ = _; rw [loadC, if_pos hz]
  rw [hz]
  clear hz
  obtain ⟨i0, hi0, hz0, hz1, hz2⟩ := info_parts info_page
  have HL0 : Hid (n0 = P.own.length) := HPw.out.own.len
  have HLI : Hid (ni = iss.length) := HIw.out.len
  have hn0 : (n0 : Int) ≤ 3 := by have := HL0.out; have := (pf_parts P PZ.out).1; omega
  have hniM : (ni : Int) ≤ 9223372036854775807 := by have := HIw.out.cap; unfold maxLen at this; omega
  have OW : Hid (∀ j, j < n0 → (P.own.getD j []).length ≤ 5 ∧ ∀ x ∈ P.own.getD j [], 0 ≤ x ∧ x ≤ 23) := fun j hj => (pf_own P PZ.out j (by have := HL0.out; omega)).2
  have q0 := Q1.out
  by_cases hne : ni = n0
  case neg =>
    have CV : Hid (loadC P iss = 2) := by show _ = _; rw [CE.out]; exact imgC_len _ _ (by have := HL0.out; have := HLI.out; omega)
    have ZV : Hid (loadZ P iss = []) := by show _ = _; rw [loadZ, if_neg (by rw [CV.out]; decide)]
    have hneI : ¬ (ni : Int) = (n0 : Int) := by omega
    clear hi0 hz0 hz1 hz2
    go_wp2_with fail
    exact bodyPost_ret (v := .agg #[.int .i64 2, .slice none 0 0]) (by simp [results, Tryd.results10, go_sem, r0, r1]) rfl ⟨.slice none 0 0, by rw [CV.out], by rw [ZV.out]; exact Nums.nil _ _, (BX.out.setCell (by have := HSs.out; show w.heap.size ≤ s + 1; omega) _).setCell (by have := HSs.out; show w.heap.size ≤ s + 1; omega) _⟩
  have HEQ : Hid (iss.length = P.own.length) := by show _ = _; have := HL0.out; have := HLI.out; omega
  subst hne
  go_wp2_with fail
  clear q0
  go_loop [6, 7, 26] (fun _ _ c => ∃ j : Nat, j ≤ ni ∧ c = .int .i64 j ∧ Hid (∀ i, i < j → badAt P.own iss i = false)) (fun _ _ c => ni - (intOf c).toNat)
  case atStart => exact ⟨0, Nat.zero_le _, rfl, fun i hi => absurd hi (Nat.not_lt_zero _)⟩
  case round =>
    obtain ⟨j, hj, rfl, hI⟩ := hrel
    by_cases hlt : j < ni
    · obtain ⟨x, b, l, c, rfl, k1, k2⟩ := HPw.out.own.at j hlt
      obtain ⟨y, b2, l2, c2, rfl, m1, m2⟩ := HIw.out.at j hlt
      have q0 := Q1.out
      have hJ : (j : Int) < (ni : Int) := by omega
      have HLT : Hid (j < ni) := hlt
      have E1 : Hid (l = (P.own.getD j []).length) := k2.len
      have E2 : Hid (l2 = (iss.getD j []).length) := m2.len
      have hl5 : (l : Int) ≤ 5 := by have := k2.len; have := (OW.out j hlt).1; omega
      have hl2M : (l2 : Int) ≤ 9223372036854775807 := by have := m2.cap; unfold maxLen at this; omega
      have BD : Hid (badAt P.own iss j = decide (l * 8 < l2)) := by show _ = _; rw [bad_iff, ← E1.out, ← E2.out]
      clear k2 m2 hlt
      by_cases hb : l * 8 < l2
      · have hbI : (l : Int) * 8 < (l2 : Int) := by omega
        have CV : Hid (loadC P iss = 8) := by show _ = _; rw [CE.out]; exact imgC_bad _ _ HEQ.out j (by have := HLT.out; have := HLI.out; omega) (by rw [BD.out]; exact decide_eq_true hb)
        have ZV : Hid (loadZ P iss = []) := by show _ = _; rw [loadZ, if_neg (by rw [CV.out]; decide)]
        clear hb BD hi0 hz0 hz1 hz2
        go_wp2_with fail
        exact bodyPost_ret (v := .agg #[.int .i64 8, .slice none 0 0]) (by simp [results, Tryd.results10, go_sem, r0, r1]) rfl ⟨.slice none 0 0, by rw [CV.out], by rw [ZV.out]; exact Nums.nil _ _, (BX.out.setCell (by have := HSs.out; show w.heap.size ≤ s + 1; omega) _).setCell (by have := HSs.out; show w.heap.size ≤ s + 1; omega) _⟩
      · have hbI : ¬ (l : Int) * 8 < (l2 : Int) := by omega
        have S2 : Hid (∀ i, i < j + 1 → badAt P.own iss i = false) := fun i hi => by
          rcases Nat.lt_or_ge i j with h | h
          · exact hI.out i h
          · obtain rfl : i = j := by omega
            rw [BD.out]
            exact decide_eq_false hb
        clear hb BD hi0 hz0 hz1 hz2
        go_wp2_with fail
        go_round
        case rel => exact ⟨j + 1, by have := HLT.out; omega, by go_num, S2⟩
        case measure => have := HLT.out; simp [intOf]; omega
    · have hJ : ¬ (j : Int) < (ni : Int) := by omega
      have CZ : Hid (imgC P.own iss = 0) := imgC_good _ _ HEQ.out (fun i hi => hI.out i (by have := HLI.out; omega))
      have CV : Hid (loadC P iss = 0) := by show _ = _; rw [CE.out, CZ.out]
      have ZV : Hid (loadZ P iss = allM P.own iss (List.replicate 192 0) iss.length) := by show _ = _; rw [loadZ, if_pos CV.out]
      have IL : Hid (∀ j, j < ni → (iss.getD j []).length ≤ (P.own.getD j []).length * 8) := fun j hj => (imgC_ok _ _ CZ.out).2 j (by have := HLI.out; omega)
      clear hlt hI
      go_wp2_with (at_make; refine wpList_make_full _ rfl _ _ 66 rfl w1.heap.size 97 i0 _ 8 Tryd.underlying66 hi0 hz0 hz1 _ _ _ _ 24 rfl rfl rfl rfl (by rw [hz2]; omega) (by unfold maxLen; omega) (Nat.le_refl _) ?_; intro w2 hown hgrow)
      have P2 : Hid (Pags w2 w1.heap.size (.slice (some ⟨w1.heap.size, 0, none⟩) 24 24) 24 (List.replicate 192 0)) := by
        show Pags _ _ _ _ _
        unfold Pags
        rw [show (Value.agg (Array.replicate 8 (.int .i64 0))).cells = Array.replicate 8 (.int .i64 0) from rfl, made_replicate _ _ _ (by decide)] at hown
        simpa using hown
      have B2 : Hid (Below w1.heap.size w1 w2) := (Below.refl _ _).grown hgrow (Nat.le_refl _) (by simp)
      clear hown hgrow hi0 hz0 hz1 hz2
      go_wp2_with fail
      go_loopw [9, 10, 46] (fun _ _ c wr => ∃ j : Nat, j ≤ ni ∧ c = .int .i64 j ∧ Pags wr w1.heap.size (.slice (some ⟨w1.heap.size, 0, none⟩) 24 24) 24 (allM P.own iss (List.replicate 192 0) j) ∧ Below w1.heap.size w1 wr) (fun _ _ c _ => ni - (intOf c).toNat)
      case atStart => exact ⟨0, Nat.zero_le _, rfl, P2.out, B2.out⟩
      case round =>
        clear P2 B2
        obtain ⟨j, hj, rfl, hN, hB⟩ := hrel
        have HN : Hid (Pags wr _ _ 24 (allM P.own iss (List.replicate 192 0) j)) := hN
        have HB : Hid (Below _ w1 wr) := hB
        by_cases hlt : j < ni
        · obtain ⟨x, b, l, c, rfl, k1, k2⟩ := HPw.out.own.at j hlt
          obtain ⟨y, b2, l2, c2, rfl, m1, m2⟩ := HIw.out.at j hlt
          have q0 := cell_keep hB Q1.out
          have k1 := cell_keep hB k1
          have m1 := cell_keep hB m1
          have hJ3 : (j : Int) < (ni : Int) := by omega
          have HLT : Hid (j < ni) := hlt
          have CL := i_layImage w1.heap.size w1.heap.size _ b l c _ b2 l2 c2 _ w1 wr hN hB (Nat.le_refl _) k2 m2 (OW.out j hlt).2 (OW.out j hlt).1
          rw [show min (8 * (P.own.getD j []).length) (iss.getD j []).length = (iss.getD j []).length by have := IL.out j hlt; omega] at CL
          clear k2 m2 hN hB hlt
          go_wp2_with fail
          refine CL.mono ?_
          rintro e w4 ⟨rfl, p4, b4⟩
          have P4 : Hid (Pags w4 w1.heap.size (.slice (some ⟨w1.heap.size, 0, none⟩) 24 24) 24 (allM P.own iss (List.replicate 192 0) (j + 1))) := p4
          have B4 : Hid (Below w1.heap.size w1 w4) := b4
          clear p4 b4 CL
          go_wp2_with fail
          go_roundw
          case rel => exact ⟨j + 1, by have := HLT.out; omega, by go_num, P4.out, B4.out⟩
          case measure => have := HLT.out; simp [intOf]; omega
        · have hJ3 : ¬ (j : Int) < (ni : Int) := by omega
          have HJ : Hid (j = iss.length) := by show _ = _; have := HLI.out; omega
          have HBJ : Hid (Below w1.heap.size w1 wr) := hB
          have PE : Hid (Pags wr w1.heap.size (.slice (some ⟨w1.heap.size, 0, none⟩) 24 24) 24 (allM P.own iss (List.replicate 192 0) iss.length)) := by rw [← HJ.out]; exact hN
          clear hlt hN hB HN
          go_wp2_with fail
          refine (impl_join _ _ _ _ _ _ PE.out (by decide)).mono ?_
          rintro e w3 ⟨v, rfl, n2', b3⟩
          have B3 : Hid (Below w.heap.size w w3) := on BX.out (on HBJ.out b3)
          have D3 : Hid (Below w1.heap.size w1 w3) := on HBJ.out b3
          obtain ⟨ya, yc, hv, _, _, _⟩ := n2'.shape
          have NN : Hid (Nums w3 w.heap.size v (allM P.own iss (List.replicate 192 0) iss.length)) := n2'.mono (Nat.le_trans BX.out.size HBJ.out.size)
          have NL : Hid (∀ k, v.ownBlock = some k → w1.heap.size ≤ k) := fun k e => Nat.le_trans HBJ.out.size (n2'.lt k e).1
          have LT : Hid (s + 1 < w1.heap.size) := R1.out.2.2.2.2
          generalize (allM P.own iss (List.replicate 192 0) iss.length).length = ln at hv
          subst hv
          obtain ⟨r0, r1, f0, f1, lt⟩ := R1.out.keep D3.out
          clear b3 n2'
          go_wp2_with fail
          refine bodyPost_ret (v := .agg #[.int .i64 0, .slice ya ln yc]) (by simp [results, Tryd.results10, go_sem, r0, r1]) rfl ⟨.slice ya ln yc, by rw [CV.out], ?_, (B3.out.setCell (by have := HSs.out; show w.heap.size ≤ s + 1; omega) _).setCell (by have := HSs.out; show w.heap.size ≤ s + 1; omega) _⟩
          have ne : (Value.slice ya ln yc).ownBlock ≠ some (s + 1) := fun e => by have := NL.out _ e; have := LT.out; omega
          rw [ZV.out]
          exact (NN.out.put ⟨s + 1, 0, none⟩ (.int .i64 0) ne).put ⟨s + 1, 1, none⟩ (.slice ya ln yc) ne
end Go.Proofs.YtmboobbfoffafaaDoor
