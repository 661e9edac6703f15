/- Texts of this seat, joined. -/
import Derived.Test.YtcdbhhhihhdghaaGreatDoorQ42
namespace Go.Proofs.YtcdbhhhihhdghaaGreatDoor
open Go.RowKit
set_option linter.unusedVariables false

def kdF (x : Wb) : Nat → Int
  | 0 => -1
  | j + 1 => if rowP j = x then (j : Int) else kdF x j
theorem kd_cases (x : Wb) : (kdF x 4 = -1 ∧ ∀ n, fmP x n = none) ∨ (kdF x 4 = 0 ∧ ∀ n, fmP x n = if 1 ≤ n ∧ n ≤ 9 then some 0 else none) ∨ (kdF x 4 = 1 ∧ ∀ n, fmP x n = if n = 5 then some 1 else none) ∨
    (kdF x 4 = 2 ∧ ∀ n, fmP x n = if n = 2 then some 2 else none) ∨ (kdF x 4 = 3 ∧ ∀ n, fmP x n = if n = 2 then some 3 else none) := by
  by_cases h0 : x = wdO
  · subst h0
    refine .inr (.inl ⟨by decide, fun n => ?_⟩)
    unfold fmP
    by_cases h : 1 ≤ n ∧ n ≤ 9
    · rw [if_pos ⟨rfl, h⟩, if_pos h]
    · rw [if_neg (fun e => h e.2), if_neg (fun e => absurd e.1 (by decide)), if_neg (fun e => absurd e.1 (by decide)), if_neg (fun e => absurd e.1 (by decide)), if_neg h]
  by_cases h1 : x = wdL
  · subst h1
    refine .inr (.inr (.inl ⟨by decide, fun n => ?_⟩))
    unfold fmP
    by_cases h : n = 5
    · rw [if_neg (fun e => absurd e.1 (by decide)), if_pos ⟨rfl, h⟩, if_pos h]
    · rw [if_neg (fun e => absurd e.1 (by decide)), if_neg (fun e => h e.2), if_neg (fun e => absurd e.1 (by decide)), if_neg (fun e => absurd e.1 (by decide)), if_neg h]
  by_cases h2 : x = wdB
  · subst h2
    refine .inr (.inr (.inr (.inl ⟨by decide, fun n => ?_⟩)))
    unfold fmP
    by_cases h : n = 2
    · rw [if_neg (fun e => absurd e.1 (by decide)), if_neg (fun e => absurd e.1 (by decide)), if_pos ⟨rfl, h⟩, if_pos h]
    · rw [if_neg (fun e => absurd e.1 (by decide)), if_neg (fun e => absurd e.1 (by decide)), if_neg (fun e => h e.2), if_neg (fun e => absurd e.1 (by decide)), if_neg h]
  by_cases h3 : x = wdS
  · subst h3
    refine .inr (.inr (.inr (.inr ⟨by decide, fun n => ?_⟩)))
    unfold fmP
    by_cases h : n = 2
    · rw [if_neg (fun e => absurd e.1 (by decide)), if_neg (fun e => absurd e.1 (by decide)), if_neg (fun e => absurd e.1 (by decide)), if_pos ⟨rfl, h⟩, if_pos h]
    · rw [if_neg (fun e => absurd e.1 (by decide)), if_neg (fun e => absurd e.1 (by decide)), if_neg (fun e => absurd e.1 (by decide)), if_neg (fun e => h e.2), if_neg h]
  refine .inl ⟨?_, fun n => ?_⟩
  · have e0 : ¬ rowP 0 = x := fun e => h0 e.symm
    have e1 : ¬ rowP 1 = x := fun e => h1 e.symm
    have e2 : ¬ rowP 2 = x := fun e => h2 e.symm
    have e3 : ¬ rowP 3 = x := fun e => h3 e.symm
    rw [kdF, if_neg e3, kdF, if_neg e2, kdF, if_neg e1, kdF, if_neg e0, kdF]
  · unfold fmP
    rw [if_neg (fun e => h0 e.1), if_neg (fun e => h1 e.1), if_neg (fun e => h2 e.1), if_neg (fun e => h3 e.1)]
theorem drP {B : Nat} {a w : World} (h : Below B a w) (n : Nat) : Below B a (w.drewN n) := ⟨h.os, h.tape, h.output, h.size, h.block⟩
def lnS (w w' : World) (r : Option (Nat × List Int)) (e : Ending) : Prop := match r with
  | some (k, zs) => ∃ v, e = .returned (.tuple #[.int .i64 (k : Int), v, .bool true]) ∧ Nums w' w.heap.size v zs
  | none => e = .returned (.tuple #[.int .i64 0, .slice none 0 0, .bool false])
set_option maxRecDepth 20000 in
set_option maxHeartbeats 8000000 in
theorem s_words (l : Wb) (hl : l.length ≤ 1000) (w : World) : Calls Tryz.prog 10 #[.string (bq l)] w fun e w' => lnS w w' (lnO l) e ∧ Below w.heap.size w w' := by
  have CUT := s_cut l 32 w (by omega)
  have hmany := spl_many 32 l []
  have hshort := spl_short 32 l []
  obtain ⟨R, hR⟩ : ∃ R, lnO l = R := ⟨_, rfl⟩
  have HR : Hid (lnO l = R) := hR
  unfold lnO at hR
  have hne := spl_ne 32 l []
  obtain ⟨ss, hs⟩ : ∃ ss, spl 32 l [] = ss := ⟨_, rfl⟩
  rw [hs] at CUT hmany hshort hne hR
  obtain ⟨x0, xs, rfl⟩ := List.exists_cons_of_ne_nil hne
  have HRR : Hid ((match fmP x0 xs.length, nsP xs with | some k, some zs => some (k, zs) | _, _ => none) = R) := hR
  rw [HR.out]
  have XS : Hid (∀ i, i < xs.length → (xs.getD i []).length ≤ 1048576) := fun i hi => by
    have := hshort (xs.getD i []) (by rw [List.getD, List.getElem?_eq_getElem hi]; exact List.mem_cons_of_mem _ (List.getElem_mem hi))
    rw [List.length_nil, Nat.zero_add] at this
    omega
  obtain ⟨n, hn⟩ : ∃ n, xs.length = n := ⟨_, rfl⟩
  have HN : Hid (xs.length = n ∧ n ≤ 1000) := ⟨hn, by simp at hmany; omega⟩
  have hnI : (n : Int) ≤ 1000 := by have := HN.out; omega
  rw [hn] at HRR
  clear hne hs hR hshort hmany hl HR hn
  generalize bq l = S at *
  go_enter Tryz.func10, Tryz.ntmps10
  go_wp2_with fail
  refine CUT.mono ?_
  clear CUT
  rintro e w1 ⟨v, rfl, hO, b1⟩
  obtain ⟨a, cap, rfl, k1, k2, k3, k4⟩ := hO.shape
  have hlen : (x0 :: xs).length = n + 1 := by rw [List.length_cons, HN.out.1]
  rw [hlen] at hO k1 ⊢
  obtain ⟨p, hp⟩ : ∃ p, a = some p := by
    cases a with
    | none => exact absurd (k3 rfl) (by simp)
    | some p => exact ⟨p, rfl⟩
  obtain ⟨g, rfl⟩ := k4 p hp
  subst hp
  have hO' : w1.ownsRow w.heap.size 9 1 (.slice (some ⟨g, 0, none⟩) (n + 1) cap) (n + 1) (strs (x0 :: xs)) := by have h := hO; unfold Os at h; rw [hlen] at h; exact h
  have C0 : Hid (w1.cell? ⟨g, 0, none⟩ = some (.string (bq x0))) := by
    show _ = _
    rw [World.ownsRow.cellAt hO' 0 (by omega)]
    rfl
  have HC : Hid (∀ i, i < n → w1.cell? ⟨g, i + 1, none⟩ = some (.string (bq (xs.getD i [])))) := fun i hi => by
    rw [World.ownsRow.cellAt hO' (i + 1) (by omega)]
    unfold strs
    rw [List.getElem?_map, List.getElem?_cons_succ, List.getD, List.getElem?_eq_getElem (by have := HN.out; omega)]
    rfl
  have HG : Hid (w.heap.size ≤ g) := (hO.lt g rfl).1
  have B1 : Hid (Below w.heap.size w w1) := b1
  obtain ⟨W2, hW2⟩ : ∃ W2, w1.alloc (.cells #[.string ⟨#[111, 119, 110]⟩, .string ⟨#[108, 97, 110, 101]⟩, .string ⟨#[98, 101, 108, 108]⟩, .string ⟨#[115, 108, 111, 116]⟩] 9) = W2 := ⟨_, rfl⟩
  have B2 : Hid (Below w1.heap.size w1 W2) := by show Below _ _ _; rw [← hW2]; exact al (Below.refl _ _) _
  have NM : Hid (∀ j, j < 4 → W2.cell? ⟨w1.heap.size, j, none⟩ = some (.string (bq (rowP j)))) := fun j hj => by
    rw [← hW2]
    match j, hj with
    | 0, _ => exact cell_new rfl
    | 1, _ => exact cell_new rfl
    | 2, _ => exact cell_new rfl
    | 3, _ => exact cell_new rfl
  have BE : Hid (∀ j : Nat, ((bq (rowP j)).toList == (bq x0).toList) = decide (rowP j = x0)) := fun j => by rw [bqP_toList, bqP_toList]; exact Bool.eq_iff_iff.2 (by simp)
  clear hO hO' k1 k2 k3 k4 b1
  go_wp2_with fail
  clear hW2
  go_loopw [7, 8] (fun kd i wr => ∃ j : Nat, j ≤ 4 ∧ i = .int .i64 (j : Int) ∧ kd = .int .i64 (kdF x0 j) ∧ Below W2.heap.size W2 wr) (fun _ i _ => 4 - (intOf i).toNat)
  case atStart => exact ⟨0, by omega, rfl, rfl, Below.refl _ _⟩
  case round =>
    obtain ⟨j, hj, rfl, rfl, hB⟩ := hrel
    have HB : Hid (Below W2.heap.size W2 wr) := hB
    clear hB
    by_cases hlt : j < 4
    · have hI : (j : Int) < 4 := by omega
      have HJ : Hid (j < 4) := hlt
      have cN := cell_keep HB.out (NM.out j hlt)
      have cX := cell_keep HB.out (cell_keep B2.out C0.out)
      have BJ := BE.out j
      have wj : IntKind.i64.wrap ((j : Int) + 1) = (j : Int) + 1 := by rw [IntKind.wrap_i64]; omega
      by_cases k0 : rowP j = x0
      · rw [decide_eq_true k0] at BJ
        have KD : Hid (kdF x0 (j + 1) = (j : Int)) := by show _ = _; rw [kdF, if_pos k0]
        clear k0 hlt hj
        go_wp2_with fail
        go_quiet (fail)
        go_wp2_with fail
        go_roundw
        case rel => exact ⟨j + 1, by have := HJ.out; omega, by go_num, by rw [KD.out], on HB.out (drP (Below.refl _ _) _)⟩
        case measure => have := HJ.out; simp [intOf]; omega
      · rw [decide_eq_false k0] at BJ
        have KD : Hid (kdF x0 (j + 1) = kdF x0 j) := by show _ = _; rw [kdF, if_neg k0]
        clear k0 hlt hj
        go_wp2_with fail
        go_quiet (fail)
        go_wp2_with fail
        go_roundw
        case rel => exact ⟨j + 1, by have := HJ.out; omega, by go_num, by rw [KD.out], on HB.out (drP (Below.refl _ _) _)⟩
        case measure => have := HJ.out; simp [intOf]; omega
    · have hI : ¬ (j : Int) < 4 := by omega
      obtain rfl : j = 4 := by omega
      have B3 : Hid (Below w1.heap.size w1 wr) := on B2.out HB.out
      obtain ⟨W4, hW4⟩ : ∃ W4, wr.alloc (.cells #[] 2) = W4 := ⟨_, rfl⟩
      have B4 : Hid (Below w1.heap.size w1 W4) := by show Below _ _ _; rw [← hW4]; exact al B3.out _
      have N4 : Hid (Nums W4 w1.heap.size (.slice (some ⟨wr.heap.size, 0, none⟩) 0 0) []) := by
        show Nums _ _ _ _
        rw [← hW4]
        exact nums_empty wr w1.heap.size B3.out.size
      obtain ⟨kd, hkd⟩ : ∃ kd, kdF x0 4 = kd := ⟨_, rfl⟩
      have HKD : Hid (kdF x0 4 = kd) := hkd
      rw [hkd]
      clear hj hlt hkd
      go_wp2_with fail
      clear hW4
      go_loopw [9, 10] (fun v i wq => ∃ (j : Nat) (zs : List Int), j ≤ n ∧ i = .int .i64 ((j : Int) + 1) ∧ nsP (xs.take j) = some zs ∧ Nums wq w1.heap.size v zs ∧ Below w1.heap.size w1 wq) (fun _ i _ => n + 1 - (intOf i).toNat)
      case atStart => exact ⟨0, [], Nat.zero_le _, rfl, rfl, N4.out, B4.out⟩
      case round =>
        obtain ⟨j, zs, hj, rfl, hz, hN, hB⟩ := hrel
        have HZ : Hid (nsP (xs.take j) = some zs) := hz
        have NU : Hid (Nums wr w1.heap.size _ zs) := hN
        have BB : Hid (Below w1.heap.size w1 wr) := hB
        clear hz hN hB
        by_cases hlt : j < n
        · have HJ : Hid (j < n) := hlt
          have hJ : (j : Int) + 1 < (n : Int) + 1 := by omega
          have hJ1 : (j : Int) + 1 ≤ 1001 := by omega
          have cj := cell_keep BB.out (HC.out j hlt)
          have RN := s_number (xs.getD j []) (XS.out j (by have := HN.out; omega))
          have HT := ns_take xs j zs (by have := HN.out; omega) HZ.out
          have HTB := ns_bad xs j (by have := HN.out; omega)
          obtain ⟨y, hy⟩ : ∃ y, xs.getD j [] = y := ⟨_, rfl⟩
          rw [hy] at cj RN HT HTB
          have HK : Hid (nmP y = none → R = none) := fun hn => by
            have := HRR.out
            rw [HTB hn] at this
            rw [← this]
            cases fmP x0 n <;> rfl
          cases hn : nmP y with
          | none =>
            have e := HK.out hn
            subst e
            rw [show nmS (nmP y) = .tuple #[.int .i64 0, .bool false] by rw [hn]; rfl] at RN
            clear HT HTB hn hy hlt hj HK
            go_wp2_with (go_at_call 20; refine (RN _).mono ?_; rintro e w3 ⟨rfl, hw⟩; rw [hw]; clear hw w3)
            go_ret3
            exact ⟨rfl, on B1.out BB.out⟩
          | some z =>
            rw [show nmS (nmP y) = .tuple #[.int .i64 z, .bool true] by rw [hn]; rfl] at RN
            have HT2 : Hid (nsP (xs.take (j + 1)) = some (zs ++ [z])) := by show _ = _; rw [HT, hn]
            have ZL : Hid (zs.length ≤ 1000) := by have := ns_len _ _ HZ.out; rw [List.length_take] at this; have := HN.out; show _ ≤ _; omega
            clear HT HTB hn hy hlt hj HK
            go_wp2_with (first
              | (go_at_call 20; refine (RN _).mono ?_; rintro e w3 ⟨rfl, hw⟩; rw [hw]; clear hw w3)
              | (at_builtin; refine wp_appn _ rfl _ _ rfl w1.heap.size _ zs rfl (NU.out.keep (al (Below.refl _ _) _)) wr.heap.size 1 1 [z] rfl rfl (one_atP (cell_new rfl)) (by have := ZL.out; omega) (by have := BB.out.size; simp; omega) ?_; intro v' w' hN' hG'; have NN : Hid (Nums w' w1.heap.size v' (zs ++ [z])) := hN'; have BN : Hid (Below w1.heap.size w1 w') := below_of_grown (al BB.out _) hG' (NU.out.keep (al (Below.refl _ _) _)) (Nat.le_refl _); clear hN' hG'))
            go_roundw
            case rel => exact ⟨j + 1, zs ++ [z], by have := HJ.out; omega, by go_num, HT2.out, NN.out, BN.out⟩
            case measure => have := HJ.out; simp [intOf]; omega
        · have hJ : ¬ (j : Int) + 1 < (n : Int) + 1 := by omega
          obtain rfl : j = n := by omega
          have HZ2 : Hid (nsP xs = some zs) := by have := HZ.out; rw [← HN.out.1, List.take_length] at this; exact this
          have ZL : Hid (zs.length = j) := by have := ns_len _ _ HZ2.out; rw [HN.out.1] at this; exact this
          have RR : Hid (R = match fmP x0 j with | some k => some (k, zs) | none => none) := by
            have := HRR.out
            rw [HZ2.out] at this
            show _ = _
            rw [← this]
            cases fmP x0 j <;> rfl
          obtain ⟨va, vc, hv, _, _, _⟩ := NU.out.shape
          rw [ZL.out] at hv
          subst hv
          have NM2 : Hid (Nums wr w.heap.size _ zs) := owns_mono NU.out B1.out.size
          have BW : Hid (Below w.heap.size w wr) := on B1.out BB.out
          clear hlt hj
          rcases kd_cases x0 with ⟨e1, e2⟩ | ⟨e1, e2⟩ | ⟨e1, e2⟩ | ⟨e1, e2⟩ | ⟨e1, e2⟩
          · obtain rfl : kd = -1 := by rw [← HKD.out]; exact e1
            have e : R = none := by have := RR.out; rw [e2 j] at this; exact this
            clear e1 e2
            subst e
            go_wp2_with fail
            go_ret3
            exact ⟨rfl, al BW.out _⟩
          · obtain rfl : kd = 0 := by rw [← HKD.out]; exact e1
            by_cases h1 : j < 1
            · have e : R = none := by have := RR.out; rw [e2 j, if_neg (by omega)] at this; exact this
              have hI : (j : Int) < 1 := by omega
              clear e1 e2
              subst e
              go_wp2_with fail
              go_ret3
              exact ⟨rfl, al BW.out _⟩
            · by_cases h9 : 9 < j
              · have e : R = none := by have := RR.out; rw [e2 j, if_neg (by omega)] at this; exact this
                have hI : (9 : Int) < (j : Int) := by omega
                have hI1 : ¬ (j : Int) < 1 := by omega
                clear e1 e2
                subst e
                go_wp2_with fail
                go_ret3
                exact ⟨rfl, al BW.out _⟩
              · have e : R = some (0, zs) := by have := RR.out; rw [e2 j, if_pos (by omega)] at this; exact this
                have hI : ¬ (9 : Int) < (j : Int) := by omega
                have hI1 : ¬ (j : Int) < 1 := by omega
                clear e1 e2
                subst e
                go_wp2_with fail
                go_ret3
                exact ⟨⟨_, rfl, NM2.out.keep (al (Below.refl _ _) _)⟩, al BW.out _⟩
          · obtain rfl : kd = 1 := by rw [← HKD.out]; exact e1
            by_cases h1 : j = 5
            · have e : R = some (1, zs) := by have := RR.out; rw [e2 j, if_pos h1] at this; exact this
              have NM3 : Hid (Nums wr w.heap.size (.slice va 5 vc) zs) := by have h := NM2.out; rw [h1] at h; exact h
              have hI : (j : Int) = 5 := by omega
              clear e1 e2
              subst e
              go_wp2_with fail
              go_ret3
              exact ⟨⟨_, rfl, NM3.out.keep (al (Below.refl _ _) _)⟩, al BW.out _⟩
            · have e : R = none := by have := RR.out; rw [e2 j, if_neg h1] at this; exact this
              have hI : ¬ (j : Int) = 5 := by omega
              clear e1 e2
              subst e
              go_wp2_with fail
              go_ret3
              exact ⟨rfl, al BW.out _⟩
          · obtain rfl : kd = 2 := by rw [← HKD.out]; exact e1
            by_cases h1 : j = 2
            · have e : R = some (2, zs) := by have := RR.out; rw [e2 j, if_pos h1] at this; exact this
              have NM3 : Hid (Nums wr w.heap.size (.slice va 2 vc) zs) := by have h := NM2.out; rw [h1] at h; exact h
              have hI : (j : Int) = 2 := by omega
              clear e1 e2
              subst e
              go_wp2_with fail
              go_ret3
              exact ⟨⟨_, rfl, NM3.out.keep (al (Below.refl _ _) _)⟩, al BW.out _⟩
            · have e : R = none := by have := RR.out; rw [e2 j, if_neg h1] at this; exact this
              have hI : ¬ (j : Int) = 2 := by omega
              clear e1 e2
              subst e
              go_wp2_with fail
              go_ret3
              exact ⟨rfl, al BW.out _⟩
          · obtain rfl : kd = 3 := by rw [← HKD.out]; exact e1
            by_cases h1 : j = 2
            · have e : R = some (3, zs) := by have := RR.out; rw [e2 j, if_pos h1] at this; exact this
              have NM3 : Hid (Nums wr w.heap.size (.slice va 2 vc) zs) := by have h := NM2.out; rw [h1] at h; exact h
              have hI : (j : Int) = 2 := by omega
              clear e1 e2
              subst e
              go_wp2_with fail
              go_ret3
              exact ⟨⟨_, rfl, NM3.out.keep (al (Below.refl _ _) _)⟩, al BW.out _⟩
            · have e : R = none := by have := RR.out; rw [e2 j, if_neg h1] at this; exact this
              have hI : ¬ (j : Int) = 2 := by omega
              clear e1 e2
              subst e
              go_wp2_with fail
              go_ret3
              exact ⟨rfl, al BW.out _⟩
end Go.Proofs.YtcdbhhhihhdghaaGreatDoor
