/- Texts of this seat, joined. -/
import Derived.Deep.RegionWith
import Derived.Deep.Cut
import Derived.Deep.CutRange
import Derived.Test.YtkfcofjmjbkekaaGreatDoorQ45
namespace Go.Proofs.YtkfcofjmjbkekaaGreatDoor
open Go.RowKit
set_option linter.unusedVariables false

def kdF (x : Wb) : Nat → Int
  | 0 => -1
  | j + 1 => if rowP j = x then (j : Int) else kdF x j
theorem kd_cases (x : Wb) : (kdF x 4 = -1 ∧ ∀ n, fmP x n = none) ∨ (kdF x 4 = 0 ∧ ∀ n, fmP x n = if 1 ≤ n ∧ n ≤ 9 then some 0 else none) ∨ (kdF x 4 = 1 ∧ ∀ n, fmP x n = if n = 5 then some 1 else none) ∨
    (kdF x 4 = 2 ∧ ∀ n, fmP x n = if n = 2 then some 2 else none) ∨ (kdF x 4 = 3 ∧ ∀ n, fmP x n = if n = 2 then some 3 else none) := by
  by_cases h0 : x = wdO
  · subst h0
    refine .inr (.inl ⟨by decide, fun n => ?_⟩)
    unfold fmP
    by_cases h : 1 ≤ n ∧ n ≤ 9
    · rw [if_pos ⟨rfl, h⟩, if_pos h]
    · rw [if_neg (fun e => h e.2), if_neg (fun e => absurd e.1 (by decide)), if_neg (fun e => absurd e.1 (by decide)), if_neg (fun e => absurd e.1 (by decide)), if_neg h]
  by_cases h1 : x = wdL
  · subst h1
    refine .inr (.inr (.inl ⟨by decide, fun n => ?_⟩))
    unfold fmP
    by_cases h : n = 5
    · rw [if_neg (fun e => absurd e.1 (by decide)), if_pos ⟨rfl, h⟩, if_pos h]
    · rw [if_neg (fun e => absurd e.1 (by decide)), if_neg (fun e => h e.2), if_neg (fun e => absurd e.1 (by decide)), if_neg (fun e => absurd e.1 (by decide)), if_neg h]
  by_cases h2 : x = wdB
  · subst h2
    refine .inr (.inr (.inr (.inl ⟨by decide, fun n => ?_⟩)))
    unfold fmP
    by_cases h : n = 2
    · rw [if_neg (fun e => absurd e.1 (by decide)), if_neg (fun e => absurd e.1 (by decide)), if_pos ⟨rfl, h⟩, if_pos h]
    · rw [if_neg (fun e => absurd e.1 (by decide)), if_neg (fun e => absurd e.1 (by decide)), if_neg (fun e => h e.2), if_neg (fun e => absurd e.1 (by decide)), if_neg h]
  by_cases h3 : x = wdS
  · subst h3
    refine .inr (.inr (.inr (.inr ⟨by decide, fun n => ?_⟩)))
    unfold fmP
    by_cases h : n = 2
    · rw [if_neg (fun e => absurd e.1 (by decide)), if_neg (fun e => absurd e.1 (by decide)), if_neg (fun e => absurd e.1 (by decide)), if_pos ⟨rfl, h⟩, if_pos h]
    · rw [if_neg (fun e => absurd e.1 (by decide)), if_neg (fun e => absurd e.1 (by decide)), if_neg (fun e => absurd e.1 (by decide)), if_neg (fun e => h e.2), if_neg h]
  refine .inl ⟨?_, fun n => ?_⟩
  · have e0 : ¬ rowP 0 = x := fun e => h0 e.symm
    have e1 : ¬ rowP 1 = x := fun e => h1 e.symm
    have e2 : ¬ rowP 2 = x := fun e => h2 e.symm
    have e3 : ¬ rowP 3 = x := fun e => h3 e.symm
    rw [kdF, if_neg e3, kdF, if_neg e2, kdF, if_neg e1, kdF, if_neg e0, kdF]
  · unfold fmP
    rw [if_neg (fun e => h0 e.1), if_neg (fun e => h1 e.1), if_neg (fun e => h2 e.1), if_neg (fun e => h3 e.1)]
theorem drP {B : Nat} {a w : World} (h : Below B a w) (n : Nat) : Below B a (w.drewN n) := ⟨h.os, h.tape, h.output, h.size, h.block⟩
def lnS (w w' : World) (r : Option (Nat × List Int)) (e : Ending) : Prop := match r with
  | some (k, zs) => ∃ v, e = .returned (.tuple #[.int .i64 (k : Int), v, .bool true]) ∧ Nums w' w.heap.size v zs
  | none => e = .returned (.tuple #[.int .i64 0, .slice none 0 0, .bool false])
set_option maxRecDepth 20000 in
set_option maxHeartbeats 8000000 in
theorem s_words (l : Wb) (hl : l.length ≤ 1000) (w : World) : Calls Tryz.prog 25 #[.string (bq l)] w fun e w' => lnS w w' (lnO l) e ∧ Below w.heap.size w w' := by
  have CUT := s_cut l 32 w (by omega)
  have hmany := spl_many 32 l []
  have hshort := spl_short 32 l []
  obtain ⟨R, hR⟩ : ∃ R, lnO l = R := ⟨_, rfl⟩
  have HR : Hid (lnO l = R) := hR
  unfold lnO at hR
  have hne := spl_ne 32 l []
  obtain ⟨ss, hs⟩ : ∃ ss, spl 32 l [] = ss := ⟨_, rfl⟩
  rw [hs] at CUT hmany hshort hne hR
  obtain ⟨x0, xs, rfl⟩ := List.exists_cons_of_ne_nil hne
  have HRR : Hid ((match fmP x0 xs.length, nsP xs with | some k, some zs => some (k, zs) | _, _ => none) = R) := hR
  rw [HR.out]
  have XS : Hid (∀ i, i < xs.length → (xs.getD i []).length ≤ 1048576) := fun i hi => by
    have := hshort (xs.getD i []) (by rw [List.getD, List.getElem?_eq_getElem hi]; exact List.mem_cons_of_mem _ (List.getElem_mem hi))
    rw [List.length_nil, Nat.zero_add] at this
    omega
  obtain ⟨n, hn⟩ : ∃ n, xs.length = n := ⟨_, rfl⟩
  have HN : Hid (xs.length = n ∧ n ≤ 1000) := ⟨hn, by simp at hmany; omega⟩
  have hnI : (n : Int) ≤ 1000 := by have := HN.out; omega
  rw [hn] at HRR
  clear hne hs hR hshort hmany hl HR hn
  generalize bq l = S at *
  go_enter Tryz.func25, Tryz.ntmps25
  go_wp2_with fail
  refine CUT.mono ?_
  clear CUT
  rintro e w1 ⟨v, rfl, hO, b1⟩
  obtain ⟨a, cap, rfl, k1, k2, k3, k4⟩ := hO.shape
  have hlen : (x0 :: xs).length = n + 1 := by rw [List.length_cons, HN.out.1]
  rw [hlen] at hO k1 ⊢
  obtain ⟨p, hp⟩ : ∃ p, a = some p := by
    cases a with
    | none => exact absurd (k3 rfl) (by simp)
    | some p => exact ⟨p, rfl⟩
  obtain ⟨g, rfl⟩ := k4 p hp
  subst hp
  have hO' : w1.ownsRow w.heap.size 9 1 (.slice (some ⟨g, 0, none⟩) (n + 1) cap) (n + 1) (strs (x0 :: xs)) := by have h := hO; unfold Os at h; rw [hlen] at h; exact h
  have C0 : Hid (w1.cell? ⟨g, 0, none⟩ = some (.string (bq x0))) := by
    show _ = _
    rw [World.ownsRow.cellAt hO' 0 (by omega)]
    rfl
  have HC : Hid (∀ i, i < n → w1.cell? ⟨g, i + 1, none⟩ = some (.string (bq (xs.getD i [])))) := fun i hi => by
    rw [World.ownsRow.cellAt hO' (i + 1) (by omega)]
    unfold strs
    rw [List.getElem?_map, List.getElem?_cons_succ, List.getD, List.getElem?_eq_getElem (by have := HN.out; omega)]
    rfl
  have HG : Hid (w.heap.size ≤ g) := (hO.lt g rfl).1
  have B1 : Hid (Below w.heap.size w w1) := b1
  obtain ⟨W2, hW2⟩ : ∃ W2, w1.alloc (.cells #[.string ⟨#[111, 119, 110]⟩, .string ⟨#[108, 97, 110, 101]⟩, .string ⟨#[98, 101, 108, 108]⟩, .string ⟨#[115, 108, 111, 116]⟩] 9) = W2 := ⟨_, rfl⟩
  have B2 : Hid (Below w1.heap.size w1 W2) := by show Below _ _ _; rw [← hW2]; exact al (Below.refl _ _) _
  have NM : Hid (∀ j, j < 4 → W2.cell? ⟨w1.heap.size, j, none⟩ = some (.string (bq (rowP j)))) := fun j hj => by
    rw [← hW2]
    match j, hj with
    | 0, _ => exact cell_new rfl
    | 1, _ => exact cell_new rfl
    | 2, _ => exact cell_new rfl
    | 3, _ => exact cell_new rfl
  have BE : Hid (∀ j : Nat, ((bq (rowP j)).toList == (bq x0).toList) = decide (rowP j = x0)) := fun j => by rw [bqP_toList, bqP_toList]; exact Bool.eq_iff_iff.2 (by simp)
  clear hO hO' k1 k2 k3 k4 b1
  go_wp2_with fail
  clear hW2
  go_loopw [7, 8] (fun kd i wr => ∃ j : Nat, j ≤ 4 ∧ i = .int .i64 (j : Int) ∧ kd = .int .i64 (kdF x0 j) ∧ Below W2.heap.size W2 wr) (fun _ i _ => 4 - (intOf i).toNat)
  case atStart => exact ⟨0, by omega, rfl, rfl, Below.refl _ _⟩
  case round =>
    obtain ⟨j, hj, rfl, rfl, hB⟩ := hrel
    have HB : Hid (Below W2.heap.size W2 wr) := hB
    clear hB
    by_cases hlt : j < 4
    · have hI : (j : Int) < 4 := by omega
      have HJ : Hid (j < 4) := hlt
      have cN := cell_keep HB.out (NM.out j hlt)
      have cX := cell_keep HB.out (cell_keep B2.out C0.out)
      have BJ := BE.out j
      have wj : IntKind.i64.wrap ((j : Int) + 1) = (j : Int) + 1 := by rw [IntKind.wrap_i64]; omega
      by_cases k0 : rowP j = x0
      · rw [decide_eq_true k0] at BJ
        have KD : Hid (kdF x0 (j + 1) = (j : Int)) := by show _ = _; rw [kdF, if_pos k0]
        clear k0 hlt hj
        go_wp2_with fail
        go_quiet (fail)
        go_wp2_with fail
        go_roundw
        case rel => exact ⟨j + 1, by have := HJ.out; omega, by go_num, by rw [KD.out], on HB.out (drP (Below.refl _ _) _)⟩
        case measure => have := HJ.out; simp [intOf]; omega
      · rw [decide_eq_false k0] at BJ
        have KD : Hid (kdF x0 (j + 1) = kdF x0 j) := by show _ = _; rw [kdF, if_neg k0]
        clear k0 hlt hj
        go_wp2_with fail
        go_quiet (fail)
        go_wp2_with fail
        go_roundw
        case rel => exact ⟨j + 1, by have := HJ.out; omega, by go_num, by rw [KD.out], on HB.out (drP (Below.refl _ _) _)⟩
        case measure => have := HJ.out; simp [intOf]; omega
    · have hI : ¬ (j : Int) < 4 := by omega
      obtain rfl : j = 4 := by omega
      have B3 : Hid (Below w1.heap.size w1 wr) := on B2.out HB.out
      obtain ⟨W4, hW4⟩ : ∃ W4, wr.alloc (.cells #[] 2) = W4 := ⟨_, rfl⟩
      have B4 : Hid (Below w1.heap.size w1 W4) := by show Below _ _ _; rw [← hW4]; exact al B3.out _
      have N4 : Hid (Nums W4 w1.heap.size (.slice (some ⟨wr.heap.size, 0, none⟩) 0 0) []) := by
        show Nums _ _ _ _
        rw [← hW4]
        exact nums_empty wr w1.heap.size B3.out.size
      obtain ⟨kd, hkd⟩ : ∃ kd, kdF x0 4 = kd := ⟨_, rfl⟩
      have HKD : Hid (kdF x0 4 = kd) := hkd
      rw [hkd]
      clear hj hlt hkd
      go_wp2_with fail
      clear hW4
      go_loopw [9, 10] (fun v i wq => ∃ (j : Nat) (zs : List Int), j ≤ n ∧ i = .int .i64 ((j : Int) + 1) ∧ nsP (xs.take j) = some zs ∧ Nums wq w1.heap.size v zs ∧ Below w1.heap.size w1 wq) (fun _ i _ => n + 1 - (intOf i).toNat)
      case atStart => exact ⟨0, [], Nat.zero_le _, rfl, rfl, N4.out, B4.out⟩
      case round =>
        obtain ⟨j, zs, hj, rfl, hz, hN, hB⟩ := hrel
        have HZ : Hid (nsP (xs.take j) = some zs) := hz
        have NU : Hid (Nums wr w1.heap.size _ zs) := hN
        have BB : Hid (Below w1.heap.size w1 wr) := hB
        clear hz hN hB
        by_cases hlt : j < n
        · have HJ : Hid (j < n) := hlt
          have hJ : (j : Int) + 1 < (n : Int) + 1 := by omega
          have hJ1 : (j : Int) + 1 ≤ 1001 := by omega
          have cj := cell_keep BB.out (HC.out j hlt)
          have RN := s_number (xs.getD j []) (XS.out j (by have := HN.out; omega))
          have HT := ns_take xs j zs (by have := HN.out; omega) HZ.out
          have HTB := ns_bad xs j (by have := HN.out; omega)
          obtain ⟨y, hy⟩ : ∃ y, xs.getD j [] = y := ⟨_, rfl⟩
          rw [hy] at cj RN HT HTB
          have HK : Hid (nmP y = none → R = none) := fun hn => by
            have := HRR.out
            rw [HTB hn] at this
            rw [← this]
            cases fmP x0 n <;> rfl
          cases hn : nmP y with
          | none =>
            have e := HK.out hn
            subst e
            rw [show nmS (nmP y) = .tuple #[.int .i64 0, .bool false] by rw [hn]; rfl] at RN
            clear HT HTB hn hy hlt hj HK
            go_wp2_with (go_at_call 44; refine (RN _).mono ?_; rintro e w3 ⟨rfl, hw⟩; rw [hw]; clear hw w3)
            go_ret3
            exact ⟨rfl, on B1.out BB.out⟩
          | some z =>
            rw [show nmS (nmP y) = .tuple #[.int .i64 z, .bool true] by rw [hn]; rfl] at RN
            have HT2 : Hid (nsP (xs.take (j + 1)) = some (zs ++ [z])) := by show _ = _; rw [HT, hn]
            have ZL : Hid (zs.length ≤ 1000) := by have := nsP_len _ _ HZ.out; rw [List.length_take] at this; have := HN.out; show _ ≤ _; omega
            clear HT HTB hn hy hlt hj HK
            go_wp2_with (first
              | (go_at_call 44; refine (RN _).mono ?_; rintro e w3 ⟨rfl, hw⟩; rw [hw]; clear hw w3)
              | (at_builtin; refine wp_appn _ rfl _ _ rfl w1.heap.size _ zs rfl (NU.out.keep (al (Below.refl _ _) _)) wr.heap.size 1 1 [z] rfl rfl (one_atP (cell_new rfl)) (by have := ZL.out; omega) (by have := BB.out.size; simp; omega) ?_; intro v' w' hN' hG'; have NN : Hid (Nums w' w1.heap.size v' (zs ++ [z])) := hN'; have BN : Hid (Below w1.heap.size w1 w') := below_of_grown (al BB.out _) hG' (NU.out.keep (al (Below.refl _ _) _)) (Nat.le_refl _); clear hN' hG'))
            go_roundw
            case rel => exact ⟨j + 1, zs ++ [z], by have := HJ.out; omega, by go_num, HT2.out, NN.out, BN.out⟩
            case measure => have := HJ.out; simp [intOf]; omega
        · have hJ : ¬ (j : Int) + 1 < (n : Int) + 1 := by omega
          obtain rfl : j = n := by omega
          have HZ2 : Hid (nsP xs = some zs) := by have := HZ.out; rw [← HN.out.1, List.take_length] at this; exact this
          have ZL : Hid (zs.length = j) := by have := nsP_len _ _ HZ2.out; rw [HN.out.1] at this; exact this
          have RR : Hid (R = match fmP x0 j with | some k => some (k, zs) | none => none) := by
            have := HRR.out
            rw [HZ2.out] at this
            show _ = _
            rw [← this]
            cases fmP x0 j <;> rfl
          obtain ⟨va, vc, hv, _, _, _⟩ := NU.out.shape
          rw [ZL.out] at hv
          subst hv
          have NM2 : Hid (Nums wr w.heap.size _ zs) := owns_mono NU.out B1.out.size
          have BW : Hid (Below w.heap.size w wr) := on B1.out BB.out
          clear hlt hj
          rcases kd_cases x0 with ⟨e1, e2⟩ | ⟨e1, e2⟩ | ⟨e1, e2⟩ | ⟨e1, e2⟩ | ⟨e1, e2⟩
          · obtain rfl : kd = -1 := by rw [← HKD.out]; exact e1
            have e : R = none := by have := RR.out; rw [e2 j] at this; exact this
            clear e1 e2
            subst e
            go_wp2_with fail
            go_ret3
            exact ⟨rfl, al BW.out _⟩
          · obtain rfl : kd = 0 := by rw [← HKD.out]; exact e1
            by_cases h1 : j < 1
            · have e : R = none := by have := RR.out; rw [e2 j, if_neg (by omega)] at this; exact this
              have hI : (j : Int) < 1 := by omega
              clear e1 e2
              subst e
              go_wp2_with fail
              go_ret3
              exact ⟨rfl, al BW.out _⟩
            · by_cases h9 : 9 < j
              · have e : R = none := by have := RR.out; rw [e2 j, if_neg (by omega)] at this; exact this
                have hI : (9 : Int) < (j : Int) := by omega
                have hI1 : ¬ (j : Int) < 1 := by omega
                clear e1 e2
                subst e
                go_wp2_with fail
                go_ret3
                exact ⟨rfl, al BW.out _⟩
              · have e : R = some (0, zs) := by have := RR.out; rw [e2 j, if_pos (by omega)] at this; exact this
                have hI : ¬ (9 : Int) < (j : Int) := by omega
                have hI1 : ¬ (j : Int) < 1 := by omega
                clear e1 e2
                subst e
                go_wp2_with fail
                go_ret3
                exact ⟨⟨_, rfl, NM2.out.keep (al (Below.refl _ _) _)⟩, al BW.out _⟩
          · obtain rfl : kd = 1 := by rw [← HKD.out]; exact e1
            by_cases h1 : j = 5
            · have e : R = some (1, zs) := by have := RR.out; rw [e2 j, if_pos h1] at this; exact this
              have NM3 : Hid (Nums wr w.heap.size (.slice va 5 vc) zs) := by have h := NM2.out; rw [h1] at h; exact h
              have hI : (j : Int) = 5 := by omega
              clear e1 e2
              subst e
              go_wp2_with fail
              go_ret3
              exact ⟨⟨_, rfl, NM3.out.keep (al (Below.refl _ _) _)⟩, al BW.out _⟩
            · have e : R = none := by have := RR.out; rw [e2 j, if_neg h1] at this; exact this
              have hI : ¬ (j : Int) = 5 := by omega
              clear e1 e2
              subst e
              go_wp2_with fail
              go_ret3
              exact ⟨rfl, al BW.out _⟩
          · obtain rfl : kd = 2 := by rw [← HKD.out]; exact e1
            by_cases h1 : j = 2
            · have e : R = some (2, zs) := by have := RR.out; rw [e2 j, if_pos h1] at this; exact this
              have NM3 : Hid (Nums wr w.heap.size (.slice va 2 vc) zs) := by have h := NM2.out; rw [h1] at h; exact h
              have hI : (j : Int) = 2 := by omega
              clear e1 e2
              subst e
              go_wp2_with fail
              go_ret3
              exact ⟨⟨_, rfl, NM3.out.keep (al (Below.refl _ _) _)⟩, al BW.out _⟩
            · have e : R = none := by have := RR.out; rw [e2 j, if_neg h1] at this; exact this
              have hI : ¬ (j : Int) = 2 := by omega
              clear e1 e2
              subst e
              go_wp2_with fail
              go_ret3
              exact ⟨rfl, al BW.out _⟩
          · obtain rfl : kd = 3 := by rw [← HKD.out]; exact e1
            by_cases h1 : j = 2
            · have e : R = some (3, zs) := by have := RR.out; rw [e2 j, if_pos h1] at this; exact this
              have NM3 : Hid (Nums wr w.heap.size (.slice va 2 vc) zs) := by have h := NM2.out; rw [h1] at h; exact h
              have hI : (j : Int) = 2 := by omega
              clear e1 e2
              subst e
              go_wp2_with fail
              go_ret3
              exact ⟨⟨_, rfl, NM3.out.keep (al (Below.refl _ _) _)⟩, al BW.out _⟩
            · have e : R = none := by have := RR.out; rw [e2 j, if_neg h1] at this; exact this
              have hI : ¬ (j : Int) = 2 := by omega
              clear e1 e2
              subst e
              go_wp2_with fail
              go_ret3
              exact ⟨rfl, al BW.out _⟩
end Go.Proofs.YtkfcofjmjbkekaaGreatDoor
namespace Go.Proofs.YtkfcofjmjbkekaaGreatDoor
open Go.RowKit
set_option linter.unusedVariables false

theorem Kb.low {w w' : World} {B q : Nat} {cs : Array Value} {t : TypeId} (h : Kb w q cs t) (b : Below B w w') (hq : q < B) : Kb w' q cs t := (b.block q hq).trans h
theorem i_cut (l : Wb) (c : UInt8) (hl : l.length ≤ 1048576) (w : World) (g : Gp w) : Calls Tryz.prog 32 #[.string (bq l), .string ⟨#[c]⟩] w fun e w' =>
    e = .returned (.tuple #[.string (bq (if c ∈ l then befP c l else l)), .string (bq (if c ∈ l then aftP c l else [])), .bool (decide (c ∈ l))]) ∧ Below w.heap.size w w' := by
  obtain ⟨m, hm⟩ := g.ml
  refine (Tryz.strings_Cut (bq l) ⟨#[c]⟩ m w (by rw [bq_size]; omega) hm).mono ?_
  rintro e w' ⟨rfl, n, rfl⟩
  have hc : Lib.cut (bq l).data.toList (⟨#[c]⟩ : ByteArray).data.toList = if c ∈ l then (befP c l, aftP c l, true) else (l, [], false) := cut_bef c l
  rw [hc]
  refine ⟨?_, ⟨rfl, rfl, rfl, Nat.le_refl _, fun _ _ => rfl⟩⟩
  by_cases h : c ∈ l
  · simp only [if_pos h, decide_eq_true h]; rfl
  · simp only [if_neg h, decide_eq_false h]; rfl
theorem i_with (k : Nat) (hk : k < 4) (base : Nat) (v0 v1 v2 v3 u : Value) (P : Plc) (xs : List Value) (zs : List Int) (w : World) (h : Wp w base v0 v1 v2 v3 P xs) (hu : Nums w base u zs) (ha : ∀ x ∈ xs, Apt x u) (hc : (k = 1 → zs.length = 5) ∧ (k = 2 → zs.length = 2) ∧ (k = 3 → zs.length = 2)) (hb : base ≤ w.heap.size) (hs : SmP P 1000) :
    Calls Tryz.prog 34 #[.agg #[v0, v1, v2, v3], .int .i64 (k : Int), u] w fun e w' => ∃ v0' v1' v2' v3' xs', e = .returned (.agg #[v0', v1', v2', v3']) ∧ Wp w' base v0' v1' v2' v3' (adP P k zs) xs' ∧ Gn base w w' := by
  match k, hk with
  | 0, _ => exact i_with0 base v0 v1 v2 v3 u P xs zs w h hu ha hb hs
  | 1, _ => exact i_with1 base v0 v1 v2 v3 u P xs zs base w h hu (hc.1 rfl) hb hs
  | 2, _ => exact i_with2 base v0 v1 v2 v3 u P xs zs base w h hu (hc.2.1 rfl) hb hs
  | 3, _ => exact i_with3 base v0 v1 v2 v3 u P xs zs base w h hu (hc.2.2 rfl) hb hs
theorem ln_cnt {l : Wb} {f : Nat} {zs : List Int} (h : lnO l = some (f, zs)) : f < 4 ∧ (f = 1 → zs.length = 5) ∧ (f = 2 → zs.length = 2) ∧ (f = 3 → zs.length = 2) := by
  unfold lnO at h
  split at h
  · rename_i k zs' e1 e2
    cases h
    have h1 := fm_lt e1
    have h2 := nsP_len _ _ e2
    rw [List.length_drop] at h2
    exact ⟨h1.1, fun e => by have := h1.2.2.1 e; omega, fun e => by have := h1.2.2.2.1 e; omega, fun e => by have := h1.2.2.2.2 e; omega⟩
  · cases h
def lenS : Value → Nat
  | .string b => b.size
  | _ => 0
/-- What reading the lines gives. -/
def rpQ (w w' : World) (r : Int × Nat × Plc) (e : Ending) : Prop :=
  (r.1 = 0 ∧ ∃ v0 v1 v2 v3 xs, e = .returned (.tuple #[.agg #[v0, v1, v2, v3], .nilIface]) ∧ Wp w' w.heap.size v0 v1 v2 v3 r.2.2 xs) ∨
  (r.1 = 5 ∧ e = .returned (.tuple #[.agg #[.slice none 0 0, .slice none 0 0, .slice none 0 0, .slice none 0 0], .iface 83 (.agg #[.int .i64 (r.2.1 : Int), .iface 81 (.agg #[.int .i64 5])])]))
structure Lp (w wr : World) (tx : Wb) (R : Int × Nat × Plc) (t : Wb) (k i : Nat) (P : Plc) (v0 v1 v2 v3 : Value) (xs : List Value) : Prop where
  len : t.length + i ≤ 1000
  val : rdP (spl 10 t []) k i P = R
  sm : SmP P i
  pol : Wp wr (w.heap.size + 2) v0 v1 v2 v3 P xs
  var : Kb wr (w.heap.size + 1) #[v0, v1, v2, v3] 30
  res : Kb wr w.heap.size #[.slice none 0 0, .slice none 0 0, .slice none 0 0, .slice none 0 0] 30
  bel : Below w.heap.size w wr
  two : w.heap.size + 2 ≤ wr.heap.size
set_option maxRecDepth 20000 in
set_option maxHeartbeats 8000000 in
theorem i_readPolicy (tx : Wb) (hl : tx.length ≤ 1000) (w : World) (g : Gp w) : Calls Tryz.prog 16 #[.string (bq tx)] w fun e w' => rpQ w w' (rdP (spl 10 tx []) 0 0 vdP) e ∧ Below w.heap.size w w' := by
  have G : Hid (Gp w) := g
  obtain ⟨R, hR⟩ : ∃ R, rdP (spl 10 tx []) 0 0 vdP = R := ⟨_, rfl⟩
  have HR : Hid (rdP (spl 10 tx []) 0 0 vdP = R) := hR
  have HL : Hid (tx.length ≤ 1000) := hl
  rw [hR]
  clear g hR hl
  go_enter Tryz.func16, Tryz.ntmps16
  go_wp2_with fail
  go_loopw [0, 5, 6] (fun ts lst ah wr => ∃ (t : Wb) (k i : Nat) (P : Plc) (v0 v1 v2 v3 : Value) (xs : List Value), ts = .string (bq t) ∧ lst = .int .i64 (k : Int) ∧ ah = .int .i64 (i : Int) ∧ Lp w wr tx R t k i P v0 v1 v2 v3 xs) (fun ts _ _ _ => lenS ts)
  case atStart =>
    refine ⟨tx, 0, 0, vdP, .slice none 0 0, .slice none 0 0, .slice none 0 0, .slice none 0 0, [], rfl, rfl, rfl, by have := HL.out; omega, HR.out, ⟨Nat.le_refl _, Nat.le_refl _, Nat.le_refl _, Nat.le_refl _⟩, Wp.void _ _, ?_, (Kb.new w _ _).keep (al (Below.refl _ _) _), al (al (Below.refl _ _) _) _, by simp⟩
    have e : (w.alloc (.cells #[.slice none 0 0, .slice none 0 0, .slice none 0 0, .slice none 0 0] 30)).heap.size = w.heap.size + 1 := by simp
    have := Kb.new (w.alloc (.cells #[.slice none 0 0, .slice none 0 0, .slice none 0 0, .slice none 0 0] 30)) #[.slice none 0 0, .slice none 0 0, .slice none 0 0, .slice none 0 0] 30
    rw [e] at this
    exact this
  case round =>
    obtain ⟨t, k, i, P, v0, v1, v2, v3, xs, rfl, rfl, rfl, hp⟩ := hrel
    have LP : Hid (Lp w wr tx R t k i P v0 v1 v2 v3 xs) := hp
    have GW : Hid (Gp wr) := G.out.keep hp.bel
    clear hp
    by_cases h0 : t = []
    · subst h0
      obtain ⟨b0, b1, b2, b3, d0, d1, d2, d3, rfl, rfl, rfl, rfl⟩ := LP.out.pol.shape
      have es : (bq ([] : Wb)).toList.isEmpty = true := by rw [bqP_toList]; rfl
      have e : R = (0, 0, P) := by rw [← LP.out.val]; exact rd_end k i P
      have q0 := LP.out.var.cell (i := 0) rfl
      have q1 := LP.out.var.cell (i := 1) rfl
      have q2 := LP.out.var.cell (i := 2) rfl
      have q3 := LP.out.var.cell (i := 3) rfl
      have r0 := LP.out.res.cell (i := 0) rfl
      have r1 := LP.out.res.cell (i := 1) rfl
      have r2 := LP.out.res.cell (i := 2) rfl
      have r3 := LP.out.res.cell (i := 3) rfl
      have t0 := LP.out.res.free 0
      have t1 := LP.out.res.free 1
      have t2 := LP.out.res.free 2
      have t3 := LP.out.res.free 3
      go_wp2_with fail
      have KF : Kb _ w.heap.size #[.slice b0 P.own.length d0, .slice b1 P.lanes.length d1, .slice b2 P.bells.length d2, .slice b3 P.plan.length d3] 30 := (((LP.out.res.set 0 (.slice b0 P.own.length d0)).set 1 (.slice b1 P.lanes.length d1)).set 2 (.slice b2 P.bells.length d2)).set 3 (.slice b3 P.plan.length d3)
      have LD := run_loadVar_mid (P := Tryz.prog) _ w.heap.size 0 30 #[.slice b0 P.own.length d0, .slice b1 P.lanes.length d1, .slice b2 P.bells.length d2, .slice b3 P.plan.length d3].toList _ (fun j v hj => by rw [Nat.zero_add]; exact KF.cell (by simpa using hj)) Tryz.underlying30 rfl (by kernel_rfl)
      subst e
      exact bodyPost_ret (v := .tuple #[.agg #[.slice b0 P.own.length d0, .slice b1 P.lanes.length d1, .slice b2 P.bells.length d2, .slice b3 P.plan.length d3], .nilIface]) (by simp [results, Tryz.results16, asAddr]; rw [LD]; simp) rfl ⟨.inl ⟨rfl, _, _, _, _, _, rfl, ((LP.out.pol.put4 LP.out.res).mono (by omega))⟩, (((LP.out.bel.setCell (Nat.le_refl _) _).setCell (Nat.le_refl _) _).setCell (Nat.le_refl _) _).setCell (Nat.le_refl _) _⟩
    · have es : (bq t).toList.isEmpty = false := by rw [bqP_toList]; cases t with | nil => exact absurd rfl h0 | cons c r => rfl
      have TL : Hid (t.length ≤ 1000) := by have := LP.out.len; show _ ≤ _; omega
      have hst := rd_step t h0 k i P
      rw [LP.out.val] at hst
      have IC := i_cut t 10 (by have := TL.out; omega) wr GW.out
      by_cases hm : (10 : UInt8) ∈ t
      · rw [if_pos hm] at hst
        rw [if_pos hm, if_pos hm, decide_eq_true hm] at IC
        have LB : Hid ((befP 10 t).length ≤ 1000) := by have := bef_len 10 t; have := TL.out; show _ ≤ _; omega
        have SA : Hid ((aftP 10 t).length < t.length) := aft_short 10 t hm
        cases hln : lnO (befP 10 t) with
        | none =>
          rw [hln] at hst
          have e : R = (5, i, P) := hst
          have RL := fun w1 (g1 : Gp w1) => i_readLine (befP 10 t) LB.out w1 g1
          rw [hln] at RL
          clear hst hln SA LB hm h0
          generalize bq (befP 10 t) = SB at *
          generalize bq (aftP 10 t) = SC at *
          generalize bq t = ST at *
          go_wp2_with (first
            | (go_at_call 32; refine IC.mono ?_; rintro e w1 ⟨rfl, b1⟩; have B1 : Hid (Below wr.heap.size wr w1) := b1; clear b1)
            | (go_at_call 33; refine (RL _ (GW.out.keep B1.out)).mono ?_; rintro e w2 ⟨rfl, b2⟩; have B2 : Hid (Below wr.heap.size wr w2) := on B1.out b2; have KE : Hid (Kb w2 w.heap.size #[.slice none 0 0, .slice none 0 0, .slice none 0 0, .slice none 0 0] 30) := LP.out.res.keep B2.out; have t0 := KE.out.cell (i := 0) rfl; have f0 := KE.out.free 0; have t1 := KE.out.cell (i := 1) rfl; have f1 := KE.out.free 1; have t2 := KE.out.cell (i := 2) rfl; have f2 := KE.out.free 2; have t3 := KE.out.cell (i := 3) rfl; have f3 := KE.out.free 3; clear b2))
          have KF : Kb _ w.heap.size #[.slice none 0 0, .slice none 0 0, .slice none 0 0, .slice none 0 0] 30 := (((KE.out.set 0 (.slice none 0 0)).set 1 (.slice none 0 0)).set 2 (.slice none 0 0)).set 3 (.slice none 0 0)
          have LD := run_loadVar_mid (P := Tryz.prog) _ w.heap.size 0 30 #[.slice none 0 0, .slice none 0 0, .slice none 0 0, .slice none 0 0].toList _ (fun j v hj => by rw [Nat.zero_add]; exact KF.cell (by simpa using hj)) Tryz.underlying30 rfl (by kernel_rfl)
          subst e
          exact bodyPost_ret (v := .tuple #[.agg #[.slice none 0 0, .slice none 0 0, .slice none 0 0, .slice none 0 0], .iface 83 (.agg #[.int .i64 (i : Int), .iface 81 (.agg #[.int .i64 5])])]) (by simp [results, Tryz.results16, asAddr]; rw [LD]; simp) rfl ⟨.inr ⟨rfl, rfl⟩, ((((on LP.out.bel B2.out).setCell (Nat.le_refl _) _).setCell (Nat.le_refl _) _).setCell (Nat.le_refl _) _).setCell (Nat.le_refl _) _⟩
        | some fz =>
          obtain ⟨f, zs⟩ := fz
          rw [hln] at hst
          have hst : R = if f < k then (5, i, P) else rdP (spl 10 (aftP 10 t) []) f (i + 1) (adP P f zs) := hst
          have RL := fun w1 (g1 : Gp w1) => i_readLine (befP 10 t) LB.out w1 g1
          rw [hln] at RL
          have LC : Hid (f < 4 ∧ (f = 1 → zs.length = 5) ∧ (f = 2 → zs.length = 2) ∧ (f = 3 → zs.length = 2)) := ln_cnt hln
          by_cases hf : f < k
          · rw [if_pos hf] at hst
            have e : R = (5, i, P) := hst
            have hI : (f : Int) < (k : Int) := by omega
            clear hst hln SA LB hm h0 hf
            generalize bq (befP 10 t) = SB at *
            generalize bq (aftP 10 t) = SC at *
            generalize bq t = ST at *
            go_wp2_with (first
              | (go_at_call 32; refine IC.mono ?_; rintro e w1 ⟨rfl, b1⟩; have B1 : Hid (Below wr.heap.size wr w1) := b1; clear b1)
              | (go_at_call 33; refine (RL _ (GW.out.keep B1.out)).mono ?_; rintro e w2 ⟨⟨v, rfl, hN⟩, b2⟩; have B2 : Hid (Below wr.heap.size wr w2) := on B1.out b2; have KE : Hid (Kb w2 w.heap.size #[.slice none 0 0, .slice none 0 0, .slice none 0 0, .slice none 0 0] 30) := LP.out.res.keep B2.out; have t0 := KE.out.cell (i := 0) rfl; have f0 := KE.out.free 0; have t1 := KE.out.cell (i := 1) rfl; have f1 := KE.out.free 1; have t2 := KE.out.cell (i := 2) rfl; have f2 := KE.out.free 2; have t3 := KE.out.cell (i := 3) rfl; have f3 := KE.out.free 3; clear b2 hN))
            have KF : Kb _ w.heap.size #[.slice none 0 0, .slice none 0 0, .slice none 0 0, .slice none 0 0] 30 := (((KE.out.set 0 (.slice none 0 0)).set 1 (.slice none 0 0)).set 2 (.slice none 0 0)).set 3 (.slice none 0 0)
            have LD := run_loadVar_mid (P := Tryz.prog) _ w.heap.size 0 30 #[.slice none 0 0, .slice none 0 0, .slice none 0 0, .slice none 0 0].toList _ (fun j v hj => by rw [Nat.zero_add]; exact KF.cell (by simpa using hj)) Tryz.underlying30 rfl (by kernel_rfl)
            subst e
            exact bodyPost_ret (v := .tuple #[.agg #[.slice none 0 0, .slice none 0 0, .slice none 0 0, .slice none 0 0], .iface 83 (.agg #[.int .i64 (i : Int), .iface 81 (.agg #[.int .i64 5])])]) (by simp [results, Tryz.results16, asAddr]; rw [LD]; simp) rfl ⟨.inr ⟨rfl, rfl⟩, ((((on LP.out.bel B2.out).setCell (Nat.le_refl _) _).setCell (Nat.le_refl _) _).setCell (Nat.le_refl _) _).setCell (Nat.le_refl _) _⟩
          · rw [if_neg hf] at hst
            have HV : Hid (rdP (spl 10 (aftP 10 t) []) f (i + 1) (adP P f zs) = R) := hst.symm
            have hI : (k : Int) ≤ (f : Int) := by omega
            have wi : IntKind.i64.wrap ((i : Int) + 1) = (i : Int) + 1 := by rw [IntKind.wrap_i64]; have := LP.out.len; omega
            clear hst hln LB hm h0 hf
            have LS : Hid (lenS (.string (bq (aftP 10 t))) < lenS (.string (bq t))) := by show (bq _).size < (bq _).size; rw [bq_size, bq_size]; exact SA.out
            generalize bq (befP 10 t) = SB at *
            obtain ⟨SC, hSC⟩ : ∃ s, bq (aftP 10 t) = s := ⟨_, rfl⟩
            have HSC : Hid (bq (aftP 10 t) = SC) := hSC
            rw [hSC] at IC LS
            clear hSC
            generalize bq t = ST at *
            go_wp2_with (first
              | (go_at_call 32; refine IC.mono ?_; rintro e w1 ⟨rfl, b1⟩; have B1 : Hid (Below wr.heap.size wr w1) := b1; clear b1)
              | (go_at_call 33; refine (RL _ (GW.out.keep B1.out)).mono ?_; rintro e w2 ⟨⟨v, rfl, hN⟩, b2⟩; have B2 : Hid (Below wr.heap.size wr w2) := on B1.out b2; have PN : Hid (Wp w2 (w.heap.size + 2) v0 v1 v2 v3 P xs) := LP.out.pol.keep B2.out; have NU : Hid (Nums w2 (w.heap.size + 2) v zs) := owns_mono hN (by have := LP.out.two; have := B1.out.size; omega); have AP : Hid (∀ x ∈ xs, Apt x v) := LP.out.pol.apt hN B1.out.size; have q0 := (LP.out.var.keep B2.out).cell (i := 0) rfl; have q1 := (LP.out.var.keep B2.out).cell (i := 1) rfl; have q2 := (LP.out.var.keep B2.out).cell (i := 2) rfl; have q3 := (LP.out.var.keep B2.out).cell (i := 3) rfl; clear b2 hN)
              | (go_at_call 34; refine (i_with f LC.out.1 (w.heap.size + 2) v0 v1 v2 v3 _ P xs zs _ PN.out NU.out AP.out LC.out.2 (by have := LP.out.two; have := B2.out.size; omega) (by have h := LP.out.sm; have := LP.out.len; exact ⟨by have := h.own; omega, by have := h.lanes; omega, by have := h.bells; omega, by have := h.plan; omega⟩)).mono ?_; rintro e w3 ⟨u0, u1, u2, u3, ys, rfl, hW, hG⟩; obtain ⟨b0, b1, b2, b3, d0, d1, d2, d3, e0, e1, e2, e3⟩ := hW.shape; generalize (adP P f zs).own.length = m0 at e0; generalize (adP P f zs).lanes.length = m1 at e1; generalize (adP P f zs).bells.length = m2 at e2; generalize (adP P f zs).plan.length = m3 at e3; subst e0 e1 e2 e3; have WN : Hid (Wp w3 (w.heap.size + 2) _ _ _ _ (adP P f zs) ys) := hW; have GN : Hid (Gn (w.heap.size + 2) w2 w3) := hG; have S2 : Hid (w.heap.size + 2 ≤ w2.heap.size) := (by have := LP.out.two; have := B2.out.size; show _ ≤ _; omega); have KV : Hid (Kb w3 (w.heap.size + 1) #[v0, v1, v2, v3] 30) := (LP.out.var.keep B2.out).low (GN.out.self S2.out) (by omega); have KE : Hid (Kb w3 w.heap.size #[.slice none 0 0, .slice none 0 0, .slice none 0 0, .slice none 0 0] 30) := (LP.out.res.keep B2.out).low (GN.out.self S2.out) (by omega); have t0 := KV.out.cell (i := 0) rfl; have t1 := KV.out.cell (i := 1) rfl; have t2 := KV.out.cell (i := 2) rfl; have t3 := KV.out.cell (i := 3) rfl; have f0 := KV.out.free 0; have f1 := KV.out.free 1; have f2 := KV.out.free 2; have f3 := KV.out.free 3; clear hW hG q0 q1 q2 q3))
            go_roundw
            case rel =>
              refine ⟨aftP 10 t, f, i + 1, adP P f zs, _, _, _, _, ys, by rw [HSC.out], rfl, by go_num, by have := SA.out; have := LP.out.len; omega, HV.out, LP.out.sm.next f zs, WN.out.put4 KV.out, ((((KV.out.set 0 _).set 1 _).set 2 _).set 3 _), ((((KE.out.put (w.heap.size + 1) 0 _ (by omega)).put (w.heap.size + 1) 1 _ (by omega)).put (w.heap.size + 1) 2 _ (by omega)).put (w.heap.size + 1) 3 _ (by omega)), ((((GN.out _ w (on LP.out.bel B2.out) (by omega) (Nat.le_refl _)).setCell (by show w.heap.size ≤ w.heap.size + 1; omega) _).setCell (by show w.heap.size ≤ w.heap.size + 1; omega) _).setCell (by show w.heap.size ≤ w.heap.size + 1; omega) _).setCell (by show w.heap.size ≤ w.heap.size + 1; omega) _, ?_⟩
              have := (GN.out.self S2.out).size
              have := S2.out
              simp [World.setCell]
              omega
            case measure => exact LS.out
      · rw [if_neg hm] at hst
        rw [if_neg hm, if_neg hm, decide_eq_false hm] at IC
        have e : R = (5, i, P) := hst
        have RL := fun w1 (g1 : Gp w1) => i_readLine t TL.out w1 g1
        clear hst hm h0
        cases hln : lnO t with
        | none =>
          rw [hln] at RL
          clear hln
          generalize bq [] = SC at *
          generalize bq t = ST at *
          go_wp2_with (first
            | (go_at_call 32; refine IC.mono ?_; rintro e w1 ⟨rfl, b1⟩; have B1 : Hid (Below wr.heap.size wr w1) := b1; clear b1)
            | (go_at_call 33; refine (RL _ (GW.out.keep B1.out)).mono ?_; rintro e w2 ⟨rfl, b2⟩; have B2 : Hid (Below wr.heap.size wr w2) := on B1.out b2; have KE : Hid (Kb w2 w.heap.size #[.slice none 0 0, .slice none 0 0, .slice none 0 0, .slice none 0 0] 30) := LP.out.res.keep B2.out; have t0 := KE.out.cell (i := 0) rfl; have f0 := KE.out.free 0; have t1 := KE.out.cell (i := 1) rfl; have f1 := KE.out.free 1; have t2 := KE.out.cell (i := 2) rfl; have f2 := KE.out.free 2; have t3 := KE.out.cell (i := 3) rfl; have f3 := KE.out.free 3; clear b2))
          have KF : Kb _ w.heap.size #[.slice none 0 0, .slice none 0 0, .slice none 0 0, .slice none 0 0] 30 := (((KE.out.set 0 (.slice none 0 0)).set 1 (.slice none 0 0)).set 2 (.slice none 0 0)).set 3 (.slice none 0 0)
          have LD := run_loadVar_mid (P := Tryz.prog) _ w.heap.size 0 30 #[.slice none 0 0, .slice none 0 0, .slice none 0 0, .slice none 0 0].toList _ (fun j v hj => by rw [Nat.zero_add]; exact KF.cell (by simpa using hj)) Tryz.underlying30 rfl (by kernel_rfl)
          subst e
          exact bodyPost_ret (v := .tuple #[.agg #[.slice none 0 0, .slice none 0 0, .slice none 0 0, .slice none 0 0], .iface 83 (.agg #[.int .i64 (i : Int), .iface 81 (.agg #[.int .i64 5])])]) (by simp [results, Tryz.results16, asAddr]; rw [LD]; simp) rfl ⟨.inr ⟨rfl, rfl⟩, ((((on LP.out.bel B2.out).setCell (Nat.le_refl _) _).setCell (Nat.le_refl _) _).setCell (Nat.le_refl _) _).setCell (Nat.le_refl _) _⟩
        | some fz =>
          obtain ⟨f, zs⟩ := fz
          rw [hln] at RL
          clear hln
          generalize bq [] = SC at *
          generalize bq t = ST at *
          go_wp2_with (first
            | (go_at_call 32; refine IC.mono ?_; rintro e w1 ⟨rfl, b1⟩; have B1 : Hid (Below wr.heap.size wr w1) := b1; clear b1)
            | (go_at_call 33; refine (RL _ (GW.out.keep B1.out)).mono ?_; rintro e w2 ⟨⟨v, rfl, hN⟩, b2⟩; have B2 : Hid (Below wr.heap.size wr w2) := on B1.out b2; have KE : Hid (Kb w2 w.heap.size #[.slice none 0 0, .slice none 0 0, .slice none 0 0, .slice none 0 0] 30) := LP.out.res.keep B2.out; have t0 := KE.out.cell (i := 0) rfl; have f0 := KE.out.free 0; have t1 := KE.out.cell (i := 1) rfl; have f1 := KE.out.free 1; have t2 := KE.out.cell (i := 2) rfl; have f2 := KE.out.free 2; have t3 := KE.out.cell (i := 3) rfl; have f3 := KE.out.free 3; clear b2 hN))
          have KF : Kb _ w.heap.size #[.slice none 0 0, .slice none 0 0, .slice none 0 0, .slice none 0 0] 30 := (((KE.out.set 0 (.slice none 0 0)).set 1 (.slice none 0 0)).set 2 (.slice none 0 0)).set 3 (.slice none 0 0)
          have LD := run_loadVar_mid (P := Tryz.prog) _ w.heap.size 0 30 #[.slice none 0 0, .slice none 0 0, .slice none 0 0, .slice none 0 0].toList _ (fun j v hj => by rw [Nat.zero_add]; exact KF.cell (by simpa using hj)) Tryz.underlying30 rfl (by kernel_rfl)
          subst e
          exact bodyPost_ret (v := .tuple #[.agg #[.slice none 0 0, .slice none 0 0, .slice none 0 0, .slice none 0 0], .iface 83 (.agg #[.int .i64 (i : Int), .iface 81 (.agg #[.int .i64 5])])]) (by simp [results, Tryz.results16, asAddr]; rw [LD]; simp) rfl ⟨.inr ⟨rfl, rfl⟩, ((((on LP.out.bel B2.out).setCell (Nat.le_refl _) _).setCell (Nat.le_refl _) _).setCell (Nat.le_refl _) _).setCell (Nat.le_refl _) _⟩
end Go.Proofs.YtkfcofjmjbkekaaGreatDoor
