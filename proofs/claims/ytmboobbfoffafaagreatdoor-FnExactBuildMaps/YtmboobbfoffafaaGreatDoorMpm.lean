/- Maps marked and held. -/
import Derived.Test.YtmboobbfoffafaaGreatDoorMpp
namespace Go.Proofs.YtmboobbfoffafaaGreatDoor
open Go.RowKit
set_option linter.unusedVariables false

/-- What marking leaves of maps. -/
def mkL (k : Int) (i : Nat) : List (Int × Int) := pmarks (k + (16 * i : Nat)) 8
set_option maxHeartbeats 1000000 in
theorem mark_pgs (lo hi : Nat) (v : Value) (k : Int) (rs : List (Int × Int)) (b : Nat) (w : World) (h : Prs 142 w b v rs) (hlo : ∀ g, v.ownBlock = some g → lo ≤ g ∧ g < hi) (hk : 0 ≤ k) (hz : k + (2 * rs.length : Nat) ≤ 4611686018427387904) :
    Calls Tryz.prog 108 #[v, .int .i64 k] w fun e w' => e = .returned (.int .i64 (k + (2 * rs.length : Nat))) ∧ Prs 142 w' b v (pmarks k rs.length) ∧ w.grownBy w' v.ownBlock ∧ Mk lo hi w w' := by
  obtain ⟨a, cap, rfl, l1, l2, hg⟩ := h.shape
  have HZ : Hid (Prs _ w b _ rs) := h
  have HLO : Hid (∀ g, (Value.slice a rs.length cap).ownBlock = some g → lo ≤ g ∧ g < hi) := hlo
  clear h hlo
  obtain ⟨n, hn⟩ : ∃ n, rs.length = n := ⟨_, rfl⟩
  rw [hn] at HZ l1 hz hg HLO ⊢
  have HN : Hid (rs.length = n) := hn
  clear hn l1 l2
  go_enter Tryz.func108, Tryz.ntmps108
  go_wp2_with fail
  go_loopw [1, 5] (fun q i wr => ∃ j : Nat, j ≤ n ∧ i = .int .i64 j ∧ q = .int .i64 (k + (2 * j : Nat)) ∧ Prs 142 wr b (.slice a n cap) (pmarks k j ++ rs.drop j) ∧ w.grownBy wr (Value.slice a n cap).ownBlock ∧ Mk lo hi w wr) (fun _ i _ => n - (intOf i).toNat)
  case atStart => exact ⟨0, Nat.zero_le _, rfl, by simp, by simpa [pmarks] using HZ.out, World.grownBy.refl _ _, Mk.refl _ _ _⟩
  case round =>
    obtain ⟨j, hj, rfl, rfl, hN, hG, hM⟩ := hrel
    have MK0 : Hid (Mk lo hi w wr) := hM
    have N0 : Hid (Prs _ wr _ _ _) := hN
    have G0 : Hid (World.grownBy _ _ _) := hG
    by_cases hlt : j < n
    · obtain ⟨g, rfl⟩ := hg (by omega)
      have hll : n = (pmarks k j ++ rs.drop j).length := by have := HN.out; simp [pmarks]; omega
      have HLL : Hid (n = (pmarks k j ++ rs.drop j).length) := hll
      have c1 := (hN.cell hll j hlt).1
      have c2 := (hN.cell hll j hlt).2
      have CC1 : Hid (wr.cell? ⟨g, j * 2, none⟩ = some (.int .i64 _)) := c1
      have CC2 : Hid (wr.cell? ⟨g, j * 2 + 1, none⟩ = some (.int .i64 _)) := c2
      have LG : Hid (lo ≤ g ∧ g < hi) := HLO.out g rfl
      have f1 := hN.free hll (j * 2)
      have f2 := hN.free hll (j * 2 + 1)
      have hI : (j : Int) < (n : Int) := by omega
      have HL : Hid (j < n) := hlt
      have HK2 : Hid (k + ((2 * j : Nat) : Int) + 1 = k + ((2 * j + 1 : Nat) : Int) ∧ k + ((2 * j + 1 : Nat) : Int) + 1 = k + ((2 * (j + 1) : Nat) : Int)) := ⟨by omega, by omega⟩
      have hb0 : 0 ≤ k + ((2 * j : Nat) : Int) := by omega
      have hb1 : k + ((2 * j : Nat) : Int) ≤ 4611686018427387904 := by omega
      generalize ((pmarks k j ++ rs.drop j).getD j (0, 0)).1 = p at *
      generalize ((pmarks k j ++ rs.drop j).getD j (0, 0)).2 = q at *
      generalize hkk : k + ((2 * j : Nat) : Int) = kk at *
      have HKK : Hid (k + ((2 * j : Nat) : Int) = kk) := hkk
      clear hN hG hM hlt hg hll hkk
      go_wp2_with fail
      go_roundw
      case rel =>
        have s1 := N0.out.store HLL.out j kk (kk + 1) HL.out
        have s2 := grown_trans (grown_set wr ⟨g, j * 2, none⟩ (.int .i64 kk)) (grown_set _ ⟨g, j * 2 + 1, none⟩ (.int .i64 (kk + 1)))
        refine ⟨j + 1, by have := HL.out; omega, by go_num, by rw [← HK2.out.2, ← HK2.out.1], ?_, grown_trans G0.out s2, ?_⟩
        rotate_left
        · obtain ⟨y1, d1⟩ := ((Mk.refl lo hi wr).set CC1.out LG.out.1 LG.out.2 kk).num _ _ CC2.out
          exact (MK0.out.set CC1.out LG.out.1 LG.out.2 kk).set d1 LG.out.1 LG.out.2 (kk + 1)
        rw [HK2.out.1, ← HKK.out, pmarks_set k rs j (by have := HL.out; have := HN.out; omega)] at s1
        have e : k + ((2 * j : Nat) : Int) + 1 = k + ((2 * j + 1 : Nat) : Int) := by omega
        rw [← HKK.out, e]
        exact s1
      case measure => have := HL.out; simp [intOf]; omega
    · have hI : ¬ (j : Int) < (n : Int) := by omega
      obtain rfl : j = n := by omega
      clear hN hG hM
      go_wp2_with fail
      go_ret
      refine ⟨rfl, ?_, G0.out, MK0.out⟩
      have := N0.out
      rwa [List.drop_of_length_le (Nat.le_of_eq HN.out), List.append_nil] at this


/-- The first j lists marked. -/
def mixL (k : Int) (j : Nat) (L : Nat → List (Int × Int)) : Nat → List (Int × Int) := fun i => if i < j then mkL k i else L i

set_option maxHeartbeats 2000000 in
theorem mark_maps0 (lo hi : Nat) (v : Value) (n : Nat) (B C : Nat → Nat) (L : Nat → List (Int × Int)) (k : Int) (b : Nat) (w : World) (h : Sp w b v n B C L) (hn : n ≤ 1000) (hB : ∀ i, i < n → lo ≤ B i ∧ B i < hi) (hk : 0 ≤ k) (hz : k ≤ 1000000) :
    Calls Tryz.prog 110 #[v, .int .i64 k] w fun e w' => e = .returned (.int .i64 (k + (16 * n : Nat))) ∧ Sp w' b v n B C (mkL k) ∧ Mk lo hi w w' := by
  obtain ⟨a, cap, rfl, l1, l2, hg⟩ := h.shape
  have HZ : Hid (Sp w b _ n B C L) := h
  have HBB : Hid (∀ i, i < n → lo ≤ B i ∧ B i < hi) := hB
  have hni : (n : Int) ≤ 1000 := by omega
  clear h hB l1 l2
  go_enter Tryz.func110, Tryz.ntmps110
  go_wp2_with fail
  go_loopw [1, 5] (fun q i wr => ∃ j : Nat, j ≤ n ∧ i = .int .i64 j ∧ q = .int .i64 (k + (16 * j : Nat)) ∧ Sp wr b (.slice a n cap) n B C (mixL k j L) ∧ Mk lo hi w wr) (fun _ i _ => n - (intOf i).toNat)
  case atStart => exact ⟨0, Nat.zero_le _, rfl, by simp, ⟨HZ.out.row, fun i hi => by unfold mixL; rw [if_neg (Nat.not_lt_zero _)]; exact HZ.out.inn i hi, HZ.out.inc⟩, Mk.refl _ _ _⟩
  case round =>
    obtain ⟨j, hj, rfl, rfl, hN, hM⟩ := hrel
    have N0 : Hid (Sp wr b _ n B C (mixL k j L)) := hN
    have M0 : Hid (Mk lo hi w wr) := hM
    by_cases hlt : j < n
    · obtain ⟨g, rfl⟩ := hg (by omega)
      have c1 := hN.cell j hlt
      have IN := hN.inn j hlt
      have L8 : (mixL k j L j).length = 8 := hN.len8 j hlt
      have hI : (j : Int) < (n : Int) := by omega
      have HL : Hid (j < n) := hlt
      have CM := mark_pgs lo hi _ (k + (16 * j : Nat)) _ _ wr IN (fun g e => by cases e; exact HBB.out j hlt) (by omega) (by rw [L8]; omega)
      rw [L8] at CM
      have E1 : Hid (k + ((16 * j : Nat) : Int) + ((2 * 8 : Nat) : Int) = k + ((16 * (j + 1) : Nat) : Int)) := by show _ = _; omega
      rw [E1.out] at CM
      have HIN : Hid (Prs 142 wr b (.slice (some ⟨B j, 0, none⟩) 8 (C j)) (mixL k j L j)) := IN
      clear hN hM hlt hg IN L8
      go_wp2_with fail
      refine CM.mono ?_
      rintro e w2 ⟨rfl, p2, g2, k2⟩
      have NX : Hid (Sp w2 b (.slice (some ⟨g, 0, none⟩) n cap) n B C (mixL k (j + 1) L)) := by
        refine ⟨World.ownsRow.kept N0.out.row g2 (own_types N0.out.row HIN.out (by decide)), fun i hi => ?_, N0.out.inc⟩
        by_cases e : i = j
        · subst e
          unfold mixL
          rw [if_pos (by omega)]
          exact p2
        · have h1 := N0.out.inn i hi
          have h2 : Prs 142 w2 b (.slice (some ⟨B i, 0, none⟩) 8 (C i)) (mixL k j L i) := h1.kept g2 (.inr (fun e2 => by
            have e3 : B i = B j := Option.some.inj (show some (B i) = some (B j) from e2)
            rcases Nat.lt_or_ge i j with h | h
            · have := N0.out.inc i j h HL.out; omega
            · have := N0.out.inc j i (by omega) hi; omega))
          have e4 : mixL k (j + 1) L i = mixL k j L i := by
            unfold mixL
            by_cases hij : i < j
            · rw [if_pos hij, if_pos (by omega)]
            · rw [if_neg hij, if_neg (by omega)]
          rw [e4]
          exact h2
      have MX : Hid (Mk lo hi w w2) := M0.out.trans k2
      clear p2 g2 k2 CM
      go_wp2_with fail
      go_roundw
      case rel => exact ⟨j + 1, by have := HL.out; omega, by go_num, rfl, NX.out, MX.out⟩
      case measure => have := HL.out; simp [intOf]; omega
    · have hI : ¬ (j : Int) < (n : Int) := by omega
      obtain rfl : j = n := by omega
      have NE : Hid (Sp wr b (.slice a j cap) j B C (mkL k)) := ⟨hN.row, fun i hi => by have := hN.inn i hi; unfold mixL at this; rw [if_pos hi] at this; exact this, hN.inc⟩
      clear hN hM
      go_wp2_with fail
      go_ret
      exact ⟨rfl, NE.out, M0.out⟩
theorem mark_mapsR (lo hi : Nat) (x : Int) (v : Value) (n : Nat) (B C : Nat → Nat) (L : Nat → List (Int × Int)) (k : Int) (b : Nat) (w : World) (h : Sp w b v n B C L) (hn : n ≤ 1000) (hB : ∀ i, i < n → lo ≤ B i ∧ B i < hi) (hk : 0 ≤ k) (hz : k ≤ 1000000) :
    Calls Tryz.prog 46 #[.agg #[.int .i64 x, v], .int .i64 k] w fun e w' => e = .returned (.int .i64 (k + (16 * n : Nat))) ∧ Sp w' b v n B C (mkL k) ∧ Mk lo hi w w' := by
  obtain ⟨a, cap, rfl, _, _, _⟩ := h.shape
  have H : Hid (Sp w b _ n B C L) := h
  have HH : Hid (n ≤ 1000 ∧ (∀ i, i < n → lo ≤ B i ∧ B i < hi) ∧ 0 ≤ k ∧ k ≤ 1000000) := ⟨hn, hB, hk, hz⟩
  clear h hn hB hk hz
  go_enter Tryz.func46, Tryz.ntmps46
  go_wp2_with fail
  refine (mark_maps0 lo hi _ n B C L k b _ (H.out.keep (al (Below.refl _ _) _)) HH.out.1 HH.out.2.1 HH.out.2.2.1 HH.out.2.2.2).mono ?_
  rintro e w1 ⟨rfl, n1, m1⟩
  have N1 : Hid (Sp w1 b _ n B C (mkL k)) := n1
  have M1 : Hid (Mk lo hi w w1) := ((Mk.refl _ _ _).alloc _).trans m1
  clear n1 m1
  go_wp2_with fail
  go_ret
  exact ⟨rfl, N1.out, M1.out⟩

set_option maxHeartbeats 2000000 in
theorem held_maps0 (v : Value) (n : Nat) (B C : Nat → Nat) (k : Int) (b : Nat) (w : World) (h : Sp w b v n B C (mkL k)) (hn : n ≤ 1000) (hk : 0 ≤ k) (hz : k ≤ 1000000) :
    Calls Tryz.prog 111 #[v, .int .i64 k] w fun e w' => e = .returned (.int .i64 (k + (16 * n : Nat))) ∧ w' = w := by
  obtain ⟨a, cap, rfl, l1, l2, hg⟩ := h.shape
  have HZ : Hid (Sp w b _ n B C (mkL k)) := h
  have hni : (n : Int) ≤ 1000 := by omega
  clear h l1 l2
  go_enter Tryz.func111, Tryz.ntmps111
  go_wp2_with fail
  go_loop [1, 5] (fun q i => ∃ j : Nat, j ≤ n ∧ i = .int .i64 j ∧ q = .int .i64 (k + (16 * j : Nat))) (fun _ i => n - (intOf i).toNat)
  case atStart => exact ⟨0, Nat.zero_le _, rfl, by simp⟩
  case round =>
    obtain ⟨j, hj, rfl, rfl⟩ := hrel
    by_cases hlt : j < n
    · obtain ⟨g, rfl⟩ := hg (by omega)
      have c1 := HZ.out.cell j hlt
      have IN : Hid (Prs 142 w b (.slice (some ⟨B j, 0, none⟩) 8 (C j)) (pmarks (k + (16 * j : Nat)) 8)) := HZ.out.inn j hlt
      have hI : (j : Int) < (n : Int) := by omega
      have HL : Hid (j < n) := hlt
      have E1 : Hid (k + ((16 * j : Nat) : Int) + ((2 * 8 : Nat) : Int) = k + ((16 * (j + 1) : Nat) : Int)) := by show _ = _; omega
      have CH := held_pages _ (k + (16 * j : Nat)) 8 b w IN.out (by omega) (by omega)
      rw [E1.out] at CH
      have hp : ¬ k + ((16 * (j + 1) : Nat) : Int) < 0 := by omega
      have HKK : Hid (0 ≤ k + ((16 * (j + 1) : Nat) : Int)) := by show _ ≤ _; omega
      obtain ⟨kk, hkk⟩ : ∃ kk, k + ((16 * (j + 1) : Nat) : Int) = kk := ⟨_, rfl⟩
      rw [hkk] at CH HKK
      have HKE : Hid (k + ((16 * (j + 1) : Nat) : Int) = kk) := hkk
      have hk0 : 0 ≤ kk := HKK.out
      clear hlt hg hp hkk
      go_wp2_with fail
      refine CH.mono ?_
      rintro e w ⟨rfl, rfl⟩
      clear CH
      go_wp2_with fail
      go_round
      case rel => exact ⟨j + 1, by have := HL.out; omega, by go_num, by rw [HKE.out]⟩
      case measure => have := HL.out; simp [intOf]; omega
    · have hI : ¬ (j : Int) < (n : Int) := by omega
      obtain rfl : j = n := by omega
      go_wp2_with fail
      go_ret
      exact ⟨rfl, rfl⟩
theorem held_mapsR (x : Int) (v : Value) (n : Nat) (B C : Nat → Nat) (k : Int) (b : Nat) (w : World) (h : Sp w b v n B C (mkL k)) (hn : n ≤ 1000) (hk : 0 ≤ k) (hz : k ≤ 1000000) :
    Calls Tryz.prog 47 #[.agg #[.int .i64 x, v], .int .i64 k] w fun e w' => e = .returned (.int .i64 (k + (16 * n : Nat))) ∧ Below w.heap.size w w' := by
  obtain ⟨a, cap, rfl, _, _, _⟩ := h.shape
  have H : Hid (Sp w b _ n B C (mkL k)) := h
  have HH : Hid (n ≤ 1000 ∧ 0 ≤ k ∧ k ≤ 1000000) := ⟨hn, hk, hz⟩
  have HP : Hid (0 ≤ k + ((16 * n : Nat) : Int)) := by show _ ≤ _; omega
  obtain ⟨kk, hkk⟩ : ∃ kk, k + ((16 * n : Nat) : Int) = kk := ⟨_, rfl⟩
  have CH := fun w h => held_maps0 (.slice a n cap) n B C k b w h hn hk hz
  rw [hkk] at CH HP ⊢
  have hk0 : 0 ≤ kk := HP.out
  clear h hn hk hz hkk
  go_enter Tryz.func47, Tryz.ntmps47
  go_wp2_with fail
  refine (CH _ (H.out.keep (al (Below.refl _ _) _))).mono ?_
  rintro e w1 ⟨rfl, rfl⟩
  clear CH
  go_wp2_with fail
  go_ret
  exact ⟨rfl, al (Below.refl _ _) _⟩

/-- Maps, wherever they lie. -/
def SpX (w : World) (base : Nat) (v : Value) (n : Nat) (L : Nat → List (Int × Int)) : Prop := ∃ B C, Sp w base v n B C L
theorem SpX.shape {w : World} {base n : Nat} {v : Value} {L : Nat → List (Int × Int)} (h : SpX w base v n L) : ∃ a cap, v = .slice a n cap ∧ n ≤ cap ∧ cap ≤ maxLen ∧ (0 < n → ∃ g, a = some ⟨g, 0, none⟩) := by obtain ⟨B, C, h⟩ := h; exact h.shape
def mapsN (P : Plc) : Nat := if pfV P = 0 then P.own.length else 0
def mapsL (P : Plc) (g : Nat) : List (Int × Int) := pforL (P.own.getD g []) P.lanes (g : Int) 8
theorem mapsN_le (P : Plc) : mapsN P ≤ 3 := by
  unfold mapsN
  split
  · rename_i h
    exact (pf_parts P h).1
  · omega
end Go.Proofs.YtmboobbfoffafaaGreatDoor
