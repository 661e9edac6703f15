/- Texts of this seat, joined. -/
import Derived.Test.YtcdbhhhihhdghaaGreatDoorQ26
namespace Go.Proofs.YtcdbhhhihhdghaaGreatDoor
open Go.RowKit
set_option linter.unusedVariables false

theorem Hx.left {L M : List (Addr × Bool)} {k : Int} {w : World} (h : Hx (L ++ M) k w) : Hx L k w := fun i x e =>
  h i x (by rw [List.getElem?_append_left (List.getElem?_eq_some_iff.1 e).1]; exact e)
theorem Hx.right {L M : List (Addr × Bool)} {k : Int} {w : World} (h : Hx (L ++ M) k w) : Hx M (k + L.length) w := fun i x e => by
  have := h (L.length + i) x (by rw [List.getElem?_append_right (by omega), Nat.add_sub_cancel_left]; exact e)
  rw [show k + ((L.length + i : Nat) : Int) = k + L.length + i by omega] at this
  exact this

set_option maxHeartbeats 1000000 in
theorem hx_nums (a : Option Addr) (n c g : Nat) (k : Int) (w : World) (h : Hx (cN g n) k w) (ha : 0 < n → a = some ⟨g, 0, none⟩) (hk : 0 ≤ k) (hz : k + n ≤ 4611686018427387904) :
    Calls Tryz.prog 72 #[.slice a n c, .int .i64 k] w fun e w' => e = .returned (.int .i64 (k + n)) ∧ w' = w := by
  have HZ : Hid (Hx (cN g n) k w) := h
  have HA : Hid (0 < n → a = some ⟨g, 0, none⟩) := ha
  clear h ha
  go_enter Tryz.func72, Tryz.ntmps72
  go_wp2_with fail
  go_loop [1, 5] (fun q i => ∃ j : Nat, j ≤ n ∧ i = .int .i64 j ∧ q = .int .i64 (k + j)) (fun _ i => n - (intOf i).toNat)
  case atStart => exact ⟨0, Nat.zero_le _, rfl, by simp⟩
  case round =>
    obtain ⟨j, hj, rfl, rfl⟩ := hrel
    by_cases hlt : j < n
    · obtain rfl := HA.out (by omega)
      have c1 := HZ.out.num hlt
      have hI : (j : Int) < (n : Int) := by omega
      have HL : Hid (j < n) := hlt
      clear hlt
      go_wp2_with fail
      go_round
      case rel => exact ⟨j + 1, by have := HL.out; omega, by go_num, by go_num⟩
      case measure => have := HL.out; simp [intOf]; omega
    · have hI : ¬ (j : Int) < (n : Int) := by omega
      obtain rfl : j = n := by omega
      go_wp2_with fail
      go_ret
      exact ⟨rfl, rfl⟩

set_option maxHeartbeats 2000000 in
theorem hx_lanes (a : Option Addr) (n c g : Nat) (k : Int) (w : World) (h : Hx (cN g (n * 5)) k w) (ha : 0 < n → a = some ⟨g, 0, none⟩) (hk : 0 ≤ k) (hz : k + (5 * n : Nat) ≤ 4611686018427387904) :
    Calls Tryz.prog 43 #[.slice a n c, .int .i64 k] w fun e w' => e = .returned (.int .i64 (k + (5 * n : Nat))) ∧ w' = w := by
  have HZ : Hid (Hx (cN g (n * 5)) k w) := h
  have HA : Hid (0 < n → a = some ⟨g, 0, none⟩) := ha
  clear h ha
  go_enter Tryz.func43, Tryz.ntmps43
  go_wp2_with fail
  go_loop [1, 5] (fun q i => ∃ j : Nat, j ≤ n ∧ i = .int .i64 j ∧ q = .int .i64 (k + (5 * j : Nat))) (fun _ i => n - (intOf i).toNat)
  case atStart => exact ⟨0, Nat.zero_le _, rfl, by simp⟩
  case round =>
    obtain ⟨j, hj, rfl, rfl⟩ := hrel
    by_cases hlt : j < n
    · obtain rfl := HA.out (by omega)
      have c0 := HZ.out.num (i := j * 5) (by omega)
      rw [show k + ((j * 5 : Nat) : Int) = k + ((5 * j : Nat) : Int) by omega] at c0
      have c1 := HZ.out.num (i := j * 5 + 1) (by omega)
      rw [show k + ((j * 5 + 1 : Nat) : Int) = k + ((5 * j : Nat) : Int) + 1 by omega] at c1
      have c2 := HZ.out.num (i := j * 5 + 2) (by omega)
      rw [show k + ((j * 5 + 2 : Nat) : Int) = k + ((5 * j : Nat) : Int) + 1 + 1 by omega] at c2
      have c3 := HZ.out.num (i := j * 5 + 3) (by omega)
      rw [show k + ((j * 5 + 3 : Nat) : Int) = k + ((5 * j : Nat) : Int) + 1 + 1 + 1 by omega] at c3
      have c4 := HZ.out.num (i := j * 5 + 4) (by omega)
      rw [show k + ((j * 5 + 4 : Nat) : Int) = k + ((5 * j : Nat) : Int) + 1 + 1 + 1 + 1 by omega] at c4
      have hI : (j : Int) < (n : Int) := by omega
      have HL : Hid (j < n) := hlt
      have HK2 : Hid (k + ((5 * j : Nat) : Int) + 1 + 1 + 1 + 1 + 1 = k + ((5 * (j + 1) : Nat) : Int)) := by show _ = _; omega
      have hb0 : 0 ≤ k + ((5 * j : Nat) : Int) := by omega
      have hb1 : k + ((5 * j : Nat) : Int) ≤ 4611686018427387904 := by omega
      generalize k + ((5 * j : Nat) : Int) = kk at *
      clear hlt
      go_wp2_with fail
      go_round
      case rel => exact ⟨j + 1, by have := HL.out; omega, by go_num, by rw [← HK2.out]⟩
      case measure => have := HL.out; simp [intOf]; omega
    · have hI : ¬ (j : Int) < (n : Int) := by omega
      obtain rfl : j = n := by omega
      go_wp2_with fail
      go_ret
      exact ⟨rfl, rfl⟩

set_option maxHeartbeats 2000000 in
theorem hx_bells (a : Option Addr) (n c g : Nat) (k : Int) (w : World) (h : Hx (cN g (n * 2)) k w) (ha : 0 < n → a = some ⟨g, 0, none⟩) (hk : 0 ≤ k) (hz : k + (2 * n : Nat) ≤ 4611686018427387904) :
    Calls Tryz.prog 44 #[.slice a n c, .int .i64 k] w fun e w' => e = .returned (.int .i64 (k + (2 * n : Nat))) ∧ w' = w := by
  have HZ : Hid (Hx (cN g (n * 2)) k w) := h
  have HA : Hid (0 < n → a = some ⟨g, 0, none⟩) := ha
  clear h ha
  go_enter Tryz.func44, Tryz.ntmps44
  go_wp2_with fail
  go_loop [1, 5] (fun q i => ∃ j : Nat, j ≤ n ∧ i = .int .i64 j ∧ q = .int .i64 (k + (2 * j : Nat))) (fun _ i => n - (intOf i).toNat)
  case atStart => exact ⟨0, Nat.zero_le _, rfl, by simp⟩
  case round =>
    obtain ⟨j, hj, rfl, rfl⟩ := hrel
    by_cases hlt : j < n
    · obtain rfl := HA.out (by omega)
      have c0 := HZ.out.num (i := j * 2) (by omega)
      rw [show k + ((j * 2 : Nat) : Int) = k + ((2 * j : Nat) : Int) by omega] at c0
      have c1 := HZ.out.num (i := j * 2 + 1) (by omega)
      rw [show k + ((j * 2 + 1 : Nat) : Int) = k + ((2 * j : Nat) : Int) + 1 by omega] at c1
      have hI : (j : Int) < (n : Int) := by omega
      have HL : Hid (j < n) := hlt
      have HK2 : Hid (k + ((2 * j : Nat) : Int) + 1 + 1 = k + ((2 * (j + 1) : Nat) : Int)) := by show _ = _; omega
      have hb0 : 0 ≤ k + ((2 * j : Nat) : Int) := by omega
      have hb1 : k + ((2 * j : Nat) : Int) ≤ 4611686018427387904 := by omega
      generalize k + ((2 * j : Nat) : Int) = kk at *
      clear hlt
      go_wp2_with fail
      go_round
      case rel => exact ⟨j + 1, by have := HL.out; omega, by go_num, by rw [← HK2.out]⟩
      case measure => have := HL.out; simp [intOf]; omega
    · have hI : ¬ (j : Int) < (n : Int) := by omega
      obtain rfl : j = n := by omega
      go_wp2_with fail
      go_ret
      exact ⟨rfl, rfl⟩

set_option maxHeartbeats 2000000 in
theorem hx_slots (a : Option Addr) (n c g : Nat) (k : Int) (w : World) (h : Hx (cN g (n * 2)) k w) (ha : 0 < n → a = some ⟨g, 0, none⟩) (hk : 0 ≤ k) (hz : k + (2 * n : Nat) ≤ 4611686018427387904) :
    Calls Tryz.prog 45 #[.slice a n c, .int .i64 k] w fun e w' => e = .returned (.int .i64 (k + (2 * n : Nat))) ∧ w' = w := by
  have HZ : Hid (Hx (cN g (n * 2)) k w) := h
  have HA : Hid (0 < n → a = some ⟨g, 0, none⟩) := ha
  clear h ha
  go_enter Tryz.func45, Tryz.ntmps45
  go_wp2_with fail
  go_loop [1, 5] (fun q i => ∃ j : Nat, j ≤ n ∧ i = .int .i64 j ∧ q = .int .i64 (k + (2 * j : Nat))) (fun _ i => n - (intOf i).toNat)
  case atStart => exact ⟨0, Nat.zero_le _, rfl, by simp⟩
  case round =>
    obtain ⟨j, hj, rfl, rfl⟩ := hrel
    by_cases hlt : j < n
    · obtain rfl := HA.out (by omega)
      have c0 := HZ.out.num (i := j * 2) (by omega)
      rw [show k + ((j * 2 : Nat) : Int) = k + ((2 * j : Nat) : Int) by omega] at c0
      have c1 := HZ.out.num (i := j * 2 + 1) (by omega)
      rw [show k + ((j * 2 + 1 : Nat) : Int) = k + ((2 * j : Nat) : Int) + 1 by omega] at c1
      have hI : (j : Int) < (n : Int) := by omega
      have HL : Hid (j < n) := hlt
      have HK2 : Hid (k + ((2 * j : Nat) : Int) + 1 + 1 = k + ((2 * (j + 1) : Nat) : Int)) := by show _ = _; omega
      have hb0 : 0 ≤ k + ((2 * j : Nat) : Int) := by omega
      have hb1 : k + ((2 * j : Nat) : Int) ≤ 4611686018427387904 := by omega
      generalize k + ((2 * j : Nat) : Int) = kk at *
      clear hlt
      go_wp2_with fail
      go_round
      case rel => exact ⟨j + 1, by have := HL.out; omega, by go_num, by rw [← HK2.out]⟩
      case measure => have := HL.out; simp [intOf]; omega
    · have hI : ¬ (j : Int) < (n : Int) := by omega
      obtain rfl : j = n := by omega
      go_wp2_with fail
      go_ret
      exact ⟨rfl, rfl⟩

theorem rN_split (R : List (Nat × Nat)) (j : Nat) : rN R = rN (R.take j) ++ rN (R.drop j) := by
  rw [rN, rN, rN, ← List.flatMap_append, List.take_append_drop]

set_option maxHeartbeats 2000000 in
theorem hx_rows (a0 : Option Addr) (g n c : Nat) (R : List (Nat × Nat)) (k : Int) (w : World) (h : Hx (rN R) k w) (hR : R.length = n) (ha : 0 < n → a0 = some ⟨g, 0, none⟩)
    (hd : ∀ (i : Nat) (r : Nat × Nat), R[i]? = some r → ∃ a c, w.cell? ⟨g, i, none⟩ = some (.slice a r.2 c) ∧ (0 < r.2 → a = some ⟨r.1, 0, none⟩)) (hs : ∀ r ∈ R, r.2 ≤ 1048576) (hn : n ≤ 1048576) (hk : 0 ≤ k) (hz : k ≤ 2199023255552) :
    Calls Tryz.prog 42 #[.slice a0 n c, .int .i64 k] w fun e w' => e = .returned (.int .i64 (k + (rN R).length)) ∧ w' = w := by
  have HZ : Hid (Hx (rN R) k w) := h
  have HR : Hid (R.length = n) := hR
  have HA : Hid (0 < n → a0 = some ⟨g, 0, none⟩) := ha
  have HD : Hid (∀ (i : Nat) (r : Nat × Nat), R[i]? = some r → ∃ a c, w.cell? ⟨g, i, none⟩ = some (.slice a r.2 c) ∧ (0 < r.2 → a = some ⟨r.1, 0, none⟩)) := hd
  have HS : Hid (∀ r ∈ R, r.2 ≤ 1048576) := hs
  have hn2 : (n : Int) ≤ 1048576 := by omega
  clear h hR ha hd hs
  go_enter Tryz.func42, Tryz.ntmps42
  go_wp2_with fail
  go_loop [1, 5] (fun q i => ∃ (j : Nat) (r : Int), j ≤ n ∧ i = .int .i64 j ∧ q = .int .i64 r ∧ 0 ≤ r ∧ r ≤ k + 1048576 * j ∧ r = k + (rN (R.take j)).length) (fun _ i => n - (intOf i).toNat)
  case atStart => exact ⟨0, k, Nat.zero_le _, rfl, rfl, hk, by omega, by simp [rN]⟩
  case round =>
    obtain ⟨j, r, hj, rfl, rfl, hr0, hr1, hr2⟩ := hrel
    have R0 : Hid (0 ≤ r ∧ r ≤ k + 1048576 * j) := ⟨hr0, hr1⟩
    have R2 : Hid (r = k + (rN (R.take j)).length) := hr2
    by_cases hlt : j < n
    · obtain rfl := HA.out (by omega)
      have hjR : j < R.length := by have := HR.out; omega
      obtain ⟨p, hp⟩ : ∃ p, R[j]? = some p := ⟨_, List.getElem?_eq_getElem hjR⟩
      obtain ⟨a, c, k1, k2⟩ := HD.out j p hp
      have HP : Hid (R[j]? = some p) := hp
      have K3 : Hid (p.2 ≤ 1048576) := HS.out p (List.mem_of_getElem? hp)
      have hx : Hx (cN p.1 p.2) r w := by
        have h1 := HZ.out
        rw [rN_split R (j + 1), rN_succ hp] at h1
        have h2 := h1.left.right
        rw [← hr2] at h2
        exact h2
      obtain ⟨l, hl⟩ : ∃ l, p.2 = l := ⟨_, rfl⟩
      rw [hl] at k1 k2 hx
      have K2 : Hid (0 < l → a = some ⟨p.1, 0, none⟩) := k2
      have HX : Hid (Hx (cN p.1 l) r w) := hx
      have HLL : Hid (p.2 = l) := hl
      have hI : (j : Int) < (n : Int) := by omega
      have HL : Hid (j < n) := hlt
      have hrl : 0 ≤ r + l := by omega
      clear hlt k2 hr1 hr2 hp hjR hx hl
      go_wp2_with (go_at_call 72; refine (hx_nums _ _ _ p.1 _ _ HX.out K2.out R0.out.1 (by have := R0.out.2; have := K3.out; have := HLL.out; have := HL.out; omega)).mono ?_; rintro e w1 ⟨rfl, rfl⟩)
      go_round
      case rel =>
        have hl := HLL.out
        refine ⟨j + 1, r + l, by have := HL.out; omega, by go_num, rfl, by have := R0.out.1; omega, by have := R0.out.2; have := K3.out; omega, ?_⟩
        rw [rN_succ HP.out, List.length_append, cN_len, R2.out, hl]; omega
      case measure => have := HL.out; simp [intOf]; omega
    · have hI : ¬ (j : Int) < (n : Int) := by omega
      obtain rfl : j = n := by omega
      have ht : R.take j = R := by rw [← HR.out]; exact List.take_length
      rw [ht] at R2
      clear hr2
      go_wp2_with fail
      go_ret
      exact ⟨by rw [R2.out]; rfl, rfl⟩

end Go.Proofs.YtcdbhhhihhdghaaGreatDoor
