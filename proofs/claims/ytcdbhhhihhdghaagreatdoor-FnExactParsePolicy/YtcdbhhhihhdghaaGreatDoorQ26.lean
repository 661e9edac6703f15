/- Texts of this seat, joined. -/
import Derived.Test.YtcdbhhhihhdghaaGreatDoorQ24
namespace Go.Proofs.YtcdbhhhihhdghaaGreatDoor
open Go.RowKit
set_option linter.unusedVariables false

theorem cN_pos {g n : Nat} {x : Addr × Bool} (h : x ∈ cN g n) : 0 < n := by
  simp only [cN, List.mem_map, List.mem_range] at h; obtain ⟨j, hj, _⟩ := h; omega
/-- The cells of rows: of each its block and its length. -/
def rN (R : List (Nat × Nat)) : List (Addr × Bool) := R.flatMap fun r => cN r.1 r.2
theorem rN_mem {R : List (Nat × Nat)} {x : Addr × Bool} (h : x ∈ rN R) : ∃ r ∈ R, 0 < r.2 ∧ x.1.block = r.1 := by
  simp only [rN, List.mem_flatMap] at h
  obtain ⟨r, hr, hx⟩ := h
  exact ⟨r, hr, cN_pos hx, cN_block hx⟩
theorem rN_succ {R : List (Nat × Nat)} {j : Nat} {r : Nat × Nat} (h : R[j]? = some r) : rN (R.take (j + 1)) = rN (R.take j) ++ cN r.1 r.2 := by
  simp [rN, List.take_add_one, h]
theorem rN_len {R : List (Nat × Nat)} (hs : ∀ r ∈ R, r.2 ≤ 1048576) : (rN R).length ≤ 1048576 * R.length := by
  induction R with
  | nil => simp [rN]
  | cons r R ih =>
    have h1 := hs r (by simp)
    have h2 := ih fun r hr => hs r (by simp [hr])
    have : (rN (r :: R)).length = r.2 + (rN R).length := by simp [rN, cN_len]
    simp only [List.length_cons]
    omega
/-- Rows of numbers that may be marked: their heads lie in the block g, each row in a block of its own. -/
structure Rg (w : World) (g : Nat) (R : List (Nat × Nat)) : Prop where
  row : ∀ (i : Nat) (r : Nat × Nat), R[i]? = some r → ∃ a c, w.cell? ⟨g, i, none⟩ = some (.slice a r.2 c) ∧ Mg w r.1 1 a r.2
  small : ∀ r ∈ R, r.2 ≤ 1048576
  apart : R.Pairwise fun r s => 0 < r.2 → 0 < s.2 → r.1 ≠ s.1
  off : ∀ r ∈ R, 0 < r.2 → r.1 ≠ g
theorem Rg.mx {w w' : World} {g : Nat} {R : List (Nat × Nat)} {L : List (Addr × Bool)} {k : Int} (h : Rg w g R) (m : Mx L k w w') (hg : ∀ x ∈ L, x.1.block ≠ g) (hr : ∀ r ∈ R, 0 < r.2 → ∀ x ∈ L, x.1.block ≠ r.1) : Rg w' g R := by
  refine ⟨fun i r e => ?_, h.small, h.apart, h.off⟩
  obtain ⟨a, c, k1, k2⟩ := h.row i r e
  exact ⟨a, c, m.out _ _ k1 fun x hx e2 => hg x hx (by rw [e2]), k2.mx m fun h0 => hr r (List.mem_of_getElem? e) h0⟩
theorem Rg.next {w wr : World} {g j : Nat} {R : List (Nat × Nat)} {r : Nat × Nat} {k : Int} (h : Rg w g R) (m : Mx (rN (R.take j)) k w wr) (e : R[j]? = some r) :
    (∃ a c, wr.cell? ⟨g, j, none⟩ = some (.slice a r.2 c) ∧ Mg wr r.1 1 a r.2) ∧ ∀ x ∈ rN (R.take j), ∀ y ∈ cN r.1 r.2, x.1 ≠ y.1 := by
  obtain ⟨a, c, k1, k2⟩ := h.row j r e
  have hd : 0 < r.2 → ∀ x ∈ rN (R.take j), x.1.block ≠ r.1 := by
    intro h0 x hx
    obtain ⟨s, hs, hp, hb⟩ := rN_mem hx
    obtain ⟨i, hi, rfl⟩ := List.mem_take_iff_getElem.1 hs
    obtain ⟨hj, rfl⟩ := List.getElem?_eq_some_iff.1 e
    rw [hb]
    exact List.pairwise_iff_getElem.1 h.apart i j (by omega) hj (by omega) hp h0
  refine ⟨⟨a, c, m.out _ _ k1 fun x hx e2 => ?_, k2.mx m hd⟩, fun x hx y hy e2 => ?_⟩
  · obtain ⟨s, hs, hp, hb⟩ := rN_mem hx
    exact h.off s (List.mem_of_mem_take hs) hp (by rw [← hb, e2])
  · exact hd (cN_pos hy) x hx (by rw [e2, cN_block hy])

set_option maxHeartbeats 2000000 in
theorem mx_rows (a0 : Option Addr) (g n c : Nat) (R : List (Nat × Nat)) (k : Int) (w : World) (h : Rg w g R) (hR : R.length = n) (ha : 0 < n → a0 = some ⟨g, 0, none⟩) (hn : n ≤ 1048576) (hk : 0 ≤ k) (hz : k ≤ 2199023255552) :
    Calls Tryz.prog 38 #[.slice a0 n c, .int .i64 k] w fun e w' => e = .returned (.int .i64 (k + (rN R).length)) ∧ Mx (rN R) k w w' := by
  have HZ : Hid (Rg w g R) := h
  have HR : Hid (R.length = n) := hR
  have HA : Hid (0 < n → a0 = some ⟨g, 0, none⟩) := ha
  have hn2 : (n : Int) ≤ 1048576 := by omega
  clear h hR ha
  go_enter Tryz.func38, Tryz.ntmps38
  go_wp2_with fail
  go_loopw [1, 5] (fun q i wr => ∃ (j : Nat) (r : Int), j ≤ n ∧ i = .int .i64 j ∧ q = .int .i64 r ∧ 0 ≤ r ∧ r ≤ k + 1048576 * j ∧ r = k + (rN (R.take j)).length ∧ Mx (rN (R.take j)) k w wr) (fun _ i _ => n - (intOf i).toNat)
  case atStart => exact ⟨0, k, Nat.zero_le _, rfl, rfl, hk, by omega, by simp [rN], by simp only [List.take_zero]; exact Mx.refl _ _⟩
  case round =>
    obtain ⟨j, r, hj, rfl, rfl, hr0, hr1, hr2, hM⟩ := hrel
    have M0 : Hid (Mx (rN (R.take j)) k w wr) := hM
    have R0 : Hid (0 ≤ r ∧ r ≤ k + 1048576 * j) := ⟨hr0, hr1⟩
    have R2 : Hid (r = k + (rN (R.take j)).length) := hr2
    by_cases hlt : j < n
    · obtain rfl := HA.out (by omega)
      have hjR : j < R.length := by have := HR.out; omega
      obtain ⟨p, hp⟩ : ∃ p, R[j]? = some p := ⟨_, List.getElem?_eq_getElem hjR⟩
      obtain ⟨⟨a, c, k1, k2⟩, k4⟩ := HZ.out.next hM hp
      have HP : Hid (R[j]? = some p) := hp
      have K2 : Hid (Mg wr p.1 1 a p.2) := k2
      have K3 : Hid (p.2 ≤ 1048576) := HZ.out.small p (List.mem_of_getElem? hp)
      have K4 : Hid (∀ x ∈ rN (R.take j), ∀ y ∈ cN p.1 p.2, x.1 ≠ y.1) := k4
      have hI : (j : Int) < (n : Int) := by omega
      have HL : Hid (j < n) := hlt
      clear hM hlt k2 hr1 hr2 k4 hp hjR
      obtain ⟨l, hl⟩ : ∃ l, p.2 = l := ⟨_, rfl⟩
      rw [hl] at k1
      have HLL : Hid (p.2 = l) := hl
      clear hl
      go_wp2_with (go_at_call 71; refine (mx_nums _ _ _ p.1 _ _ (by rw [← HLL.out]; exact K2.out) R0.out.1 (by have := R0.out.2; have := K3.out; have := HLL.out; have := HL.out; omega)).mono ?_; rintro e w1 ⟨rfl, m1⟩; have M1 : Hid (Mx (cN p.1 l) r wr w1) := m1; clear m1)
      go_roundw
      case rel =>
        have hl := HLL.out
        refine ⟨j + 1, r + l, by have := HL.out; omega, by go_num, rfl, by have := R0.out.1; omega, by have := R0.out.2; have := K3.out; omega, ?_, ?_⟩
        · rw [rN_succ HP.out, List.length_append, cN_len, R2.out, hl]; omega
        · rw [rN_succ HP.out]
          refine M0.out.trans ?_ K4.out
          rw [← R2.out, hl]; exact M1.out
      case measure => have := HL.out; simp [intOf]; omega
    · have hI : ¬ (j : Int) < (n : Int) := by omega
      obtain rfl : j = n := by omega
      have ht : R.take j = R := by rw [← HR.out]; exact List.take_length
      rw [ht] at M0 R2
      clear hM hr2
      go_wp2_with fail
      go_ret
      exact ⟨by rw [R2.out]; rfl, M0.out⟩

end Go.Proofs.YtcdbhhhihhdghaaGreatDoor
