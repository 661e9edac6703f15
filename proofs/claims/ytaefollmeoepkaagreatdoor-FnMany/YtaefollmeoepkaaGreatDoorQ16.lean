/- Texts of this seat, joined. -/
import Derived.Deep.RegionWith
import Derived.Test.YtaefollmeoepkaaGreatDoorQ03
import Derived.Test.YtaefollmeoepkaaGreatDoorQ15
namespace Go.Proofs.YtaefollmeoepkaaGreatDoor
open Go.RowKit
set_option linter.unusedVariables false
theorem below_drewN {B : Nat} {w w' : World} (h : Below B w w') (nq : Nat) : Below B w (w'.drewN nq) := ⟨h.os, h.tape, h.output, h.size, h.block⟩
theorem lw_val {z q : Int} (hz : 0 ≤ z ∧ z ≤ 255) (hq : 0 ≤ q ∧ q ≤ 100) : 0 ≤ wrap64 (wrap64 z + wrap64 (wrap64 q * 3)) ∧ wrap64 (wrap64 z + wrap64 (wrap64 q * 3)) ≤ 555 := by
  rw [wrap64_id (n := z) (by omega), wrap64_id (n := q) (by omega), wrap64_id (n := q * 3) (by omega), wrap64_id (by omega)]
  omega
theorem lw_val2 {v z : Int} (hv : 0 ≤ v ∧ v ≤ 555) (hz : 0 ≤ z ∧ z ≤ 255) : 0 ≤ wrap64 (wrap64 (v * 251) + wrap64 z) := by
  rw [wrap64_id (n := z) (by omega), wrap64_id (n := v * 251) (by omega), wrap64_id (by omega)]
  omega
theorem quot_in1 {k len : Int} (hk : 0 ≤ k ∧ k ≤ 100) (hl : 1 ≤ len) : 0 ≤ k / len ∧ k / len ≤ 100 :=
  ⟨Int.ediv_nonneg hk.1 (by omega), Int.le_trans (Int.ediv_le_self _ hk.1) hk.2⟩
theorem tm_pair {x n : Int} (hx : 0 ≤ x) (hn : 1 ≤ n) : 0 ≤ x.tmod n ∧ (1 ≤ n → x.tmod n < n) := ⟨(tmod_in hx hn).1, fun _ => (tmod_in hx hn).2⟩
theorem lw_low (a : Option Addr) (len cap : Nat) (i n : Int) (w : World) (hn : n ≤ 1) :
    Calls Tryz.prog 15 #[.slice a len cap, .int .i64 i, .int .i64 n] w fun e w' => ∃ v : Int, e = .returned (.int .i64 v) ∧ (0 ≤ v ∧ (1 ≤ n → v < n)) ∧ ∃ nq : Nat, w' = w.drewN nq := by
  go_enter Tryz.func15, Tryz.ntmps15
  go_wp2
  go_ret
  exact ⟨0, rfl, ⟨by omega, fun h => by omega⟩, 0, rfl⟩
theorem lw_nil (a : Option Addr) (cap : Nat) (k : Nat) (n : Int) (w : World) (hk : k ≤ 100) (hn : ¬ n ≤ 1) :
    Calls Tryz.prog 15 #[.slice a 0 cap, .int .i64 k, .int .i64 n] w fun e w' => ∃ v : Int, e = .returned (.int .i64 v) ∧ (0 ≤ v ∧ (1 ≤ n → v < n)) ∧ ∃ nq : Nat, w' = w.drewN nq := by
  have g2 : ¬ n = 0 := by omega
  go_enter Tryz.func15, Tryz.ntmps15
  go_wp2
  go_ret
  exact ⟨_, rfl, ⟨Int.emod_nonneg _ (by omega), fun _ => Int.emod_lt_of_pos _ (by omega)⟩, 0, rfl⟩
set_option maxHeartbeats 400000 in
theorem lw_row (bx off len cap : Nat) (k : Nat) (n : Int) (w : World) (zs : List Int)
    (hk : k ≤ 100) (hn : ¬ n ≤ 1) (hl : 0 < len) (hl2 : len ≤ maxLen)
    (hc : ∀ i, i < len → w.cell? ⟨bx, off + i, none⟩ = some (.int .u8 (zs.getD i 0)))
    (hz : ∀ i : Nat, 0 ≤ zs[i]?.getD 0 ∧ zs[i]?.getD 0 ≤ 255) :
    Calls Tryz.prog 15 #[.slice (some ⟨bx, off, none⟩) len cap, .int .i64 k, .int .i64 n] w fun e w' => ∃ v : Int, e = .returned (.int .i64 v) ∧ (0 ≤ v ∧ (1 ≤ n → v < n)) ∧ ∃ nq : Nat, w' = w.drewN nq := by
  unfold maxLen at hl2
  have hl3 : (0 : Int) < (len : Int) := by omega
  have hne : ((len : Int) == 0) = false := by simp; omega
  have g1 : ¬ n = 0 := by omega
  have e1 : (0 : Int) ≤ (k : Int) % (len : Int) := Int.emod_nonneg _ (by omega)
  have e2 : (k : Int) % (len : Int) < (len : Int) := Int.emod_lt_of_pos _ hl3
  have e3 : (0 : Int) ≤ ((k : Int) + 1) % (len : Int) := Int.emod_nonneg _ (by omega)
  have e4 : ((k : Int) + 1) % (len : Int) < (len : Int) := Int.emod_lt_of_pos _ hl3
  have hcx := hc (k % len) (Nat.mod_lt _ hl)
  have hcy := hc ((k + 1) % len) (Nat.mod_lt _ hl)
  have HZ : Hid (∀ i : Nat, 0 ≤ zs[i]?.getD 0 ∧ zs[i]?.getD 0 ≤ 255) := hz
  clear hz hc
  by_cases g2 : n ≤ 200
  · have g3 : ¬ 200 < n := by omega
    go_enter Tryz.func15, Tryz.ntmps15
    go_wp2_with fail
    go_quiet (fail)
    go_wp2
    go_ret
    exact ⟨_, rfl, tm_pair (lw_val (HZ.out _) (quot_in1 (by omega) (by omega))).1 (by omega), _, rfl⟩
  · have g3 : 200 < n := by omega
    go_enter Tryz.func15, Tryz.ntmps15
    go_wp2_with fail
    go_quiet (fail)
    go_wp2_with fail
    try go_quiet (fail)
    try go_wp2
    go_ret
    exact ⟨_, rfl, tm_pair (lw_val2 (lw_val (HZ.out _) (quot_in1 (by omega) (by omega))) (HZ.out _)) (by omega), _, rfl⟩
theorem lw_at {w : World} {a : Option Addr} {len cap : Nat} {zs : List Int} (hr : IsRow .u8 w a len cap zs) (k : Nat) (hk : k ≤ 100) (n : Int) :
    Calls Tryz.prog 15 #[.slice a len cap, .int .i64 k, .int .i64 n] w fun e w' => ∃ v : Int, e = .returned (.int .i64 v) ∧ 0 ≤ v ∧ (1 ≤ n → v < n) ∧ Below w.heap.size w w' := by
  have fin : ∀ (e : Ending) (w' : World), (∃ v : Int, e = .returned (.int .i64 v) ∧ (0 ≤ v ∧ (1 ≤ n → v < n)) ∧ ∃ nq : Nat, w' = w.drewN nq) → ∃ v : Int, e = .returned (.int .i64 v) ∧ 0 ≤ v ∧ (1 ≤ n → v < n) ∧ Below w.heap.size w w' := by
    rintro e w' ⟨v, rfl, ⟨h1, h2⟩, nq, rfl⟩
    exact ⟨v, rfl, h1, h2, below_drewN (Below.refl _ _) nq⟩
  by_cases hn : n ≤ 1
  · exact (lw_low a len cap k n w hn).mono fin
  by_cases hl : len = 0
  · subst hl
    exact (lw_nil a cap k n w hk hn).mono fin
  rcases hr with ⟨_, h1, _, _⟩ | ⟨x, rfl, h1, h2, h3, h4, h5⟩
  · exact absurd h1 hl
  · obtain ⟨bx, off, spot⟩ := x
    have hspot : spot = none := by simpa [Addr.add] using World.cell?_spot (h4 0 (by omega))
    subst hspot
    have hz : ∀ i : Nat, 0 ≤ zs[i]?.getD 0 ∧ zs[i]?.getD 0 ≤ 255 := range_u8 h5
    refine (lw_row bx off len cap k n w zs hk hn (by omega) (by omega) (fun i hi => ?_) hz).mono fin
    rw [← add_plain]; exact h4 i (by omega)
set_option maxHeartbeats 1000000 in
theorem lw_numsD (v u : Value) (zs : List Int) (b c : Nat) (w : World) (h : Nums w b v zs) (k : Nums w c u zs) :
    Calls Tryz.prog 16 #[v, u] w fun e w' => e = .returned (.bool true) ∧ ∃ nq, w' = w.drewN nq := by
  obtain ⟨a, cap, rfl, l1, l2, hg⟩ := h.shape
  obtain ⟨a', cap', rfl, m1, m2, hg'⟩ := k.shape
  have HZ : Hid (Nums w b _ zs) := h
  have KZ : Hid (Nums w c _ zs) := k
  have hl : (zs.length : Int) ≤ 9223372036854775807 := by unfold maxLen at l2; omega
  clear h k
  obtain ⟨n, hn⟩ : ∃ n, zs.length = n := ⟨_, rfl⟩
  rw [hn] at HZ KZ hl l1 m1 hg hg' ⊢
  have HN : Hid (zs.length = n) := hn
  clear hn l1 m1 l2 m2
  go_enter Tryz.func16, Tryz.ntmps16
  go_wp2_with fail
  go_loopw [5] (fun i wr => ∃ j : Nat, j ≤ n ∧ i = .int .i64 j ∧ ∃ nq, wr = w.drewN nq) (fun i _ => n - (intOf i).toNat)
  case atStart => exact ⟨0, Nat.zero_le _, rfl, 0, rfl⟩
  case round =>
    obtain ⟨j, hj, rfl, nq, rfl⟩ := hrel
    by_cases hlt : j < n
    · obtain ⟨g, rfl⟩ := hg (by omega)
      obtain ⟨g', rfl⟩ := hg' (by omega)
      have c1 := HZ.out.cell HN.out.symm j hlt
      have c2 := KZ.out.cell HN.out.symm j hlt
      have hI : (j : Int) < (n : Int) := by omega
      have HL : Hid (j < n) := hlt
      clear hlt hg hg'
      go_wp2_with fail
      go_quiet (fail)
      go_wp2_with fail
      go_roundw
      case rel => exact ⟨j + 1, by have := HL.out; omega, by go_num, ⟨_, rfl⟩⟩
      case measure => have := HL.out; simp [intOf]; omega
    · have hI : ¬ (j : Int) < (n : Int) := by omega
      go_wp2_with fail
      go_ret
      exact ⟨rfl, nq, rfl⟩
end Go.Proofs.YtaefollmeoepkaaGreatDoor
