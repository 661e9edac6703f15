/- A new memory, by program and model. -/
import Derived.Test.YtnbibgmcjdpgmaaJoin
import Derived.Test.YtnbibgmcjdpgmaaMemr
namespace Go.Proofs.Ytnbibgmcjdpgmaa
open Go.RowKit
set_option linter.unusedVariables false

def newC (p : Int) : Int := if 1 ≤ p ∧ p ≤ 24 then 0 else 3
def newZ (p : Int) : List Int := if 1 ≤ p ∧ p ≤ 24 then List.replicate (p.toNat * 8) 0 else []

theorem newZ_len (p : Int) : (newZ p).length ≤ 192 := by
  unfold newZ
  split
  · simp; omega
  · simp

theorem made_replicate (z : Value) (k m : Nat) (hk : 0 < k) : (madeCells (Array.replicate k z) m).toList = List.replicate m z := by
  apply List.ext_getElem?
  intro j
  by_cases hj : j < m
  · have : j % k < k := Nat.mod_lt _ hk
    simp [madeCells, hj, this]
  · simp [madeCells, hj]

theorem info_wpage : (Try.prog.info? 118).map (fun i => (i.zero, i.size, i.bytes)) = some (some (.agg (Array.replicate 8 (.int .i64 0))), 8, 64) := by kernel_rfl

set_option maxHeartbeats 1000000 in
theorem spec_new (p : Int) (w : World) : Calls Try.prog 80 #[.int .i64 p] w fun e w' => ∃ v, e = .returned (.agg #[.int .i64 (newC p), v]) ∧ Nums w' w.heap.size v (newZ p) ∧ Below w.heap.size w w' := by
  obtain ⟨i, hi, hz0, hz1, hz2⟩ := info_parts info_i64
  by_cases h : (decide (1 ≤ p) && decide (p ≤ 24)) = true
  · obtain ⟨h1, h2⟩ : 1 ≤ p ∧ p ≤ 24 := by simpa using h
    have e1 : newC p = 0 := by simp [newC, h1, h2]
    have e2 : newZ p = List.replicate (p.toNat * 8) 0 := by simp [newZ, h1, h2]
    rw [e1, e2]
    clear e1 e2
    obtain ⟨k, rfl⟩ : ∃ k : Nat, p = k := ⟨p.toNat, by omega⟩
    rw [Int.toNat_natCast]
    have hK : Hid (k ≤ 24) := by show _ ≤ _; omega
    go_enter Try.func80, Try.ntmps80
    go_wp2_with (first
      | (go_at_call 64; refine (spec_in _ _ _ _).mono ?_; rintro e x ⟨rfl, rfl⟩; rw [h])
      | (at_make; refine wpList_make_full _ rfl _ _ 24 rfl w.heap.size 2 i _ 1 Try.underlying24 hi hz0 hz1 _ _ _ _ (k * 8) rfl rfl (by omega) (by omega) (by have := hK.out; rw [hz2]; omega) (by have := hK.out; unfold maxLen; omega) (by simp) ?_; intro w1 hown hgrow; have b1 := (Below.refl _ _).grown hgrow (Nat.le_refl _) (by simp); obtain ⟨c1, z1⟩ := bcell b1))
    rw [World.size_alloc] at hown
    have N1 : Hid (Nums w1 w.heap.size (.slice (some ⟨w.heap.size + 1, 0, none⟩) (k * 8) (k * 8)) (List.replicate (k * 8) 0)) := Nums.made hown (by rw [Nat.mul_one, show (Value.int .i64 0).cells = #[.int .i64 0] from rfl, toList_madeCells_one]; simp)
    have B1 : Hid (Below w.heap.size w w1) := on (al (Below.refl _ _) _) b1
    have k0 : w1.cell? ⟨w.heap.size, 0, none⟩ = some (.int .i64 0) := cell_keep b1 (cell_new rfl)
    have k1 : w1.cell? ⟨w.heap.size, 1, none⟩ = some (.slice none 0 0) := cell_keep b1 (cell_new rfl)
    exact bodyPost_ret (v := .agg #[.int .i64 0, .slice (some ⟨w.heap.size + 1, 0, none⟩) (k * 8) (k * 8)]) (by simp [results, Try.results80, go_sem, k0, k1]) rfl
      ⟨_, rfl, (N1.out.put _ _ (by simp [Value.ownBlock])).put _ _ (by simp [Value.ownBlock]), (B1.out.setCell (by simp) _).setCell (by simp) _⟩
  · rw [Bool.not_eq_true] at h
    have hn : ¬ (1 ≤ p ∧ p ≤ 24) := by simp at h; omega
    have e1 : newC p = 3 := by simp only [newC, if_neg hn]
    have e2 : newZ p = [] := by simp only [newZ, if_neg hn]
    rw [e1, e2]
    clear e1 e2 hn
    go_enter Try.func80, Try.ntmps80
    go_wp2_with (go_at_call 64; refine (spec_in _ _ _ _).mono ?_; rintro e x ⟨rfl, rfl⟩; rw [h])
    exact bodyPost_ret (v := .agg #[.int .i64 3, .slice none 0 0]) (by simp [results, Try.results80, go_sem]) rfl ⟨_, rfl, Nums.nil _ _, al (Below.refl _ _) _⟩
end Go.Proofs.Ytnbibgmcjdpgmaa
