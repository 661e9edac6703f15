/- Chapter 2's words read back. -/
import Derived.Test.YtdogabmehjbphaaDoorIsd
import Derived.Test.YtdogabmehjbphaaDoorCells
import Derived.Deep.RegionWith
namespace Go.Proofs.YtdogabmehjbphaaDoor
open Go.RowKit

theorem and15 (x : Int) : bits BinOp.and .i64 x 15 = x % 16 := by
  have h1 : (BitVec.ofInt 64 x).toNat = (x % 2 ^ 64).toNat := BitVec.toNat_ofInt ..
  have h2 : (BitVec.ofInt 64 15).toNat = 2 ^ 4 - 1 := by decide
  show IntKind.i64.wrap ((BitVec.ofInt 64 x &&& BitVec.ofInt 64 15).toNat : Int) = _
  rw [BitVec.toNat_and, h1, h2, Nat.and_two_pow_sub_one_eq_mod, IntKind.wrap_i64]
  omega
theorem and65535 (x : Int) : bits BinOp.and .i64 x 65535 = x % 65536 := by
  have h1 : (BitVec.ofInt 64 x).toNat = (x % 2 ^ 64).toNat := BitVec.toNat_ofInt ..
  have h2 : (BitVec.ofInt 64 65535).toNat = 2 ^ 16 - 1 := by decide
  show IntKind.i64.wrap ((BitVec.ofInt 64 x &&& BitVec.ofInt 64 65535).toNat : Int) = _
  rw [BitVec.toNat_and, h1, h2, Nat.and_two_pow_sub_one_eq_mod, IntKind.wrap_i64]
  omega

/-- The fault of the instruction that a number's bits tell. -/
def decF (v : Int) : Int := insC (v / 16777216) (v / 1048576 % 16) (v / 65536 % 16) (v % 65536)
theorem dec_back {v : Int} (h : decF v = 0) : encV (v / 16777216) (v / 1048576 % 16) (v / 65536 % 16) (v % 65536) = v := by
  have h' := h
  unfold decF at h'
  rw [encV, if_pos h']
  omega
theorem dec_in {v : Int} (h : decF v = 0) : 0 ≤ v ∧ v ≤ 4294967295 := by
  have := insC_bounds h
  omega
/-- What DecodeIns answers. -/
def decV (v : Int) : Value := if decF v = 0 then .agg #[.int .i64 0, .int .i64 (v / 16777216), .int .i64 (v / 1048576 % 16), .int .i64 (v / 65536 % 16), .int .i64 (v % 65536)] else .agg #[.int .i64 5, .int .i64 0, .int .i64 0, .int .i64 0, .int .i64 0]

set_option maxHeartbeats 1000000 in
theorem impl_decode (v : Int) (w : World) :
    Calls Tryd.prog 25 #[.int .i64 v] w fun e w' => e = .returned (decV v) ∧ Below w.heap.size w w' := by
  have he := fun w => impl_encode (v / 16777216) (v / 1048576 % 16) (v / 65536 % 16) (v % 65536) w
  by_cases h : decF v = 0
  · rw [decV, if_pos h]
    rw [show insC (v / 16777216) (v / 1048576 % 16) (v / 65536 % 16) (v % 65536) = 0 from h, dec_back h] at he
    clear h
    rw [← and15 (v / 1048576), ← and15 (v / 65536), ← and65535 v] at *
    go_enter Tryd.func25, Tryd.ntmps25
    go_wp2_with (go_at_call 30; refine (he _).mono ?_; rintro e w1 ⟨rfl, hb⟩; obtain ⟨hc, hz⟩ := bcell hb)
    have k0 := cell_keep hb (cell_push _ (cell_new (i := 0) rfl))
    have k1 := cell_keep hb (cell_push _ (cell_new (i := 1) rfl))
    have k2 := cell_keep hb (cell_push _ (cell_new (i := 2) rfl))
    have k3 := cell_keep hb (cell_push _ (cell_new (i := 3) rfl))
    have k4 := cell_keep hb (cell_push _ (cell_new (i := 4) rfl))
    clear hc hz
    exact bodyPost_ret (v := .agg #[.int .i64 0, .int .i64 (v / 16777216), .int .i64 (bits BinOp.and .i64 (v / 1048576) 15), .int .i64 (bits BinOp.and .i64 (v / 65536) 15), .int .i64 (bits BinOp.and .i64 v 65535)]) (by simp [results, Tryd.results25, go_sem, k0, k1, k2, k3, k4]) rfl ⟨rfl, ((((((((Below.refl _ _).alloc (Nat.le_refl _) _).alloc (by simp) _).trans (hb.mono (by simp; omega))).setCell (by simp) _).setCell (by simp) _).setCell (by simp) _).setCell (by simp) _).setCell (by simp) _⟩
  · rw [decV, if_neg h]
    have g : (decF v == 0) = false := beq_eq_false_iff_ne.2 h
    rw [show insC (v / 16777216) (v / 1048576 % 16) (v / 65536 % 16) (v % 65536) = decF v from rfl] at he
    clear h
    rw [← and15 (v / 1048576), ← and15 (v / 65536), ← and65535 v] at he
    generalize decF v = c at *
    go_enter Tryd.func25, Tryd.ntmps25
    go_wp2_with (go_at_call 30; refine (he _).mono ?_; rintro e w1 ⟨rfl, hb⟩; obtain ⟨hc, hz⟩ := bcell hb)
    have k0 := cell_keep hb (cell_push _ (cell_new (i := 0) rfl))
    have k1 := cell_keep hb (cell_push _ (cell_new (i := 1) rfl))
    have k2 := cell_keep hb (cell_push _ (cell_new (i := 2) rfl))
    have k3 := cell_keep hb (cell_push _ (cell_new (i := 3) rfl))
    have k4 := cell_keep hb (cell_push _ (cell_new (i := 4) rfl))
    clear hc hz
    exact bodyPost_ret (v := .agg #[.int .i64 5, .int .i64 0, .int .i64 0, .int .i64 0, .int .i64 0]) (by simp [results, Tryd.results25, go_sem, k0, k1, k2, k3, k4]) rfl ⟨rfl, ((((((((Below.refl _ _).alloc (Nat.le_refl _) _).alloc (by simp) _).trans (hb.mono (by simp; omega))).setCell (by simp) _).setCell (by simp) _).setCell (by simp) _).setCell (by simp) _).setCell (by simp) _⟩

set_option maxHeartbeats 1000000 in
theorem spec_l2Decode (v : Int) (w : World) :
    Calls Tryd.prog 10 #[.int .i64 v] w fun e w' => (e = .returned (if 0 ≤ v ∧ v ≤ 4294967295 then .tuple #[.agg #[.int .i64 (v / 16777216), .int .i64 (bits BinOp.and .i64 (v / 1048576) 15), .int .i64 (bits BinOp.and .i64 (v / 65536) 15), .int .i64 (bits BinOp.and .i64 v 65535)], .bool (decF v == 0)] else .tuple #[.agg #[.int .i64 0, .int .i64 0, .int .i64 0, .int .i64 0], .bool false])) ∧ Below w.heap.size w w' := by
  by_cases h : 0 ≤ v ∧ v ≤ 4294967295
  · rw [if_pos h]
    have i : inB v 0 4294967295 = true := inB_true h
    have he := fun w => spec_insFault (v / 16777216) (v / 1048576 % 16) (v / 65536 % 16) (v % 65536) w
    rw [show insC (v / 16777216) (v / 1048576 % 16) (v / 65536 % 16) (v % 65536) = decF v from rfl] at he
    clear h
    rw [← and15 (v / 1048576), ← and15 (v / 65536), ← and65535 v] at he
    generalize decF v = c at *
    go_enter Tryd.func10, Tryd.ntmps10
    go_wp2_with (go_at_call 18; refine (spec_inI _ _ _ _).mono ?_; rintro e w1 ⟨rfl, rfl⟩)
    go_region_with (go_at_call 19; refine (he _).mono ?_; rintro e w1 ⟨rfl, hb⟩; obtain ⟨hc, hz⟩ := bcell hb)
    all_goals go_wp2
    all_goals have k0 : w1.cell? ⟨w.heap.size, 0, none⟩ = some (.int .i64 0) := by rw [hc _ _ (by simp; omega)]; simp
    all_goals have k1 : w1.cell? ⟨w.heap.size, 1, none⟩ = some (.int .i64 0) := by rw [hc _ _ (by simp; omega)]; simp
    all_goals have k2 : w1.cell? ⟨w.heap.size, 2, none⟩ = some (.int .i64 0) := by rw [hc _ _ (by simp; omega)]; simp
    all_goals have k3 : w1.cell? ⟨w.heap.size, 3, none⟩ = some (.int .i64 0) := by rw [hc _ _ (by simp; omega)]; simp
    all_goals clear hc hz
    all_goals exact bodyPost_ret (v := .tuple #[.agg #[.int .i64 (v / 16777216), .int .i64 (bits BinOp.and .i64 (v / 1048576) 15), .int .i64 (bits BinOp.and .i64 (v / 65536) 15), .int .i64 (bits BinOp.and .i64 v 65535)], .bool (c == 0)]) (by simp [results, Tryd.results10, go_sem, k0, k1, k2, k3]) rfl ⟨rfl, (((((((Below.refl _ _).alloc (Nat.le_refl _) _).alloc (by simp) _).drew.trans (hb.mono (by simp; omega))).setCell (by simp) _).setCell (by simp) _).setCell (by simp) _).setCell (by simp) _⟩
  · rw [if_neg h]
    have i : inB v 0 4294967295 = false := inB_false h
    clear h
    go_enter Tryd.func10, Tryd.ntmps10
    go_wp2_with (go_at_call 18; refine (spec_inI _ _ _ _).mono ?_; rintro e w1 ⟨rfl, rfl⟩)
    exact bodyPost_ret (v := .tuple #[.agg #[.int .i64 0, .int .i64 0, .int .i64 0, .int .i64 0], .bool false]) (by simp [results, Tryd.results10, go_sem]) rfl ⟨rfl, (Below.refl _ _).alloc (Nat.le_refl _) _⟩

end Go.Proofs.YtdogabmehjbphaaDoor
