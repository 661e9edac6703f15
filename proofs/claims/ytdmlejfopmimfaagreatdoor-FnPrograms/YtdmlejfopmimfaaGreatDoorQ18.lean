/- Texts of this seat, joined. -/
import Derived.Deep.RegionWith
import Derived.Test.YtdmlejfopmimfaaGreatDoorQ03
import Derived.Test.YtdmlejfopmimfaaGreatDoorQ09
import Derived.Test.YtdmlejfopmimfaaGreatDoorQ12
import Derived.Test.YtdmlejfopmimfaaGreatDoorQ16
namespace Go.Proofs.YtdmlejfopmimfaaGreatDoor
open Go.RowKit

theorem and15 (x : Int) : bits BinOp.and .i64 x 15 = x % 16 := by
  have h1 : (BitVec.ofInt 64 x).toNat = (x % 2 ^ 64).toNat := BitVec.toNat_ofInt ..
  have h2 : (BitVec.ofInt 64 15).toNat = 2 ^ 4 - 1 := by decide
  show IntKind.i64.wrap ((BitVec.ofInt 64 x &&& BitVec.ofInt 64 15).toNat : Int) = _
  rw [BitVec.toNat_and, h1, h2, Nat.and_two_pow_sub_one_eq_mod, IntKind.wrap_i64]
  omega
theorem and65535 (x : Int) : bits BinOp.and .i64 x 65535 = x % 65536 := by
  have h1 : (BitVec.ofInt 64 x).toNat = (x % 2 ^ 64).toNat := BitVec.toNat_ofInt ..
  have h2 : (BitVec.ofInt 64 65535).toNat = 2 ^ 16 - 1 := by decide
  show IntKind.i64.wrap ((BitVec.ofInt 64 x &&& BitVec.ofInt 64 65535).toNat : Int) = _
  rw [BitVec.toNat_and, h1, h2, Nat.and_two_pow_sub_one_eq_mod, IntKind.wrap_i64]
  omega

/-- The fault of the instruction that a number's bits tell. -/
def decF (v : Int) : Int := insC (v / 16777216) (v / 1048576 % 16) (v / 65536 % 16) (v % 65536)
theorem dec_back {v : Int} (h : decF v = 0) : encV (v / 16777216) (v / 1048576 % 16) (v / 65536 % 16) (v % 65536) = v := by
  have h' := h
  unfold decF at h'
  rw [encV, if_pos h']
  omega
/-- What DecodeIns answers. -/
def decV (v : Int) : Value := if decF v = 0 then .agg #[.int .i64 0, .int .i64 (v / 16777216), .int .i64 (v / 1048576 % 16), .int .i64 (v / 65536 % 16), .int .i64 (v % 65536)] else .agg #[.int .i64 5, .int .i64 0, .int .i64 0, .int .i64 0, .int .i64 0]

set_option maxHeartbeats 1000000 in
theorem impl_decode (v : Int) (w : World) :
    Calls Tryz.prog 39 #[.int .i64 v] w fun e w' => e = .returned (decV v) ∧ Below w.heap.size w w' := by
  have he := fun w => impl_encode (v / 16777216) (v / 1048576 % 16) (v / 65536 % 16) (v % 65536) w
  by_cases h : decF v = 0
  · rw [decV, if_pos h]
    rw [show insC (v / 16777216) (v / 1048576 % 16) (v / 65536 % 16) (v % 65536) = 0 from h, dec_back h] at he
    clear h
    rw [← and15 (v / 1048576), ← and15 (v / 65536), ← and65535 v] at *
    go_enter Tryz.func39, Tryz.ntmps39
    go_wp2_with (go_at_call 52; refine (he _).mono ?_; rintro e w1 ⟨rfl, hb⟩; obtain ⟨hc, hz⟩ := bcell hb)
    have k0 := cell_keep hb (cell_push _ (cell_new (i := 0) rfl))
    have k1 := cell_keep hb (cell_push _ (cell_new (i := 1) rfl))
    have k2 := cell_keep hb (cell_push _ (cell_new (i := 2) rfl))
    have k3 := cell_keep hb (cell_push _ (cell_new (i := 3) rfl))
    have k4 := cell_keep hb (cell_push _ (cell_new (i := 4) rfl))
    clear hc hz
    exact bodyPost_ret (v := .agg #[.int .i64 0, .int .i64 (v / 16777216), .int .i64 (bits BinOp.and .i64 (v / 1048576) 15), .int .i64 (bits BinOp.and .i64 (v / 65536) 15), .int .i64 (bits BinOp.and .i64 v 65535)]) (by simp [results, Tryz.results39, go_sem, k0, k1, k2, k3, k4]) rfl ⟨rfl, ((((((((Below.refl _ _).alloc (Nat.le_refl _) _).alloc (by simp) _).trans (hb.mono (by simp; omega))).setCell (by simp) _).setCell (by simp) _).setCell (by simp) _).setCell (by simp) _).setCell (by simp) _⟩
  · rw [decV, if_neg h]
    have g : (decF v == 0) = false := beq_eq_false_iff_ne.2 h
    rw [show insC (v / 16777216) (v / 1048576 % 16) (v / 65536 % 16) (v % 65536) = decF v from rfl] at he
    clear h
    rw [← and15 (v / 1048576), ← and15 (v / 65536), ← and65535 v] at he
    generalize decF v = c at *
    go_enter Tryz.func39, Tryz.ntmps39
    go_wp2_with (go_at_call 52; refine (he _).mono ?_; rintro e w1 ⟨rfl, hb⟩; obtain ⟨hc, hz⟩ := bcell hb)
    have k0 := cell_keep hb (cell_push _ (cell_new (i := 0) rfl))
    have k1 := cell_keep hb (cell_push _ (cell_new (i := 1) rfl))
    have k2 := cell_keep hb (cell_push _ (cell_new (i := 2) rfl))
    have k3 := cell_keep hb (cell_push _ (cell_new (i := 3) rfl))
    have k4 := cell_keep hb (cell_push _ (cell_new (i := 4) rfl))
    clear hc hz
    exact bodyPost_ret (v := .agg #[.int .i64 5, .int .i64 0, .int .i64 0, .int .i64 0, .int .i64 0]) (by simp [results, Tryz.results39, go_sem, k0, k1, k2, k3, k4]) rfl ⟨rfl, ((((((((Below.refl _ _).alloc (Nat.le_refl _) _).alloc (by simp) _).trans (hb.mono (by simp; omega))).setCell (by simp) _).setCell (by simp) _).setCell (by simp) _).setCell (by simp) _).setCell (by simp) _⟩

set_option maxHeartbeats 1000000 in
theorem spec_l2Decode (v : Int) (w : World) :
    Calls Tryz.prog 31 #[.int .i64 v] w fun e w' => (e = .returned (if 0 ≤ v ∧ v ≤ 4294967295 then .tuple #[.agg #[.int .i64 (v / 16777216), .int .i64 (bits BinOp.and .i64 (v / 1048576) 15), .int .i64 (bits BinOp.and .i64 (v / 65536) 15), .int .i64 (bits BinOp.and .i64 v 65535)], .bool (decF v == 0)] else .tuple #[.agg #[.int .i64 0, .int .i64 0, .int .i64 0, .int .i64 0], .bool false])) ∧ Below w.heap.size w w' := by
  by_cases h : 0 ≤ v ∧ v ≤ 4294967295
  · rw [if_pos h]
    have i : inB v 0 4294967295 = true := inB_true h
    have he := fun w => spec_insFault (v / 16777216) (v / 1048576 % 16) (v / 65536 % 16) (v % 65536) w
    rw [show insC (v / 16777216) (v / 1048576 % 16) (v / 65536 % 16) (v % 65536) = decF v from rfl] at he
    clear h
    rw [← and15 (v / 1048576), ← and15 (v / 65536), ← and65535 v] at he
    generalize decF v = c at *
    go_enter Tryz.func31, Tryz.ntmps31
    go_wp2_with (go_at_call 61; refine (spec_inI _ _ _ _).mono ?_; rintro e w1 ⟨rfl, rfl⟩)
    go_region_with (go_at_call 62; refine (he _).mono ?_; rintro e w1 ⟨rfl, hb⟩; obtain ⟨hc, hz⟩ := bcell hb)
    all_goals go_wp2
    all_goals have k0 : w1.cell? ⟨w.heap.size, 0, none⟩ = some (.int .i64 0) := by rw [hc _ _ (by simp; omega)]; simp
    all_goals have k1 : w1.cell? ⟨w.heap.size, 1, none⟩ = some (.int .i64 0) := by rw [hc _ _ (by simp; omega)]; simp
    all_goals have k2 : w1.cell? ⟨w.heap.size, 2, none⟩ = some (.int .i64 0) := by rw [hc _ _ (by simp; omega)]; simp
    all_goals have k3 : w1.cell? ⟨w.heap.size, 3, none⟩ = some (.int .i64 0) := by rw [hc _ _ (by simp; omega)]; simp
    all_goals clear hc hz
    all_goals exact bodyPost_ret (v := .tuple #[.agg #[.int .i64 (v / 16777216), .int .i64 (bits BinOp.and .i64 (v / 1048576) 15), .int .i64 (bits BinOp.and .i64 (v / 65536) 15), .int .i64 (bits BinOp.and .i64 v 65535)], .bool (c == 0)]) (by simp [results, Tryz.results31, go_sem, k0, k1, k2, k3]) rfl ⟨rfl, (((((((Below.refl _ _).alloc (Nat.le_refl _) _).alloc (by simp) _).drew.trans (hb.mono (by simp; omega))).setCell (by simp) _).setCell (by simp) _).setCell (by simp) _).setCell (by simp) _⟩
  · rw [if_neg h]
    have i : inB v 0 4294967295 = false := inB_false h
    clear h
    go_enter Tryz.func31, Tryz.ntmps31
    go_wp2_with (go_at_call 61; refine (spec_inI _ _ _ _).mono ?_; rintro e w1 ⟨rfl, rfl⟩)
    exact bodyPost_ret (v := .tuple #[.agg #[.int .i64 0, .int .i64 0, .int .i64 0, .int .i64 0], .bool false]) (by simp [results, Tryz.results31, go_sem]) rfl ⟨rfl, (Below.refl _ _).alloc (Nat.le_refl _) _⟩

end Go.Proofs.YtdmlejfopmimfaaGreatDoor
namespace Go.Proofs.YtdmlejfopmimfaaGreatDoor
open Go.RowKit

def decB (n : Nat) : ByteArray := ⟨(Lib.decDigits n).toArray⟩
/-- A field that is told stands behind a blank. -/
def told (s : ByteArray) (bare : Bool) (t : ByteArray) : ByteArray := if bare then s else s ++ ⟨#[32]⟩ ++ t
/-- The text of an instruction without a fault. -/
def insT (k d a i : Nat) : ByteArray := told (told (told (nm k) (bareD k) (decB d)) (bareA k) (decB a)) (bareI k) (decB i)
theorem nm_len (k : Nat) (h : k < 27) : (nm k).size ≤ 5 := by
  match k, h with
  | 0, _ => exact (by decide)
  | 1, _ => exact (by decide)
  | 2, _ => exact (by decide)
  | 3, _ => exact (by decide)
  | 4, _ => exact (by decide)
  | 5, _ => exact (by decide)
  | 6, _ => exact (by decide)
  | 7, _ => exact (by decide)
  | 8, _ => exact (by decide)
  | 9, _ => exact (by decide)
  | 10, _ => exact (by decide)
  | 11, _ => exact (by decide)
  | 12, _ => exact (by decide)
  | 13, _ => exact (by decide)
  | 14, _ => exact (by decide)
  | 15, _ => exact (by decide)
  | 16, _ => exact (by decide)
  | 17, _ => exact (by decide)
  | 18, _ => exact (by decide)
  | 19, _ => exact (by decide)
  | 20, _ => exact (by decide)
  | 21, _ => exact (by decide)
  | 22, _ => exact (by decide)
  | 23, _ => exact (by decide)
  | 24, _ => exact (by decide)
  | 25, _ => exact (by decide)
  | 26, _ => exact (by decide)
  | k + 27, h => exact absurd h (by omega)
theorem decB_len (n : Nat) (h : n < 100000) : (decB n).size ≤ 5 := by
  unfold decB
  rw [size_mk]
  exact dec_len n 4 (by omega)
theorem bare_cases (op : Int) : (bareD op = false ∧ bareA op = false ∧ bareI op = false) ∨ (bareD op = false ∧ bareA op = true ∧ bareI op = false) ∨ (bareD op = true ∧ bareA op = false ∧ bareI op = false) ∨ (bareD op = true ∧ bareA op = true ∧ bareI op = true) := by
  simp only [bareD, bareA, bareI, decide_eq_true_eq, decide_eq_false_iff_not]
  omega

end Go.Proofs.YtdmlejfopmimfaaGreatDoor
