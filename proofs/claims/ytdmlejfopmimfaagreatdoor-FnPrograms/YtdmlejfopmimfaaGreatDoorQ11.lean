/- Texts of this seat, joined. -/
import Derived.Test.YtdmlejfopmimfaaGreatDoorQ07
namespace Go.Proofs.YtdmlejfopmimfaaGreatDoor
open Go.RowKit

theorem source_any {w : World} {a : Option Addr} {len cap : Nat} {zs : List Int} (hr : IsRow .u8 w a len cap zs) :
    Calls Tryz.prog 12 #[.slice a len cap] w fun e w' => e = .returned (.pointer (some ⟨w.heap.size, 0, none⟩)) ∧ Below w.heap.size w w' ∧ Src w' w.heap.size 0 a len cap zs := by
  have HR : Hid (IsRow .u8 w a len cap zs) := hr
  clear hr
  go_enter Tryz.func12, Tryz.ntmps12
  go_wp2
  go_ret
  refine ⟨rfl, (Below.refl _ _).alloc (Nat.le_refl _) _, cell_new rfl, cell_new rfl, ?_, HR.out.turn (Turn.alloc w.heap.size w _) HR.out.block (Nat.le_refl _), HR.out.block, by simp⟩
  simp [go_sem]

def isWord (v : Int) : Prop := 0 ≤ v ∧ v ≤ 4294967295
def isWide (v : Int) : Prop := -9223372036854775808 ≤ v ∧ v ≤ 9223372036854775807

set_option maxHeartbeats 400000 in
theorem word_any {w : World} {b k : Nat} {a : Option Addr} {len cap : Nat} {zs : List Int} (s : Src w b k a len cap zs) (hk : k ≤ 90000) :
    Calls Tryz.prog 36 #[.pointer (some ⟨b, 0, none⟩)] w fun e w' => ∃ v : Int, e = .returned (.int .i64 v) ∧ isWord v ∧ Turn b w w' ∧ Src w' b (k + 5) a len cap zs := by
  go_enter Tryz.func36, Tryz.ntmps36
  go_wp2_with fail
  refine (next_any s (by omega) _).mono ?_
  rintro e w1 ⟨v1, rfl, h1, -, t1, s1⟩
  obtain ⟨l1, u1⟩ := h1 (by omega)
  clear h1
  go_wp2_with fail
  refine (next_any s1 (by omega) _).mono ?_
  rintro e w2 ⟨v2, rfl, h2, -, t2, s2⟩
  obtain ⟨l2, u2⟩ := h2 (by omega)
  clear h2
  go_wp2_with fail
  refine (next_any s2 (by omega) _).mono ?_
  rintro e w3 ⟨v3, rfl, h3, -, t3, s3⟩
  obtain ⟨l3, u3⟩ := h3 (by omega)
  clear h3
  go_wp2_with fail
  refine (next_any s3 (by omega) _).mono ?_
  rintro e w4 ⟨v4, rfl, h4, -, t4, s4⟩
  obtain ⟨l4, u4⟩ := h4 (by omega)
  clear h4
  go_wp2_with fail
  have hb := s4.here
  refine (pick_any (s4.alloc _) (by omega) isWord _ 7 (by omega) (by omega) (by simp) (by omega) ?_).mono ?_
  · intro i hi
    have : i = 0 ∨ i = 1 ∨ i = 2 ∨ i = 3 ∨ i = 4 ∨ i = 5 ∨ i = 6 := by omega
    rcases this with rfl | rfl | rfl | rfl | rfl | rfl | rfl
    all_goals exact ⟨_, cell_new rfl, by unfold isWord; omega⟩
  rintro e w5 ⟨v, rfl, hv, t5, s5⟩
  go_wp2
  go_ret
  exact ⟨v, rfl, hv, (((t1.trans t2).trans t3).trans t4).trans ((Turn.alloc b w4 _).trans t5), s5⟩

set_option maxHeartbeats 400000 in
theorem wide_any {w : World} {b k : Nat} {a : Option Addr} {len cap : Nat} {zs : List Int} (s : Src w b k a len cap zs) (hk : k ≤ 80000) :
    Calls Tryz.prog 17 #[.pointer (some ⟨b, 0, none⟩)] w fun e w' => ∃ v : Int, e = .returned (.int .i64 v) ∧ isWide v ∧ Turn b w w' ∧ Src w' b (k + 16) a len cap zs := by
  go_enter Tryz.func17, Tryz.ntmps17
  go_wp2_with fail
  refine (word_any s (by omega)).mono ?_
  rintro e w1 ⟨v1, rfl, h1, t1, s1⟩
  go_wp2_with fail
  refine (word_any s1 (by omega)).mono ?_
  rintro e w2 ⟨v2, rfl, h2, t2, s2⟩
  go_wp2_with fail
  refine (word_any s2 (by omega)).mono ?_
  rintro e w3 ⟨v3, rfl, h3, t3, s3⟩
  go_wp2_with fail
  have hb := s3.here
  refine (pick_any (s3.alloc _) (by omega) isWide _ 8 (by omega) (by omega) (by simp) (by omega) ?_).mono ?_
  · intro i hi
    have : i = 0 ∨ i = 1 ∨ i = 2 ∨ i = 3 ∨ i = 4 ∨ i = 5 ∨ i = 6 ∨ i = 7 := by omega
    unfold isWord at h1 h2 h3
    rcases this with rfl | rfl | rfl | rfl | rfl | rfl | rfl | rfl
    all_goals exact ⟨_, cell_new rfl, by unfold isWide; omega⟩
  rintro e w5 ⟨v, rfl, hv, t5, s5⟩
  go_wp2
  go_ret
  exact ⟨v, rfl, hv, ((t1.trans t2).trans t3).trans ((Turn.alloc b w3 _).trans t5), s5⟩

theorem chance_any {w : World} {b k : Nat} {a : Option Addr} {len cap : Nat} {zs : List Int} (s : Src w b k a len cap zs) (hk : k ≤ 100000) (n : Int) :
    Calls Tryz.prog 16 #[.pointer (some ⟨b, 0, none⟩), .int .i64 n] w fun e w' => ∃ v : Bool, e = .returned (.bool v) ∧ Turn b w w' ∧ Src w' b (k + 1) a len cap zs := by
  go_enter Tryz.func16, Tryz.ntmps16
  go_wp2_with fail
  refine (next_any s (by omega) _).mono ?_
  rintro e w1 ⟨v1, rfl, -, -, t1, s1⟩
  go_wp2
  go_ret
  exact ⟨_, rfl, t1, s1⟩

end Go.Proofs.YtdmlejfopmimfaaGreatDoor
