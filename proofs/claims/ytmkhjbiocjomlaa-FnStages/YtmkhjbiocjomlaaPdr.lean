/- Draws of entries. -/
import Derived.Test.YtmkhjbiocjomlaaWide
import Derived.Test.YtmkhjbiocjomlaaPge
namespace Go.Proofs.Ytmkhjbiocjomlaa
open Go.RowKit
set_option linter.unusedVariables false

set_option maxHeartbeats 400000 in
theorem drawEntryOf_any {w : World} {a : Option Addr} {len cap : Nat} {zs : List Int} (hr : IsRow .u8 w a len cap zs) :
    Calls Try.prog 21 #[.slice a len cap] w fun e w' => ∃ u : Int, e = .returned (.int .i64 u) ∧ Below w.heap.size w w' := by
  have HR : Hid (IsRow .u8 w a len cap zs) := hr
  clear hr
  go_enter Try.func21, Try.ntmps21
  go_wp2_with fail
  refine (source_any HR.out).mono ?_
  rintro e w1 ⟨rfl, b1, s1⟩
  go_wp2_with fail
  refine (next_any s1 (by omega) _).mono ?_
  rintro e w2 ⟨v2, rfl, h2, -, t2, s2⟩
  clear h2
  go_wp2_with fail
  refine (next_any s2 (by omega) _).mono ?_
  rintro e w3 ⟨v3, rfl, h3, -, t3, s3⟩
  clear h3
  go_wp2_with fail
  have hb := s3.here
  refine (pick_any (s3.alloc _) (by omega) (fun _ => True) _ 6 (by omega) (by omega) (by simp) (by omega) ?_).mono ?_
  · intro i hi
    have : i = 0 ∨ i = 1 ∨ i = 2 ∨ i = 3 ∨ i = 4 ∨ i = 5 := by omega
    rcases this with rfl | rfl | rfl | rfl | rfl | rfl
    all_goals exact ⟨_, cell_new rfl, trivial⟩
  rintro e w4 ⟨v4, rfl, -, t4, s4⟩
  go_wp2_with fail
  go_ret
  exact ⟨v4, rfl, b1.trans ((t2.trans (t3.trans ((Turn.alloc _ w3 _).trans t4))).below (Nat.le_refl _) b1.size)⟩

set_option maxHeartbeats 400000 in
theorem drawEntryWord_any {w : World} {a : Option Addr} {len cap : Nat} {zs : List Int} (hr : IsRow .u8 w a len cap zs) :
    Calls Try.prog 25 #[.slice a len cap] w fun e w' => ∃ u v : Int, e = .returned (.agg #[.int .i64 u, .int .i64 v]) ∧ Below w.heap.size w w' := by
  have HR : Hid (IsRow .u8 (w.alloc (.cells #[.int .i64 0, .int .i64 0] 37)) a len cap zs) := hr.below ((Below.refl _ _).alloc (Nat.le_refl _) _)
  clear hr
  go_enter Try.func25, Try.ntmps25
  go_wp2_with fail
  refine (source_any HR.out).mono ?_
  rintro e w1 ⟨rfl, b1, s1⟩
  rw [World.size_alloc] at s1
  have k0 := cell_keep b1 (cell_new (i := 0) rfl)
  have k1 := cell_keep b1 (cell_new (i := 1) rfl)
  have z0 : w1.frozen? ⟨w.heap.size, 0, none⟩ = false := by rw [(bcell b1).2 _ _ (by simp)]; simp
  have z1 : w1.frozen? ⟨w.heap.size, 1, none⟩ = false := by rw [(bcell b1).2 _ _ (by simp)]; simp
  have hs0 : w.heap.size < w1.heap.size := block_of_cell k0
  have B1 : Hid (Below w.heap.size w w1) := on (al (Below.refl _ _) _) b1
  clear b1
  go_wp2_with fail
  refine (next_any s1 (by omega) _).mono ?_
  rintro e w2 ⟨v2, rfl, h2, -, t2, s2⟩
  obtain ⟨l2, u2⟩ := h2 (by omega)
  clear h2
  go_wp2_with fail
  refine (next_any s2 (by omega) _).mono ?_
  rintro e w3 ⟨v3, rfl, h3, -, t3, s3⟩
  obtain ⟨l3, u3⟩ := h3 (by omega)
  clear h3
  go_wp2_with fail
  have hb := s3.here
  refine (pick_any (s3.alloc _) (by omega) (fun _ => True) _ 4 (by omega) (by omega) (by simp) (by omega) ?_).mono ?_
  · intro i hi
    have : i = 0 ∨ i = 1 ∨ i = 2 ∨ i = 3 := by omega
    rcases this with rfl | rfl | rfl | rfl
    all_goals exact ⟨_, cell_new rfl, trivial⟩
  rintro e w4 ⟨v4, rfl, -, t4, s4⟩
  have tt := t2.trans (t3.trans ((Turn.alloc _ w3 _).trans t4))
  have k0 : w4.cell? ⟨w.heap.size, 0, none⟩ = some (.int .i64 0) := by rw [tt.cell (p := ⟨w.heap.size, 0, none⟩) hs0 (by show w.heap.size ≠ w.heap.size + 1; omega)]; exact k0
  have k1 : w4.cell? ⟨w.heap.size, 1, none⟩ = some (.int .i64 0) := by rw [tt.cell (p := ⟨w.heap.size, 1, none⟩) hs0 (by show w.heap.size ≠ w.heap.size + 1; omega)]; exact k1
  have z0 : w4.frozen? ⟨w.heap.size, 0, none⟩ = false := by rw [tt.frozen (p := ⟨w.heap.size, 0, none⟩) hs0 (by show w.heap.size ≠ w.heap.size + 1; omega)]; exact z0
  have z1 : w4.frozen? ⟨w.heap.size, 1, none⟩ = false := by rw [tt.frozen (p := ⟨w.heap.size, 1, none⟩) hs0 (by show w.heap.size ≠ w.heap.size + 1; omega)]; exact z1
  have B4 : Hid (Below w.heap.size w w4) := B1.out.trans (tt.below (by simp) B1.out.size)
  clear t2 t3 t4 tt
  go_wp2_with fail
  exact bodyPost_ret (v := .agg #[.int .i64 (v2 - 1), .int .i64 v4]) (by simp [results, Try.results25, go_sem, k0, k1]) rfl ⟨_, _, rfl, (B4.out.setCell (by simp) _).setCell (by simp) _⟩

/-- An entry is told by its word; what a word tells is told by the least such word. -/
theorem ent_word {z : Int} (h : isW z = true) : ewC (entP z).1 (entP z).2 = 0 ∧ ewV (entP z).1 (entP z).2 ≤ z ∧ isW (ewV (entP z).1 (entP z).2) = true ∧ entP (ewV (entP z).1 (entP z).2) = entP z := by
  obtain ⟨h0, h1⟩ := isW_true h
  by_cases hc : z % 8 = 0 ∨ 8 ≤ z / 8
  · have e : entP z = (-1, 0) := if_pos hc
    rw [e]
    exact ⟨by decide, h0, by decide, by decide⟩
  · have e : entP z = (z / 8, z % 8) := if_neg hc
    have hp : pgC 8 (z / 8) (z % 8) = 0 := pgC_ok (by omega) (by omega)
    have hw : ewC (z / 8) (z % 8) = 0 := by rw [ewC, if_pos hp, if_neg (by omega)]
    have hv : ewV (z / 8) (z % 8) = z := by rw [ewV, if_pos (by omega)]; omega
    rw [e]
    simp only
    rw [hw, hv]
    exact ⟨rfl, Int.le_refl _, h, e⟩
theorem word_ent {a b : Int} (h : ewC a b = 0) : isW (ewV a b) = true ∧ entP (ewV a b) = (a, b) := by
  by_cases hp : pgC 8 a b = 0
  case neg => rw [ewC, if_neg hp] at h; exact absurd h hp
  obtain ⟨p1, p2, p3, p4, p5⟩ := pgC_zero hp
  by_cases ha : a = -1
  · have hb := p5 ha
    subst ha hb
    exact ⟨by decide, by decide⟩
  · have hb : b ≠ 0 := by
      intro hb
      rw [ewC, if_pos hp, if_pos ⟨ha, hb⟩] at h
      omega
    have hv : ewV a b = a * 8 + b := if_pos ⟨h, ha⟩
    rw [hv]
    refine ⟨by unfold isW; simp; omega, ?_⟩
    rw [entP, if_neg (by omega), show (a * 8 + b) / 8 = a by omega, show (a * 8 + b) % 8 = b by omega]
end Go.Proofs.Ytmkhjbiocjomlaa
