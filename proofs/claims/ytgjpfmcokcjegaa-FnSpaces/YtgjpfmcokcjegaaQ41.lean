/- Texts of this seat, joined. -/
import Derived.Test.YtgjpfmcokcjegaaQ27
import Derived.Test.YtgjpfmcokcjegaaQ39
namespace Go.Proofs.Ytgjpfmcokcjegaa
open Go.RowKit
set_option linter.unusedVariables false
set_option maxHeartbeats 4000000 in
theorem i_through2 (x k : Int) (S q : Nat) (v : Value) (c0 y0 c1 y1 C Y : Int) (w : World) (hS : S < w.heap.size)
    (hf0 : w.cell? ⟨S, 0, none⟩ = some (.func (.func 27) #[v] #[])) (hf1 : w.cell? ⟨S, 1, none⟩ = some (.func (.func 43) #[.pointer (some ⟨q, 0, none⟩)] #[]))
    (h0 : ∀ u, Below w.heap.size w u → Calls Try.prog 27 #[v, .int .i64 x, .int .i64 k] u fun e w' => e = .returned (.agg #[.int .i64 c0, .int .i64 y0]) ∧ Below u.heap.size u w')
    (h1 : c0 = 0 → ∀ u, Below w.heap.size w u → Calls Try.prog 43 #[.pointer (some ⟨q, 0, none⟩), .int .i64 y0, .int .i64 k] u fun e w' => e = .returned (.agg #[.int .i64 c1, .int .i64 y1]) ∧ Below u.heap.size u w') (hr : (c0 = 0 → C = c1 ∧ Y = y1) ∧ (¬ c0 = 0 → C = c0 ∧ Y = y0)) :
    Calls Try.prog 26 #[.int .i64 x, .int .i64 k, .slice (some ⟨S, 0, none⟩) 2 2] w fun e w' => e = .returned (.agg #[.int .i64 C, .int .i64 Y]) ∧ Below w.heap.size w w' := by
  have F0 : Hid (w.cell? ⟨S, 0, none⟩ = some (.func (.func 27) #[v] #[])) := hf0
  have F1 : Hid (w.cell? ⟨S, 1, none⟩ = some (.func (.func 43) #[.pointer (some ⟨q, 0, none⟩)] #[])) := hf1
  have H1 : Hid (c0 = 0 → ∀ u, Below w.heap.size w u → Calls Try.prog 43 #[.pointer (some ⟨q, 0, none⟩), .int .i64 y0, .int .i64 k] u fun e w' => e = .returned (.agg #[.int .i64 c1, .int .i64 y1]) ∧ Below u.heap.size u w') := h1
  have HR : Hid ((c0 = 0 → C = c1 ∧ Y = y1) ∧ (¬ c0 = 0 → C = c0 ∧ Y = y0)) := hr
  clear hf0 hf1 h1 hr
  go_enter Try.func26, Try.ntmps26
  go_wp2_with fail
  go_loopw [9, 14] (fun _ c wr => ∃ (j : Nat) (y : Int), j ≤ 2 ∧ c = .int .i64 j ∧ ((j = 0 ∧ y = x) ∨ (j = 1 ∧ y = y0 ∧ c0 = 0) ∨ (j = 2 ∧ y = y1 ∧ c0 = 0 ∧ c1 = 0)) ∧ Below w.heap.size w wr ∧ wr.cell? ⟨w.heap.size, 0, none⟩ = some (.int .i64 0) ∧ wr.cell? ⟨w.heap.size, 1, none⟩ = some (.int .i64 0) ∧ wr.frozen? ⟨w.heap.size, 0, none⟩ = false ∧ wr.frozen? ⟨w.heap.size, 1, none⟩ = false
    ∧ wr.cell? ⟨w.heap.size + 1, 0, none⟩ = some (.int .i64 0) ∧ wr.cell? ⟨w.heap.size + 1, 1, none⟩ = some (.int .i64 y) ∧ wr.frozen? ⟨w.heap.size + 1, 0, none⟩ = false ∧ wr.frozen? ⟨w.heap.size + 1, 1, none⟩ = false) (fun _ c _ => 2 - (intOf c).toNat)
  case atStart => exact ⟨0, x, Nat.zero_le _, rfl, .inl ⟨rfl, rfl⟩, al (al (Below.refl _ _) _) _, by simp, by simp, by simp, by simp, by simp, by simp, by simp, by simp⟩
  case round =>
    obtain ⟨j, y, hj, rfl, hT, hB, r0, r1, f0, f1, p0, p1, g0, g1⟩ := hrel
    have HB : Hid (Below w.heap.size w wr) := hB
    have s1 : w.heap.size + 1 < wr.heap.size := block_of_cell p0
    have s0 : w.heap.size < wr.heap.size := by omega
    have Sw : S < wr.heap.size := by omega
    rcases hT with ⟨rfl, rfl⟩ | ⟨rfl, rfl, hz⟩ | ⟨rfl, rfl, hz0, hz1⟩
    · have c1' := cell_keep hB F0.out
      clear hB hj
      by_cases hcc : c0 = 0
      · have HC0 : Hid (c0 = 0) := hcc
        have hcb : (c0 != 0) = false := by simpa using hcc
        clear hcc
        go_wp2_with (go_at_call 27; refine (h0 _ HB.out).mono ?_; rintro e w5 ⟨rfl, b5⟩; have r0 := cell_keep b5 r0; have r1 := cell_keep b5 r1; have p0 := cell_keep b5 p0; have p1 := cell_keep b5 p1; have B5 : Hid (Below w.heap.size w w5) := on HB.out b5; have f0 : w5.frozen? ⟨w.heap.size, 0, none⟩ = false := (by rw [b5.frozen (p := ⟨w.heap.size, 0, none⟩) s0]; exact f0); have f1 : w5.frozen? ⟨w.heap.size, 1, none⟩ = false := (by rw [b5.frozen (p := ⟨w.heap.size, 1, none⟩) s0]; exact f1); have g0 : w5.frozen? ⟨w.heap.size + 1, 0, none⟩ = false := (by rw [b5.frozen (p := ⟨w.heap.size + 1, 0, none⟩) s1]; exact g0); have g1 : w5.frozen? ⟨w.heap.size + 1, 1, none⟩ = false := (by rw [b5.frozen (p := ⟨w.heap.size + 1, 1, none⟩) s1]; exact g1))
        go_roundw
        case rel => exact ⟨1, y0, by omega, by go_num, .inr (.inl ⟨rfl, rfl, HC0.out⟩), (B5.out.setCell (by simp) _).setCell (by simp) _, by simp [go_sem, r0], by simp [go_sem, r1], by rw [World.frozen?_setCell, World.frozen?_setCell]; exact f0, by rw [World.frozen?_setCell, World.frozen?_setCell]; exact f1, by rw [← HC0.out]; simp [go_sem, p0], by simp [go_sem, p1], by rw [World.frozen?_setCell, World.frozen?_setCell]; exact g0, by rw [World.frozen?_setCell, World.frozen?_setCell]; exact g1⟩
        case measure => simp [intOf]
      · have hc2 : (c0 != 0) = true := by simpa using hcc
        have HCC : Hid (¬ c0 = 0) := hcc
        clear hcc
        go_wp2_with (go_at_call 27; refine (h0 _ HB.out).mono ?_; rintro e w5 ⟨rfl, b5⟩; have r0 := cell_keep b5 r0; have r1 := cell_keep b5 r1; have p0 := cell_keep b5 p0; have p1 := cell_keep b5 p1; have B5 : Hid (Below w.heap.size w w5) := on HB.out b5; have f0 : w5.frozen? ⟨w.heap.size, 0, none⟩ = false := (by rw [b5.frozen (p := ⟨w.heap.size, 0, none⟩) s0]; exact f0); have f1 : w5.frozen? ⟨w.heap.size, 1, none⟩ = false := (by rw [b5.frozen (p := ⟨w.heap.size, 1, none⟩) s0]; exact f1); have g0 : w5.frozen? ⟨w.heap.size + 1, 0, none⟩ = false := (by rw [b5.frozen (p := ⟨w.heap.size + 1, 0, none⟩) s1]; exact g0); have g1 : w5.frozen? ⟨w.heap.size + 1, 1, none⟩ = false := (by rw [b5.frozen (p := ⟨w.heap.size + 1, 1, none⟩) s1]; exact g1))
        exact bodyPost_ret (v := .agg #[.int .i64 c0, .int .i64 y0]) (by simp [results, Try.results26, go_sem, r0, r1]) rfl ⟨by rw [(HR.out.2 HCC.out).1, (HR.out.2 HCC.out).2], (((B5.out.setCell (by simp) _).setCell (by simp) _).setCell (by simp) _).setCell (by simp) _⟩
    · have c1' := cell_keep hB F1.out
      have hW := H1.out hz
      have HZ : Hid (c0 = 0) := hz
      clear hB hj hz
      by_cases hcc : c1 = 0
      · have HC0 : Hid (c1 = 0) := hcc
        have hcb : (c1 != 0) = false := by simpa using hcc
        clear hcc
        go_wp2_with (go_at_call 43; refine (hW _ HB.out).mono ?_; rintro e w5 ⟨rfl, b5⟩; have r0 := cell_keep b5 r0; have r1 := cell_keep b5 r1; have p0 := cell_keep b5 p0; have p1 := cell_keep b5 p1; have B5 : Hid (Below w.heap.size w w5) := on HB.out b5; have f0 : w5.frozen? ⟨w.heap.size, 0, none⟩ = false := (by rw [b5.frozen (p := ⟨w.heap.size, 0, none⟩) s0]; exact f0); have f1 : w5.frozen? ⟨w.heap.size, 1, none⟩ = false := (by rw [b5.frozen (p := ⟨w.heap.size, 1, none⟩) s0]; exact f1); have g0 : w5.frozen? ⟨w.heap.size + 1, 0, none⟩ = false := (by rw [b5.frozen (p := ⟨w.heap.size + 1, 0, none⟩) s1]; exact g0); have g1 : w5.frozen? ⟨w.heap.size + 1, 1, none⟩ = false := (by rw [b5.frozen (p := ⟨w.heap.size + 1, 1, none⟩) s1]; exact g1))
        go_roundw
        case rel => exact ⟨2, y1, by omega, by go_num, .inr (.inr ⟨rfl, rfl, HZ.out, HC0.out⟩), (B5.out.setCell (by simp) _).setCell (by simp) _, by simp [go_sem, r0], by simp [go_sem, r1], by rw [World.frozen?_setCell, World.frozen?_setCell]; exact f0, by rw [World.frozen?_setCell, World.frozen?_setCell]; exact f1, by rw [← HC0.out]; simp [go_sem, p0], by simp [go_sem, p1], by rw [World.frozen?_setCell, World.frozen?_setCell]; exact g0, by rw [World.frozen?_setCell, World.frozen?_setCell]; exact g1⟩
        case measure => simp [intOf]
      · have hc2 : (c1 != 0) = true := by simpa using hcc
        have HCC : Hid (¬ c1 = 0) := hcc
        clear hcc
        go_wp2_with (go_at_call 43; refine (hW _ HB.out).mono ?_; rintro e w5 ⟨rfl, b5⟩; have r0 := cell_keep b5 r0; have r1 := cell_keep b5 r1; have p0 := cell_keep b5 p0; have p1 := cell_keep b5 p1; have B5 : Hid (Below w.heap.size w w5) := on HB.out b5; have f0 : w5.frozen? ⟨w.heap.size, 0, none⟩ = false := (by rw [b5.frozen (p := ⟨w.heap.size, 0, none⟩) s0]; exact f0); have f1 : w5.frozen? ⟨w.heap.size, 1, none⟩ = false := (by rw [b5.frozen (p := ⟨w.heap.size, 1, none⟩) s0]; exact f1); have g0 : w5.frozen? ⟨w.heap.size + 1, 0, none⟩ = false := (by rw [b5.frozen (p := ⟨w.heap.size + 1, 0, none⟩) s1]; exact g0); have g1 : w5.frozen? ⟨w.heap.size + 1, 1, none⟩ = false := (by rw [b5.frozen (p := ⟨w.heap.size + 1, 1, none⟩) s1]; exact g1))
        exact bodyPost_ret (v := .agg #[.int .i64 c1, .int .i64 y1]) (by simp [results, Try.results26, go_sem, r0, r1]) rfl ⟨by rw [(HR.out.1 HZ.out).1, (HR.out.1 HZ.out).2], (((B5.out.setCell (by simp) _).setCell (by simp) _).setCell (by simp) _).setCell (by simp) _⟩
    · have HZ : Hid (c0 = 0 ∧ c1 = 0) := ⟨hz0, hz1⟩
      clear hB hj hz0 hz1
      go_wp2_with fail
      exact bodyPost_ret (v := .agg #[.int .i64 0, .int .i64 y]) (by simp [results, Try.results26, go_sem, r0, r1]) rfl ⟨by rw [(HR.out.1 HZ.out.1).1, (HR.out.1 HZ.out.1).2, HZ.out.2], (HB.out.setCell (by simp) _).setCell (by simp) _⟩
end Go.Proofs.Ytgjpfmcokcjegaa
