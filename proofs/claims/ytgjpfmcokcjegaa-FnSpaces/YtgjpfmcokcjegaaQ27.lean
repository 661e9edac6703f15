/- Texts of this seat, joined. -/
import Derived.Laws.ByValue
import Derived.Test.YtgjpfmcokcjegaaQ26
namespace Go.Proofs.Ytgjpfmcokcjegaa
open Go.RowKit
set_option linter.unusedVariables false
def thr : List (List (Int × Int)) → Int → Int → Int × Int
  | [], x, _ => (0, x)
  | rs :: t, x, k => if wkC rs x k = 0 then thr t (wkV rs x k) k else (wkC rs x k, wkV rs x k)
theorem thr_drop (rss : List (List (Int × Int))) (j : Nat) (h : j < rss.length) (x k : Int) : thr (rss.drop j) x k = if wkC (rss.getD j []) x k = 0 then thr (rss.drop (j + 1)) (wkV (rss.getD j []) x k) k else (wkC (rss.getD j []) x k, wkV (rss.getD j []) x k) := by
  rw [List.drop_eq_getElem_cons h, thr, List.getD, List.getElem?_eq_getElem h]
  rfl
set_option maxHeartbeats 2000000 in
theorem impl_through (x k : Int) (S n : Nat) (rss : List (List (Int × Int))) (w : World) (hn : rss.length = n) (hn1 : n ≤ 1000) (hS : S < w.heap.size)
    (h : ∀ j, j < n → ∃ v b, w.cell? ⟨S, j, none⟩ = some (.func (.func 27) #[v] #[]) ∧ Prs 73 w b v (rss.getD j []) ∧ (rss.getD j []).length = 8 ∧ okTo 24 (rss.getD j []) 8) :
    Calls Try.prog 26 #[.int .i64 x, .int .i64 k, .slice (some ⟨S, 0, none⟩) n n] w fun e w' => e = .returned (.agg #[.int .i64 (thr rss x k).1, .int .i64 (thr rss x k).2]) ∧ Below w.heap.size w w' := by
  have HF : Hid (∀ j, j < n → ∃ v b, w.cell? ⟨S, j, none⟩ = some (.func (.func 27) #[v] #[]) ∧ Prs 73 w b v (rss.getD j []) ∧ (rss.getD j []).length = 8 ∧ okTo 24 (rss.getD j []) 8) := h
  have HN : Hid (rss.length = n) := hn
  have hni : (n : Int) ≤ 1000 := by omega
  clear h hn hn1
  go_enter Try.func26, Try.ntmps26
  go_wp2_with fail
  go_loopw [9, 14] (fun _ c wr => ∃ (j : Nat) (y : Int), j ≤ n ∧ c = .int .i64 j ∧ thr (rss.drop j) y k = thr rss x k ∧ Below w.heap.size w wr ∧ wr.cell? ⟨w.heap.size, 0, none⟩ = some (.int .i64 0) ∧ wr.cell? ⟨w.heap.size, 1, none⟩ = some (.int .i64 0) ∧ wr.frozen? ⟨w.heap.size, 0, none⟩ = false ∧ wr.frozen? ⟨w.heap.size, 1, none⟩ = false
    ∧ wr.cell? ⟨w.heap.size + 1, 0, none⟩ = some (.int .i64 0) ∧ wr.cell? ⟨w.heap.size + 1, 1, none⟩ = some (.int .i64 y) ∧ wr.frozen? ⟨w.heap.size + 1, 0, none⟩ = false ∧ wr.frozen? ⟨w.heap.size + 1, 1, none⟩ = false) (fun _ c _ => n - (intOf c).toNat)
  case atStart => exact ⟨0, x, Nat.zero_le _, rfl, rfl, al (al (Below.refl _ _) _) _, by simp, by simp, by simp, by simp, by simp, by simp, by simp, by simp⟩
  case round =>
    obtain ⟨j, y, hj, rfl, hT, hB, r0, r1, f0, f1, p0, p1, g0, g1⟩ := hrel
    have HB : Hid (Below w.heap.size w wr) := hB
    have s1 : w.heap.size + 1 < wr.heap.size := block_of_cell p0
    have s0 : w.heap.size < wr.heap.size := by omega
    by_cases hlt : j < n
    · obtain ⟨v, b, hc, hP, hl8, hok⟩ := HF.out j hlt
      have c1 := cell_keep hB hc
      have hI : (j : Int) < (n : Int) := by omega
      have HLT : Hid (j < n) := hlt
      have hW := fun u (q : Below w.heap.size w u) => impl_walk v (rss.getD j []) y k b u (hP.keep q) hl8 hok
      have HD := thr_drop rss j (by have := HN.out; omega) y k
      rw [hT] at HD
      have HD : Hid (thr rss x k = _) := HD
      have Sw : S < wr.heap.size := by omega
      generalize wkC (rss.getD j []) y k = cc at *
      generalize wkV (rss.getD j []) y k = vv at *
      clear hB hlt hc hP hl8 hok hT
      by_cases hcc : cc = 0
      · subst hcc
        have HD2 : Hid (thr rss x k = thr (rss.drop (j + 1)) vv k) := by show _ = _; rw [HD.out, if_pos rfl]
        clear HD
        go_wp2_with (go_at_call 27; refine (hW _ HB.out).mono ?_; rintro e w5 ⟨rfl, b5⟩; have r0 := cell_keep b5 r0; have r1 := cell_keep b5 r1; have p0 := cell_keep b5 p0; have p1 := cell_keep b5 p1; have B5 : Hid (Below w.heap.size w w5) := on HB.out b5; have f0 : w5.frozen? ⟨w.heap.size, 0, none⟩ = false := (by rw [b5.frozen (p := ⟨w.heap.size, 0, none⟩) s0]; exact f0); have f1 : w5.frozen? ⟨w.heap.size, 1, none⟩ = false := (by rw [b5.frozen (p := ⟨w.heap.size, 1, none⟩) s0]; exact f1); have g0 : w5.frozen? ⟨w.heap.size + 1, 0, none⟩ = false := (by rw [b5.frozen (p := ⟨w.heap.size + 1, 0, none⟩) s1]; exact g0); have g1 : w5.frozen? ⟨w.heap.size + 1, 1, none⟩ = false := (by rw [b5.frozen (p := ⟨w.heap.size + 1, 1, none⟩) s1]; exact g1))
        go_roundw
        case rel => exact ⟨j + 1, vv, by have := HLT.out; omega, by go_num, HD2.out.symm, (B5.out.setCell (by simp) _).setCell (by simp) _, by simp [go_sem, r0], by simp [go_sem, r1], by rw [World.frozen?_setCell, World.frozen?_setCell]; exact f0, by rw [World.frozen?_setCell, World.frozen?_setCell]; exact f1, by simp [go_sem, p0], by simp [go_sem, p1], by rw [World.frozen?_setCell, World.frozen?_setCell]; exact g0, by rw [World.frozen?_setCell, World.frozen?_setCell]; exact g1⟩
        case measure => have := HLT.out; simp [intOf]; omega
      · have HD2 : Hid (thr rss x k = (cc, vv)) := by show _ = _; rw [HD.out, if_neg hcc]
        have hc2 : (cc != 0) = true := by simpa using hcc
        clear HD hcc
        go_wp2_with (go_at_call 27; refine (hW _ HB.out).mono ?_; rintro e w5 ⟨rfl, b5⟩; have r0 := cell_keep b5 r0; have r1 := cell_keep b5 r1; have p0 := cell_keep b5 p0; have p1 := cell_keep b5 p1; have B5 : Hid (Below w.heap.size w w5) := on HB.out b5; have f0 : w5.frozen? ⟨w.heap.size, 0, none⟩ = false := (by rw [b5.frozen (p := ⟨w.heap.size, 0, none⟩) s0]; exact f0); have f1 : w5.frozen? ⟨w.heap.size, 1, none⟩ = false := (by rw [b5.frozen (p := ⟨w.heap.size, 1, none⟩) s0]; exact f1); have g0 : w5.frozen? ⟨w.heap.size + 1, 0, none⟩ = false := (by rw [b5.frozen (p := ⟨w.heap.size + 1, 0, none⟩) s1]; exact g0); have g1 : w5.frozen? ⟨w.heap.size + 1, 1, none⟩ = false := (by rw [b5.frozen (p := ⟨w.heap.size + 1, 1, none⟩) s1]; exact g1))
        exact bodyPost_ret (v := .agg #[.int .i64 cc, .int .i64 vv]) (by simp [results, Try.results26, go_sem, r0, r1]) rfl ⟨by rw [HD2.out], (((B5.out.setCell (by simp) _).setCell (by simp) _).setCell (by simp) _).setCell (by simp) _⟩
    · have hI : ¬ (j : Int) < (n : Int) := by omega
      obtain rfl : j = n := by omega
      have HD2 : Hid (thr rss x k = (0, y)) := by
        show _ = _
        rw [← hT, List.drop_of_length_le (Nat.le_of_eq HN.out)]
        rfl
      clear hB hT
      go_wp2_with fail
      exact bodyPost_ret (v := .agg #[.int .i64 0, .int .i64 y]) (by simp [results, Try.results26, go_sem, r0, r1]) rfl ⟨by rw [HD2.out], (HB.out.setCell (by simp) _).setCell (by simp) _⟩
end Go.Proofs.Ytgjpfmcokcjegaa
