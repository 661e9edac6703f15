/- Answers of labels: marked and held. -/
import Derived.Test.YtnoljlljnepheaaLat
namespace Go.Proofs.Ytnoljlljnepheaa
open Go.RowKit
set_option linter.unusedVariables false

/-- The labels that marking leaves. -/
def lmarks (k : Nat) (n : Nat) : List Lbl := (List.range n).map fun (i : Nat) => (mtx (k + 2 * i), k + 2 * i + 1)
theorem lmarks_length (k : Nat) (n : Nat) : (lmarks k n).length = n := by simp [lmarks]
theorem lmarks_getD (k : Nat) (n i : Nat) (h : i < n) : (lmarks k n).getD i ([], 0) = (mtx (k + 2 * i), k + 2 * i + 1) := by
  simp [lmarks, List.getD, h]
theorem lmarks_set (k : Nat) (rs : List Lbl) (j : Nat) (h : j < rs.length) : (lmarks k j ++ rs.drop j).set j (mtx (k + 2 * j), k + 2 * j + 1) = lmarks k (j + 1) ++ rs.drop (j + 1) := by
  rw [List.drop_eq_getElem_cons h, List.set_append_right _ _ (by simp [lmarks]), lmarks_length, Nat.sub_self, List.set_cons_zero]
  simp [lmarks, List.range_succ]
theorem grown_transL {a b c : World} {row : Option Nat} (h : a.grownBy b row) (k : b.grownBy c row) : a.grownBy c row :=
  ⟨k.os.trans h.os, k.tape.trans h.tape, k.output.trans h.output, Nat.le_trans h.size k.size, fun i hi hn => (k.block i (Nat.lt_of_lt_of_le hi h.size) hn).trans (h.block i hi hn)⟩
theorem grown_preL {w w' : World} {o : Obj} {row : Option Nat} (h : (w.alloc o).grownBy w' row) : w.grownBy w' row :=
  ⟨h.os, h.tape, h.output, by have := h.size; simp at this; omega, fun k hk hn => by rw [h.block k (by simp; omega) hn, Below.heap_alloc _ _ _ hk]⟩
theorem Lb.free {w : World} {base g n cap : Nat} {ls : List Lbl} (h : Lb w base (.slice (some ⟨g, 0, none⟩) n cap) ls) (hn : n = ls.length) (i : Nat) : w.frozen? ⟨g, i, none⟩ = false := by
  subst hn
  exact World.ownsRow.frozenAt h i
theorem labCells_set : ∀ (ls : List Lbl) (j : Nat) (a : Wb) (b : Nat), j < ls.length → labCells (ls.set j (a, b)) = ((labCells ls).set (j * 2) (.string (bq a))).set (j * 2 + 1) (.int .i64 b)
  | [], j, a, b, h => absurd h (Nat.not_lt_zero _)
  | p :: r, 0, a, b, h => rfl
  | p :: r, j + 1, a, b, h => by
    have ih := labCells_set r j a b (by simpa using h)
    have e : ∀ (p : Lbl) (r : List Lbl), labCells (p :: r) = .string (bq p.1) :: .int .i64 p.2 :: labCells r := fun p r => rfl
    rw [List.set_cons_succ, e, e, ih, show (j + 1) * 2 = j * 2 + 1 + 1 by omega]
    rfl
theorem Lb.store {w : World} {base g n cap : Nat} {ls : List Lbl} (h : Lb w base (.slice (some ⟨g, 0, none⟩) n cap) ls) (hn : n = ls.length) (j : Nat) (a : Wb) (b : Nat) (hj : j < n) :
    Lb ((w.setCell ⟨g, j * 2, none⟩ (.string (bq a))).setCell ⟨g, j * 2 + 1, none⟩ (.int .i64 b)) base (.slice (some ⟨g, 0, none⟩) n cap) (ls.set j (a, b)) := by
  subst hn
  have h1 := (World.ownsRow.stored h (j * 2) (.string (bq a))).1
  have h2 := (World.ownsRow.stored h1 (j * 2 + 1) (.int .i64 b)).1
  unfold Lb
  rw [List.length_set, labCells_set ls j a b hj]
  exact h2
set_option maxHeartbeats 2000000 in
theorem mark_labels (v : Value) (k : Nat) (rs : List Lbl) (b : Nat) (w : World) (h : Lb w b v rs) (hz : k + 2 * rs.length ≤ 4611686018427387904) :
    Calls Try.prog 15 #[v, .int .i64 k] w fun e w' => e = .returned (.int .i64 ((k + 2 * rs.length : Nat) : Int)) ∧ Lb w' b v (lmarks k rs.length) ∧ w.grownBy w' v.ownBlock := by
  obtain ⟨a, cap, rfl, l1, l2, hg⟩ := h.shape
  have HZ : Hid (Lb w b _ rs) := h
  clear h
  obtain ⟨n, hn⟩ : ∃ n, rs.length = n := ⟨_, rfl⟩
  rw [hn] at HZ l1 hz hg ⊢
  have HN : Hid (rs.length = n) := hn
  have nI : (n : Int) ≤ 9223372036854775807 := by omega
  clear hn l1 l2
  go_enter Try.func15, Try.ntmps15
  go_wp2_with fail
  go_loopw [1, 5] (fun q i wr => ∃ j : Nat, j ≤ n ∧ i = .int .i64 j ∧ q = .int .i64 ((k + 2 * j : Nat) : Int) ∧ Lb wr b (.slice a n cap) (lmarks k j ++ rs.drop j) ∧ w.grownBy wr (Value.slice a n cap).ownBlock) (fun _ i _ => n - (intOf i).toNat)
  case atStart => exact ⟨0, Nat.zero_le _, rfl, by simp, by simpa [lmarks] using HZ.out, World.grownBy.refl _ _⟩
  case round =>
    obtain ⟨j, hj, rfl, rfl, hN, hG⟩ := hrel
    have N0 : Hid (Lb wr _ _ _) := hN
    have G0 : Hid (World.grownBy _ _ _) := hG
    by_cases hlt : j < n
    · obtain ⟨g, rfl⟩ := hg (by omega)
      have hll : n = (lmarks k j ++ rs.drop j).length := by have := HN.out; simp [lmarks]; omega
      have HLL : Hid (n = (lmarks k j ++ rs.drop j).length) := hll
      have hI : (j : Int) < (n : Int) := by omega
      have HL : Hid (j < n) := hlt
      obtain ⟨kk, hkk⟩ : ∃ kk, k + 2 * j = kk := ⟨_, rfl⟩
      have HKK : Hid (k + 2 * j = kk) := hkk
      have hb1 : (kk : Int) ≤ 4611686018427387904 := by omega
      have MT := fun w => mark_text kk (by omega) w
      rw [hkk]
      clear hN hG hlt hg hll hkk
      go_wp2_with fail
      refine (MT _).mono ?_
      rintro e w5 ⟨rfl, b5⟩
      have N5 : Hid (Lb w5 b (.slice (some ⟨g, 0, none⟩) n cap) (lmarks k j ++ rs.drop j)) := N0.out.keep b5
      have G5 : Hid (w.grownBy w5 (some g)) := grown_transL G0.out (below_grownL b5 (some g))
      have c1 := (N5.out.cell HLL.out j HL.out).1
      have c2 := (N5.out.cell HLL.out j HL.out).2
      have f1 := N5.out.free HLL.out (j * 2)
      have f2 := N5.out.free HLL.out (j * 2 + 1)
      generalize ((lmarks k j ++ rs.drop j).getD j ([], 0)).1 = p at *
      generalize ((lmarks k j ++ rs.drop j).getD j ([], 0)).2 = q at *
      clear b5 MT
      generalize hmt : mtx kk = mt at *
      have HMT : Hid (mtx kk = mt) := hmt
      clear hmt
      go_wp2_with fail
      go_roundw
      case rel =>
        have s1 := N5.out.store HLL.out j mt (kk + 1) HL.out
        have s2 := grown_transL (grown_setL w5 ⟨g, j * 2, none⟩ (.string (bq mt))) (grown_setL _ ⟨g, j * 2 + 1, none⟩ (.int .i64 ((kk + 1 : Nat) : Int)))
        refine ⟨j + 1, by have := HL.out; omega, by go_num, by have := HKK.out; go_num, ?_, ?_⟩
        · rw [← HMT.out, ← HKK.out, lmarks_set k rs j (by have := HL.out; have := HN.out; omega)] at s1
          have := s1
          rw [HKK.out, HMT.out] at this
          exact this
        · exact grown_transL G5.out s2
      case measure => have := HL.out; simp [intOf]; omega
    · have hI : ¬ (j : Int) < (n : Int) := by omega
      obtain rfl : j = n := by omega
      clear hN hG
      go_wp2_with fail
      go_ret
      refine ⟨rfl, ?_, G0.out⟩
      have := N0.out
      rwa [List.drop_of_length_le (Nat.le_of_eq HN.out), List.append_nil] at this
set_option maxHeartbeats 2000000 in
theorem held_labels (v : Value) (k : Nat) (n : Nat) (b : Nat) (w : World) (h : Lb w b v (lmarks k n)) (hz : k + 2 * n ≤ 4611686018427387904) :
    Calls Try.prog 16 #[v, .int .i64 k] w fun e w' => e = .returned (.int .i64 ((k + 2 * n : Nat) : Int)) ∧ Below w.heap.size w w' := by
  obtain ⟨a, cap, rfl, l1, l2, hg⟩ := h.shape
  have HZ : Hid (Lb w b _ (lmarks k n)) := h
  clear h
  rw [lmarks_length] at HZ hg l1 ⊢
  have nI : (n : Int) ≤ 9223372036854775807 := by omega
  clear l1 l2
  go_enter Try.func16, Try.ntmps16
  go_wp2_with fail
  go_loopw [1, 5] (fun q i wr => ∃ j : Nat, j ≤ n ∧ i = .int .i64 j ∧ q = .int .i64 ((k + 2 * j : Nat) : Int) ∧ Below w.heap.size w wr) (fun _ i _ => n - (intOf i).toNat)
  case atStart => exact ⟨0, Nat.zero_le _, rfl, by simp, Below.refl _ _⟩
  case round =>
    obtain ⟨j, hj, rfl, rfl, hB⟩ := hrel
    by_cases hlt : j < n
    · obtain ⟨g, rfl⟩ := hg (by omega)
      have HB : Hid (Below w.heap.size w wr) := hB
      have c1 := ((HZ.out.keep hB).cell (lmarks_length k n).symm j hlt).1
      have c2 := ((HZ.out.keep hB).cell (lmarks_length k n).symm j hlt).2
      rw [lmarks_getD k n j hlt] at c1 c2
      have hI : (j : Int) < (n : Int) := by omega
      have HL : Hid (j < n) := hlt
      obtain ⟨kk, hkk⟩ : ∃ kk, k + 2 * j = kk := ⟨_, rfl⟩
      have HKK : Hid (k + 2 * j = kk) := hkk
      have hb1 : (kk : Int) ≤ 4611686018427387904 := by omega
      simp only at c1 c2
      rw [hkk] at c1 c2 ⊢
      have MT := fun w => mark_text kk (by omega) w
      have BQ : Hid (∀ w', Below wr.heap.size wr w' → w'.cell? ⟨g, j * 2 + 1, none⟩ = some (.int .i64 ((kk + 1 : Nat) : Int))) := fun w' b => cell_keep b c2
      have c2 : wr.cell? ⟨g, j * 2 + 1, none⟩ = some (.int .i64 ((kk : Int) + 1)) := by rw [c2]; rfl
      have xl : g < wr.heap.size := block_of_cell c1
      generalize mtx kk = mt at *
      clear hlt hg hkk hB
      go_wp2_with fail
      go_region_with ((go_at_call 24; refine (MT _).mono ?_; rintro e w5 ⟨rfl, b5⟩; (first | have BB := on HB.out b5 | have BB := on HB.out.drew b5 | have BB := on HB.out.drew.drew b5); have c1 := cell_keep b5 c1; have c2 := cell_keep b5 c2; clear b5))
      all_goals go_wp2_with fail
      all_goals go_roundw
      all_goals first
        | (exact ⟨j + 1, by have := HL.out; omega, by go_num, by have := HKK.out; go_num, by first | exact BB | exact BB.drew⟩)
        | (have := HL.out; simp [intOf]; omega)
    · have hI : ¬ (j : Int) < (n : Int) := by omega
      obtain rfl : j = n := by omega
      go_wp2_with fail
      go_ret
      exact ⟨rfl, hB⟩
theorem mark_lres (c p : Int) (v : Value) (zs : List Lbl) (k : Nat) (b : Nat) (w : World) (h : Lb w b v zs) (hz : k + 2 * zs.length ≤ 4611686018427387904) :
    Calls Try.prog 7 #[.agg #[.int .i64 c, .int .i64 p, v], .int .i64 k] w fun e w' => e = .returned (.int .i64 ((k + 2 * zs.length : Nat) : Int)) ∧ Lb w' b v (lmarks k zs.length) ∧ w.grownBy w' v.ownBlock := by
  obtain ⟨a, cap, rfl, _, _, _⟩ := h.shape
  have H : Hid (Lb w b _ zs) := h
  obtain ⟨q, hq⟩ : ∃ q : Int, ((k + 2 * zs.length : Nat) : Int) = q := ⟨_, rfl⟩
  have hm := fun (W : World) (h : Lb W b (.slice a zs.length cap) zs) => mark_labels _ k zs b W h hz
  rw [hq]
  simp only [hq] at hm
  clear h hz hq
  go_enter Try.func7, Try.ntmps7
  go_wp2_with fail
  refine (hm _ (H.out.keep (al (Below.refl _ _) _))).mono ?_
  rintro e w1 ⟨rfl, n1, g1⟩
  have N1 : Hid (Lb w1 b _ _) := n1
  have G1 : Hid (World.grownBy _ _ _) := grown_preL g1
  clear n1 g1 hm
  go_wp2_with fail
  go_ret
  exact ⟨rfl, N1.out, G1.out⟩
theorem held_lres (c p : Int) (v : Value) (k : Nat) (n : Nat) (b : Nat) (w : World) (h : Lb w b v (lmarks k n)) (hz : k + 2 * n ≤ 4611686018427387904) :
    Calls Try.prog 8 #[.agg #[.int .i64 c, .int .i64 p, v], .int .i64 k] w fun e w' => e = .returned (.int .i64 ((k + 2 * n : Nat) : Int)) ∧ Below w.heap.size w w' := by
  obtain ⟨a, cap, rfl, _, _, _⟩ := h.shape
  have H : Hid (Lb w b _ (lmarks k n)) := h
  obtain ⟨q, hq⟩ : ∃ q : Int, ((k + 2 * n : Nat) : Int) = q := ⟨_, rfl⟩
  have hq0 : 0 ≤ q := by omega
  have hm := fun (W : World) (h : Lb W b (.slice a (lmarks k n).length cap) (lmarks k n)) => held_labels _ k n b W h hz
  rw [hq]
  simp only [hq] at hm
  clear h hz hq
  go_enter Try.func8, Try.ntmps8
  go_wp2_with fail
  refine (hm _ (H.out.keep (al (Below.refl _ _) _))).mono ?_
  rintro e w1 ⟨rfl, b1⟩
  go_wp2_with fail
  go_ret
  exact ⟨rfl, on (al (Below.refl _ _) _) b1⟩
end Go.Proofs.Ytnoljlljnepheaa
