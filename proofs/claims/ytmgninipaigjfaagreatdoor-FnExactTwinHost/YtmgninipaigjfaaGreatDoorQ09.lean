/- Texts of this seat, joined. -/
import Derived.Deep.RegionWith
import Derived.Deep.Slices
import Derived.Test.YtmgninipaigjfaaGreatDoorQ04
namespace Go.Proofs.YtmgninipaigjfaaGreatDoor
open Go.RowKit
set_option linter.unusedVariables false

theorem info_slot : (Tryz.prog.info? 79).map (fun i => (i.zero, i.size, i.bytes)) = some (some (.agg #[.int .i64 0, .int .i64 0]), 2, 16) := by kernel_rfl

theorem made_slots (m : Nat) : (madeCells #[Value.int .i64 0, Value.int .i64 0] m).toList = List.replicate m (Value.int .i64 0) := by
  apply List.ext_getElem?
  intro j
  by_cases hj : j < m
  · have h : j % 2 = 0 ∨ j % 2 = 1 := by omega
    rcases h with h | h <;> simp [madeCells, hj, h]
  · simp [madeCells, hj]

theorem to_slot (a b : Int) (w : World) : Calls Tryz.prog 48 #[.agg #[.int .i64 a, .int .i64 b]] w fun e w' => e = .returned (.agg #[.int .i64 a, .int .i64 b]) ∧ Below w.heap.size w w' := by
  go_enter Tryz.func48, Tryz.ntmps48
  go_wp2_with fail
  exact bodyPost_ret (v := .agg #[.int .i64 a, .int .i64 b]) (by simp [results, Tryz.results48, go_sem]) rfl ⟨rfl, al (al (al (Below.refl _ _) _) _) _⟩

set_option maxHeartbeats 1000000 in
theorem to_slots (a : Option Addr) (len cap : Nat) (rs : List (Int × Int)) (w : World) (h : IsPairs w a len cap rs) (hl : len ≤ 1048576) :
    Calls Tryz.prog 28 #[.slice a len cap] w fun e w' => ∃ g, e = .returned (.slice (some ⟨g, 0, none⟩) len len) ∧ Prs 79 w' w.heap.size (.slice (some ⟨g, 0, none⟩) len len) rs ∧ Below w.heap.size w w' := by
  obtain ⟨i, hi, hz0, hz1, hz2⟩ := info_parts info_slot
  have hlen : Hid (len = rs.length) := h.len
  have HR : Hid (IsPairs w a len cap rs) := h
  clear h
  go_enter Tryz.func28, Tryz.ntmps28
  go_wp2_with (at_make; refine wpList_make_full _ rfl _ _ 33 rfl w.heap.size 79 i _ 2 Tryz.underlying33 hi hz0 hz1 _ _ _ _ len rfl rfl rfl rfl (by rw [hz2]; omega) (by unfold maxLen; omega) (Nat.le_refl _) ?_; intro w1 hown hgrow)
  have N1 : Hid (Prs 79 w1 w.heap.size (.slice (some ⟨w.heap.size, 0, none⟩) len len) (List.replicate len (0, 0))) := by
    show w1.ownsRow _ _ _ _ _ _
    rw [show (Value.agg #[.int .i64 0, .int .i64 0]).cells = #[.int .i64 0, .int .i64 0] from rfl, made_slots] at hown
    rw [flat_replicate, List.length_replicate]
    exact hown
  have B1 : Hid (Below w.heap.size w w1) := (Below.refl _ _).grown hgrow (Nat.le_refl _) (by simp)
  clear hown hgrow hi hz0 hz1 hz2
  go_wp2_with fail
  go_loopw [4] (fun c wr => ∃ j : Nat, j ≤ len ∧ c = .int .i64 j ∧ Prs 79 wr w.heap.size (.slice (some ⟨w.heap.size, 0, none⟩) len len) (rs.take j ++ List.replicate (len - j) (0, 0)) ∧ Below w.heap.size w wr) (fun c _ => len - (intOf c).toNat)
  case atStart => exact ⟨0, Nat.zero_le _, rfl, by simpa using N1.out, B1.out⟩
  case round =>
    obtain ⟨j, hj, rfl, hN, hB⟩ := hrel
    have HN : Hid (Prs _ wr _ _ _) := hN
    have HB : Hid (Below _ _ _) := hB
    have hl2 : (len : Int) ≤ 1048576 := by omega
    by_cases hlt : j < len
    · rcases HR.out with ⟨_, h1, _, _⟩ | ⟨x, rfl, h1, h2, h3, h4⟩
      · omega
      have c0 := cell_keep hB (h4 j hlt).1
      have c1 := cell_keep hB (h4 j hlt).2
      have c1 : wr.cell? ⟨(x.add (j * 2)).block, (x.add (j * 2)).off + 1, none⟩ = some (.int .i64 (rs.getD j (0, 0)).2) := by
        show wr.cell? ((x.add (j * 2)).add 1) = _
        rw [Go.Deep.add_add]; exact c1
      have hll : len = (rs.take j ++ List.replicate (len - j) ((0 : Int), (0 : Int))).length := by have := hlen.out; simp; omega
      have HLL : Hid (len = (rs.take j ++ List.replicate (len - j) ((0 : Int), (0 : Int))).length) := hll
      have q0 := (hN.cell hll j hlt).1
      have q1 := (hN.cell hll j hlt).2
      have f0 := hN.free hll (j * 2)
      have f1 := hN.free hll (j * 2 + 1)
      have hI : (j : Int) < (len : Int) := by omega
      have HL : Hid (j < len) := hlt
      have gb : w.heap.size < wr.heap.size := block_of_cell q0
      have PS : Hid ((rs.take j ++ List.replicate (len - j) ((0 : Int), (0 : Int))).set j ((rs.getD j (0, 0)).1, (rs.getD j (0, 0)).2) = rs.take (j + 1) ++ List.replicate (len - (j + 1)) (0, 0)) := pairs_set rs j len (by have := hlen.out; omega) hlen.out
      generalize (rs.getD j (0, 0)).1 = p at *
      generalize (rs.getD j (0, 0)).2 = q at *
      clear h1 h2 h3 h4 hN hB hlt hll
      go_wp2_with fail
      refine (to_slot _ _ _).mono ?_
      rintro e w5 ⟨rfl, b5⟩
      have q0 := cell_keep b5 q0
      have q1 := cell_keep b5 q1
      have f0 : w5.frozen? ⟨w.heap.size, j * 2, none⟩ = false := by rw [b5.frozen (p := ⟨w.heap.size, j * 2, none⟩) gb]; exact f0
      have f1 : w5.frozen? ⟨w.heap.size, j * 2 + 1, none⟩ = false := by rw [b5.frozen (p := ⟨w.heap.size, j * 2 + 1, none⟩) gb]; exact f1
      have HN5 : Hid (Prs _ w5 _ _ _) := HN.out.keep b5
      have HB5 : Hid (Below _ w w5) := on HB.out b5
      clear b5
      go_wp2_with fail
      go_roundw
      case rel =>
        refine ⟨j + 1, by have := HL.out; omega, by go_num, ?_, ?_⟩
        · have s1 := HN5.out.store HLL.out j p q HL.out
          rw [PS.out] at s1
          exact s1
        · exact (HB5.out.setCell (by simp) _).setCell (by simp) _
      case measure => have := HL.out; simp [intOf]; omega
    · have hI : ¬ (j : Int) < (len : Int) := by omega
      obtain rfl : j = len := by omega
      clear hN hB
      go_wp2_with fail
      go_ret
      refine ⟨_, rfl, ?_, HB.out⟩
      have := HN.out
      simpa [List.take_of_length_le (Nat.le_of_eq hlen.out.symm)] using this

theorem eq_slot (a b : Int) (w : World) : Calls Tryz.prog 59 #[.agg #[.int .i64 a, .int .i64 b], .agg #[.int .i64 a, .int .i64 b]] w fun e w' => e = .returned (.bool true) ∧ Below w.heap.size w w' := by
  go_enter Tryz.func59, Tryz.ntmps59
  go_wp2_with fail
  go_ret
  exact ⟨rfl, al (al (Below.refl _ _) _) _⟩

set_option maxHeartbeats 1000000 in
theorem eq_slots (v u : Value) (rs : List (Int × Int)) (b c : Nat) (w : World) (h : Prs 79 w b v rs) (k : Prs 79 w c u rs) :
    Calls Tryz.prog 35 #[v, u] w fun e w' => e = .returned (.bool true) ∧ Below w.heap.size w w' := by
  obtain ⟨a, cap, rfl, l1, l2, hg⟩ := h.shape
  obtain ⟨a', cap', rfl, m1, m2, hg'⟩ := k.shape
  have HZ : Hid (Prs _ w b _ rs) := h
  have KZ : Hid (Prs _ w c _ rs) := k
  have hl : (rs.length : Int) ≤ 9223372036854775807 := by unfold maxLen at l2; omega
  clear h k
  obtain ⟨n, hn⟩ : ∃ n, rs.length = n := ⟨_, rfl⟩
  rw [hn] at HZ KZ hl l1 m1 hg hg' ⊢
  have HN : Hid (rs.length = n) := hn
  clear hn l1 m1 l2 m2
  go_enter Tryz.func35, Tryz.ntmps35
  go_wp2_with fail
  go_loopw [5] (fun i wr => ∃ j : Nat, j ≤ n ∧ i = .int .i64 j ∧ Below w.heap.size w wr) (fun i _ => n - (intOf i).toNat)
  case atStart => exact ⟨0, Nat.zero_le _, rfl, Below.refl _ _⟩
  case round =>
    obtain ⟨j, hj, rfl, hB⟩ := hrel
    have HB : Hid (Below _ _ _) := hB
    by_cases hlt : j < n
    · obtain ⟨g, rfl⟩ := hg (by omega)
      obtain ⟨g', rfl⟩ := hg' (by omega)
      have c1 := cell_keep hB (HZ.out.cell HN.out.symm j hlt).1
      have c2 := cell_keep hB (HZ.out.cell HN.out.symm j hlt).2
      have d1 := cell_keep hB (KZ.out.cell HN.out.symm j hlt).1
      have d2 := cell_keep hB (KZ.out.cell HN.out.symm j hlt).2
      have hI : (j : Int) < (n : Int) := by omega
      have HL : Hid (j < n) := hlt
      generalize (rs.getD j (0, 0)).1 = p at *
      generalize (rs.getD j (0, 0)).2 = q at *
      clear hB hlt hg hg'
      go_wp2_with fail
      go_region_with (go_at_call 59; refine (eq_slot _ _ _).mono ?_; rintro e y ⟨rfl, hb⟩; first | have BB := on HB.out hb | have BB := on HB.out.drew hb | have BB := on HB.out.drew.drew hb | have BB := on HB.out.drew.drew.drew hb)
      all_goals clear c1 c2 d1 d2
      all_goals go_wp2_with fail
      all_goals go_roundw
      all_goals first
        | (show ∃ _, _; exact ⟨j + 1, by have := HL.out; omega, by go_num, by first | exact BB | exact BB.drew⟩)
        | (have := HL.out; simp [intOf]; omega)
    · have hI : ¬ (j : Int) < (n : Int) := by omega
      clear hB
      go_wp2_with fail
      go_ret
      exact ⟨rfl, HB.out⟩
set_option maxHeartbeats 1000000 in
theorem sz_slots (a : Option Addr) (len cap : Nat) (k : Int) (w : World) (h : len ≤ 9223372036854775807) (h1 : 0 ≤ k) (h2 : k ≤ 1048576) :
    Calls Tryz.prog 22 #[.slice a len cap, .int .i64 k] w fun e w' => e = .returned (.int .i64 (if k - len < 0 then -1 else k - len)) ∧ w' = w := by
  have h3 : (len : Int) ≤ 9223372036854775807 := by omega
  by_cases hk : k - len < 0
  · rw [if_pos hk]
    go_enter Tryz.func22, Tryz.ntmps22
    go_wp2_with fail
    go_ret
    exact ⟨rfl, rfl⟩
  · rw [if_neg hk]
    go_enter Tryz.func22, Tryz.ntmps22
    go_wp2_with fail
    go_ret
    exact ⟨rfl, rfl⟩
end Go.Proofs.YtmgninipaigjfaaGreatDoor
