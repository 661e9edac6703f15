/- Texts of this seat, joined. -/
import Derived.Deep.RegionWith
import Derived.Deep.Slices
import Derived.Deep.QuietTactic
import Derived.Test.YtggejbphdadckaaGreatDoorQ05
import Derived.Test.YtggejbphdadckaaGreatDoorQ10
namespace Go.Proofs.YtggejbphdadckaaGreatDoor
open Go.RowKit
set_option linter.unusedVariables false
theorem info_lane : (Tryz.prog.info? 125).map (fun i => (i.zero, i.size, i.bytes)) = some (some lz.val, 5, 40) := by kernel_rfl
theorem made_lanes (m : Nat) : (madeCells #[Value.int .i64 0, Value.int .i64 0, Value.int .i64 0, Value.int .i64 0, Value.int .i64 0] m).toList = List.replicate m (Value.int .i64 0) := by
  apply List.ext_getElem?
  intro j
  by_cases hj : j < m
  · have h : j % 5 = 0 ∨ j % 5 = 1 ∨ j % 5 = 2 ∨ j % 5 = 3 ∨ j % 5 = 4 := by omega
    rcases h with h | h | h | h | h <;> simp [madeCells, hj, h]
  · simp [madeCells, hj]
theorem to_lane (a b c d z : Int) (w : World) : Calls Tryz.prog 82 #[.agg #[.int .i64 a, .int .i64 b, .int .i64 c, .int .i64 d, .int .i64 z]] w fun e w' => e = .returned (.agg #[.int .i64 a, .int .i64 b, .int .i64 c, .int .i64 d, .int .i64 z]) ∧ Below w.heap.size w w' := by
  go_enter Tryz.func82, Tryz.ntmps82
  go_wp2_with fail
  exact bodyPost_ret (v := .agg #[.int .i64 a, .int .i64 b, .int .i64 c, .int .i64 d, .int .i64 z]) (by simp [results, Tryz.results82, go_sem]) rfl ⟨rfl, by first | exact al (al (al (Below.refl _ _) _) _) _ | exact al (al (Below.refl _ _) _) _⟩
set_option maxHeartbeats 1000000 in
theorem to_lanes (a : Option Addr) (len cap : Nat) (rs : List Ln) (w : World) (h : IsLanes w a len cap rs) (hl : len ≤ 1048576) :
    Calls Tryz.prog 49 #[.slice a len cap] w fun e w' => ∃ g, e = .returned (.slice (some ⟨g, 0, none⟩) len len) ∧ Ls 125 w' w.heap.size (.slice (some ⟨g, 0, none⟩) len len) rs ∧ Below w.heap.size w w' := by
  obtain ⟨i, hi, hz0, hz1, hz2⟩ := info_parts info_lane
  have hlen : Hid (len = rs.length) := h.len
  have HR : Hid (IsLanes w a len cap rs) := h
  clear h
  go_enter Tryz.func49, Tryz.ntmps49
  go_wp2_with (at_make; refine wpList_make_full _ rfl _ _ 33 rfl w.heap.size 125 i _ 5 Tryz.underlying33 hi hz0 hz1 _ _ _ _ len rfl rfl rfl rfl (by rw [hz2]; omega) (by unfold maxLen; omega) (Nat.le_refl _) ?_; intro w1 hown hgrow)
  have N1 : Hid (Ls 125 w1 w.heap.size (.slice (some ⟨w.heap.size, 0, none⟩) len len) (List.replicate len lz)) := by
    show w1.ownsRow _ _ _ _ _ _
    rw [show lz.val.cells = #[.int .i64 0, .int .i64 0, .int .i64 0, .int .i64 0, .int .i64 0] from rfl, made_lanes] at hown
    rw [flat5_replicate, List.length_replicate]
    exact hown
  have B1 : Hid (Below w.heap.size w w1) := (Below.refl _ _).grown hgrow (Nat.le_refl _) (by simp)
  clear hown hgrow hi hz0 hz1 hz2
  go_wp2_with fail
  go_loopw [4] (fun c wr => ∃ j : Nat, j ≤ len ∧ c = .int .i64 j ∧ Ls 125 wr w.heap.size (.slice (some ⟨w.heap.size, 0, none⟩) len len) (rs.take j ++ List.replicate (len - j) lz) ∧ Below w.heap.size w wr) (fun c _ => len - (intOf c).toNat)
  case atStart => exact ⟨0, Nat.zero_le _, rfl, by simpa using N1.out, B1.out⟩
  case round =>
    obtain ⟨j, hj, rfl, hN, hB⟩ := hrel
    have HN : Hid (Ls _ wr _ _ _) := hN
    have HB : Hid (Below _ _ _) := hB
    have hl2 : (len : Int) ≤ 1048576 := by omega
    by_cases hlt : j < len
    · rcases HR.out with ⟨_, h1, _, _⟩ | ⟨x, rfl, h1, h2, h3, h4⟩
      · omega
      have c0 := cell_keep hB (h4 j hlt).1
      have c1 : wr.cell? ⟨(x.add (j * 5)).block, (x.add (j * 5)).off + 1, none⟩ = some (.int .i64 (rs.getD j lz).dst) := by
        show wr.cell? ((x.add (j * 5)).add 1) = _
        rw [Go.Deep.add_add]; exact cell_keep hB (h4 j hlt).2.1
      have c2 : wr.cell? ⟨(x.add (j * 5)).block, (x.add (j * 5)).off + 2, none⟩ = some (.int .i64 (rs.getD j lz).pg) := by
        show wr.cell? ((x.add (j * 5)).add 2) = _
        rw [Go.Deep.add_add]; exact cell_keep hB (h4 j hlt).2.2.1
      have c3 : wr.cell? ⟨(x.add (j * 5)).block, (x.add (j * 5)).off + 3, none⟩ = some (.int .i64 (rs.getD j lz).af) := by
        show wr.cell? ((x.add (j * 5)).add 3) = _
        rw [Go.Deep.add_add]; exact cell_keep hB (h4 j hlt).2.2.2.1
      have c4 : wr.cell? ⟨(x.add (j * 5)).block, (x.add (j * 5)).off + 4, none⟩ = some (.int .i64 (rs.getD j lz).tt) := by
        show wr.cell? ((x.add (j * 5)).add 4) = _
        rw [Go.Deep.add_add]; exact cell_keep hB (h4 j hlt).2.2.2.2
      have hll : len = (rs.take j ++ List.replicate (len - j) lz).length := by have := hlen.out; simp; omega
      have HLL : Hid (len = (rs.take j ++ List.replicate (len - j) lz).length) := hll
      obtain ⟨q0, q1, q2, q3, q4⟩ := hN.cell hll j hlt
      have f0 := hN.free hll (j * 5)
      have f1 := hN.free hll (j * 5 + 1)
      have f2 := hN.free hll (j * 5 + 2)
      have f3 := hN.free hll (j * 5 + 3)
      have f4 := hN.free hll (j * 5 + 4)
      have hI : (j : Int) < (len : Int) := by omega
      have HL : Hid (j < len) := hlt
      have gb : w.heap.size < wr.heap.size := block_of_cell q0
      have PS : Hid ((rs.take j ++ List.replicate (len - j) lz).set j ⟨(rs.getD j lz).fr, (rs.getD j lz).dst, (rs.getD j lz).pg, (rs.getD j lz).af, (rs.getD j lz).tt⟩ = rs.take (j + 1) ++ List.replicate (len - (j + 1)) lz) := lanes_set rs j len (by have := hlen.out; omega) hlen.out
      generalize (rs.getD j lz).fr = a0 at *
      generalize (rs.getD j lz).dst = a1 at *
      generalize (rs.getD j lz).pg = a2 at *
      generalize (rs.getD j lz).af = a3 at *
      generalize (rs.getD j lz).tt = a4 at *
      clear h1 h2 h3 h4 hN hB hlt hll
      go_wp2_with fail
      refine (to_lane _ _ _ _ _ _).mono ?_
      rintro e w5 ⟨rfl, b5⟩
      have q0 := cell_keep b5 q0
      have q1 := cell_keep b5 q1
      have q2 := cell_keep b5 q2
      have q3 := cell_keep b5 q3
      have q4 := cell_keep b5 q4
      have f0 : w5.frozen? ⟨w.heap.size, j * 5, none⟩ = false := by rw [b5.frozen (p := ⟨w.heap.size, j * 5, none⟩) gb]; exact f0
      have f1 : w5.frozen? ⟨w.heap.size, j * 5 + 1, none⟩ = false := by rw [b5.frozen (p := ⟨w.heap.size, j * 5 + 1, none⟩) gb]; exact f1
      have f2 : w5.frozen? ⟨w.heap.size, j * 5 + 2, none⟩ = false := by rw [b5.frozen (p := ⟨w.heap.size, j * 5 + 2, none⟩) gb]; exact f2
      have f3 : w5.frozen? ⟨w.heap.size, j * 5 + 3, none⟩ = false := by rw [b5.frozen (p := ⟨w.heap.size, j * 5 + 3, none⟩) gb]; exact f3
      have f4 : w5.frozen? ⟨w.heap.size, j * 5 + 4, none⟩ = false := by rw [b5.frozen (p := ⟨w.heap.size, j * 5 + 4, none⟩) gb]; exact f4
      have HN5 : Hid (Ls _ w5 _ _ _) := HN.out.keep b5
      have HB5 : Hid (Below _ w w5) := on HB.out b5
      clear b5
      go_wp2_with fail
      go_roundw
      case rel =>
        refine ⟨j + 1, by have := HL.out; omega, by go_num, ?_, ?_⟩
        · have s1 := HN5.out.store HLL.out j ⟨a0, a1, a2, a3, a4⟩ HL.out
          rw [PS.out] at s1
          exact s1
        · exact ((((HB5.out.setCell (by simp) _).setCell (by simp) _).setCell (by simp) _).setCell (by simp) _).setCell (by simp) _
      case measure => have := HL.out; simp [intOf]; omega
    · have hI : ¬ (j : Int) < (len : Int) := by omega
      obtain rfl : j = len := by omega
      clear hN hB
      go_wp2_with fail
      go_ret
      refine ⟨_, rfl, ?_, HB.out⟩
      have := HN.out
      simpa [List.take_of_length_le (Nat.le_of_eq hlen.out.symm)] using this
theorem eq_lane (a b c d z : Int) (w : World) : Calls Tryz.prog 98 #[.agg #[.int .i64 a, .int .i64 b, .int .i64 c, .int .i64 d, .int .i64 z], .agg #[.int .i64 a, .int .i64 b, .int .i64 c, .int .i64 d, .int .i64 z]] w fun e w' => e = .returned (.bool true) ∧ Below w.heap.size w w' := by
  go_enter Tryz.func98, Tryz.ntmps98
  go_wp2_with fail
  go_ret
  exact ⟨rfl, al (al (Below.refl _ _) _) _⟩
set_option maxHeartbeats 1000000 in
theorem eq_lanes (v u : Value) (rs : List Ln) (b c : Nat) (w : World) (h : Ls 125 w b v rs) (k : Ls 125 w c u rs) :
    Calls Tryz.prog 66 #[v, u] w fun e w' => e = .returned (.bool true) ∧ Below w.heap.size w w' := by
  obtain ⟨a, cap, rfl, l1, l2, hg⟩ := h.shape
  obtain ⟨a', cap', rfl, m1, m2, hg'⟩ := k.shape
  have HZ : Hid (Ls _ w b _ rs) := h
  have KZ : Hid (Ls _ w c _ rs) := k
  have hl : (rs.length : Int) ≤ 9223372036854775807 := by unfold maxLen at l2; omega
  clear h k
  obtain ⟨n, hn⟩ : ∃ n, rs.length = n := ⟨_, rfl⟩
  rw [hn] at HZ KZ hl l1 m1 hg hg' ⊢
  have HN : Hid (rs.length = n) := hn
  clear hn l1 m1 l2 m2
  go_enter Tryz.func66, Tryz.ntmps66
  go_wp2_with fail
  go_loopw [5] (fun i wr => ∃ j : Nat, j ≤ n ∧ i = .int .i64 j ∧ Below w.heap.size w wr) (fun i _ => n - (intOf i).toNat)
  case atStart => exact ⟨0, Nat.zero_le _, rfl, Below.refl _ _⟩
  case round =>
    obtain ⟨j, hj, rfl, hB⟩ := hrel
    have HB : Hid (Below _ _ _) := hB
    by_cases hlt : j < n
    · obtain ⟨g, rfl⟩ := hg (by omega)
      obtain ⟨g', rfl⟩ := hg' (by omega)
      obtain ⟨c0, c1, c2, c3, c4⟩ := HZ.out.cell HN.out.symm j hlt
      obtain ⟨d0, d1, d2, d3, d4⟩ := KZ.out.cell HN.out.symm j hlt
      have c0 := cell_keep hB c0
      have c1 := cell_keep hB c1
      have c2 := cell_keep hB c2
      have c3 := cell_keep hB c3
      have c4 := cell_keep hB c4
      have d0 := cell_keep hB d0
      have d1 := cell_keep hB d1
      have d2 := cell_keep hB d2
      have d3 := cell_keep hB d3
      have d4 := cell_keep hB d4
      have hI : (j : Int) < (n : Int) := by omega
      have HL : Hid (j < n) := hlt
      generalize (rs.getD j lz).fr = a0 at *
      generalize (rs.getD j lz).dst = a1 at *
      generalize (rs.getD j lz).pg = a2 at *
      generalize (rs.getD j lz).af = a3 at *
      generalize (rs.getD j lz).tt = a4 at *
      clear hB hlt hg hg'
      go_wp2_with fail
      go_region_with (go_at_call 98; refine (eq_lane _ _ _ _ _ _).mono ?_; rintro e y ⟨rfl, hb⟩; first | have BB := on HB.out hb | have BB := on HB.out.drew hb | have BB := on HB.out.drew.drew hb | have BB := on HB.out.drew.drew.drew hb)
      all_goals clear c0 c1 c2 c3 c4 d0 d1 d2 d3 d4
      all_goals go_wp2_with fail
      all_goals go_roundw
      all_goals first
        | (show ∃ _, _; exact ⟨j + 1, by have := HL.out; omega, by go_num, by first | exact BB | exact BB.drew⟩)
        | (have := HL.out; simp [intOf]; omega)
    · have hI : ¬ (j : Int) < (n : Int) := by omega
      clear hB
      go_wp2_with fail
      go_ret
      exact ⟨rfl, HB.out⟩
set_option maxHeartbeats 1000000 in
theorem sz_lanes (a : Option Addr) (len cap : Nat) (k : Int) (w : World) (h : len ≤ 9223372036854775807) (h1 : 0 ≤ k) (h2 : k ≤ 1048576) :
    Calls Tryz.prog 35 #[.slice a len cap, .int .i64 k] w fun e w' => e = .returned (.int .i64 (if k - len < 0 then -1 else k - len)) ∧ w' = w := by
  have h3 : (len : Int) ≤ 9223372036854775807 := by omega
  by_cases hk : k - len < 0
  · rw [if_pos hk]
    go_enter Tryz.func35, Tryz.ntmps35
    go_wp2_with fail
    go_ret
    exact ⟨rfl, rfl⟩
  · rw [if_neg hk]
    go_enter Tryz.func35, Tryz.ntmps35
    go_wp2_with fail
    go_ret
    exact ⟨rfl, rfl⟩
theorem info_bell : (Tryz.prog.info? 129).map (fun i => (i.zero, i.size, i.bytes)) = some (some (.agg #[.int .i64 0, .int .i64 0]), 2, 16) := by kernel_rfl
theorem made_bells (m : Nat) : (madeCells #[Value.int .i64 0, Value.int .i64 0] m).toList = List.replicate m (Value.int .i64 0) := by
  apply List.ext_getElem?
  intro j
  by_cases hj : j < m
  · have h : j % 2 = 0 ∨ j % 2 = 1 := by omega
    rcases h with h | h <;> simp [madeCells, hj, h]
  · simp [madeCells, hj]
theorem to_bell (a b : Int) (w : World) : Calls Tryz.prog 83 #[.agg #[.int .i64 a, .int .i64 b]] w fun e w' => e = .returned (.agg #[.int .i64 a, .int .i64 b]) ∧ Below w.heap.size w w' := by
  go_enter Tryz.func83, Tryz.ntmps83
  go_wp2_with fail
  exact bodyPost_ret (v := .agg #[.int .i64 a, .int .i64 b]) (by simp [results, Tryz.results83, go_sem]) rfl ⟨rfl, al (al (al (Below.refl _ _) _) _) _⟩
set_option maxHeartbeats 1000000 in
theorem to_bells (a : Option Addr) (len cap : Nat) (rs : List (Int × Int)) (w : World) (h : IsPairs w a len cap rs) (hl : len ≤ 1048576) :
    Calls Tryz.prog 50 #[.slice a len cap] w fun e w' => ∃ g, e = .returned (.slice (some ⟨g, 0, none⟩) len len) ∧ Prs 129 w' w.heap.size (.slice (some ⟨g, 0, none⟩) len len) rs ∧ Below w.heap.size w w' := by
  obtain ⟨i, hi, hz0, hz1, hz2⟩ := info_parts info_bell
  have hlen : Hid (len = rs.length) := h.len
  have HR : Hid (IsPairs w a len cap rs) := h
  clear h
  go_enter Tryz.func50, Tryz.ntmps50
  go_wp2_with (at_make; refine wpList_make_full _ rfl _ _ 34 rfl w.heap.size 129 i _ 2 Tryz.underlying34 hi hz0 hz1 _ _ _ _ len rfl rfl rfl rfl (by rw [hz2]; omega) (by unfold maxLen; omega) (Nat.le_refl _) ?_; intro w1 hown hgrow)
  have N1 : Hid (Prs 129 w1 w.heap.size (.slice (some ⟨w.heap.size, 0, none⟩) len len) (List.replicate len (0, 0))) := by
    show w1.ownsRow _ _ _ _ _ _
    rw [show (Value.agg #[.int .i64 0, .int .i64 0]).cells = #[.int .i64 0, .int .i64 0] from rfl, made_bells] at hown
    rw [flat_replicate, List.length_replicate]
    exact hown
  have B1 : Hid (Below w.heap.size w w1) := (Below.refl _ _).grown hgrow (Nat.le_refl _) (by simp)
  clear hown hgrow hi hz0 hz1 hz2
  go_wp2_with fail
  go_loopw [4] (fun c wr => ∃ j : Nat, j ≤ len ∧ c = .int .i64 j ∧ Prs 129 wr w.heap.size (.slice (some ⟨w.heap.size, 0, none⟩) len len) (rs.take j ++ List.replicate (len - j) (0, 0)) ∧ Below w.heap.size w wr) (fun c _ => len - (intOf c).toNat)
  case atStart => exact ⟨0, Nat.zero_le _, rfl, by simpa using N1.out, B1.out⟩
  case round =>
    obtain ⟨j, hj, rfl, hN, hB⟩ := hrel
    have HN : Hid (Prs _ wr _ _ _) := hN
    have HB : Hid (Below _ _ _) := hB
    have hl2 : (len : Int) ≤ 1048576 := by omega
    by_cases hlt : j < len
    · rcases HR.out with ⟨_, h1, _, _⟩ | ⟨x, rfl, h1, h2, h3, h4⟩
      · omega
      have c0 := cell_keep hB (h4 j hlt).1
      have c1 := cell_keep hB (h4 j hlt).2
      have c1 : wr.cell? ⟨(x.add (j * 2)).block, (x.add (j * 2)).off + 1, none⟩ = some (.int .i64 (rs.getD j (0, 0)).2) := by
        show wr.cell? ((x.add (j * 2)).add 1) = _
        rw [Go.Deep.add_add]; exact c1
      have hll : len = (rs.take j ++ List.replicate (len - j) ((0 : Int), (0 : Int))).length := by have := hlen.out; simp; omega
      have HLL : Hid (len = (rs.take j ++ List.replicate (len - j) ((0 : Int), (0 : Int))).length) := hll
      have q0 := (hN.cell hll j hlt).1
      have q1 := (hN.cell hll j hlt).2
      have f0 := hN.free hll (j * 2)
      have f1 := hN.free hll (j * 2 + 1)
      have hI : (j : Int) < (len : Int) := by omega
      have HL : Hid (j < len) := hlt
      have gb : w.heap.size < wr.heap.size := block_of_cell q0
      have PS : Hid ((rs.take j ++ List.replicate (len - j) ((0 : Int), (0 : Int))).set j ((rs.getD j (0, 0)).1, (rs.getD j (0, 0)).2) = rs.take (j + 1) ++ List.replicate (len - (j + 1)) (0, 0)) := pairs_set rs j len (by have := hlen.out; omega) hlen.out
      generalize (rs.getD j (0, 0)).1 = p at *
      generalize (rs.getD j (0, 0)).2 = q at *
      clear h1 h2 h3 h4 hN hB hlt hll
      go_wp2_with fail
      refine (to_bell _ _ _).mono ?_
      rintro e w5 ⟨rfl, b5⟩
      have q0 := cell_keep b5 q0
      have q1 := cell_keep b5 q1
      have f0 : w5.frozen? ⟨w.heap.size, j * 2, none⟩ = false := by rw [b5.frozen (p := ⟨w.heap.size, j * 2, none⟩) gb]; exact f0
      have f1 : w5.frozen? ⟨w.heap.size, j * 2 + 1, none⟩ = false := by rw [b5.frozen (p := ⟨w.heap.size, j * 2 + 1, none⟩) gb]; exact f1
      have HN5 : Hid (Prs _ w5 _ _ _) := HN.out.keep b5
      have HB5 : Hid (Below _ w w5) := on HB.out b5
      clear b5
      go_wp2_with fail
      go_roundw
      case rel =>
        refine ⟨j + 1, by have := HL.out; omega, by go_num, ?_, ?_⟩
        · have s1 := HN5.out.store HLL.out j p q HL.out
          rw [PS.out] at s1
          exact s1
        · exact (HB5.out.setCell (by simp) _).setCell (by simp) _
      case measure => have := HL.out; simp [intOf]; omega
    · have hI : ¬ (j : Int) < (len : Int) := by omega
      obtain rfl : j = len := by omega
      clear hN hB
      go_wp2_with fail
      go_ret
      refine ⟨_, rfl, ?_, HB.out⟩
      have := HN.out
      simpa [List.take_of_length_le (Nat.le_of_eq hlen.out.symm)] using this
theorem eq_bell (a b : Int) (w : World) : Calls Tryz.prog 99 #[.agg #[.int .i64 a, .int .i64 b], .agg #[.int .i64 a, .int .i64 b]] w fun e w' => e = .returned (.bool true) ∧ Below w.heap.size w w' := by
  go_enter Tryz.func99, Tryz.ntmps99
  go_wp2_with fail
  go_ret
  exact ⟨rfl, al (al (Below.refl _ _) _) _⟩
set_option maxHeartbeats 1000000 in
theorem eq_bells (v u : Value) (rs : List (Int × Int)) (b c : Nat) (w : World) (h : Prs 129 w b v rs) (k : Prs 129 w c u rs) :
    Calls Tryz.prog 67 #[v, u] w fun e w' => e = .returned (.bool true) ∧ Below w.heap.size w w' := by
  obtain ⟨a, cap, rfl, l1, l2, hg⟩ := h.shape
  obtain ⟨a', cap', rfl, m1, m2, hg'⟩ := k.shape
  have HZ : Hid (Prs _ w b _ rs) := h
  have KZ : Hid (Prs _ w c _ rs) := k
  have hl : (rs.length : Int) ≤ 9223372036854775807 := by unfold maxLen at l2; omega
  clear h k
  obtain ⟨n, hn⟩ : ∃ n, rs.length = n := ⟨_, rfl⟩
  rw [hn] at HZ KZ hl l1 m1 hg hg' ⊢
  have HN : Hid (rs.length = n) := hn
  clear hn l1 m1 l2 m2
  go_enter Tryz.func67, Tryz.ntmps67
  go_wp2_with fail
  go_loopw [5] (fun i wr => ∃ j : Nat, j ≤ n ∧ i = .int .i64 j ∧ Below w.heap.size w wr) (fun i _ => n - (intOf i).toNat)
  case atStart => exact ⟨0, Nat.zero_le _, rfl, Below.refl _ _⟩
  case round =>
    obtain ⟨j, hj, rfl, hB⟩ := hrel
    have HB : Hid (Below _ _ _) := hB
    by_cases hlt : j < n
    · obtain ⟨g, rfl⟩ := hg (by omega)
      obtain ⟨g', rfl⟩ := hg' (by omega)
      have c1 := cell_keep hB (HZ.out.cell HN.out.symm j hlt).1
      have c2 := cell_keep hB (HZ.out.cell HN.out.symm j hlt).2
      have d1 := cell_keep hB (KZ.out.cell HN.out.symm j hlt).1
      have d2 := cell_keep hB (KZ.out.cell HN.out.symm j hlt).2
      have hI : (j : Int) < (n : Int) := by omega
      have HL : Hid (j < n) := hlt
      generalize (rs.getD j (0, 0)).1 = p at *
      generalize (rs.getD j (0, 0)).2 = q at *
      clear hB hlt hg hg'
      go_wp2_with fail
      go_region_with (go_at_call 99; refine (eq_bell _ _ _).mono ?_; rintro e y ⟨rfl, hb⟩; first | have BB := on HB.out hb | have BB := on HB.out.drew hb | have BB := on HB.out.drew.drew hb | have BB := on HB.out.drew.drew.drew hb)
      all_goals clear c1 c2 d1 d2
      all_goals go_wp2_with fail
      all_goals go_roundw
      all_goals first
        | (show ∃ _, _; exact ⟨j + 1, by have := HL.out; omega, by go_num, by first | exact BB | exact BB.drew⟩)
        | (have := HL.out; simp [intOf]; omega)
    · have hI : ¬ (j : Int) < (n : Int) := by omega
      clear hB
      go_wp2_with fail
      go_ret
      exact ⟨rfl, HB.out⟩
set_option maxHeartbeats 1000000 in
theorem sz_bells (a : Option Addr) (len cap : Nat) (k : Int) (w : World) (h : len ≤ 9223372036854775807) (h1 : 0 ≤ k) (h2 : k ≤ 1048576) :
    Calls Tryz.prog 36 #[.slice a len cap, .int .i64 k] w fun e w' => e = .returned (.int .i64 (if k - len < 0 then -1 else k - len)) ∧ w' = w := by
  have h3 : (len : Int) ≤ 9223372036854775807 := by omega
  by_cases hk : k - len < 0
  · rw [if_pos hk]
    go_enter Tryz.func36, Tryz.ntmps36
    go_wp2_with fail
    go_ret
    exact ⟨rfl, rfl⟩
  · rw [if_neg hk]
    go_enter Tryz.func36, Tryz.ntmps36
    go_wp2_with fail
    go_ret
    exact ⟨rfl, rfl⟩
theorem info_slot : (Tryz.prog.info? 123).map (fun i => (i.zero, i.size, i.bytes)) = some (some (.agg #[.int .i64 0, .int .i64 0]), 2, 16) := by kernel_rfl
theorem made_slots (m : Nat) : (madeCells #[Value.int .i64 0, Value.int .i64 0] m).toList = List.replicate m (Value.int .i64 0) := by
  apply List.ext_getElem?
  intro j
  by_cases hj : j < m
  · have h : j % 2 = 0 ∨ j % 2 = 1 := by omega
    rcases h with h | h <;> simp [madeCells, hj, h]
  · simp [madeCells, hj]
theorem to_slot (a b : Int) (w : World) : Calls Tryz.prog 84 #[.agg #[.int .i64 a, .int .i64 b]] w fun e w' => e = .returned (.agg #[.int .i64 a, .int .i64 b]) ∧ Below w.heap.size w w' := by
  go_enter Tryz.func84, Tryz.ntmps84
  go_wp2_with fail
  exact bodyPost_ret (v := .agg #[.int .i64 a, .int .i64 b]) (by simp [results, Tryz.results84, go_sem]) rfl ⟨rfl, al (al (al (Below.refl _ _) _) _) _⟩
set_option maxHeartbeats 1000000 in
theorem to_slots (a : Option Addr) (len cap : Nat) (rs : List (Int × Int)) (w : World) (h : IsPairs w a len cap rs) (hl : len ≤ 1048576) :
    Calls Tryz.prog 51 #[.slice a len cap] w fun e w' => ∃ g, e = .returned (.slice (some ⟨g, 0, none⟩) len len) ∧ Prs 123 w' w.heap.size (.slice (some ⟨g, 0, none⟩) len len) rs ∧ Below w.heap.size w w' := by
  obtain ⟨i, hi, hz0, hz1, hz2⟩ := info_parts info_slot
  have hlen : Hid (len = rs.length) := h.len
  have HR : Hid (IsPairs w a len cap rs) := h
  clear h
  go_enter Tryz.func51, Tryz.ntmps51
  go_wp2_with (at_make; refine wpList_make_full _ rfl _ _ 35 rfl w.heap.size 123 i _ 2 Tryz.underlying35 hi hz0 hz1 _ _ _ _ len rfl rfl rfl rfl (by rw [hz2]; omega) (by unfold maxLen; omega) (Nat.le_refl _) ?_; intro w1 hown hgrow)
  have N1 : Hid (Prs 123 w1 w.heap.size (.slice (some ⟨w.heap.size, 0, none⟩) len len) (List.replicate len (0, 0))) := by
    show w1.ownsRow _ _ _ _ _ _
    rw [show (Value.agg #[.int .i64 0, .int .i64 0]).cells = #[.int .i64 0, .int .i64 0] from rfl, made_slots] at hown
    rw [flat_replicate, List.length_replicate]
    exact hown
  have B1 : Hid (Below w.heap.size w w1) := (Below.refl _ _).grown hgrow (Nat.le_refl _) (by simp)
  clear hown hgrow hi hz0 hz1 hz2
  go_wp2_with fail
  go_loopw [4] (fun c wr => ∃ j : Nat, j ≤ len ∧ c = .int .i64 j ∧ Prs 123 wr w.heap.size (.slice (some ⟨w.heap.size, 0, none⟩) len len) (rs.take j ++ List.replicate (len - j) (0, 0)) ∧ Below w.heap.size w wr) (fun c _ => len - (intOf c).toNat)
  case atStart => exact ⟨0, Nat.zero_le _, rfl, by simpa using N1.out, B1.out⟩
  case round =>
    obtain ⟨j, hj, rfl, hN, hB⟩ := hrel
    have HN : Hid (Prs _ wr _ _ _) := hN
    have HB : Hid (Below _ _ _) := hB
    have hl2 : (len : Int) ≤ 1048576 := by omega
    by_cases hlt : j < len
    · rcases HR.out with ⟨_, h1, _, _⟩ | ⟨x, rfl, h1, h2, h3, h4⟩
      · omega
      have c0 := cell_keep hB (h4 j hlt).1
      have c1 := cell_keep hB (h4 j hlt).2
      have c1 : wr.cell? ⟨(x.add (j * 2)).block, (x.add (j * 2)).off + 1, none⟩ = some (.int .i64 (rs.getD j (0, 0)).2) := by
        show wr.cell? ((x.add (j * 2)).add 1) = _
        rw [Go.Deep.add_add]; exact c1
      have hll : len = (rs.take j ++ List.replicate (len - j) ((0 : Int), (0 : Int))).length := by have := hlen.out; simp; omega
      have HLL : Hid (len = (rs.take j ++ List.replicate (len - j) ((0 : Int), (0 : Int))).length) := hll
      have q0 := (hN.cell hll j hlt).1
      have q1 := (hN.cell hll j hlt).2
      have f0 := hN.free hll (j * 2)
      have f1 := hN.free hll (j * 2 + 1)
      have hI : (j : Int) < (len : Int) := by omega
      have HL : Hid (j < len) := hlt
      have gb : w.heap.size < wr.heap.size := block_of_cell q0
      have PS : Hid ((rs.take j ++ List.replicate (len - j) ((0 : Int), (0 : Int))).set j ((rs.getD j (0, 0)).1, (rs.getD j (0, 0)).2) = rs.take (j + 1) ++ List.replicate (len - (j + 1)) (0, 0)) := pairs_set rs j len (by have := hlen.out; omega) hlen.out
      generalize (rs.getD j (0, 0)).1 = p at *
      generalize (rs.getD j (0, 0)).2 = q at *
      clear h1 h2 h3 h4 hN hB hlt hll
      go_wp2_with fail
      refine (to_slot _ _ _).mono ?_
      rintro e w5 ⟨rfl, b5⟩
      have q0 := cell_keep b5 q0
      have q1 := cell_keep b5 q1
      have f0 : w5.frozen? ⟨w.heap.size, j * 2, none⟩ = false := by rw [b5.frozen (p := ⟨w.heap.size, j * 2, none⟩) gb]; exact f0
      have f1 : w5.frozen? ⟨w.heap.size, j * 2 + 1, none⟩ = false := by rw [b5.frozen (p := ⟨w.heap.size, j * 2 + 1, none⟩) gb]; exact f1
      have HN5 : Hid (Prs _ w5 _ _ _) := HN.out.keep b5
      have HB5 : Hid (Below _ w w5) := on HB.out b5
      clear b5
      go_wp2_with fail
      go_roundw
      case rel =>
        refine ⟨j + 1, by have := HL.out; omega, by go_num, ?_, ?_⟩
        · have s1 := HN5.out.store HLL.out j p q HL.out
          rw [PS.out] at s1
          exact s1
        · exact (HB5.out.setCell (by simp) _).setCell (by simp) _
      case measure => have := HL.out; simp [intOf]; omega
    · have hI : ¬ (j : Int) < (len : Int) := by omega
      obtain rfl : j = len := by omega
      clear hN hB
      go_wp2_with fail
      go_ret
      refine ⟨_, rfl, ?_, HB.out⟩
      have := HN.out
      simpa [List.take_of_length_le (Nat.le_of_eq hlen.out.symm)] using this
theorem eq_slot (a b : Int) (w : World) : Calls Tryz.prog 100 #[.agg #[.int .i64 a, .int .i64 b], .agg #[.int .i64 a, .int .i64 b]] w fun e w' => e = .returned (.bool true) ∧ Below w.heap.size w w' := by
  go_enter Tryz.func100, Tryz.ntmps100
  go_wp2_with fail
  go_ret
  exact ⟨rfl, al (al (Below.refl _ _) _) _⟩
set_option maxHeartbeats 1000000 in
theorem eq_slots (v u : Value) (rs : List (Int × Int)) (b c : Nat) (w : World) (h : Prs 123 w b v rs) (k : Prs 123 w c u rs) :
    Calls Tryz.prog 68 #[v, u] w fun e w' => e = .returned (.bool true) ∧ Below w.heap.size w w' := by
  obtain ⟨a, cap, rfl, l1, l2, hg⟩ := h.shape
  obtain ⟨a', cap', rfl, m1, m2, hg'⟩ := k.shape
  have HZ : Hid (Prs _ w b _ rs) := h
  have KZ : Hid (Prs _ w c _ rs) := k
  have hl : (rs.length : Int) ≤ 9223372036854775807 := by unfold maxLen at l2; omega
  clear h k
  obtain ⟨n, hn⟩ : ∃ n, rs.length = n := ⟨_, rfl⟩
  rw [hn] at HZ KZ hl l1 m1 hg hg' ⊢
  have HN : Hid (rs.length = n) := hn
  clear hn l1 m1 l2 m2
  go_enter Tryz.func68, Tryz.ntmps68
  go_wp2_with fail
  go_loopw [5] (fun i wr => ∃ j : Nat, j ≤ n ∧ i = .int .i64 j ∧ Below w.heap.size w wr) (fun i _ => n - (intOf i).toNat)
  case atStart => exact ⟨0, Nat.zero_le _, rfl, Below.refl _ _⟩
  case round =>
    obtain ⟨j, hj, rfl, hB⟩ := hrel
    have HB : Hid (Below _ _ _) := hB
    by_cases hlt : j < n
    · obtain ⟨g, rfl⟩ := hg (by omega)
      obtain ⟨g', rfl⟩ := hg' (by omega)
      have c1 := cell_keep hB (HZ.out.cell HN.out.symm j hlt).1
      have c2 := cell_keep hB (HZ.out.cell HN.out.symm j hlt).2
      have d1 := cell_keep hB (KZ.out.cell HN.out.symm j hlt).1
      have d2 := cell_keep hB (KZ.out.cell HN.out.symm j hlt).2
      have hI : (j : Int) < (n : Int) := by omega
      have HL : Hid (j < n) := hlt
      generalize (rs.getD j (0, 0)).1 = p at *
      generalize (rs.getD j (0, 0)).2 = q at *
      clear hB hlt hg hg'
      go_wp2_with fail
      go_region_with (go_at_call 100; refine (eq_slot _ _ _).mono ?_; rintro e y ⟨rfl, hb⟩; first | have BB := on HB.out hb | have BB := on HB.out.drew hb | have BB := on HB.out.drew.drew hb | have BB := on HB.out.drew.drew.drew hb)
      all_goals clear c1 c2 d1 d2
      all_goals go_wp2_with fail
      all_goals go_roundw
      all_goals first
        | (show ∃ _, _; exact ⟨j + 1, by have := HL.out; omega, by go_num, by first | exact BB | exact BB.drew⟩)
        | (have := HL.out; simp [intOf]; omega)
    · have hI : ¬ (j : Int) < (n : Int) := by omega
      clear hB
      go_wp2_with fail
      go_ret
      exact ⟨rfl, HB.out⟩
set_option maxHeartbeats 1000000 in
theorem sz_slots (a : Option Addr) (len cap : Nat) (k : Int) (w : World) (h : len ≤ 9223372036854775807) (h1 : 0 ≤ k) (h2 : k ≤ 1048576) :
    Calls Tryz.prog 37 #[.slice a len cap, .int .i64 k] w fun e w' => e = .returned (.int .i64 (if k - len < 0 then -1 else k - len)) ∧ w' = w := by
  have h3 : (len : Int) ≤ 9223372036854775807 := by omega
  by_cases hk : k - len < 0
  · rw [if_pos hk]
    go_enter Tryz.func37, Tryz.ntmps37
    go_wp2_with fail
    go_ret
    exact ⟨rfl, rfl⟩
  · rw [if_neg hk]
    go_enter Tryz.func37, Tryz.ntmps37
    go_wp2_with fail
    go_ret
    exact ⟨rfl, rfl⟩
structure Plc where
  own : List (List Int)
  lanes : List Ln
  bells : List (Int × Int)
  plan : List (Int × Int)
def pgOk (x : Int) : Bool := decide (0 ≤ x) && decide (x ≤ 23)
def guestsV : List (List Int) → Int
  | [] => 0
  | o :: t => if o.length < 1 ∨ 5 < o.length then 2 else if o.all pgOk = false then 3 else guestsV t
def dupF (seen : List Int) : List Int → Bool
  | [] => false
  | z :: t => if z ∈ seen then true else dupF (seen ++ [z]) t
def ownerFrom (i : Int) : List (List Int) → Int → Int
  | [], _ => -1
  | o :: t, pg => if pg ∈ o then i else ownerFrom (i + 1) t pg
def isG (n : Nat) (g : Int) : Bool := decide (0 ≤ g) && decide (g ≤ (n : Int) - 1)
def endsV (n : Nat) (f t : Int) : Int := if isG n f = false ∨ isG n t = false then 4 else if f = t then 1 else 0
def usesV (l : Ln) (g p : Int) : Bool := decide (l.fr = g ∧ l.af = p ∨ l.dst = g ∧ l.tt = p)
def meetV (o l : Ln) : Bool := decide (o.pg = l.pg) || usesV o l.fr l.af || usesV o l.dst l.tt
def atOk (x : Int) : Bool := decide (5 ≤ x) && decide (x ≤ 6)
def stOk (x : Int) : Bool := decide (1 ≤ x) && decide (x ≤ 50)
def laneV (own : List (List Int)) (ahead : List Ln) (l : Ln) : Int :=
  if endsV own.length l.fr l.dst = 0 then
    if pgOk l.pg = false ∨ atOk l.af = false ∨ atOk l.tt = false then 3
    else if 0 ≤ ownerFrom 0 own l.pg then 6 else if ahead.any (fun o => meetV o l) then 6 else 0
  else endsV own.length l.fr l.dst
def lanesV (own : List (List Int)) (ahead : List Ln) : List Ln → Int
  | [] => 0
  | l :: t => if laneV own ahead l = 0 then lanesV own (ahead ++ [l]) t else laneV own ahead l
def bellV (n : Nat) (ahead : List (Int × Int)) (b : Int × Int) : Int := if endsV n b.1 b.2 = 0 then (if b ∈ ahead then 6 else 0) else endsV n b.1 b.2
def bellsV (n : Nat) (ahead : List (Int × Int)) : List (Int × Int) → Int
  | [] => 0
  | b :: t => if bellV n ahead b = 0 then bellsV n (ahead ++ [b]) t else bellV n ahead b
def slotV (n : Nat) (s : Int × Int) : Int := if isG n s.1 = false then 4 else if stOk s.2 = false then 3 else 0
def slotsV (n : Nat) : List (Int × Int) → Int
  | [] => 0
  | s :: t => if slotV n s = 0 then slotsV n t else slotV n s
def g1V (own : List (List Int)) : Int := if own.length < 1 ∨ 3 < own.length then 2 else guestsV own
def g2V (own : List (List Int)) : Int := if dupF [] own.flatten then 6 else 0
def g3V (P : Plc) : Int := if 4 < P.lanes.length ∨ 4 < P.bells.length then 2 else 0
def g6V (P : Plc) : Int := if P.plan.length < 1 ∨ 8 < P.plan.length then 2 else slotsV P.own.length P.plan
def orV (a b : Int) : Int := if a = 0 then b else a
def ownsV (P : Plc) : Int := orV (g1V P.own) (g2V P.own)
def linksV (P : Plc) : Int := orV (g3V P) (lanesV P.own [] P.lanes)
def restV (P : Plc) : Int := orV (bellsV P.own.length [] P.bells) (g6V P)
def pfV (P : Plc) : Int := orV (ownsV P) (orV (linksV P) (restV P))
theorem take_succ_getD {α : Type} (zs : List α) (d : α) (j : Nat) (h : j < zs.length) : zs.take (j + 1) = zs.take j ++ [zs.getD j d] := by
  rw [List.take_add_one, List.getElem?_eq_getElem h, List.getD, List.getElem?_eq_getElem h]
  simp
theorem drop_cons_getD {α : Type} (zs : List α) (d : α) (j : Nat) (h : j < zs.length) : zs.drop j = zs.getD j d :: zs.drop (j + 1) := by
  rw [List.drop_eq_getElem_cons h, List.getD, List.getElem?_eq_getElem h]
  simp
theorem guests_step (own : List (List Int)) (j : Nat) (h : j < own.length) : guestsV (own.drop j) =
    if (own.getD j []).length < 1 ∨ 5 < (own.getD j []).length then 2 else if (own.getD j []).all pgOk = false then 3 else guestsV (own.drop (j + 1)) := by
  rw [drop_cons_getD own [] j h, guestsV]
theorem all_step (zs : List Int) (f : Int → Bool) (j : Nat) (h : j < zs.length) : (zs.drop j).all f = (f (zs.getD j 0) && (zs.drop (j + 1)).all f) := by
  rw [drop_cons_getD zs 0 j h, List.all_cons]
theorem any_step {α : Type} (d : α) (zs : List α) (f : α → Bool) (j : Nat) (h : j < zs.length) : (zs.drop j).any f = (f (zs.getD j d) || (zs.drop (j + 1)).any f) := by
  rw [drop_cons_getD zs d j h, List.any_cons]
theorem owner_step (own : List (List Int)) (pg : Int) (j : Nat) (h : j < own.length) : ownerFrom j (own.drop j) pg = if pg ∈ own.getD j [] then (j : Int) else ownerFrom ((j + 1 : Nat) : Int) (own.drop (j + 1)) pg := by
  rw [drop_cons_getD own [] j h, ownerFrom]
  rfl
theorem lanes_step (own : List (List Int)) (zs : List Ln) (j : Nat) (h : j < zs.length) : lanesV own (zs.take j) (zs.drop j) =
    if laneV own (zs.take j) (zs.getD j lz) = 0 then lanesV own (zs.take (j + 1)) (zs.drop (j + 1)) else laneV own (zs.take j) (zs.getD j lz) := by
  rw [drop_cons_getD zs lz j h, lanesV, take_succ_getD zs lz j h]
theorem bells_step (n : Nat) (zs : List (Int × Int)) (j : Nat) (h : j < zs.length) : bellsV n (zs.take j) (zs.drop j) =
    if bellV n (zs.take j) (zs.getD j (0, 0)) = 0 then bellsV n (zs.take (j + 1)) (zs.drop (j + 1)) else bellV n (zs.take j) (zs.getD j (0, 0)) := by
  rw [drop_cons_getD zs (0, 0) j h, bellsV, take_succ_getD zs (0, 0) j h]
theorem slots_step (n : Nat) (zs : List (Int × Int)) (j : Nat) (h : j < zs.length) : slotsV n (zs.drop j) =
    if slotV n (zs.getD j (0, 0)) = 0 then slotsV n (zs.drop (j + 1)) else slotV n (zs.getD j (0, 0)) := by
  rw [drop_cons_getD zs (0, 0) j h, slotsV]
def seenAt (own : List (List Int)) (i k : Nat) : List Int := (own.take i).flatten ++ (own.getD i []).take k
def leftAt (own : List (List Int)) (i k : Nat) : List Int := (own.getD i []).drop k ++ (own.drop (i + 1)).flatten
theorem dup_step (own : List (List Int)) (i k : Nat) (h : k < (own.getD i []).length) : dupF (seenAt own i k) (leftAt own i k) =
    if (own.getD i []).getD k 0 ∈ seenAt own i k then true else dupF (seenAt own i (k + 1)) (leftAt own i (k + 1)) := by
  unfold leftAt seenAt
  rw [drop_cons_getD _ 0 k h, List.cons_append, dupF, take_succ_getD _ 0 k h, List.append_assoc]
theorem guests_all (own : List (List Int)) (h : guestsV own = 0) : ∀ o ∈ own, 1 ≤ o.length ∧ o.length ≤ 5 ∧ ∀ x ∈ o, 0 ≤ x ∧ x ≤ 23 := by
  induction own with
  | nil => intro o ho; cases ho
  | cons a t ih =>
    rw [guestsV] at h
    split at h
    · cases h
    · rename_i h1
      split at h
      · cases h
      · rename_i h2
        intro o ho
        rcases List.mem_cons.1 ho with rfl | ho
        · refine ⟨by omega, by omega, fun x hx => ?_⟩
          have h3 : o.all pgOk = true := by simpa using h2
          have := (List.all_eq_true.1 h3) x hx
          simpa [pgOk] using this
        · exact ih h o ho
theorem owner_range (own : List (List Int)) (pg : Int) : ∀ i : Int, 0 ≤ i → ownerFrom i own pg = -1 ∨ (i ≤ ownerFrom i own pg ∧ ownerFrom i own pg < i + own.length) := by
  induction own with
  | nil => intro i _; exact .inl rfl
  | cons o t ih =>
    intro i hi
    rw [ownerFrom]
    split
    · right; simp; omega
    · rcases ih (i + 1) (by omega) with h | h
      · exact .inl h
      · right; simp only [List.length_cons]; omega
def IsNs (w : World) (a : Option Addr) (len cap : Nat) (zs : List Int) : Prop :=
  (a = none ∧ len = 0 ∧ cap = 0 ∧ zs = []) ∨
  ∃ x, a = some x ∧ len ≤ cap ∧ cap ≤ maxLen ∧ zs.length = len ∧ ∀ i, i < len → w.cell? (x.add i) = some (.int .i64 (zs.getD i 0))
theorem IsNs.stay {w w' : World} {a : Option Addr} {len cap : Nat} {zs : List Int} (h : IsNs w a len cap zs) (b : Below w.heap.size w w') : IsNs w' a len cap zs := by
  rcases h with h | ⟨x, rfl, h1, h2, h3, h4⟩
  · exact .inl h
  · exact .inr ⟨x, rfl, h1, h2, h3, fun i hi => cell_keep b (h4 i hi)⟩
theorem IsNs.len {w : World} {a : Option Addr} {len cap : Nat} {zs : List Int} (h : IsNs w a len cap zs) : len = zs.length := by
  rcases h with ⟨_, h1, _, rfl⟩ | ⟨x, _, _, _, h1, _⟩
  · simpa using h1
  · exact h1.symm
theorem IsNs.cap {w : World} {a : Option Addr} {len cap : Nat} {zs : List Int} (h : IsNs w a len cap zs) : len ≤ cap ∧ cap ≤ maxLen := by
  rcases h with ⟨_, h1, h2, _⟩ | ⟨x, _, h1, h2, _⟩
  · subst h1 h2; exact ⟨Nat.le_refl _, Nat.zero_le _⟩
  · exact ⟨h1, h2⟩
theorem Nums.read {w : World} {base n cap : Nat} {a : Option Addr} {zs : List Int} (h : Nums w base (.slice a n cap) zs) : IsNs w a n cap zs := by
  obtain ⟨a', cap', hv, l1, l2, hg⟩ := h.shape
  cases hv
  by_cases hz : 0 < zs.length
  · obtain ⟨g, rfl⟩ := hg hz
    refine .inr ⟨_, rfl, l1, l2, rfl, fun i hi => ?_⟩
    have := h.cell rfl i hi
    simpa [Addr.add_lit] using this
  · have h0 : zs = [] := by cases zs with
      | nil => rfl
      | cons x t => exact absurd (Nat.succ_pos _) hz
    subst h0
    cases a with
    | none =>
      obtain ⟨h1, ⟨hq, h3⟩ | ⟨g, cap, cur, hq, _⟩⟩ := h
      · cases hq; exact .inl ⟨rfl, rfl, rfl, rfl⟩
      · cases hq
    | some x => exact .inr ⟨x, rfl, l1, l2, rfl, fun i hi => absurd hi (Nat.not_lt_zero _)⟩
theorem Prs.read {e : TypeId} {w : World} {base n cap : Nat} {a : Option Addr} {rs : List (Int × Int)} (h : Prs e w base (.slice a n cap) rs) : IsPairs w a n cap rs := by
  obtain ⟨a', cap', hv, l1, l2, hg⟩ := h.shape
  cases hv
  by_cases hz : 0 < rs.length
  · obtain ⟨g, rfl⟩ := hg hz
    refine .inr ⟨_, rfl, l1, l2, rfl, fun i hi => ?_⟩
    have := h.cell rfl i hi
    simpa [Addr.add_lit] using this
  · have h0 : rs = [] := by cases rs with
      | nil => rfl
      | cons x t => exact absurd (Nat.succ_pos _) hz
    subst h0
    cases a with
    | none =>
      obtain ⟨h1, ⟨hq, h3⟩ | ⟨g, cap, cur, hq, _⟩⟩ := h
      · cases hq; exact .inl ⟨rfl, rfl, rfl, rfl⟩
      · cases hq
    | some x => exact .inr ⟨x, rfl, l1, l2, rfl, fun i hi => absurd hi (Nat.not_lt_zero _)⟩
theorem IsPairs.cap {w : World} {a : Option Addr} {len cap : Nat} {rs : List (Int × Int)} (h : IsPairs w a len cap rs) : len ≤ cap ∧ cap ≤ maxLen := by
  rcases h with ⟨_, h1, h2, _⟩ | ⟨x, _, h1, h2, _, _⟩
  · subst h1 h2; exact ⟨Nat.le_refl _, Nat.zero_le _⟩
  · exact ⟨h1, h2⟩
def IsSS (w : World) (a : Option Addr) (len cap : Nat) (oss : List (List Int)) : Prop :=
  (a = none ∧ len = 0 ∧ cap = 0 ∧ oss = []) ∨
  ∃ x, a = some x ∧ len ≤ cap ∧ cap ≤ maxLen ∧ oss.length = len ∧ ∀ i, i < len → ∃ b l c, w.cell? (x.add i) = some (.slice b l c) ∧ IsRow .i64 w b l c (oss.getD i [])
theorem IsSS.stay {w w' : World} {a : Option Addr} {len cap : Nat} {oss : List (List Int)} (h : IsSS w a len cap oss) (b : Below w.heap.size w w') : IsSS w' a len cap oss := by
  rcases h with h | ⟨x, rfl, h1, h2, h3, h4⟩
  · exact .inl h
  · refine .inr ⟨x, rfl, h1, h2, h3, fun i hi => ?_⟩
    obtain ⟨p, l, c, k1, k2⟩ := h4 i hi
    exact ⟨p, l, c, cell_keep b k1, k2.stay b⟩
theorem IsSS.len {w : World} {a : Option Addr} {len cap : Nat} {oss : List (List Int)} (h : IsSS w a len cap oss) : len = oss.length := by
  rcases h with ⟨_, h1, _, rfl⟩ | ⟨x, _, _, _, h1, _⟩
  · simpa using h1
  · exact h1.symm
theorem IsSS.cap {w : World} {a : Option Addr} {len cap : Nat} {oss : List (List Int)} (h : IsSS w a len cap oss) : len ≤ cap ∧ cap ≤ maxLen := by
  rcases h with ⟨_, h1, h2, _⟩ | ⟨x, _, h1, h2, _, _⟩
  · subst h1 h2; exact ⟨Nat.le_refl _, Nat.zero_le _⟩
  · exact ⟨h1, h2⟩
def IsS2 (w : World) (a : Option Addr) (len cap : Nat) (oss : List (List Int)) : Prop :=
  (a = none ∧ len = 0 ∧ cap = 0 ∧ oss = []) ∨
  ∃ x, a = some x ∧ len ≤ cap ∧ cap ≤ maxLen ∧ oss.length = len ∧ ∀ i, i < len → ∃ b l c, w.cell? (x.add i) = some (.slice b l c) ∧ IsNs w b l c (oss.getD i [])
theorem IsS2.stay {w w' : World} {a : Option Addr} {len cap : Nat} {oss : List (List Int)} (h : IsS2 w a len cap oss) (b : Below w.heap.size w w') : IsS2 w' a len cap oss := by
  rcases h with h | ⟨x, rfl, h1, h2, h3, h4⟩
  · exact .inl h
  · refine .inr ⟨x, rfl, h1, h2, h3, fun i hi => ?_⟩
    obtain ⟨p, l, c, k1, k2⟩ := h4 i hi
    exact ⟨p, l, c, cell_keep b k1, k2.stay b⟩
theorem IsS2.len {w : World} {a : Option Addr} {len cap : Nat} {oss : List (List Int)} (h : IsS2 w a len cap oss) : len = oss.length := by
  rcases h with ⟨_, h1, _, rfl⟩ | ⟨x, _, _, _, h1, _⟩
  · simpa using h1
  · exact h1.symm
theorem IsS2.cap {w : World} {a : Option Addr} {len cap : Nat} {oss : List (List Int)} (h : IsS2 w a len cap oss) : len ≤ cap ∧ cap ≤ maxLen := by
  rcases h with ⟨_, h1, h2, _⟩ | ⟨x, _, h1, h2, _, _⟩
  · subst h1 h2; exact ⟨Nat.le_refl _, Nat.zero_le _⟩
  · exact ⟨h1, h2⟩
theorem IsS2.at {w : World} {a : Option Addr} {len cap : Nat} {oss : List (List Int)} (h : IsS2 w a len cap oss) (i : Nat) (hi : i < len) : ∃ x b l c, a = some x ∧ w.cell? (x.add i) = some (.slice b l c) ∧ IsNs w b l c (oss.getD i []) := by
  rcases h with ⟨_, h1, _, _⟩ | ⟨x, rfl, h1, h2, h3, h4⟩
  · omega
  · obtain ⟨b, l, c, k1, k2⟩ := h4 i hi
    exact ⟨x, b, l, c, rfl, k1, k2⟩
theorem IsLanes.at {w : World} {a : Option Addr} {n c : Nat} {rs : List Ln} (h : IsLanes w a n c rs) (j : Nat) (hj : j < n) : ∃ x, a = some x ∧ w.cell? (x.add (j * 5)) = some (.int .i64 (rs.getD j lz).fr) ∧
    w.cell? ⟨(x.add (j * 5)).block, (x.add (j * 5)).off + 1, none⟩ = some (.int .i64 (rs.getD j lz).dst) ∧ w.cell? ⟨(x.add (j * 5)).block, (x.add (j * 5)).off + 2, none⟩ = some (.int .i64 (rs.getD j lz).pg) ∧
    w.cell? ⟨(x.add (j * 5)).block, (x.add (j * 5)).off + 3, none⟩ = some (.int .i64 (rs.getD j lz).af) ∧ w.cell? ⟨(x.add (j * 5)).block, (x.add (j * 5)).off + 4, none⟩ = some (.int .i64 (rs.getD j lz).tt) := by
  rcases h with ⟨_, h1, _, _⟩ | ⟨x, rfl, h1, h2, h3, h4⟩
  · omega
  · obtain ⟨k0, k1, k2, k3, k4⟩ := h4 j hj
    refine ⟨x, rfl, k0, ?_, ?_, ?_, ?_⟩
    · show w.cell? ((x.add (j * 5)).add 1) = _
      rw [Go.Deep.add_add]; exact k1
    · show w.cell? ((x.add (j * 5)).add 2) = _
      rw [Go.Deep.add_add]; exact k2
    · show w.cell? ((x.add (j * 5)).add 3) = _
      rw [Go.Deep.add_add]; exact k3
    · show w.cell? ((x.add (j * 5)).add 4) = _
      rw [Go.Deep.add_add]; exact k4
theorem IsPairs.at {w : World} {a : Option Addr} {n c : Nat} {rs : List (Int × Int)} (h : IsPairs w a n c rs) (j : Nat) (hj : j < n) : ∃ x, a = some x ∧ w.cell? (x.add (j * 2)) = some (.int .i64 (rs.getD j (0, 0)).1) ∧
    w.cell? ⟨(x.add (j * 2)).block, (x.add (j * 2)).off + 1, none⟩ = some (.int .i64 (rs.getD j (0, 0)).2) := by
  rcases h with ⟨_, h1, _, _⟩ | ⟨x, rfl, h1, h2, h3, h4⟩
  · omega
  · obtain ⟨k0, k1⟩ := h4 j hj
    refine ⟨x, rfl, k0, ?_⟩
    show w.cell? ((x.add (j * 2)).add 1) = _
    rw [Go.Deep.add_add]; exact k1
structure Pl (w : World) (a0 : Option Addr) (n0 c0 : Nat) (a1 : Option Addr) (n1 c1 : Nat) (a2 : Option Addr) (n2 c2 : Nat) (a3 : Option Addr) (n3 c3 : Nat) (P : Plc) : Prop where
  own : IsS2 w a0 n0 c0 P.own
  lanes : IsLanes w a1 n1 c1 P.lanes
  bells : IsPairs w a2 n2 c2 P.bells
  plan : IsPairs w a3 n3 c3 P.plan
theorem Pl.stay {w w' : World} {a0 a1 a2 a3 : Option Addr} {n0 c0 n1 c1 n2 c2 n3 c3 : Nat} {P : Plc} (h : Pl w a0 n0 c0 a1 n1 c1 a2 n2 c2 a3 n3 c3 P) (b : Below w.heap.size w w') : Pl w' a0 n0 c0 a1 n1 c1 a2 n2 c2 a3 n3 c3 P :=
  ⟨h.own.stay b, h.lanes.stay b, h.bells.stay b, h.plan.stay b⟩
structure BW (W : World) where
  w : World
  h : Below W.heap.size W w
theorem region_bw {id : Nat} {Q : Exit → Act → World → Prop} {a : Act} {W : World} {l : List Oper} (hB : Region.lexB .any l.toArray = true)
    (h : wpQuiet Tryz.prog l.toArray (fun w' => ∃ p : BW W, w' = p.w) (fun a' => ∀ w', (∃ p : BW W, w' = p.w) → Q .normal a' w') l a) : (Code.region id l.toArray true).wp Tryz.prog Q a W :=
  wp_region_quiet (C := fun w' => ∃ p : BW W, w' = p.w) (by kernel_rfl) hB ⟨⟨{ W with drawn := W.drawn + 1 }, (Below.refl _ _).drew⟩, rfl⟩ (by simpa using h)
theorem calls_bw {f : FuncId} {args : Array Value} {W : World} {p : BW W} {v : Value}
    (h : Calls Tryz.prog f args p.w fun e w' => e = .returned v ∧ Below p.w.heap.size p.w w') : Calls Tryz.prog f args p.w fun e w'' => e = .returned v ∧ ∃ q : BW W, w'' = q.w :=
  h.mono fun _ w' ⟨he, hb⟩ => ⟨he, ⟨w', on p.h hb⟩, rfl⟩
theorem BW.cell {W : World} {a : Addr} {v : Value} (h : W.cell? a = some v) (p : BW W) : p.w.cell? a = some v := cell_keep p.h h
theorem sz_nums (a : Option Addr) (len cap : Nat) (k : Int) (w : World) (h : len ≤ 9223372036854775807) (h1 : 0 ≤ k) (h2 : k ≤ 1048576) :
    Calls Tryz.prog 17 #[.slice a len cap, .int .i64 k] w fun e w' => e = .returned (.int .i64 (if k - len < 0 then -1 else k - len)) ∧ w' = w := by
  have h3 : (len : Int) ≤ 9223372036854775807 := by omega
  by_cases hk : k - len < 0
  · rw [if_pos hk]
    go_enter Tryz.func17, Tryz.ntmps17
    go_wp2_with fail
    go_ret
    exact ⟨rfl, rfl⟩
  · rw [if_neg hk]
    go_enter Tryz.func17, Tryz.ntmps17
    go_wp2_with fail
    go_ret
    exact ⟨rfl, rfl⟩
theorem IsRow.lens {k : IntKind} {w : World} {a : Option Addr} {len cap : Nat} {zs : List Int} (h : IsRow k w a len cap zs) : len = zs.length ∧ len ≤ 9223372036854775807 := by
  rcases h with ⟨_, h1, _, rfl⟩ | ⟨x, _, h1, h2, h3, _⟩
  · exact ⟨by simpa using h1, by omega⟩
  · exact ⟨h3.symm, by unfold maxLen at h2; omega⟩
theorem IsSS.at {w : World} {a : Option Addr} {len cap : Nat} {oss : List (List Int)} (h : IsSS w a len cap oss) (i : Nat) (hi : i < len) : ∃ x b l c, a = some x ∧ w.cell? (x.add i) = some (.slice b l c) ∧ IsRow .i64 w b l c (oss.getD i []) := by
  rcases h with ⟨_, h1, _, _⟩ | ⟨x, rfl, h1, h2, h3, h4⟩
  · omega
  · obtain ⟨b, l, c, k1, k2⟩ := h4 i hi
    exact ⟨x, b, l, c, rfl, k1, k2⟩
set_option maxHeartbeats 1000000 in
theorem sz_ss (a : Option Addr) (n c : Nat) (k : Int) (oss : List (List Int)) (w : World) (h : IsSS w a n c oss) (h1 : 0 ≤ k) (h2 : k ≤ 1048576) :
    Calls Tryz.prog 34 #[.slice a n c, .int .i64 k] w fun e w' => (∃ r : Int, e = .returned (.int .i64 r) ∧ r ≤ 1048576 ∧ (0 ≤ r → n ≤ 1048576 ∧ ∀ i, i < n → (oss.getD i []).length ≤ 1048576)) ∧ w' = w := by
  have HR : Hid (IsSS w a n c oss) := h
  have hmax : (n : Int) ≤ 9223372036854775807 := by have := h.cap; unfold maxLen at this; omega
  clear h
  by_cases hk : k - n < 0
  · go_enter Tryz.func34, Tryz.ntmps34
    go_wp2_with fail
    go_ret
    exact ⟨⟨-1, rfl, by omega, fun h => by omega⟩, rfl⟩
  have HN : Hid (n ≤ 1048576) := by show _ ≤ _; omega
  have hb0 : 0 ≤ k - n := by omega
  have hb1 : k - n ≤ 1048576 := by omega
  go_enter Tryz.func34, Tryz.ntmps34
  go_wp2_with fail
  generalize k - (n : Int) = r0 at *
  clear hk h1 h2
  go_loop [1, 5] (fun u c => ∃ (j : Nat) (r : Int), j ≤ n ∧ c = .int .i64 j ∧ u = .int .i64 r ∧ 0 ≤ r ∧ r ≤ 1048576 ∧ Hid (∀ i, i < j → (oss.getD i []).length ≤ 1048576)) (fun _ c => n - (intOf c).toNat)
  case atStart => exact ⟨0, r0, Nat.zero_le _, rfl, rfl, hb0, hb1, fun i hi => absurd hi (Nat.not_lt_zero _)⟩
  case round =>
    obtain ⟨j, r, hj, rfl, rfl, hr0, hr1, hI⟩ := hrel
    by_cases hlt : j < n
    · obtain ⟨x, b, l, c, rfl, k1, k2⟩ := HR.out.at j hlt
      have HLL : Hid (l = (oss.getD j []).length) := k2.lens.1
      have HLM : Hid (l ≤ 9223372036854775807) := k2.lens.2
      have hJ : (j : Int) < (n : Int) := by omega
      have HLT : Hid (j < n) := hlt
      clear k2 hlt
      by_cases hz : r - l < 0
      · go_wp2_with (go_at_call 17; refine (sz_nums _ _ _ _ _ HLM.out hr0 hr1).mono ?_; rintro e w ⟨rfl, rfl⟩; rw [if_pos hz])
        go_ret
        exact ⟨⟨-1, rfl, by omega, fun h => by omega⟩, rfl⟩
      · have e0 : 0 ≤ r - l := by omega
        have e1 : r - l ≤ 1048576 := by omega
        have HL2 : Hid (l ≤ 1048576) := by show _ ≤ _; omega
        go_wp2_with (go_at_call 17; refine (sz_nums _ _ _ _ _ HLM.out hr0 hr1).mono ?_; rintro e w ⟨rfl, rfl⟩; rw [if_neg hz])
        go_round
        case rel =>
          refine ⟨j + 1, r - l, by have := HLT.out; omega, by go_num, rfl, e0, e1, fun i hi => ?_⟩
          rcases Nat.lt_or_ge i j with h | h
          · exact hI.out i h
          · obtain rfl : i = j := by omega
            have := HL2.out; have := HLL.out; omega
        case measure => have := HLT.out; simp [intOf]; omega
    · have hJ : ¬ (j : Int) < (n : Int) := by omega
      have HJ : Hid (j = n) := by show _ = _; omega
      clear hlt
      go_wp2_with fail
      go_ret
      exact ⟨⟨r, rfl, hr1, fun _ => ⟨HN.out, fun i hi => hI.out i (by have := HJ.out; omega)⟩⟩, rfl⟩
structure SSo (w : World) (base g n : Nat) (oss : List (List Int)) : Prop where
  len : n = oss.length
  small : n ≤ 1048576
  low : base ≤ g
  row : ∀ i, i < n → ∃ b l c, w.cell? ⟨g, i, none⟩ = some (.slice b l c) ∧ Nums w base (.slice b l c) (oss.getD i [])
theorem SSo.keep {w w' : World} {base g n : Nat} {oss : List (List Int)} (h : SSo w base g n oss) (b : Below w.heap.size w w') : SSo w' base g n oss :=
  ⟨h.len, h.small, h.low, fun i hi => by
    obtain ⟨x, l, c, k1, k2⟩ := h.row i hi
    exact ⟨x, l, c, cell_keep b k1, k2.keep b⟩⟩
theorem SSo.read {w : World} {base g n : Nat} {oss : List (List Int)} (h : SSo w base g n oss) : IsS2 w (some ⟨g, 0, none⟩) n n oss :=
  .inr ⟨⟨g, 0, none⟩, rfl, Nat.le_refl _, by have := h.small; unfold maxLen; omega, h.len.symm, fun i hi => by
    obtain ⟨x, l, c, k1, k2⟩ := h.row i hi
    exact ⟨x, l, c, by simpa [Addr.add_lit] using k1, k2.read⟩⟩
theorem info_sl : (Tryz.prog.info? 28).map (fun i => (i.zero, i.size, i.bytes)) = some (some (.slice none 0 0), 1, 24) := by kernel_rfl
set_option maxHeartbeats 2000000 in
theorem to_ss (a : Option Addr) (len cap : Nat) (oss : List (List Int)) (w : World) (h : IsSS w a len cap oss) (hl : len ≤ 1048576) (hs : ∀ i, i < len → (oss.getD i []).length ≤ 1048576) :
    Calls Tryz.prog 48 #[.slice a len cap] w fun e w' => ∃ g, e = .returned (.slice (some ⟨g, 0, none⟩) len len) ∧ SSo w' w.heap.size g len oss ∧ Below w.heap.size w w' := by
  obtain ⟨i, hi, hz0, hz1, hz2⟩ := info_parts info_sl
  have hlen : Hid (len = oss.length) := h.len
  have HR : Hid (IsSS w a len cap oss) := h
  have HS : Hid (∀ i, i < len → (oss.getD i []).length ≤ 1048576) := hs
  have HSM : Hid (len ≤ 1048576) := hl
  clear h hs
  go_enter Tryz.func48, Tryz.ntmps48
  go_wp2_with (at_make; refine wpList_make_full _ rfl _ _ 22 rfl w.heap.size 28 i _ 1 Tryz.underlying22 hi hz0 hz1 _ _ _ _ len rfl rfl rfl rfl (by rw [hz2]; omega) (by unfold maxLen; omega) (Nat.le_refl _) ?_; intro w1 hown hgrow)
  have N1 : Hid (w1.ownsRow w.heap.size 28 1 (.slice (some ⟨w.heap.size, 0, none⟩) len len) len (List.replicate len (.slice none 0 0))) := by
    show w1.ownsRow _ _ _ _ _ _
    rw [Nat.mul_one, show (Value.slice none 0 0).cells = #[.slice none 0 0] from rfl, toList_madeCells_one] at hown
    exact hown
  have B1 : Hid (Below w.heap.size w w1) := (Below.refl _ _).grown hgrow (Nat.le_refl _) (by simp)
  clear hown hgrow hi hz0 hz1 hz2
  go_wp2_with fail
  go_loopw [4] (fun c wr => ∃ (j : Nat) (vs : List Value), j ≤ len ∧ c = .int .i64 j ∧ wr.ownsRow w.heap.size 28 1 (.slice (some ⟨w.heap.size, 0, none⟩) len len) len vs ∧ Below w.heap.size w wr ∧
    (∀ i, i < j → ∃ b l c, vs[i]? = some (.slice b l c) ∧ Nums wr (w.heap.size + 1) (.slice b l c) (oss.getD i []))) (fun c _ => len - (intOf c).toNat)
  case atStart => exact ⟨0, _, Nat.zero_le _, rfl, N1.out, B1.out, fun i hi => absurd hi (Nat.not_lt_zero _)⟩
  case round =>
    obtain ⟨j, vs, hj, rfl, hN, hB, hV⟩ := hrel
    have HN : Hid (wr.ownsRow _ _ _ _ _ vs) := hN
    have HB : Hid (Below _ w wr) := hB
    have HV : Hid (∀ i, i < j → ∃ b l c, vs[i]? = some (.slice b l c) ∧ Nums wr (w.heap.size + 1) (.slice b l c) (oss.getD i [])) := hV
    have hl2 : (len : Int) ≤ 1048576 := by omega
    have hvl : vs.length = len := by have := hN.1; simpa using this
    by_cases hlt : j < len
    · obtain ⟨x, b, l, c, rfl, k1, k2⟩ := HR.out.at j hlt
      have k1 := cell_keep hB k1
      have HK : Hid (IsRow .i64 wr b l c _) := k2.stay hB
      have HL5 : Hid (l ≤ 1048576) := by have := k2.lens.1; have := HS.out j hlt; show _ ≤ _; omega
      have c0 : wr.cell? ⟨w.heap.size, j, none⟩ = some (vs.getD j (.slice none 0 0)) := by
        have := World.ownsRow.cellAt hN j (by omega)
        rw [this, List.getElem?_eq_getElem (by omega), List.getD, List.getElem?_eq_getElem (by omega)]
        rfl
      have f0 : wr.frozen? ⟨w.heap.size, j, none⟩ = false := World.ownsRow.frozenAt hN j
      have gb : w.heap.size < wr.heap.size := block_of_cell c0
      have hI : (j : Int) < (len : Int) := by omega
      have HL : Hid (j < len) := hlt
      have HVL : Hid (vs.length = len) := hvl
      generalize vs.getD j (.slice none 0 0) = old at *
      clear hN hB hV hlt k2 hvl
      go_wp2_with fail
      refine (to_nums _ _ _ _ _ HK.out HL5.out).mono ?_
      rintro e w5 ⟨g5, rfl, n5, b5⟩
      have c0 := cell_keep b5 c0
      have f0 : w5.frozen? ⟨w.heap.size, j, none⟩ = false := by rw [b5.frozen (p := ⟨w.heap.size, j, none⟩) gb]; exact f0
      have HN5 : Hid (w5.ownsRow w.heap.size 28 1 (.slice (some ⟨w.heap.size, 0, none⟩) len len) len vs) := World.ownsRow.kept HN.out (below_grown b5 none) (by cases (Value.slice (some ⟨w.heap.size, 0, none⟩) len len).ownBlock <;> simp)
      have HB5 : Hid (Below _ w w5) := on HB.out b5
      have HV5 : Hid (∀ i, i < j → ∃ b l c, vs[i]? = some (.slice b l c) ∧ Nums w5 (w.heap.size + 1) (.slice b l c) (oss.getD i [])) := fun i hi => by
        obtain ⟨b, l, c, e1, e2⟩ := HV.out i hi
        exact ⟨b, l, c, e1, e2.keep b5⟩
      have n5' : Hid (Nums w5 (w.heap.size + 1) (.slice (some ⟨g5, 0, none⟩) l l) (oss.getD j [])) := n5.mono (by omega)
      clear b5 n5
      go_wp2_with fail
      go_roundw
      case rel =>
        have ne : ∀ {v : Value} {zs : List Int}, Nums w5 (w.heap.size + 1) v zs → v.ownBlock ≠ some w.heap.size := fun hn e => by have := (hn.lt _ e).1; omega
        refine ⟨j + 1, vs.set j (.slice (some ⟨g5, 0, none⟩) l l), by have := HL.out; omega, by go_num, (World.ownsRow.stored HN5.out j _).1, HB5.out.setCell (by simp) _, fun i hi => ?_⟩
        by_cases e : i = j
        · subst e
          exact ⟨_, _, _, List.getElem?_set_self (by have := HL.out; have := HVL.out; omega), n5'.out.put _ _ (ne n5'.out)⟩
        · obtain ⟨b, l, c, e1, e2⟩ := HV5.out i (by omega)
          exact ⟨b, l, c, by rw [List.getElem?_set_ne (fun h => e h.symm)]; exact e1, e2.put _ _ (ne e2)⟩
      case measure => have := HL.out; simp [intOf]; omega
    · have hI : ¬ (j : Int) < (len : Int) := by omega
      obtain rfl : j = len := by omega
      clear hN hB hV
      go_wp2_with fail
      go_ret
      refine ⟨_, rfl, ⟨hlen.out, HSM.out, Nat.le_refl _, fun i hi => ?_⟩, HB.out⟩
      obtain ⟨b, l, c, e1, e2⟩ := HV.out i hi
      refine ⟨b, l, c, ?_, e2.mono (by omega)⟩
      rw [World.ownsRow.cellAt HN.out i (by omega)]
      exact e1
set_option maxHeartbeats 2000000 in
theorem eq_ss (g g' n : Nat) (oss : List (List Int)) (b c : Nat) (w : World) (h : SSo w b g n oss) (k : SSo w c g' n oss) :
    Calls Tryz.prog 65 #[.slice (some ⟨g, 0, none⟩) n n, .slice (some ⟨g', 0, none⟩) n n] w fun e w' => e = .returned (.bool true) ∧ Below w.heap.size w w' := by
  have HZ : Hid (SSo w b g n oss) := h
  have KZ : Hid (SSo w c g' n oss) := k
  have hl : (n : Int) ≤ 9223372036854775807 := by have := h.small; omega
  clear h k
  go_enter Tryz.func65, Tryz.ntmps65
  go_wp2_with fail
  go_loopw [5] (fun i wr => ∃ j : Nat, j ≤ n ∧ i = .int .i64 j ∧ Below w.heap.size w wr) (fun i _ => n - (intOf i).toNat)
  case atStart => exact ⟨0, Nat.zero_le _, rfl, Below.refl _ _⟩
  case round =>
    obtain ⟨j, hj, rfl, hB⟩ := hrel
    have HB : Hid (Below _ _ _) := hB
    by_cases hlt : j < n
    · obtain ⟨x1, l1, c1, d1, m1⟩ := (HZ.out.keep hB).row j hlt
      obtain ⟨x2, l2, c2, d2, m2⟩ := (KZ.out.keep hB).row j hlt
      have M1 : Hid (Nums wr _ _ _) := m1
      have M2 : Hid (Nums wr _ _ _) := m2
      have hI : (j : Int) < (n : Int) := by omega
      have HL : Hid (j < n) := hlt
      have inh : Nonempty (BW wr) := ⟨⟨wr, Below.refl _ _⟩⟩
      have z1 := BW.cell d1
      have z2 := BW.cell d2
      have CE : ∀ p : BW wr, Calls Tryz.prog 11 #[.slice x1 l1 c1, .slice x2 l2 c2] p.w fun e w' => e = .returned (.bool true) ∧ Below p.w.heap.size p.w w' := fun p => eq_nums _ _ _ _ _ _ (M1.out.keep p.h) (M2.out.keep p.h)
      clear hB hlt m1 m2
      go_wp2_with fail
      refine region_bw (by kernel_rfl) ?_
      repeat (quiet_step ((go_at_call 11; exact calls_bw (CE _))))
      refine wpQuiet_nil ?_
      rintro _ ⟨p9, rfl⟩
      have B9 : Hid (Below w.heap.size w p9.w) := on HB.out p9.h
      go_wp2_with fail
      go_roundw
      case rel => exact ⟨j + 1, by have := HL.out; omega, by go_num, B9.out⟩
      case measure => have := HL.out; simp [intOf]; omega
    · have hI : ¬ (j : Int) < (n : Int) := by omega
      clear hB
      go_wp2_with fail
      go_ret
      exact ⟨rfl, HB.out⟩
end Go.Proofs.YtggejbphdadckaaGreatDoor
