/- Texts of this seat, joined. -/
import Derived.Deep.RegionWith
import Derived.Deep.Slices
import Derived.Test.YtggejbphdadckaaGreatDoorQ05
namespace Go.Proofs.YtggejbphdadckaaGreatDoor
open Go.RowKit
set_option linter.unusedVariables false

theorem info_lane : (Tryz.prog.info? 125).map (fun i => (i.zero, i.size, i.bytes)) = some (some lz.val, 5, 40) := by kernel_rfl

theorem made_lanes (m : Nat) : (madeCells #[Value.int .i64 0, Value.int .i64 0, Value.int .i64 0, Value.int .i64 0, Value.int .i64 0] m).toList = List.replicate m (Value.int .i64 0) := by
  apply List.ext_getElem?
  intro j
  by_cases hj : j < m
  · have h : j % 5 = 0 ∨ j % 5 = 1 ∨ j % 5 = 2 ∨ j % 5 = 3 ∨ j % 5 = 4 := by omega
    rcases h with h | h | h | h | h <;> simp [madeCells, hj, h]
  · simp [madeCells, hj]

theorem to_lane (a b c d z : Int) (w : World) : Calls Tryz.prog 82 #[.agg #[.int .i64 a, .int .i64 b, .int .i64 c, .int .i64 d, .int .i64 z]] w fun e w' => e = .returned (.agg #[.int .i64 a, .int .i64 b, .int .i64 c, .int .i64 d, .int .i64 z]) ∧ Below w.heap.size w w' := by
  go_enter Tryz.func82, Tryz.ntmps82
  go_wp2_with fail
  exact bodyPost_ret (v := .agg #[.int .i64 a, .int .i64 b, .int .i64 c, .int .i64 d, .int .i64 z]) (by simp [results, Tryz.results82, go_sem]) rfl ⟨rfl, by first | exact al (al (al (Below.refl _ _) _) _) _ | exact al (al (Below.refl _ _) _) _⟩

set_option maxHeartbeats 1000000 in
theorem to_lanes (a : Option Addr) (len cap : Nat) (rs : List Ln) (w : World) (h : IsLanes w a len cap rs) (hl : len ≤ 1048576) :
    Calls Tryz.prog 49 #[.slice a len cap] w fun e w' => ∃ g, e = .returned (.slice (some ⟨g, 0, none⟩) len len) ∧ Ls 125 w' w.heap.size (.slice (some ⟨g, 0, none⟩) len len) rs ∧ Below w.heap.size w w' := by
  obtain ⟨i, hi, hz0, hz1, hz2⟩ := info_parts info_lane
  have hlen : Hid (len = rs.length) := h.len
  have HR : Hid (IsLanes w a len cap rs) := h
  clear h
  go_enter Tryz.func49, Tryz.ntmps49
  go_wp2_with (at_make; refine wpList_make_full _ rfl _ _ 33 rfl w.heap.size 125 i _ 5 Tryz.underlying33 hi hz0 hz1 _ _ _ _ len rfl rfl rfl rfl (by rw [hz2]; omega) (by unfold maxLen; omega) (Nat.le_refl _) ?_; intro w1 hown hgrow)
  have N1 : Hid (Ls 125 w1 w.heap.size (.slice (some ⟨w.heap.size, 0, none⟩) len len) (List.replicate len lz)) := by
    show w1.ownsRow _ _ _ _ _ _
    rw [show lz.val.cells = #[.int .i64 0, .int .i64 0, .int .i64 0, .int .i64 0, .int .i64 0] from rfl, made_lanes] at hown
    rw [flat5_replicate, List.length_replicate]
    exact hown
  have B1 : Hid (Below w.heap.size w w1) := (Below.refl _ _).grown hgrow (Nat.le_refl _) (by simp)
  clear hown hgrow hi hz0 hz1 hz2
  go_wp2_with fail
  go_loopw [4] (fun c wr => ∃ j : Nat, j ≤ len ∧ c = .int .i64 j ∧ Ls 125 wr w.heap.size (.slice (some ⟨w.heap.size, 0, none⟩) len len) (rs.take j ++ List.replicate (len - j) lz) ∧ Below w.heap.size w wr) (fun c _ => len - (intOf c).toNat)
  case atStart => exact ⟨0, Nat.zero_le _, rfl, by simpa using N1.out, B1.out⟩
  case round =>
    obtain ⟨j, hj, rfl, hN, hB⟩ := hrel
    have HN : Hid (Ls _ wr _ _ _) := hN
    have HB : Hid (Below _ _ _) := hB
    have hl2 : (len : Int) ≤ 1048576 := by omega
    by_cases hlt : j < len
    · rcases HR.out with ⟨_, h1, _, _⟩ | ⟨x, rfl, h1, h2, h3, h4⟩
      · omega
      have c0 := cell_keep hB (h4 j hlt).1
      have c1 : wr.cell? ⟨(x.add (j * 5)).block, (x.add (j * 5)).off + 1, none⟩ = some (.int .i64 (rs.getD j lz).dst) := by
        show wr.cell? ((x.add (j * 5)).add 1) = _
        rw [Go.Deep.add_add]; exact cell_keep hB (h4 j hlt).2.1
      have c2 : wr.cell? ⟨(x.add (j * 5)).block, (x.add (j * 5)).off + 2, none⟩ = some (.int .i64 (rs.getD j lz).pg) := by
        show wr.cell? ((x.add (j * 5)).add 2) = _
        rw [Go.Deep.add_add]; exact cell_keep hB (h4 j hlt).2.2.1
      have c3 : wr.cell? ⟨(x.add (j * 5)).block, (x.add (j * 5)).off + 3, none⟩ = some (.int .i64 (rs.getD j lz).af) := by
        show wr.cell? ((x.add (j * 5)).add 3) = _
        rw [Go.Deep.add_add]; exact cell_keep hB (h4 j hlt).2.2.2.1
      have c4 : wr.cell? ⟨(x.add (j * 5)).block, (x.add (j * 5)).off + 4, none⟩ = some (.int .i64 (rs.getD j lz).tt) := by
        show wr.cell? ((x.add (j * 5)).add 4) = _
        rw [Go.Deep.add_add]; exact cell_keep hB (h4 j hlt).2.2.2.2
      have hll : len = (rs.take j ++ List.replicate (len - j) lz).length := by have := hlen.out; simp; omega
      have HLL : Hid (len = (rs.take j ++ List.replicate (len - j) lz).length) := hll
      obtain ⟨q0, q1, q2, q3, q4⟩ := hN.cell hll j hlt
      have f0 := hN.free hll (j * 5)
      have f1 := hN.free hll (j * 5 + 1)
      have f2 := hN.free hll (j * 5 + 2)
      have f3 := hN.free hll (j * 5 + 3)
      have f4 := hN.free hll (j * 5 + 4)
      have hI : (j : Int) < (len : Int) := by omega
      have HL : Hid (j < len) := hlt
      have gb : w.heap.size < wr.heap.size := block_of_cell q0
      have PS : Hid ((rs.take j ++ List.replicate (len - j) lz).set j ⟨(rs.getD j lz).fr, (rs.getD j lz).dst, (rs.getD j lz).pg, (rs.getD j lz).af, (rs.getD j lz).tt⟩ = rs.take (j + 1) ++ List.replicate (len - (j + 1)) lz) := lanes_set rs j len (by have := hlen.out; omega) hlen.out
      generalize (rs.getD j lz).fr = a0 at *
      generalize (rs.getD j lz).dst = a1 at *
      generalize (rs.getD j lz).pg = a2 at *
      generalize (rs.getD j lz).af = a3 at *
      generalize (rs.getD j lz).tt = a4 at *
      clear h1 h2 h3 h4 hN hB hlt hll
      go_wp2_with fail
      refine (to_lane _ _ _ _ _ _).mono ?_
      rintro e w5 ⟨rfl, b5⟩
      have q0 := cell_keep b5 q0
      have q1 := cell_keep b5 q1
      have q2 := cell_keep b5 q2
      have q3 := cell_keep b5 q3
      have q4 := cell_keep b5 q4
      have f0 : w5.frozen? ⟨w.heap.size, j * 5, none⟩ = false := by rw [b5.frozen (p := ⟨w.heap.size, j * 5, none⟩) gb]; exact f0
      have f1 : w5.frozen? ⟨w.heap.size, j * 5 + 1, none⟩ = false := by rw [b5.frozen (p := ⟨w.heap.size, j * 5 + 1, none⟩) gb]; exact f1
      have f2 : w5.frozen? ⟨w.heap.size, j * 5 + 2, none⟩ = false := by rw [b5.frozen (p := ⟨w.heap.size, j * 5 + 2, none⟩) gb]; exact f2
      have f3 : w5.frozen? ⟨w.heap.size, j * 5 + 3, none⟩ = false := by rw [b5.frozen (p := ⟨w.heap.size, j * 5 + 3, none⟩) gb]; exact f3
      have f4 : w5.frozen? ⟨w.heap.size, j * 5 + 4, none⟩ = false := by rw [b5.frozen (p := ⟨w.heap.size, j * 5 + 4, none⟩) gb]; exact f4
      have HN5 : Hid (Ls _ w5 _ _ _) := HN.out.keep b5
      have HB5 : Hid (Below _ w w5) := on HB.out b5
      clear b5
      go_wp2_with fail
      go_roundw
      case rel =>
        refine ⟨j + 1, by have := HL.out; omega, by go_num, ?_, ?_⟩
        · have s1 := HN5.out.store HLL.out j ⟨a0, a1, a2, a3, a4⟩ HL.out
          rw [PS.out] at s1
          exact s1
        · exact ((((HB5.out.setCell (by simp) _).setCell (by simp) _).setCell (by simp) _).setCell (by simp) _).setCell (by simp) _
      case measure => have := HL.out; simp [intOf]; omega
    · have hI : ¬ (j : Int) < (len : Int) := by omega
      obtain rfl : j = len := by omega
      clear hN hB
      go_wp2_with fail
      go_ret
      refine ⟨_, rfl, ?_, HB.out⟩
      have := HN.out
      simpa [List.take_of_length_le (Nat.le_of_eq hlen.out.symm)] using this

theorem eq_lane (a b c d z : Int) (w : World) : Calls Tryz.prog 98 #[.agg #[.int .i64 a, .int .i64 b, .int .i64 c, .int .i64 d, .int .i64 z], .agg #[.int .i64 a, .int .i64 b, .int .i64 c, .int .i64 d, .int .i64 z]] w fun e w' => e = .returned (.bool true) ∧ Below w.heap.size w w' := by
  go_enter Tryz.func98, Tryz.ntmps98
  go_wp2_with fail
  go_ret
  exact ⟨rfl, al (al (Below.refl _ _) _) _⟩

set_option maxHeartbeats 1000000 in
theorem eq_lanes (v u : Value) (rs : List Ln) (b c : Nat) (w : World) (h : Ls 125 w b v rs) (k : Ls 125 w c u rs) :
    Calls Tryz.prog 66 #[v, u] w fun e w' => e = .returned (.bool true) ∧ Below w.heap.size w w' := by
  obtain ⟨a, cap, rfl, l1, l2, hg⟩ := h.shape
  obtain ⟨a', cap', rfl, m1, m2, hg'⟩ := k.shape
  have HZ : Hid (Ls _ w b _ rs) := h
  have KZ : Hid (Ls _ w c _ rs) := k
  have hl : (rs.length : Int) ≤ 9223372036854775807 := by unfold maxLen at l2; omega
  clear h k
  obtain ⟨n, hn⟩ : ∃ n, rs.length = n := ⟨_, rfl⟩
  rw [hn] at HZ KZ hl l1 m1 hg hg' ⊢
  have HN : Hid (rs.length = n) := hn
  clear hn l1 m1 l2 m2
  go_enter Tryz.func66, Tryz.ntmps66
  go_wp2_with fail
  go_loopw [5] (fun i wr => ∃ j : Nat, j ≤ n ∧ i = .int .i64 j ∧ Below w.heap.size w wr) (fun i _ => n - (intOf i).toNat)
  case atStart => exact ⟨0, Nat.zero_le _, rfl, Below.refl _ _⟩
  case round =>
    obtain ⟨j, hj, rfl, hB⟩ := hrel
    have HB : Hid (Below _ _ _) := hB
    by_cases hlt : j < n
    · obtain ⟨g, rfl⟩ := hg (by omega)
      obtain ⟨g', rfl⟩ := hg' (by omega)
      obtain ⟨c0, c1, c2, c3, c4⟩ := HZ.out.cell HN.out.symm j hlt
      obtain ⟨d0, d1, d2, d3, d4⟩ := KZ.out.cell HN.out.symm j hlt
      have c0 := cell_keep hB c0
      have c1 := cell_keep hB c1
      have c2 := cell_keep hB c2
      have c3 := cell_keep hB c3
      have c4 := cell_keep hB c4
      have d0 := cell_keep hB d0
      have d1 := cell_keep hB d1
      have d2 := cell_keep hB d2
      have d3 := cell_keep hB d3
      have d4 := cell_keep hB d4
      have hI : (j : Int) < (n : Int) := by omega
      have HL : Hid (j < n) := hlt
      generalize (rs.getD j lz).fr = a0 at *
      generalize (rs.getD j lz).dst = a1 at *
      generalize (rs.getD j lz).pg = a2 at *
      generalize (rs.getD j lz).af = a3 at *
      generalize (rs.getD j lz).tt = a4 at *
      clear hB hlt hg hg'
      go_wp2_with fail
      go_region_with (go_at_call 98; refine (eq_lane _ _ _ _ _ _).mono ?_; rintro e y ⟨rfl, hb⟩; first | have BB := on HB.out hb | have BB := on HB.out.drew hb | have BB := on HB.out.drew.drew hb | have BB := on HB.out.drew.drew.drew hb)
      all_goals clear c0 c1 c2 c3 c4 d0 d1 d2 d3 d4
      all_goals go_wp2_with fail
      all_goals go_roundw
      all_goals first
        | (show ∃ _, _; exact ⟨j + 1, by have := HL.out; omega, by go_num, by first | exact BB | exact BB.drew⟩)
        | (have := HL.out; simp [intOf]; omega)
    · have hI : ¬ (j : Int) < (n : Int) := by omega
      clear hB
      go_wp2_with fail
      go_ret
      exact ⟨rfl, HB.out⟩
set_option maxHeartbeats 1000000 in
theorem sz_lanes (a : Option Addr) (len cap : Nat) (k : Int) (w : World) (h : len ≤ 9223372036854775807) (h1 : 0 ≤ k) (h2 : k ≤ 1048576) :
    Calls Tryz.prog 35 #[.slice a len cap, .int .i64 k] w fun e w' => e = .returned (.int .i64 (if k - len < 0 then -1 else k - len)) ∧ w' = w := by
  have h3 : (len : Int) ≤ 9223372036854775807 := by omega
  by_cases hk : k - len < 0
  · rw [if_pos hk]
    go_enter Tryz.func35, Tryz.ntmps35
    go_wp2_with fail
    go_ret
    exact ⟨rfl, rfl⟩
  · rw [if_neg hk]
    go_enter Tryz.func35, Tryz.ntmps35
    go_wp2_with fail
    go_ret
    exact ⟨rfl, rfl⟩
end Go.Proofs.YtggejbphdadckaaGreatDoor
namespace Go.Proofs.YtggejbphdadckaaGreatDoor
open Go.RowKit
set_option linter.unusedVariables false

theorem info_bell : (Tryz.prog.info? 129).map (fun i => (i.zero, i.size, i.bytes)) = some (some (.agg #[.int .i64 0, .int .i64 0]), 2, 16) := by kernel_rfl

theorem made_bells (m : Nat) : (madeCells #[Value.int .i64 0, Value.int .i64 0] m).toList = List.replicate m (Value.int .i64 0) := by
  apply List.ext_getElem?
  intro j
  by_cases hj : j < m
  · have h : j % 2 = 0 ∨ j % 2 = 1 := by omega
    rcases h with h | h <;> simp [madeCells, hj, h]
  · simp [madeCells, hj]

theorem to_bell (a b : Int) (w : World) : Calls Tryz.prog 83 #[.agg #[.int .i64 a, .int .i64 b]] w fun e w' => e = .returned (.agg #[.int .i64 a, .int .i64 b]) ∧ Below w.heap.size w w' := by
  go_enter Tryz.func83, Tryz.ntmps83
  go_wp2_with fail
  exact bodyPost_ret (v := .agg #[.int .i64 a, .int .i64 b]) (by simp [results, Tryz.results83, go_sem]) rfl ⟨rfl, al (al (al (Below.refl _ _) _) _) _⟩

set_option maxHeartbeats 1000000 in
theorem to_bells (a : Option Addr) (len cap : Nat) (rs : List (Int × Int)) (w : World) (h : IsPairs w a len cap rs) (hl : len ≤ 1048576) :
    Calls Tryz.prog 50 #[.slice a len cap] w fun e w' => ∃ g, e = .returned (.slice (some ⟨g, 0, none⟩) len len) ∧ Prs 129 w' w.heap.size (.slice (some ⟨g, 0, none⟩) len len) rs ∧ Below w.heap.size w w' := by
  obtain ⟨i, hi, hz0, hz1, hz2⟩ := info_parts info_bell
  have hlen : Hid (len = rs.length) := h.len
  have HR : Hid (IsPairs w a len cap rs) := h
  clear h
  go_enter Tryz.func50, Tryz.ntmps50
  go_wp2_with (at_make; refine wpList_make_full _ rfl _ _ 34 rfl w.heap.size 129 i _ 2 Tryz.underlying34 hi hz0 hz1 _ _ _ _ len rfl rfl rfl rfl (by rw [hz2]; omega) (by unfold maxLen; omega) (Nat.le_refl _) ?_; intro w1 hown hgrow)
  have N1 : Hid (Prs 129 w1 w.heap.size (.slice (some ⟨w.heap.size, 0, none⟩) len len) (List.replicate len (0, 0))) := by
    show w1.ownsRow _ _ _ _ _ _
    rw [show (Value.agg #[.int .i64 0, .int .i64 0]).cells = #[.int .i64 0, .int .i64 0] from rfl, made_bells] at hown
    rw [flat_replicate, List.length_replicate]
    exact hown
  have B1 : Hid (Below w.heap.size w w1) := (Below.refl _ _).grown hgrow (Nat.le_refl _) (by simp)
  clear hown hgrow hi hz0 hz1 hz2
  go_wp2_with fail
  go_loopw [4] (fun c wr => ∃ j : Nat, j ≤ len ∧ c = .int .i64 j ∧ Prs 129 wr w.heap.size (.slice (some ⟨w.heap.size, 0, none⟩) len len) (rs.take j ++ List.replicate (len - j) (0, 0)) ∧ Below w.heap.size w wr) (fun c _ => len - (intOf c).toNat)
  case atStart => exact ⟨0, Nat.zero_le _, rfl, by simpa using N1.out, B1.out⟩
  case round =>
    obtain ⟨j, hj, rfl, hN, hB⟩ := hrel
    have HN : Hid (Prs _ wr _ _ _) := hN
    have HB : Hid (Below _ _ _) := hB
    have hl2 : (len : Int) ≤ 1048576 := by omega
    by_cases hlt : j < len
    · rcases HR.out with ⟨_, h1, _, _⟩ | ⟨x, rfl, h1, h2, h3, h4⟩
      · omega
      have c0 := cell_keep hB (h4 j hlt).1
      have c1 := cell_keep hB (h4 j hlt).2
      have c1 : wr.cell? ⟨(x.add (j * 2)).block, (x.add (j * 2)).off + 1, none⟩ = some (.int .i64 (rs.getD j (0, 0)).2) := by
        show wr.cell? ((x.add (j * 2)).add 1) = _
        rw [Go.Deep.add_add]; exact c1
      have hll : len = (rs.take j ++ List.replicate (len - j) ((0 : Int), (0 : Int))).length := by have := hlen.out; simp; omega
      have HLL : Hid (len = (rs.take j ++ List.replicate (len - j) ((0 : Int), (0 : Int))).length) := hll
      have q0 := (hN.cell hll j hlt).1
      have q1 := (hN.cell hll j hlt).2
      have f0 := hN.free hll (j * 2)
      have f1 := hN.free hll (j * 2 + 1)
      have hI : (j : Int) < (len : Int) := by omega
      have HL : Hid (j < len) := hlt
      have gb : w.heap.size < wr.heap.size := block_of_cell q0
      have PS : Hid ((rs.take j ++ List.replicate (len - j) ((0 : Int), (0 : Int))).set j ((rs.getD j (0, 0)).1, (rs.getD j (0, 0)).2) = rs.take (j + 1) ++ List.replicate (len - (j + 1)) (0, 0)) := pairs_set rs j len (by have := hlen.out; omega) hlen.out
      generalize (rs.getD j (0, 0)).1 = p at *
      generalize (rs.getD j (0, 0)).2 = q at *
      clear h1 h2 h3 h4 hN hB hlt hll
      go_wp2_with fail
      refine (to_bell _ _ _).mono ?_
      rintro e w5 ⟨rfl, b5⟩
      have q0 := cell_keep b5 q0
      have q1 := cell_keep b5 q1
      have f0 : w5.frozen? ⟨w.heap.size, j * 2, none⟩ = false := by rw [b5.frozen (p := ⟨w.heap.size, j * 2, none⟩) gb]; exact f0
      have f1 : w5.frozen? ⟨w.heap.size, j * 2 + 1, none⟩ = false := by rw [b5.frozen (p := ⟨w.heap.size, j * 2 + 1, none⟩) gb]; exact f1
      have HN5 : Hid (Prs _ w5 _ _ _) := HN.out.keep b5
      have HB5 : Hid (Below _ w w5) := on HB.out b5
      clear b5
      go_wp2_with fail
      go_roundw
      case rel =>
        refine ⟨j + 1, by have := HL.out; omega, by go_num, ?_, ?_⟩
        · have s1 := HN5.out.store HLL.out j p q HL.out
          rw [PS.out] at s1
          exact s1
        · exact (HB5.out.setCell (by simp) _).setCell (by simp) _
      case measure => have := HL.out; simp [intOf]; omega
    · have hI : ¬ (j : Int) < (len : Int) := by omega
      obtain rfl : j = len := by omega
      clear hN hB
      go_wp2_with fail
      go_ret
      refine ⟨_, rfl, ?_, HB.out⟩
      have := HN.out
      simpa [List.take_of_length_le (Nat.le_of_eq hlen.out.symm)] using this

theorem eq_bell (a b : Int) (w : World) : Calls Tryz.prog 99 #[.agg #[.int .i64 a, .int .i64 b], .agg #[.int .i64 a, .int .i64 b]] w fun e w' => e = .returned (.bool true) ∧ Below w.heap.size w w' := by
  go_enter Tryz.func99, Tryz.ntmps99
  go_wp2_with fail
  go_ret
  exact ⟨rfl, al (al (Below.refl _ _) _) _⟩

set_option maxHeartbeats 1000000 in
theorem eq_bells (v u : Value) (rs : List (Int × Int)) (b c : Nat) (w : World) (h : Prs 129 w b v rs) (k : Prs 129 w c u rs) :
    Calls Tryz.prog 67 #[v, u] w fun e w' => e = .returned (.bool true) ∧ Below w.heap.size w w' := by
  obtain ⟨a, cap, rfl, l1, l2, hg⟩ := h.shape
  obtain ⟨a', cap', rfl, m1, m2, hg'⟩ := k.shape
  have HZ : Hid (Prs _ w b _ rs) := h
  have KZ : Hid (Prs _ w c _ rs) := k
  have hl : (rs.length : Int) ≤ 9223372036854775807 := by unfold maxLen at l2; omega
  clear h k
  obtain ⟨n, hn⟩ : ∃ n, rs.length = n := ⟨_, rfl⟩
  rw [hn] at HZ KZ hl l1 m1 hg hg' ⊢
  have HN : Hid (rs.length = n) := hn
  clear hn l1 m1 l2 m2
  go_enter Tryz.func67, Tryz.ntmps67
  go_wp2_with fail
  go_loopw [5] (fun i wr => ∃ j : Nat, j ≤ n ∧ i = .int .i64 j ∧ Below w.heap.size w wr) (fun i _ => n - (intOf i).toNat)
  case atStart => exact ⟨0, Nat.zero_le _, rfl, Below.refl _ _⟩
  case round =>
    obtain ⟨j, hj, rfl, hB⟩ := hrel
    have HB : Hid (Below _ _ _) := hB
    by_cases hlt : j < n
    · obtain ⟨g, rfl⟩ := hg (by omega)
      obtain ⟨g', rfl⟩ := hg' (by omega)
      have c1 := cell_keep hB (HZ.out.cell HN.out.symm j hlt).1
      have c2 := cell_keep hB (HZ.out.cell HN.out.symm j hlt).2
      have d1 := cell_keep hB (KZ.out.cell HN.out.symm j hlt).1
      have d2 := cell_keep hB (KZ.out.cell HN.out.symm j hlt).2
      have hI : (j : Int) < (n : Int) := by omega
      have HL : Hid (j < n) := hlt
      generalize (rs.getD j (0, 0)).1 = p at *
      generalize (rs.getD j (0, 0)).2 = q at *
      clear hB hlt hg hg'
      go_wp2_with fail
      go_region_with (go_at_call 99; refine (eq_bell _ _ _).mono ?_; rintro e y ⟨rfl, hb⟩; first | have BB := on HB.out hb | have BB := on HB.out.drew hb | have BB := on HB.out.drew.drew hb | have BB := on HB.out.drew.drew.drew hb)
      all_goals clear c1 c2 d1 d2
      all_goals go_wp2_with fail
      all_goals go_roundw
      all_goals first
        | (show ∃ _, _; exact ⟨j + 1, by have := HL.out; omega, by go_num, by first | exact BB | exact BB.drew⟩)
        | (have := HL.out; simp [intOf]; omega)
    · have hI : ¬ (j : Int) < (n : Int) := by omega
      clear hB
      go_wp2_with fail
      go_ret
      exact ⟨rfl, HB.out⟩
set_option maxHeartbeats 1000000 in
theorem sz_bells (a : Option Addr) (len cap : Nat) (k : Int) (w : World) (h : len ≤ 9223372036854775807) (h1 : 0 ≤ k) (h2 : k ≤ 1048576) :
    Calls Tryz.prog 36 #[.slice a len cap, .int .i64 k] w fun e w' => e = .returned (.int .i64 (if k - len < 0 then -1 else k - len)) ∧ w' = w := by
  have h3 : (len : Int) ≤ 9223372036854775807 := by omega
  by_cases hk : k - len < 0
  · rw [if_pos hk]
    go_enter Tryz.func36, Tryz.ntmps36
    go_wp2_with fail
    go_ret
    exact ⟨rfl, rfl⟩
  · rw [if_neg hk]
    go_enter Tryz.func36, Tryz.ntmps36
    go_wp2_with fail
    go_ret
    exact ⟨rfl, rfl⟩
end Go.Proofs.YtggejbphdadckaaGreatDoor
namespace Go.Proofs.YtggejbphdadckaaGreatDoor
open Go.RowKit
set_option linter.unusedVariables false

theorem info_slot : (Tryz.prog.info? 123).map (fun i => (i.zero, i.size, i.bytes)) = some (some (.agg #[.int .i64 0, .int .i64 0]), 2, 16) := by kernel_rfl

theorem made_slots (m : Nat) : (madeCells #[Value.int .i64 0, Value.int .i64 0] m).toList = List.replicate m (Value.int .i64 0) := by
  apply List.ext_getElem?
  intro j
  by_cases hj : j < m
  · have h : j % 2 = 0 ∨ j % 2 = 1 := by omega
    rcases h with h | h <;> simp [madeCells, hj, h]
  · simp [madeCells, hj]

theorem to_slot (a b : Int) (w : World) : Calls Tryz.prog 84 #[.agg #[.int .i64 a, .int .i64 b]] w fun e w' => e = .returned (.agg #[.int .i64 a, .int .i64 b]) ∧ Below w.heap.size w w' := by
  go_enter Tryz.func84, Tryz.ntmps84
  go_wp2_with fail
  exact bodyPost_ret (v := .agg #[.int .i64 a, .int .i64 b]) (by simp [results, Tryz.results84, go_sem]) rfl ⟨rfl, al (al (al (Below.refl _ _) _) _) _⟩

set_option maxHeartbeats 1000000 in
theorem to_slots (a : Option Addr) (len cap : Nat) (rs : List (Int × Int)) (w : World) (h : IsPairs w a len cap rs) (hl : len ≤ 1048576) :
    Calls Tryz.prog 51 #[.slice a len cap] w fun e w' => ∃ g, e = .returned (.slice (some ⟨g, 0, none⟩) len len) ∧ Prs 123 w' w.heap.size (.slice (some ⟨g, 0, none⟩) len len) rs ∧ Below w.heap.size w w' := by
  obtain ⟨i, hi, hz0, hz1, hz2⟩ := info_parts info_slot
  have hlen : Hid (len = rs.length) := h.len
  have HR : Hid (IsPairs w a len cap rs) := h
  clear h
  go_enter Tryz.func51, Tryz.ntmps51
  go_wp2_with (at_make; refine wpList_make_full _ rfl _ _ 35 rfl w.heap.size 123 i _ 2 Tryz.underlying35 hi hz0 hz1 _ _ _ _ len rfl rfl rfl rfl (by rw [hz2]; omega) (by unfold maxLen; omega) (Nat.le_refl _) ?_; intro w1 hown hgrow)
  have N1 : Hid (Prs 123 w1 w.heap.size (.slice (some ⟨w.heap.size, 0, none⟩) len len) (List.replicate len (0, 0))) := by
    show w1.ownsRow _ _ _ _ _ _
    rw [show (Value.agg #[.int .i64 0, .int .i64 0]).cells = #[.int .i64 0, .int .i64 0] from rfl, made_slots] at hown
    rw [flat_replicate, List.length_replicate]
    exact hown
  have B1 : Hid (Below w.heap.size w w1) := (Below.refl _ _).grown hgrow (Nat.le_refl _) (by simp)
  clear hown hgrow hi hz0 hz1 hz2
  go_wp2_with fail
  go_loopw [4] (fun c wr => ∃ j : Nat, j ≤ len ∧ c = .int .i64 j ∧ Prs 123 wr w.heap.size (.slice (some ⟨w.heap.size, 0, none⟩) len len) (rs.take j ++ List.replicate (len - j) (0, 0)) ∧ Below w.heap.size w wr) (fun c _ => len - (intOf c).toNat)
  case atStart => exact ⟨0, Nat.zero_le _, rfl, by simpa using N1.out, B1.out⟩
  case round =>
    obtain ⟨j, hj, rfl, hN, hB⟩ := hrel
    have HN : Hid (Prs _ wr _ _ _) := hN
    have HB : Hid (Below _ _ _) := hB
    have hl2 : (len : Int) ≤ 1048576 := by omega
    by_cases hlt : j < len
    · rcases HR.out with ⟨_, h1, _, _⟩ | ⟨x, rfl, h1, h2, h3, h4⟩
      · omega
      have c0 := cell_keep hB (h4 j hlt).1
      have c1 := cell_keep hB (h4 j hlt).2
      have c1 : wr.cell? ⟨(x.add (j * 2)).block, (x.add (j * 2)).off + 1, none⟩ = some (.int .i64 (rs.getD j (0, 0)).2) := by
        show wr.cell? ((x.add (j * 2)).add 1) = _
        rw [Go.Deep.add_add]; exact c1
      have hll : len = (rs.take j ++ List.replicate (len - j) ((0 : Int), (0 : Int))).length := by have := hlen.out; simp; omega
      have HLL : Hid (len = (rs.take j ++ List.replicate (len - j) ((0 : Int), (0 : Int))).length) := hll
      have q0 := (hN.cell hll j hlt).1
      have q1 := (hN.cell hll j hlt).2
      have f0 := hN.free hll (j * 2)
      have f1 := hN.free hll (j * 2 + 1)
      have hI : (j : Int) < (len : Int) := by omega
      have HL : Hid (j < len) := hlt
      have gb : w.heap.size < wr.heap.size := block_of_cell q0
      have PS : Hid ((rs.take j ++ List.replicate (len - j) ((0 : Int), (0 : Int))).set j ((rs.getD j (0, 0)).1, (rs.getD j (0, 0)).2) = rs.take (j + 1) ++ List.replicate (len - (j + 1)) (0, 0)) := pairs_set rs j len (by have := hlen.out; omega) hlen.out
      generalize (rs.getD j (0, 0)).1 = p at *
      generalize (rs.getD j (0, 0)).2 = q at *
      clear h1 h2 h3 h4 hN hB hlt hll
      go_wp2_with fail
      refine (to_slot _ _ _).mono ?_
      rintro e w5 ⟨rfl, b5⟩
      have q0 := cell_keep b5 q0
      have q1 := cell_keep b5 q1
      have f0 : w5.frozen? ⟨w.heap.size, j * 2, none⟩ = false := by rw [b5.frozen (p := ⟨w.heap.size, j * 2, none⟩) gb]; exact f0
      have f1 : w5.frozen? ⟨w.heap.size, j * 2 + 1, none⟩ = false := by rw [b5.frozen (p := ⟨w.heap.size, j * 2 + 1, none⟩) gb]; exact f1
      have HN5 : Hid (Prs _ w5 _ _ _) := HN.out.keep b5
      have HB5 : Hid (Below _ w w5) := on HB.out b5
      clear b5
      go_wp2_with fail
      go_roundw
      case rel =>
        refine ⟨j + 1, by have := HL.out; omega, by go_num, ?_, ?_⟩
        · have s1 := HN5.out.store HLL.out j p q HL.out
          rw [PS.out] at s1
          exact s1
        · exact (HB5.out.setCell (by simp) _).setCell (by simp) _
      case measure => have := HL.out; simp [intOf]; omega
    · have hI : ¬ (j : Int) < (len : Int) := by omega
      obtain rfl : j = len := by omega
      clear hN hB
      go_wp2_with fail
      go_ret
      refine ⟨_, rfl, ?_, HB.out⟩
      have := HN.out
      simpa [List.take_of_length_le (Nat.le_of_eq hlen.out.symm)] using this

theorem eq_slot (a b : Int) (w : World) : Calls Tryz.prog 100 #[.agg #[.int .i64 a, .int .i64 b], .agg #[.int .i64 a, .int .i64 b]] w fun e w' => e = .returned (.bool true) ∧ Below w.heap.size w w' := by
  go_enter Tryz.func100, Tryz.ntmps100
  go_wp2_with fail
  go_ret
  exact ⟨rfl, al (al (Below.refl _ _) _) _⟩

set_option maxHeartbeats 1000000 in
theorem eq_slots (v u : Value) (rs : List (Int × Int)) (b c : Nat) (w : World) (h : Prs 123 w b v rs) (k : Prs 123 w c u rs) :
    Calls Tryz.prog 68 #[v, u] w fun e w' => e = .returned (.bool true) ∧ Below w.heap.size w w' := by
  obtain ⟨a, cap, rfl, l1, l2, hg⟩ := h.shape
  obtain ⟨a', cap', rfl, m1, m2, hg'⟩ := k.shape
  have HZ : Hid (Prs _ w b _ rs) := h
  have KZ : Hid (Prs _ w c _ rs) := k
  have hl : (rs.length : Int) ≤ 9223372036854775807 := by unfold maxLen at l2; omega
  clear h k
  obtain ⟨n, hn⟩ : ∃ n, rs.length = n := ⟨_, rfl⟩
  rw [hn] at HZ KZ hl l1 m1 hg hg' ⊢
  have HN : Hid (rs.length = n) := hn
  clear hn l1 m1 l2 m2
  go_enter Tryz.func68, Tryz.ntmps68
  go_wp2_with fail
  go_loopw [5] (fun i wr => ∃ j : Nat, j ≤ n ∧ i = .int .i64 j ∧ Below w.heap.size w wr) (fun i _ => n - (intOf i).toNat)
  case atStart => exact ⟨0, Nat.zero_le _, rfl, Below.refl _ _⟩
  case round =>
    obtain ⟨j, hj, rfl, hB⟩ := hrel
    have HB : Hid (Below _ _ _) := hB
    by_cases hlt : j < n
    · obtain ⟨g, rfl⟩ := hg (by omega)
      obtain ⟨g', rfl⟩ := hg' (by omega)
      have c1 := cell_keep hB (HZ.out.cell HN.out.symm j hlt).1
      have c2 := cell_keep hB (HZ.out.cell HN.out.symm j hlt).2
      have d1 := cell_keep hB (KZ.out.cell HN.out.symm j hlt).1
      have d2 := cell_keep hB (KZ.out.cell HN.out.symm j hlt).2
      have hI : (j : Int) < (n : Int) := by omega
      have HL : Hid (j < n) := hlt
      generalize (rs.getD j (0, 0)).1 = p at *
      generalize (rs.getD j (0, 0)).2 = q at *
      clear hB hlt hg hg'
      go_wp2_with fail
      go_region_with (go_at_call 100; refine (eq_slot _ _ _).mono ?_; rintro e y ⟨rfl, hb⟩; first | have BB := on HB.out hb | have BB := on HB.out.drew hb | have BB := on HB.out.drew.drew hb | have BB := on HB.out.drew.drew.drew hb)
      all_goals clear c1 c2 d1 d2
      all_goals go_wp2_with fail
      all_goals go_roundw
      all_goals first
        | (show ∃ _, _; exact ⟨j + 1, by have := HL.out; omega, by go_num, by first | exact BB | exact BB.drew⟩)
        | (have := HL.out; simp [intOf]; omega)
    · have hI : ¬ (j : Int) < (n : Int) := by omega
      clear hB
      go_wp2_with fail
      go_ret
      exact ⟨rfl, HB.out⟩
set_option maxHeartbeats 1000000 in
theorem sz_slots (a : Option Addr) (len cap : Nat) (k : Int) (w : World) (h : len ≤ 9223372036854775807) (h1 : 0 ≤ k) (h2 : k ≤ 1048576) :
    Calls Tryz.prog 37 #[.slice a len cap, .int .i64 k] w fun e w' => e = .returned (.int .i64 (if k - len < 0 then -1 else k - len)) ∧ w' = w := by
  have h3 : (len : Int) ≤ 9223372036854775807 := by omega
  by_cases hk : k - len < 0
  · rw [if_pos hk]
    go_enter Tryz.func37, Tryz.ntmps37
    go_wp2_with fail
    go_ret
    exact ⟨rfl, rfl⟩
  · rw [if_neg hk]
    go_enter Tryz.func37, Tryz.ntmps37
    go_wp2_with fail
    go_ret
    exact ⟨rfl, rfl⟩
end Go.Proofs.YtggejbphdadckaaGreatDoor
