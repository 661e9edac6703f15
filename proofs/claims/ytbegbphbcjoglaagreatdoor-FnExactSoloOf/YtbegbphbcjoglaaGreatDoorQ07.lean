/- Texts of this seat, joined. -/
import Derived.Laws.AppendOwn
import Derived.Deep.RegionWith
import Derived.Deep.Slices
import Derived.Test.YtbegbphbcjoglaaGreatDoorQ04
import Derived.Test.YtbegbphbcjoglaaGreatDoorQ05
namespace Go.Proofs.YtbegbphbcjoglaaGreatDoor
open Go.RowKit
set_option linter.unusedVariables false

/-- A slice of pages that a call made: its words, page behind page. -/
def Pags (w : World) (base : Nat) (v : Value) (n : Nat) (zs : List Int) : Prop := w.ownsRow base 82 8 v n (zs.map (Value.int .i64))

theorem Pags.cell {w : World} {base g n cap : Nat} {zs : List Int} (h : Pags w base (.slice (some ⟨g, 0, none⟩) n cap) n zs) (i : Nat) (hi : i < n * 8) : w.cell? ⟨g, i, none⟩ = some (.int .i64 (zs.getD i 0)) := by
  have hl : zs.length = n * 8 := by simpa using h.1
  rw [World.ownsRow.cellAt h i hi, List.getElem?_map, List.getElem?_eq_getElem (by omega), List.getD, List.getElem?_eq_getElem (by omega)]
  rfl
theorem Pags.keep {w w' : World} {base n : Nat} {v : Value} {zs : List Int} (h : Pags w base v n zs) (hb : Below w.heap.size w w') : Pags w' base v n zs := by
  refine World.ownsRow.kept h (below_grown hb none) ?_
  cases v.ownBlock <;> simp
theorem Pags.len {w : World} {base n : Nat} {v : Value} {zs : List Int} (h : Pags w base v n zs) : zs.length = n * 8 := by simpa using h.1

theorem take_one (zs : List Int) (n : Nat) (h : n < zs.length) : zs.take (n + 1) = zs.take n ++ [zs.getD n 0] := by
  rw [List.take_succ_eq_append_getElem h, List.getD, List.getElem?_eq_getElem h]
  rfl
theorem take_eight (zs : List Int) (n : Nat) (h : n + 8 ≤ zs.length) : zs.take (n + 8) = zs.take n ++ [zs.getD n 0, zs.getD (n + 1) 0, zs.getD (n + 2) 0, zs.getD (n + 3) 0, zs.getD (n + 4) 0, zs.getD (n + 5) 0, zs.getD (n + 6) 0, zs.getD (n + 7) 0] := by
  rw [take_one zs (n + 7) (by omega), take_one zs (n + 6) (by omega), take_one zs (n + 5) (by omega), take_one zs (n + 4) (by omega), take_one zs (n + 3) (by omega), take_one zs (n + 2) (by omega), take_one zs (n + 1) (by omega), take_one zs n (by omega)]
  simp only [List.append_assoc, List.cons_append, List.nil_append]

/-- append of numbers to a slice of the call's own. -/
theorem wp_append {ops : Array Oper} {rest : List Oper} {o : Oper} {act : Act} {Q : Exit → Act → World → Prop} (w : World) (hgd : o.guard = none) (s x : Operand)
    (ho : o.op = .call { callee := .builtin .append, args := #[s, x], argTypes := #[28, 28] }) (base : Nat) (v : Value) (zs : List Int) (hs : act.eval s = v) (hN : Nums w base v zs)
    (B m c : Nat) (ys : List Int) (hx : act.eval x = .slice (some ⟨B, 0, none⟩) m c) (hy : ys.length = m) (hc : ∀ i, i < m → w.cell? ⟨B, i, none⟩ = some (.int .i64 (ys.getD i 0)))
    (hlen : zs.length + m ≤ 1000000000) (hbase : base ≤ w.heap.size)
    (h : ∀ v' w', Nums w' base v' (zs ++ ys) → w.grownBy w' v.ownBlock → wpList Tryz.prog ops Q rest (act.put o.dst v') w') : wpList Tryz.prog ops Q (o :: rest) act w := by
  obtain ⟨i, hi, hz0, hz1, hz2⟩ := info_parts info_i64
  refine wpList_append_own w hgd s x 28 ho base 2 i _ 1 8 Tryz.underlying28 hi hz0 hz1 hz2 rfl (by decide) v zs.length _ hs hN ⟨B, 0, none⟩ m c (ys.map (Value.int .i64)) hx (by simpa using hy) ?_ ?_ (by unfold maxLen; omega) (by omega) hbase ?_
  · intro j u hj
    have hjl : j < ys.length := by have := (List.getElem?_eq_some_iff.1 hj).1; simpa using this
    rw [List.getElem?_map, List.getElem?_eq_getElem hjl] at hj
    have := hc j (by omega)
    rw [List.getD, List.getElem?_eq_getElem hjl] at this
    rw [show (⟨B, 0, none⟩ : Addr).add j = ⟨B, j, none⟩ by rw [Addr.add_lit]; simp, this]
    exact hj
  · intro u hu
    obtain ⟨z, _, rfl⟩ := List.mem_map.1 hu
    rfl
  · intro v' w' hown hgrow _
    refine h v' w' ?_ hgrow
    unfold Nums
    rw [List.length_append, hy, List.map_append]
    exact hown

theorem cells_eight (w : World) (t : TypeId) (a0 a1 a2 a3 a4 a5 a6 a7 : Int) : ∀ i, i < 8 → (w.alloc (.cells #[.int .i64 a0, .int .i64 a1, .int .i64 a2, .int .i64 a3, .int .i64 a4, .int .i64 a5, .int .i64 a6, .int .i64 a7] t)).cell? ⟨w.heap.size, i, none⟩ = some (.int .i64 ([a0, a1, a2, a3, a4, a5, a6, a7].getD i 0)) := by
  intro i hi
  have : i = 0 ∨ i = 1 ∨ i = 2 ∨ i = 3 ∨ i = 4 ∨ i = 5 ∨ i = 6 ∨ i = 7 := by omega
  rcases this with rfl | rfl | rfl | rfl | rfl | rfl | rfl | rfl <;> exact cell_new rfl

set_option maxHeartbeats 2000000 in
theorem impl_join (g n cap : Nat) (zs : List Int) (b : Nat) (w : World) (h : Pags w b (.slice (some ⟨g, 0, none⟩) n cap) n zs) (hn : n ≤ 24) :
    Calls Tryz.prog 61 #[.slice (some ⟨g, 0, none⟩) n cap] w fun e w' => ∃ v, e = .returned v ∧ Nums w' w.heap.size v zs ∧ Below w.heap.size w w' := by
  have HP : Hid (Pags w b _ n zs) := h
  have HL : Hid (zs.length = n * 8) := h.len
  have hni : (n : Int) ≤ 24 := by omega
  clear h
  go_enter Tryz.func61, Tryz.ntmps61
  go_wp2_with fail
  go_loopw [3, 5, 8] (fun v _ c wr => ∃ j : Nat, j ≤ n ∧ c = .int .i64 j ∧ Nums wr w.heap.size v (zs.take (j * 8)) ∧ Below w.heap.size w wr) (fun _ _ c _ => n - (intOf c).toNat)
  case atStart => exact ⟨0, Nat.zero_le _, rfl, by simpa using Nums.nil w _, Below.refl _ _⟩
  case round =>
    obtain ⟨j, hj, rfl, hN, hB⟩ := hrel
    have HN : Hid (Nums wr _ _ _) := hN
    have HB : Hid (Below _ _ _) := hB
    by_cases hlt : j < n
    · have hJ : (j : Int) < (n : Int) := by omega
      have hp := fun k (hk : k < n * 8) => cell_keep hB (HP.out.cell k hk)
      have c0 := hp (j * 8) (by omega)
      have c1 := hp (j * 8 + 1) (by omega)
      have c2 := hp (j * 8 + 2) (by omega)
      have c3 := hp (j * 8 + 3) (by omega)
      have c4 := hp (j * 8 + 4) (by omega)
      have c5 := hp (j * 8 + 5) (by omega)
      have c6 := hp (j * 8 + 6) (by omega)
      have c7 := hp (j * 8 + 7) (by omega)
      have HT : Hid (zs.take ((j + 1) * 8) = zs.take (j * 8) ++ [zs.getD (j * 8) 0, zs.getD (j * 8 + 1) 0, zs.getD (j * 8 + 2) 0, zs.getD (j * 8 + 3) 0, zs.getD (j * 8 + 4) 0, zs.getD (j * 8 + 5) 0, zs.getD (j * 8 + 6) 0, zs.getD (j * 8 + 7) 0]) := by
        show _ = _
        rw [show (j + 1) * 8 = j * 8 + 8 by omega]
        exact take_eight zs (j * 8) (by have := HL.out; omega)
      generalize zs.getD (j * 8) 0 = a0 at *
      generalize zs.getD (j * 8 + 1) 0 = a1 at *
      generalize zs.getD (j * 8 + 2) 0 = a2 at *
      generalize zs.getD (j * 8 + 3) 0 = a3 at *
      generalize zs.getD (j * 8 + 4) 0 = a4 at *
      generalize zs.getD (j * 8 + 5) 0 = a5 at *
      generalize zs.getD (j * 8 + 6) 0 = a6 at *
      generalize zs.getD (j * 8 + 7) 0 = a7 at *
      have HLT : Hid (j < n) := hlt
      have Hn : Hid (n ≤ 24) := hn
      have HS : Hid (w.heap.size ≤ wr.heap.size) := hB.size
      clear hp hN hB hlt hn
      go_wp2_with (at_builtin; refine wp_append _ rfl _ _ rfl w.heap.size _ _ rfl (HN.out.keep (al (Below.refl _ _) _)) wr.heap.size 8 8 [a0, a1, a2, a3, a4, a5, a6, a7] rfl rfl (cells_eight _ _ _ _ _ _ _ _ _ _) (by have := HLT.out; have := Hn.out; simp; omega) (by have := HS.out; simp; omega) ?_; intro v' w' hN' hG')
      have N' : Hid (Nums w' _ v' _) := hN'
      have B' : Hid (Below w.heap.size w w') := (al HB.out _).grown hG' (by have := HS.out; simp; omega) (fun k hk => (HN.out.lt k hk).1)
      clear hN' hG'
      go_wp2_with fail
      go_roundw
      case rel => exact ⟨j + 1, by have := HLT.out; omega, by go_num, by rw [HT.out]; exact N'.out, B'.out⟩
      case measure => have := HLT.out; simp [intOf]; omega
    · have hJ : ¬ (j : Int) < (n : Int) := by omega
      obtain rfl : j = n := by omega
      clear hN hB
      go_wp2_with fail
      go_ret
      refine ⟨_, rfl, ?_, HB.out⟩
      have := HN.out
      rwa [List.take_of_length_le (Nat.le_of_eq HL.out)] at this
end Go.Proofs.YtbegbphbcjoglaaGreatDoor
namespace Go.Proofs.YtbegbphbcjoglaaGreatDoor
open Go.RowKit
set_option linter.unusedVariables false

theorem info_lane : (Tryz.prog.info? 108).map (fun i => (i.zero, i.size, i.bytes)) = some (some lz.val, 5, 40) := by kernel_rfl

theorem made_lanes (m : Nat) : (madeCells #[Value.int .i64 0, Value.int .i64 0, Value.int .i64 0, Value.int .i64 0, Value.int .i64 0] m).toList = List.replicate m (Value.int .i64 0) := by
  apply List.ext_getElem?
  intro j
  by_cases hj : j < m
  · have h : j % 5 = 0 ∨ j % 5 = 1 ∨ j % 5 = 2 ∨ j % 5 = 3 ∨ j % 5 = 4 := by omega
    rcases h with h | h | h | h | h <;> simp [madeCells, hj, h]
  · simp [madeCells, hj]

theorem to_lane (a b c d z : Int) (w : World) : Calls Tryz.prog 52 #[.agg #[.int .i64 a, .int .i64 b, .int .i64 c, .int .i64 d, .int .i64 z]] w fun e w' => e = .returned (.agg #[.int .i64 a, .int .i64 b, .int .i64 c, .int .i64 d, .int .i64 z]) ∧ Below w.heap.size w w' := by
  go_enter Tryz.func52, Tryz.ntmps52
  go_wp2_with fail
  exact bodyPost_ret (v := .agg #[.int .i64 a, .int .i64 b, .int .i64 c, .int .i64 d, .int .i64 z]) (by simp [results, Tryz.results52, go_sem]) rfl ⟨rfl, by first | exact al (al (al (Below.refl _ _) _) _) _ | exact al (al (Below.refl _ _) _) _⟩

set_option maxHeartbeats 1000000 in
theorem to_lanes (a : Option Addr) (len cap : Nat) (rs : List Ln) (w : World) (h : IsLanes w a len cap rs) (hl : len ≤ 1048576) :
    Calls Tryz.prog 25 #[.slice a len cap] w fun e w' => ∃ g, e = .returned (.slice (some ⟨g, 0, none⟩) len len) ∧ Ls 108 w' w.heap.size (.slice (some ⟨g, 0, none⟩) len len) rs ∧ Below w.heap.size w w' := by
  obtain ⟨i, hi, hz0, hz1, hz2⟩ := info_parts info_lane
  have hlen : Hid (len = rs.length) := h.len
  have HR : Hid (IsLanes w a len cap rs) := h
  clear h
  go_enter Tryz.func25, Tryz.ntmps25
  go_wp2_with (at_make; refine wpList_make_full _ rfl _ _ 38 rfl w.heap.size 108 i _ 5 Tryz.underlying38 hi hz0 hz1 _ _ _ _ len rfl rfl rfl rfl (by rw [hz2]; omega) (by unfold maxLen; omega) (Nat.le_refl _) ?_; intro w1 hown hgrow)
  have N1 : Hid (Ls 108 w1 w.heap.size (.slice (some ⟨w.heap.size, 0, none⟩) len len) (List.replicate len lz)) := by
    show w1.ownsRow _ _ _ _ _ _
    rw [show lz.val.cells = #[.int .i64 0, .int .i64 0, .int .i64 0, .int .i64 0, .int .i64 0] from rfl, made_lanes] at hown
    rw [flat5_replicate, List.length_replicate]
    exact hown
  have B1 : Hid (Below w.heap.size w w1) := (Below.refl _ _).grown hgrow (Nat.le_refl _) (by simp)
  clear hown hgrow hi hz0 hz1 hz2
  go_wp2_with fail
  go_loopw [4] (fun c wr => ∃ j : Nat, j ≤ len ∧ c = .int .i64 j ∧ Ls 108 wr w.heap.size (.slice (some ⟨w.heap.size, 0, none⟩) len len) (rs.take j ++ List.replicate (len - j) lz) ∧ Below w.heap.size w wr) (fun c _ => len - (intOf c).toNat)
  case atStart => exact ⟨0, Nat.zero_le _, rfl, by simpa using N1.out, B1.out⟩
  case round =>
    obtain ⟨j, hj, rfl, hN, hB⟩ := hrel
    have HN : Hid (Ls _ wr _ _ _) := hN
    have HB : Hid (Below _ _ _) := hB
    have hl2 : (len : Int) ≤ 1048576 := by omega
    by_cases hlt : j < len
    · rcases HR.out with ⟨_, h1, _, _⟩ | ⟨x, rfl, h1, h2, h3, h4⟩
      · omega
      have c0 := cell_keep hB (h4 j hlt).1
      have c1 : wr.cell? ⟨(x.add (j * 5)).block, (x.add (j * 5)).off + 1, none⟩ = some (.int .i64 (rs.getD j lz).dst) := by
        show wr.cell? ((x.add (j * 5)).add 1) = _
        rw [Go.Deep.add_add]; exact cell_keep hB (h4 j hlt).2.1
      have c2 : wr.cell? ⟨(x.add (j * 5)).block, (x.add (j * 5)).off + 2, none⟩ = some (.int .i64 (rs.getD j lz).pg) := by
        show wr.cell? ((x.add (j * 5)).add 2) = _
        rw [Go.Deep.add_add]; exact cell_keep hB (h4 j hlt).2.2.1
      have c3 : wr.cell? ⟨(x.add (j * 5)).block, (x.add (j * 5)).off + 3, none⟩ = some (.int .i64 (rs.getD j lz).af) := by
        show wr.cell? ((x.add (j * 5)).add 3) = _
        rw [Go.Deep.add_add]; exact cell_keep hB (h4 j hlt).2.2.2.1
      have c4 : wr.cell? ⟨(x.add (j * 5)).block, (x.add (j * 5)).off + 4, none⟩ = some (.int .i64 (rs.getD j lz).tt) := by
        show wr.cell? ((x.add (j * 5)).add 4) = _
        rw [Go.Deep.add_add]; exact cell_keep hB (h4 j hlt).2.2.2.2
      have hll : len = (rs.take j ++ List.replicate (len - j) lz).length := by have := hlen.out; simp; omega
      have HLL : Hid (len = (rs.take j ++ List.replicate (len - j) lz).length) := hll
      obtain ⟨q0, q1, q2, q3, q4⟩ := hN.cell hll j hlt
      have f0 := hN.free hll (j * 5)
      have f1 := hN.free hll (j * 5 + 1)
      have f2 := hN.free hll (j * 5 + 2)
      have f3 := hN.free hll (j * 5 + 3)
      have f4 := hN.free hll (j * 5 + 4)
      have hI : (j : Int) < (len : Int) := by omega
      have HL : Hid (j < len) := hlt
      have gb : w.heap.size < wr.heap.size := block_of_cell q0
      have PS : Hid ((rs.take j ++ List.replicate (len - j) lz).set j ⟨(rs.getD j lz).fr, (rs.getD j lz).dst, (rs.getD j lz).pg, (rs.getD j lz).af, (rs.getD j lz).tt⟩ = rs.take (j + 1) ++ List.replicate (len - (j + 1)) lz) := lanes_set rs j len (by have := hlen.out; omega) hlen.out
      generalize (rs.getD j lz).fr = a0 at *
      generalize (rs.getD j lz).dst = a1 at *
      generalize (rs.getD j lz).pg = a2 at *
      generalize (rs.getD j lz).af = a3 at *
      generalize (rs.getD j lz).tt = a4 at *
      clear h1 h2 h3 h4 hN hB hlt hll
      go_wp2_with fail
      refine (to_lane _ _ _ _ _ _).mono ?_
      rintro e w5 ⟨rfl, b5⟩
      have q0 := cell_keep b5 q0
      have q1 := cell_keep b5 q1
      have q2 := cell_keep b5 q2
      have q3 := cell_keep b5 q3
      have q4 := cell_keep b5 q4
      have f0 : w5.frozen? ⟨w.heap.size, j * 5, none⟩ = false := by rw [b5.frozen (p := ⟨w.heap.size, j * 5, none⟩) gb]; exact f0
      have f1 : w5.frozen? ⟨w.heap.size, j * 5 + 1, none⟩ = false := by rw [b5.frozen (p := ⟨w.heap.size, j * 5 + 1, none⟩) gb]; exact f1
      have f2 : w5.frozen? ⟨w.heap.size, j * 5 + 2, none⟩ = false := by rw [b5.frozen (p := ⟨w.heap.size, j * 5 + 2, none⟩) gb]; exact f2
      have f3 : w5.frozen? ⟨w.heap.size, j * 5 + 3, none⟩ = false := by rw [b5.frozen (p := ⟨w.heap.size, j * 5 + 3, none⟩) gb]; exact f3
      have f4 : w5.frozen? ⟨w.heap.size, j * 5 + 4, none⟩ = false := by rw [b5.frozen (p := ⟨w.heap.size, j * 5 + 4, none⟩) gb]; exact f4
      have HN5 : Hid (Ls _ w5 _ _ _) := HN.out.keep b5
      have HB5 : Hid (Below _ w w5) := on HB.out b5
      clear b5
      go_wp2_with fail
      go_roundw
      case rel =>
        refine ⟨j + 1, by have := HL.out; omega, by go_num, ?_, ?_⟩
        · have s1 := HN5.out.store HLL.out j ⟨a0, a1, a2, a3, a4⟩ HL.out
          rw [PS.out] at s1
          exact s1
        · exact ((((HB5.out.setCell (by simp) _).setCell (by simp) _).setCell (by simp) _).setCell (by simp) _).setCell (by simp) _
      case measure => have := HL.out; simp [intOf]; omega
    · have hI : ¬ (j : Int) < (len : Int) := by omega
      obtain rfl : j = len := by omega
      clear hN hB
      go_wp2_with fail
      go_ret
      refine ⟨_, rfl, ?_, HB.out⟩
      have := HN.out
      simpa [List.take_of_length_le (Nat.le_of_eq hlen.out.symm)] using this

theorem eq_lane (a b c d z : Int) (w : World) : Calls Tryz.prog 69 #[.agg #[.int .i64 a, .int .i64 b, .int .i64 c, .int .i64 d, .int .i64 z], .agg #[.int .i64 a, .int .i64 b, .int .i64 c, .int .i64 d, .int .i64 z]] w fun e w' => e = .returned (.bool true) ∧ Below w.heap.size w w' := by
  go_enter Tryz.func69, Tryz.ntmps69
  go_wp2_with fail
  go_ret
  exact ⟨rfl, al (al (Below.refl _ _) _) _⟩

set_option maxHeartbeats 1000000 in
theorem eq_lanes (v u : Value) (rs : List Ln) (b c : Nat) (w : World) (h : Ls 108 w b v rs) (k : Ls 108 w c u rs) :
    Calls Tryz.prog 38 #[v, u] w fun e w' => e = .returned (.bool true) ∧ Below w.heap.size w w' := by
  obtain ⟨a, cap, rfl, l1, l2, hg⟩ := h.shape
  obtain ⟨a', cap', rfl, m1, m2, hg'⟩ := k.shape
  have HZ : Hid (Ls _ w b _ rs) := h
  have KZ : Hid (Ls _ w c _ rs) := k
  have hl : (rs.length : Int) ≤ 9223372036854775807 := by unfold maxLen at l2; omega
  clear h k
  obtain ⟨n, hn⟩ : ∃ n, rs.length = n := ⟨_, rfl⟩
  rw [hn] at HZ KZ hl l1 m1 hg hg' ⊢
  have HN : Hid (rs.length = n) := hn
  clear hn l1 m1 l2 m2
  go_enter Tryz.func38, Tryz.ntmps38
  go_wp2_with fail
  go_loopw [5] (fun i wr => ∃ j : Nat, j ≤ n ∧ i = .int .i64 j ∧ Below w.heap.size w wr) (fun i _ => n - (intOf i).toNat)
  case atStart => exact ⟨0, Nat.zero_le _, rfl, Below.refl _ _⟩
  case round =>
    obtain ⟨j, hj, rfl, hB⟩ := hrel
    have HB : Hid (Below _ _ _) := hB
    by_cases hlt : j < n
    · obtain ⟨g, rfl⟩ := hg (by omega)
      obtain ⟨g', rfl⟩ := hg' (by omega)
      obtain ⟨c0, c1, c2, c3, c4⟩ := HZ.out.cell HN.out.symm j hlt
      obtain ⟨d0, d1, d2, d3, d4⟩ := KZ.out.cell HN.out.symm j hlt
      have c0 := cell_keep hB c0
      have c1 := cell_keep hB c1
      have c2 := cell_keep hB c2
      have c3 := cell_keep hB c3
      have c4 := cell_keep hB c4
      have d0 := cell_keep hB d0
      have d1 := cell_keep hB d1
      have d2 := cell_keep hB d2
      have d3 := cell_keep hB d3
      have d4 := cell_keep hB d4
      have hI : (j : Int) < (n : Int) := by omega
      have HL : Hid (j < n) := hlt
      generalize (rs.getD j lz).fr = a0 at *
      generalize (rs.getD j lz).dst = a1 at *
      generalize (rs.getD j lz).pg = a2 at *
      generalize (rs.getD j lz).af = a3 at *
      generalize (rs.getD j lz).tt = a4 at *
      clear hB hlt hg hg'
      go_wp2_with fail
      go_region_with (go_at_call 69; refine (eq_lane _ _ _ _ _ _).mono ?_; rintro e y ⟨rfl, hb⟩; first | have BB := on HB.out hb | have BB := on HB.out.drew hb | have BB := on HB.out.drew.drew hb | have BB := on HB.out.drew.drew.drew hb)
      all_goals clear c0 c1 c2 c3 c4 d0 d1 d2 d3 d4
      all_goals go_wp2_with fail
      all_goals go_roundw
      all_goals first
        | (show ∃ _, _; exact ⟨j + 1, by have := HL.out; omega, by go_num, by first | exact BB | exact BB.drew⟩)
        | (have := HL.out; simp [intOf]; omega)
    · have hI : ¬ (j : Int) < (n : Int) := by omega
      clear hB
      go_wp2_with fail
      go_ret
      exact ⟨rfl, HB.out⟩
set_option maxHeartbeats 1000000 in
theorem sz_lanes (a : Option Addr) (len cap : Nat) (k : Int) (w : World) (h : len ≤ 9223372036854775807) (h1 : 0 ≤ k) (h2 : k ≤ 1048576) :
    Calls Tryz.prog 17 #[.slice a len cap, .int .i64 k] w fun e w' => e = .returned (.int .i64 (if k - len < 0 then -1 else k - len)) ∧ w' = w := by
  have h3 : (len : Int) ≤ 9223372036854775807 := by omega
  by_cases hk : k - len < 0
  · rw [if_pos hk]
    go_enter Tryz.func17, Tryz.ntmps17
    go_wp2_with fail
    go_ret
    exact ⟨rfl, rfl⟩
  · rw [if_neg hk]
    go_enter Tryz.func17, Tryz.ntmps17
    go_wp2_with fail
    go_ret
    exact ⟨rfl, rfl⟩
end Go.Proofs.YtbegbphbcjoglaaGreatDoor
