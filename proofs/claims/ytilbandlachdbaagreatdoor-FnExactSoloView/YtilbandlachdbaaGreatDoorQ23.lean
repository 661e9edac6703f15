/- Texts of this seat, joined. -/
import Derived.Laws.AppendOwn
import Derived.Laws.AppendOwnNone
import Derived.Deep.RegionLaw
import Derived.Deep.RegionHeld3
import Derived.Deep.WholeRow
import Derived.Lib.BufferMore
import Derived.Test.YtilbandlachdbaaGreatDoorQ07
import Derived.Test.YtilbandlachdbaaGreatDoorQ09
import Derived.Test.YtilbandlachdbaaGreatDoorQ12
import Derived.Test.YtilbandlachdbaaGreatDoorQ13
import Derived.Test.YtilbandlachdbaaGreatDoorQ15
import Derived.Test.YtilbandlachdbaaGreatDoorQ16
import Derived.Test.YtilbandlachdbaaGreatDoorQ22
namespace Go.Proofs.YtilbandlachdbaaGreatDoor
open Go.RowKit
set_option linter.unusedVariables false

/-- A slice of pages that a call made: its words, page behind page. -/
def Pags (w : World) (base : Nat) (v : Value) (n : Nat) (zs : List Int) : Prop := w.ownsRow base 177 8 v n (zs.map (Value.int .i64))

theorem Pags.cell {w : World} {base g n cap : Nat} {zs : List Int} (h : Pags w base (.slice (some ⟨g, 0, none⟩) n cap) n zs) (i : Nat) (hi : i < n * 8) : w.cell? ⟨g, i, none⟩ = some (.int .i64 (zs.getD i 0)) := by
  have hl : zs.length = n * 8 := by simpa using h.1
  rw [World.ownsRow.cellAt h i hi, List.getElem?_map, List.getElem?_eq_getElem (by omega), List.getD, List.getElem?_eq_getElem (by omega)]
  rfl
theorem Pags.keep {w w' : World} {base n : Nat} {v : Value} {zs : List Int} (h : Pags w base v n zs) (hb : Below w.heap.size w w') : Pags w' base v n zs := by
  refine World.ownsRow.kept h (below_grown hb none) ?_
  cases v.ownBlock <;> simp
theorem Pags.len {w : World} {base n : Nat} {v : Value} {zs : List Int} (h : Pags w base v n zs) : zs.length = n * 8 := by simpa using h.1

theorem take_one (zs : List Int) (n : Nat) (h : n < zs.length) : zs.take (n + 1) = zs.take n ++ [zs.getD n 0] := by
  rw [List.take_succ_eq_append_getElem h, List.getD, List.getElem?_eq_getElem h]
  rfl
theorem take_eight (zs : List Int) (n : Nat) (h : n + 8 ≤ zs.length) : zs.take (n + 8) = zs.take n ++ [zs.getD n 0, zs.getD (n + 1) 0, zs.getD (n + 2) 0, zs.getD (n + 3) 0, zs.getD (n + 4) 0, zs.getD (n + 5) 0, zs.getD (n + 6) 0, zs.getD (n + 7) 0] := by
  rw [take_one zs (n + 7) (by omega), take_one zs (n + 6) (by omega), take_one zs (n + 5) (by omega), take_one zs (n + 4) (by omega), take_one zs (n + 3) (by omega), take_one zs (n + 2) (by omega), take_one zs (n + 1) (by omega), take_one zs n (by omega)]
  simp only [List.append_assoc, List.cons_append, List.nil_append]

/-- append of numbers to a slice of the call's own. -/
theorem wp_append {ops : Array Oper} {rest : List Oper} {o : Oper} {act : Act} {Q : Exit → Act → World → Prop} (w : World) (hgd : o.guard = none) (s x : Operand)
    (ho : o.op = .call { callee := .builtin .append, args := #[s, x], argTypes := #[28, 28] }) (base : Nat) (v : Value) (zs : List Int) (hs : act.eval s = v) (hN : Nums w base v zs)
    (B m c : Nat) (ys : List Int) (hx : act.eval x = .slice (some ⟨B, 0, none⟩) m c) (hy : ys.length = m) (hc : ∀ i, i < m → w.cell? ⟨B, i, none⟩ = some (.int .i64 (ys.getD i 0)))
    (hlen : zs.length + m ≤ 1000000000) (hbase : base ≤ w.heap.size)
    (h : ∀ v' w', Nums w' base v' (zs ++ ys) → w.grownBy w' v.ownBlock → wpList Tryz.prog ops Q rest (act.put o.dst v') w') : wpList Tryz.prog ops Q (o :: rest) act w := by
  obtain ⟨i, hi, hz0, hz1, hz2⟩ := info_parts info_i64
  refine wpList_append_own w hgd s x 28 ho base 2 i _ 1 8 Tryz.underlying28 hi hz0 hz1 hz2 rfl (by decide) v zs.length _ hs hN ⟨B, 0, none⟩ m c (ys.map (Value.int .i64)) hx (by simpa using hy) ?_ ?_ (by unfold maxLen; omega) (by omega) hbase ?_
  · intro j u hj
    have hjl : j < ys.length := by have := (List.getElem?_eq_some_iff.1 hj).1; simpa using this
    rw [List.getElem?_map, List.getElem?_eq_getElem hjl] at hj
    have := hc j (by omega)
    rw [List.getD, List.getElem?_eq_getElem hjl] at this
    rw [show (⟨B, 0, none⟩ : Addr).add j = ⟨B, j, none⟩ by rw [Addr.add_lit]; simp, this]
    exact hj
  · intro u hu
    obtain ⟨z, _, rfl⟩ := List.mem_map.1 hu
    rfl
  · intro v' w' hown hgrow _
    refine h v' w' ?_ hgrow
    unfold Nums
    rw [List.length_append, hy, List.map_append]
    exact hown

theorem cells_eight (w : World) (t : TypeId) (a0 a1 a2 a3 a4 a5 a6 a7 : Int) : ∀ i, i < 8 → (w.alloc (.cells #[.int .i64 a0, .int .i64 a1, .int .i64 a2, .int .i64 a3, .int .i64 a4, .int .i64 a5, .int .i64 a6, .int .i64 a7] t)).cell? ⟨w.heap.size, i, none⟩ = some (.int .i64 ([a0, a1, a2, a3, a4, a5, a6, a7].getD i 0)) := by
  intro i hi
  have : i = 0 ∨ i = 1 ∨ i = 2 ∨ i = 3 ∨ i = 4 ∨ i = 5 ∨ i = 6 ∨ i = 7 := by omega
  rcases this with rfl | rfl | rfl | rfl | rfl | rfl | rfl | rfl <;> exact cell_new rfl

set_option maxHeartbeats 2000000 in
theorem impl_join (g n cap : Nat) (zs : List Int) (b : Nat) (w : World) (h : Pags w b (.slice (some ⟨g, 0, none⟩) n cap) n zs) (hn : n ≤ 24) :
    Calls Tryz.prog 115 #[.slice (some ⟨g, 0, none⟩) n cap] w fun e w' => ∃ v, e = .returned v ∧ Nums w' w.heap.size v zs ∧ Below w.heap.size w w' := by
  have HP : Hid (Pags w b _ n zs) := h
  have HL : Hid (zs.length = n * 8) := h.len
  have hni : (n : Int) ≤ 24 := by omega
  clear h
  go_enter Tryz.func115, Tryz.ntmps115
  go_wp2_with fail
  go_loopw [3, 5, 8] (fun v _ c wr => ∃ j : Nat, j ≤ n ∧ c = .int .i64 j ∧ Nums wr w.heap.size v (zs.take (j * 8)) ∧ Below w.heap.size w wr) (fun _ _ c _ => n - (intOf c).toNat)
  case atStart => exact ⟨0, Nat.zero_le _, rfl, by simpa using Nums.nil w _, Below.refl _ _⟩
  case round =>
    obtain ⟨j, hj, rfl, hN, hB⟩ := hrel
    have HN : Hid (Nums wr _ _ _) := hN
    have HB : Hid (Below _ _ _) := hB
    by_cases hlt : j < n
    · have hJ : (j : Int) < (n : Int) := by omega
      have hp := fun k (hk : k < n * 8) => cell_keep hB (HP.out.cell k hk)
      have c0 := hp (j * 8) (by omega)
      have c1 := hp (j * 8 + 1) (by omega)
      have c2 := hp (j * 8 + 2) (by omega)
      have c3 := hp (j * 8 + 3) (by omega)
      have c4 := hp (j * 8 + 4) (by omega)
      have c5 := hp (j * 8 + 5) (by omega)
      have c6 := hp (j * 8 + 6) (by omega)
      have c7 := hp (j * 8 + 7) (by omega)
      have HT : Hid (zs.take ((j + 1) * 8) = zs.take (j * 8) ++ [zs.getD (j * 8) 0, zs.getD (j * 8 + 1) 0, zs.getD (j * 8 + 2) 0, zs.getD (j * 8 + 3) 0, zs.getD (j * 8 + 4) 0, zs.getD (j * 8 + 5) 0, zs.getD (j * 8 + 6) 0, zs.getD (j * 8 + 7) 0]) := by
        show _ = _
        rw [show (j + 1) * 8 = j * 8 + 8 by omega]
        exact take_eight zs (j * 8) (by have := HL.out; omega)
      generalize zs.getD (j * 8) 0 = a0 at *
      generalize zs.getD (j * 8 + 1) 0 = a1 at *
      generalize zs.getD (j * 8 + 2) 0 = a2 at *
      generalize zs.getD (j * 8 + 3) 0 = a3 at *
      generalize zs.getD (j * 8 + 4) 0 = a4 at *
      generalize zs.getD (j * 8 + 5) 0 = a5 at *
      generalize zs.getD (j * 8 + 6) 0 = a6 at *
      generalize zs.getD (j * 8 + 7) 0 = a7 at *
      have HLT : Hid (j < n) := hlt
      have Hn : Hid (n ≤ 24) := hn
      have HS : Hid (w.heap.size ≤ wr.heap.size) := hB.size
      clear hp hN hB hlt hn
      go_wp2_with (at_builtin; refine wp_append _ rfl _ _ rfl w.heap.size _ _ rfl (HN.out.keep (al (Below.refl _ _) _)) wr.heap.size 8 8 [a0, a1, a2, a3, a4, a5, a6, a7] rfl rfl (cells_eight _ _ _ _ _ _ _ _ _ _) (by have := HLT.out; have := Hn.out; simp; omega) (by have := HS.out; simp; omega) ?_; intro v' w' hN' hG')
      have N' : Hid (Nums w' _ v' _) := hN'
      have B' : Hid (Below w.heap.size w w') := (al HB.out _).grown hG' (by have := HS.out; simp; omega) (fun k hk => (HN.out.lt k hk).1)
      clear hN' hG'
      go_wp2_with fail
      go_roundw
      case rel => exact ⟨j + 1, by have := HLT.out; omega, by go_num, by rw [HT.out]; exact N'.out, B'.out⟩
      case measure => have := HLT.out; simp [intOf]; omega
    · have hJ : ¬ (j : Int) < (n : Int) := by omega
      obtain rfl : j = n := by omega
      clear hN hB
      go_wp2_with fail
      go_ret
      refine ⟨_, rfl, ?_, HB.out⟩
      have := HN.out
      rwa [List.take_of_length_le (Nat.le_of_eq HL.out)] at this
end Go.Proofs.YtilbandlachdbaaGreatDoor
namespace Go.Proofs.YtilbandlachdbaaGreatDoor
open Go.RowKit
set_option linter.unusedVariables false

/-- append of numbers to a slice of the call's own, as a step of a region. -/
theorem step_append {ops : Array Oper} {o : Oper} {act : Act} {w : World} {K : Act → World → Prop} {Q : Exit → Act → World → Prop} {E : Prop} (hgd : o.guard = none) (s x : Operand)
    (ho : o.op = .call { callee := .builtin .append, args := #[s, x], argTypes := #[28, 28] }) (base : Nat) (v : Value) (zs : List Int) (hs : act.eval s = v) (hN : Nums w base v zs)
    (ao : Option Addr) (m c : Nat) (ys : List Int) (hx : act.eval x = .slice ao m c) (hy : ys.length = m) (hnone : ao = none → m = 0 ∧ c = 0) (hc : ∀ ad, ao = some ad → ∀ i, i < m → w.cell? (ad.add i) = some (.int .i64 (ys.getD i 0)))
    (hlen : zs.length + m ≤ 1000000000) (B : Nat) (w0 : World) (hb : Below B w0 w) (hB : B ≤ base) (hbase : base ≤ w.heap.size)
    (h : ∀ v' w', Hid (Nums w' base v' (zs ++ ys)) → w.grownBy w' v.ownBlock → Below B w0 w' → K (act.put o.dst v') w') :
    if Region.wanted o (yielded ops act.tmps) = true then Oper.wp Tryz.prog o act w K Q else E := by
  have hw : Region.wanted o (yielded ops act.tmps) = true := by simp [Region.wanted, hgd]
  rw [if_pos hw]
  obtain ⟨i, hi, hz0, hz1, hz2⟩ := info_parts info_i64
  cases ao with
  | none =>
    obtain ⟨rfl, rfl⟩ := hnone rfl
    obtain rfl : ys = [] := List.eq_nil_of_length_eq_zero hy
    have hrun := run_append_owned_none (P := Tryz.prog) (w := w) base 28 o.type 2 i 1 Tryz.underlying28 hi v zs.length _ hN
    unfold Oper.wp
    simp [execOp, ho, resolve, invoke, builtin, hs, hx, hrun, Result.andThen]
    exact h v w (show Nums _ _ _ _ by rw [List.append_nil]; exact hN) (World.grownBy.refl _ _) hb
  | some ad =>
    refine wp_append_own w s x 28 ho base 2 i _ 1 8 Tryz.underlying28 hi hz0 hz1 hz2 rfl (by decide) v zs.length _ hs hN ad m c (ys.map (Value.int .i64)) hx (by simpa using hy) ?_ ?_ (by unfold maxLen; omega) (by omega) hbase ?_
    · intro j u hj
      have hjl : j < ys.length := by have := (List.getElem?_eq_some_iff.1 hj).1; simpa using this
      rw [List.getElem?_map, List.getElem?_eq_getElem hjl] at hj
      have := hc ad rfl j (by omega)
      rw [List.getD, List.getElem?_eq_getElem hjl] at this
      rw [this]
      exact hj
    · intro u hu
      obtain ⟨z, _, rfl⟩ := List.mem_map.1 hu
      rfl
    · intro v' w' hown hgrow _
      refine h v' w' ?_ hgrow (hb.grown hgrow (Nat.le_trans hB hbase) (fun k hk => Nat.le_trans hB (hN.lt k hk).1))
      show Nums _ _ _ _
      unfold Nums
      rw [List.length_append, hy, List.map_append]
      exact hown

end Go.Proofs.YtilbandlachdbaaGreatDoor
namespace Go.Proofs.YtilbandlachdbaaGreatDoor
open Go.RowKit
set_option linter.unusedVariables false

theorem made_replicate (z : Value) (k m : Nat) (hk : 0 < k) : (madeCells (Array.replicate k z) m).toList = List.replicate m z := by
  apply List.ext_getElem?
  intro j
  by_cases hj : j < m
  · have : j % k < k := Nat.mod_lt _ hk
    simp [madeCells, hj, this]
  · simp [madeCells, hj]

theorem info_wpage : (Tryz.prog.info? 177).map (fun i => (i.zero, i.size, i.bytes)) = some (some (.agg (Array.replicate 8 (.int .i64 0))), 8, 64) := by kernel_rfl

end Go.Proofs.YtilbandlachdbaaGreatDoor
namespace Go.Proofs.YtilbandlachdbaaGreatDoor
open Go.RowKit
set_option linter.unusedVariables false

theorem sz_nums (a : Option Addr) (len cap : Nat) (k : Int) (w : World) (h : len ≤ 9223372036854775807) (h1 : 0 ≤ k) (h2 : k ≤ 1048576) :
    Calls Tryz.prog 24 #[.slice a len cap, .int .i64 k] w fun e w' => e = .returned (.int .i64 (if k - len < 0 then -1 else k - len)) ∧ w' = w := by
  have h3 : (len : Int) ≤ 9223372036854775807 := by omega
  by_cases hk : k - len < 0
  · rw [if_pos hk]
    go_enter Tryz.func24, Tryz.ntmps24
    go_wp2_with fail
    go_ret
    exact ⟨rfl, rfl⟩
  · rw [if_neg hk]
    go_enter Tryz.func24, Tryz.ntmps24
    go_wp2_with fail
    go_ret
    exact ⟨rfl, rfl⟩
theorem IsRow.lens {k : IntKind} {w : World} {a : Option Addr} {len cap : Nat} {zs : List Int} (h : IsRow k w a len cap zs) : len = zs.length ∧ len ≤ 9223372036854775807 := by
  rcases h with ⟨_, h1, _, rfl⟩ | ⟨x, _, h1, h2, h3, _⟩
  · exact ⟨by simpa using h1, by omega⟩
  · exact ⟨h3.symm, by unfold maxLen at h2; omega⟩
theorem IsSS.at {w : World} {a : Option Addr} {len cap : Nat} {oss : List (List Int)} (h : IsSS w a len cap oss) (i : Nat) (hi : i < len) : ∃ x b l c, a = some x ∧ w.cell? (x.add i) = some (.slice b l c) ∧ IsRow .i64 w b l c (oss.getD i []) := by
  rcases h with ⟨_, h1, _, _⟩ | ⟨x, rfl, h1, h2, h3, h4⟩
  · omega
  · obtain ⟨b, l, c, k1, k2⟩ := h4 i hi
    exact ⟨x, b, l, c, rfl, k1, k2⟩

set_option maxHeartbeats 1000000 in
theorem sz_ss (a : Option Addr) (n c : Nat) (k : Int) (oss : List (List Int)) (w : World) (h : IsSS w a n c oss) (h1 : 0 ≤ k) (h2 : k ≤ 1048576) :
    Calls Tryz.prog 43 #[.slice a n c, .int .i64 k] w fun e w' => (∃ r : Int, e = .returned (.int .i64 r) ∧ r ≤ 1048576 ∧ (0 ≤ r → n ≤ 1048576 ∧ ∀ i, i < n → (oss.getD i []).length ≤ 1048576)) ∧ w' = w := by
  have HR : Hid (IsSS w a n c oss) := h
  have hmax : (n : Int) ≤ 9223372036854775807 := by have := h.cap; unfold maxLen at this; omega
  clear h
  by_cases hk : k - n < 0
  · go_enter Tryz.func43, Tryz.ntmps43
    go_wp2_with fail
    go_ret
    exact ⟨⟨-1, rfl, by omega, fun h => by omega⟩, rfl⟩
  have HN : Hid (n ≤ 1048576) := by show _ ≤ _; omega
  have hb0 : 0 ≤ k - n := by omega
  have hb1 : k - n ≤ 1048576 := by omega
  go_enter Tryz.func43, Tryz.ntmps43
  go_wp2_with fail
  generalize k - (n : Int) = r0 at *
  clear hk h1 h2
  go_loop [1, 5] (fun u c => ∃ (j : Nat) (r : Int), j ≤ n ∧ c = .int .i64 j ∧ u = .int .i64 r ∧ 0 ≤ r ∧ r ≤ 1048576 ∧ Hid (∀ i, i < j → (oss.getD i []).length ≤ 1048576)) (fun _ c => n - (intOf c).toNat)
  case atStart => exact ⟨0, r0, Nat.zero_le _, rfl, rfl, hb0, hb1, fun i hi => absurd hi (Nat.not_lt_zero _)⟩
  case round =>
    obtain ⟨j, r, hj, rfl, rfl, hr0, hr1, hI⟩ := hrel
    by_cases hlt : j < n
    · obtain ⟨x, b, l, c, rfl, k1, k2⟩ := HR.out.at j hlt
      have HLL : Hid (l = (oss.getD j []).length) := k2.lens.1
      have HLM : Hid (l ≤ 9223372036854775807) := k2.lens.2
      have hJ : (j : Int) < (n : Int) := by omega
      have HLT : Hid (j < n) := hlt
      clear k2 hlt
      by_cases hz : r - l < 0
      · go_wp2_with (go_at_call 24; refine (sz_nums _ _ _ _ _ HLM.out hr0 hr1).mono ?_; rintro e w ⟨rfl, rfl⟩; rw [if_pos hz])
        go_ret
        exact ⟨⟨-1, rfl, by omega, fun h => by omega⟩, rfl⟩
      · have e0 : 0 ≤ r - l := by omega
        have e1 : r - l ≤ 1048576 := by omega
        have HL2 : Hid (l ≤ 1048576) := by show _ ≤ _; omega
        go_wp2_with (go_at_call 24; refine (sz_nums _ _ _ _ _ HLM.out hr0 hr1).mono ?_; rintro e w ⟨rfl, rfl⟩; rw [if_neg hz])
        go_round
        case rel =>
          refine ⟨j + 1, r - l, by have := HLT.out; omega, by go_num, rfl, e0, e1, fun i hi => ?_⟩
          rcases Nat.lt_or_ge i j with h | h
          · exact hI.out i h
          · obtain rfl : i = j := by omega
            have := HL2.out; have := HLL.out; omega
        case measure => have := HLT.out; simp [intOf]; omega
    · have hJ : ¬ (j : Int) < (n : Int) := by omega
      have HJ : Hid (j = n) := by show _ = _; omega
      clear hlt
      go_wp2_with fail
      go_ret
      exact ⟨⟨r, rfl, hr1, fun _ => ⟨HN.out, fun i hi => hI.out i (by have := HJ.out; omega)⟩⟩, rfl⟩

/-- A slice of slices that was made: its row, and each of its slices, at base or behind it. -/
structure SSo (w : World) (base g n : Nat) (oss : List (List Int)) : Prop where
  len : n = oss.length
  small : n ≤ 1048576
  low : base ≤ g
  row : ∀ i, i < n → ∃ b l c, w.cell? ⟨g, i, none⟩ = some (.slice b l c) ∧ Nums w base (.slice b l c) (oss.getD i [])
theorem SSo.keep {w w' : World} {base g n : Nat} {oss : List (List Int)} (h : SSo w base g n oss) (b : Below w.heap.size w w') : SSo w' base g n oss :=
  ⟨h.len, h.small, h.low, fun i hi => by
    obtain ⟨x, l, c, k1, k2⟩ := h.row i hi
    exact ⟨x, l, c, cell_keep b k1, k2.keep b⟩⟩
theorem SSo.read {w : World} {base g n : Nat} {oss : List (List Int)} (h : SSo w base g n oss) : IsS2 w (some ⟨g, 0, none⟩) n n oss :=
  .inr ⟨⟨g, 0, none⟩, rfl, Nat.le_refl _, by have := h.small; unfold maxLen; omega, h.len.symm, fun i hi => by
    obtain ⟨x, l, c, k1, k2⟩ := h.row i hi
    exact ⟨x, l, c, by simpa [Addr.add_lit] using k1, k2.read⟩⟩

theorem info_sl : (Tryz.prog.info? 28).map (fun i => (i.zero, i.size, i.bytes)) = some (some (.slice none 0 0), 1, 24) := by kernel_rfl

set_option maxHeartbeats 2000000 in
theorem to_ss (a : Option Addr) (len cap : Nat) (oss : List (List Int)) (w : World) (h : IsSS w a len cap oss) (hl : len ≤ 1048576) (hs : ∀ i, i < len → (oss.getD i []).length ≤ 1048576) :
    Calls Tryz.prog 54 #[.slice a len cap] w fun e w' => ∃ g, e = .returned (.slice (some ⟨g, 0, none⟩) len len) ∧ SSo w' w.heap.size g len oss ∧ Below w.heap.size w w' := by
  obtain ⟨i, hi, hz0, hz1, hz2⟩ := info_parts info_sl
  have hlen : Hid (len = oss.length) := h.len
  have HR : Hid (IsSS w a len cap oss) := h
  have HS : Hid (∀ i, i < len → (oss.getD i []).length ≤ 1048576) := hs
  have HSM : Hid (len ≤ 1048576) := hl
  clear h hs
  go_enter Tryz.func54, Tryz.ntmps54
  go_wp2_with (at_make; refine wpList_make_full _ rfl _ _ 22 rfl w.heap.size 28 i _ 1 Tryz.underlying22 hi hz0 hz1 _ _ _ _ len rfl rfl rfl rfl (by rw [hz2]; omega) (by unfold maxLen; omega) (Nat.le_refl _) ?_; intro w1 hown hgrow)
  have N1 : Hid (w1.ownsRow w.heap.size 28 1 (.slice (some ⟨w.heap.size, 0, none⟩) len len) len (List.replicate len (.slice none 0 0))) := by
    show w1.ownsRow _ _ _ _ _ _
    rw [Nat.mul_one, show (Value.slice none 0 0).cells = #[.slice none 0 0] from rfl, toList_madeCells_one] at hown
    exact hown
  have B1 : Hid (Below w.heap.size w w1) := (Below.refl _ _).grown hgrow (Nat.le_refl _) (by simp)
  clear hown hgrow hi hz0 hz1 hz2
  go_wp2_with fail
  go_loopw [4] (fun c wr => ∃ (j : Nat) (vs : List Value), j ≤ len ∧ c = .int .i64 j ∧ wr.ownsRow w.heap.size 28 1 (.slice (some ⟨w.heap.size, 0, none⟩) len len) len vs ∧ Below w.heap.size w wr ∧
    (∀ i, i < j → ∃ b l c, vs[i]? = some (.slice b l c) ∧ Nums wr (w.heap.size + 1) (.slice b l c) (oss.getD i []))) (fun c _ => len - (intOf c).toNat)
  case atStart => exact ⟨0, _, Nat.zero_le _, rfl, N1.out, B1.out, fun i hi => absurd hi (Nat.not_lt_zero _)⟩
  case round =>
    obtain ⟨j, vs, hj, rfl, hN, hB, hV⟩ := hrel
    have HN : Hid (wr.ownsRow _ _ _ _ _ vs) := hN
    have HB : Hid (Below _ w wr) := hB
    have HV : Hid (∀ i, i < j → ∃ b l c, vs[i]? = some (.slice b l c) ∧ Nums wr (w.heap.size + 1) (.slice b l c) (oss.getD i [])) := hV
    have hl2 : (len : Int) ≤ 1048576 := by omega
    have hvl : vs.length = len := by have := hN.1; simpa using this
    by_cases hlt : j < len
    · obtain ⟨x, b, l, c, rfl, k1, k2⟩ := HR.out.at j hlt
      have k1 := cell_keep hB k1
      have HK : Hid (IsRow .i64 wr b l c _) := k2.stay hB
      have HL5 : Hid (l ≤ 1048576) := by have := k2.lens.1; have := HS.out j hlt; show _ ≤ _; omega
      have c0 : wr.cell? ⟨w.heap.size, j, none⟩ = some (vs.getD j (.slice none 0 0)) := by
        have := World.ownsRow.cellAt hN j (by omega)
        rw [this, List.getElem?_eq_getElem (by omega), List.getD, List.getElem?_eq_getElem (by omega)]
        rfl
      have f0 : wr.frozen? ⟨w.heap.size, j, none⟩ = false := World.ownsRow.frozenAt hN j
      have gb : w.heap.size < wr.heap.size := block_of_cell c0
      have hI : (j : Int) < (len : Int) := by omega
      have HL : Hid (j < len) := hlt
      have HVL : Hid (vs.length = len) := hvl
      generalize vs.getD j (.slice none 0 0) = old at *
      clear hN hB hV hlt k2 hvl
      go_wp2_with fail
      refine (to_nums _ _ _ _ _ HK.out HL5.out).mono ?_
      rintro e w5 ⟨g5, rfl, n5, b5⟩
      have c0 := cell_keep b5 c0
      have f0 : w5.frozen? ⟨w.heap.size, j, none⟩ = false := by rw [b5.frozen (p := ⟨w.heap.size, j, none⟩) gb]; exact f0
      have HN5 : Hid (w5.ownsRow w.heap.size 28 1 (.slice (some ⟨w.heap.size, 0, none⟩) len len) len vs) := World.ownsRow.kept HN.out (below_grown b5 none) (by cases (Value.slice (some ⟨w.heap.size, 0, none⟩) len len).ownBlock <;> simp)
      have HB5 : Hid (Below _ w w5) := on HB.out b5
      have HV5 : Hid (∀ i, i < j → ∃ b l c, vs[i]? = some (.slice b l c) ∧ Nums w5 (w.heap.size + 1) (.slice b l c) (oss.getD i [])) := fun i hi => by
        obtain ⟨b, l, c, e1, e2⟩ := HV.out i hi
        exact ⟨b, l, c, e1, e2.keep b5⟩
      have n5' : Hid (Nums w5 (w.heap.size + 1) (.slice (some ⟨g5, 0, none⟩) l l) (oss.getD j [])) := n5.mono (by omega)
      clear b5 n5
      go_wp2_with fail
      go_roundw
      case rel =>
        have ne : ∀ {v : Value} {zs : List Int}, Nums w5 (w.heap.size + 1) v zs → v.ownBlock ≠ some w.heap.size := fun hn e => by have := (hn.lt _ e).1; omega
        refine ⟨j + 1, vs.set j (.slice (some ⟨g5, 0, none⟩) l l), by have := HL.out; omega, by go_num, (World.ownsRow.stored HN5.out j _).1, HB5.out.setCell (by simp) _, fun i hi => ?_⟩
        by_cases e : i = j
        · subst e
          exact ⟨_, _, _, List.getElem?_set_self (by have := HL.out; have := HVL.out; omega), n5'.out.put _ _ (ne n5'.out)⟩
        · obtain ⟨b, l, c, e1, e2⟩ := HV5.out i (by omega)
          exact ⟨b, l, c, by rw [List.getElem?_set_ne (fun h => e h.symm)]; exact e1, e2.put _ _ (ne e2)⟩
      case measure => have := HL.out; simp [intOf]; omega
    · have hI : ¬ (j : Int) < (len : Int) := by omega
      obtain rfl : j = len := by omega
      clear hN hB hV
      go_wp2_with fail
      go_ret
      refine ⟨_, rfl, ⟨hlen.out, HSM.out, Nat.le_refl _, fun i hi => ?_⟩, HB.out⟩
      obtain ⟨b, l, c, e1, e2⟩ := HV.out i hi
      refine ⟨b, l, c, ?_, e2.mono (by omega)⟩
      rw [World.ownsRow.cellAt HN.out i (by omega)]
      exact e1

set_option maxHeartbeats 2000000 in
theorem eq_ss (g g' n : Nat) (oss : List (List Int)) (b c : Nat) (w : World) (h : SSo w b g n oss) (k : SSo w c g' n oss) :
    Calls Tryz.prog 63 #[.slice (some ⟨g, 0, none⟩) n n, .slice (some ⟨g', 0, none⟩) n n] w fun e w' => e = .returned (.bool true) ∧ Below w.heap.size w w' := by
  have HZ : Hid (SSo w b g n oss) := h
  have KZ : Hid (SSo w c g' n oss) := k
  have hl : (n : Int) ≤ 9223372036854775807 := by have := h.small; omega
  clear h k
  go_enter Tryz.func63, Tryz.ntmps63
  go_wp2_with fail
  go_loopw [5] (fun i wr => ∃ j : Nat, j ≤ n ∧ i = .int .i64 j ∧ Below w.heap.size w wr) (fun i _ => n - (intOf i).toNat)
  case atStart => exact ⟨0, Nat.zero_le _, rfl, Below.refl _ _⟩
  case round =>
    obtain ⟨j, hj, rfl, hB⟩ := hrel
    have HB : Hid (Below _ _ _) := hB
    by_cases hlt : j < n
    · obtain ⟨x1, l1, c1, d1, m1⟩ := (HZ.out.keep hB).row j hlt
      obtain ⟨x2, l2, c2, d2, m2⟩ := (KZ.out.keep hB).row j hlt
      have M1 : Hid (Nums wr _ _ _) := m1
      have M2 : Hid (Nums wr _ _ _) := m2
      have hI : (j : Int) < (n : Int) := by omega
      have HL : Hid (j < n) := hlt
      have inh : Nonempty (BW wr) := ⟨⟨wr, Below.refl _ _⟩⟩
      have z1 := BW.cell d1
      have z2 := BW.cell d2
      have CE : ∀ p : BW wr, Calls Tryz.prog 37 #[.slice x1 l1 c1, .slice x2 l2 c2] p.w fun e w' => e = .returned (.bool true) ∧ Below p.w.heap.size p.w w' := fun p => eq_nums _ _ _ _ _ _ (M1.out.keep p.h) (M2.out.keep p.h)
      clear hB hlt m1 m2
      go_wp2_with fail
      refine region_bw (by kernel_rfl) ?_
      repeat (quiet_step ((go_at_call 37; exact calls_bw (CE _))))
      refine wpQuiet_nil ?_
      rintro _ ⟨p9, rfl⟩
      have B9 : Hid (Below w.heap.size w p9.w) := on HB.out p9.h
      go_wp2_with fail
      go_roundw
      case rel => exact ⟨j + 1, by have := HL.out; omega, by go_num, B9.out⟩
      case measure => have := HL.out; simp [intOf]; omega
    · have hI : ¬ (j : Int) < (n : Int) := by omega
      clear hB
      go_wp2_with fail
      go_ret
      exact ⟨rfl, HB.out⟩
end Go.Proofs.YtilbandlachdbaaGreatDoor
namespace Go.Proofs.YtilbandlachdbaaGreatDoor
open Go.RowKit
set_option linter.unusedVariables false

/-- From one world to another: blocks outside of S stay. -/
structure Mq (S : Nat → Prop) (w w' : World) : Prop where
  os : w'.os = w.os
  tape : w'.tape = w.tape
  output : w'.output = w.output
  size : w.heap.size ≤ w'.heap.size
  block : ∀ k, k < w.heap.size → ¬ S k → w'.heap[k]? = w.heap[k]?
theorem Mq.of {S : Nat → Prop} {w w' : World} {row : Option Nat} (g : w.grownBy w' row) (h : ∀ k, some k = row → S k) : Mq S w w' :=
  ⟨g.os, g.tape, g.output, g.size, fun k hk hn => g.block k hk fun e => hn (h k e)⟩
theorem Mq.trans {S : Nat → Prop} {a b c : World} (h : Mq S a b) (k : Mq S b c) : Mq S a c :=
  ⟨k.os.trans h.os, k.tape.trans h.tape, k.output.trans h.output, Nat.le_trans h.size k.size, fun i hi hn => (k.block i (Nat.lt_of_lt_of_le hi h.size) hn).trans (h.block i hi hn)⟩
theorem Mq.vb {S : Nat → Prop} {w w' : World} {q : Nat} {cs : Array Value} {t : TypeId} (m : Mq S w w') (h : Vb w q cs t) (hn : ¬ S q) : Vb w' q cs t := (m.block q h.lt hn).trans h
theorem Mq.nums {S : Nat → Prop} {w w' : World} {base : Nat} {v : Value} {zs : List Int} (m : Mq S w w') (h : Nums w base v zs) (hn : ∀ k, v.ownBlock = some k → ¬ S k) : Nums w' base v zs := by
  obtain ⟨h1, h2 | ⟨g, cap, cur, hv, hg, hr, rest⟩⟩ := h
  · exact ⟨h1, .inl h2⟩
  · refine ⟨h1, .inr ⟨g, cap, cur, hv, hg, ?_, rest⟩⟩
    rw [m.block g ((Array.getElem?_eq_some_iff.1 hr).1) (hn g (by rw [hv]; rfl))]
    exact hr
theorem Mq.below {S : Nat → Prop} {a w w' : World} (h : Below a.heap.size a w) (m : Mq S w w') (hn : ∀ k, S k → a.heap.size ≤ k) : Below a.heap.size a w' :=
  ⟨m.os.trans h.os, m.tape.trans h.tape, m.output.trans h.output, Nat.le_trans h.size m.size, fun k hk => (m.block k (Nat.lt_of_lt_of_le hk h.size) (fun s => by have := hn k s; omega)).trans (h.block k hk)⟩
/-- The blocks of four lists. -/
def Own4 (r c i o : Value) (k : Nat) : Prop := r.ownBlock = some k ∨ c.ownBlock = some k ∨ i.ownBlock = some k ∨ o.ownBlock = some k
theorem Mq.hm {S : Nat → Prop} {w w' : World} {base : Nat} {r c i o : Value} {H : Ht} (m : Mq S w w') (h : Hm w base r c i o H) (hn : ∀ k, Own4 r c i o k → ¬ S k) : Hm w' base r c i o H :=
  ⟨m.nums h.r fun k e => hn k (.inl e), m.nums h.c fun k e => hn k (.inr (.inl e)), m.nums h.i fun k e => hn k (.inr (.inr (.inl e))), m.nums h.o fun k e => hn k (.inr (.inr (.inr e)))⟩
theorem Hm.own {w : World} {base : Nat} {r c i o : Value} {H : Ht} (h : Hm w base r c i o H) (k : Nat) (e : Own4 r c i o k) : base ≤ k ∧ k < w.heap.size := by
  rcases e with e | e | e | e
  · exact h.r.lt k e
  · exact h.c.lt k e
  · exact h.i.lt k e
  · exact h.o.lt k e

def totH (H : Ht) : Nat := H.regs.length + H.csr.length + H.inn.length + H.out.length
def mkH (k : Int) (H : Ht) : Ht := { H with regs := marks k H.regs.length, csr := marks (k + H.regs.length) H.csr.length, inn := marks (k + H.regs.length + H.csr.length) H.inn.length, out := marks (k + H.regs.length + H.csr.length + H.inn.length) H.out.length }

set_option maxRecDepth 20000 in
set_option maxHeartbeats 4000000 in
theorem mark_hart (r c i o : Value) (H : Ht) (k : Int) (b : Nat) (w : World) (h : Hm w b r c i o H) (A : Ha r c i o) (hk : 0 ≤ k) (hz : k + totH H ≤ 4611686018427387904) :
    Calls Tryz.prog 73 #[.agg #[r, .int .i64 H.pc, c, .bool H.halted, .bool H.waiting, .bool H.rung, .int .i64 H.done, i, o], .int .i64 k] w fun e w' => e = .returned (.int .i64 (k + totH H)) ∧ Hm w' b r c i o (mkH k H) ∧ Mq (Own4 r c i o) w w' := by
  obtain ⟨a0, k0, h0, _⟩ := h.r.shape
  obtain ⟨a1, k1, h1, _⟩ := h.c.shape
  obtain ⟨a2, k2, h2, _⟩ := h.i.shape
  obtain ⟨a3, k3, h3, _⟩ := h.o.shape
  obtain ⟨n0, e0⟩ : ∃ n, H.regs.length = n := ⟨_, rfl⟩
  obtain ⟨n1, e1⟩ : ∃ n, H.csr.length = n := ⟨_, rfl⟩
  obtain ⟨n2, e2⟩ : ∃ n, H.inn.length = n := ⟨_, rfl⟩
  obtain ⟨n3, e3⟩ : ∃ n, H.out.length = n := ⟨_, rfl⟩
  have ML : Hid (H.regs.length = n0 ∧ H.csr.length = n1 ∧ H.inn.length = n2 ∧ H.out.length = n3) := ⟨e0, e1, e2, e3⟩
  have HM : Hid (Hm w b r c i o H) := h
  have HA : Hid (Ha r c i o) := A
  have HK : Hid (0 ≤ k ∧ k + (n0 : Int) + (n1 : Int) + (n2 : Int) + (n3 : Int) ≤ 4611686018427387904) := ⟨hk, by simp only [totH] at hz; omega⟩
  have HE : Hid (k + (n0 : Int) + (n1 : Int) + (n2 : Int) + (n3 : Int) = k + totH H) := by show _ = _; simp only [totH]; omega
  rw [e0] at h0
  rw [e1] at h1
  rw [e2] at h2
  rw [e3] at h3
  have F : Hid (r = .slice a0 n0 k0 ∧ c = .slice a1 n1 k1 ∧ i = .slice a2 n2 k2 ∧ o = .slice a3 n3 k3) := ⟨h0, h1, h2, h3⟩
  clear h A hk hz e0 e1 e2 e3
  rw [h0, h1, h2, h3, ← HE.out]
  rw [← h0, ← h1, ← h2, ← h3]
  subst h0 h1 h2 h3
  generalize hW : w.alloc (.cells #[.slice a0 n0 k0, .int .i64 H.pc, .slice a1 n1 k1, .bool H.halted, .bool H.waiting, .bool H.rung, .int .i64 H.done, .slice a2 n2 k2, .slice a3 n3 k3] 34) = W
  have B0 : Hid (Below w.heap.size w W) := by show Below _ _ _; rw [← hW]; exact al (Below.refl _ _) _
  obtain ⟨s, hS⟩ : ∃ s, w.heap.size = s := ⟨_, rfl⟩
  have VA : Hid (Vb W s #[.slice a0 n0 k0, .int .i64 H.pc, .slice a1 n1 k1, .bool H.halted, .bool H.waiting, .bool H.rung, .int .i64 H.done, .slice a2 n2 k2, .slice a3 n3 k3] 34) := by
    show Vb _ _ _ _
    rw [← hW, ← hS]
    exact Vb.new _ _ _
  have LT : Hid (∀ x, Own4 (.slice a0 n0 k0) (.slice a1 n1 k1) (.slice a2 n2 k2) (.slice a3 n3 k3) x → x ≠ s) := fun x e q => by have := (HM.out.own x e).2; omega
  have q0 := VA.out.cell 0 rfl
  go_enter Tryz.func73, Tryz.ntmps73
  go_wp2_with fail
  clear hW hS q0
  refine (mark_nums _ k _ _ _ (HM.out.keep B0.out).r HK.out.1 (by have := HK.out.2; have := ML.out.1; omega)).mono ?_
  rintro e w1 ⟨rfl, m1, g1⟩
  rw [ML.out.1] at m1 ⊢
  have G1 : Hid (Mq (Own4 (.slice a0 n0 k0) (.slice a1 n1 k1) (.slice a2 n2 k2) (.slice a3 n3 k3)) W w1) := Mq.of g1 fun x e => .inl e.symm
  have M1 : Hid (Nums w1 b (.slice a0 n0 k0) (marks k n0)) := m1
  have C1 : Hid (Nums w1 b (.slice a1 n1 k1) H.csr) := (HM.out.keep B0.out).c.kept g1 HA.out.rc.swap
  have I1 : Hid (Nums w1 b (.slice a2 n2 k2) H.inn) := (HM.out.keep B0.out).i.kept g1 HA.out.ri.swap
  have O1 : Hid (Nums w1 b (.slice a3 n3 k3) H.out) := (HM.out.keep B0.out).o.kept g1 HA.out.ro.swap
  have VA1 : Hid (Vb w1 _ _ _) := G1.out.vb VA.out (fun e => LT.out _ e rfl)
  have q2 := VA1.out.cell 2 rfl
  have E1 : Hid (0 ≤ k + (n0 : Int) ∧ k + (n0 : Int) + (n1 : Int) + (n2 : Int) + (n3 : Int) ≤ 4611686018427387904) := ⟨by have := HK.out.1; omega, HK.out.2⟩
  clear m1 g1
  go_wp2_with fail
  clear q2
  refine (mark_nums _ (k + n0) _ _ _ C1.out E1.out.1 (by have := E1.out.2; have := ML.out.2.1; omega)).mono ?_
  rintro e w2 ⟨rfl, m1, g1⟩
  rw [ML.out.2.1] at m1 ⊢
  have G2 : Hid (Mq (Own4 (.slice a0 n0 k0) (.slice a1 n1 k1) (.slice a2 n2 k2) (.slice a3 n3 k3)) W w2) := G1.out.trans (Mq.of g1 fun x e => .inr (.inl e.symm))
  have M2 : Hid (Nums w2 b (.slice a0 n0 k0) (marks k n0)) := M1.out.kept g1 HA.out.rc
  have C2 : Hid (Nums w2 b (.slice a1 n1 k1) (marks (k + n0) n1)) := m1
  have I2 : Hid (Nums w2 b (.slice a2 n2 k2) H.inn) := I1.out.kept g1 HA.out.ci.swap
  have O2 : Hid (Nums w2 b (.slice a3 n3 k3) H.out) := O1.out.kept g1 HA.out.co.swap
  have VA2 : Hid (Vb w2 _ _ _) := G2.out.vb VA.out (fun e => LT.out _ e rfl)
  have q2 := VA2.out.cell 7 rfl
  have E2 : Hid (0 ≤ k + (n0 : Int) + (n1 : Int) ∧ k + (n0 : Int) + (n1 : Int) + (n2 : Int) + (n3 : Int) ≤ 4611686018427387904) := ⟨by have := HK.out.1; omega, HK.out.2⟩
  clear m1 g1 M1 C1 I1 O1 VA1
  go_wp2_with fail
  clear q2
  refine (mark_nums _ (k + n0 + n1) _ _ _ I2.out E2.out.1 (by have := E2.out.2; have := ML.out.2.2.1; omega)).mono ?_
  rintro e w3 ⟨rfl, m1, g1⟩
  rw [ML.out.2.2.1] at m1 ⊢
  have G3 : Hid (Mq (Own4 (.slice a0 n0 k0) (.slice a1 n1 k1) (.slice a2 n2 k2) (.slice a3 n3 k3)) W w3) := G2.out.trans (Mq.of g1 fun x e => .inr (.inr (.inl e.symm)))
  have M3 : Hid (Nums w3 b (.slice a0 n0 k0) (marks k n0)) := M2.out.kept g1 HA.out.ri
  have C3 : Hid (Nums w3 b (.slice a1 n1 k1) (marks (k + n0) n1)) := C2.out.kept g1 HA.out.ci
  have I3 : Hid (Nums w3 b (.slice a2 n2 k2) (marks (k + n0 + n1) n2)) := m1
  have O3 : Hid (Nums w3 b (.slice a3 n3 k3) H.out) := O2.out.kept g1 HA.out.io.swap
  have VA3 : Hid (Vb w3 _ _ _) := G3.out.vb VA.out (fun e => LT.out _ e rfl)
  have q2 := VA3.out.cell 8 rfl
  have E3 : Hid (0 ≤ k + (n0 : Int) + (n1 : Int) + (n2 : Int) ∧ k + (n0 : Int) + (n1 : Int) + (n2 : Int) + (n3 : Int) ≤ 4611686018427387904) := ⟨by have := HK.out.1; omega, HK.out.2⟩
  clear m1 g1 M2 C2 I2 O2 VA2
  go_wp2_with fail
  clear q2
  refine (mark_nums _ (k + n0 + n1 + n2) _ _ _ O3.out E3.out.1 (by have := E3.out.2; have := ML.out.2.2.2; omega)).mono ?_
  rintro e w4 ⟨rfl, m1, g1⟩
  rw [ML.out.2.2.2] at m1 ⊢
  have G4 : Hid (Mq (Own4 (.slice a0 n0 k0) (.slice a1 n1 k1) (.slice a2 n2 k2) (.slice a3 n3 k3)) w w4) := ⟨(G3.out.trans (Mq.of g1 fun x e => .inr (.inr (.inr e.symm)))).os.trans B0.out.os, (G3.out.trans (Mq.of g1 fun x e => .inr (.inr (.inr e.symm)))).tape.trans B0.out.tape, (G3.out.trans (Mq.of g1 fun x e => .inr (.inr (.inr e.symm)))).output.trans B0.out.output, Nat.le_trans B0.out.size (G3.out.trans (Mq.of g1 fun x e => .inr (.inr (.inr e.symm)))).size, fun x hx hn => ((G3.out.trans (Mq.of g1 fun x e => .inr (.inr (.inr e.symm)))).block x (Nat.lt_of_lt_of_le hx B0.out.size) hn).trans (B0.out.block x hx)⟩
  have R4 : Hid (Hm w4 b (.slice a0 n0 k0) (.slice a1 n1 k1) (.slice a2 n2 k2) (.slice a3 n3 k3) (mkH k H)) := by
    refine ⟨?_, ?_, ?_, ?_⟩
    · have := M3.out.kept g1 HA.out.ro; simpa [mkH, ML.out.1] using this
    · have := C3.out.kept g1 HA.out.co; simpa [mkH, ML.out.1, ML.out.2.1] using this
    · have := I3.out.kept g1 HA.out.io; simpa [mkH, ML.out.1, ML.out.2.1, ML.out.2.2.1] using this
    · simpa [mkH, ML.out.1, ML.out.2.1, ML.out.2.2.1, ML.out.2.2.2] using m1
  clear m1 g1
  go_wp2_with fail
  go_ret
  exact ⟨rfl, R4.out, G4.out⟩

set_option maxRecDepth 20000 in
set_option maxHeartbeats 4000000 in
theorem held_hart (r c i o : Value) (H : Ht) (k : Int) (b : Nat) (w : World) (h : Hm w b r c i o (mkH k H)) (hk : 0 ≤ k) (hz : k + totH H ≤ 4611686018427387904) :
    Calls Tryz.prog 89 #[.agg #[r, .int .i64 H.pc, c, .bool H.halted, .bool H.waiting, .bool H.rung, .int .i64 H.done, i, o], .int .i64 k] w fun e w' => e = .returned (.int .i64 (k + totH H)) ∧ Below w.heap.size w w' := by
  obtain ⟨a0, k0, h0, _⟩ := h.r.shape
  obtain ⟨a1, k1, h1, _⟩ := h.c.shape
  obtain ⟨a2, k2, h2, _⟩ := h.i.shape
  obtain ⟨a3, k3, h3, _⟩ := h.o.shape
  simp only [mkH, marks_length] at h0 h1 h2 h3
  obtain ⟨n0, e0⟩ : ∃ n, H.regs.length = n := ⟨_, rfl⟩
  obtain ⟨n1, e1⟩ : ∃ n, H.csr.length = n := ⟨_, rfl⟩
  obtain ⟨n2, e2⟩ : ∃ n, H.inn.length = n := ⟨_, rfl⟩
  obtain ⟨n3, e3⟩ : ∃ n, H.out.length = n := ⟨_, rfl⟩
  rw [e0] at h0
  rw [e1] at h1
  rw [e2] at h2
  rw [e3] at h3
  have HK : Hid (0 ≤ k ∧ k + (n0 : Int) + (n1 : Int) + (n2 : Int) + (n3 : Int) ≤ 4611686018427387904) := ⟨hk, by simp only [totH] at hz; omega⟩
  have HE : Hid (k + (n0 : Int) + (n1 : Int) + (n2 : Int) + (n3 : Int) = k + totH H) := by show _ = _; simp only [totH]; omega
  have N0 : Hid (Nums w b r (marks k n0)) := by show Nums _ _ _ _; have := h.r; simpa [mkH, e0] using this
  have N1 : Hid (Nums w b c (marks (k + n0) n1)) := by show Nums _ _ _ _; have := h.c; simpa [mkH, e0, e1] using this
  have N2 : Hid (Nums w b i (marks (k + n0 + n1) n2)) := by show Nums _ _ _ _; have := h.i; simpa [mkH, e0, e1, e2] using this
  have N3 : Hid (Nums w b o (marks (k + n0 + n1 + n2) n3)) := by show Nums _ _ _ _; have := h.o; simpa [mkH, e0, e1, e2, e3] using this
  rw [← HE.out]
  clear h hk hz e0 e1 e2 e3
  subst h0 h1 h2 h3
  generalize hW : w.alloc (.cells #[.slice a0 n0 k0, .int .i64 H.pc, .slice a1 n1 k1, .bool H.halted, .bool H.waiting, .bool H.rung, .int .i64 H.done, .slice a2 n2 k2, .slice a3 n3 k3] 34) = W
  have B0 : Hid (Below w.heap.size w W) := by show Below _ _ _; rw [← hW]; exact al (Below.refl _ _) _
  obtain ⟨s, hS⟩ : ∃ s, w.heap.size = s := ⟨_, rfl⟩
  have VA : Hid (Vb W s #[.slice a0 n0 k0, .int .i64 H.pc, .slice a1 n1 k1, .bool H.halted, .bool H.waiting, .bool H.rung, .int .i64 H.done, .slice a2 n2 k2, .slice a3 n3 k3] 34) := by
    show Vb _ _ _ _
    rw [← hW, ← hS]
    exact Vb.new _ _ _
  have q0 := VA.out.cell 0 rfl
  have q2 := VA.out.cell 2 rfl
  have q7 := VA.out.cell 7 rfl
  have q8 := VA.out.cell 8 rfl
  have E0 : Hid (0 ≤ k ∧ k + (n0 : Int) ≤ 4611686018427387904) := ⟨HK.out.1, by have := HK.out.2; omega⟩
  have E1 : Hid (0 ≤ k + (n0 : Int) ∧ k + (n0 : Int) + (n1 : Int) ≤ 4611686018427387904) := ⟨by have := HK.out.1; omega, by have := HK.out.2; omega⟩
  have E2 : Hid (0 ≤ k + (n0 : Int) + (n1 : Int) ∧ k + (n0 : Int) + (n1 : Int) + (n2 : Int) ≤ 4611686018427387904) := ⟨by have := HK.out.1; omega, by have := HK.out.2; omega⟩
  have E3 : Hid (0 ≤ k + (n0 : Int) + (n1 : Int) + (n2 : Int) ∧ k + (n0 : Int) + (n1 : Int) + (n2 : Int) + (n3 : Int) ≤ 4611686018427387904) := ⟨by have := HK.out.1; omega, by have := HK.out.2; omega⟩
  have p1 : 0 ≤ k + (n0 : Int) := E1.out.1
  have p2 : 0 ≤ k + (n0 : Int) + (n1 : Int) := E2.out.1
  have p3 : 0 ≤ k + (n0 : Int) + (n1 : Int) + (n2 : Int) := E3.out.1
  have p4 : 0 ≤ k + (n0 : Int) + (n1 : Int) + (n2 : Int) + (n3 : Int) := by omega
  go_enter Tryz.func89, Tryz.ntmps89
  go_wp2_with fail
  clear hW hS
  refine (held_nums _ k n0 _ _ (N0.out.keep B0.out) E0.out.1 E0.out.2).mono ?_
  rintro e w1 ⟨rfl, rfl⟩
  go_wp2_with fail
  refine (held_nums _ (k + n0) n1 _ _ (N1.out.keep B0.out) E1.out.1 E1.out.2).mono ?_
  rintro e w1 ⟨rfl, rfl⟩
  go_wp2_with fail
  refine (held_nums _ (k + n0 + n1) n2 _ _ (N2.out.keep B0.out) E2.out.1 E2.out.2).mono ?_
  rintro e w1 ⟨rfl, rfl⟩
  go_wp2_with fail
  refine (held_nums _ (k + n0 + n1 + n2) n3 _ _ (N3.out.keep B0.out) E3.out.1 E3.out.2).mono ?_
  rintro e w1 ⟨rfl, rfl⟩
  go_wp2_with fail
  go_ret
  exact ⟨rfl, B0.out⟩
end Go.Proofs.YtilbandlachdbaaGreatDoor
namespace Go.Proofs.YtilbandlachdbaaGreatDoor
open Go.RowKit
set_option linter.unusedVariables false

theorem Nums.apt {w w' : World} {base base' : Nat} {v u : Value} {zs ys : List Int} (h : Nums w base v zs) (k : Nums w' base' u ys) (hb : w.heap.size ≤ base') : Apt v u := own_ne h k hb

theorem Mq.refl (S : Nat → Prop) (w : World) : Mq S w w := ⟨rfl, rfl, rfl, Nat.le_refl _, fun _ _ _ => rfl⟩
theorem Mq.set {S : Nat → Prop} {a w : World} (m : Mq S a w) (p : Addr) (u : Value) (hp : S p.block) : Mq S a (w.setCell p u) := m.trans (Mq.of (grown_set w p u) fun k e => by cases e; exact hp)
theorem Mq.ho {S : Nat → Prop} {base : Nat} {w w' : World} (m : Mq S w w') (h : ∀ k, S k → k < base) : Ho base w w' := ⟨m.size, fun k hb hk => m.block k hk fun e => by have := h k e; omega⟩
theorem Mq.under {S : Nat → Prop} {a w w' : World} (b : Below a.heap.size a w) (m : Mq S w w') (h : ∀ k, S k → a.heap.size ≤ k) : Below a.heap.size a w' := Mq.below b m h
/-- A machine, and an answer with one, that is stored whole. -/
theorem nine {v : World} {q : Nat} {t : TypeId} {z0 z1 z2 z3 z4 z5 z6 z7 z8 : Value} (h : Vb v q #[z0, z1, z2, z3, z4, z5, z6, z7, z8] t) (u0 u1 u2 u3 u4 u5 u6 u7 u8 : Value) :
    Vb (((((((((v.setCell ⟨q, 0, none⟩ u0).setCell ⟨q, 1, none⟩ u1).setCell ⟨q, 2, none⟩ u2).setCell ⟨q, 3, none⟩ u3).setCell ⟨q, 4, none⟩ u4).setCell ⟨q, 5, none⟩ u5).setCell ⟨q, 6, none⟩ u6).setCell ⟨q, 7, none⟩ u7).setCell ⟨q, 8, none⟩ u8) q #[u0, u1, u2, u3, u4, u5, u6, u7, u8] t ∧ Mq (fun k => k = q) v (((((((((v.setCell ⟨q, 0, none⟩ u0).setCell ⟨q, 1, none⟩ u1).setCell ⟨q, 2, none⟩ u2).setCell ⟨q, 3, none⟩ u3).setCell ⟨q, 4, none⟩ u4).setCell ⟨q, 5, none⟩ u5).setCell ⟨q, 6, none⟩ u6).setCell ⟨q, 7, none⟩ u7).setCell ⟨q, 8, none⟩ u8) := by
  have h0 : Vb (v.setCell ⟨q, 0, none⟩ u0) q #[u0, z1, z2, z3, z4, z5, z6, z7, z8] t := h.set 0 u0
  have h1 : Vb ((v.setCell ⟨q, 0, none⟩ u0).setCell ⟨q, 1, none⟩ u1) q #[u0, u1, z2, z3, z4, z5, z6, z7, z8] t := h0.set 1 u1
  have h2 : Vb (((v.setCell ⟨q, 0, none⟩ u0).setCell ⟨q, 1, none⟩ u1).setCell ⟨q, 2, none⟩ u2) q #[u0, u1, u2, z3, z4, z5, z6, z7, z8] t := h1.set 2 u2
  have h3 : Vb ((((v.setCell ⟨q, 0, none⟩ u0).setCell ⟨q, 1, none⟩ u1).setCell ⟨q, 2, none⟩ u2).setCell ⟨q, 3, none⟩ u3) q #[u0, u1, u2, u3, z4, z5, z6, z7, z8] t := h2.set 3 u3
  have h4 : Vb (((((v.setCell ⟨q, 0, none⟩ u0).setCell ⟨q, 1, none⟩ u1).setCell ⟨q, 2, none⟩ u2).setCell ⟨q, 3, none⟩ u3).setCell ⟨q, 4, none⟩ u4) q #[u0, u1, u2, u3, u4, z5, z6, z7, z8] t := h3.set 4 u4
  have h5 : Vb ((((((v.setCell ⟨q, 0, none⟩ u0).setCell ⟨q, 1, none⟩ u1).setCell ⟨q, 2, none⟩ u2).setCell ⟨q, 3, none⟩ u3).setCell ⟨q, 4, none⟩ u4).setCell ⟨q, 5, none⟩ u5) q #[u0, u1, u2, u3, u4, u5, z6, z7, z8] t := h4.set 5 u5
  have h6 : Vb (((((((v.setCell ⟨q, 0, none⟩ u0).setCell ⟨q, 1, none⟩ u1).setCell ⟨q, 2, none⟩ u2).setCell ⟨q, 3, none⟩ u3).setCell ⟨q, 4, none⟩ u4).setCell ⟨q, 5, none⟩ u5).setCell ⟨q, 6, none⟩ u6) q #[u0, u1, u2, u3, u4, u5, u6, z7, z8] t := h5.set 6 u6
  have h7 : Vb ((((((((v.setCell ⟨q, 0, none⟩ u0).setCell ⟨q, 1, none⟩ u1).setCell ⟨q, 2, none⟩ u2).setCell ⟨q, 3, none⟩ u3).setCell ⟨q, 4, none⟩ u4).setCell ⟨q, 5, none⟩ u5).setCell ⟨q, 6, none⟩ u6).setCell ⟨q, 7, none⟩ u7) q #[u0, u1, u2, u3, u4, u5, u6, u7, z8] t := h6.set 7 u7
  have h8 : Vb (((((((((v.setCell ⟨q, 0, none⟩ u0).setCell ⟨q, 1, none⟩ u1).setCell ⟨q, 2, none⟩ u2).setCell ⟨q, 3, none⟩ u3).setCell ⟨q, 4, none⟩ u4).setCell ⟨q, 5, none⟩ u5).setCell ⟨q, 6, none⟩ u6).setCell ⟨q, 7, none⟩ u7).setCell ⟨q, 8, none⟩ u8) q #[u0, u1, u2, u3, u4, u5, u6, u7, u8] t := h7.set 8 u8
  exact ⟨h8, (((((((((Mq.refl (fun k => k = q) v).set ⟨q, 0, none⟩ u0 rfl).set ⟨q, 1, none⟩ u1 rfl).set ⟨q, 2, none⟩ u2 rfl).set ⟨q, 3, none⟩ u3 rfl).set ⟨q, 4, none⟩ u4 rfl).set ⟨q, 5, none⟩ u5 rfl).set ⟨q, 6, none⟩ u6 rfl).set ⟨q, 7, none⟩ u7 rfl).set ⟨q, 8, none⟩ u8 rfl⟩
/-- What toHart has under way: the machine that came in (A), the answer's place, and what is made so far (O). -/
structure Tv (w v : World) (s : Nat) (A O : Array Value) : Prop where
  A : Vb v s A 54
  R : Vb v (s + 1) #[.slice none 0 0, .int .i64 0, .slice none 0 0, .bool false, .bool false, .bool false, .int .i64 0, .slice none 0 0, .slice none 0 0] 34
  O : Vb v (s + 1 + 1) O 34
  b : Below w.heap.size w v
  s : w.heap.size = s
theorem Tv.keep {w v v' : World} {s : Nat} {A O : Array Value} (h : Tv w v s A O) (b : Below v.heap.size v v') : Tv w v' s A O := ⟨h.A.keep b, h.R.keep b, h.O.keep b, on h.b b, h.s⟩
theorem Tv.put {w v : World} {s : Nat} {A O : Array Value} (h : Tv w v s A O) (j : Nat) (u : Value) : Tv w (v.setCell ⟨s + 1 + 1, j, none⟩ u) s A (O.setIfInBounds j u) :=
  ⟨h.A.put _ _ (by show s ≠ s + 1 + 1; omega), h.R.put _ _ (by show s + 1 ≠ s + 1 + 1; omega), h.O.set j u, h.b.setCell (by have := h.s; show w.heap.size ≤ s + 1 + 1; omega) _, h.s⟩

set_option maxRecDepth 20000 in
set_option maxHeartbeats 8000000 in
theorem to_hart (a0 a1 a2 a3 : Option Addr) (n0 c0 n1 c1 n2 c2 n3 c3 : Nat) (H : Ht) (w : World) (h : Hin w a0 n0 c0 a1 n1 c1 a2 n2 c2 a3 n3 c3 H) (hs : Hs n0 n1 n2 n3) :
    Calls Tryz.prog 58 #[.agg #[.slice a0 n0 c0, .int .i64 H.pc, .slice a1 n1 c1, .bool H.halted, .bool H.waiting, .bool H.rung, .int .i64 H.done, .slice a2 n2 c2, .slice a3 n3 c3]] w fun e w' => ∃ r c i o, e = .returned (.agg #[r, .int .i64 H.pc, c, .bool H.halted, .bool H.waiting, .bool H.rung, .int .i64 H.done, i, o]) ∧
      Hm w' w.heap.size r c i o H ∧ Ha r c i o ∧ Below w.heap.size w w' := by
  have HS : Hid (Hs n0 n1 n2 n3) := hs
  have HP : Hid (Hin w a0 n0 c0 a1 n1 c1 a2 n2 c2 a3 n3 c3 H) := h
  clear h hs
  generalize hW : ((w.alloc (.cells #[.slice a0 n0 c0, .int .i64 H.pc, .slice a1 n1 c1, .bool H.halted, .bool H.waiting, .bool H.rung, .int .i64 H.done, .slice a2 n2 c2, .slice a3 n3 c3] 54)).alloc (.cells #[.slice none 0 0, .int .i64 0, .slice none 0 0, .bool false, .bool false, .bool false, .int .i64 0, .slice none 0 0, .slice none 0 0] 34)).alloc (.cells #[.slice none 0 0, .int .i64 0, .slice none 0 0, .bool false, .bool false, .bool false, .int .i64 0, .slice none 0 0, .slice none 0 0] 34) = W
  have SZ : Hid (W.heap.size = w.heap.size + 3) := by show _ = _; rw [← hW]; simp
  obtain ⟨s, hS⟩ : ∃ s, w.heap.size = s := ⟨_, rfl⟩
  have HSs : Hid (w.heap.size = s) := hS
  have T0 : Hid (Tv w W s #[.slice a0 n0 c0, .int .i64 H.pc, .slice a1 n1 c1, .bool H.halted, .bool H.waiting, .bool H.rung, .int .i64 H.done, .slice a2 n2 c2, .slice a3 n3 c3] #[.slice none 0 0, .int .i64 0, .slice none 0 0, .bool false, .bool false, .bool false, .int .i64 0, .slice none 0 0, .slice none 0 0]) := by
    have z1 : s + 1 = (w.alloc (.cells #[.slice a0 n0 c0, .int .i64 H.pc, .slice a1 n1 c1, .bool H.halted, .bool H.waiting, .bool H.rung, .int .i64 H.done, .slice a2 n2 c2, .slice a3 n3 c3] 54)).heap.size := by rw [← hS]; simp
    have z2 : s + 1 + 1 = ((w.alloc (.cells #[.slice a0 n0 c0, .int .i64 H.pc, .slice a1 n1 c1, .bool H.halted, .bool H.waiting, .bool H.rung, .int .i64 H.done, .slice a2 n2 c2, .slice a3 n3 c3] 54)).alloc (.cells #[.slice none 0 0, .int .i64 0, .slice none 0 0, .bool false, .bool false, .bool false, .int .i64 0, .slice none 0 0, .slice none 0 0] 34)).heap.size := by rw [← hS]; simp
    refine ⟨?_, ?_, ?_, by rw [← hW]; exact al (al (al (Below.refl _ _) _) _) _, hS⟩
    · rw [← hW, ← hS]; exact ((Vb.new _ _ _).push _).push _
    · rw [← hW, z1]; exact (Vb.new _ _ _).push _
    · rw [← hW, z2]; exact Vb.new _ _ _
  have q0 := T0.out.A.cell 0 rfl
  go_enter Tryz.func58, Tryz.ntmps58
  go_wp2_with fail
  clear hW hS q0
  refine (to_nums _ _ _ _ _ (HP.out.stay T0.out.b).regs HS.out.regs).mono ?_
  rintro e w1 ⟨g0, rfl, m1, b1⟩
  have M0 : Hid (Nums w1 (s + 3) (.slice (some ⟨g0, 0, none⟩) n0 n0) H.regs) := m1.mono (by have := SZ.out; have := HSs.out; omega)
  have MB0 : Hid (Nums w1 W.heap.size (.slice (some ⟨g0, 0, none⟩) n0 n0) H.regs) := m1
  have S1 := T0.out.keep b1
  have o0 := S1.O.cell 0 rfl
  have f0 := S1.O.free 0
  have o1 := S1.O.cell 1 rfl
  have f1 := S1.O.free 1
  have e1 := S1.A.cell 1 rfl
  have e2 := S1.A.cell 2 rfl
  have T1 : Hid (Tv w ((w1.setCell ⟨s + 1 + 1, 0, none⟩ (.slice (some ⟨g0, 0, none⟩) n0 n0)).setCell ⟨s + 1 + 1, 1, none⟩ (.int .i64 H.pc)) s #[.slice a0 n0 c0, .int .i64 H.pc, .slice a1 n1 c1, .bool H.halted, .bool H.waiting, .bool H.rung, .int .i64 H.done, .slice a2 n2 c2, .slice a3 n3 c3] #[.slice (some ⟨g0, 0, none⟩) n0 n0, .int .i64 H.pc, .slice none 0 0, .bool false, .bool false, .bool false, .int .i64 0, .slice none 0 0, .slice none 0 0]) := ((S1.put 0 (.slice (some ⟨g0, 0, none⟩) n0 n0)).put 1 (.int .i64 H.pc))
  have H1 : Hid (Ho (s + 3) w1 ((w1.setCell ⟨s + 1 + 1, 0, none⟩ (.slice (some ⟨g0, 0, none⟩) n0 n0)).setCell ⟨s + 1 + 1, 1, none⟩ (.int .i64 H.pc))) := (Ho.set w1 ⟨s + 1 + 1, 0, none⟩ (.slice (some ⟨g0, 0, none⟩) n0 n0) (by show s + 1 + 1 < s + 3; omega)).trans (Ho.set (w1.setCell ⟨s + 1 + 1, 0, none⟩ (.slice (some ⟨g0, 0, none⟩) n0 n0)) ⟨s + 1 + 1, 1, none⟩ (.int .i64 H.pc) (by show s + 1 + 1 < s + 3; omega))
  have Z1 : Hid (s + 3 ≤ ((w1.setCell ⟨s + 1 + 1, 0, none⟩ (.slice (some ⟨g0, 0, none⟩) n0 n0)).setCell ⟨s + 1 + 1, 1, none⟩ (.int .i64 H.pc)).heap.size) := by have := T1.out.O.lt; show _ ≤ _; omega
  have Y1 : Hid (w1.heap.size ≤ ((w1.setCell ⟨s + 1 + 1, 0, none⟩ (.slice (some ⟨g0, 0, none⟩) n0 n0)).setCell ⟨s + 1 + 1, 1, none⟩ (.int .i64 H.pc)).heap.size) := H1.out.size
  clear S1 m1 b1
  go_wp2_with fail
  generalize ((w1.setCell ⟨s + 1 + 1, 0, none⟩ (.slice (some ⟨g0, 0, none⟩) n0 n0)).setCell ⟨s + 1 + 1, 1, none⟩ (.int .i64 H.pc)) = v1 at *
  clear o0 f0 o1 f1 e1 e2
  refine (to_nums _ _ _ _ _ (HP.out.stay T1.out.b).csr HS.out.csr).mono ?_
  rintro e w2 ⟨g1, rfl, m1, b1⟩
  have M1 : Hid (Nums w2 (s + 3) (.slice (some ⟨g1, 0, none⟩) n1 n1) H.csr) := m1.mono Z1.out
  have H12 : Hid (Ho (s + 3) w1 w2) := H1.out.trans (Ho.of b1)
  have MB1 : Hid (Nums w2 v1.heap.size (.slice (some ⟨g1, 0, none⟩) n1 n1) H.csr) := m1
  have S1 := T1.out.keep b1
  have o2 := S1.O.cell 2 rfl
  have f2 := S1.O.free 2
  have o3 := S1.O.cell 3 rfl
  have f3 := S1.O.free 3
  have o4 := S1.O.cell 4 rfl
  have f4 := S1.O.free 4
  have o5 := S1.O.cell 5 rfl
  have f5 := S1.O.free 5
  have o6 := S1.O.cell 6 rfl
  have f6 := S1.O.free 6
  have e3 := S1.A.cell 3 rfl
  have e4 := S1.A.cell 4 rfl
  have e5 := S1.A.cell 5 rfl
  have e6 := S1.A.cell 6 rfl
  have e7 := S1.A.cell 7 rfl
  have T2 : Hid (Tv w (((((w2.setCell ⟨s + 1 + 1, 2, none⟩ (.slice (some ⟨g1, 0, none⟩) n1 n1)).setCell ⟨s + 1 + 1, 3, none⟩ (.bool H.halted)).setCell ⟨s + 1 + 1, 4, none⟩ (.bool H.waiting)).setCell ⟨s + 1 + 1, 5, none⟩ (.bool H.rung)).setCell ⟨s + 1 + 1, 6, none⟩ (.int .i64 H.done)) s #[.slice a0 n0 c0, .int .i64 H.pc, .slice a1 n1 c1, .bool H.halted, .bool H.waiting, .bool H.rung, .int .i64 H.done, .slice a2 n2 c2, .slice a3 n3 c3] #[.slice (some ⟨g0, 0, none⟩) n0 n0, .int .i64 H.pc, .slice (some ⟨g1, 0, none⟩) n1 n1, .bool H.halted, .bool H.waiting, .bool H.rung, .int .i64 H.done, .slice none 0 0, .slice none 0 0]) := (((((S1.put 2 (.slice (some ⟨g1, 0, none⟩) n1 n1)).put 3 (.bool H.halted)).put 4 (.bool H.waiting)).put 5 (.bool H.rung)).put 6 (.int .i64 H.done))
  have H2 : Hid (Ho (s + 3) w2 (((((w2.setCell ⟨s + 1 + 1, 2, none⟩ (.slice (some ⟨g1, 0, none⟩) n1 n1)).setCell ⟨s + 1 + 1, 3, none⟩ (.bool H.halted)).setCell ⟨s + 1 + 1, 4, none⟩ (.bool H.waiting)).setCell ⟨s + 1 + 1, 5, none⟩ (.bool H.rung)).setCell ⟨s + 1 + 1, 6, none⟩ (.int .i64 H.done))) := ((((Ho.set w2 ⟨s + 1 + 1, 2, none⟩ (.slice (some ⟨g1, 0, none⟩) n1 n1) (by show s + 1 + 1 < s + 3; omega)).trans (Ho.set (w2.setCell ⟨s + 1 + 1, 2, none⟩ (.slice (some ⟨g1, 0, none⟩) n1 n1)) ⟨s + 1 + 1, 3, none⟩ (.bool H.halted) (by show s + 1 + 1 < s + 3; omega))).trans (Ho.set ((w2.setCell ⟨s + 1 + 1, 2, none⟩ (.slice (some ⟨g1, 0, none⟩) n1 n1)).setCell ⟨s + 1 + 1, 3, none⟩ (.bool H.halted)) ⟨s + 1 + 1, 4, none⟩ (.bool H.waiting) (by show s + 1 + 1 < s + 3; omega))).trans (Ho.set (((w2.setCell ⟨s + 1 + 1, 2, none⟩ (.slice (some ⟨g1, 0, none⟩) n1 n1)).setCell ⟨s + 1 + 1, 3, none⟩ (.bool H.halted)).setCell ⟨s + 1 + 1, 4, none⟩ (.bool H.waiting)) ⟨s + 1 + 1, 5, none⟩ (.bool H.rung) (by show s + 1 + 1 < s + 3; omega))).trans (Ho.set ((((w2.setCell ⟨s + 1 + 1, 2, none⟩ (.slice (some ⟨g1, 0, none⟩) n1 n1)).setCell ⟨s + 1 + 1, 3, none⟩ (.bool H.halted)).setCell ⟨s + 1 + 1, 4, none⟩ (.bool H.waiting)).setCell ⟨s + 1 + 1, 5, none⟩ (.bool H.rung)) ⟨s + 1 + 1, 6, none⟩ (.int .i64 H.done) (by show s + 1 + 1 < s + 3; omega))
  have Z2 : Hid (s + 3 ≤ (((((w2.setCell ⟨s + 1 + 1, 2, none⟩ (.slice (some ⟨g1, 0, none⟩) n1 n1)).setCell ⟨s + 1 + 1, 3, none⟩ (.bool H.halted)).setCell ⟨s + 1 + 1, 4, none⟩ (.bool H.waiting)).setCell ⟨s + 1 + 1, 5, none⟩ (.bool H.rung)).setCell ⟨s + 1 + 1, 6, none⟩ (.int .i64 H.done)).heap.size) := by have := T2.out.O.lt; show _ ≤ _; omega
  have Y2 : Hid (w2.heap.size ≤ (((((w2.setCell ⟨s + 1 + 1, 2, none⟩ (.slice (some ⟨g1, 0, none⟩) n1 n1)).setCell ⟨s + 1 + 1, 3, none⟩ (.bool H.halted)).setCell ⟨s + 1 + 1, 4, none⟩ (.bool H.waiting)).setCell ⟨s + 1 + 1, 5, none⟩ (.bool H.rung)).setCell ⟨s + 1 + 1, 6, none⟩ (.int .i64 H.done)).heap.size) := H2.out.size
  clear S1 m1 b1
  go_wp2_with fail
  generalize (((((w2.setCell ⟨s + 1 + 1, 2, none⟩ (.slice (some ⟨g1, 0, none⟩) n1 n1)).setCell ⟨s + 1 + 1, 3, none⟩ (.bool H.halted)).setCell ⟨s + 1 + 1, 4, none⟩ (.bool H.waiting)).setCell ⟨s + 1 + 1, 5, none⟩ (.bool H.rung)).setCell ⟨s + 1 + 1, 6, none⟩ (.int .i64 H.done)) = v2 at *
  clear o2 f2 o3 f3 o4 f4 o5 f5 o6 f6 e3 e4 e5 e6 e7
  refine (to_nums _ _ _ _ _ (HP.out.stay T2.out.b).inn HS.out.inn).mono ?_
  rintro e w3 ⟨g2, rfl, m1, b1⟩
  have M2 : Hid (Nums w3 (s + 3) (.slice (some ⟨g2, 0, none⟩) n2 n2) H.inn) := m1.mono Z2.out
  have H23 : Hid (Ho (s + 3) w2 w3) := H2.out.trans (Ho.of b1)
  have MB2 : Hid (Nums w3 v2.heap.size (.slice (some ⟨g2, 0, none⟩) n2 n2) H.inn) := m1
  have S1 := T2.out.keep b1
  have o7 := S1.O.cell 7 rfl
  have f7 := S1.O.free 7
  have e8 := S1.A.cell 8 rfl
  have T3 : Hid (Tv w (w3.setCell ⟨s + 1 + 1, 7, none⟩ (.slice (some ⟨g2, 0, none⟩) n2 n2)) s #[.slice a0 n0 c0, .int .i64 H.pc, .slice a1 n1 c1, .bool H.halted, .bool H.waiting, .bool H.rung, .int .i64 H.done, .slice a2 n2 c2, .slice a3 n3 c3] #[.slice (some ⟨g0, 0, none⟩) n0 n0, .int .i64 H.pc, .slice (some ⟨g1, 0, none⟩) n1 n1, .bool H.halted, .bool H.waiting, .bool H.rung, .int .i64 H.done, .slice (some ⟨g2, 0, none⟩) n2 n2, .slice none 0 0]) := (S1.put 7 (.slice (some ⟨g2, 0, none⟩) n2 n2))
  have H3 : Hid (Ho (s + 3) w3 (w3.setCell ⟨s + 1 + 1, 7, none⟩ (.slice (some ⟨g2, 0, none⟩) n2 n2))) := Ho.set w3 ⟨s + 1 + 1, 7, none⟩ (.slice (some ⟨g2, 0, none⟩) n2 n2) (by show s + 1 + 1 < s + 3; omega)
  have Z3 : Hid (s + 3 ≤ (w3.setCell ⟨s + 1 + 1, 7, none⟩ (.slice (some ⟨g2, 0, none⟩) n2 n2)).heap.size) := by have := T3.out.O.lt; show _ ≤ _; omega
  have Y3 : Hid (w3.heap.size ≤ (w3.setCell ⟨s + 1 + 1, 7, none⟩ (.slice (some ⟨g2, 0, none⟩) n2 n2)).heap.size) := H3.out.size
  clear S1 m1 b1
  go_wp2_with fail
  generalize (w3.setCell ⟨s + 1 + 1, 7, none⟩ (.slice (some ⟨g2, 0, none⟩) n2 n2)) = v3 at *
  clear o7 f7 e8
  refine (to_nums _ _ _ _ _ (HP.out.stay T3.out.b).out HS.out.out).mono ?_
  rintro e w4 ⟨g3, rfl, m1, b1⟩
  have M3 : Hid (Nums w4 (s + 3) (.slice (some ⟨g3, 0, none⟩) n3 n3) H.out) := m1.mono Z3.out
  have H34 : Hid (Ho (s + 3) w3 w4) := H3.out.trans (Ho.of b1)
  have MB3 : Hid (Nums w4 v3.heap.size (.slice (some ⟨g3, 0, none⟩) n3 n3) H.out) := m1
  have S1 := T3.out.keep b1
  have o8 := S1.O.cell 8 rfl
  have f8 := S1.O.free 8
  have T4 : Hid (Tv w (w4.setCell ⟨s + 1 + 1, 8, none⟩ (.slice (some ⟨g3, 0, none⟩) n3 n3)) s #[.slice a0 n0 c0, .int .i64 H.pc, .slice a1 n1 c1, .bool H.halted, .bool H.waiting, .bool H.rung, .int .i64 H.done, .slice a2 n2 c2, .slice a3 n3 c3] #[.slice (some ⟨g0, 0, none⟩) n0 n0, .int .i64 H.pc, .slice (some ⟨g1, 0, none⟩) n1 n1, .bool H.halted, .bool H.waiting, .bool H.rung, .int .i64 H.done, .slice (some ⟨g2, 0, none⟩) n2 n2, .slice (some ⟨g3, 0, none⟩) n3 n3]) := (S1.put 8 (.slice (some ⟨g3, 0, none⟩) n3 n3))
  have H4 : Hid (Ho (s + 3) w4 (w4.setCell ⟨s + 1 + 1, 8, none⟩ (.slice (some ⟨g3, 0, none⟩) n3 n3))) := Ho.set w4 ⟨s + 1 + 1, 8, none⟩ (.slice (some ⟨g3, 0, none⟩) n3 n3) (by show s + 1 + 1 < s + 3; omega)
  have Z4 : Hid (s + 3 ≤ (w4.setCell ⟨s + 1 + 1, 8, none⟩ (.slice (some ⟨g3, 0, none⟩) n3 n3)).heap.size) := by have := T4.out.O.lt; show _ ≤ _; omega
  have Y4 : Hid (w4.heap.size ≤ (w4.setCell ⟨s + 1 + 1, 8, none⟩ (.slice (some ⟨g3, 0, none⟩) n3 n3)).heap.size) := H4.out.size
  clear S1 m1 b1
  have p0 := T4.out.O.cell 0 rfl
  have r0 := T4.out.R.cell 0 rfl
  have y0 := T4.out.R.free 0
  have p1 := T4.out.O.cell 1 rfl
  have r1 := T4.out.R.cell 1 rfl
  have y1 := T4.out.R.free 1
  have p2 := T4.out.O.cell 2 rfl
  have r2 := T4.out.R.cell 2 rfl
  have y2 := T4.out.R.free 2
  have p3 := T4.out.O.cell 3 rfl
  have r3 := T4.out.R.cell 3 rfl
  have y3 := T4.out.R.free 3
  have p4 := T4.out.O.cell 4 rfl
  have r4 := T4.out.R.cell 4 rfl
  have y4 := T4.out.R.free 4
  have p5 := T4.out.O.cell 5 rfl
  have r5 := T4.out.R.cell 5 rfl
  have y5 := T4.out.R.free 5
  have p6 := T4.out.O.cell 6 rfl
  have r6 := T4.out.R.cell 6 rfl
  have y6 := T4.out.R.free 6
  have p7 := T4.out.O.cell 7 rfl
  have r7 := T4.out.R.cell 7 rfl
  have y7 := T4.out.R.free 7
  have p8 := T4.out.O.cell 8 rfl
  have r8 := T4.out.R.cell 8 rfl
  have y8 := T4.out.R.free 8
  go_wp2_with fail
  generalize (w4.setCell ⟨s + 1 + 1, 8, none⟩ (.slice (some ⟨g3, 0, none⟩) n3 n3)) = v4 at *
  have NN : Hid (_ ∧ _) := nine T4.out.R (.slice (some ⟨g0, 0, none⟩) n0 n0) (.int .i64 H.pc) (.slice (some ⟨g1, 0, none⟩) n1 n1) (.bool H.halted) (.bool H.waiting) (.bool H.rung) (.int .i64 H.done) (.slice (some ⟨g2, 0, none⟩) n2 n2) (.slice (some ⟨g3, 0, none⟩) n3 n3)
  clear p0 r0 y0 p1 r1 y1 p2 r2 y2 p3 r3 y3 p4 r4 y4 p5 r5 y5 p6 r6 y6 p7 r7 y7 p8 r8 y8
  generalize (((((((((v4.setCell ⟨s + 1, 0, none⟩ (.slice (some ⟨g0, 0, none⟩) n0 n0)).setCell ⟨s + 1, 1, none⟩ (.int .i64 H.pc)).setCell ⟨s + 1, 2, none⟩ (.slice (some ⟨g1, 0, none⟩) n1 n1)).setCell ⟨s + 1, 3, none⟩ (.bool H.halted)).setCell ⟨s + 1, 4, none⟩ (.bool H.waiting)).setCell ⟨s + 1, 5, none⟩ (.bool H.rung)).setCell ⟨s + 1, 6, none⟩ (.int .i64 H.done)).setCell ⟨s + 1, 7, none⟩ (.slice (some ⟨g2, 0, none⟩) n2 n2)).setCell ⟨s + 1, 8, none⟩ (.slice (some ⟨g3, 0, none⟩) n3 n3)) = V at *
  have H5 : Hid (Ho (s + 3) w4 V) := H4.out.trans (NN.out.2.ho fun k e => by omega)
  have B5 : Hid (Below w.heap.size w V) := Mq.under T4.out.b NN.out.2 fun k e => by have := HSs.out; omega
  have A01 : Apt (.slice (some ⟨g0, 0, none⟩) n0 n0) (.slice (some ⟨g1, 0, none⟩) n1 n1) := MB0.out.apt MB1.out Y1.out
  have A02 : Apt (.slice (some ⟨g0, 0, none⟩) n0 n0) (.slice (some ⟨g2, 0, none⟩) n2 n2) := MB0.out.apt MB2.out (Nat.le_trans H12.out.size Y2.out)
  have A03 : Apt (.slice (some ⟨g0, 0, none⟩) n0 n0) (.slice (some ⟨g3, 0, none⟩) n3 n3) := MB0.out.apt MB3.out (Nat.le_trans (Nat.le_trans H12.out.size H23.out.size) Y3.out)
  have A12 : Apt (.slice (some ⟨g1, 0, none⟩) n1 n1) (.slice (some ⟨g2, 0, none⟩) n2 n2) := MB1.out.apt MB2.out Y2.out
  have A13 : Apt (.slice (some ⟨g1, 0, none⟩) n1 n1) (.slice (some ⟨g3, 0, none⟩) n3 n3) := MB1.out.apt MB3.out (Nat.le_trans H23.out.size Y3.out)
  have A23 : Apt (.slice (some ⟨g2, 0, none⟩) n2 n2) (.slice (some ⟨g3, 0, none⟩) n3 n3) := MB2.out.apt MB3.out Y3.out
  have R0 : Nums V w.heap.size (.slice (some ⟨g0, 0, none⟩) n0 n0) H.regs := (M0.out.ho (H12.out.trans (H23.out.trans (H34.out.trans H5.out)))).mono (by have := HSs.out; omega)
  have R1 : Nums V w.heap.size (.slice (some ⟨g1, 0, none⟩) n1 n1) H.csr := (M1.out.ho (H23.out.trans (H34.out.trans H5.out))).mono (by have := HSs.out; omega)
  have R2 : Nums V w.heap.size (.slice (some ⟨g2, 0, none⟩) n2 n2) H.inn := (M2.out.ho (H34.out.trans H5.out)).mono (by have := HSs.out; omega)
  have R3 : Nums V w.heap.size (.slice (some ⟨g3, 0, none⟩) n3 n3) H.out := (M3.out.ho H5.out).mono (by have := HSs.out; omega)
  have x0 := NN.out.1.cell 0 rfl
  have x1 := NN.out.1.cell 1 rfl
  have x2 := NN.out.1.cell 2 rfl
  have x3 := NN.out.1.cell 3 rfl
  have x4 := NN.out.1.cell 4 rfl
  have x5 := NN.out.1.cell 5 rfl
  have x6 := NN.out.1.cell 6 rfl
  have x7 := NN.out.1.cell 7 rfl
  have x8 := NN.out.1.cell 8 rfl
  exact bodyPost_ret (v := .agg #[.slice (some ⟨g0, 0, none⟩) n0 n0, .int .i64 H.pc, .slice (some ⟨g1, 0, none⟩) n1 n1, .bool H.halted, .bool H.waiting, .bool H.rung, .int .i64 H.done, .slice (some ⟨g2, 0, none⟩) n2 n2, .slice (some ⟨g3, 0, none⟩) n3 n3]) (by simp [results, Tryz.results58, go_sem, x0, x1, x2, x3, x4, x5, x6, x7, x8]) rfl
    ⟨_, _, _, _, rfl, ⟨R0, R1, R2, R3⟩, ⟨A01, A02, A03, A12, A13, A23⟩, B5.out⟩
end Go.Proofs.YtilbandlachdbaaGreatDoor
namespace Go.Proofs.YtilbandlachdbaaGreatDoor
open Go.RowKit
set_option linter.unusedVariables false

set_option maxRecDepth 20000 in
theorem i_clone (a : Option Addr) (n cap : Nat) (zs : List Int) (w : World) (h : Rn w a n cap zs) (hn : n ≤ 100000000) :
    Calls Tryz.prog 113 #[.slice a n cap] w fun e w' => ∃ v, e = .returned v ∧ Nums w' w.heap.size v zs ∧ Below w.heap.size w w' := by
  cases a with
  | none =>
    obtain ⟨h1, h2, h3⟩ : n = 0 ∧ cap = 0 ∧ zs = [] := by
      rcases h with ⟨_, h1, h2, h3⟩ | ⟨x, e, _⟩
      · exact ⟨h1, h2, h3⟩
      · cases e
    subst h1 h2 h3
    have hnil : ∀ W, (binOp .eql 28 (.slice none 0 0) (.slice none 0 0)).run Tryz.prog W = .ok (.bool true) W := fun W => Lib.run_eql_slice_nil_nil W _ _ Tryz.underlying28
    go_enter Tryz.func113, Tryz.ntmps113
    go_wp2_with fail
    go_ret
    exact ⟨_, rfl, Nums.nil _ _, Below.refl _ _⟩
  | some x =>
    have HR : Hid (Rn w (some x) n cap zs) := h
    have HL : Hid (n ≤ 100000000) := hn
    clear h hn
    have hnil : ∀ W, (binOp .eql 28 (.slice (some x) n cap) (.slice none 0 0)).run Tryz.prog W = .ok (.bool false) W := fun W => Lib.run_eql_slice_some_nil W _ _ _ Tryz.underlying28
    go_enter Tryz.func113, Tryz.ntmps113
    go_wp2_with (at_builtin; refine wp_appx _ rfl _ _ rfl w.heap.size _ [] rfl (nums_none _ _ (Nat.le_refl _)) x n cap zs rfl (HR.out.stay (al (Below.refl _ _) _)) (by have := HL.out; simp; omega) (by simp) ?_; intro v' w' hN' hG')
    have B : Below w.heap.size w w' := below_of_grown (al (Below.refl _ _) _) hG' (nums_none _ _ (Nat.le_refl _)) (Nat.le_refl _)
    go_wp2_with fail
    go_ret
    exact ⟨_, rfl, by simpa using hN', B⟩

/-- A number of a list. -/
def gt (zs : List Int) (j : Nat) : Int := zs.getD j 0
/-- The cells of a machine. -/
def mca (H : Ht) (i o : Value) : Array Value := #[.int .i64 (gt H.regs 0), .int .i64 (gt H.regs 1), .int .i64 (gt H.regs 2), .int .i64 (gt H.regs 3), .int .i64 (gt H.regs 4), .int .i64 (gt H.regs 5), .int .i64 (gt H.regs 6), .int .i64 (gt H.regs 7), .int .i64 (gt H.regs 8), .int .i64 (gt H.regs 9), .int .i64 (gt H.regs 10), .int .i64 (gt H.regs 11), .int .i64 (gt H.regs 12), .int .i64 (gt H.regs 13), .int .i64 (gt H.regs 14), .int .i64 (gt H.regs 15), .int .i64 H.pc, .int .i64 (gt H.csr 0), .int .i64 (gt H.csr 1), .int .i64 (gt H.csr 2), .int .i64 (gt H.csr 3), .int .i64 (gt H.csr 4), .int .i64 (gt H.csr 5), .int .i64 (gt H.csr 6), .int .i64 (gt H.csr 7), .int .i64 (gt H.csr 8), .int .i64 (gt H.csr 9), .int .i64 (gt H.csr 10), .bool H.halted, .bool H.waiting, .bool H.rung, .int .i64 H.done, i, o]
theorem mca_size (H : Ht) (i o : Value) : (mca H i o).size = 34 := rfl
theorem mca_lit (H : Ht) (i o : Value) : #[.int .i64 (gt H.regs 0), .int .i64 (gt H.regs 1), .int .i64 (gt H.regs 2), .int .i64 (gt H.regs 3), .int .i64 (gt H.regs 4), .int .i64 (gt H.regs 5), .int .i64 (gt H.regs 6), .int .i64 (gt H.regs 7), .int .i64 (gt H.regs 8), .int .i64 (gt H.regs 9), .int .i64 (gt H.regs 10), .int .i64 (gt H.regs 11), .int .i64 (gt H.regs 12), .int .i64 (gt H.regs 13), .int .i64 (gt H.regs 14), .int .i64 (gt H.regs 15), .int .i64 H.pc, .int .i64 (gt H.csr 0), .int .i64 (gt H.csr 1), .int .i64 (gt H.csr 2), .int .i64 (gt H.csr 3), .int .i64 (gt H.csr 4), .int .i64 (gt H.csr 5), .int .i64 (gt H.csr 6), .int .i64 (gt H.csr 7), .int .i64 (gt H.csr 8), .int .i64 (gt H.csr 9), .int .i64 (gt H.csr 10), .bool H.halted, .bool H.waiting, .bool H.rung, .int .i64 H.done, i, o] = mca H i o := rfl
theorem mca_one (H : Ht) (i o : Value) (hi : i.oneCell' = true) (ho : o.oneCell' = true) : (mca H i o).all (·.oneCell') = true := by
  have h1 : ∀ z : Int, (Value.int .i64 z).oneCell' = true := fun _ => rfl
  have h2 : ∀ z : Bool, (Value.bool z).oneCell' = true := fun _ => rfl
  simp [mca, h1, h2, hi, ho]
end Go.Proofs.YtilbandlachdbaaGreatDoor
