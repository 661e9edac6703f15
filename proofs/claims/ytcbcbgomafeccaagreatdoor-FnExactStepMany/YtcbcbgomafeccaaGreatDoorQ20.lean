/- Texts of this seat, joined. -/
import Derived.Laws.AppendOwn
import Derived.Laws.CopyOwn
import Derived.Deep.RegionLaw
import Derived.Deep.RegionWith
import Derived.Test.YtcbcbgomafeccaaGreatDoorQ03
import Derived.Test.YtcbcbgomafeccaaGreatDoorQ05
import Derived.Test.YtcbcbgomafeccaaGreatDoorQ07
import Derived.Test.YtcbcbgomafeccaaGreatDoorQ19
namespace Go.Proofs.YtcbcbgomafeccaaGreatDoor
open Go.RowKit

def inB (v lo hi : Int) : Bool := decide (lo ≤ v ∧ v ≤ hi)
theorem inB_true {v lo hi : Int} (h : lo ≤ v ∧ v ≤ hi) : inB v lo hi = true := decide_eq_true h
theorem inB_false {v lo hi : Int} (h : ¬ (lo ≤ v ∧ v ≤ hi)) : inB v lo hi = false := decide_eq_false h

theorem spec_inI (v lo hi : Int) (w : World) : Calls Tryz.prog 31 #[.int .i64 v, .int .i64 lo, .int .i64 hi] w fun e w' => e = .returned (.bool (inB v lo hi)) ∧ w' = w := by
  by_cases h : lo ≤ v
  · have e : inB v lo hi = decide (v ≤ hi) := by simp [inB, h]
    rw [e]
    go_enter Tryz.func31, Tryz.ntmps31
    go_wp2
    go_ret
    exact ⟨rfl, rfl⟩
  · have e : inB v lo hi = false := by simp [inB, h]
    rw [e]
    go_enter Tryz.func31, Tryz.ntmps31
    go_wp2
    go_ret
    exact ⟨rfl, rfl⟩

def bareD (op : Int) : Bool := decide (22 ≤ op ∧ op ≤ 26)
def bareA (op : Int) : Bool := decide (op = 13 ∨ op = 19 ∨ op = 21 ∨ 23 ≤ op ∧ op ≤ 26)
def bareI (op : Int) : Bool := decide (23 ≤ op ∧ op ≤ 26)

theorem spec_bare (op : Int) (w : World) (h : 1 ≤ op ∧ op ≤ 26) : Calls Tryz.prog 102 #[.int .i64 op] w fun e w' => e = .returned (.tuple #[.bool (bareD op), .bool (bareA op), .bool (bareI op)]) ∧ w' = w := by
  rcases op_class h with rfl | rfl | rfl | rfl | rfl | rfl | rfl | rfl | ⟨g1, g2, g3, g4, g5, g6, g7, g8, g9⟩
  rotate_right 1
  · have e1 : bareD op = false := decide_eq_false (by have g9 := g9.out; omega)
    have e2 : bareA op = false := decide_eq_false (by have g9 := g9.out; omega)
    have e3 : bareI op = false := decide_eq_false (by have g9 := g9.out; omega)
    rw [e1, e2, e3]
    clear e1 e2 e3 h
    go_enter Tryz.func102, Tryz.ntmps102
    go_wp2
    exact bodyPost_ret (v := .tuple #[.bool false, .bool false, .bool false]) (by simp [results, Tryz.results102, go_sem]) rfl ⟨rfl, rfl⟩
  all_goals
    go_enter Tryz.func102, Tryz.ntmps102
    go_wp2
  all_goals exact bodyPost_ret (v := .tuple #[.bool _, .bool _, .bool _]) (by simp [results, Tryz.results102, go_sem]; exact ⟨rfl, rfl, rfl⟩) rfl ⟨rfl, rfl⟩
end Go.Proofs.YtcbcbgomafeccaaGreatDoor
namespace Go.Proofs.YtcbcbgomafeccaaGreatDoor
open Go.RowKit
set_option linter.unusedVariables false

/-- A slice of pages that a call made: its words, page behind page. -/
def Pags (w : World) (base : Nat) (v : Value) (n : Nat) (zs : List Int) : Prop := w.ownsRow base 119 8 v n (zs.map (Value.int .i64))

theorem Pags.cell {w : World} {base g n cap : Nat} {zs : List Int} (h : Pags w base (.slice (some ⟨g, 0, none⟩) n cap) n zs) (i : Nat) (hi : i < n * 8) : w.cell? ⟨g, i, none⟩ = some (.int .i64 (zs.getD i 0)) := by
  have hl : zs.length = n * 8 := by simpa using h.1
  rw [World.ownsRow.cellAt h i hi, List.getElem?_map, List.getElem?_eq_getElem (by omega), List.getD, List.getElem?_eq_getElem (by omega)]
  rfl
theorem Pags.keep {w w' : World} {base n : Nat} {v : Value} {zs : List Int} (h : Pags w base v n zs) (hb : Below w.heap.size w w') : Pags w' base v n zs := by
  refine World.ownsRow.kept h (below_grown hb none) ?_
  cases v.ownBlock <;> simp
theorem Pags.len {w : World} {base n : Nat} {v : Value} {zs : List Int} (h : Pags w base v n zs) : zs.length = n * 8 := by simpa using h.1

theorem take_one (zs : List Int) (n : Nat) (h : n < zs.length) : zs.take (n + 1) = zs.take n ++ [zs.getD n 0] := by
  rw [List.take_succ_eq_append_getElem h, List.getD, List.getElem?_eq_getElem h]
  rfl
theorem take_eight (zs : List Int) (n : Nat) (h : n + 8 ≤ zs.length) : zs.take (n + 8) = zs.take n ++ [zs.getD n 0, zs.getD (n + 1) 0, zs.getD (n + 2) 0, zs.getD (n + 3) 0, zs.getD (n + 4) 0, zs.getD (n + 5) 0, zs.getD (n + 6) 0, zs.getD (n + 7) 0] := by
  rw [take_one zs (n + 7) (by omega), take_one zs (n + 6) (by omega), take_one zs (n + 5) (by omega), take_one zs (n + 4) (by omega), take_one zs (n + 3) (by omega), take_one zs (n + 2) (by omega), take_one zs (n + 1) (by omega), take_one zs n (by omega)]
  simp only [List.append_assoc, List.cons_append, List.nil_append]

/-- append of numbers to a slice of the call's own. -/
theorem wp_append {ops : Array Oper} {rest : List Oper} {o : Oper} {act : Act} {Q : Exit → Act → World → Prop} (w : World) (hgd : o.guard = none) (s x : Operand)
    (ho : o.op = .call { callee := .builtin .append, args := #[s, x], argTypes := #[22, 22] }) (base : Nat) (v : Value) (zs : List Int) (hs : act.eval s = v) (hN : Nums w base v zs)
    (B m c : Nat) (ys : List Int) (hx : act.eval x = .slice (some ⟨B, 0, none⟩) m c) (hy : ys.length = m) (hc : ∀ i, i < m → w.cell? ⟨B, i, none⟩ = some (.int .i64 (ys.getD i 0)))
    (hlen : zs.length + m ≤ 1000000000) (hbase : base ≤ w.heap.size)
    (h : ∀ v' w', Nums w' base v' (zs ++ ys) → w.grownBy w' v.ownBlock → wpList Tryz.prog ops Q rest (act.put o.dst v') w') : wpList Tryz.prog ops Q (o :: rest) act w := by
  obtain ⟨i, hi, hz0, hz1, hz2⟩ := info_parts info_i64
  refine wpList_append_own w hgd s x 22 ho base 2 i _ 1 8 Tryz.underlying22 hi hz0 hz1 hz2 rfl (by decide) v zs.length _ hs hN ⟨B, 0, none⟩ m c (ys.map (Value.int .i64)) hx (by simpa using hy) ?_ ?_ (by unfold maxLen; omega) (by omega) hbase ?_
  · intro j u hj
    have hjl : j < ys.length := by have := (List.getElem?_eq_some_iff.1 hj).1; simpa using this
    rw [List.getElem?_map, List.getElem?_eq_getElem hjl] at hj
    have := hc j (by omega)
    rw [List.getD, List.getElem?_eq_getElem hjl] at this
    rw [show (⟨B, 0, none⟩ : Addr).add j = ⟨B, j, none⟩ by rw [Addr.add_lit]; simp, this]
    exact hj
  · intro u hu
    obtain ⟨z, _, rfl⟩ := List.mem_map.1 hu
    rfl
  · intro v' w' hown hgrow _
    refine h v' w' ?_ hgrow
    unfold Nums
    rw [List.length_append, hy, List.map_append]
    exact hown

theorem cells_eight (w : World) (t : TypeId) (a0 a1 a2 a3 a4 a5 a6 a7 : Int) : ∀ i, i < 8 → (w.alloc (.cells #[.int .i64 a0, .int .i64 a1, .int .i64 a2, .int .i64 a3, .int .i64 a4, .int .i64 a5, .int .i64 a6, .int .i64 a7] t)).cell? ⟨w.heap.size, i, none⟩ = some (.int .i64 ([a0, a1, a2, a3, a4, a5, a6, a7].getD i 0)) := by
  intro i hi
  have : i = 0 ∨ i = 1 ∨ i = 2 ∨ i = 3 ∨ i = 4 ∨ i = 5 ∨ i = 6 ∨ i = 7 := by omega
  rcases this with rfl | rfl | rfl | rfl | rfl | rfl | rfl | rfl <;> exact cell_new rfl

set_option maxHeartbeats 2000000 in
theorem impl_join (g n cap : Nat) (zs : List Int) (b : Nat) (w : World) (h : Pags w b (.slice (some ⟨g, 0, none⟩) n cap) n zs) (hn : n ≤ 24) :
    Calls Tryz.prog 62 #[.slice (some ⟨g, 0, none⟩) n cap] w fun e w' => ∃ v, e = .returned v ∧ Nums w' w.heap.size v zs ∧ Below w.heap.size w w' := by
  have HP : Hid (Pags w b _ n zs) := h
  have HL : Hid (zs.length = n * 8) := h.len
  have hni : (n : Int) ≤ 24 := by omega
  clear h
  go_enter Tryz.func62, Tryz.ntmps62
  go_wp2_with fail
  go_loopw [3, 5, 8] (fun v _ c wr => ∃ j : Nat, j ≤ n ∧ c = .int .i64 j ∧ Nums wr w.heap.size v (zs.take (j * 8)) ∧ Below w.heap.size w wr) (fun _ _ c _ => n - (intOf c).toNat)
  case atStart => exact ⟨0, Nat.zero_le _, rfl, by simpa using Nums.nil w _, Below.refl _ _⟩
  case round =>
    obtain ⟨j, hj, rfl, hN, hB⟩ := hrel
    have HN : Hid (Nums wr _ _ _) := hN
    have HB : Hid (Below _ _ _) := hB
    by_cases hlt : j < n
    · have hJ : (j : Int) < (n : Int) := by omega
      have hp := fun k (hk : k < n * 8) => cell_keep hB (HP.out.cell k hk)
      have c0 := hp (j * 8) (by omega)
      have c1 := hp (j * 8 + 1) (by omega)
      have c2 := hp (j * 8 + 2) (by omega)
      have c3 := hp (j * 8 + 3) (by omega)
      have c4 := hp (j * 8 + 4) (by omega)
      have c5 := hp (j * 8 + 5) (by omega)
      have c6 := hp (j * 8 + 6) (by omega)
      have c7 := hp (j * 8 + 7) (by omega)
      have HT : Hid (zs.take ((j + 1) * 8) = zs.take (j * 8) ++ [zs.getD (j * 8) 0, zs.getD (j * 8 + 1) 0, zs.getD (j * 8 + 2) 0, zs.getD (j * 8 + 3) 0, zs.getD (j * 8 + 4) 0, zs.getD (j * 8 + 5) 0, zs.getD (j * 8 + 6) 0, zs.getD (j * 8 + 7) 0]) := by
        show _ = _
        rw [show (j + 1) * 8 = j * 8 + 8 by omega]
        exact take_eight zs (j * 8) (by have := HL.out; omega)
      generalize zs.getD (j * 8) 0 = a0 at *
      generalize zs.getD (j * 8 + 1) 0 = a1 at *
      generalize zs.getD (j * 8 + 2) 0 = a2 at *
      generalize zs.getD (j * 8 + 3) 0 = a3 at *
      generalize zs.getD (j * 8 + 4) 0 = a4 at *
      generalize zs.getD (j * 8 + 5) 0 = a5 at *
      generalize zs.getD (j * 8 + 6) 0 = a6 at *
      generalize zs.getD (j * 8 + 7) 0 = a7 at *
      have HLT : Hid (j < n) := hlt
      have Hn : Hid (n ≤ 24) := hn
      have HS : Hid (w.heap.size ≤ wr.heap.size) := hB.size
      clear hp hN hB hlt hn
      go_wp2_with (at_builtin; refine wp_append _ rfl _ _ rfl w.heap.size _ _ rfl (HN.out.keep (al (Below.refl _ _) _)) wr.heap.size 8 8 [a0, a1, a2, a3, a4, a5, a6, a7] rfl rfl (cells_eight _ _ _ _ _ _ _ _ _ _) (by have := HLT.out; have := Hn.out; simp; omega) (by have := HS.out; simp; omega) ?_; intro v' w' hN' hG')
      have N' : Hid (Nums w' _ v' _) := hN'
      have B' : Hid (Below w.heap.size w w') := (al HB.out _).grown hG' (by have := HS.out; simp; omega) (fun k hk => (HN.out.lt k hk).1)
      clear hN' hG'
      go_wp2_with fail
      go_roundw
      case rel => exact ⟨j + 1, by have := HLT.out; omega, by go_num, by rw [HT.out]; exact N'.out, B'.out⟩
      case measure => have := HLT.out; simp [intOf]; omega
    · have hJ : ¬ (j : Int) < (n : Int) := by omega
      obtain rfl : j = n := by omega
      clear hN hB
      go_wp2_with fail
      go_ret
      refine ⟨_, rfl, ?_, HB.out⟩
      have := HN.out
      rwa [List.take_of_length_le (Nat.le_of_eq HL.out)] at this
end Go.Proofs.YtcbcbgomafeccaaGreatDoor
namespace Go.Proofs.YtcbcbgomafeccaaGreatDoor
open Go.RowKit
set_option linter.unusedVariables false

theorem made_replicate (z : Value) (k m : Nat) (hk : 0 < k) : (madeCells (Array.replicate k z) m).toList = List.replicate m z := by
  apply List.ext_getElem?
  intro j
  by_cases hj : j < m
  · have : j % k < k := Nat.mod_lt _ hk
    simp [madeCells, hj, this]
  · simp [madeCells, hj]

theorem info_wpage : (Tryz.prog.info? 119).map (fun i => (i.zero, i.size, i.bytes)) = some (some (.agg (Array.replicate 8 (.int .i64 0))), 8, 64) := by kernel_rfl

end Go.Proofs.YtcbcbgomafeccaaGreatDoor
namespace Go.Proofs.YtcbcbgomafeccaaGreatDoor
open Go.RowKit
set_option linter.unusedVariables false

theorem Pags.heap {w : World} {base g p : Nat} {zs : List Int} (h : Pags w base (.slice (some ⟨g, 0, none⟩) p p) p zs) : w.heap[g]? = some (.cells (zs.map (Value.int .i64)).toArray 119 (0, 0)) := by
  obtain ⟨h1, ⟨h2, h3⟩ | ⟨g', cap, cur, hv, hb, hh, h4, h5, h6, h7⟩⟩ := h
  · simp at h2
  · simp at hv
    obtain ⟨rfl, rfl⟩ := hv
    rw [List.take_of_length_le (by simp [h6])] at h7
    rw [hh, ← h7]
theorem Pags.of_heap {w : World} {base g p : Nat} {zs : List Int} (hh : w.heap[g]? = some (.cells (zs.map (Value.int .i64)).toArray 119 (0, 0))) (hl : zs.length = p * 8) (hb : base ≤ g) (hp : p ≤ maxLen) : Pags w base (.slice (some ⟨g, 0, none⟩) p p) p zs :=
  ⟨by simpa using hl, .inr ⟨g, p, _, rfl, hb, hh, Nat.le_refl _, hp, by simpa using hl, by rw [List.take_of_length_le (by simp [hl])]⟩⟩

/-- The pages behind j rounds. -/
def cutL (zs : List Int) (p j : Nat) : List Int := zs.take (j * 8) ++ List.replicate ((p - j) * 8) 0
theorem cutL_length (zs : List Int) (p j : Nat) (hz : zs.length = p * 8) (hj : j ≤ p) : (cutL zs p j).length = p * 8 := by
  simp [cutL, hz]
  omega
def eight (zs : List Int) (j : Nat) : List Int := (zs.drop (j * 8)).take 8
theorem eight_length (zs : List Int) (p j : Nat) (hz : zs.length = p * 8) (hj : j < p) : (eight zs j).length = 8 := by
  simp [eight, hz]
  omega
theorem splice_cut (zs : List Int) (p j : Nat) (hz : zs.length = p * 8) (hj : j < p) :
    splice ((cutL zs p j).map (Value.int .i64)) (j * 8) ((eight zs j).map (Value.int .i64)) = (cutL zs p (j + 1)).map (Value.int .i64) := by
  have h8 := eight_length zs p j hz hj
  unfold splice
  rw [List.length_map, h8, ← List.map_take, ← List.map_drop, ← List.map_append, ← List.map_append]
  congr 1
  have e1 : (cutL zs p j).take (j * 8) = zs.take (j * 8) := by
    unfold cutL
    rw [List.take_append_of_le_length (by simp [hz]; omega), List.take_take, Nat.min_self]
  have e2 : (cutL zs p j).drop (j * 8 + 8) = List.replicate ((p - (j + 1)) * 8) 0 := by
    unfold cutL
    rw [List.drop_append, List.drop_of_length_le (by simp; omega), List.nil_append, List.drop_replicate]
    congr 1
    simp [hz]
    omega
  rw [e1, e2, ← List.append_assoc]
  unfold cutL eight
  rw [show (j + 1) * 8 = j * 8 + 8 by omega, List.take_add]
theorem eight_cell {w : World} {base g n cap : Nat} {zs : List Int} (h : Nums w base (.slice (some ⟨g, 0, none⟩) n cap) zs) (p j : Nat) (hz : zs.length = p * 8) (hj : j < p) (hn : n = zs.length) :
    ∀ i v, ((eight zs j).map (Value.int .i64))[i]? = some v → w.cell? ((⟨g, j * 8, none⟩ : Addr).add i) = some v := by
  intro i v hv
  have hi : i < 8 := by
    have := (List.getElem?_eq_some_iff.1 hv).1
    rw [List.length_map, eight_length zs p j hz hj] at this
    exact this
  rw [Addr.add_lit, h.cell hn (j * 8 + i) (by omega), ← hv]
  simp only [eight, List.getElem?_map, List.getElem?_take, hi, if_true, List.getElem?_drop, List.getD]
  rw [List.getElem?_eq_getElem (by omega)]
  rfl

set_option maxHeartbeats 2000000 in
theorem impl_cut (gm n cap : Nat) (zs : List Int) (b p : Nat) (w : World) (h : Nums w b (.slice (some ⟨gm, 0, none⟩) n cap) zs) (hz : zs.length = p * 8) (hp : p ≤ 24) (hp0 : 1 ≤ p) :
    Calls Tryz.prog 53 #[.slice (some ⟨gm, 0, none⟩) n cap] w fun e w' => ∃ g, e = .returned (.slice (some ⟨g, 0, none⟩) p p) ∧ Pags w' w.heap.size (.slice (some ⟨g, 0, none⟩) p p) p zs ∧ Below w.heap.size w w' := by
  obtain ⟨i, hi, hz0, hz1, hz2⟩ := info_parts info_wpage
  have HM : Hid (Nums w b _ zs) := h
  have hnn := h.len
  obtain ⟨hl1, hl2⟩ := h.lens
  unfold maxLen at hl2
  have HZ : Hid (zs.length = p * 8) := hz
  have HP : Hid (1 ≤ p ∧ p ≤ 24) := ⟨hp0, hp⟩
  obtain rfl : n = p * 8 := by omega
  have HC : Hid (p * 8 ≤ cap ∧ cap ≤ 9223372036854775807) := ⟨by omega, hl2⟩
  have hpi : (p : Int) ≤ 24 := by omega
  clear h hz hp hp0 hnn hl1 hl2
  go_enter Tryz.func53, Tryz.ntmps53
  go_wp2_with (at_make; refine wpList_make_full _ rfl _ _ 68 rfl w.heap.size 119 i _ 8 Tryz.underlying68 hi hz0 hz1 _ _ _ _ p rfl rfl (by omega) (by omega) (by have := HP.out; rw [hz2]; omega) (by have := HP.out; unfold maxLen; omega) (by simp) ?_; intro w1 hown hgrow; have b1 := (Below.refl _ _).grown hgrow (Nat.le_refl _) (by simp))
  have P1 : Hid (w1.heap[w.heap.size]? = some (.cells ((cutL zs p 0).map (Value.int .i64)).toArray 119 (0, 0))) := by
    refine Pags.heap (base := w.heap.size) (p := p) ?_
    unfold Pags
    rw [show (Value.agg (Array.replicate 8 (.int .i64 0))).cells = Array.replicate 8 (.int .i64 0) from rfl, made_replicate _ _ _ (by decide)] at hown
    simpa [cutL] using hown
  have B1 : Hid (Below w.heap.size w w1) := b1
  clear hown hgrow hi hz0 hz1 hz2 b1
  go_wp2_with fail
  go_loopw [4, 11] (fun _ c wr => ∃ j : Nat, j ≤ p ∧ c = .int .i64 j ∧ Hid (wr.heap[w.heap.size]? = some (.cells ((cutL zs p j).map (Value.int .i64)).toArray 119 (0, 0))) ∧ Below w.heap.size w wr) (fun _ c _ => p - (intOf c).toNat)
  case atStart => exact ⟨0, Nat.zero_le _, rfl, P1, B1.out⟩
  case round =>
    obtain ⟨j, hj, rfl, hH, hB⟩ := hrel
    have HB : Hid (Below _ _ _) := hB
    clear hB P1
    by_cases hlt : j < p
    · have hJ : (j : Int) < (p : Int) := by omega
      have HLT : Hid (j < p) := hlt
      have HS : Hid (∀ i v, ((eight zs j).map (Value.int .i64))[i]? = some v → wr.cell? ((⟨gm, j * 8, none⟩ : Addr).add i) = some v) := by
        intro i v hv
        exact cell_keep HB.out (eight_cell HM.out p j HZ.out hlt HZ.out.symm i v hv)
      obtain ⟨X, hX⟩ : ∃ X, X = (eight zs j).map (Value.int .i64) := ⟨_, rfl⟩
      obtain ⟨Y, hY⟩ : ∃ Y, Y = (cutL zs p j).map (Value.int .i64) := ⟨_, rfl⟩
      rw [← hX] at HS
      rw [← hY] at hH
      have XL : Hid (X.length = 8) := by show _ = _; rw [hX, List.length_map]; exact eight_length zs p j HZ.out hlt
      have YL : Hid (Y.length = p * 8) := by show _ = _; rw [hY, List.length_map]; exact cutL_length zs p j HZ.out hj
      have X1 : Hid (∀ v ∈ X, v.oneCell' = true) := by
        intro v hv
        rw [hX] at hv
        obtain ⟨z, _, rfl⟩ := List.mem_map.1 hv
        rfl
      have SP : Hid (splice Y (j * 8) X = (cutL zs p (j + 1)).map (Value.int .i64)) := by show _ = _; rw [hX, hY]; exact splice_cut zs p j HZ.out hlt
      obtain ⟨k, hk⟩ : ∃ k : Nat, j * 8 = k := ⟨_, rfl⟩
      have HK : Hid (j * 8 = k) := hk
      have hw : IntKind.i64.wrap ((j : Int) * 8) = (k : Int) := by
        rw [show (j : Int) * 8 = (k : Int) by omega]
        rw [IntKind.wrap_i64]; omega
      have hk1 : (k : Int) ≤ (p : Int) * 8 := by omega
      have hk2 : ¬ cap = k := by have := HC.out; omega
      have hk3 : Hid (k + 8 ≤ p * 8) := by show _ ≤ _; omega
      clear hX hY hlt hk
      go_wp2_with fail
      go_region_law (refine step_copy_splice rfl (.tmp 17) (.tmp 21) 22 22 rfl 2 Tryz.underlying22 (by kernel_rfl) (some ⟨w.heap.size, j * 8, none⟩) (some ⟨gm, k, none⟩) 8 8 (p * 8 - k) (cap - k) (by simp [Act.eval, Act.put]) (by simp [Act.eval, Act.put]) w.heap.size (j * 8) Y 119 hH.out X (by rw [XL.out]; have := hk3.out; exact (Nat.min_eq_right (by omega)).symm) (fun _ => ⟨rfl, _, rfl, by rw [← HK.out]; exact HS.out⟩) (by rw [XL.out, YL.out]; have := hk3.out; have := HK.out; omega) X1.out w.heap.size w (by first | exact HB.out | exact HB.out.drew | exact HB.out.drew.drew) (Nat.le_refl _) ?_; intro w4 hg4 hb4)
      have H4 : Hid (w4.heap[w.heap.size]? = some (.cells ((cutL zs p (j + 1)).map (Value.int .i64)).toArray 119 (0, 0))) := by
        show _ = _
        rw [← SP.out]
        exact hg4.out
      have B4 : Hid (Below w.heap.size w w4) := hb4
      clear hg4 hb4 SP X1 XL YL HS hH
      go_wp2_with fail
      go_roundw
      case rel => exact ⟨j + 1, by have := HLT.out; omega, by go_num, H4, B4.out⟩
      case measure => have := HLT.out; simp [intOf]; omega
    · have hJ : ¬ (j : Int) < (p : Int) := by omega
      obtain rfl : j = p := by omega
      go_wp2_with fail
      go_ret
      refine ⟨_, rfl, ?_, HB.out⟩
      have h1 := hH.out
      have e : cutL zs j j = zs := by simp [cutL, List.take_of_length_le (Nat.le_of_eq HZ.out)]
      rw [e] at h1
      exact Pags.of_heap h1 HZ.out (Nat.le_refl _) (by have := HP.out; unfold maxLen; omega)
end Go.Proofs.YtcbcbgomafeccaaGreatDoor
namespace Go.Proofs.YtcbcbgomafeccaaGreatDoor
open Go.RowKit
set_option linter.unusedVariables false

/-- append of one pair to a slice of the call's own, as a step of a region. -/
theorem step_pair {ops : Array Oper} {o : Oper} {act : Act} {w : World} {K : Act → World → Prop} {Q : Exit → Act → World → Prop} {E : Prop} (t e : TypeId) (he : Tryz.prog.underlying t = some (.slice e)) (hinfo : (Tryz.prog.info? e).map (fun i => (i.zero, i.size, i.bytes)) = some (some (.agg #[.int .i64 0, .int .i64 0]), 2, 16))
    (hgd : o.guard = none) (s x : Operand)
    (ho : o.op = .call { callee := .builtin .append, args := #[s, x], argTypes := #[t, t] }) (base : Nat) (v : Value) (rs : List (Int × Int)) (hs : act.eval s = v) (hN : Prs e w base v rs)
    (B : Nat) (a b : Int) (hx : act.eval x = .slice (some ⟨B, 0, none⟩) 1 1) (h0 : w.cell? ⟨B, 0, none⟩ = some (.int .i64 a)) (h1 : w.cell? ⟨B, 1, none⟩ = some (.int .i64 b))
    (hlen : rs.length ≤ 1000000000) (hbase : base ≤ w.heap.size)
    (h : ∀ v' w', Hid (Prs e w' base v' (rs ++ [(a, b)])) → w.grownBy w' v.ownBlock → K (act.put o.dst v') w') :
    if Region.wanted o (yielded ops act.tmps) = true then Oper.wp Tryz.prog o act w K Q else E := by
  have hw : Region.wanted o (yielded ops act.tmps) = true := by simp [Region.wanted, hgd]
  rw [if_pos hw]
  obtain ⟨i, hi, hz0, hz1, hz2⟩ := info_parts hinfo
  refine wp_append_own w s x t ho base e i _ 2 16 he hi hz0 hz1 hz2 rfl (by decide) v rs.length _ hs hN ⟨B, 0, none⟩ 1 1 (flat [(a, b)]) hx rfl ?_ (flat_one _) (by unfold maxLen; omega) (by omega) hbase ?_
  · intro j u hj
    rw [Addr.add_lit, Nat.zero_add]
    match j, hj with
    | 0, hj => rw [h0]; exact hj
    | 1, hj => rw [h1]; exact hj
    | j + 2, hj => simp [flat] at hj
  · intro v' w' hown hgrow _
    refine h v' w' ?_ hgrow
    show Prs e w' base v' (rs ++ [(a, b)])
    unfold Prs
    rw [List.length_append, flat_append]
    exact hown

theorem cell_new2 {w : World} {a : Obj} {cs : Array Value} {t : TypeId} {i : Nat} {v : Value} (h : cs[i]? = some v) : ((w.alloc a).alloc (.cells cs t)).cell? ⟨w.heap.size + 1, i, none⟩ = some v := by
  have := cell_new (w := w.alloc a) (cs := cs) (t := t) (i := i) h
  rwa [World.size_alloc] at this

theorem frozen_grown {w w' : World} {row : Option Nat} {p : Addr} (g : w.grownBy w' row) (hp : p.block < w.heap.size) (hne : some p.block ≠ row) : w'.frozen? p = w.frozen? p :=
  World.frozen?_of_block (w := w) (g.block p.block hp hne)

def fromC (zs : List Int) : Int := if zs.length = 8 then (if zs.all isW then 0 else 3) else 1
def fromP (zs : List Int) : List (Int × Int) := if zs.length = 8 then (if zs.all isW then zs.map entP else []) else []
theorem from_take (zs : List Int) (j : Nat) (h : j < zs.length) : (zs.take (j + 1)).map entP = (zs.take j).map entP ++ [((entP (zs.getD j 0)).1, (entP (zs.getD j 0)).2)] := by
  rw [List.take_succ_eq_append_getElem h, List.map_append, List.getD, List.getElem?_eq_getElem h]
  rfl

end Go.Proofs.YtcbcbgomafeccaaGreatDoor
namespace Go.Proofs.YtcbcbgomafeccaaGreatDoor
open Go.RowKit
set_option linter.unusedVariables false

def kindB (k : Int) : Bool := decide (k = 1 ∨ k = 2 ∨ k = 4)
def kindV (k : Int) : Int := if k = 1 then 7 else if k = 2 then 8 else if k = 4 then 9 else 0
theorem kind_cases {k : Int} (h : kindB k = true) : k = 1 ∨ k = 2 ∨ k = 4 := of_decide_eq_true h
theorem kind_not {k : Int} (h : kindB k = false) : (k == 1) = false ∧ (k == 2) = false ∧ (k == 4) = false := by
  have := of_decide_eq_false h
  simp
  omega
theorem band_zero (k : Int) : bits BinOp.and .i64 0 k = 0 := by
  show IntKind.i64.wrap ((BitVec.ofInt 64 0 &&& BitVec.ofInt 64 k).toNat : Int) = 0
  rw [BitVec.toNat_and]
  simp [IntKind.wrap_i64]

theorem impl_kind (k : Int) (w : World) : Calls Tryz.prog 152 #[.int .i64 k] w fun e w' => e = .returned (.tuple #[.int .i64 (kindV k), .bool (kindB k)]) ∧ w' = w := by
  cases h : kindB k
  · obtain ⟨h1, h2, h4⟩ := kind_not h
    have hv : kindV k = 0 := by simp at h1 h2 h4; simp [kindV, h1, h2, h4]
    rw [hv]
    clear hv h
    go_enter Tryz.func152, Tryz.ntmps152
    go_wp2_with fail
    go_ret2
    exact ⟨rfl, rfl⟩
  · rcases kind_cases h with rfl | rfl | rfl
    all_goals
      go_enter Tryz.func152, Tryz.ntmps152
      go_wp2_with fail
      go_ret2
      exact ⟨rfl, rfl⟩

theorem spec_kindV (k : Int) (w : World) (h : kindB k = true) : Calls Tryz.prog 68 #[.int .i64 k] w fun e w' => e = .returned (.int .i64 (kindV k)) ∧ w' = w := by
  rcases kind_cases h with rfl | rfl | rfl
  all_goals
    go_enter Tryz.func68, Tryz.ntmps68
    go_wp2_with fail
    go_ret
    exact ⟨rfl, rfl⟩

/-- Where a place leads in one list, for a kind that there is. -/
def goesB (rs : List (Int × Int)) (at_ k : Int) : Bool := decide (0 ≤ at_) && decide (at_ ≤ 63) && !(bits BinOp.and .i64 (rs.getD (at_ / 8).toNat (0, 0)).2 k == 0)
def goesTo (rs : List (Int × Int)) (at_ : Int) : Int := (rs.getD (at_ / 8).toNat (0, 0)).1 * 8 + at_ % 8
/-- Code and value of a walk through a list without a fault. -/
def wkC (rs : List (Int × Int)) (at_ k : Int) : Int := if kindB k then (if goesB rs at_ k then 0 else kindV k) else 3
def wkV (rs : List (Int × Int)) (at_ k : Int) : Int := if kindB k then (if goesB rs at_ k then goesTo rs at_ else 0) else 0
theorem okTo_at {rs : List (Int × Int)} {t : Int} (h : okTo t rs 8) {x : Int} (h0 : 0 ≤ x) (h1 : x ≤ 63) : pgC t (rs.getD (x / 8).toNat (0, 0)).1 (rs.getD (x / 8).toNat (0, 0)).2 = 0 := h _ (by omega)
theorem goes_in {rs : List (Int × Int)} {t : Int} (h : okTo t rs 8) {x k : Int} (hg : goesB rs x k = true) : 0 ≤ x ∧ x ≤ 63 ∧ 0 ≤ (rs.getD (x / 8).toNat (0, 0)).1 ∧ (rs.getD (x / 8).toNat (0, 0)).1 ≤ t - 1 := by
  unfold goesB at hg
  simp only [Bool.and_eq_true, decide_eq_true_eq, Bool.not_eq_true', beq_eq_false_iff_ne] at hg
  obtain ⟨⟨h0, h1⟩, h2⟩ := hg
  have hz := pgC_zero (okTo_at h h0 h1)
  refine ⟨h0, h1, ?_, hz.2.1⟩
  apply Classical.byContradiction
  intro hn
  have : (rs.getD (x / 8).toNat (0, 0)).2 = 0 := hz.2.2.2.2 (by omega)
  rw [this, band_zero] at h2
  exact h2 rfl

/-- The page of a place. -/
def atB (x : Int) : Bool := decide (0 ≤ x) && decide (x ≤ 63)
def atN (x : Int) : Int := if atB x then x / 8 else 0
theorem impl_pageOf (x : Int) (w : World) : Calls Tryz.prog 145 #[.int .i64 x] w fun e w' => e = .returned (.tuple #[.int .i64 (atN x), .bool (atB x)]) ∧ w' = w := by
  by_cases h1 : x < 0
  · have e1 : atB x = false := by simp [atB]; omega
    rw [atN, e1]
    clear e1
    go_enter Tryz.func145, Tryz.ntmps145
    go_wp2_with fail
    go_ret2
    exact ⟨rfl, rfl⟩
  by_cases h2 : 64 ≤ x
  · have e1 : atB x = false := by simp [atB]; omega
    rw [atN, e1]
    clear e1
    go_enter Tryz.func145, Tryz.ntmps145
    go_wp2_with fail
    go_ret2
    exact ⟨rfl, rfl⟩
  have e1 : atB x = true := by simp [atB]; omega
  have h3 : 0 ≤ x := by omega
  have h4 : x < 64 := by omega
  rw [atN, e1, if_pos rfl]
  clear e1 h1 h2
  go_enter Tryz.func145, Tryz.ntmps145
  go_wp2_with fail
  go_ret2
  exact ⟨rfl, rfl⟩

/-- Code and value of a walk by what is said of a page. -/
def wpgC (q k : Int) : Int := if kindB k then (if bits BinOp.and .i64 q k == 0 then kindV k else 0) else 3
def wpgV (p q x k : Int) : Int := if kindB k then (if bits BinOp.and .i64 q k == 0 then 0 else p * 8 + x % 8) else 0
set_option maxHeartbeats 1000000 in
theorem impl_walkPage (p q x k : Int) (w : World) (h : (bits BinOp.and .i64 q k == 0) = false → 0 ≤ p ∧ p ≤ 23 ∧ 0 ≤ x ∧ x ≤ 63) :
    Calls Tryz.prog 146 #[.agg #[.int .i64 p, .int .i64 q], .int .i64 x, .int .i64 k] w fun e w' => e = .returned (.agg #[.int .i64 (wpgC q k), .int .i64 (wpgV p q x k)]) ∧ Below w.heap.size w w' := by
  cases hk : kindB k
  · have e1 : wpgC q k = 3 := by simp [wpgC, hk]
    have e2 : wpgV p q x k = 0 := by simp [wpgV, hk]
    rw [e1, e2]
    clear e1 e2 h
    go_enter Tryz.func146, Tryz.ntmps146
    go_wp2_with (go_at_call 152; refine (impl_kind _ _).mono ?_; rintro e w1 ⟨rfl, rfl⟩; rw [hk])
    exact bodyPost_ret (v := .agg #[.int .i64 3, .int .i64 0]) (by simp [results, Tryz.results146, go_sem]) rfl ⟨rfl, al (al (Below.refl _ _) _) _⟩
  generalize hkv : kindV k = kv at *
  have HKV : Hid (kindV k = kv) := hkv
  cases hq : (bits BinOp.and .i64 q k == 0)
  · obtain ⟨p1, p2, h3, h4⟩ := h hq
    have e1 : wpgC q k = 0 := by unfold wpgC; rw [hk, hq]; rfl
    have e2 : wpgV p q x k = p * 8 + x % 8 := by unfold wpgV; rw [hk, hq]; rfl
    rw [e1, e2]
    clear e1 e2 hkv h
    go_enter Tryz.func146, Tryz.ntmps146
    go_wp2_with (go_at_call 152; refine (impl_kind _ _).mono ?_; rintro e w1 ⟨rfl, rfl⟩; rw [hk, HKV.out])
    exact bodyPost_ret (v := .agg #[.int .i64 0, .int .i64 (p * 8 + x % 8)]) (by simp [results, Tryz.results146, go_sem]) rfl ⟨rfl, al (al (Below.refl _ _) _) _⟩
  · have e1 : wpgC q k = kv := by unfold wpgC; rw [hk, hq, hkv]; rfl
    have e2 : wpgV p q x k = 0 := by unfold wpgV; rw [hk, hq]; rfl
    rw [e1, e2]
    clear e1 e2 hkv h
    go_enter Tryz.func146, Tryz.ntmps146
    go_wp2_with (go_at_call 152; refine (impl_kind _ _).mono ?_; rintro e w1 ⟨rfl, rfl⟩; rw [hk, HKV.out])
    exact bodyPost_ret (v := .agg #[.int .i64 kv, .int .i64 0]) (by simp [results, Tryz.results146, go_sem]) rfl ⟨rfl, al (al (Below.refl _ _) _) _⟩

set_option maxHeartbeats 1000000 in
theorem impl_walk (v : Value) (rs : List (Int × Int)) (x k : Int) (b : Nat) (w : World) (h : Prs 55 w b v rs) (hl : rs.length = 8) (ho : okTo 24 rs 8) :
    Calls Tryz.prog 138 #[v, .int .i64 x, .int .i64 k] w fun e w' => e = .returned (.agg #[.int .i64 (wkC rs x k), .int .i64 (wkV rs x k)]) ∧ Below w.heap.size w w' := by
  obtain ⟨a, cap, rfl, l1, l2, hg⟩ := h.shape
  obtain ⟨g, rfl⟩ := hg (by omega)
  rw [hl]
  have HZ : Hid (Prs 55 w b (.slice (some ⟨g, 0, none⟩) 8 cap) rs) := by show Prs 55 _ _ _ _; rw [← hl]; exact h
  have HL : Hid (rs.length = 8) := hl
  clear l1 l2 hg h hl
  cases hb : atB x
  · have hgo : goesB rs x k = false := by unfold goesB; unfold atB at hb; rw [hb]; rfl
    have e1 : wkC rs x k = wpgC 0 k := by unfold wkC wpgC; rw [hgo, band_zero]; rfl
    have e2 : wkV rs x k = wpgV (-1) 0 x k := by unfold wkV wpgV; rw [hgo, band_zero]; rfl
    rw [e1, e2]
    have hW := fun u => impl_walkPage (-1) 0 x k u (fun hh => by rw [band_zero] at hh; exact absurd hh (by decide))
    generalize wpgC 0 k = c at *
    generalize wpgV (-1) 0 x k = y at *
    clear e1 e2 hgo
    go_enter Tryz.func138, Tryz.ntmps138
    go_wp2_with (first | (go_at_call 145; refine (impl_pageOf _ _).mono ?_; rintro e w1 ⟨rfl, rfl⟩; rw [hb]) | (go_at_call 146; refine (hW _).mono ?_; rintro e w1 ⟨rfl, b1⟩; have k0 := cell_keep b1 (cell_new (i := 0) rfl); have k1 := cell_keep b1 (cell_new (i := 1) rfl); have z0 : w1.frozen? ⟨w.heap.size, 0, none⟩ = false := (by rw [(bcell b1).2 _ _ (by simp)]; simp); have z1 : w1.frozen? ⟨w.heap.size, 1, none⟩ = false := (by rw [(bcell b1).2 _ _ (by simp)]; simp); have B1 : Hid (Below w.heap.size w w1) := on (al (Below.refl _ _) _) b1; clear b1))
    exact bodyPost_ret (v := .agg #[.int .i64 c, .int .i64 y]) (by simp [results, Tryz.results138, go_sem, k0, k1]) rfl ⟨rfl, (B1.out.setCell (by simp) _).setCell (by simp) _⟩
  have hb2 := hb
  simp only [atB, Bool.and_eq_true, decide_eq_true_eq] at hb2
  obtain ⟨h3, h4⟩ := hb2
  have hz := pgC_zero (okTo_at ho h3 h4)
  have c1 := (HZ.out.cell HL.out.symm (x / 8).toNat (by omega)).1
  have c2 := (HZ.out.cell HL.out.symm (x / 8).toNat (by omega)).2
  have gb : g < w.heap.size := block_of_cell c1
  have q0 : 0 ≤ x / 8 := by omega
  have q1 : x / 8 < 8 := by omega
  have hgo : goesB rs x k = !(bits BinOp.and .i64 (rs.getD (x / 8).toNat (0, 0)).2 k == 0) := by unfold goesB; simp [h3, h4]
  have e1 : wkC rs x k = wpgC (rs.getD (x / 8).toNat (0, 0)).2 k := by
    unfold wkC wpgC; rw [hgo]
    cases kindB k <;> cases (bits BinOp.and .i64 (rs.getD (x / 8).toNat (0, 0)).2 k == 0) <;> rfl
  have e2 : wkV rs x k = wpgV (rs.getD (x / 8).toNat (0, 0)).1 (rs.getD (x / 8).toNat (0, 0)).2 x k := by
    unfold wkV wpgV goesTo; rw [hgo]
    cases kindB k <;> cases (bits BinOp.and .i64 (rs.getD (x / 8).toNat (0, 0)).2 k == 0) <;> rfl
  rw [e1, e2]
  have en : atN x = x / 8 := by rw [atN, hb]; rfl
  clear e1 e2 hgo
  generalize (rs.getD (x / 8).toNat (0, 0)).1 = p at *
  generalize (rs.getD (x / 8).toNat (0, 0)).2 = q at *
  obtain ⟨p1, p2, p3, p4, p5⟩ := hz
  have hW := fun u => impl_walkPage p q x k u (fun hh => ⟨(by
    apply Classical.byContradiction
    intro hn
    rw [p5 (by omega), band_zero] at hh
    exact absurd hh (by decide)), by omega, h3, h4⟩)
  generalize wpgC q k = c at *
  generalize wpgV p q x k = y at *
  clear p1 p2 p3 p4 p5
  go_enter Tryz.func138, Tryz.ntmps138
  go_wp2_with (first | (go_at_call 145; refine (impl_pageOf _ _).mono ?_; rintro e w1 ⟨rfl, rfl⟩; rw [hb, en]) | (go_at_call 146; refine (hW _).mono ?_; rintro e w1 ⟨rfl, b1⟩; have k0 := cell_keep b1 (cell_new (i := 0) rfl); have k1 := cell_keep b1 (cell_new (i := 1) rfl); have z0 : w1.frozen? ⟨w.heap.size, 0, none⟩ = false := (by rw [(bcell b1).2 _ _ (by simp)]; simp); have z1 : w1.frozen? ⟨w.heap.size, 1, none⟩ = false := (by rw [(bcell b1).2 _ _ (by simp)]; simp); have B1 : Hid (Below w.heap.size w w1) := on (al (Below.refl _ _) _) b1; clear b1))
  exact bodyPost_ret (v := .agg #[.int .i64 c, .int .i64 y]) (by simp [results, Tryz.results138, go_sem, k0, k1]) rfl ⟨rfl, (B1.out.setCell (by simp) _).setCell (by simp) _⟩
end Go.Proofs.YtcbcbgomafeccaaGreatDoor
