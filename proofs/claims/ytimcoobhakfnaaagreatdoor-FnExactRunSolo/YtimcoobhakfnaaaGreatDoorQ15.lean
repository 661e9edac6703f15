/- Texts of this seat, joined. -/
import Derived.Laws.AppendOwn
import Derived.Laws.CopyOwn
import Derived.Deep.RegionLaw
import Derived.Deep.RegionWith
import Derived.Test.YtimcoobhakfnaaaGreatDoorQ03
import Derived.Test.YtimcoobhakfnaaaGreatDoorQ05
import Derived.Test.YtimcoobhakfnaaaGreatDoorQ08
import Derived.Test.YtimcoobhakfnaaaGreatDoorQ12
import Derived.Test.YtimcoobhakfnaaaGreatDoorQ13
import Derived.Test.YtimcoobhakfnaaaGreatDoorQ14
namespace Go.Proofs.YtimcoobhakfnaaaGreatDoor
open Go.RowKit

def inB (v lo hi : Int) : Bool := decide (lo ≤ v ∧ v ≤ hi)
theorem inB_true {v lo hi : Int} (h : lo ≤ v ∧ v ≤ hi) : inB v lo hi = true := decide_eq_true h
theorem inB_false {v lo hi : Int} (h : ¬ (lo ≤ v ∧ v ≤ hi)) : inB v lo hi = false := decide_eq_false h

theorem spec_inI (v lo hi : Int) (w : World) : Calls Tryz.prog 17 #[.int .i64 v, .int .i64 lo, .int .i64 hi] w fun e w' => e = .returned (.bool (inB v lo hi)) ∧ w' = w := by
  by_cases h : lo ≤ v
  · have e : inB v lo hi = decide (v ≤ hi) := by simp [inB, h]
    rw [e]
    go_enter Tryz.func17, Tryz.ntmps17
    go_wp2
    go_ret
    exact ⟨rfl, rfl⟩
  · have e : inB v lo hi = false := by simp [inB, h]
    rw [e]
    go_enter Tryz.func17, Tryz.ntmps17
    go_wp2
    go_ret
    exact ⟨rfl, rfl⟩

def bareD (op : Int) : Bool := decide (22 ≤ op ∧ op ≤ 26)
def bareA (op : Int) : Bool := decide (op = 13 ∨ op = 19 ∨ op = 21 ∨ 23 ≤ op ∧ op ≤ 26)
def bareI (op : Int) : Bool := decide (23 ≤ op ∧ op ≤ 26)

theorem spec_bare (op : Int) (w : World) (h : 1 ≤ op ∧ op ≤ 26) : Calls Tryz.prog 91 #[.int .i64 op] w fun e w' => e = .returned (.tuple #[.bool (bareD op), .bool (bareA op), .bool (bareI op)]) ∧ w' = w := by
  rcases op_class h with rfl | rfl | rfl | rfl | rfl | rfl | rfl | rfl | ⟨g1, g2, g3, g4, g5, g6, g7, g8, g9⟩
  rotate_right 1
  · have e1 : bareD op = false := decide_eq_false (by have g9 := g9.out; omega)
    have e2 : bareA op = false := decide_eq_false (by have g9 := g9.out; omega)
    have e3 : bareI op = false := decide_eq_false (by have g9 := g9.out; omega)
    rw [e1, e2, e3]
    clear e1 e2 e3 h
    go_enter Tryz.func91, Tryz.ntmps91
    go_wp2
    exact bodyPost_ret (v := .tuple #[.bool false, .bool false, .bool false]) (by simp [results, Tryz.results91, go_sem]) rfl ⟨rfl, rfl⟩
  all_goals
    go_enter Tryz.func91, Tryz.ntmps91
    go_wp2
  all_goals exact bodyPost_ret (v := .tuple #[.bool _, .bool _, .bool _]) (by simp [results, Tryz.results91, go_sem]; exact ⟨rfl, rfl, rfl⟩) rfl ⟨rfl, rfl⟩
end Go.Proofs.YtimcoobhakfnaaaGreatDoor
namespace Go.Proofs.YtimcoobhakfnaaaGreatDoor
open Go.RowKit
set_option linter.unusedVariables false

/-- A slice of pages that a call made: its words, page behind page. -/
def Pags (w : World) (base : Nat) (v : Value) (n : Nat) (zs : List Int) : Prop := w.ownsRow base 144 8 v n (zs.map (Value.int .i64))

theorem Pags.cell {w : World} {base g n cap : Nat} {zs : List Int} (h : Pags w base (.slice (some ⟨g, 0, none⟩) n cap) n zs) (i : Nat) (hi : i < n * 8) : w.cell? ⟨g, i, none⟩ = some (.int .i64 (zs.getD i 0)) := by
  have hl : zs.length = n * 8 := by simpa using h.1
  rw [World.ownsRow.cellAt h i hi, List.getElem?_map, List.getElem?_eq_getElem (by omega), List.getD, List.getElem?_eq_getElem (by omega)]
  rfl
theorem Pags.keep {w w' : World} {base n : Nat} {v : Value} {zs : List Int} (h : Pags w base v n zs) (hb : Below w.heap.size w w') : Pags w' base v n zs := by
  refine World.ownsRow.kept h (below_grown hb none) ?_
  cases v.ownBlock <;> simp
theorem Pags.len {w : World} {base n : Nat} {v : Value} {zs : List Int} (h : Pags w base v n zs) : zs.length = n * 8 := by simpa using h.1

theorem take_one (zs : List Int) (n : Nat) (h : n < zs.length) : zs.take (n + 1) = zs.take n ++ [zs.getD n 0] := by
  rw [List.take_succ_eq_append_getElem h, List.getD, List.getElem?_eq_getElem h]
  rfl
theorem take_eight (zs : List Int) (n : Nat) (h : n + 8 ≤ zs.length) : zs.take (n + 8) = zs.take n ++ [zs.getD n 0, zs.getD (n + 1) 0, zs.getD (n + 2) 0, zs.getD (n + 3) 0, zs.getD (n + 4) 0, zs.getD (n + 5) 0, zs.getD (n + 6) 0, zs.getD (n + 7) 0] := by
  rw [take_one zs (n + 7) (by omega), take_one zs (n + 6) (by omega), take_one zs (n + 5) (by omega), take_one zs (n + 4) (by omega), take_one zs (n + 3) (by omega), take_one zs (n + 2) (by omega), take_one zs (n + 1) (by omega), take_one zs n (by omega)]
  simp only [List.append_assoc, List.cons_append, List.nil_append]

/-- append of numbers to a slice of the call's own. -/
theorem wp_append {ops : Array Oper} {rest : List Oper} {o : Oper} {act : Act} {Q : Exit → Act → World → Prop} (w : World) (hgd : o.guard = none) (s x : Operand)
    (ho : o.op = .call { callee := .builtin .append, args := #[s, x], argTypes := #[22, 22] }) (base : Nat) (v : Value) (zs : List Int) (hs : act.eval s = v) (hN : Nums w base v zs)
    (B m c : Nat) (ys : List Int) (hx : act.eval x = .slice (some ⟨B, 0, none⟩) m c) (hy : ys.length = m) (hc : ∀ i, i < m → w.cell? ⟨B, i, none⟩ = some (.int .i64 (ys.getD i 0)))
    (hlen : zs.length + m ≤ 1000000000) (hbase : base ≤ w.heap.size)
    (h : ∀ v' w', Nums w' base v' (zs ++ ys) → w.grownBy w' v.ownBlock → wpList Tryz.prog ops Q rest (act.put o.dst v') w') : wpList Tryz.prog ops Q (o :: rest) act w := by
  obtain ⟨i, hi, hz0, hz1, hz2⟩ := info_parts info_i64
  refine wpList_append_own w hgd s x 22 ho base 2 i _ 1 8 Tryz.underlying22 hi hz0 hz1 hz2 rfl (by decide) v zs.length _ hs hN ⟨B, 0, none⟩ m c (ys.map (Value.int .i64)) hx (by simpa using hy) ?_ ?_ (by unfold maxLen; omega) (by omega) hbase ?_
  · intro j u hj
    have hjl : j < ys.length := by have := (List.getElem?_eq_some_iff.1 hj).1; simpa using this
    rw [List.getElem?_map, List.getElem?_eq_getElem hjl] at hj
    have := hc j (by omega)
    rw [List.getD, List.getElem?_eq_getElem hjl] at this
    rw [show (⟨B, 0, none⟩ : Addr).add j = ⟨B, j, none⟩ by rw [Addr.add_lit]; simp, this]
    exact hj
  · intro u hu
    obtain ⟨z, _, rfl⟩ := List.mem_map.1 hu
    rfl
  · intro v' w' hown hgrow _
    refine h v' w' ?_ hgrow
    unfold Nums
    rw [List.length_append, hy, List.map_append]
    exact hown

theorem cells_eight (w : World) (t : TypeId) (a0 a1 a2 a3 a4 a5 a6 a7 : Int) : ∀ i, i < 8 → (w.alloc (.cells #[.int .i64 a0, .int .i64 a1, .int .i64 a2, .int .i64 a3, .int .i64 a4, .int .i64 a5, .int .i64 a6, .int .i64 a7] t)).cell? ⟨w.heap.size, i, none⟩ = some (.int .i64 ([a0, a1, a2, a3, a4, a5, a6, a7].getD i 0)) := by
  intro i hi
  have : i = 0 ∨ i = 1 ∨ i = 2 ∨ i = 3 ∨ i = 4 ∨ i = 5 ∨ i = 6 ∨ i = 7 := by omega
  rcases this with rfl | rfl | rfl | rfl | rfl | rfl | rfl | rfl <;> exact cell_new rfl

set_option maxHeartbeats 2000000 in
theorem impl_join (g n cap : Nat) (zs : List Int) (b : Nat) (w : World) (h : Pags w b (.slice (some ⟨g, 0, none⟩) n cap) n zs) (hn : n ≤ 24) :
    Calls Tryz.prog 89 #[.slice (some ⟨g, 0, none⟩) n cap] w fun e w' => ∃ v, e = .returned v ∧ Nums w' w.heap.size v zs ∧ Below w.heap.size w w' := by
  have HP : Hid (Pags w b _ n zs) := h
  have HL : Hid (zs.length = n * 8) := h.len
  have hni : (n : Int) ≤ 24 := by omega
  clear h
  go_enter Tryz.func89, Tryz.ntmps89
  go_wp2_with fail
  go_loopw [3, 5, 8] (fun v _ c wr => ∃ j : Nat, j ≤ n ∧ c = .int .i64 j ∧ Nums wr w.heap.size v (zs.take (j * 8)) ∧ Below w.heap.size w wr) (fun _ _ c _ => n - (intOf c).toNat)
  case atStart => exact ⟨0, Nat.zero_le _, rfl, by simpa using Nums.nil w _, Below.refl _ _⟩
  case round =>
    obtain ⟨j, hj, rfl, hN, hB⟩ := hrel
    have HN : Hid (Nums wr _ _ _) := hN
    have HB : Hid (Below _ _ _) := hB
    by_cases hlt : j < n
    · have hJ : (j : Int) < (n : Int) := by omega
      have hp := fun k (hk : k < n * 8) => cell_keep hB (HP.out.cell k hk)
      have c0 := hp (j * 8) (by omega)
      have c1 := hp (j * 8 + 1) (by omega)
      have c2 := hp (j * 8 + 2) (by omega)
      have c3 := hp (j * 8 + 3) (by omega)
      have c4 := hp (j * 8 + 4) (by omega)
      have c5 := hp (j * 8 + 5) (by omega)
      have c6 := hp (j * 8 + 6) (by omega)
      have c7 := hp (j * 8 + 7) (by omega)
      have HT : Hid (zs.take ((j + 1) * 8) = zs.take (j * 8) ++ [zs.getD (j * 8) 0, zs.getD (j * 8 + 1) 0, zs.getD (j * 8 + 2) 0, zs.getD (j * 8 + 3) 0, zs.getD (j * 8 + 4) 0, zs.getD (j * 8 + 5) 0, zs.getD (j * 8 + 6) 0, zs.getD (j * 8 + 7) 0]) := by
        show _ = _
        rw [show (j + 1) * 8 = j * 8 + 8 by omega]
        exact take_eight zs (j * 8) (by have := HL.out; omega)
      generalize zs.getD (j * 8) 0 = a0 at *
      generalize zs.getD (j * 8 + 1) 0 = a1 at *
      generalize zs.getD (j * 8 + 2) 0 = a2 at *
      generalize zs.getD (j * 8 + 3) 0 = a3 at *
      generalize zs.getD (j * 8 + 4) 0 = a4 at *
      generalize zs.getD (j * 8 + 5) 0 = a5 at *
      generalize zs.getD (j * 8 + 6) 0 = a6 at *
      generalize zs.getD (j * 8 + 7) 0 = a7 at *
      have HLT : Hid (j < n) := hlt
      have Hn : Hid (n ≤ 24) := hn
      have HS : Hid (w.heap.size ≤ wr.heap.size) := hB.size
      clear hp hN hB hlt hn
      go_wp2_with (at_builtin; refine wp_append _ rfl _ _ rfl w.heap.size _ _ rfl (HN.out.keep (al (Below.refl _ _) _)) wr.heap.size 8 8 [a0, a1, a2, a3, a4, a5, a6, a7] rfl rfl (cells_eight _ _ _ _ _ _ _ _ _ _) (by have := HLT.out; have := Hn.out; simp; omega) (by have := HS.out; simp; omega) ?_; intro v' w' hN' hG')
      have N' : Hid (Nums w' _ v' _) := hN'
      have B' : Hid (Below w.heap.size w w') := (al HB.out _).grown hG' (by have := HS.out; simp; omega) (fun k hk => (HN.out.lt k hk).1)
      clear hN' hG'
      go_wp2_with fail
      go_roundw
      case rel => exact ⟨j + 1, by have := HLT.out; omega, by go_num, by rw [HT.out]; exact N'.out, B'.out⟩
      case measure => have := HLT.out; simp [intOf]; omega
    · have hJ : ¬ (j : Int) < (n : Int) := by omega
      obtain rfl : j = n := by omega
      clear hN hB
      go_wp2_with fail
      go_ret
      refine ⟨_, rfl, ?_, HB.out⟩
      have := HN.out
      rwa [List.take_of_length_le (Nat.le_of_eq HL.out)] at this
end Go.Proofs.YtimcoobhakfnaaaGreatDoor
namespace Go.Proofs.YtimcoobhakfnaaaGreatDoor
open Go.RowKit
set_option linter.unusedVariables false

/-- The pairs that marking leaves: k, k + 1; k + 2, k + 3; and so on. -/
def pmarks (k : Int) (n : Nat) : List (Int × Int) := (List.range n).map fun (i : Nat) => (k + (2 * i : Nat), k + (2 * i + 1 : Nat))
theorem pmarks_length (k : Int) (n : Nat) : (pmarks k n).length = n := by simp [pmarks]
theorem pmarks_getD (k : Int) (n i : Nat) (h : i < n) : (pmarks k n).getD i (0, 0) = (k + (2 * i : Nat), k + (2 * i + 1 : Nat)) := by
  simp [pmarks, List.getD, h]
theorem pmarks_set (k : Int) (rs : List (Int × Int)) (j : Nat) (h : j < rs.length) : (pmarks k j ++ rs.drop j).set j (k + (2 * j : Nat), k + (2 * j + 1 : Nat)) = pmarks k (j + 1) ++ rs.drop (j + 1) := by
  rw [List.drop_eq_getElem_cons h, List.set_append_right _ _ (by simp [pmarks]), pmarks_length, Nat.sub_self, List.set_cons_zero]
  simp [pmarks, List.range_succ]

theorem Prs.kept {e : TypeId} {w w' : World} {base : Nat} {v : Value} {rs : List (Int × Int)} {row : Option Nat} (h : Prs e w base v rs) (hg : w.grownBy w' row) (hne : v.ownBlock = none ∨ v.ownBlock ≠ row) : Prs e w' base v rs := World.ownsRow.kept h hg hne
theorem Prs.put {e : TypeId} {w : World} {base : Nat} {v : Value} {rs : List (Int × Int)} (h : Prs e w base v rs) (p : Addr) (u : Value) (hne : v.ownBlock ≠ some p.block) : Prs e (w.setCell p u) base v rs := h.kept (grown_set w p u) (.inr hne)
theorem Prs.mono {e : TypeId} {w : World} {base base' : Nat} {v : Value} {rs : List (Int × Int)} (h : Prs e w base v rs) (hb : base' ≤ base) : Prs e w base' v rs := by
  obtain ⟨h1, h2 | ⟨g, cap, cur, hv, hg, hr⟩⟩ := h
  · exact ⟨h1, .inl h2⟩
  · exact ⟨h1, .inr ⟨g, cap, cur, hv, Nat.le_trans hb hg, hr⟩⟩
theorem pbelow_of_grown {e : TypeId} {a w w' : World} {v : Value} {base : Nat} {rs : List (Int × Int)} (h : Below a.heap.size a w) (g : w.grownBy w' v.ownBlock) (n : Prs e w base v rs) (hb : a.heap.size ≤ base) : Below a.heap.size a w' :=
  h.grown g h.size (fun k hk => Nat.le_trans hb (n.lt k hk).1)
theorem pown_not {e : TypeId} {w : World} {base : Nat} {v : Value} {zs : List (Int × Int)} (h : Prs e w base v zs) (x : Nat) (hx : x < base ∨ w.heap.size ≤ x) : some x ≠ v.ownBlock := by
  intro e
  have := h.lt x e.symm
  omega

set_option maxHeartbeats 1000000 in
theorem mark_pages (v : Value) (k : Int) (rs : List (Int × Int)) (b : Nat) (w : World) (h : Prs 61 w b v rs) (hk : 0 ≤ k) (hz : k + (2 * rs.length : Nat) ≤ 4611686018427387904) :
    Calls Tryz.prog 31 #[v, .int .i64 k] w fun e w' => e = .returned (.int .i64 (k + (2 * rs.length : Nat))) ∧ Prs 61 w' b v (pmarks k rs.length) ∧ w.grownBy w' v.ownBlock := by
  obtain ⟨a, cap, rfl, l1, l2, hg⟩ := h.shape
  have HZ : Hid (Prs _ w b _ rs) := h
  clear h
  obtain ⟨n, hn⟩ : ∃ n, rs.length = n := ⟨_, rfl⟩
  rw [hn] at HZ l1 hz hg ⊢
  have HN : Hid (rs.length = n) := hn
  clear hn l1 l2
  go_enter Tryz.func31, Tryz.ntmps31
  go_wp2_with fail
  go_loopw [1, 5] (fun q i wr => ∃ j : Nat, j ≤ n ∧ i = .int .i64 j ∧ q = .int .i64 (k + (2 * j : Nat)) ∧ Prs 61 wr b (.slice a n cap) (pmarks k j ++ rs.drop j) ∧ w.grownBy wr (Value.slice a n cap).ownBlock) (fun _ i _ => n - (intOf i).toNat)
  case atStart => exact ⟨0, Nat.zero_le _, rfl, by simp, by simpa [pmarks] using HZ.out, World.grownBy.refl _ _⟩
  case round =>
    obtain ⟨j, hj, rfl, rfl, hN, hG⟩ := hrel
    have N0 : Hid (Prs _ wr _ _ _) := hN
    have G0 : Hid (World.grownBy _ _ _) := hG
    by_cases hlt : j < n
    · obtain ⟨g, rfl⟩ := hg (by omega)
      have hll : n = (pmarks k j ++ rs.drop j).length := by have := HN.out; simp [pmarks]; omega
      have HLL : Hid (n = (pmarks k j ++ rs.drop j).length) := hll
      have c1 := (hN.cell hll j hlt).1
      have c2 := (hN.cell hll j hlt).2
      have f1 := hN.free hll (j * 2)
      have f2 := hN.free hll (j * 2 + 1)
      have hI : (j : Int) < (n : Int) := by omega
      have HL : Hid (j < n) := hlt
      have HK2 : Hid (k + ((2 * j : Nat) : Int) + 1 = k + ((2 * j + 1 : Nat) : Int) ∧ k + ((2 * j + 1 : Nat) : Int) + 1 = k + ((2 * (j + 1) : Nat) : Int)) := ⟨by omega, by omega⟩
      have hb0 : 0 ≤ k + ((2 * j : Nat) : Int) := by omega
      have hb1 : k + ((2 * j : Nat) : Int) ≤ 4611686018427387904 := by omega
      generalize ((pmarks k j ++ rs.drop j).getD j (0, 0)).1 = p at *
      generalize ((pmarks k j ++ rs.drop j).getD j (0, 0)).2 = q at *
      generalize hkk : k + ((2 * j : Nat) : Int) = kk at *
      have HKK : Hid (k + ((2 * j : Nat) : Int) = kk) := hkk
      clear hN hG hlt hg hll hkk
      go_wp2_with fail
      go_roundw
      case rel =>
        have s1 := N0.out.store HLL.out j kk (kk + 1) HL.out
        have s2 := grown_trans (grown_set wr ⟨g, j * 2, none⟩ (.int .i64 kk)) (grown_set _ ⟨g, j * 2 + 1, none⟩ (.int .i64 (kk + 1)))
        refine ⟨j + 1, by have := HL.out; omega, by go_num, by rw [← HK2.out.2, ← HK2.out.1], ?_, grown_trans G0.out s2⟩
        rw [HK2.out.1, ← HKK.out, pmarks_set k rs j (by have := HL.out; have := HN.out; omega)] at s1
        have e : k + ((2 * j : Nat) : Int) + 1 = k + ((2 * j + 1 : Nat) : Int) := by omega
        rw [← HKK.out, e]
        exact s1
      case measure => have := HL.out; simp [intOf]; omega
    · have hI : ¬ (j : Int) < (n : Int) := by omega
      obtain rfl : j = n := by omega
      clear hN hG
      go_wp2_with fail
      go_ret
      refine ⟨rfl, ?_, G0.out⟩
      have := N0.out
      rwa [List.drop_of_length_le (Nat.le_of_eq HN.out), List.append_nil] at this

set_option maxHeartbeats 1000000 in
theorem held_pages (v : Value) (k : Int) (n : Nat) (b : Nat) (w : World) (h : Prs 61 w b v (pmarks k n)) (hk : 0 ≤ k) (hz : k + (2 * n : Nat) ≤ 4611686018427387904) :
    Calls Tryz.prog 56 #[v, .int .i64 k] w fun e w' => e = .returned (.int .i64 (k + (2 * n : Nat))) ∧ w' = w := by
  obtain ⟨a, cap, rfl, l1, l2, hg⟩ := h.shape
  have HZ : Hid (Prs _ w b _ (pmarks k n)) := h
  clear h
  rw [pmarks_length] at HZ hg l1 ⊢
  clear l1 l2
  go_enter Tryz.func56, Tryz.ntmps56
  go_wp2_with fail
  go_loop [1, 5] (fun q i => ∃ j : Nat, j ≤ n ∧ i = .int .i64 j ∧ q = .int .i64 (k + (2 * j : Nat))) (fun _ i => n - (intOf i).toNat)
  case atStart => exact ⟨0, Nat.zero_le _, rfl, by simp⟩
  case round =>
    obtain ⟨j, hj, rfl, rfl⟩ := hrel
    by_cases hlt : j < n
    · obtain ⟨g, rfl⟩ := hg (by omega)
      have c1 := (HZ.out.cell (pmarks_length k n).symm j hlt).1
      have c2 := (HZ.out.cell (pmarks_length k n).symm j hlt).2
      rw [pmarks_getD k n j hlt] at c1 c2
      have hI : (j : Int) < (n : Int) := by omega
      have HL : Hid (j < n) := hlt
      have HK2 : Hid (k + ((2 * j : Nat) : Int) + 1 = k + ((2 * j + 1 : Nat) : Int) ∧ k + ((2 * j + 1 : Nat) : Int) + 1 = k + ((2 * (j + 1) : Nat) : Int)) := ⟨by omega, by omega⟩
      have hb0 : 0 ≤ k + ((2 * j : Nat) : Int) := by omega
      have hb1 : k + ((2 * j : Nat) : Int) ≤ 4611686018427387904 := by omega
      simp only at c1 c2
      rw [← HK2.out.1] at c2
      generalize hkk : k + ((2 * j : Nat) : Int) = kk at *
      have HKK : Hid (k + ((2 * j : Nat) : Int) = kk) := hkk
      clear hlt hg hkk
      go_wp2_with fail
      go_round
      case rel => exact ⟨j + 1, by have := HL.out; omega, by go_num, by rw [← HK2.out.2, ← HK2.out.1]⟩
      case measure => have := HL.out; simp [intOf]; omega
    · have hI : ¬ (j : Int) < (n : Int) := by omega
      obtain rfl : j = n := by omega
      go_wp2_with fail
      go_ret
      exact ⟨rfl, rfl⟩

end Go.Proofs.YtimcoobhakfnaaaGreatDoor
namespace Go.Proofs.YtimcoobhakfnaaaGreatDoor
open Go.RowKit
set_option linter.unusedVariables false

theorem made_replicate (z : Value) (k m : Nat) (hk : 0 < k) : (madeCells (Array.replicate k z) m).toList = List.replicate m z := by
  apply List.ext_getElem?
  intro j
  by_cases hj : j < m
  · have : j % k < k := Nat.mod_lt _ hk
    simp [madeCells, hj, this]
  · simp [madeCells, hj]

theorem info_wpage : (Tryz.prog.info? 144).map (fun i => (i.zero, i.size, i.bytes)) = some (some (.agg (Array.replicate 8 (.int .i64 0))), 8, 64) := by kernel_rfl

end Go.Proofs.YtimcoobhakfnaaaGreatDoor
namespace Go.Proofs.YtimcoobhakfnaaaGreatDoor
open Go.RowKit
set_option linter.unusedVariables false

/-- The fault of one entry. -/
def pgC (top a b : Int) : Int := if -1 ≤ a ∧ a ≤ top - 1 ∧ 0 ≤ b ∧ b ≤ 7 then (if a = -1 ∧ b ≠ 0 then 1 else 0) else 3
theorem pgC_range {top a b : Int} (h : ¬ (-1 ≤ a ∧ a ≤ top - 1 ∧ 0 ≤ b ∧ b ≤ 7)) : pgC top a b = 3 := if_neg h
theorem pgC_form {top a b : Int} (h : -1 ≤ a ∧ a ≤ top - 1 ∧ 0 ≤ b ∧ b ≤ 7) (k : a = -1 ∧ b ≠ 0) : pgC top a b = 1 := by rw [pgC, if_pos h, if_pos k]
theorem pgC_ok {top a b : Int} (h : -1 ≤ a ∧ a ≤ top - 1 ∧ 0 ≤ b ∧ b ≤ 7) (k : ¬ (a = -1 ∧ b ≠ 0)) : pgC top a b = 0 := by rw [pgC, if_pos h, if_neg k]
theorem pgC_zero {top a b : Int} (h : pgC top a b = 0) : -1 ≤ a ∧ a ≤ top - 1 ∧ 0 ≤ b ∧ b ≤ 7 ∧ (a = -1 → b = 0) := by
  unfold pgC at h
  split at h
  · split at h <;> omega
  · omega
/-- The first fault of a list's entries. -/
def firstC (top : Int) : List (Int × Int) → Int
  | [] => 0
  | r :: t => if pgC top r.1 r.2 = 0 then firstC top t else pgC top r.1 r.2
def okTo (top : Int) (rs : List (Int × Int)) (j : Nat) : Prop := ∀ i, i < j → pgC top (rs.getD i (0, 0)).1 (rs.getD i (0, 0)).2 = 0
theorem okTo_succ {top : Int} {rs : List (Int × Int)} {j : Nat} (h : okTo top rs j) (k : pgC top (rs.getD j (0, 0)).1 (rs.getD j (0, 0)).2 = 0) : okTo top rs (j + 1) := by
  intro i hi
  by_cases e : i = j
  · subst e; exact k
  · exact h i (by omega)
theorem firstC_ok {top : Int} {rs : List (Int × Int)} (h : okTo top rs rs.length) : firstC top rs = 0 := by
  induction rs with
  | nil => rfl
  | cons r t ih =>
    have h0 := h 0 (by simp)
    have ht : okTo top t t.length := fun i hi => by simpa using h (i + 1) (by simpa using hi)
    rw [firstC, if_pos (by simpa using h0), ih ht]
theorem firstC_at {top : Int} {rs : List (Int × Int)} {j : Nat} (hj : j < rs.length) (h : okTo top rs j) (k : pgC top (rs.getD j (0, 0)).1 (rs.getD j (0, 0)).2 ≠ 0) : firstC top rs = pgC top (rs.getD j (0, 0)).1 (rs.getD j (0, 0)).2 := by
  induction rs generalizing j with
  | nil => simp at hj
  | cons r t ih =>
    cases j with
    | zero =>
      have k' : ¬ pgC top r.1 r.2 = 0 := by simpa using k
      rw [firstC, if_neg k']
      simp
    | succ j =>
      have h0 : pgC top r.1 r.2 = 0 := by simpa using h 0 (by omega)
      rw [firstC, if_pos h0, ih (j := j) (by simpa using hj) (fun i hi => by simpa using h (i + 1) (by omega)) (by simpa using k)]
      simp
theorem firstC_zero {top : Int} {rs : List (Int × Int)} (h : firstC top rs = 0) : okTo top rs rs.length := by
  induction rs with
  | nil => intro i hi; simp at hi
  | cons r t ih =>
    rw [firstC] at h
    by_cases k : pgC top r.1 r.2 = 0
    · rw [if_pos k] at h
      intro i hi
      cases i with
      | zero => simpa using k
      | succ i => simpa using ih h i (by simpa using hi)
    · rw [if_neg k] at h
      exact absurd h k

/-- What PagesFault answers. -/
def pgsV (rs : List (Int × Int)) (top : Int) : Int := if 1 ≤ top ∧ top ≤ 24 then (if rs.length = 8 then firstC top rs else 1) else 3
theorem pgsV_zero {rs : List (Int × Int)} {top : Int} (h : pgsV rs top = 0) : 1 ≤ top ∧ top ≤ 24 ∧ rs.length = 8 ∧ okTo top rs 8 := by
  unfold pgsV at h
  split at h
  · next ht =>
    split at h
    · next hl => exact ⟨ht.1, ht.2, hl, by have := firstC_zero h; rwa [hl] at this⟩
    · omega
  · omega
set_option maxHeartbeats 1000000 in
theorem impl_pageFault (a b top : Int) (w : World) : Calls Tryz.prog 76 #[.agg #[.int .i64 a, .int .i64 b], .int .i64 top] w fun e w' => e = .returned (.int .i64 (pgC top a b)) ∧ Below w.heap.size w w' := by
  by_cases h1 : a < -1
  case pos =>
    rw [pgC_range (by omega)]
    go_enter Tryz.func76, Tryz.ntmps76
    go_wp2_with fail
    go_ret
    exact ⟨rfl, al (Below.refl _ _) _⟩
  by_cases h2 : top ≤ a
  case pos =>
    rw [pgC_range (by omega)]
    go_enter Tryz.func76, Tryz.ntmps76
    go_wp2_with fail
    go_ret
    exact ⟨rfl, al (Below.refl _ _) _⟩
  by_cases h3 : b < 0
  case pos =>
    rw [pgC_range (by omega)]
    go_enter Tryz.func76, Tryz.ntmps76
    go_wp2_with fail
    go_ret
    exact ⟨rfl, al (Below.refl _ _) _⟩
  by_cases h4 : 7 < b
  case pos =>
    rw [pgC_range (by omega)]
    go_enter Tryz.func76, Tryz.ntmps76
    go_wp2_with fail
    go_ret
    exact ⟨rfl, al (Below.refl _ _) _⟩
  by_cases h5 : a = -1
  case neg =>
    rw [pgC_ok (by omega) (by omega)]
    have g5 : (a == -1) = false := beq_eq_false_iff_ne.2 h5
    clear h5
    go_enter Tryz.func76, Tryz.ntmps76
    go_wp2_with fail
    go_ret
    exact ⟨rfl, al (Below.refl _ _) _⟩
  by_cases h6 : b = 0
  case neg =>
    rw [pgC_form (by omega) (by omega)]
    have g6 : (b != 0) = true := by simpa using h6
    subst h5
    clear h6
    go_enter Tryz.func76, Tryz.ntmps76
    go_wp2_with fail
    go_ret
    exact ⟨rfl, al (Below.refl _ _) _⟩
  rw [pgC_ok (by omega) (by omega)]
  subst h5 h6
  clear h1 h3 h4
  go_enter Tryz.func76, Tryz.ntmps76
  go_wp2_with fail
  go_ret
  exact ⟨rfl, al (Below.refl _ _) _⟩

/-- A list of another length: its entries are not asked. -/
theorem impl_faultBad (a : Option Addr) (n cap : Nat) (top : Int) (w : World) (hn : n ≠ 8) (hm : n ≤ 1048576) (h1 : 1 ≤ top) (h2 : top ≤ 24) :
    Calls Tryz.prog 48 #[.slice a n cap, .int .i64 top] w fun e w' => e = .returned (.int .i64 1) ∧ w' = w := by
  have g : ((n : Int) != 8) = true := by simp; omega
  have hi : (n : Int) ≤ 1048576 := by omega
  have k1 : ¬ top < 1 := by omega
  have k2 : ¬ 24 < top := by omega
  go_enter Tryz.func48, Tryz.ntmps48
  go_wp2_with fail
  go_ret
  exact ⟨rfl, rfl⟩

set_option maxHeartbeats 2000000 in
theorem impl_fault (v : Value) (rs : List (Int × Int)) (top : Int) (b : Nat) (w : World) (h : Prs 61 w b v rs) (hm : rs.length ≤ 1048576) :
    Calls Tryz.prog 48 #[v, .int .i64 top] w fun e w' => e = .returned (.int .i64 (pgsV rs top)) ∧ Below w.heap.size w w' := by
  obtain ⟨a, cap, rfl, l1, l2, hg⟩ := h.shape
  by_cases h1 : top < 1
  case pos =>
    rw [pgsV, if_neg (by omega)]
    clear h
    go_enter Tryz.func48, Tryz.ntmps48
    go_wp2_with fail
    go_ret
    exact ⟨rfl, Below.refl _ _⟩
  by_cases h2 : 24 < top
  case pos =>
    rw [pgsV, if_neg (by omega)]
    clear h
    go_enter Tryz.func48, Tryz.ntmps48
    go_wp2_with fail
    go_ret
    exact ⟨rfl, Below.refl _ _⟩
  by_cases hl : rs.length = 8
  case neg =>
    rw [pgsV, if_pos (by omega), if_neg hl]
    refine (impl_faultBad _ _ _ _ _ hl hm (by omega) (by omega)).mono ?_
    rintro e w' ⟨rfl, rfl⟩
    exact ⟨rfl, Below.refl _ _⟩
  rw [pgsV, if_pos (by omega), if_pos hl]
  rw [hl] at hg ⊢
  have HZ : Hid (Prs 61 w b (.slice a 8 cap) rs) := by show Prs 61 _ _ _ _; rw [← hl]; exact h
  have HN : Hid (rs.length = 8) := hl
  obtain ⟨g, rfl⟩ := hg (by omega)
  clear h hl l1 l2 hg hm
  go_enter Tryz.func48, Tryz.ntmps48
  go_wp2_with fail
  go_loopw [6, 7, 19] (fun _ _ c wr => ∃ j : Nat, j ≤ 8 ∧ c = .int .i64 j ∧ okTo top rs j ∧ Below w.heap.size w wr) (fun _ _ c _ => 8 - (intOf c).toNat)
  case atStart => exact ⟨0, Nat.zero_le _, rfl, fun i hi => by omega, Below.refl _ _⟩
  case round =>
    obtain ⟨j, hj, rfl, hA, hB⟩ := hrel
    have HB : Hid (Below _ _ _) := hB
    have HA : Hid (okTo top rs j) := hA
    by_cases hlt : j < 8
    · have c1 := cell_keep hB (HZ.out.cell HN.out.symm j hlt).1
      have c2 := cell_keep hB (HZ.out.cell HN.out.symm j hlt).2
      have hI : (j : Int) < 8 := by omega
      have HL : Hid (j < 8) := hlt
      have hF := fun w => impl_pageFault (rs.getD j (0, 0)).1 (rs.getD j (0, 0)).2 top w
      have HS : Hid (pgC top (rs.getD j (0, 0)).1 (rs.getD j (0, 0)).2 = 0 → okTo top rs (j + 1)) := okTo_succ hA
      have HT : Hid (pgC top (rs.getD j (0, 0)).1 (rs.getD j (0, 0)).2 ≠ 0 → firstC top rs = pgC top (rs.getD j (0, 0)).1 (rs.getD j (0, 0)).2) := firstC_at (by have := HN.out; omega) hA
      generalize (rs.getD j (0, 0)).1 = p at *
      generalize (rs.getD j (0, 0)).2 = q at *
      generalize pgC top p q = c at *
      clear hB hlt hA
      by_cases hc : c = 0
      · have HS2 : Hid (okTo top rs (j + 1)) := HS.out hc
        subst hc
        clear HS HT
        go_wp2_with fail
        refine (hF _).mono ?_
        rintro e w5 ⟨rfl, b5⟩
        have B5 : Hid (Below w.heap.size w w5) := by first | exact on (al HB.out _) b5 | exact on HB.out b5
        clear b5 hF
        go_wp2_with fail
        go_roundw
        case rel => exact ⟨j + 1, by have := HL.out; omega, by go_num, HS2.out, B5.out⟩
        case measure => have := HL.out; simp [intOf]; omega
      · have hc2 : (c != 0) = true := by simpa using hc
        have HT2 : Hid (firstC top rs = c) := HT.out hc
        clear hc HT HS
        go_wp2_with fail
        refine (hF _).mono ?_
        rintro e w5 ⟨rfl, b5⟩
        have B5 : Hid (Below w.heap.size w w5) := by first | exact on (al HB.out _) b5 | exact on HB.out b5
        clear b5 hF
        go_wp2_with fail
        go_ret
        exact ⟨by rw [HT2.out]; rfl, B5.out⟩
    · have hI : ¬ (j : Int) < 8 := by omega
      obtain rfl : j = 8 := by omega
      have HE : Hid (firstC top rs = 0) := firstC_ok (by rw [HN.out]; exact hA)
      clear hB hA
      go_wp2_with fail
      go_ret
      exact ⟨by rw [HE.out]; rfl, HB.out⟩
end Go.Proofs.YtimcoobhakfnaaaGreatDoor
namespace Go.Proofs.YtimcoobhakfnaaaGreatDoor
open Go.RowKit
set_option linter.unusedVariables false

theorem Pags.heap {w : World} {base g p : Nat} {zs : List Int} (h : Pags w base (.slice (some ⟨g, 0, none⟩) p p) p zs) : w.heap[g]? = some (.cells (zs.map (Value.int .i64)).toArray 144 (0, 0)) := by
  obtain ⟨h1, ⟨h2, h3⟩ | ⟨g', cap, cur, hv, hb, hh, h4, h5, h6, h7⟩⟩ := h
  · simp at h2
  · simp at hv
    obtain ⟨rfl, rfl⟩ := hv
    rw [List.take_of_length_le (by simp [h6])] at h7
    rw [hh, ← h7]
theorem Pags.of_heap {w : World} {base g p : Nat} {zs : List Int} (hh : w.heap[g]? = some (.cells (zs.map (Value.int .i64)).toArray 144 (0, 0))) (hl : zs.length = p * 8) (hb : base ≤ g) (hp : p ≤ maxLen) : Pags w base (.slice (some ⟨g, 0, none⟩) p p) p zs :=
  ⟨by simpa using hl, .inr ⟨g, p, _, rfl, hb, hh, Nat.le_refl _, hp, by simpa using hl, by rw [List.take_of_length_le (by simp [hl])]⟩⟩

/-- The pages behind j rounds. -/
def cutL (zs : List Int) (p j : Nat) : List Int := zs.take (j * 8) ++ List.replicate ((p - j) * 8) 0
theorem cutL_length (zs : List Int) (p j : Nat) (hz : zs.length = p * 8) (hj : j ≤ p) : (cutL zs p j).length = p * 8 := by
  simp [cutL, hz]
  omega
def eight (zs : List Int) (j : Nat) : List Int := (zs.drop (j * 8)).take 8
theorem eight_length (zs : List Int) (p j : Nat) (hz : zs.length = p * 8) (hj : j < p) : (eight zs j).length = 8 := by
  simp [eight, hz]
  omega
theorem splice_cut (zs : List Int) (p j : Nat) (hz : zs.length = p * 8) (hj : j < p) :
    splice ((cutL zs p j).map (Value.int .i64)) (j * 8) ((eight zs j).map (Value.int .i64)) = (cutL zs p (j + 1)).map (Value.int .i64) := by
  have h8 := eight_length zs p j hz hj
  unfold splice
  rw [List.length_map, h8, ← List.map_take, ← List.map_drop, ← List.map_append, ← List.map_append]
  congr 1
  have e1 : (cutL zs p j).take (j * 8) = zs.take (j * 8) := by
    unfold cutL
    rw [List.take_append_of_le_length (by simp [hz]; omega), List.take_take, Nat.min_self]
  have e2 : (cutL zs p j).drop (j * 8 + 8) = List.replicate ((p - (j + 1)) * 8) 0 := by
    unfold cutL
    rw [List.drop_append, List.drop_of_length_le (by simp; omega), List.nil_append, List.drop_replicate]
    congr 1
    simp [hz]
    omega
  rw [e1, e2, ← List.append_assoc]
  unfold cutL eight
  rw [show (j + 1) * 8 = j * 8 + 8 by omega, List.take_add]
theorem eight_cell {w : World} {base g n cap : Nat} {zs : List Int} (h : Nums w base (.slice (some ⟨g, 0, none⟩) n cap) zs) (p j : Nat) (hz : zs.length = p * 8) (hj : j < p) (hn : n = zs.length) :
    ∀ i v, ((eight zs j).map (Value.int .i64))[i]? = some v → w.cell? ((⟨g, j * 8, none⟩ : Addr).add i) = some v := by
  intro i v hv
  have hi : i < 8 := by
    have := (List.getElem?_eq_some_iff.1 hv).1
    rw [List.length_map, eight_length zs p j hz hj] at this
    exact this
  rw [Addr.add_lit, h.cell hn (j * 8 + i) (by omega), ← hv]
  simp only [eight, List.getElem?_map, List.getElem?_take, hi, if_true, List.getElem?_drop, List.getD]
  rw [List.getElem?_eq_getElem (by omega)]
  rfl

set_option maxHeartbeats 2000000 in
theorem impl_cut (gm n cap : Nat) (zs : List Int) (b p : Nat) (w : World) (h : Nums w b (.slice (some ⟨gm, 0, none⟩) n cap) zs) (hz : zs.length = p * 8) (hp : p ≤ 24) (hp0 : 1 ≤ p) :
    Calls Tryz.prog 80 #[.slice (some ⟨gm, 0, none⟩) n cap] w fun e w' => ∃ g, e = .returned (.slice (some ⟨g, 0, none⟩) p p) ∧ Pags w' w.heap.size (.slice (some ⟨g, 0, none⟩) p p) p zs ∧ Below w.heap.size w w' := by
  obtain ⟨i, hi, hz0, hz1, hz2⟩ := info_parts info_wpage
  have HM : Hid (Nums w b _ zs) := h
  have hnn := h.len
  obtain ⟨hl1, hl2⟩ := h.lens
  unfold maxLen at hl2
  have HZ : Hid (zs.length = p * 8) := hz
  have HP : Hid (1 ≤ p ∧ p ≤ 24) := ⟨hp0, hp⟩
  obtain rfl : n = p * 8 := by omega
  have HC : Hid (p * 8 ≤ cap ∧ cap ≤ 9223372036854775807) := ⟨by omega, hl2⟩
  have hpi : (p : Int) ≤ 24 := by omega
  clear h hz hp hp0 hnn hl1 hl2
  go_enter Tryz.func80, Tryz.ntmps80
  go_wp2_with (at_make; refine wpList_make_full _ rfl _ _ 93 rfl w.heap.size 144 i _ 8 Tryz.underlying93 hi hz0 hz1 _ _ _ _ p rfl rfl (by omega) (by omega) (by have := HP.out; rw [hz2]; omega) (by have := HP.out; unfold maxLen; omega) (by simp) ?_; intro w1 hown hgrow; have b1 := (Below.refl _ _).grown hgrow (Nat.le_refl _) (by simp))
  have P1 : Hid (w1.heap[w.heap.size]? = some (.cells ((cutL zs p 0).map (Value.int .i64)).toArray 144 (0, 0))) := by
    refine Pags.heap (base := w.heap.size) (p := p) ?_
    unfold Pags
    rw [show (Value.agg (Array.replicate 8 (.int .i64 0))).cells = Array.replicate 8 (.int .i64 0) from rfl, made_replicate _ _ _ (by decide)] at hown
    simpa [cutL] using hown
  have B1 : Hid (Below w.heap.size w w1) := b1
  clear hown hgrow hi hz0 hz1 hz2 b1
  go_wp2_with fail
  go_loopw [4, 11] (fun _ c wr => ∃ j : Nat, j ≤ p ∧ c = .int .i64 j ∧ Hid (wr.heap[w.heap.size]? = some (.cells ((cutL zs p j).map (Value.int .i64)).toArray 144 (0, 0))) ∧ Below w.heap.size w wr) (fun _ c _ => p - (intOf c).toNat)
  case atStart => exact ⟨0, Nat.zero_le _, rfl, P1, B1.out⟩
  case round =>
    obtain ⟨j, hj, rfl, hH, hB⟩ := hrel
    have HB : Hid (Below _ _ _) := hB
    clear hB P1
    by_cases hlt : j < p
    · have hJ : (j : Int) < (p : Int) := by omega
      have HLT : Hid (j < p) := hlt
      have HS : Hid (∀ i v, ((eight zs j).map (Value.int .i64))[i]? = some v → wr.cell? ((⟨gm, j * 8, none⟩ : Addr).add i) = some v) := by
        intro i v hv
        exact cell_keep HB.out (eight_cell HM.out p j HZ.out hlt HZ.out.symm i v hv)
      obtain ⟨X, hX⟩ : ∃ X, X = (eight zs j).map (Value.int .i64) := ⟨_, rfl⟩
      obtain ⟨Y, hY⟩ : ∃ Y, Y = (cutL zs p j).map (Value.int .i64) := ⟨_, rfl⟩
      rw [← hX] at HS
      rw [← hY] at hH
      have XL : Hid (X.length = 8) := by show _ = _; rw [hX, List.length_map]; exact eight_length zs p j HZ.out hlt
      have YL : Hid (Y.length = p * 8) := by show _ = _; rw [hY, List.length_map]; exact cutL_length zs p j HZ.out hj
      have X1 : Hid (∀ v ∈ X, v.oneCell' = true) := by
        intro v hv
        rw [hX] at hv
        obtain ⟨z, _, rfl⟩ := List.mem_map.1 hv
        rfl
      have SP : Hid (splice Y (j * 8) X = (cutL zs p (j + 1)).map (Value.int .i64)) := by show _ = _; rw [hX, hY]; exact splice_cut zs p j HZ.out hlt
      obtain ⟨k, hk⟩ : ∃ k : Nat, j * 8 = k := ⟨_, rfl⟩
      have HK : Hid (j * 8 = k) := hk
      have hw : IntKind.i64.wrap ((j : Int) * 8) = (k : Int) := by
        rw [show (j : Int) * 8 = (k : Int) by omega]
        rw [IntKind.wrap_i64]; omega
      have hk1 : (k : Int) ≤ (p : Int) * 8 := by omega
      have hk2 : ¬ cap = k := by have := HC.out; omega
      have hk3 : Hid (k + 8 ≤ p * 8) := by show _ ≤ _; omega
      clear hX hY hlt hk
      go_wp2_with fail
      go_region_law (refine step_copy_splice rfl (.tmp 17) (.tmp 21) 22 22 rfl 2 Tryz.underlying22 (by kernel_rfl) (some ⟨w.heap.size, j * 8, none⟩) (some ⟨gm, k, none⟩) 8 8 (p * 8 - k) (cap - k) (by simp [Act.eval, Act.put]) (by simp [Act.eval, Act.put]) w.heap.size (j * 8) Y 144 hH.out X (by rw [XL.out]; have := hk3.out; exact (Nat.min_eq_right (by omega)).symm) (fun _ => ⟨rfl, _, rfl, by rw [← HK.out]; exact HS.out⟩) (by rw [XL.out, YL.out]; have := hk3.out; have := HK.out; omega) X1.out w.heap.size w (by first | exact HB.out | exact HB.out.drew | exact HB.out.drew.drew) (Nat.le_refl _) ?_; intro w4 hg4 hb4)
      have H4 : Hid (w4.heap[w.heap.size]? = some (.cells ((cutL zs p (j + 1)).map (Value.int .i64)).toArray 144 (0, 0))) := by
        show _ = _
        rw [← SP.out]
        exact hg4.out
      have B4 : Hid (Below w.heap.size w w4) := hb4
      clear hg4 hb4 SP X1 XL YL HS hH
      go_wp2_with fail
      go_roundw
      case rel => exact ⟨j + 1, by have := HLT.out; omega, by go_num, H4, B4.out⟩
      case measure => have := HLT.out; simp [intOf]; omega
    · have hJ : ¬ (j : Int) < (p : Int) := by omega
      obtain rfl : j = p := by omega
      go_wp2_with fail
      go_ret
      refine ⟨_, rfl, ?_, HB.out⟩
      have h1 := hH.out
      have e : cutL zs j j = zs := by simp [cutL, List.take_of_length_le (Nat.le_of_eq HZ.out)]
      rw [e] at h1
      exact Pags.of_heap h1 HZ.out (Nat.le_refl _) (by have := HP.out; unfold maxLen; omega)
end Go.Proofs.YtimcoobhakfnaaaGreatDoor
namespace Go.Proofs.YtimcoobhakfnaaaGreatDoor
open Go.RowKit
set_option linter.unusedVariables false

theorem one_all (z : Int) : [z].all isW = isW z := by simp
theorem one_rn (w : World) (z : Int) {t : TypeId} {q : Nat} (hq : q = w.heap.size) : Rn (w.alloc (.cells #[.int .i64 z] t)) (some ⟨q, 0, none⟩) 1 1 [z] := by
  subst hq
  refine .inr ⟨_, rfl, by decide, by decide, rfl, fun i hi => ?_⟩
  obtain rfl : i = 0 := by omega
  rw [show (⟨w.heap.size, 0, none⟩ : Addr).add 0 = ⟨w.heap.size, 0, none⟩ by rw [Addr.add_lit]]
  exact cell_new rfl

set_option maxRecDepth 20000 in
set_option maxHeartbeats 8000000 in
theorem i_fault (r c i o : Value) (H : Ht) (b : Nat) (w : World) (h : Hm w b r c i o H) :
    Calls Tryz.prog 47 #[.agg #[r, .int .i64 H.pc, c, .bool H.halted, .bool H.waiting, .bool H.rung, .int .i64 H.done, i, o]] w fun e w' => e = .returned (.int .i64 (hfV H)) ∧ Below w.heap.size w w' := by
  have HM : Hid (Hm w b r c i o H) := h
  obtain ⟨a0, k0, h0, _, _, g0⟩ := h.r.shape
  obtain ⟨a1, k1, h1, _, _, g1⟩ := h.c.shape
  obtain ⟨a2, k2, h2, _, l2, _⟩ := h.i.shape
  obtain ⟨a3, k3, h3, _, l3, _⟩ := h.o.shape
  have R0 := h.r.rv
  obtain ⟨n0, e0⟩ : ∃ n, H.regs.length = n := ⟨_, rfl⟩
  obtain ⟨n1, e1⟩ : ∃ n, H.csr.length = n := ⟨_, rfl⟩
  obtain ⟨n2, e2⟩ : ∃ n, H.inn.length = n := ⟨_, rfl⟩
  obtain ⟨n3, e3⟩ : ∃ n, H.out.length = n := ⟨_, rfl⟩
  rw [e0] at h0 g0
  rw [e1] at h1 g1
  rw [e2] at h2
  rw [e3] at h3
  have EL : Hid (H.regs.length = n0 ∧ H.csr.length = n1 ∧ H.inn.length = n2 ∧ H.out.length = n3) := ⟨e0, e1, e2, e3⟩
  subst h0 h1 h2 h3
  have hl2 : (n2 : Int) ≤ 9223372036854775807 := by have := h.i.lens; unfold maxLen at this; omega
  have hl3 : (n3 : Int) ≤ 9223372036854775807 := by have := h.o.lens; unfold maxLen at this; omega
  have hl0 : (n0 : Int) ≤ 9223372036854775807 := by have := h.r.lens; unfold maxLen at this; omega
  have hl1 : (n1 : Int) ≤ 9223372036854775807 := by have := h.c.lens; unfold maxLen at this; omega
  clear h e0 e1 e2 e3 l2 l3 R0
  have B1 : Hid (Below w.heap.size w (w.alloc (.cells #[.slice a0 n0 k0, .int .i64 H.pc, .slice a1 n1 k1, .bool H.halted, .bool H.waiting, .bool H.rung, .int .i64 H.done, .slice a2 n2 k2, .slice a3 n3 k3] 29))) := al (Below.refl _ _) _
  by_cases hn0 : n0 = 16
  case neg =>
    have HN : Hid (¬ (H.regs.length = 16 ∧ H.csr.length = 11 ∧ H.regs.getD 0 0 = 0)) := fun k => hn0 (EL.out.1.symm.trans k.1)
    have hI : ¬ (n0 : Int) = 16 := by omega
    go_enter Tryz.func47, Tryz.ntmps47
    go_wp2_with fail
    go_ret
    exact ⟨ret_i (hf_form HN.out).symm, by first | exact B1.out | exact al B1.out _⟩
  subst hn0
  obtain ⟨y0, rfl⟩ := g0 (by decide)
  clear g0
  by_cases hn1 : n1 = 11
  case neg =>
    have HN : Hid (¬ (H.regs.length = 16 ∧ H.csr.length = 11 ∧ H.regs.getD 0 0 = 0)) := fun k => hn1 (EL.out.2.1.symm.trans k.2.1)
    have hI : ¬ (n1 : Int) = 11 := by omega
    go_enter Tryz.func47, Tryz.ntmps47
    go_wp2_with fail
    go_ret
    exact ⟨ret_i (hf_form HN.out).symm, by first | exact B1.out | exact al B1.out _⟩
  subst hn1
  obtain ⟨y1, rfl⟩ := g1 (by decide)
  clear g1
  obtain ⟨z0, hz0⟩ : ∃ z, H.regs.getD 0 0 = z := ⟨_, rfl⟩
  have cz : (w.alloc (.cells #[.slice (some ⟨y0, 0, none⟩) 16 k0, .int .i64 H.pc, .slice (some ⟨y1, 0, none⟩) 11 k1, .bool H.halted, .bool H.waiting, .bool H.rung, .int .i64 H.done, .slice a2 n2 k2, .slice a3 n3 k3] 29)).cell? ⟨y0, 0, none⟩ = some (.int .i64 z0) := by rw [← hz0]; exact cell_push _ (HM.out.r.cell EL.out.1.symm 0 (by decide))
  have Y0 : Hid (y0 < w.heap.size) := block_of_cell (HM.out.r.cell EL.out.1.symm 0 (by decide))
  have Y1 : Hid (y1 < w.heap.size) := block_of_cell (HM.out.c.cell EL.out.2.1.symm 0 (by decide))
  have y0lt : y0 < w.heap.size := Y0.out
  have y1lt : y1 < w.heap.size := Y1.out
  have HZ0 : Hid (H.regs.getD 0 0 = z0) := hz0
  clear hz0
  by_cases hr0 : z0 = 0
  case neg =>
    have HN : Hid (¬ (H.regs.length = 16 ∧ H.csr.length = 11 ∧ H.regs.getD 0 0 = 0)) := fun k => hr0 (HZ0.out.symm.trans k.2.2)
    go_enter Tryz.func47, Tryz.ntmps47
    go_wp2_with fail
    go_ret
    exact ⟨ret_i (hf_form HN.out).symm, by first | exact B1.out | exact al B1.out _⟩
  have FM : Hid (H.regs.length = 16 ∧ H.csr.length = 11 ∧ H.regs.getD 0 0 = 0) := ⟨EL.out.1, EL.out.2.1, HZ0.out.trans hr0⟩
  subst hr0
  cases hb0 : H.regs.all isW
  case false =>
    have HN : Hid (H.words = false) := by show _ = _; simp [Ht.words, hb0]
    go_enter Tryz.func47, Tryz.ntmps47
    go_wp2_with (first
          | (go_at_call_of 74 (Value.slice (some ⟨y0, 0, none⟩) 16 k0); refine (i_words (some ⟨y0, 0, none⟩) 16 k0 H.regs _ (HM.out.r.rn.stay (by first | exact B1.out | exact al B1.out _))).mono ?_; rintro e x ⟨rfl, rfl⟩; rw [hb0])
          | (go_at_call_of 74 (Value.slice (some ⟨y1, 0, none⟩) 11 k1); refine (i_words (some ⟨y1, 0, none⟩) 11 k1 H.csr _ (HM.out.c.rn.stay (by first | exact B1.out | exact al B1.out _))).mono ?_; rintro e x ⟨rfl, rfl⟩; rw [hb1])
          | (go_at_call_of 74 (Value.slice a2 n2 k2); refine (i_words a2 n2 k2 H.inn _ (HM.out.i.rn.stay (by first | exact B1.out | exact al B1.out _))).mono ?_; rintro e x ⟨rfl, rfl⟩; rw [hb2])
          | (go_at_call_of 74 (Value.slice a3 n3 k3); refine (i_words a3 n3 k3 H.out _ (HM.out.o.rn.stay (by first | exact B1.out | exact al B1.out _))).mono ?_; rintro e x ⟨rfl, rfl⟩; rw [hb3])
          | (go_at_call 74; refine (i_words _ 1 1 [H.pc] _ (one_rn _ _ (by simp))).mono ?_; rintro e x ⟨rfl, rfl⟩; rw [one_all, hbp])
          | (go_at_call 75; refine (i_allStand _ k1 H.csr _ (HM.out.c.rn.stay (al B1.out _)) CW.out).mono ?_; rintro e x ⟨rfl, rfl⟩; rw [hst]))
    go_ret
    exact ⟨ret_i (hf_words FM.out HN.out).symm, by first | exact B1.out | exact al B1.out _⟩
  cases hbp : isW H.pc
  case false =>
    have HN : Hid (H.words = false) := by show _ = _; simp [Ht.words, hbp]
    go_enter Tryz.func47, Tryz.ntmps47
    go_wp2_with (first
          | (go_at_call_of 74 (Value.slice (some ⟨y0, 0, none⟩) 16 k0); refine (i_words (some ⟨y0, 0, none⟩) 16 k0 H.regs _ (HM.out.r.rn.stay (by first | exact B1.out | exact al B1.out _))).mono ?_; rintro e x ⟨rfl, rfl⟩; rw [hb0])
          | (go_at_call_of 74 (Value.slice (some ⟨y1, 0, none⟩) 11 k1); refine (i_words (some ⟨y1, 0, none⟩) 11 k1 H.csr _ (HM.out.c.rn.stay (by first | exact B1.out | exact al B1.out _))).mono ?_; rintro e x ⟨rfl, rfl⟩; rw [hb1])
          | (go_at_call_of 74 (Value.slice a2 n2 k2); refine (i_words a2 n2 k2 H.inn _ (HM.out.i.rn.stay (by first | exact B1.out | exact al B1.out _))).mono ?_; rintro e x ⟨rfl, rfl⟩; rw [hb2])
          | (go_at_call_of 74 (Value.slice a3 n3 k3); refine (i_words a3 n3 k3 H.out _ (HM.out.o.rn.stay (by first | exact B1.out | exact al B1.out _))).mono ?_; rintro e x ⟨rfl, rfl⟩; rw [hb3])
          | (go_at_call 74; refine (i_words _ 1 1 [H.pc] _ (one_rn _ _ (by simp))).mono ?_; rintro e x ⟨rfl, rfl⟩; rw [one_all, hbp])
          | (go_at_call 75; refine (i_allStand _ k1 H.csr _ (HM.out.c.rn.stay (al B1.out _)) CW.out).mono ?_; rintro e x ⟨rfl, rfl⟩; rw [hst]))
    go_ret
    exact ⟨ret_i (hf_words FM.out HN.out).symm, by first | exact B1.out | exact al B1.out _⟩
  cases hb1 : H.csr.all isW
  case false =>
    have HN : Hid (H.words = false) := by show _ = _; simp [Ht.words, hb1]
    go_enter Tryz.func47, Tryz.ntmps47
    go_wp2_with (first
          | (go_at_call_of 74 (Value.slice (some ⟨y0, 0, none⟩) 16 k0); refine (i_words (some ⟨y0, 0, none⟩) 16 k0 H.regs _ (HM.out.r.rn.stay (by first | exact B1.out | exact al B1.out _))).mono ?_; rintro e x ⟨rfl, rfl⟩; rw [hb0])
          | (go_at_call_of 74 (Value.slice (some ⟨y1, 0, none⟩) 11 k1); refine (i_words (some ⟨y1, 0, none⟩) 11 k1 H.csr _ (HM.out.c.rn.stay (by first | exact B1.out | exact al B1.out _))).mono ?_; rintro e x ⟨rfl, rfl⟩; rw [hb1])
          | (go_at_call_of 74 (Value.slice a2 n2 k2); refine (i_words a2 n2 k2 H.inn _ (HM.out.i.rn.stay (by first | exact B1.out | exact al B1.out _))).mono ?_; rintro e x ⟨rfl, rfl⟩; rw [hb2])
          | (go_at_call_of 74 (Value.slice a3 n3 k3); refine (i_words a3 n3 k3 H.out _ (HM.out.o.rn.stay (by first | exact B1.out | exact al B1.out _))).mono ?_; rintro e x ⟨rfl, rfl⟩; rw [hb3])
          | (go_at_call 74; refine (i_words _ 1 1 [H.pc] _ (one_rn _ _ (by simp))).mono ?_; rintro e x ⟨rfl, rfl⟩; rw [one_all, hbp])
          | (go_at_call 75; refine (i_allStand _ k1 H.csr _ (HM.out.c.rn.stay (al B1.out _)) CW.out).mono ?_; rintro e x ⟨rfl, rfl⟩; rw [hst]))
    go_ret
    exact ⟨ret_i (hf_words FM.out HN.out).symm, by first | exact B1.out | exact al B1.out _⟩
  cases hb2 : H.inn.all isW
  case false =>
    have HN : Hid (H.words = false) := by show _ = _; simp [Ht.words, hb2]
    go_enter Tryz.func47, Tryz.ntmps47
    go_wp2_with (first
          | (go_at_call_of 74 (Value.slice (some ⟨y0, 0, none⟩) 16 k0); refine (i_words (some ⟨y0, 0, none⟩) 16 k0 H.regs _ (HM.out.r.rn.stay (by first | exact B1.out | exact al B1.out _))).mono ?_; rintro e x ⟨rfl, rfl⟩; rw [hb0])
          | (go_at_call_of 74 (Value.slice (some ⟨y1, 0, none⟩) 11 k1); refine (i_words (some ⟨y1, 0, none⟩) 11 k1 H.csr _ (HM.out.c.rn.stay (by first | exact B1.out | exact al B1.out _))).mono ?_; rintro e x ⟨rfl, rfl⟩; rw [hb1])
          | (go_at_call_of 74 (Value.slice a2 n2 k2); refine (i_words a2 n2 k2 H.inn _ (HM.out.i.rn.stay (by first | exact B1.out | exact al B1.out _))).mono ?_; rintro e x ⟨rfl, rfl⟩; rw [hb2])
          | (go_at_call_of 74 (Value.slice a3 n3 k3); refine (i_words a3 n3 k3 H.out _ (HM.out.o.rn.stay (by first | exact B1.out | exact al B1.out _))).mono ?_; rintro e x ⟨rfl, rfl⟩; rw [hb3])
          | (go_at_call 74; refine (i_words _ 1 1 [H.pc] _ (one_rn _ _ (by simp))).mono ?_; rintro e x ⟨rfl, rfl⟩; rw [one_all, hbp])
          | (go_at_call 75; refine (i_allStand _ k1 H.csr _ (HM.out.c.rn.stay (al B1.out _)) CW.out).mono ?_; rintro e x ⟨rfl, rfl⟩; rw [hst]))
    go_ret
    exact ⟨ret_i (hf_words FM.out HN.out).symm, by first | exact B1.out | exact al B1.out _⟩
  cases hb3 : H.out.all isW
  case false =>
    have HN : Hid (H.words = false) := by show _ = _; simp [Ht.words, hb3]
    go_enter Tryz.func47, Tryz.ntmps47
    go_wp2_with (first
          | (go_at_call_of 74 (Value.slice (some ⟨y0, 0, none⟩) 16 k0); refine (i_words (some ⟨y0, 0, none⟩) 16 k0 H.regs _ (HM.out.r.rn.stay (by first | exact B1.out | exact al B1.out _))).mono ?_; rintro e x ⟨rfl, rfl⟩; rw [hb0])
          | (go_at_call_of 74 (Value.slice (some ⟨y1, 0, none⟩) 11 k1); refine (i_words (some ⟨y1, 0, none⟩) 11 k1 H.csr _ (HM.out.c.rn.stay (by first | exact B1.out | exact al B1.out _))).mono ?_; rintro e x ⟨rfl, rfl⟩; rw [hb1])
          | (go_at_call_of 74 (Value.slice a2 n2 k2); refine (i_words a2 n2 k2 H.inn _ (HM.out.i.rn.stay (by first | exact B1.out | exact al B1.out _))).mono ?_; rintro e x ⟨rfl, rfl⟩; rw [hb2])
          | (go_at_call_of 74 (Value.slice a3 n3 k3); refine (i_words a3 n3 k3 H.out _ (HM.out.o.rn.stay (by first | exact B1.out | exact al B1.out _))).mono ?_; rintro e x ⟨rfl, rfl⟩; rw [hb3])
          | (go_at_call 74; refine (i_words _ 1 1 [H.pc] _ (one_rn _ _ (by simp))).mono ?_; rintro e x ⟨rfl, rfl⟩; rw [one_all, hbp])
          | (go_at_call 75; refine (i_allStand _ k1 H.csr _ (HM.out.c.rn.stay (al B1.out _)) CW.out).mono ?_; rintro e x ⟨rfl, rfl⟩; rw [hst]))
    go_ret
    exact ⟨ret_i (hf_words FM.out HN.out).symm, by first | exact B1.out | exact al B1.out _⟩
  have WM : Hid (H.words = true) := by show _ = _; simp [Ht.words, hb0, hbp, hb1, hb2, hb3]
  have CW : Hid (H.csr.all isW = true) := hb1
  by_cases hn2 : n2 ≤ 40
  case neg =>
    have HN : Hid (¬ (H.inn.length ≤ 40 ∧ H.out.length ≤ 40)) := fun k => hn2 (by have := EL.out.2.2.1; omega)
    have hI : (40 : Int) < (n2 : Int) := by omega
    go_enter Tryz.func47, Tryz.ntmps47
    go_wp2_with (first
          | (go_at_call_of 74 (Value.slice (some ⟨y0, 0, none⟩) 16 k0); refine (i_words (some ⟨y0, 0, none⟩) 16 k0 H.regs _ (HM.out.r.rn.stay (by first | exact B1.out | exact al B1.out _))).mono ?_; rintro e x ⟨rfl, rfl⟩; rw [hb0])
          | (go_at_call_of 74 (Value.slice (some ⟨y1, 0, none⟩) 11 k1); refine (i_words (some ⟨y1, 0, none⟩) 11 k1 H.csr _ (HM.out.c.rn.stay (by first | exact B1.out | exact al B1.out _))).mono ?_; rintro e x ⟨rfl, rfl⟩; rw [hb1])
          | (go_at_call_of 74 (Value.slice a2 n2 k2); refine (i_words a2 n2 k2 H.inn _ (HM.out.i.rn.stay (by first | exact B1.out | exact al B1.out _))).mono ?_; rintro e x ⟨rfl, rfl⟩; rw [hb2])
          | (go_at_call_of 74 (Value.slice a3 n3 k3); refine (i_words a3 n3 k3 H.out _ (HM.out.o.rn.stay (by first | exact B1.out | exact al B1.out _))).mono ?_; rintro e x ⟨rfl, rfl⟩; rw [hb3])
          | (go_at_call 74; refine (i_words _ 1 1 [H.pc] _ (one_rn _ _ (by simp))).mono ?_; rintro e x ⟨rfl, rfl⟩; rw [one_all, hbp])
          | (go_at_call 75; refine (i_allStand _ k1 H.csr _ (HM.out.c.rn.stay (al B1.out _)) CW.out).mono ?_; rintro e x ⟨rfl, rfl⟩; rw [hst]))
    go_ret
    exact ⟨ret_i (hf_few FM.out WM.out HN.out).symm, by first | exact B1.out | exact al B1.out _⟩
  have hI2 : ¬ (40 : Int) < (n2 : Int) := by omega
  by_cases hn3 : n3 ≤ 40
  case neg =>
    have HN : Hid (¬ (H.inn.length ≤ 40 ∧ H.out.length ≤ 40)) := fun k => hn3 (by have := EL.out.2.2.2; omega)
    have hI : (40 : Int) < (n3 : Int) := by omega
    go_enter Tryz.func47, Tryz.ntmps47
    go_wp2_with (first
          | (go_at_call_of 74 (Value.slice (some ⟨y0, 0, none⟩) 16 k0); refine (i_words (some ⟨y0, 0, none⟩) 16 k0 H.regs _ (HM.out.r.rn.stay (by first | exact B1.out | exact al B1.out _))).mono ?_; rintro e x ⟨rfl, rfl⟩; rw [hb0])
          | (go_at_call_of 74 (Value.slice (some ⟨y1, 0, none⟩) 11 k1); refine (i_words (some ⟨y1, 0, none⟩) 11 k1 H.csr _ (HM.out.c.rn.stay (by first | exact B1.out | exact al B1.out _))).mono ?_; rintro e x ⟨rfl, rfl⟩; rw [hb1])
          | (go_at_call_of 74 (Value.slice a2 n2 k2); refine (i_words a2 n2 k2 H.inn _ (HM.out.i.rn.stay (by first | exact B1.out | exact al B1.out _))).mono ?_; rintro e x ⟨rfl, rfl⟩; rw [hb2])
          | (go_at_call_of 74 (Value.slice a3 n3 k3); refine (i_words a3 n3 k3 H.out _ (HM.out.o.rn.stay (by first | exact B1.out | exact al B1.out _))).mono ?_; rintro e x ⟨rfl, rfl⟩; rw [hb3])
          | (go_at_call 74; refine (i_words _ 1 1 [H.pc] _ (one_rn _ _ (by simp))).mono ?_; rintro e x ⟨rfl, rfl⟩; rw [one_all, hbp])
          | (go_at_call 75; refine (i_allStand _ k1 H.csr _ (HM.out.c.rn.stay (al B1.out _)) CW.out).mono ?_; rintro e x ⟨rfl, rfl⟩; rw [hst]))
    go_ret
    exact ⟨ret_i (hf_few FM.out WM.out HN.out).symm, by first | exact B1.out | exact al B1.out _⟩
  have hI3 : ¬ (40 : Int) < (n3 : Int) := by omega
  have FW : Hid (H.inn.length ≤ 40 ∧ H.out.length ≤ 40) := ⟨by have := EL.out.2.2.1; omega, by have := EL.out.2.2.2; omega⟩
  by_cases hd0 : 0 ≤ H.done
  case neg =>
    have HN : Hid (¬ (0 ≤ H.done ∧ H.done ≤ 1000000000)) := fun k => hd0 k.1
    have hI : H.done < 0 := by omega
    go_enter Tryz.func47, Tryz.ntmps47
    go_wp2_with (first
          | (go_at_call_of 74 (Value.slice (some ⟨y0, 0, none⟩) 16 k0); refine (i_words (some ⟨y0, 0, none⟩) 16 k0 H.regs _ (HM.out.r.rn.stay (by first | exact B1.out | exact al B1.out _))).mono ?_; rintro e x ⟨rfl, rfl⟩; rw [hb0])
          | (go_at_call_of 74 (Value.slice (some ⟨y1, 0, none⟩) 11 k1); refine (i_words (some ⟨y1, 0, none⟩) 11 k1 H.csr _ (HM.out.c.rn.stay (by first | exact B1.out | exact al B1.out _))).mono ?_; rintro e x ⟨rfl, rfl⟩; rw [hb1])
          | (go_at_call_of 74 (Value.slice a2 n2 k2); refine (i_words a2 n2 k2 H.inn _ (HM.out.i.rn.stay (by first | exact B1.out | exact al B1.out _))).mono ?_; rintro e x ⟨rfl, rfl⟩; rw [hb2])
          | (go_at_call_of 74 (Value.slice a3 n3 k3); refine (i_words a3 n3 k3 H.out _ (HM.out.o.rn.stay (by first | exact B1.out | exact al B1.out _))).mono ?_; rintro e x ⟨rfl, rfl⟩; rw [hb3])
          | (go_at_call 74; refine (i_words _ 1 1 [H.pc] _ (one_rn _ _ (by simp))).mono ?_; rintro e x ⟨rfl, rfl⟩; rw [one_all, hbp])
          | (go_at_call 75; refine (i_allStand _ k1 H.csr _ (HM.out.c.rn.stay (al B1.out _)) CW.out).mono ?_; rintro e x ⟨rfl, rfl⟩; rw [hst]))
    go_ret
    exact ⟨ret_i (hf_nice FM.out WM.out FW.out HN.out).symm, by first | exact B1.out | exact al B1.out _⟩
  have hI4 : ¬ H.done < 0 := by omega
  by_cases hd9 : H.done ≤ 1000000000
  case neg =>
    have HN : Hid (¬ (0 ≤ H.done ∧ H.done ≤ 1000000000)) := fun k => hd9 k.2
    have hI : 1000000000 < H.done := by omega
    go_enter Tryz.func47, Tryz.ntmps47
    go_wp2_with (first
          | (go_at_call_of 74 (Value.slice (some ⟨y0, 0, none⟩) 16 k0); refine (i_words (some ⟨y0, 0, none⟩) 16 k0 H.regs _ (HM.out.r.rn.stay (by first | exact B1.out | exact al B1.out _))).mono ?_; rintro e x ⟨rfl, rfl⟩; rw [hb0])
          | (go_at_call_of 74 (Value.slice (some ⟨y1, 0, none⟩) 11 k1); refine (i_words (some ⟨y1, 0, none⟩) 11 k1 H.csr _ (HM.out.c.rn.stay (by first | exact B1.out | exact al B1.out _))).mono ?_; rintro e x ⟨rfl, rfl⟩; rw [hb1])
          | (go_at_call_of 74 (Value.slice a2 n2 k2); refine (i_words a2 n2 k2 H.inn _ (HM.out.i.rn.stay (by first | exact B1.out | exact al B1.out _))).mono ?_; rintro e x ⟨rfl, rfl⟩; rw [hb2])
          | (go_at_call_of 74 (Value.slice a3 n3 k3); refine (i_words a3 n3 k3 H.out _ (HM.out.o.rn.stay (by first | exact B1.out | exact al B1.out _))).mono ?_; rintro e x ⟨rfl, rfl⟩; rw [hb3])
          | (go_at_call 74; refine (i_words _ 1 1 [H.pc] _ (one_rn _ _ (by simp))).mono ?_; rintro e x ⟨rfl, rfl⟩; rw [one_all, hbp])
          | (go_at_call 75; refine (i_allStand _ k1 H.csr _ (HM.out.c.rn.stay (al B1.out _)) CW.out).mono ?_; rintro e x ⟨rfl, rfl⟩; rw [hst]))
    go_ret
    exact ⟨ret_i (hf_nice FM.out WM.out FW.out HN.out).symm, by first | exact B1.out | exact al B1.out _⟩
  have hI5 : ¬ 1000000000 < H.done := by omega
  have ND : Hid (0 ≤ H.done ∧ H.done ≤ 1000000000) := ⟨hd0, hd9⟩
  cases hst : standC H.csr
  case false =>
    have HN : Hid (standC H.csr = false) := hst
    go_enter Tryz.func47, Tryz.ntmps47
    go_wp2_with (first
          | (go_at_call_of 74 (Value.slice (some ⟨y0, 0, none⟩) 16 k0); refine (i_words (some ⟨y0, 0, none⟩) 16 k0 H.regs _ (HM.out.r.rn.stay (by first | exact B1.out | exact al B1.out _))).mono ?_; rintro e x ⟨rfl, rfl⟩; rw [hb0])
          | (go_at_call_of 74 (Value.slice (some ⟨y1, 0, none⟩) 11 k1); refine (i_words (some ⟨y1, 0, none⟩) 11 k1 H.csr _ (HM.out.c.rn.stay (by first | exact B1.out | exact al B1.out _))).mono ?_; rintro e x ⟨rfl, rfl⟩; rw [hb1])
          | (go_at_call_of 74 (Value.slice a2 n2 k2); refine (i_words a2 n2 k2 H.inn _ (HM.out.i.rn.stay (by first | exact B1.out | exact al B1.out _))).mono ?_; rintro e x ⟨rfl, rfl⟩; rw [hb2])
          | (go_at_call_of 74 (Value.slice a3 n3 k3); refine (i_words a3 n3 k3 H.out _ (HM.out.o.rn.stay (by first | exact B1.out | exact al B1.out _))).mono ?_; rintro e x ⟨rfl, rfl⟩; rw [hb3])
          | (go_at_call 74; refine (i_words _ 1 1 [H.pc] _ (one_rn _ _ (by simp))).mono ?_; rintro e x ⟨rfl, rfl⟩; rw [one_all, hbp])
          | (go_at_call 75; refine (i_allStand _ k1 H.csr _ (HM.out.c.rn.stay (al B1.out _)) CW.out).mono ?_; rintro e x ⟨rfl, rfl⟩; rw [hst]))
    go_ret
    exact ⟨ret_i ((hf_stand FM.out WM.out FW.out ND.out).trans (by rw [HN.out]; rfl)).symm, by first | exact B1.out | exact al B1.out _⟩
  have HN : Hid (standC H.csr = true) := hst
  go_enter Tryz.func47, Tryz.ntmps47
  go_wp2_with (first
        | (go_at_call_of 74 (Value.slice (some ⟨y0, 0, none⟩) 16 k0); refine (i_words (some ⟨y0, 0, none⟩) 16 k0 H.regs _ (HM.out.r.rn.stay (by first | exact B1.out | exact al B1.out _))).mono ?_; rintro e x ⟨rfl, rfl⟩; rw [hb0])
        | (go_at_call_of 74 (Value.slice (some ⟨y1, 0, none⟩) 11 k1); refine (i_words (some ⟨y1, 0, none⟩) 11 k1 H.csr _ (HM.out.c.rn.stay (by first | exact B1.out | exact al B1.out _))).mono ?_; rintro e x ⟨rfl, rfl⟩; rw [hb1])
        | (go_at_call_of 74 (Value.slice a2 n2 k2); refine (i_words a2 n2 k2 H.inn _ (HM.out.i.rn.stay (by first | exact B1.out | exact al B1.out _))).mono ?_; rintro e x ⟨rfl, rfl⟩; rw [hb2])
        | (go_at_call_of 74 (Value.slice a3 n3 k3); refine (i_words a3 n3 k3 H.out _ (HM.out.o.rn.stay (by first | exact B1.out | exact al B1.out _))).mono ?_; rintro e x ⟨rfl, rfl⟩; rw [hb3])
        | (go_at_call 74; refine (i_words _ 1 1 [H.pc] _ (one_rn _ _ (by simp))).mono ?_; rintro e x ⟨rfl, rfl⟩; rw [one_all, hbp])
        | (go_at_call 75; refine (i_allStand _ k1 H.csr _ (HM.out.c.rn.stay (al B1.out _)) CW.out).mono ?_; rintro e x ⟨rfl, rfl⟩; rw [hst]))
  go_ret
  exact ⟨ret_i ((hf_stand FM.out WM.out FW.out ND.out).trans (by rw [HN.out]; rfl)).symm, by first | exact B1.out | exact al B1.out _⟩
end Go.Proofs.YtimcoobhakfnaaaGreatDoor
namespace Go.Proofs.YtimcoobhakfnaaaGreatDoor
open Go.RowKit
set_option linter.unusedVariables false

theorem Mq.pre {S : Nat → Prop} {w w' : World} {o : Obj} (h : Mq S (w.alloc o) w') : Mq S w w' :=
  ⟨h.os, h.tape, h.output, by have := h.size; simp at this; omega, fun k hk hn => by rw [h.block k (by simp; omega) hn, Below.heap_alloc _ _ _ hk]⟩

end Go.Proofs.YtimcoobhakfnaaaGreatDoor
