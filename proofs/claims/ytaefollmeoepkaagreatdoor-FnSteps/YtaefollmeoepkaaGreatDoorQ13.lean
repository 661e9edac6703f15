/- Texts of this seat, joined. -/
import Derived.Deep.RegionWith
import Derived.Deep.Slices
import Derived.Laws.AppendOwn
import Derived.Test.YtaefollmeoepkaaGreatDoorQ01
import Derived.Test.YtaefollmeoepkaaGreatDoorQ05
import Derived.Test.YtaefollmeoepkaaGreatDoorQ12
namespace Go.Proofs.YtaefollmeoepkaaGreatDoor
set_option maxRecDepth 20000
set_option maxHeartbeats 16000000
open Go.RowKit
def insC (op d a imm : Int) : Int :=
 if 1 ≤ op ∧ op ≤ 26 ∧ 0 ≤ d ∧ d ≤ 15 ∧ 0 ≤ a ∧ a ≤ 15 ∧ 0 ≤ imm ∧ imm ≤ 65535 then
  if (op ≠ 13 ∧ op ≠ 19 ∧ op ≠ 21 ∨ a = 0) ∧ (op ≠ 22 ∨ d = 0) ∧ (op < 23 ∨ d = 0 ∧ a = 0 ∧ imm = 0) ∧ (11 < op ∨ imm ≤ 15) ∧ (op ≠ 21 ∧ op ≠ 22 ∨ imm ≤ 10) then 0 else 1
 else 3
theorem insC_3 {op d a imm : Int} (h : ¬ (1 ≤ op ∧ op ≤ 26 ∧ 0 ≤ d ∧ d ≤ 15 ∧ 0 ≤ a ∧ a ≤ 15 ∧ 0 ≤ imm ∧ imm ≤ 65535)) : insC op d a imm = 3 := if_neg h
theorem insC_zero {op d a imm : Int} (h : 1 ≤ op ∧ op ≤ 26 ∧ 0 ≤ d ∧ d ≤ 15 ∧ 0 ≤ a ∧ a ≤ 15 ∧ 0 ≤ imm ∧ imm ≤ 65535) :
  insC op d a imm = 0 ↔ (op ≠ 13 ∧ op ≠ 19 ∧ op ≠ 21 ∨ a = 0) ∧ (op ≠ 22 ∨ d = 0) ∧ (op < 23 ∨ d = 0 ∧ a = 0 ∧ imm = 0) ∧ (11 < op ∨ imm ≤ 15) ∧ (op ≠ 21 ∧ op ≠ 22 ∨ imm ≤ 10) := by
 rw [insC, if_pos h]
 split
 ·rename_i g; exact ⟨fun _ => g, fun _ => rfl⟩
 ·rename_i g; exact ⟨fun e => by omega, fun e => absurd e g⟩
theorem op_class {op : Int} (h : 1 ≤ op ∧ op ≤ 26) : op = 13 ∨ op = 19 ∨ op = 21 ∨ op = 22 ∨ op = 23 ∨ op = 24 ∨ op = 25 ∨ op = 26 ∨
  ((op == 13) = false ∧ (op == 19) = false ∧ (op == 21) = false ∧ (op == 22) = false ∧ (op == 23) = false ∧ (op == 24) = false ∧ (op == 25) = false ∧ (op == 26) = false ∧ Hid (op ≠ 13 ∧ op ≠ 19 ∧ op ≠ 21 ∧ op < 22 ∧ 1 ≤ op)) := by
 simp only [beq_eq_false_iff_ne, Hid]
 omega
theorem impl_hasForm (op d a imm : Int) (w : World) (h : 1 ≤ op ∧ op ≤ 26 ∧ 0 ≤ d ∧ d ≤ 15 ∧ 0 ≤ a ∧ a ≤ 15 ∧ 0 ≤ imm ∧ imm ≤ 65535) :
  Calls Tryz.prog 159 #[.agg #[.int .i64 op, .int .i64 d, .int .i64 a, .int .i64 imm]] w fun e w' => e = .returned (.bool (insC op d a imm == 0)) ∧ Below w.heap.size w w' := by
 have hi : Hid (_ ↔ _) := insC_zero h
 have hh : Hid _ := h
 obtain hcl := op_class (op := op) ⟨h.1, h.2.1⟩
 clear h
 generalize hc : insC op d a imm = c at hi
 clear hc
 rcases hcl with rfl | rfl | rfl | rfl | rfl | rfl | rfl | rfl | ⟨g1, g2, g3, g4, g5, g6, g7, g8, g9⟩
 all_goals
  go_enter Tryz.func159, Tryz.ntmps159
  go_wp2
 all_goals go_ret
 all_goals refine ⟨congrArg (fun b => Ending.returned (Value.bool b)) ?_, ((Below.refl _ _).alloc (Nat.le_refl _) _)⟩
 all_goals have hi := hi.out
 all_goals have hh := hh.out
 all_goals rw [Bool.eq_iff_iff]
 all_goals simp only [beq_iff_eq, Bool.false_eq_true, decide_eq_true_eq, hi]
 all_goals first | omega | (simp; done) | (simp; omega) | (have g9 := g9.out; omega) | (have g9 := g9.out; simp; omega) | skip
theorem impl_insFault (op d a imm : Int) (w : World) :
  Calls Tryz.prog 125 #[.agg #[.int .i64 op, .int .i64 d, .int .i64 a, .int .i64 imm]] w fun e w' => e = .returned (.int .i64 (insC op d a imm)) ∧ Below w.heap.size w w' := by
 by_cases h : 1 ≤ op ∧ op ≤ 26 ∧ 0 ≤ d ∧ d ≤ 15 ∧ 0 ≤ a ∧ a ≤ 15 ∧ 0 ≤ imm ∧ imm ≤ 65535
 ·have h3 : insC op d a imm = 0 ∨ insC op d a imm = 1 := by rw [insC, if_pos h]; split <;> simp
  have hf := fun w => impl_hasForm op d a imm w h
  obtain ⟨h1, h2, h3, h4, h5, h6, h7, h8⟩ := h
  generalize insC op d a imm = c at *
  rcases h3 with rfl | rfl
  all_goals
   go_enter Tryz.func125, Tryz.ntmps125
   go_wp2_with (first | (go_at_call 159; refine (hf _).mono ?_; rintro e w1 ⟨rfl, hb⟩) | go_in)
  all_goals go_ret
  all_goals exact ⟨rfl, ((Below.refl _ _).alloc (Nat.le_refl _) _).trans (hb.mono (by simp))⟩
 ·rw [insC_3 h]
  go_enter Tryz.func125, Tryz.ntmps125
  go_wp2_with (first | (go_at_call 159; exfalso; omega) | go_in)
  all_goals go_ret
  all_goals exact ⟨rfl, ((Below.refl _ _).alloc (Nat.le_refl _) _)⟩
set_option linter.unusedVariables false
theorem info_page : (Tryz.prog.info? 36).map (fun i => (i.zero, i.size, i.bytes)) = some (some (.agg #[.int .i64 0, .int .i64 0]), 2, 16) := by kernel_rfl
def Pags (w : World) (base : Nat) (v : Value) (n : Nat) (zs : List Int) : Prop := w.ownsRow base 133 8 v n (zs.map (Value.int .i64))
theorem Pags.cell {w : World} {base g n cap : Nat} {zs : List Int} (h : Pags w base (.slice (some ⟨g, 0, none⟩) n cap) n zs) (i : Nat) (hi : i < n * 8) : w.cell? ⟨g, i, none⟩ = some (.int .i64 (zs.getD i 0)) := by
 have hl : zs.length = n * 8 := by simpa using h.1
 rw [World.ownsRow.cellAt h i hi, List.getElem?_map, List.getElem?_eq_getElem (by omega), List.getD, List.getElem?_eq_getElem (by omega)]
 rfl
theorem Pags.keep {w w' : World} {base n : Nat} {v : Value} {zs : List Int} (h : Pags w base v n zs) (hb : Below w.heap.size w w') : Pags w' base v n zs := by
 refine World.ownsRow.kept h (below_grown hb none) ?_
 cases v.ownBlock <;> simp
theorem Pags.len {w : World} {base n : Nat} {v : Value} {zs : List Int} (h : Pags w base v n zs) : zs.length = n * 8 := by simpa using h.1
theorem take_one (zs : List Int) (n : Nat) (h : n < zs.length) : zs.take (n + 1) = zs.take n ++ [zs.getD n 0] := by
 rw [List.take_succ_eq_append_getElem h, List.getD, List.getElem?_eq_getElem h]
 rfl
theorem take_eight (zs : List Int) (n : Nat) (h : n + 8 ≤ zs.length) : zs.take (n + 8) = zs.take n ++ [zs.getD n 0, zs.getD (n + 1) 0, zs.getD (n + 2) 0, zs.getD (n + 3) 0, zs.getD (n + 4) 0, zs.getD (n + 5) 0, zs.getD (n + 6) 0, zs.getD (n + 7) 0] := by
 rw [take_one zs (n + 7) (by omega), take_one zs (n + 6) (by omega), take_one zs (n + 5) (by omega), take_one zs (n + 4) (by omega), take_one zs (n + 3) (by omega), take_one zs (n + 2) (by omega), take_one zs (n + 1) (by omega), take_one zs n (by omega)]
 simp only [List.append_assoc, List.cons_append, List.nil_append]
theorem wp_append {ops : Array Oper} {rest : List Oper} {o : Oper} {act : Act} {Q : Exit → Act → World → Prop} (w : World) (hgd : o.guard = none) (s x : Operand)
  (ho : o.op = .call { callee := .builtin .append, args := #[s, x], argTypes := #[24, 24] }) (base : Nat) (v : Value) (zs : List Int) (hs : act.eval s = v) (hN : Nums w base v zs)
  (B m c : Nat) (ys : List Int) (hx : act.eval x = .slice (some ⟨B, 0, none⟩) m c) (hy : ys.length = m) (hc : ∀ i, i < m → w.cell? ⟨B, i, none⟩ = some (.int .i64 (ys.getD i 0)))
  (hlen : zs.length + m ≤ 1000000000) (hbase : base ≤ w.heap.size)
  (h : ∀ v' w', Nums w' base v' (zs ++ ys) → w.grownBy w' v.ownBlock → wpList Tryz.prog ops Q rest (act.put o.dst v') w') : wpList Tryz.prog ops Q (o :: rest) act w := by
 obtain ⟨i, hi, hz0, hz1, hz2⟩ := info_parts info_i64
 refine wpList_append_own w hgd s x 24 ho base 2 i _ 1 8 Tryz.underlying24 hi hz0 hz1 hz2 rfl (by decide) v zs.length _ hs hN ⟨B, 0, none⟩ m c (ys.map (Value.int .i64)) hx (by simpa using hy) ?_ ?_ (by unfold maxLen; omega) (by omega) hbase ?_
 ·intro j u hj
  have hjl : j < ys.length := by have := (List.getElem?_eq_some_iff.1 hj).1; simpa using this
  rw [List.getElem?_map, List.getElem?_eq_getElem hjl] at hj
  have := hc j (by omega)
  rw [List.getD, List.getElem?_eq_getElem hjl] at this
  rw [show (⟨B, 0, none⟩ : Addr).add j = ⟨B, j, none⟩ by rw [Addr.add_lit]; simp, this]
  exact hj
 ·intro u hu
  obtain ⟨z, _, rfl⟩ := List.mem_map.1 hu
  rfl
 ·intro v' w' hown hgrow _
  refine h v' w' ?_ hgrow
  unfold Nums
  rw [List.length_append, hy, List.map_append]
  exact hown
theorem cells_eight (w : World) (t : TypeId) (a0 a1 a2 a3 a4 a5 a6 a7 : Int) : ∀ i, i < 8 → (w.alloc (.cells #[.int .i64 a0, .int .i64 a1, .int .i64 a2, .int .i64 a3, .int .i64 a4, .int .i64 a5, .int .i64 a6, .int .i64 a7] t)).cell? ⟨w.heap.size, i, none⟩ = some (.int .i64 ([a0, a1, a2, a3, a4, a5, a6, a7].getD i 0)) := by
 intro i hi
 have : i = 0 ∨ i = 1 ∨ i = 2 ∨ i = 3 ∨ i = 4 ∨ i = 5 ∨ i = 6 ∨ i = 7 := by omega
 rcases this with rfl | rfl | rfl | rfl | rfl | rfl | rfl | rfl <;> exact cell_new rfl
theorem impl_join (g n cap : Nat) (zs : List Int) (b : Nat) (w : World) (h : Pags w b (.slice (some ⟨g, 0, none⟩) n cap) n zs) (hn : n ≤ 24) :
  Calls Tryz.prog 79 #[.slice (some ⟨g, 0, none⟩) n cap] w fun e w' => ∃ v, e = .returned v ∧ Nums w' w.heap.size v zs ∧ Below w.heap.size w w' := by
 have HP : Hid (Pags w b _ n zs) := h
 have HL : Hid (zs.length = n * 8) := h.len
 have hni : (n : Int) ≤ 24 := by omega
 clear h
 go_enter Tryz.func79, Tryz.ntmps79
 go_wp2_with fail
 go_loopw [3, 5, 8] (fun v _ c wr => ∃ j : Nat, j ≤ n ∧ c = .int .i64 j ∧ Nums wr w.heap.size v (zs.take (j * 8)) ∧ Below w.heap.size w wr) (fun _ _ c _ => n - (intOf c).toNat)
 case atStart => exact ⟨0, Nat.zero_le _, rfl, by simpa using Nums.nil w _, Below.refl _ _⟩
 case round =>
  obtain ⟨j, hj, rfl, hN, hB⟩ := hrel
  have HN : Hid (Nums wr _ _ _) := hN
  have HB : Hid (Below _ _ _) := hB
  by_cases hlt : j < n
  ·have hJ : (j : Int) < (n : Int) := by omega
   have hp := fun k (hk : k < n * 8) => cell_keep hB (HP.out.cell k hk)
   have c0 := hp (j * 8) (by omega)
   have c1 := hp (j * 8 + 1) (by omega)
   have c2 := hp (j * 8 + 2) (by omega)
   have c3 := hp (j * 8 + 3) (by omega)
   have c4 := hp (j * 8 + 4) (by omega)
   have c5 := hp (j * 8 + 5) (by omega)
   have c6 := hp (j * 8 + 6) (by omega)
   have c7 := hp (j * 8 + 7) (by omega)
   have HT : Hid (zs.take ((j + 1) * 8) = zs.take (j * 8) ++ [zs.getD (j * 8) 0, zs.getD (j * 8 + 1) 0, zs.getD (j * 8 + 2) 0, zs.getD (j * 8 + 3) 0, zs.getD (j * 8 + 4) 0, zs.getD (j * 8 + 5) 0, zs.getD (j * 8 + 6) 0, zs.getD (j * 8 + 7) 0]) := by
    show _ = _
    rw [show (j + 1) * 8 = j * 8 + 8 by omega]
    exact take_eight zs (j * 8) (by have := HL.out; omega)
   generalize zs.getD (j * 8) 0 = a0 at *
   generalize zs.getD (j * 8 + 1) 0 = a1 at *
   generalize zs.getD (j * 8 + 2) 0 = a2 at *
   generalize zs.getD (j * 8 + 3) 0 = a3 at *
   generalize zs.getD (j * 8 + 4) 0 = a4 at *
   generalize zs.getD (j * 8 + 5) 0 = a5 at *
   generalize zs.getD (j * 8 + 6) 0 = a6 at *
   generalize zs.getD (j * 8 + 7) 0 = a7 at *
   have HLT := hid hlt
   have Hn := hid hn
   have HS : Hid (w.heap.size ≤ wr.heap.size) := hB.size
   clear hp hN hB hlt hn
   go_wp2_with (at_builtin; refine wp_append _ rfl _ _ rfl w.heap.size _ _ rfl (HN.out.keep (al (Below.refl _ _) _)) wr.heap.size 8 8 [a0, a1, a2, a3, a4, a5, a6, a7] rfl rfl (cells_eight _ _ _ _ _ _ _ _ _ _) (by have := HLT.out; have := Hn.out; simp; omega) (by have := HS.out; simp; omega) ?_; intro v' w' hN' hG')
   have N' : Hid (Nums w' _ v' _) := hN'
   have B' : Hid (Below w.heap.size w w') := (al HB.out _).grown hG' (by have := HS.out; simp; omega) (fun k hk => (HN.out.lt k hk).1)
   clear hN' hG'
   go_wp2_with fail
   go_roundw
   case rel => exact ⟨j + 1, by have := HLT.out; omega, by go_num, by rw [HT.out]; exact N'.out, B'.out⟩
   case measure => have := HLT.out; simp [intOf]; omega
  ·have hJ : ¬ (j : Int) < (n : Int) := by omega
   obtain rfl : j = n := by omega
   clear hN hB
   go_wp2_with fail
   go_ret
   refine ⟨_, rfl, ?_, HB.out⟩
   have := HN.out
   rwa [List.take_of_length_le (Nat.le_of_eq HL.out)] at this
end Go.Proofs.YtaefollmeoepkaaGreatDoor
