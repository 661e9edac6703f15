/- Texts of this seat, joined. -/
import Derived.Laws.AppendOwn
import Derived.Laws.CopyOwn
import Derived.Deep.RegionLaw
import Derived.Deep.RegionWith
import Derived.Laws.ByValue
import Derived.Test.YtdhdfopkcpkbeaaGreatDoorQ06
import Derived.Test.YtdhdfopkcpkbeaaGreatDoorQ07
import Derived.Test.YtdhdfopkcpkbeaaGreatDoorQ12
import Derived.Test.YtdhdfopkcpkbeaaGreatDoorQ22
import Derived.Test.YtdhdfopkcpkbeaaGreatDoorQ23
namespace Go.Proofs.YtdhdfopkcpkbeaaGreatDoor
open Go.RowKit

def inB (v lo hi : Int) : Bool := decide (lo ≤ v ∧ v ≤ hi)
theorem inB_true {v lo hi : Int} (h : lo ≤ v ∧ v ≤ hi) : inB v lo hi = true := decide_eq_true h
theorem spec_inI (v lo hi : Int) (w : World) : Calls Tryz.prog 78 #[.int .i64 v, .int .i64 lo, .int .i64 hi] w fun e w' => e = .returned (.bool (inB v lo hi)) ∧ w' = w := by
  by_cases h : lo ≤ v
  · have e : inB v lo hi = decide (v ≤ hi) := by simp [inB, h]
    rw [e]
    go_enter Tryz.func78, Tryz.ntmps78
    go_wp2
    go_ret
    exact ⟨rfl, rfl⟩
  · have e : inB v lo hi = false := by simp [inB, h]
    rw [e]
    go_enter Tryz.func78, Tryz.ntmps78
    go_wp2
    go_ret
    exact ⟨rfl, rfl⟩

def bareD (op : Int) : Bool := decide (22 ≤ op ∧ op ≤ 26)
def bareA (op : Int) : Bool := decide (op = 13 ∨ op = 19 ∨ op = 21 ∨ 23 ≤ op ∧ op ≤ 26)
def bareI (op : Int) : Bool := decide (23 ≤ op ∧ op ≤ 26)

theorem spec_bare (op : Int) (w : World) (h : 1 ≤ op ∧ op ≤ 26) : Calls Tryz.prog 99 #[.int .i64 op] w fun e w' => e = .returned (.tuple #[.bool (bareD op), .bool (bareA op), .bool (bareI op)]) ∧ w' = w := by
  rcases op_class h with rfl | rfl | rfl | rfl | rfl | rfl | rfl | rfl | ⟨g1, g2, g3, g4, g5, g6, g7, g8, g9⟩
  rotate_right 1
  · have e1 : bareD op = false := decide_eq_false (by have g9 := g9.out; omega)
    have e2 : bareA op = false := decide_eq_false (by have g9 := g9.out; omega)
    have e3 : bareI op = false := decide_eq_false (by have g9 := g9.out; omega)
    rw [e1, e2, e3]
    clear e1 e2 e3 h
    go_enter Tryz.func99, Tryz.ntmps99
    go_wp2
    exact bodyPost_ret (v := .tuple #[.bool false, .bool false, .bool false]) (by simp [results, Tryz.results99, go_sem]) rfl ⟨rfl, rfl⟩
  all_goals
    go_enter Tryz.func99, Tryz.ntmps99
    go_wp2
  all_goals exact bodyPost_ret (v := .tuple #[.bool _, .bool _, .bool _]) (by simp [results, Tryz.results99, go_sem]; exact ⟨rfl, rfl, rfl⟩) rfl ⟨rfl, rfl⟩
end Go.Proofs.YtdhdfopkcpkbeaaGreatDoor
namespace Go.Proofs.YtdhdfopkcpkbeaaGreatDoor
open Go.RowKit

set_option maxHeartbeats 4000000 in
theorem spec_insFault_in (op d a imm : Int) (w : World) (h : 1 ≤ op ∧ op ≤ 26 ∧ 0 ≤ d ∧ d ≤ 15 ∧ 0 ≤ a ∧ a ≤ 15 ∧ 0 ≤ imm ∧ imm ≤ 65535) :
    Calls Tryz.prog 87 #[.agg #[.int .i64 op, .int .i64 d, .int .i64 a, .int .i64 imm]] w fun e w' => e = .returned (.int .i64 (insC op d a imm)) ∧ Below w.heap.size w w' := by
  have hi : Hid (_ ↔ _) := insC_zero h
  have h3 : Hid (insC op d a imm = 0 ∨ insC op d a imm = 1) := by rw [insC, if_pos h]; show _ ∨ _; split <;> simp
  have hh : Hid _ := h
  have hcl := op_class (op := op) ⟨h.1, h.2.1⟩
  have i1 : inB op 1 26 = true := inB_true (by omega)
  have i2 : inB d 0 15 = true := inB_true (by omega)
  have i3 : inB a 0 15 = true := inB_true (by omega)
  have i4 : inB imm 0 65535 = true := inB_true (by omega)
  have hb := fun w => spec_bare op w ⟨h.1, h.2.1⟩
  clear h
  generalize insC op d a imm = c at *
  obtain ⟨x, hx⟩ : ∃ x, bareD op = x := ⟨_, rfl⟩
  obtain ⟨y, hy⟩ : ∃ y, bareA op = y := ⟨_, rfl⟩
  obtain ⟨z, hz⟩ : ∃ z, bareI op = z := ⟨_, rfl⟩
  rw [hx, hy, hz] at hb
  rcases hcl with rfl | rfl | rfl | rfl | rfl | rfl | rfl | rfl | ⟨g1, g2, g3, g4, g5, g6, g7, g8, g9⟩
  rotate_right 1
  · obtain rfl : false = x := by rw [← hx]; exact (decide_eq_false (by have g9 := g9.out; omega)).symm
    obtain rfl : false = y := by rw [← hy]; exact (decide_eq_false (by have g9 := g9.out; omega)).symm
    obtain rfl : false = z := by rw [← hz]; exact (decide_eq_false (by have g9 := g9.out; omega)).symm
    clear hx hy hz
    go_enter Tryz.func87, Tryz.ntmps87
    go_wp2_with (first | (go_at_call 99; refine (hb _).mono ?_; rintro e w1 ⟨rfl, rfl⟩) | (go_at_call 78; refine (spec_inI _ _ _ _).mono ?_; rintro e w1 ⟨rfl, rfl⟩))
    all_goals go_ret
    all_goals refine ⟨congrArg (fun b => Ending.returned (Value.int .i64 b)) ?_, ((Below.refl _ _).alloc (Nat.le_refl _) _)⟩
    all_goals have hi := hi.out
    all_goals have hh := hh.out
    all_goals have h3 := h3.out
    all_goals have g9 := g9.out
    all_goals omega
  all_goals
    obtain rfl : _ = x := hx
    obtain rfl : _ = y := hy
    obtain rfl : _ = z := hz
  all_goals
    go_enter Tryz.func87, Tryz.ntmps87
    go_wp2_with (first | (go_at_call 99; refine (hb _).mono ?_; rintro e w1 ⟨rfl, rfl⟩) | (go_at_call 78; refine (spec_inI _ _ _ _).mono ?_; rintro e w1 ⟨rfl, rfl⟩))
  all_goals go_ret
  all_goals refine ⟨congrArg (fun b => Ending.returned (Value.int .i64 b)) ?_, ((Below.refl _ _).alloc (Nat.le_refl _) _)⟩
  all_goals have hi := hi.out
  all_goals have hh := hh.out
  all_goals have h3 := h3.out
  all_goals first | omega | (simp at hi; omega) | skip

set_option maxHeartbeats 4000000 in
theorem spec_insFault (op d a imm : Int) (w : World) :
    Calls Tryz.prog 87 #[.agg #[.int .i64 op, .int .i64 d, .int .i64 a, .int .i64 imm]] w fun e w' => e = .returned (.int .i64 (insC op d a imm)) ∧ Below w.heap.size w w' := by
  by_cases h : 1 ≤ op ∧ op ≤ 26 ∧ 0 ≤ d ∧ d ≤ 15 ∧ 0 ≤ a ∧ a ≤ 15 ∧ 0 ≤ imm ∧ imm ≤ 65535
  · exact spec_insFault_in op d a imm w h
  · rw [insC_3 h]
    have hcl : inB op 1 26 = false ∨ inB op 1 26 = true ∧ (inB d 0 15 = false ∨ inB d 0 15 = true ∧ (inB a 0 15 = false ∨ inB a 0 15 = true ∧ inB imm 0 65535 = false)) := by
      simp only [inB, decide_eq_true_eq, decide_eq_false_iff_not]
      omega
    clear h
    rcases hcl with i1 | ⟨i1, i2 | ⟨i2, i3 | ⟨i3, i4⟩⟩⟩
    all_goals
      go_enter Tryz.func87, Tryz.ntmps87
      go_wp2_with (go_at_call 78; refine (spec_inI _ _ _ _).mono ?_; rintro e w1 ⟨rfl, rfl⟩)
    all_goals go_ret
    all_goals exact ⟨rfl, ((Below.refl _ _).alloc (Nat.le_refl _) _)⟩
end Go.Proofs.YtdhdfopkcpkbeaaGreatDoor
namespace Go.Proofs.YtdhdfopkcpkbeaaGreatDoor
open Go.RowKit
set_option linter.unusedVariables false

theorem wp_app {ops : Array Oper} {rest : List Oper} {o : Oper} {act : Act} {Q : Exit → Act → World → Prop} (w : World) (hgd : o.guard = none) (s x : Operand)
    (ho : o.op = .call { callee := .builtin .append, args := #[s, x], argTypes := #[32, 32] }) (base : Nat) (v : Value) (zs : List Int) (hs : act.eval s = v) (hN : Nums w base v zs)
    (B m c : Nat) (ys : List Int) (hx : act.eval x = .slice (some ⟨B, 0, none⟩) m c) (hy : ys.length = m) (hc : ∀ i, i < m → w.cell? ⟨B, i, none⟩ = some (.int .i64 (ys.getD i 0)))
    (hlen : zs.length + m ≤ 1000000000) (hbase : base ≤ w.heap.size)
    (h : ∀ v' w', Nums w' base v' (zs ++ ys) → w.grownBy w' v.ownBlock → wpList Tryz.prog ops Q rest (act.put o.dst v') w') : wpList Tryz.prog ops Q (o :: rest) act w := by
  obtain ⟨i, hi, hz0, hz1, hz2⟩ := info_parts info_i64
  refine wpList_append_own w hgd s x 32 ho base 2 i _ 1 8 Tryz.underlying32 hi hz0 hz1 hz2 rfl (by decide) v zs.length _ hs hN ⟨B, 0, none⟩ m c (ys.map (Value.int .i64)) hx (by simpa using hy) ?_ ?_ (by unfold maxLen; omega) (by omega) hbase ?_
  · intro j u hj
    have hjl : j < ys.length := by have := (List.getElem?_eq_some_iff.1 hj).1; simpa using this
    rw [List.getElem?_map, List.getElem?_eq_getElem hjl] at hj
    have := hc j (by omega)
    rw [List.getD, List.getElem?_eq_getElem hjl] at this
    rw [show (⟨B, 0, none⟩ : Addr).add j = ⟨B, j, none⟩ by rw [Addr.add_lit]; simp, this]
    exact hj
  · intro u hu
    obtain ⟨z, _, rfl⟩ := List.mem_map.1 hu
    rfl
  · intro v' w' hown hgrow _
    refine h v' w' ?_ hgrow
    unfold Nums
    rw [List.length_append, hy, List.map_append]
    exact hown

end Go.Proofs.YtdhdfopkcpkbeaaGreatDoor
namespace Go.Proofs.YtdhdfopkcpkbeaaGreatDoor
open Go.RowKit

/-- The word of an instruction, 0 where it has a fault. -/
def encV (op d a imm : Int) : Int := if insC op d a imm = 0 then op * 16777216 + d * 1048576 + a * 65536 + imm else 0

theorem insC_bounds {op d a imm : Int} (h : insC op d a imm = 0) : 1 ≤ op ∧ op ≤ 26 ∧ 0 ≤ d ∧ d ≤ 15 ∧ 0 ≤ a ∧ a ≤ 15 ∧ 0 ≤ imm ∧ imm ≤ 65535 := by
  by_cases g : 1 ≤ op ∧ op ≤ 26 ∧ 0 ≤ d ∧ d ≤ 15 ∧ 0 ≤ a ∧ a ≤ 15 ∧ 0 ≤ imm ∧ imm ≤ 65535
  · exact g
  · rw [insC_3 g] at h; omega

theorem w64 (n : Int) (h : -9223372036854775808 ≤ n ∧ n ≤ 9223372036854775807) : wrap64 n = n := by unfold wrap64; omega
theorem enc_wrap {op d a imm : Int} (h : 1 ≤ op ∧ op ≤ 26 ∧ 0 ≤ d ∧ d ≤ 15 ∧ 0 ≤ a ∧ a ≤ 15 ∧ 0 ≤ imm ∧ imm ≤ 65535) :
    wrap64 (wrap64 (wrap64 (wrap64 (op * 16777216) + wrap64 (d * 1048576)) + wrap64 (a * 65536)) + imm) = op * 16777216 + d * 1048576 + a * 65536 + imm := by
  rw [w64 (op * 16777216) (by omega), w64 (d * 1048576) (by omega), w64 (a * 65536) (by omega), w64 (op * 16777216 + d * 1048576) (by omega), w64 (op * 16777216 + d * 1048576 + a * 65536) (by omega), w64 _ (by omega)]

set_option maxHeartbeats 2000000 in
theorem spec_encode (op d a imm : Int) (w : World) :
    Calls Tryz.prog 65 #[.agg #[.int .i64 op, .int .i64 d, .int .i64 a, .int .i64 imm]] w fun e w' => e = .returned (.agg #[.int .i64 (insC op d a imm), .int .i64 (encV op d a imm)]) ∧ Below w.heap.size w w' := by
  have hf := fun w => spec_insFault op d a imm w
  by_cases h : insC op d a imm = 0
  · have e : encV op d a imm = op * 16777216 + d * 1048576 + a * 65536 + imm := if_pos h
    have ew := enc_wrap (insC_bounds h)
    rw [e]
    clear e
    generalize insC op d a imm = c at *
    subst h
    generalize op * 16777216 + d * 1048576 + a * 65536 + imm = v at *
    go_enter Tryz.func65, Tryz.ntmps65
    go_wp2_with (go_at_call 87; refine (hf _).mono ?_; rintro e w1 ⟨rfl, hb⟩; obtain ⟨hc, hz⟩ := bcell hb)
    exact bodyPost_ret (v := .agg #[.int .i64 0, .int .i64 v]) (by simp [results, Tryz.results65, go_sem, hc, ew]) rfl ⟨rfl, (((((Below.refl _ _).alloc (Nat.le_refl _) _).alloc (by simp) _).trans (hb.mono (by simp; omega))).setCell (by simp) _).setCell (by simp) _⟩
  · have g : (insC op d a imm == 0) = false := beq_eq_false_iff_ne.2 h
    have e : encV op d a imm = 0 := if_neg h
    rw [e]
    clear e h
    generalize insC op d a imm = c at *
    go_enter Tryz.func65, Tryz.ntmps65
    go_wp2_with (go_at_call 87; refine (hf _).mono ?_; rintro e w1 ⟨rfl, hb⟩; obtain ⟨hc, hz⟩ := bcell hb)
    exact bodyPost_ret (v := .agg #[.int .i64 c, .int .i64 0]) (by simp [results, Tryz.results65, go_sem, hc]) rfl ⟨rfl, (((((Below.refl _ _).alloc (Nat.le_refl _) _).alloc (by simp) _).trans (hb.mono (by simp; omega))).setCell (by simp) _).setCell (by simp) _⟩
end Go.Proofs.YtdhdfopkcpkbeaaGreatDoor
namespace Go.Proofs.YtdhdfopkcpkbeaaGreatDoor
open Go.RowKit
set_option linter.unusedVariables false

/-- A slice of pages that a call made: its words, page behind page. -/
def Pags (w : World) (base : Nat) (v : Value) (n : Nat) (zs : List Int) : Prop := w.ownsRow base 94 8 v n (zs.map (Value.int .i64))

theorem Pags.cell {w : World} {base g n cap : Nat} {zs : List Int} (h : Pags w base (.slice (some ⟨g, 0, none⟩) n cap) n zs) (i : Nat) (hi : i < n * 8) : w.cell? ⟨g, i, none⟩ = some (.int .i64 (zs.getD i 0)) := by
  have hl : zs.length = n * 8 := by simpa using h.1
  rw [World.ownsRow.cellAt h i hi, List.getElem?_map, List.getElem?_eq_getElem (by omega), List.getD, List.getElem?_eq_getElem (by omega)]
  rfl
theorem Pags.keep {w w' : World} {base n : Nat} {v : Value} {zs : List Int} (h : Pags w base v n zs) (hb : Below w.heap.size w w') : Pags w' base v n zs := by
  refine World.ownsRow.kept h (below_grown hb none) ?_
  cases v.ownBlock <;> simp
theorem Pags.len {w : World} {base n : Nat} {v : Value} {zs : List Int} (h : Pags w base v n zs) : zs.length = n * 8 := by simpa using h.1

theorem take_one (zs : List Int) (n : Nat) (h : n < zs.length) : zs.take (n + 1) = zs.take n ++ [zs.getD n 0] := by
  rw [List.take_succ_eq_append_getElem h, List.getD, List.getElem?_eq_getElem h]
  rfl
theorem take_eight (zs : List Int) (n : Nat) (h : n + 8 ≤ zs.length) : zs.take (n + 8) = zs.take n ++ [zs.getD n 0, zs.getD (n + 1) 0, zs.getD (n + 2) 0, zs.getD (n + 3) 0, zs.getD (n + 4) 0, zs.getD (n + 5) 0, zs.getD (n + 6) 0, zs.getD (n + 7) 0] := by
  rw [take_one zs (n + 7) (by omega), take_one zs (n + 6) (by omega), take_one zs (n + 5) (by omega), take_one zs (n + 4) (by omega), take_one zs (n + 3) (by omega), take_one zs (n + 2) (by omega), take_one zs (n + 1) (by omega), take_one zs n (by omega)]
  simp only [List.append_assoc, List.cons_append, List.nil_append]

/-- append of numbers to a slice of the call's own. -/
theorem wp_append {ops : Array Oper} {rest : List Oper} {o : Oper} {act : Act} {Q : Exit → Act → World → Prop} (w : World) (hgd : o.guard = none) (s x : Operand)
    (ho : o.op = .call { callee := .builtin .append, args := #[s, x], argTypes := #[32, 32] }) (base : Nat) (v : Value) (zs : List Int) (hs : act.eval s = v) (hN : Nums w base v zs)
    (B m c : Nat) (ys : List Int) (hx : act.eval x = .slice (some ⟨B, 0, none⟩) m c) (hy : ys.length = m) (hc : ∀ i, i < m → w.cell? ⟨B, i, none⟩ = some (.int .i64 (ys.getD i 0)))
    (hlen : zs.length + m ≤ 1000000000) (hbase : base ≤ w.heap.size)
    (h : ∀ v' w', Nums w' base v' (zs ++ ys) → w.grownBy w' v.ownBlock → wpList Tryz.prog ops Q rest (act.put o.dst v') w') : wpList Tryz.prog ops Q (o :: rest) act w := by
  obtain ⟨i, hi, hz0, hz1, hz2⟩ := info_parts info_i64
  refine wpList_append_own w hgd s x 32 ho base 2 i _ 1 8 Tryz.underlying32 hi hz0 hz1 hz2 rfl (by decide) v zs.length _ hs hN ⟨B, 0, none⟩ m c (ys.map (Value.int .i64)) hx (by simpa using hy) ?_ ?_ (by unfold maxLen; omega) (by omega) hbase ?_
  · intro j u hj
    have hjl : j < ys.length := by have := (List.getElem?_eq_some_iff.1 hj).1; simpa using this
    rw [List.getElem?_map, List.getElem?_eq_getElem hjl] at hj
    have := hc j (by omega)
    rw [List.getD, List.getElem?_eq_getElem hjl] at this
    rw [show (⟨B, 0, none⟩ : Addr).add j = ⟨B, j, none⟩ by rw [Addr.add_lit]; simp, this]
    exact hj
  · intro u hu
    obtain ⟨z, _, rfl⟩ := List.mem_map.1 hu
    rfl
  · intro v' w' hown hgrow _
    refine h v' w' ?_ hgrow
    unfold Nums
    rw [List.length_append, hy, List.map_append]
    exact hown

theorem cells_eight (w : World) (t : TypeId) (a0 a1 a2 a3 a4 a5 a6 a7 : Int) : ∀ i, i < 8 → (w.alloc (.cells #[.int .i64 a0, .int .i64 a1, .int .i64 a2, .int .i64 a3, .int .i64 a4, .int .i64 a5, .int .i64 a6, .int .i64 a7] t)).cell? ⟨w.heap.size, i, none⟩ = some (.int .i64 ([a0, a1, a2, a3, a4, a5, a6, a7].getD i 0)) := by
  intro i hi
  have : i = 0 ∨ i = 1 ∨ i = 2 ∨ i = 3 ∨ i = 4 ∨ i = 5 ∨ i = 6 ∨ i = 7 := by omega
  rcases this with rfl | rfl | rfl | rfl | rfl | rfl | rfl | rfl <;> exact cell_new rfl

set_option maxHeartbeats 2000000 in
theorem impl_join (g n cap : Nat) (zs : List Int) (b : Nat) (w : World) (h : Pags w b (.slice (some ⟨g, 0, none⟩) n cap) n zs) (hn : n ≤ 24) :
    Calls Tryz.prog 22 #[.slice (some ⟨g, 0, none⟩) n cap] w fun e w' => ∃ v, e = .returned v ∧ Nums w' w.heap.size v zs ∧ Below w.heap.size w w' := by
  have HP : Hid (Pags w b _ n zs) := h
  have HL : Hid (zs.length = n * 8) := h.len
  have hni : (n : Int) ≤ 24 := by omega
  clear h
  go_enter Tryz.func22, Tryz.ntmps22
  go_wp2_with fail
  go_loopw [3, 5, 8] (fun v _ c wr => ∃ j : Nat, j ≤ n ∧ c = .int .i64 j ∧ Nums wr w.heap.size v (zs.take (j * 8)) ∧ Below w.heap.size w wr) (fun _ _ c _ => n - (intOf c).toNat)
  case atStart => exact ⟨0, Nat.zero_le _, rfl, by simpa using Nums.nil w _, Below.refl _ _⟩
  case round =>
    obtain ⟨j, hj, rfl, hN, hB⟩ := hrel
    have HN : Hid (Nums wr _ _ _) := hN
    have HB : Hid (Below _ _ _) := hB
    by_cases hlt : j < n
    · have hJ : (j : Int) < (n : Int) := by omega
      have hp := fun k (hk : k < n * 8) => cell_keep hB (HP.out.cell k hk)
      have c0 := hp (j * 8) (by omega)
      have c1 := hp (j * 8 + 1) (by omega)
      have c2 := hp (j * 8 + 2) (by omega)
      have c3 := hp (j * 8 + 3) (by omega)
      have c4 := hp (j * 8 + 4) (by omega)
      have c5 := hp (j * 8 + 5) (by omega)
      have c6 := hp (j * 8 + 6) (by omega)
      have c7 := hp (j * 8 + 7) (by omega)
      have HT : Hid (zs.take ((j + 1) * 8) = zs.take (j * 8) ++ [zs.getD (j * 8) 0, zs.getD (j * 8 + 1) 0, zs.getD (j * 8 + 2) 0, zs.getD (j * 8 + 3) 0, zs.getD (j * 8 + 4) 0, zs.getD (j * 8 + 5) 0, zs.getD (j * 8 + 6) 0, zs.getD (j * 8 + 7) 0]) := by
        show _ = _
        rw [show (j + 1) * 8 = j * 8 + 8 by omega]
        exact take_eight zs (j * 8) (by have := HL.out; omega)
      generalize zs.getD (j * 8) 0 = a0 at *
      generalize zs.getD (j * 8 + 1) 0 = a1 at *
      generalize zs.getD (j * 8 + 2) 0 = a2 at *
      generalize zs.getD (j * 8 + 3) 0 = a3 at *
      generalize zs.getD (j * 8 + 4) 0 = a4 at *
      generalize zs.getD (j * 8 + 5) 0 = a5 at *
      generalize zs.getD (j * 8 + 6) 0 = a6 at *
      generalize zs.getD (j * 8 + 7) 0 = a7 at *
      have HLT : Hid (j < n) := hlt
      have Hn : Hid (n ≤ 24) := hn
      have HS : Hid (w.heap.size ≤ wr.heap.size) := hB.size
      clear hp hN hB hlt hn
      go_wp2_with (at_builtin; refine wp_append _ rfl _ _ rfl w.heap.size _ _ rfl (HN.out.keep (al (Below.refl _ _) _)) wr.heap.size 8 8 [a0, a1, a2, a3, a4, a5, a6, a7] rfl rfl (cells_eight _ _ _ _ _ _ _ _ _ _) (by have := HLT.out; have := Hn.out; simp; omega) (by have := HS.out; simp; omega) ?_; intro v' w' hN' hG')
      have N' : Hid (Nums w' _ v' _) := hN'
      have B' : Hid (Below w.heap.size w w') := (al HB.out _).grown hG' (by have := HS.out; simp; omega) (fun k hk => (HN.out.lt k hk).1)
      clear hN' hG'
      go_wp2_with fail
      go_roundw
      case rel => exact ⟨j + 1, by have := HLT.out; omega, by go_num, by rw [HT.out]; exact N'.out, B'.out⟩
      case measure => have := HLT.out; simp [intOf]; omega
    · have hJ : ¬ (j : Int) < (n : Int) := by omega
      obtain rfl : j = n := by omega
      clear hN hB
      go_wp2_with fail
      go_ret
      refine ⟨_, rfl, ?_, HB.out⟩
      have := HN.out
      rwa [List.take_of_length_le (Nat.le_of_eq HL.out)] at this
end Go.Proofs.YtdhdfopkcpkbeaaGreatDoor
namespace Go.Proofs.YtdhdfopkcpkbeaaGreatDoor
open Go.RowKit
set_option linter.unusedVariables false

theorem Turn.putC {b : Nat} {w x : World} (t : Turn b w x) {p : Addr} (hp : w.heap.size ≤ p.block) (u : Value) : Turn b w (x.setCell p u) :=
  ⟨t.os, t.tape, t.output, by have := t.size; simpa [World.setCell] using this, fun k hk hb => by rw [Below.heap_setCell x p u k (by omega)]; exact t.block k hk hb⟩
theorem Turn.push {b : Nat} {w x : World} (t : Turn b w x) (o : Obj) : Turn b w (x.alloc o) := t.trans (Turn.alloc b x o)
theorem Src.putC {w : World} {b k : Nat} {a : Option Addr} {len cap : Nat} {zs : List Int} (s : Src w b k a len cap zs) {p : Addr} (hp : b < p.block) (u : Value) : Src (w.setCell p u) b k a len cap zs := by
  have hb : ∀ q : Addr, q.block ≤ b → (w.setCell p u).cell? q = w.cell? q := fun q hq => World.cell?_of_block (w := w) (Below.heap_setCell w p u q.block (by omega))
  refine ⟨by rw [hb _ (Nat.le_refl _)]; exact s.code, by rw [hb _ (Nat.le_refl _)]; exact s.count, ?_, ?_, s.away, by have := s.here; simpa [World.setCell] using this⟩
  · rw [World.frozen?_setCell]; exact s.free
  · rcases s.row with h | ⟨x, rfl, h1, h2, h3, h4, h5⟩
    · exact .inl h
    · refine .inr ⟨x, rfl, h1, h2, h3, fun i hi => ?_, h5⟩
      have hx := s.away x rfl (by omega)
      rw [hb _ (by rw [src_block]; omega)]
      exact h4 i hi
theorem Src.stay {w w' : World} {b k : Nat} {a : Option Addr} {len cap : Nat} {zs : List Int} (s : Src w b k a len cap zs) (h : Below w.heap.size w w') : Src w' b k a len cap zs := s.turn (c := w.heap.size) (Turn.of_below h) (Nat.le_refl _)

def small (v : Int) : Prop := -100000 ≤ v ∧ v ≤ 100000

theorem ins_class {o : Int} (h : 1 ≤ o ∧ o ≤ 26) :
    ((bareD o = false ∧ bareA o = false ∧ bareI o = false) ∧ o ≤ 11 ∧ (o == 21) = false ∧ (o == 22) = false) ∨
    ((bareD o = false ∧ bareA o = false ∧ bareI o = false) ∧ ¬ o ≤ 11 ∧ (o == 21) = false ∧ (o == 22) = false) ∨
    ((bareD o = false ∧ bareA o = true ∧ bareI o = false) ∧ ¬ o ≤ 11 ∧ (o == 21) = false ∧ (o == 22) = false) ∨
    ((bareD o = false ∧ bareA o = true ∧ bareI o = false) ∧ o = 21) ∨
    ((bareD o = true ∧ bareA o = false ∧ bareI o = false) ∧ o = 22) ∨
    ((bareD o = true ∧ bareA o = true ∧ bareI o = true) ∧ ¬ o ≤ 11 ∧ (o == 21) = false ∧ (o == 22) = false) := by
  simp only [bareD, bareA, bareI, decide_eq_true_eq, decide_eq_false_iff_not, beq_eq_false_iff_ne]
  omega

set_option maxHeartbeats 4000000 in
theorem ins_any {w : World} {b k : Nat} {a : Option Addr} {len cap : Nat} {zs : List Int} (s : Src w b k a len cap zs) (hk : k ≤ 50000) :
    Calls Tryz.prog 88 #[.pointer (some ⟨b, 0, none⟩)] w fun e w' => ∃ o d x i : Int, e = .returned (.agg #[.int .i64 o, .int .i64 d, .int .i64 x, .int .i64 i]) ∧ small o ∧ small d ∧ small x ∧ small i ∧ Turn b w w' ∧ Src w' b (k + 7) a len cap zs := by
  have HH : Hid (b < w.heap.size) := s.here
  have s0 := s.alloc (.cells #[.int .i64 0, .int .i64 0, .int .i64 0, .int .i64 0] 117)
  have T0 : Turn b w (w.alloc (.cells #[.int .i64 0, .int .i64 0, .int .i64 0, .int .i64 0] 117)) := Turn.alloc b w _
  have K0 : Hid ((w.alloc (.cells #[.int .i64 0, .int .i64 0, .int .i64 0, .int .i64 0] 117)).heap[w.heap.size]? = some (.cells #[.int .i64 0, .int .i64 0, .int .i64 0, .int .i64 0] 117 (0, 0))) := by
    show (w.heap.push _)[w.heap.size]? = _
    rw [Array.getElem?_push, if_pos rfl]
  go_enter Tryz.func88, Tryz.ntmps88
  go_wp2_with fail
  refine (next_any s0 (by omega) _).mono ?_
  rintro e w1 ⟨v1, rfl, h1, -, t1, s1⟩
  obtain ⟨l1, u1⟩ := h1 (by omega)
  clear h1
  go_wp2_with fail
  refine (next_any s1 (by omega) _).mono ?_
  rintro e w2 ⟨v2, rfl, h2, -, t2, s2⟩
  obtain ⟨l2, u2⟩ := h2 (by omega)
  clear h2
  go_wp2_with fail
  refine (next_any s2 (by omega) _).mono ?_
  rintro e w3 ⟨v3, rfl, h3, -, t3, s3⟩
  obtain ⟨l3, u3⟩ := h3 (by omega)
  clear h3
  go_wp2_with fail
  refine (next_any s3 (by omega) _).mono ?_
  rintro e w4 ⟨v4, rfl, h4, -, t4, s4⟩
  obtain ⟨l4, u4⟩ := h4 (by omega)
  clear h4
  go_wp2_with fail
  refine (next_any s4 (by omega) _).mono ?_
  rintro e w5 ⟨v5, rfl, h5, -, t5, s5⟩
  obtain ⟨l5, u5⟩ := h5 (by omega)
  clear h5
  go_wp2_with fail
  refine (next_any s5 (by omega) _).mono ?_
  rintro e w6 ⟨v6, rfl, h6, -, t6, s6⟩
  obtain ⟨l6, u6⟩ := h6 (by omega)
  clear h6
  go_wp2_with fail
  have hb := s6.here
  refine (pick_any (s6.alloc _) (by omega) (fun v => 0 ≤ v ∧ v ≤ 65535) _ 3 (by omega) (by omega) (by simp) (by omega) ?_).mono ?_
  · intro i hi
    have : i = 0 ∨ i = 1 ∨ i = 2 := by omega
    rcases this with rfl | rfl | rfl
    all_goals exact ⟨_, cell_new rfl, by omega⟩
  rintro e w7 ⟨v7, rfl, h7, t7, s7⟩
  obtain ⟨l7, u7⟩ := h7
  have TT := ((((((t1.trans t2).trans t3).trans t4).trans t5).trans t6).trans (Turn.alloc b w6 _)).trans t7
  have T7 : Hid (Turn b w w7) := T0.trans TT
  have S7 : Hid (Src w7 b (k + 7) a len cap zs) := s7
  have K7 : w7.heap[w.heap.size]? = some (.cells #[.int .i64 0, .int .i64 0, .int .i64 0, .int .i64 0] 117 (0, 0)) := by
    rw [TT.block w.heap.size (by simp) (by have := HH.out; omega)]
    exact K0.out
  have k0 : w7.cell? ⟨w.heap.size, 0, none⟩ = some (.int .i64 0) := by simp [World.cell?, K7]
  have k1 : w7.cell? ⟨w.heap.size, 1, none⟩ = some (.int .i64 0) := by simp [World.cell?, K7]
  have k2 : w7.cell? ⟨w.heap.size, 2, none⟩ = some (.int .i64 0) := by simp [World.cell?, K7]
  have k3 : w7.cell? ⟨w.heap.size, 3, none⟩ = some (.int .i64 0) := by simp [World.cell?, K7]
  have f0 : w7.frozen? ⟨w.heap.size, 0, none⟩ = false := by simp [World.frozen?, K7]
  have f1 : w7.frozen? ⟨w.heap.size, 1, none⟩ = false := by simp [World.frozen?, K7]
  have f2 : w7.frozen? ⟨w.heap.size, 2, none⟩ = false := by simp [World.frozen?, K7]
  have f3 : w7.frozen? ⟨w.heap.size, 3, none⟩ = false := by simp [World.frozen?, K7]
  have sz : w.heap.size < w7.heap.size := block_of_cell k0
  clear t1 t2 t3 t4 t5 t6 t7 s1 s2 s3 s4 s5 s6 s7 s0 T0 K0 TT K7 hb l4 u4 l5 u5 l6 u6
  have hcl := ins_class (o := 1 + v1) (by omega)
  have fb := fun w => spec_bare (1 + v1) w (by omega)
  have ho : 1 + v1 ≤ 26 := by omega
  have ho1 : 1 ≤ 1 + v1 := by omega
  clear l1 u1
  generalize 1 + v1 = o at *
  rcases hcl with ⟨⟨e1, e2, e3⟩, g1, g2, g3⟩ | ⟨⟨e1, e2, e3⟩, g1, g2, g3⟩ | ⟨⟨e1, e2, e3⟩, g1, g2, g3⟩ | ⟨⟨e1, e2, e3⟩, rfl⟩ | ⟨⟨e1, e2, e3⟩, rfl⟩ | ⟨⟨e1, e2, e3⟩, g1, g2, g3⟩
  all_goals rw [e1, e2, e3] at fb
  all_goals clear e1 e2 e3
  all_goals go_wp2_with (go_at_call 99; refine (fb _).mono ?_; rintro e x ⟨rfl, rfl⟩)
  · exact bodyPost_ret (v := .agg #[.int .i64 o, .int .i64 v2, .int .i64 v3, .int .i64 (v7 % 16)]) (by simp [results, Tryz.results88, go_sem, k0, k1, k2, k3, sz]) rfl ⟨_, _, _, _, rfl, by unfold small; omega, by unfold small; omega, by unfold small; omega, by unfold small; omega, ((((T7.out.putC (p := ⟨w.heap.size, 0, none⟩) (Nat.le_refl _) _).putC (p := ⟨w.heap.size, 1, none⟩) (Nat.le_refl _) _).putC (p := ⟨w.heap.size, 2, none⟩) (Nat.le_refl _) _).putC (p := ⟨w.heap.size, 3, none⟩) (Nat.le_refl _) _).push _, ((((S7.out.putC (p := ⟨w.heap.size, 0, none⟩) HH.out _).putC (p := ⟨w.heap.size, 1, none⟩) HH.out _).putC (p := ⟨w.heap.size, 2, none⟩) HH.out _).putC (p := ⟨w.heap.size, 3, none⟩) HH.out _).alloc _⟩
  · exact bodyPost_ret (v := .agg #[.int .i64 o, .int .i64 v2, .int .i64 v3, .int .i64 v7]) (by simp [results, Tryz.results88, go_sem, k0, k1, k2, k3, sz]) rfl ⟨_, _, _, _, rfl, by unfold small; omega, by unfold small; omega, by unfold small; omega, by unfold small; omega, ((((T7.out.putC (p := ⟨w.heap.size, 0, none⟩) (Nat.le_refl _) _).putC (p := ⟨w.heap.size, 1, none⟩) (Nat.le_refl _) _).putC (p := ⟨w.heap.size, 2, none⟩) (Nat.le_refl _) _).putC (p := ⟨w.heap.size, 3, none⟩) (Nat.le_refl _) _).push _, ((((S7.out.putC (p := ⟨w.heap.size, 0, none⟩) HH.out _).putC (p := ⟨w.heap.size, 1, none⟩) HH.out _).putC (p := ⟨w.heap.size, 2, none⟩) HH.out _).putC (p := ⟨w.heap.size, 3, none⟩) HH.out _).alloc _⟩
  · exact bodyPost_ret (v := .agg #[.int .i64 o, .int .i64 v2, .int .i64 0, .int .i64 v7]) (by simp [results, Tryz.results88, go_sem, k0, k1, k2, k3, sz]) rfl ⟨_, _, _, _, rfl, by unfold small; omega, by unfold small; omega, by unfold small; omega, by unfold small; omega, ((((T7.out.putC (p := ⟨w.heap.size, 0, none⟩) (Nat.le_refl _) _).putC (p := ⟨w.heap.size, 1, none⟩) (Nat.le_refl _) _).putC (p := ⟨w.heap.size, 2, none⟩) (Nat.le_refl _) _).putC (p := ⟨w.heap.size, 3, none⟩) (Nat.le_refl _) _).push _, ((((S7.out.putC (p := ⟨w.heap.size, 0, none⟩) HH.out _).putC (p := ⟨w.heap.size, 1, none⟩) HH.out _).putC (p := ⟨w.heap.size, 2, none⟩) HH.out _).putC (p := ⟨w.heap.size, 3, none⟩) HH.out _).alloc _⟩
  · exact bodyPost_ret (v := .agg #[.int .i64 21, .int .i64 v2, .int .i64 0, .int .i64 (v7 % 11)]) (by simp [results, Tryz.results88, go_sem, k0, k1, k2, k3, sz]) rfl ⟨_, _, _, _, rfl, by unfold small; omega, by unfold small; omega, by unfold small; omega, by unfold small; omega, ((((T7.out.putC (p := ⟨w.heap.size, 0, none⟩) (Nat.le_refl _) _).putC (p := ⟨w.heap.size, 1, none⟩) (Nat.le_refl _) _).putC (p := ⟨w.heap.size, 2, none⟩) (Nat.le_refl _) _).putC (p := ⟨w.heap.size, 3, none⟩) (Nat.le_refl _) _).push _, ((((S7.out.putC (p := ⟨w.heap.size, 0, none⟩) HH.out _).putC (p := ⟨w.heap.size, 1, none⟩) HH.out _).putC (p := ⟨w.heap.size, 2, none⟩) HH.out _).putC (p := ⟨w.heap.size, 3, none⟩) HH.out _).alloc _⟩
  · exact bodyPost_ret (v := .agg #[.int .i64 22, .int .i64 0, .int .i64 v3, .int .i64 (v7 % 11)]) (by simp [results, Tryz.results88, go_sem, k0, k1, k2, k3, sz]) rfl ⟨_, _, _, _, rfl, by unfold small; omega, by unfold small; omega, by unfold small; omega, by unfold small; omega, ((((T7.out.putC (p := ⟨w.heap.size, 0, none⟩) (Nat.le_refl _) _).putC (p := ⟨w.heap.size, 1, none⟩) (Nat.le_refl _) _).putC (p := ⟨w.heap.size, 2, none⟩) (Nat.le_refl _) _).putC (p := ⟨w.heap.size, 3, none⟩) (Nat.le_refl _) _).push _, ((((S7.out.putC (p := ⟨w.heap.size, 0, none⟩) HH.out _).putC (p := ⟨w.heap.size, 1, none⟩) HH.out _).putC (p := ⟨w.heap.size, 2, none⟩) HH.out _).putC (p := ⟨w.heap.size, 3, none⟩) HH.out _).alloc _⟩
  · exact bodyPost_ret (v := .agg #[.int .i64 o, .int .i64 0, .int .i64 0, .int .i64 0]) (by simp [results, Tryz.results88, go_sem, k0, k1, k2, k3, sz]) rfl ⟨_, _, _, _, rfl, by unfold small; omega, by unfold small; omega, by unfold small; omega, by unfold small; omega, ((((T7.out.putC (p := ⟨w.heap.size, 0, none⟩) (Nat.le_refl _) _).putC (p := ⟨w.heap.size, 1, none⟩) (Nat.le_refl _) _).putC (p := ⟨w.heap.size, 2, none⟩) (Nat.le_refl _) _).putC (p := ⟨w.heap.size, 3, none⟩) (Nat.le_refl _) _).push _, ((((S7.out.putC (p := ⟨w.heap.size, 0, none⟩) HH.out _).putC (p := ⟨w.heap.size, 1, none⟩) HH.out _).putC (p := ⟨w.heap.size, 2, none⟩) HH.out _).putC (p := ⟨w.heap.size, 3, none⟩) HH.out _).alloc _⟩
end Go.Proofs.YtdhdfopkcpkbeaaGreatDoor
namespace Go.Proofs.YtdhdfopkcpkbeaaGreatDoor
open Go.RowKit
set_option linter.unusedVariables false

theorem made_replicate (z : Value) (k m : Nat) (hk : 0 < k) : (madeCells (Array.replicate k z) m).toList = List.replicate m z := by
  apply List.ext_getElem?
  intro j
  by_cases hj : j < m
  · have : j % k < k := Nat.mod_lt _ hk
    simp [madeCells, hj, this]
  · simp [madeCells, hj]

theorem info_wpage : (Tryz.prog.info? 94).map (fun i => (i.zero, i.size, i.bytes)) = some (some (.agg (Array.replicate 8 (.int .i64 0))), 8, 64) := by kernel_rfl

end Go.Proofs.YtdhdfopkcpkbeaaGreatDoor
namespace Go.Proofs.YtdhdfopkcpkbeaaGreatDoor
open Go.RowKit
set_option linter.unusedVariables false

theorem Pags.heap {w : World} {base g p : Nat} {zs : List Int} (h : Pags w base (.slice (some ⟨g, 0, none⟩) p p) p zs) : w.heap[g]? = some (.cells (zs.map (Value.int .i64)).toArray 94 (0, 0)) := by
  obtain ⟨h1, ⟨h2, h3⟩ | ⟨g', cap, cur, hv, hb, hh, h4, h5, h6, h7⟩⟩ := h
  · simp at h2
  · simp at hv
    obtain ⟨rfl, rfl⟩ := hv
    rw [List.take_of_length_le (by simp [h6])] at h7
    rw [hh, ← h7]
theorem Pags.of_heap {w : World} {base g p : Nat} {zs : List Int} (hh : w.heap[g]? = some (.cells (zs.map (Value.int .i64)).toArray 94 (0, 0))) (hl : zs.length = p * 8) (hb : base ≤ g) (hp : p ≤ maxLen) : Pags w base (.slice (some ⟨g, 0, none⟩) p p) p zs :=
  ⟨by simpa using hl, .inr ⟨g, p, _, rfl, hb, hh, Nat.le_refl _, hp, by simpa using hl, by rw [List.take_of_length_le (by simp [hl])]⟩⟩

/-- The pages behind j rounds. -/
def cutL (zs : List Int) (p j : Nat) : List Int := zs.take (j * 8) ++ List.replicate ((p - j) * 8) 0
theorem cutL_length (zs : List Int) (p j : Nat) (hz : zs.length = p * 8) (hj : j ≤ p) : (cutL zs p j).length = p * 8 := by
  simp [cutL, hz]
  omega
def eight (zs : List Int) (j : Nat) : List Int := (zs.drop (j * 8)).take 8
theorem eight_length (zs : List Int) (p j : Nat) (hz : zs.length = p * 8) (hj : j < p) : (eight zs j).length = 8 := by
  simp [eight, hz]
  omega
theorem splice_cut (zs : List Int) (p j : Nat) (hz : zs.length = p * 8) (hj : j < p) :
    splice ((cutL zs p j).map (Value.int .i64)) (j * 8) ((eight zs j).map (Value.int .i64)) = (cutL zs p (j + 1)).map (Value.int .i64) := by
  have h8 := eight_length zs p j hz hj
  unfold splice
  rw [List.length_map, h8, ← List.map_take, ← List.map_drop, ← List.map_append, ← List.map_append]
  congr 1
  have e1 : (cutL zs p j).take (j * 8) = zs.take (j * 8) := by
    unfold cutL
    rw [List.take_append_of_le_length (by simp [hz]; omega), List.take_take, Nat.min_self]
  have e2 : (cutL zs p j).drop (j * 8 + 8) = List.replicate ((p - (j + 1)) * 8) 0 := by
    unfold cutL
    rw [List.drop_append, List.drop_of_length_le (by simp; omega), List.nil_append, List.drop_replicate]
    congr 1
    simp [hz]
    omega
  rw [e1, e2, ← List.append_assoc]
  unfold cutL eight
  rw [show (j + 1) * 8 = j * 8 + 8 by omega, List.take_add]
theorem eight_cell {w : World} {base g n cap : Nat} {zs : List Int} (h : Nums w base (.slice (some ⟨g, 0, none⟩) n cap) zs) (p j : Nat) (hz : zs.length = p * 8) (hj : j < p) (hn : n = zs.length) :
    ∀ i v, ((eight zs j).map (Value.int .i64))[i]? = some v → w.cell? ((⟨g, j * 8, none⟩ : Addr).add i) = some v := by
  intro i v hv
  have hi : i < 8 := by
    have := (List.getElem?_eq_some_iff.1 hv).1
    rw [List.length_map, eight_length zs p j hz hj] at this
    exact this
  rw [Addr.add_lit, h.cell hn (j * 8 + i) (by omega), ← hv]
  simp only [eight, List.getElem?_map, List.getElem?_take, hi, if_true, List.getElem?_drop, List.getD]
  rw [List.getElem?_eq_getElem (by omega)]
  rfl

set_option maxHeartbeats 2000000 in
theorem impl_cut (gm n cap : Nat) (zs : List Int) (b p : Nat) (w : World) (h : Nums w b (.slice (some ⟨gm, 0, none⟩) n cap) zs) (hz : zs.length = p * 8) (hp : p ≤ 24) (hp0 : 1 ≤ p) :
    Calls Tryz.prog 57 #[.slice (some ⟨gm, 0, none⟩) n cap] w fun e w' => ∃ g, e = .returned (.slice (some ⟨g, 0, none⟩) p p) ∧ Pags w' w.heap.size (.slice (some ⟨g, 0, none⟩) p p) p zs ∧ Below w.heap.size w w' := by
  obtain ⟨i, hi, hz0, hz1, hz2⟩ := info_parts info_wpage
  have HM : Hid (Nums w b _ zs) := h
  have hnn := h.len
  obtain ⟨hl1, hl2⟩ := h.lens
  unfold maxLen at hl2
  have HZ : Hid (zs.length = p * 8) := hz
  have HP : Hid (1 ≤ p ∧ p ≤ 24) := ⟨hp0, hp⟩
  obtain rfl : n = p * 8 := by omega
  have HC : Hid (p * 8 ≤ cap ∧ cap ≤ 9223372036854775807) := ⟨by omega, hl2⟩
  have hpi : (p : Int) ≤ 24 := by omega
  clear h hz hp hp0 hnn hl1 hl2
  go_enter Tryz.func57, Tryz.ntmps57
  go_wp2_with (at_make; refine wpList_make_full _ rfl _ _ 58 rfl w.heap.size 94 i _ 8 Tryz.underlying58 hi hz0 hz1 _ _ _ _ p rfl rfl (by omega) (by omega) (by have := HP.out; rw [hz2]; omega) (by have := HP.out; unfold maxLen; omega) (by simp) ?_; intro w1 hown hgrow; have b1 := (Below.refl _ _).grown hgrow (Nat.le_refl _) (by simp))
  have P1 : Hid (w1.heap[w.heap.size]? = some (.cells ((cutL zs p 0).map (Value.int .i64)).toArray 94 (0, 0))) := by
    refine Pags.heap (base := w.heap.size) (p := p) ?_
    unfold Pags
    rw [show (Value.agg (Array.replicate 8 (.int .i64 0))).cells = Array.replicate 8 (.int .i64 0) from rfl, made_replicate _ _ _ (by decide)] at hown
    simpa [cutL] using hown
  have B1 : Hid (Below w.heap.size w w1) := b1
  clear hown hgrow hi hz0 hz1 hz2 b1
  go_wp2_with fail
  go_loopw [4, 11] (fun _ c wr => ∃ j : Nat, j ≤ p ∧ c = .int .i64 j ∧ Hid (wr.heap[w.heap.size]? = some (.cells ((cutL zs p j).map (Value.int .i64)).toArray 94 (0, 0))) ∧ Below w.heap.size w wr) (fun _ c _ => p - (intOf c).toNat)
  case atStart => exact ⟨0, Nat.zero_le _, rfl, P1, B1.out⟩
  case round =>
    obtain ⟨j, hj, rfl, hH, hB⟩ := hrel
    have HB : Hid (Below _ _ _) := hB
    clear hB P1
    by_cases hlt : j < p
    · have hJ : (j : Int) < (p : Int) := by omega
      have HLT : Hid (j < p) := hlt
      have HS : Hid (∀ i v, ((eight zs j).map (Value.int .i64))[i]? = some v → wr.cell? ((⟨gm, j * 8, none⟩ : Addr).add i) = some v) := by
        intro i v hv
        exact cell_keep HB.out (eight_cell HM.out p j HZ.out hlt HZ.out.symm i v hv)
      obtain ⟨X, hX⟩ : ∃ X, X = (eight zs j).map (Value.int .i64) := ⟨_, rfl⟩
      obtain ⟨Y, hY⟩ : ∃ Y, Y = (cutL zs p j).map (Value.int .i64) := ⟨_, rfl⟩
      rw [← hX] at HS
      rw [← hY] at hH
      have XL : Hid (X.length = 8) := by show _ = _; rw [hX, List.length_map]; exact eight_length zs p j HZ.out hlt
      have YL : Hid (Y.length = p * 8) := by show _ = _; rw [hY, List.length_map]; exact cutL_length zs p j HZ.out hj
      have X1 : Hid (∀ v ∈ X, v.oneCell' = true) := by
        intro v hv
        rw [hX] at hv
        obtain ⟨z, _, rfl⟩ := List.mem_map.1 hv
        rfl
      have SP : Hid (splice Y (j * 8) X = (cutL zs p (j + 1)).map (Value.int .i64)) := by show _ = _; rw [hX, hY]; exact splice_cut zs p j HZ.out hlt
      obtain ⟨k, hk⟩ : ∃ k : Nat, j * 8 = k := ⟨_, rfl⟩
      have HK : Hid (j * 8 = k) := hk
      have hw : IntKind.i64.wrap ((j : Int) * 8) = (k : Int) := by
        rw [show (j : Int) * 8 = (k : Int) by omega]
        rw [IntKind.wrap_i64]; omega
      have hk1 : (k : Int) ≤ (p : Int) * 8 := by omega
      have hk2 : ¬ cap = k := by have := HC.out; omega
      have hk3 : Hid (k + 8 ≤ p * 8) := by show _ ≤ _; omega
      clear hX hY hlt hk
      go_wp2_with fail
      go_region_law (refine step_copy_splice rfl (.tmp 17) (.tmp 21) 32 32 rfl 2 Tryz.underlying32 (by kernel_rfl) (some ⟨w.heap.size, j * 8, none⟩) (some ⟨gm, k, none⟩) 8 8 (p * 8 - k) (cap - k) (by simp [Act.eval, Act.put]) (by simp [Act.eval, Act.put]) w.heap.size (j * 8) Y 94 hH.out X (by rw [XL.out]; have := hk3.out; exact (Nat.min_eq_right (by omega)).symm) (fun _ => ⟨rfl, _, rfl, by rw [← HK.out]; exact HS.out⟩) (by rw [XL.out, YL.out]; have := hk3.out; have := HK.out; omega) X1.out w.heap.size w (by first | exact HB.out | exact HB.out.drew | exact HB.out.drew.drew) (Nat.le_refl _) ?_; intro w4 hg4 hb4)
      have H4 : Hid (w4.heap[w.heap.size]? = some (.cells ((cutL zs p (j + 1)).map (Value.int .i64)).toArray 94 (0, 0))) := by
        show _ = _
        rw [← SP.out]
        exact hg4.out
      have B4 : Hid (Below w.heap.size w w4) := hb4
      clear hg4 hb4 SP X1 XL YL HS hH
      go_wp2_with fail
      go_roundw
      case rel => exact ⟨j + 1, by have := HLT.out; omega, by go_num, H4, B4.out⟩
      case measure => have := HLT.out; simp [intOf]; omega
    · have hJ : ¬ (j : Int) < (p : Int) := by omega
      obtain rfl : j = p := by omega
      go_wp2_with fail
      go_ret
      refine ⟨_, rfl, ?_, HB.out⟩
      have h1 := hH.out
      have e : cutL zs j j = zs := by simp [cutL, List.take_of_length_le (Nat.le_of_eq HZ.out)]
      rw [e] at h1
      exact Pags.of_heap h1 HZ.out (Nat.le_refl _) (by have := HP.out; unfold maxLen; omega)
end Go.Proofs.YtdhdfopkcpkbeaaGreatDoor
namespace Go.Proofs.YtdhdfopkcpkbeaaGreatDoor
open Go.RowKit
set_option linter.unusedVariables false

theorem getD_mem {α : Type} (zs : List α) (d : α) (k : Nat) (h : k < zs.length) : zs.getD k d ∈ zs := by
  rw [List.getD, List.getElem?_eq_getElem h]
  exact List.getElem_mem h
def wordsL (ms : List Int) : List Int → List Int
  | [] => []
  | p :: t => eight ms p.toNat ++ wordsL ms t
theorem wordsL_append (ms a b : List Int) : wordsL ms (a ++ b) = wordsL ms a ++ wordsL ms b := by
  induction a with
  | nil => rfl
  | cons p t ih => rw [List.cons_append, wordsL, wordsL, ih, List.append_assoc]
theorem wordsL_take (ms ps : List Int) (j : Nat) (h : j < ps.length) : wordsL ms (ps.take (j + 1)) = wordsL ms (ps.take j) ++ eight ms (ps.getD j 0).toNat := by
  rw [take_succ_getD ps 0 j h, wordsL_append, wordsL, wordsL, List.append_nil]
theorem Pags.nil (w : World) (base : Nat) : Pags w base (.slice none 0 0) 0 [] := World.ownsRow_nil w base _ _
theorem Pags.shape {w : World} {base n : Nat} {v : Value} {zs : List Int} (h : Pags w base v n zs) : ∃ a cap, v = .slice a n cap ∧ n ≤ cap ∧ cap ≤ maxLen ∧ (0 < n → ∃ g, a = some ⟨g, 0, none⟩) := by
  have h' := h
  obtain ⟨h1, ⟨rfl, h3⟩ | ⟨g, cap, cur, rfl, _, _, h4, h5, _⟩⟩ := h'
  · exact ⟨none, 0, by rw [h3], by omega, by unfold maxLen; omega, fun hz => by omega⟩
  · exact ⟨_, _, rfl, h4, h5, fun _ => ⟨g, rfl⟩⟩
theorem Pags.inb {w : World} {base n : Nat} {v : Value} {zs : List Int} (h : Pags w base v n zs) : ∀ k, v.ownBlock = some k → base ≤ k ∧ k < w.heap.size := World.ownsRow.lt h
theorem eight_list (zs : List Int) (p : Nat) (h : p * 8 + 8 ≤ zs.length) : eight zs p = [zs.getD (p * 8) 0, zs.getD (p * 8 + 1) 0, zs.getD (p * 8 + 2) 0, zs.getD (p * 8 + 3) 0, zs.getD (p * 8 + 4) 0, zs.getD (p * 8 + 5) 0, zs.getD (p * 8 + 6) 0, zs.getD (p * 8 + 7) 0] := by
  have h1 := take_eight zs (p * 8) h
  rw [List.take_add] at h1
  exact List.append_cancel_left h1
/-- append of one page to a slice of pages of the call's own. -/
theorem wp_pag {ops : Array Oper} {rest : List Oper} {o : Oper} {act : Act} {Q : Exit → Act → World → Prop} (w : World) (hgd : o.guard = none) (s x : Operand)
    (ho : o.op = .call { callee := .builtin .append, args := #[s, x], argTypes := #[58, 58] }) (base : Nat) (v : Value) (n : Nat) (zs : List Int) (hs : act.eval s = v) (hN : Pags w base v n zs)
    (B : Nat) (ys : List Int) (hy : ys.length = 8) (hx : act.eval x = .slice (some ⟨B, 0, none⟩) 1 1) (hc : ∀ i, i < 8 → w.cell? ⟨B, i, none⟩ = some (.int .i64 (ys.getD i 0)))
    (hlen : n ≤ 1000) (hbase : base ≤ w.heap.size)
    (h : ∀ v' w', Pags w' base v' (n + 1) (zs ++ ys) → w.grownBy w' v.ownBlock → wpList Tryz.prog ops Q rest (act.put o.dst v') w') : wpList Tryz.prog ops Q (o :: rest) act w := by
  obtain ⟨i, hi, hz0, hz1, hz2⟩ := info_parts info_wpage
  refine wpList_append_own w hgd s x 58 ho base 94 i _ 8 64 Tryz.underlying58 hi hz0 hz1 hz2 rfl (by decide) v n _ hs hN ⟨B, 0, none⟩ 1 1 (ys.map (Value.int .i64)) hx (by simpa using hy) ?_ ?_ (by unfold maxLen; omega) (by omega) hbase ?_
  · intro j u hj
    have hjl : j < ys.length := by have := (List.getElem?_eq_some_iff.1 hj).1; simpa using this
    rw [List.getElem?_map, List.getElem?_eq_getElem hjl] at hj
    have := hc j (by omega)
    rw [List.getD, List.getElem?_eq_getElem hjl] at this
    rw [show (⟨B, 0, none⟩ : Addr).add j = ⟨B, j, none⟩ by rw [Addr.add_lit]; simp, this]
    exact hj
  · intro u hu
    obtain ⟨z, _, rfl⟩ := List.mem_map.1 hu
    rfl
  · intro v' w' hown hgrow _
    refine h v' w' ?_ hgrow
    unfold Pags
    rw [List.map_append]
    exact hown
theorem i_join0 (w : World) : Calls Tryz.prog 22 #[.slice none 0 0] w fun e w' => e = .returned (.slice none 0 0) ∧ w' = w := by
  go_enter Tryz.func22, Tryz.ntmps22
  go_wp2_with fail
  go_loop [3, 5, 8] (fun v _ c => c = .int .i64 0 ∧ v = .slice none 0 0) (fun _ _ _ => 0)
  case atStart => exact ⟨rfl, rfl⟩
  case round =>
    obtain ⟨rfl, rfl⟩ := hrel
    go_wp2_with fail
    go_ret
    exact ⟨rfl, rfl⟩
set_option maxRecDepth 20000 in
set_option maxHeartbeats 4000000 in
theorem i_among (g mc : Nat) (ms : List Int) (ap : Option Addr) (lp cp : Nat) (ps : List Int) (w : World) (mp : Nat) (hpc0 : ∀ k, k < mp * 8 → w.cell? ⟨g, k, none⟩ = some (.int .i64 (ms.getD k 0))) (h1 : 1 ≤ mp) (h24 : mp ≤ 24) (hm : ms.length = mp * 8) (hp : IsNs w ap lp cp ps) (hr : ∀ x ∈ ps, 0 ≤ x ∧ x < mp) (hl : ps.length ≤ 5) :
    Calls Tryz.prog 56 #[.slice (some ⟨g, 0, none⟩) mp mc, .slice ap lp cp] w fun e w' => ∃ v, e = .returned v ∧ Nums w' w.heap.size v (wordsL ms ps) ∧ Below w.heap.size w w' := by
  have PC : Hid (∀ k, k < mp * 8 → w.cell? ⟨g, k, none⟩ = some (.int .i64 (ms.getD k 0))) := hpc0
  have HP : Hid (IsNs w ap lp cp ps) := hp
  have HR : Hid (∀ x ∈ ps, 0 ≤ x ∧ x < mp) := hr
  have HMP : Hid (1 ≤ mp ∧ mp ≤ 24) := ⟨h1, h24⟩
  have hmpI : (mp : Int) ≤ 24 := by omega
  have hmp1 : (1 : Int) ≤ (mp : Int) := by omega
  clear h1 h24
  have HLP : Hid (lp = ps.length ∧ lp ≤ 5) := ⟨hp.len, by have := hp.len; omega⟩
  have HMS : Hid (ms.length = mp * 8) := hm
  have hlpI : (lp : Int) ≤ 5 := by have := HLP.out; omega
  clear hpc0 hp hr hl hm
  go_enter Tryz.func56, Tryz.ntmps56
  go_wp2_with fail
  have B1 : Hid (Below w.heap.size w w) := Below.refl _ _
  go_loopw [5, 7, 10] (fun v _ c wr => ∃ j : Nat, j ≤ lp ∧ c = .int .i64 j ∧ Pags wr w.heap.size v j (wordsL ms (ps.take j)) ∧ Below w.heap.size w wr) (fun _ _ c _ => lp - (intOf c).toNat)
  case atStart => exact ⟨0, Nat.zero_le _, rfl, Pags.nil _ _, Below.refl _ _⟩
  case round =>
    obtain ⟨j, hj, rfl, hN, hB⟩ := hrel
    have HN : Hid (Pags wr _ _ j _) := hN
    have HB : Hid (Below _ w wr) := hB
    obtain ⟨ya, yc, hz, _, _, hsome⟩ := hN.shape
    subst hz
    by_cases hlt : j < lp
    · rcases HP.out.stay (on B1.out hB) with ⟨_, e1, _, _⟩ | ⟨y, rfl, e1, e2, e3, e4⟩
      · omega
      have d0 := e4 j hlt
      have hJ : (j : Int) < (lp : Int) := by omega
      have HLT : Hid (j < lp) := hlt
      have hin := HR.out _ (getD_mem ps 0 j (by have := HLP.out; omega))
      have TK : Hid (_ = _) := wordsL_take ms ps j (by have := HLP.out; omega)
      obtain ⟨z, hz⟩ : ∃ z, ps.getD j 0 = z := ⟨_, rfl⟩
      rw [hz] at d0 hin TK
      clear hz e1 e2 e3 e4
      obtain ⟨p, rfl⟩ := Int.eq_ofNat_of_zero_le hin.1
      have hp8 : (p : Int) < (mp : Int) := by omega
      have hpN : p < mp := by omega
      have EL : Hid (wordsL ms (ps.take (j + 1)) = wordsL ms (ps.take j) ++ [ms.getD (p * 8) 0, ms.getD (p * 8 + 1) 0, ms.getD (p * 8 + 2) 0, ms.getD (p * 8 + 3) 0, ms.getD (p * 8 + 4) 0, ms.getD (p * 8 + 5) 0, ms.getD (p * 8 + 6) 0, ms.getD (p * 8 + 7) 0]) := by
        show _ = _
        rw [TK.out, Int.toNat_natCast, eight_list ms p (by have := HMS.out; omega)]
      have hpc := fun k (hk : k < mp * 8) => cell_keep hB (PC.out k hk)
      have f0 := hpc (p * 8) (by omega)
      have f1 := hpc (p * 8 + 1) (by omega)
      have f2 := hpc (p * 8 + 2) (by omega)
      have f3 := hpc (p * 8 + 3) (by omega)
      have f4 := hpc (p * 8 + 4) (by omega)
      have f5 := hpc (p * 8 + 5) (by omega)
      have f6 := hpc (p * 8 + 6) (by omega)
      have f7 := hpc (p * 8 + 7) (by omega)
      generalize ms.getD (p * 8) 0 = x0 at *
      generalize ms.getD (p * 8 + 1) 0 = x1 at *
      generalize ms.getD (p * 8 + 2) 0 = x2 at *
      generalize ms.getD (p * 8 + 3) 0 = x3 at *
      generalize ms.getD (p * 8 + 4) 0 = x4 at *
      generalize ms.getD (p * 8 + 5) 0 = x5 at *
      generalize ms.getD (p * 8 + 6) 0 = x6 at *
      generalize ms.getD (p * 8 + 7) 0 = x7 at *
      have SZ : Hid (w.heap.size ≤ wr.heap.size) := hB.size
      clear hpc hin TK hlt hN hB hsome
      go_wp2_with (at_builtin; refine wp_pag _ rfl _ _ rfl w.heap.size _ j _ rfl (HN.out.keep (al (Below.refl _ _) _)) wr.heap.size [x0, x1, x2, x3, x4, x5, x6, x7] rfl rfl (cells_eight _ _ _ _ _ _ _ _ _ _) (by have := HLT.out; have := HLP.out; omega) (by have := SZ.out; simp; omega) ?_; intro v' w' hN' hG')
      have N' : Hid (Pags w' _ v' (j + 1) _) := hN'
      have B' : Hid (Below w.heap.size w w') := (al HB.out _).grown hG' (by have := SZ.out; simp; omega) (fun k hk => (HN.out.inb k hk).1)
      clear hN' hG'
      go_wp2_with fail
      go_roundw
      case rel => exact ⟨j + 1, by have := HLT.out; omega, by go_num, by rw [EL.out]; exact N'.out, B'.out⟩
      case measure => have := HLT.out; simp [intOf]; omega
    · have hJ : ¬ (j : Int) < (lp : Int) := by omega
      have HJ : Hid (j = lp) := by show _ = _; omega
      have ET : Hid (wordsL ms (ps.take j) = wordsL ms ps) := by show _ = _; rw [List.take_of_length_le (by have := HLP.out; have := HJ.out; omega)]
      by_cases h0 : j = 0
      · subst h0
        have e0 : ps = [] := List.eq_nil_of_length_eq_zero (by have := HLP.out.1; have := HJ.out; omega)
        have hya : ya = none ∧ yc = 0 ∨ ∃ g', ya = some ⟨g', 0, none⟩ := by
          obtain ⟨_, ⟨h2, _⟩ | ⟨g', cap', cur, h2, _⟩⟩ := hN
          · simp at h2; exact .inl ⟨h2.1, h2.2⟩
          · simp at h2; exact .inr ⟨g', h2.1⟩
        rcases hya with ⟨rfl, rfl⟩ | ⟨gg, rfl⟩
        · clear hlt hN hB hsome
          go_wp2_with fail
          refine (i_join0 _).mono ?_
          rintro e w2 ⟨rfl, rfl⟩
          have N2 : Hid (Nums w2 w.heap.size (.slice none 0 0) (wordsL ms ps)) := by rw [e0]; exact Nums.nil _ _
          go_wp2_with fail
          go_ret
          exact ⟨_, rfl, N2.out, on B1.out HB.out⟩
        · clear hlt hN hB hsome
          go_wp2_with fail
          refine (impl_join _ _ _ _ _ _ HN.out (by omega)).mono ?_
          rintro e w2 ⟨v, rfl, n2', b2⟩
          have B2 : Hid (Below w.heap.size w w2) := on B1.out (on HB.out b2)
          have N2 : Hid (Nums w2 w.heap.size v (wordsL ms ps)) := by rw [ET.out] at n2'; exact n2'.mono ((on B1.out HB.out).size)
          clear b2 n2'
          go_wp2_with fail
          go_ret
          exact ⟨_, rfl, N2.out, B2.out⟩
      obtain ⟨gg, rfl⟩ := hsome (by omega)
      clear hlt hN hB hsome
      go_wp2_with fail
      refine (impl_join _ _ _ _ _ _ HN.out (by have := HJ.out; have := HLP.out; omega)).mono ?_
      rintro e w2 ⟨v, rfl, n2', b2⟩
      have B2 : Hid (Below w.heap.size w w2) := on B1.out (on HB.out b2)
      have N2 : Hid (Nums w2 w.heap.size v (wordsL ms ps)) := by rw [ET.out] at n2'; exact n2'.mono ((on B1.out HB.out).size)
      clear b2 n2'
      go_wp2_with fail
      go_ret
      exact ⟨_, rfl, N2.out, B2.out⟩
set_option maxRecDepth 20000 in
set_option maxHeartbeats 4000000 in
theorem i_wordsN (gm n cap b : Nat) (ms : List Int) (ap : Option Addr) (lp cp : Nat) (ps : List Int) (w : World) (h : Nums w b (.slice (some ⟨gm, 0, none⟩) n cap) ms) (mp : Nat) (h1 : 1 ≤ mp) (h24 : mp ≤ 24) (hm : ms.length = mp * 8) (hp : IsNs w ap lp cp ps) (hr : ∀ x ∈ ps, 0 ≤ x ∧ x < mp) (hl : ps.length ≤ 5) :
    Calls Tryz.prog 32 #[.slice (some ⟨gm, 0, none⟩) n cap, .slice ap lp cp] w fun e w' => ∃ v, e = .returned v ∧ Nums w' w.heap.size v (wordsL ms ps) ∧ Below w.heap.size w w' := by
  have HM : Hid (Nums w b (.slice (some ⟨gm, 0, none⟩) n cap) ms) := h
  have HP : Hid (IsNs w ap lp cp ps) := hp
  have HR : Hid ((∀ x ∈ ps, 0 ≤ x ∧ x < mp) ∧ ps.length ≤ 5) := ⟨hr, hl⟩
  have HMP : Hid (1 ≤ mp ∧ mp ≤ 24) := ⟨h1, h24⟩
  have HMS : Hid (ms.length = mp * 8) := hm
  clear h hp hr hl hm h1 h24
  go_enter Tryz.func32, Tryz.ntmps32
  go_wp2_with fail
  refine (impl_cut gm n cap ms b mp _ HM.out HMS.out HMP.out.2 HMP.out.1).mono ?_
  rintro e w1 ⟨g, rfl, pg, b1⟩
  have PG : Hid (Pags w1 _ (.slice (some ⟨g, 0, none⟩) mp mp) mp ms) := pg
  have B1 : Hid (Below w.heap.size w w1) := b1
  clear pg b1
  go_wp2_with fail
  refine (i_among g mp ms ap lp cp ps w1 mp (fun k hk => PG.out.cell k hk) HMP.out.1 HMP.out.2 HMS.out (HP.out.stay B1.out) HR.out.1 HR.out.2).mono ?_
  rintro e w2 ⟨v, rfl, n2', b2⟩
  have B2 : Hid (Below w.heap.size w w2) := on B1.out b2
  have N2 : Hid (Nums w2 w.heap.size v (wordsL ms ps)) := n2'.mono B1.out.size
  clear b2 n2'
  go_wp2_with fail
  go_ret
  exact ⟨_, rfl, N2.out, B2.out⟩
end Go.Proofs.YtdhdfopkcpkbeaaGreatDoor
namespace Go.Proofs.YtdhdfopkcpkbeaaGreatDoor
open Go.RowKit
set_option linter.unusedVariables false

def kindB (k : Int) : Bool := decide (k = 1 ∨ k = 2 ∨ k = 4)
def kindV (k : Int) : Int := if k = 1 then 7 else if k = 2 then 8 else if k = 4 then 9 else 0
theorem kind_cases {k : Int} (h : kindB k = true) : k = 1 ∨ k = 2 ∨ k = 4 := of_decide_eq_true h
theorem kind_not {k : Int} (h : kindB k = false) : (k == 1) = false ∧ (k == 2) = false ∧ (k == 4) = false := by
  have := of_decide_eq_false h
  simp
  omega
theorem band_zero (k : Int) : bits BinOp.and .i64 0 k = 0 := by
  show IntKind.i64.wrap ((BitVec.ofInt 64 0 &&& BitVec.ofInt 64 k).toNat : Int) = 0
  rw [BitVec.toNat_and]
  simp [IntKind.wrap_i64]

theorem impl_kind (k : Int) (w : World) : Calls Tryz.prog 84 #[.int .i64 k] w fun e w' => e = .returned (.tuple #[.int .i64 (kindV k), .bool (kindB k)]) ∧ w' = w := by
  cases h : kindB k
  · obtain ⟨h1, h2, h4⟩ := kind_not h
    have hv : kindV k = 0 := by simp at h1 h2 h4; simp [kindV, h1, h2, h4]
    rw [hv]
    clear hv h
    go_enter Tryz.func84, Tryz.ntmps84
    go_wp2_with fail
    go_ret2
    exact ⟨rfl, rfl⟩
  · rcases kind_cases h with rfl | rfl | rfl
    all_goals
      go_enter Tryz.func84, Tryz.ntmps84
      go_wp2_with fail
      go_ret2
      exact ⟨rfl, rfl⟩

/-- Where a place leads in one list, for a kind that there is. -/
def goesB (rs : List (Int × Int)) (at_ k : Int) : Bool := decide (0 ≤ at_) && decide (at_ ≤ 63) && !(bits BinOp.and .i64 (rs.getD (at_ / 8).toNat (0, 0)).2 k == 0)
def goesTo (rs : List (Int × Int)) (at_ : Int) : Int := (rs.getD (at_ / 8).toNat (0, 0)).1 * 8 + at_ % 8
/-- Code and value of a walk through a list without a fault. -/
def wkC (rs : List (Int × Int)) (at_ k : Int) : Int := if kindB k then (if goesB rs at_ k then 0 else kindV k) else 3
def wkV (rs : List (Int × Int)) (at_ k : Int) : Int := if kindB k then (if goesB rs at_ k then goesTo rs at_ else 0) else 0
theorem okTo_at {rs : List (Int × Int)} {t : Int} (h : okTo t rs 8) {x : Int} (h0 : 0 ≤ x) (h1 : x ≤ 63) : pgC t (rs.getD (x / 8).toNat (0, 0)).1 (rs.getD (x / 8).toNat (0, 0)).2 = 0 := h _ (by omega)
/-- The page of a place. -/
def atB (x : Int) : Bool := decide (0 ≤ x) && decide (x ≤ 63)
def atN (x : Int) : Int := if atB x then x / 8 else 0
theorem impl_pageOf (x : Int) (w : World) : Calls Tryz.prog 58 #[.int .i64 x] w fun e w' => e = .returned (.tuple #[.int .i64 (atN x), .bool (atB x)]) ∧ w' = w := by
  by_cases h1 : x < 0
  · have e1 : atB x = false := by simp [atB]; omega
    rw [atN, e1]
    clear e1
    go_enter Tryz.func58, Tryz.ntmps58
    go_wp2_with fail
    go_ret2
    exact ⟨rfl, rfl⟩
  by_cases h2 : 64 ≤ x
  · have e1 : atB x = false := by simp [atB]; omega
    rw [atN, e1]
    clear e1
    go_enter Tryz.func58, Tryz.ntmps58
    go_wp2_with fail
    go_ret2
    exact ⟨rfl, rfl⟩
  have e1 : atB x = true := by simp [atB]; omega
  have h3 : 0 ≤ x := by omega
  have h4 : x < 64 := by omega
  rw [atN, e1, if_pos rfl]
  clear e1 h1 h2
  go_enter Tryz.func58, Tryz.ntmps58
  go_wp2_with fail
  go_ret2
  exact ⟨rfl, rfl⟩

/-- Code and value of a walk by what is said of a page. -/
def wpgC (q k : Int) : Int := if kindB k then (if bits BinOp.and .i64 q k == 0 then kindV k else 0) else 3
def wpgV (p q x k : Int) : Int := if kindB k then (if bits BinOp.and .i64 q k == 0 then 0 else p * 8 + x % 8) else 0
set_option maxHeartbeats 1000000 in
theorem impl_walkPage (p q x k : Int) (w : World) (h : (bits BinOp.and .i64 q k == 0) = false → 0 ≤ p ∧ p ≤ 23 ∧ 0 ≤ x ∧ x ≤ 63) :
    Calls Tryz.prog 59 #[.agg #[.int .i64 p, .int .i64 q], .int .i64 x, .int .i64 k] w fun e w' => e = .returned (.agg #[.int .i64 (wpgC q k), .int .i64 (wpgV p q x k)]) ∧ Below w.heap.size w w' := by
  cases hk : kindB k
  · have e1 : wpgC q k = 3 := by simp [wpgC, hk]
    have e2 : wpgV p q x k = 0 := by simp [wpgV, hk]
    rw [e1, e2]
    clear e1 e2 h
    go_enter Tryz.func59, Tryz.ntmps59
    go_wp2_with (go_at_call 84; refine (impl_kind _ _).mono ?_; rintro e w1 ⟨rfl, rfl⟩; rw [hk])
    exact bodyPost_ret (v := .agg #[.int .i64 3, .int .i64 0]) (by simp [results, Tryz.results59, go_sem]) rfl ⟨rfl, al (al (Below.refl _ _) _) _⟩
  generalize hkv : kindV k = kv at *
  have HKV : Hid (kindV k = kv) := hkv
  cases hq : (bits BinOp.and .i64 q k == 0)
  · obtain ⟨p1, p2, h3, h4⟩ := h hq
    have e1 : wpgC q k = 0 := by unfold wpgC; rw [hk, hq]; rfl
    have e2 : wpgV p q x k = p * 8 + x % 8 := by unfold wpgV; rw [hk, hq]; rfl
    rw [e1, e2]
    clear e1 e2 hkv h
    go_enter Tryz.func59, Tryz.ntmps59
    go_wp2_with (go_at_call 84; refine (impl_kind _ _).mono ?_; rintro e w1 ⟨rfl, rfl⟩; rw [hk, HKV.out])
    exact bodyPost_ret (v := .agg #[.int .i64 0, .int .i64 (p * 8 + x % 8)]) (by simp [results, Tryz.results59, go_sem]) rfl ⟨rfl, al (al (Below.refl _ _) _) _⟩
  · have e1 : wpgC q k = kv := by unfold wpgC; rw [hk, hq, hkv]; rfl
    have e2 : wpgV p q x k = 0 := by unfold wpgV; rw [hk, hq]; rfl
    rw [e1, e2]
    clear e1 e2 hkv h
    go_enter Tryz.func59, Tryz.ntmps59
    go_wp2_with (go_at_call 84; refine (impl_kind _ _).mono ?_; rintro e w1 ⟨rfl, rfl⟩; rw [hk, HKV.out])
    exact bodyPost_ret (v := .agg #[.int .i64 kv, .int .i64 0]) (by simp [results, Tryz.results59, go_sem]) rfl ⟨rfl, al (al (Below.refl _ _) _) _⟩

set_option maxHeartbeats 1000000 in
theorem impl_walk (v : Value) (rs : List (Int × Int)) (x k : Int) (b : Nat) (w : World) (h : Prs 96 w b v rs) (hl : rs.length = 8) (ho : okTo 24 rs 8) :
    Calls Tryz.prog 34 #[v, .int .i64 x, .int .i64 k] w fun e w' => e = .returned (.agg #[.int .i64 (wkC rs x k), .int .i64 (wkV rs x k)]) ∧ Below w.heap.size w w' := by
  obtain ⟨a, cap, rfl, l1, l2, hg⟩ := h.shape
  obtain ⟨g, rfl⟩ := hg (by omega)
  rw [hl]
  have HZ : Hid (Prs 96 w b (.slice (some ⟨g, 0, none⟩) 8 cap) rs) := by show Prs 96 _ _ _ _; rw [← hl]; exact h
  have HL : Hid (rs.length = 8) := hl
  clear l1 l2 hg h hl
  cases hb : atB x
  · have hgo : goesB rs x k = false := by unfold goesB; unfold atB at hb; rw [hb]; rfl
    have e1 : wkC rs x k = wpgC 0 k := by unfold wkC wpgC; rw [hgo, band_zero]; rfl
    have e2 : wkV rs x k = wpgV (-1) 0 x k := by unfold wkV wpgV; rw [hgo, band_zero]; rfl
    rw [e1, e2]
    have hW := fun u => impl_walkPage (-1) 0 x k u (fun hh => by rw [band_zero] at hh; exact absurd hh (by decide))
    generalize wpgC 0 k = c at *
    generalize wpgV (-1) 0 x k = y at *
    clear e1 e2 hgo
    go_enter Tryz.func34, Tryz.ntmps34
    go_wp2_with (first | (go_at_call 58; refine (impl_pageOf _ _).mono ?_; rintro e w1 ⟨rfl, rfl⟩; rw [hb]) | (go_at_call 59; refine (hW _).mono ?_; rintro e w1 ⟨rfl, b1⟩; have k0 := cell_keep b1 (cell_new (i := 0) rfl); have k1 := cell_keep b1 (cell_new (i := 1) rfl); have z0 : w1.frozen? ⟨w.heap.size, 0, none⟩ = false := (by rw [(bcell b1).2 _ _ (by simp)]; simp); have z1 : w1.frozen? ⟨w.heap.size, 1, none⟩ = false := (by rw [(bcell b1).2 _ _ (by simp)]; simp); have B1 : Hid (Below w.heap.size w w1) := on (al (Below.refl _ _) _) b1; clear b1))
    exact bodyPost_ret (v := .agg #[.int .i64 c, .int .i64 y]) (by simp [results, Tryz.results34, go_sem, k0, k1]) rfl ⟨rfl, (B1.out.setCell (by simp) _).setCell (by simp) _⟩
  have hb2 := hb
  simp only [atB, Bool.and_eq_true, decide_eq_true_eq] at hb2
  obtain ⟨h3, h4⟩ := hb2
  have hz := pgC_zero (okTo_at ho h3 h4)
  have c1 := (HZ.out.cell HL.out.symm (x / 8).toNat (by omega)).1
  have c2 := (HZ.out.cell HL.out.symm (x / 8).toNat (by omega)).2
  have gb : g < w.heap.size := block_of_cell c1
  have q0 : 0 ≤ x / 8 := by omega
  have q1 : x / 8 < 8 := by omega
  have hgo : goesB rs x k = !(bits BinOp.and .i64 (rs.getD (x / 8).toNat (0, 0)).2 k == 0) := by unfold goesB; simp [h3, h4]
  have e1 : wkC rs x k = wpgC (rs.getD (x / 8).toNat (0, 0)).2 k := by
    unfold wkC wpgC; rw [hgo]
    cases kindB k <;> cases (bits BinOp.and .i64 (rs.getD (x / 8).toNat (0, 0)).2 k == 0) <;> rfl
  have e2 : wkV rs x k = wpgV (rs.getD (x / 8).toNat (0, 0)).1 (rs.getD (x / 8).toNat (0, 0)).2 x k := by
    unfold wkV wpgV goesTo; rw [hgo]
    cases kindB k <;> cases (bits BinOp.and .i64 (rs.getD (x / 8).toNat (0, 0)).2 k == 0) <;> rfl
  rw [e1, e2]
  have en : atN x = x / 8 := by rw [atN, hb]; rfl
  clear e1 e2 hgo
  generalize (rs.getD (x / 8).toNat (0, 0)).1 = p at *
  generalize (rs.getD (x / 8).toNat (0, 0)).2 = q at *
  obtain ⟨p1, p2, p3, p4, p5⟩ := hz
  have hW := fun u => impl_walkPage p q x k u (fun hh => ⟨(by
    apply Classical.byContradiction
    intro hn
    rw [p5 (by omega), band_zero] at hh
    exact absurd hh (by decide)), by omega, h3, h4⟩)
  generalize wpgC q k = c at *
  generalize wpgV p q x k = y at *
  clear p1 p2 p3 p4 p5
  go_enter Tryz.func34, Tryz.ntmps34
  go_wp2_with (first | (go_at_call 58; refine (impl_pageOf _ _).mono ?_; rintro e w1 ⟨rfl, rfl⟩; rw [hb, en]) | (go_at_call 59; refine (hW _).mono ?_; rintro e w1 ⟨rfl, b1⟩; have k0 := cell_keep b1 (cell_new (i := 0) rfl); have k1 := cell_keep b1 (cell_new (i := 1) rfl); have z0 : w1.frozen? ⟨w.heap.size, 0, none⟩ = false := (by rw [(bcell b1).2 _ _ (by simp)]; simp); have z1 : w1.frozen? ⟨w.heap.size, 1, none⟩ = false := (by rw [(bcell b1).2 _ _ (by simp)]; simp); have B1 : Hid (Below w.heap.size w w1) := on (al (Below.refl _ _) _) b1; clear b1))
  exact bodyPost_ret (v := .agg #[.int .i64 c, .int .i64 y]) (by simp [results, Tryz.results34, go_sem, k0, k1]) rfl ⟨rfl, (B1.out.setCell (by simp) _).setCell (by simp) _⟩
end Go.Proofs.YtdhdfopkcpkbeaaGreatDoor
namespace Go.Proofs.YtdhdfopkcpkbeaaGreatDoor
open Go.RowKit
set_option linter.unusedVariables false

/-- Where a place leads through lists, one behind the other. -/
def thr : List (List (Int × Int)) → Int → Int → Int × Int
  | [], x, _ => (0, x)
  | rs :: t, x, k => if wkC rs x k = 0 then thr t (wkV rs x k) k else (wkC rs x k, wkV rs x k)
theorem thr_drop (rss : List (List (Int × Int))) (j : Nat) (h : j < rss.length) (x k : Int) : thr (rss.drop j) x k = if wkC (rss.getD j []) x k = 0 then thr (rss.drop (j + 1)) (wkV (rss.getD j []) x k) k else (wkC (rss.getD j []) x k, wkV (rss.getD j []) x k) := by
  rw [List.drop_eq_getElem_cons h, thr, List.getD, List.getElem?_eq_getElem h]
  rfl

set_option maxHeartbeats 2000000 in
theorem impl_through (x k : Int) (S n : Nat) (rss : List (List (Int × Int))) (w : World) (hn : rss.length = n) (hn1 : n ≤ 1000) (hS : S < w.heap.size)
    (h : ∀ j, j < n → ∃ v b, w.cell? ⟨S, j, none⟩ = some (.func (.func 34) #[v] #[]) ∧ Prs 96 w b v (rss.getD j []) ∧ (rss.getD j []).length = 8 ∧ okTo 24 (rss.getD j []) 8) :
    Calls Tryz.prog 33 #[.int .i64 x, .int .i64 k, .slice (some ⟨S, 0, none⟩) n n] w fun e w' => e = .returned (.agg #[.int .i64 (thr rss x k).1, .int .i64 (thr rss x k).2]) ∧ Below w.heap.size w w' := by
  have HF : Hid (∀ j, j < n → ∃ v b, w.cell? ⟨S, j, none⟩ = some (.func (.func 34) #[v] #[]) ∧ Prs 96 w b v (rss.getD j []) ∧ (rss.getD j []).length = 8 ∧ okTo 24 (rss.getD j []) 8) := h
  have HN : Hid (rss.length = n) := hn
  have hni : (n : Int) ≤ 1000 := by omega
  clear h hn hn1
  go_enter Tryz.func33, Tryz.ntmps33
  go_wp2_with fail
  go_loopw [9, 14] (fun _ c wr => ∃ (j : Nat) (y : Int), j ≤ n ∧ c = .int .i64 j ∧ thr (rss.drop j) y k = thr rss x k ∧ Below w.heap.size w wr ∧ wr.cell? ⟨w.heap.size, 0, none⟩ = some (.int .i64 0) ∧ wr.cell? ⟨w.heap.size, 1, none⟩ = some (.int .i64 0) ∧ wr.frozen? ⟨w.heap.size, 0, none⟩ = false ∧ wr.frozen? ⟨w.heap.size, 1, none⟩ = false
    ∧ wr.cell? ⟨w.heap.size + 1, 0, none⟩ = some (.int .i64 0) ∧ wr.cell? ⟨w.heap.size + 1, 1, none⟩ = some (.int .i64 y) ∧ wr.frozen? ⟨w.heap.size + 1, 0, none⟩ = false ∧ wr.frozen? ⟨w.heap.size + 1, 1, none⟩ = false) (fun _ c _ => n - (intOf c).toNat)
  case atStart => exact ⟨0, x, Nat.zero_le _, rfl, rfl, al (al (Below.refl _ _) _) _, by simp, by simp, by simp, by simp, by simp, by simp, by simp, by simp⟩
  case round =>
    obtain ⟨j, y, hj, rfl, hT, hB, r0, r1, f0, f1, p0, p1, g0, g1⟩ := hrel
    have HB : Hid (Below w.heap.size w wr) := hB
    have s1 : w.heap.size + 1 < wr.heap.size := block_of_cell p0
    have s0 : w.heap.size < wr.heap.size := by omega
    by_cases hlt : j < n
    · obtain ⟨v, b, hc, hP, hl8, hok⟩ := HF.out j hlt
      have c1 := cell_keep hB hc
      have hI : (j : Int) < (n : Int) := by omega
      have HLT : Hid (j < n) := hlt
      have hW := fun u (q : Below w.heap.size w u) => impl_walk v (rss.getD j []) y k b u (hP.keep q) hl8 hok
      have HD := thr_drop rss j (by have := HN.out; omega) y k
      rw [hT] at HD
      have HD : Hid (thr rss x k = _) := HD
      have Sw : S < wr.heap.size := by omega
      generalize wkC (rss.getD j []) y k = cc at *
      generalize wkV (rss.getD j []) y k = vv at *
      clear hB hlt hc hP hl8 hok hT
      by_cases hcc : cc = 0
      · subst hcc
        have HD2 : Hid (thr rss x k = thr (rss.drop (j + 1)) vv k) := by show _ = _; rw [HD.out, if_pos rfl]
        clear HD
        go_wp2_with (go_at_call 34; refine (hW _ HB.out).mono ?_; rintro e w5 ⟨rfl, b5⟩; have r0 := cell_keep b5 r0; have r1 := cell_keep b5 r1; have p0 := cell_keep b5 p0; have p1 := cell_keep b5 p1; have B5 : Hid (Below w.heap.size w w5) := on HB.out b5; have f0 : w5.frozen? ⟨w.heap.size, 0, none⟩ = false := (by rw [b5.frozen (p := ⟨w.heap.size, 0, none⟩) s0]; exact f0); have f1 : w5.frozen? ⟨w.heap.size, 1, none⟩ = false := (by rw [b5.frozen (p := ⟨w.heap.size, 1, none⟩) s0]; exact f1); have g0 : w5.frozen? ⟨w.heap.size + 1, 0, none⟩ = false := (by rw [b5.frozen (p := ⟨w.heap.size + 1, 0, none⟩) s1]; exact g0); have g1 : w5.frozen? ⟨w.heap.size + 1, 1, none⟩ = false := (by rw [b5.frozen (p := ⟨w.heap.size + 1, 1, none⟩) s1]; exact g1))
        go_roundw
        case rel => exact ⟨j + 1, vv, by have := HLT.out; omega, by go_num, HD2.out.symm, (B5.out.setCell (by simp) _).setCell (by simp) _, by simp [go_sem, r0], by simp [go_sem, r1], by rw [World.frozen?_setCell, World.frozen?_setCell]; exact f0, by rw [World.frozen?_setCell, World.frozen?_setCell]; exact f1, by simp [go_sem, p0], by simp [go_sem, p1], by rw [World.frozen?_setCell, World.frozen?_setCell]; exact g0, by rw [World.frozen?_setCell, World.frozen?_setCell]; exact g1⟩
        case measure => have := HLT.out; simp [intOf]; omega
      · have HD2 : Hid (thr rss x k = (cc, vv)) := by show _ = _; rw [HD.out, if_neg hcc]
        have hc2 : (cc != 0) = true := by simpa using hcc
        clear HD hcc
        go_wp2_with (go_at_call 34; refine (hW _ HB.out).mono ?_; rintro e w5 ⟨rfl, b5⟩; have r0 := cell_keep b5 r0; have r1 := cell_keep b5 r1; have p0 := cell_keep b5 p0; have p1 := cell_keep b5 p1; have B5 : Hid (Below w.heap.size w w5) := on HB.out b5; have f0 : w5.frozen? ⟨w.heap.size, 0, none⟩ = false := (by rw [b5.frozen (p := ⟨w.heap.size, 0, none⟩) s0]; exact f0); have f1 : w5.frozen? ⟨w.heap.size, 1, none⟩ = false := (by rw [b5.frozen (p := ⟨w.heap.size, 1, none⟩) s0]; exact f1); have g0 : w5.frozen? ⟨w.heap.size + 1, 0, none⟩ = false := (by rw [b5.frozen (p := ⟨w.heap.size + 1, 0, none⟩) s1]; exact g0); have g1 : w5.frozen? ⟨w.heap.size + 1, 1, none⟩ = false := (by rw [b5.frozen (p := ⟨w.heap.size + 1, 1, none⟩) s1]; exact g1))
        exact bodyPost_ret (v := .agg #[.int .i64 cc, .int .i64 vv]) (by simp [results, Tryz.results33, go_sem, r0, r1]) rfl ⟨by rw [HD2.out], (((B5.out.setCell (by simp) _).setCell (by simp) _).setCell (by simp) _).setCell (by simp) _⟩
    · have hI : ¬ (j : Int) < (n : Int) := by omega
      obtain rfl : j = n := by omega
      have HD2 : Hid (thr rss x k = (0, y)) := by
        show _ = _
        rw [← hT, List.drop_of_length_le (Nat.le_of_eq HN.out)]
        rfl
      clear hB hT
      go_wp2_with fail
      exact bodyPost_ret (v := .agg #[.int .i64 0, .int .i64 y]) (by simp [results, Tryz.results33, go_sem, r0, r1]) rfl ⟨by rw [HD2.out], (HB.out.setCell (by simp) _).setCell (by simp) _⟩
end Go.Proofs.YtdhdfopkcpkbeaaGreatDoor
