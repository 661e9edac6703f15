/- The program's text of an instruction: names and numbers put together. -/
import Derived.Test.YtdogabmehjbphaaDoorText
import Derived.Test.YtdogabmehjbphaaDoorShelf
import Derived.OwnWalk
import Derived.Deep.AppendSrc
import Derived.Lib.AppendIntMem
namespace Go.Proofs.YtdogabmehjbphaaDoor
open Go.RowKit
set_option linter.unusedVariables false

theorem info_str : (Tryd.prog.info? 9).map (fun i => (i.zero, i.size, i.bytes)) = some (some (.string ⟨#[]⟩), 1, 16) := by kernel_rfl
theorem field_text (x y : Value) (w : World) : (Instr.field 24 (.agg #[x, y]) 1).run Tryd.prog w = .ok y w := by kernel_rfl

theorem wp_pushS {ops : Array Oper} {rest : List Oper} {o : Oper} {act : Act} {Q : Exit → Act → World → Prop} (w : World) (hgd : o.guard = none) (s x : Operand)
    (ho : o.op = .call { callee := .builtin .append, args := #[s, x], argTypes := #[51, 51] }) (base : Nat) (v : Value) (n : Nat) (xs : List Value)
    (hs : act.eval s = v) (hown : w.ownsRow base 9 1 v n xs) (g : Nat) (t : ByteArray) (hx : act.eval x = .slice (some ⟨g, 0, none⟩) 1 1) (hg : w.cell? ⟨g, 0, none⟩ = some (.string t))
    (hn : n ≤ 1000) (hbase : base ≤ w.heap.size)
    (h : ∀ v' w', w'.ownsRow base 9 1 v' (n + 1) (xs ++ [.string t]) → w.grownBy w' v.ownBlock → wpList Tryd.prog ops Q rest (act.put o.dst v') w') :
    wpList Tryd.prog ops Q (o :: rest) act w := by
  obtain ⟨i, hi, hz0, hz1, hz2⟩ := info_parts info_str
  refine wpList_append_own w hgd s x 51 ho base 9 i _ 1 16 Tryd.underlying51 hi hz0 hz1 hz2 rfl (by decide) v n xs hs hown ⟨g, 0, none⟩ 1 1 [.string t] hx rfl ?_ ?_ (by unfold maxLen; omega) (by omega) hbase ?_
  · intro j u hj
    have hj0 : j = 0 := by
      have := (List.getElem?_eq_some_iff.1 hj).1
      simpa using this
    subst hj0
    have hu : Value.string t = u := by simpa using hj
    subst hu
    exact hg
  · intro u hu
    rw [List.mem_singleton.1 hu]
    rfl
  · intro v' w' h1 h2 _
    exact h v' w' h1 h2

theorem impl_format (n : Nat) (h : n < 4294967296) (w : World) (htab : Lib.TabIs Tryd.prog w "internal/strconv.uint64pow10" .u64 Lib.pow10Tab) :
    Calls Tryd.prog 35 #[.int .i64 n, .int .i64 10] w fun e w' => e = .returned (.string (decB n)) ∧ Below w.heap.size w w' := by
  refine (Tryd.strconv_FormatInt_10 n (by omega) (by omega) w htab).mono ?_
  rintro e w' ⟨rfl, k, os, rfl⟩
  refine ⟨?_, ?_⟩
  · rw [Lib.itoa, if_neg (by omega), Int.toNat_natCast]; rfl
  · refine ⟨rfl, rfl, rfl, by show w.heap.size ≤ ((w.drewN k).heap ++ os).size; rw [Array.size_append]; exact Nat.le_add_right _ _, fun i hi => ?_⟩
    show ((w.drewN k).heap ++ os)[i]? = _
    rw [Array.getElem?_append_left (by show i < w.heap.size; omega)]
    rfl

set_option maxHeartbeats 1000000 in
theorem impl_told_dai (op d a imm : Int) (w : World) (h : 1 ≤ op ∧ op ≤ 26) (hx : op ≠ 13 ∧ op ≠ 19 ∧ op ≠ 21 ∧ op < 22) :
    Calls Tryd.prog 34 #[.agg #[.int .i64 op, .int .i64 d, .int .i64 a, .int .i64 imm]] w fun e w' => e = .returned (.slice (some ⟨w.heap.size + 1, 0, none⟩) 3 3) ∧ w' = (w.alloc (.cells #[.int .i64 op, .int .i64 d, .int .i64 a, .int .i64 imm] 31)).alloc (.cells #[.int .i64 d, .int .i64 a, .int .i64 imm] 2) := by
  have g1 : (op == 13) = false := beq_eq_false_iff_ne.2 (by omega)
  have g2 : (op == 19) = false := beq_eq_false_iff_ne.2 (by omega)
  have g3 : (op == 21) = false := beq_eq_false_iff_ne.2 (by omega)
  have g4 : (op == 22) = false := beq_eq_false_iff_ne.2 (by omega)
  have g5 : (op == 23) = false := beq_eq_false_iff_ne.2 (by omega)
  have g6 : (op == 24) = false := beq_eq_false_iff_ne.2 (by omega)
  have g7 : (op == 25) = false := beq_eq_false_iff_ne.2 (by omega)
  have g8 : (op == 26) = false := beq_eq_false_iff_ne.2 (by omega)
  clear h hx
  go_enter Tryd.func34, Tryd.ntmps34
  go_wp2
  go_ret
  exact ⟨rfl, rfl⟩
theorem impl_told_di (op d a imm : Int) (w : World) (h : op = 13 ∨ op = 19 ∨ op = 21) :
    Calls Tryd.prog 34 #[.agg #[.int .i64 op, .int .i64 d, .int .i64 a, .int .i64 imm]] w fun e w' => e = .returned (.slice (some ⟨w.heap.size + 1, 0, none⟩) 2 2) ∧ w' = (w.alloc (.cells #[.int .i64 op, .int .i64 d, .int .i64 a, .int .i64 imm] 31)).alloc (.cells #[.int .i64 d, .int .i64 imm] 2) := by
  rcases h with rfl | rfl | rfl
  all_goals
    go_enter Tryd.func34, Tryd.ntmps34
    go_wp2
    go_ret
    exact ⟨rfl, rfl⟩
theorem impl_told_ai (d a imm : Int) (w : World) :
    Calls Tryd.prog 34 #[.agg #[.int .i64 22, .int .i64 d, .int .i64 a, .int .i64 imm]] w fun e w' => e = .returned (.slice (some ⟨w.heap.size + 1, 0, none⟩) 2 2) ∧ w' = (w.alloc (.cells #[.int .i64 22, .int .i64 d, .int .i64 a, .int .i64 imm] 31)).alloc (.cells #[.int .i64 a, .int .i64 imm] 2) := by
  go_enter Tryd.func34, Tryd.ntmps34
  go_wp2
  go_ret
  exact ⟨rfl, rfl⟩
theorem impl_told_none (op d a imm : Int) (w : World) (h : op = 23 ∨ op = 24 ∨ op = 25 ∨ op = 26) :
    Calls Tryd.prog 34 #[.agg #[.int .i64 op, .int .i64 d, .int .i64 a, .int .i64 imm]] w fun e w' => e = .returned (.slice none 0 0) ∧ Below w.heap.size w w' := by
  rcases h with rfl | rfl | rfl | rfl
  all_goals
    go_enter Tryd.func34, Tryd.ntmps34
    go_wp2
    go_ret
    exact ⟨rfl, al (Below.refl _ _) _⟩
end Go.Proofs.YtdogabmehjbphaaDoor
