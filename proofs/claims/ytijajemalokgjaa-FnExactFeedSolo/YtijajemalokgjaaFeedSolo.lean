/- The law FnExactFeedSolo answers true at every input, and each argument reads behind the call as it read ahead of it; no condition. -/
import Derived.Test.YtijajemalokgjaaBase
import Derived.Lib.SmallJoins
import Derived.Test.YtijajemalokgjaaFst
import Derived.Test.YtijajemalokgjaaSre
import Derived.Test.YtijajemalokgjaaHto
import Derived.Test.YtijajemalokgjaaFsx
import Derived.Test.YtijajemalokgjaaHha
import Derived.Test.YtijajemalokgjaaWla
import Derived.Deep.RegionWith
import Derived.Deep.RegionHeld3
import Derived.Deep.Cut
import Derived.Deep.CutRange
import Derived.Test.YtijajemalokgjaaFsv
namespace Go.Proofs.Ytijajemalokgjaa
open Go.RowKit
set_option linter.unusedVariables false

def tenL (qs : List (Int × Int)) (zs : List Int) (k : Nat) : List Value := [.int .i64 (qs.getD k (0, 0)).1, .int .i64 (qs.getD k (0, 0)).2, .int .i64 (zs.getD (k * 8) 0), .int .i64 (zs.getD (k * 8 + 1) 0), .int .i64 (zs.getD (k * 8 + 2) 0), .int .i64 (zs.getD (k * 8 + 3) 0), .int .i64 (zs.getD (k * 8 + 4) 0), .int .i64 (zs.getD (k * 8 + 5) 0), .int .i64 (zs.getD (k * 8 + 6) 0), .int .i64 (zs.getD (k * 8 + 7) 0)]
theorem tenL_len (qs : List (Int × Int)) (zs : List Int) (k : Nat) : (tenL qs zs k).length = 10 := rfl
def tensL (qs : List (Int × Int)) (zs : List Int) : Nat → List Value
  | 0 => []
  | n + 1 => tensL qs zs n ++ tenL qs zs n
theorem tensL_len (qs : List (Int × Int)) (zs : List Int) : ∀ n, (tensL qs zs n).length = n * 10
  | 0 => rfl
  | n + 1 => by rw [tensL, List.length_append, tensL_len qs zs n, tenL_len]; omega
def ownL (H : Ht) (i o : Value) (qs : List (Int × Int)) (zs : List Int) : List Value := (mca H i o).toList ++ tensL qs zs 8
theorem ownL_len (H : Ht) (i o : Value) (qs : List (Int × Int)) (zs : List Int) : (ownL H i o qs zs).length = 114 := by rw [ownL, List.length_append, tensL_len]; rfl
theorem tenL_one (qs : List (Int × Int)) (zs : List Int) (k : Nat) : (tenL qs zs k).toArray.all (·.oneCell') = true := by simp [tenL, Value.oneCell']
theorem ownL_one (H : Ht) (i o : Value) (qs : List (Int × Int)) (zs : List Int) (hi : i.oneCell' = true) (ho : o.oneCell' = true) : (ownL H i o qs zs).toArray.all (·.oneCell') = true := by
  have ht : ∀ n, (tensL qs zs n).all (·.oneCell') = true := by
    intro n
    induction n with
    | zero => rfl
    | succ n ih => rw [tensL, List.all_append, ih]; simp [tenL, Value.oneCell']
  have hm := mca_one H i o hi ho
  rw [← Array.all_toList] at hm
  rw [List.all_toArray, ownL, List.all_append, ht, Bool.and_true]
  exact hm
theorem range_app {w : World} {q o : Nat} {xs ys : List Value} (h : w.rangeAt q o xs) (k : w.rangeAt q (o + xs.length) ys) : w.rangeAt q o (xs ++ ys) := by
  intro j v hv
  by_cases hj : j < xs.length
  · rw [List.getElem?_append_left hj] at hv
    exact h j v hv
  · rw [List.getElem?_append_right (by omega)] at hv
    have := k (j - xs.length) v hv
    rw [show o + j = o + xs.length + (j - xs.length) by omega]
    exact this
theorem range_left {w : World} {q o : Nat} {xs ys : List Value} (h : w.rangeAt q o (xs ++ ys)) : w.rangeAt q o xs := fun j v hv => h j v (by rw [List.getElem?_append_left (List.getElem?_eq_some_iff.1 hv).1]; exact hv)
theorem range_nil (w : World) (q o : Nat) : w.rangeAt q o [] := fun j v hv => by simp at hv
theorem range_keep {w w' : World} {q o : Nat} {xs : List Value} (h : w.rangeAt q o xs) (b : Below w.heap.size w w') : w'.rangeAt q o xs := fun j v hv => cell_keep b (h j v hv)
/-- block q lies behind w: its 114 cells, the machine's first, then so many pages. -/
structure Ko (w : World) (q : Nat) (wr : World) (ma : List Value) (qs : List (Int × Int)) (zs : List Int) (k : Nat) : Prop where
  b : Below w.heap.size w wr
  hq : w.heap.size ≤ q ∧ q < wr.heap.size
  t : wr.there q 0 114
  m : wr.rangeAt q 0 ma
  p : wr.rangeAt q 34 (tensL qs zs k)
theorem there_part {w : World} {b n : Nat} (h : w.there b 0 n) (o m : Nat) (hm : o + m ≤ n) : w.there b o m := fun j hj => by have := h (o + j) (by omega); rw [Nat.zero_add] at this; exact this
theorem there_mq {S : Nat → Prop} {w w' : World} {b n : Nat} (h : w.there b 0 n) (hl : b < w.heap.size) (m : Mq S w w') (hn : ¬ S b) : w'.there b 0 n := by
  have e := m.block b hl hn
  intro j hj
  have := h j hj
  unfold World.cell? World.frozen? at this ⊢
  simp only [e]
  exact this
theorem Ko.step {w wr w' : World} {q k : Nat} {ma : List Value} {qs : List (Int × Int)} {zs : List Int} (h : Ko w q wr ma qs zs k) (b : Below wr.heap.size wr w') : Ko w q w' ma qs zs k :=
  ⟨on h.b b, ⟨h.hq.1, Nat.lt_of_lt_of_le h.hq.2 b.size⟩, there_below h.t h.hq.2 b, range_keep h.m b, range_keep h.p b⟩
theorem Ko.put {w wr : World} {q k : Nat} {ma : List Value} {qs : List (Int × Int)} {zs : List Int} (h : Ko w q wr ma qs zs k) (hm : ma.length = 34) (hk : k < 8) : Ko w q (wr.setCells q (34 + k * 10) (tenL qs zs k)) ma qs zs (k + 1) := by
  have hs : Mq (fun k => k = q) wr (wr.setCells q (34 + k * 10) (tenL qs zs k)) := mq_cells q _ wr _
  refine ⟨Mq.under h.b hs fun k e => by have := h.hq.1; omega, ⟨h.hq.1, Nat.lt_of_lt_of_le h.hq.2 hs.size⟩, World.there_setCells h.t _ _ _, World.rangeAt_setCells_apart h.m _ _ _ (.inr (.inl (by omega))), ?_⟩
  rw [tensL]
  refine range_app (World.rangeAt_setCells_apart h.p _ _ _ (.inr (.inl (by rw [tensL_len]; omega)))) ?_
  rw [tensL_len]
  exact World.rangeAt_setCells_same _ _ _ _ (there_part h.t _ _ (by rw [tenL_len]; omega))
theorem Ko.all {w wr : World} {q : Nat} {H : Ht} {i o : Value} {qs : List (Int × Int)} {zs : List Int} (h : Ko w q wr (mca H i o).toList qs zs 8) : wr.rangeAt q 0 (ownL H i o qs zs) :=
  range_app h.m (by have := h.p; rwa [show 0 + (mca H i o).toList.length = 34 from rfl])
theorem yieldsIf_build {ops : Array Oper} {S : World → Prop} {op : Oper} {a : Act} (hw : Region.wanted op (yielded ops a.tmps) = true) (t : TypeId) (parts : Array (Nat × Operand)) (ho : op.op = .build t parts) (cells : Array Value) (hb : Try.prog.built t (parts.map fun (i, x) => (i, a.eval x)).toList = some cells) : YieldsIf Try.prog ops S op (.agg cells) a :=
  .inl ⟨hw, fun w _ => by
    unfold execOp
    simp only [ho, Sem.run_bind, run_build (P := Try.prog) w t _ cells hb, Sem.run_pure, Result.andThen_ok]⟩
theorem wpList_build {ops : Array Oper} {rest : List Oper} {op : Oper} {a : Act} {w : World} {Q : Exit → Act → World → Prop} (hgd : op.guard = none) (t : TypeId) (parts : Array (Nat × Operand)) (ho : op.op = .build t parts) (cells : Array Value) (hb : Try.prog.built t (parts.map fun (i, x) => (i, a.eval x)).toList = some cells)
    (h : wpList Try.prog ops Q rest (a.put op.dst (.agg cells)) w) : wpList Try.prog ops Q (op :: rest) a w :=
  wpList_plain hgd fun K hK => by
    unfold Oper.wp execOp
    simp only [ho, Sem.run_bind, run_build (P := Try.prog) w t _ cells hb, Sem.run_pure, Result.andThen_ok]
    exact hK _ _ h
theorem wpList_take {ops : Array Oper} {rest : List Oper} {op : Oper} {a : Act} {w : World} {Q : Exit → Act → World → Prop} (v : Value) (hy : YieldsIf Try.prog ops (fun w' => w' = w) op v a)
    (h : wpList Try.prog ops Q rest (a.put op.dst v) w) : wpList Try.prog ops Q (op :: rest) a w :=
  wpList_step fun K hK => by
    rcases hy with ⟨hw, hv⟩ | ⟨hw, rfl⟩
    · simp only [hw, if_true, Oper.wp, hv w rfl, Oper.upon]; exact hK _ _ h
    · simp only [hw, Bool.false_eq_true, if_false]; exact hK _ _ h
theorem yieldsIf_index {ops : Array Oper} {S : World → Prop} {op : Oper} {a : Act} (hw : Region.wanted op (yielded ops a.tmps) = true) (t : TypeId) (x i : Operand) (ho : op.op = .index t x i) (v : Value) (hr : ∀ w, (Instr.index t (a.eval x) (a.eval i)).run Try.prog w = .ok v w) : YieldsIf Try.prog ops S op v a :=
  .inl ⟨hw, fun w _ => by
    unfold execOp
    simp only [ho, Sem.run_bind, hr, Sem.run_pure, Result.andThen_ok]⟩
def pgL (ps : List (Int × Int)) : List Value := [.int .i64 (ps.getD 0 (0, 0)).1, .int .i64 (ps.getD 0 (0, 0)).2, .int .i64 (ps.getD 1 (0, 0)).1, .int .i64 (ps.getD 1 (0, 0)).2, .int .i64 (ps.getD 2 (0, 0)).1, .int .i64 (ps.getD 2 (0, 0)).2, .int .i64 (ps.getD 3 (0, 0)).1, .int .i64 (ps.getD 3 (0, 0)).2, .int .i64 (ps.getD 4 (0, 0)).1, .int .i64 (ps.getD 4 (0, 0)).2, .int .i64 (ps.getD 5 (0, 0)).1, .int .i64 (ps.getD 5 (0, 0)).2, .int .i64 (ps.getD 6 (0, 0)).1, .int .i64 (ps.getD 6 (0, 0)).2, .int .i64 (ps.getD 7 (0, 0)).1, .int .i64 (ps.getD 7 (0, 0)).2]
theorem idx_0 (ps : List (Int × Int)) (w : World) : (Instr.index 97 (.agg (pgL ps).toArray) (.int .i64 ((0 : Nat) : Int))).run Try.prog w = .ok (.agg #[.int .i64 (ps.getD 0 (0, 0)).1, .int .i64 (ps.getD 0 (0, 0)).2]) w := by kernel_rfl
theorem idx_1 (ps : List (Int × Int)) (w : World) : (Instr.index 97 (.agg (pgL ps).toArray) (.int .i64 ((1 : Nat) : Int))).run Try.prog w = .ok (.agg #[.int .i64 (ps.getD 1 (0, 0)).1, .int .i64 (ps.getD 1 (0, 0)).2]) w := by kernel_rfl
theorem idx_2 (ps : List (Int × Int)) (w : World) : (Instr.index 97 (.agg (pgL ps).toArray) (.int .i64 ((2 : Nat) : Int))).run Try.prog w = .ok (.agg #[.int .i64 (ps.getD 2 (0, 0)).1, .int .i64 (ps.getD 2 (0, 0)).2]) w := by kernel_rfl
theorem idx_3 (ps : List (Int × Int)) (w : World) : (Instr.index 97 (.agg (pgL ps).toArray) (.int .i64 ((3 : Nat) : Int))).run Try.prog w = .ok (.agg #[.int .i64 (ps.getD 3 (0, 0)).1, .int .i64 (ps.getD 3 (0, 0)).2]) w := by kernel_rfl
theorem idx_4 (ps : List (Int × Int)) (w : World) : (Instr.index 97 (.agg (pgL ps).toArray) (.int .i64 ((4 : Nat) : Int))).run Try.prog w = .ok (.agg #[.int .i64 (ps.getD 4 (0, 0)).1, .int .i64 (ps.getD 4 (0, 0)).2]) w := by kernel_rfl
theorem idx_5 (ps : List (Int × Int)) (w : World) : (Instr.index 97 (.agg (pgL ps).toArray) (.int .i64 ((5 : Nat) : Int))).run Try.prog w = .ok (.agg #[.int .i64 (ps.getD 5 (0, 0)).1, .int .i64 (ps.getD 5 (0, 0)).2]) w := by kernel_rfl
theorem idx_6 (ps : List (Int × Int)) (w : World) : (Instr.index 97 (.agg (pgL ps).toArray) (.int .i64 ((6 : Nat) : Int))).run Try.prog w = .ok (.agg #[.int .i64 (ps.getD 6 (0, 0)).1, .int .i64 (ps.getD 6 (0, 0)).2]) w := by kernel_rfl
theorem idx_7 (ps : List (Int × Int)) (w : World) : (Instr.index 97 (.agg (pgL ps).toArray) (.int .i64 ((7 : Nat) : Int))).run Try.prog w = .ok (.agg #[.int .i64 (ps.getD 7 (0, 0)).1, .int .i64 (ps.getD 7 (0, 0)).2]) w := by kernel_rfl
theorem pg_index (ps : List (Int × Int)) (k : Nat) (hk : k < 8) (w : World) : (Instr.index 97 (.agg (pgL ps).toArray) (.int .i64 (k : Int))).run Try.prog w = .ok (.agg #[.int .i64 (ps.getD k (0, 0)).1, .int .i64 (ps.getD k (0, 0)).2]) w := by
  match k, hk with
  | 0, _ => exact idx_0 ps w
  | 1, _ => exact idx_1 ps w
  | 2, _ => exact idx_2 ps w
  | 3, _ => exact idx_3 ps w
  | 4, _ => exact idx_4 ps w
  | 5, _ => exact idx_5 ps w
  | 6, _ => exact idx_6 ps w
  | 7, _ => exact idx_7 ps w
theorem mcp_head (H : Ht) (i o : Value) (ps : List (Int × Int)) : ((mcp H i o ps).extract 0 (0 + 34)).toList = (mca H i o).toList := by kernel_rfl
theorem mcp_tail (H : Ht) (i o : Value) (ps : List (Int × Int)) : ((mcp H i o ps).extract 34 (34 + 16)).toList = pgL ps := by kernel_rfl
theorem mcp_range {w : World} {s : Nat} {H : Ht} {i o : Value} {ps : List (Int × Int)} {t : TypeId} (h : Vb w s (mcp H i o ps) t) : w.rangeAt s 0 (mca H i o).toList ∧ w.rangeAt s 34 (pgL ps) := by
  refine ⟨?_, ?_⟩
  · rw [← mcp_head H i o ps]; exact World.rangeAt_of_block h 0 34
  · rw [← mcp_tail H i o ps]; exact World.rangeAt_of_block h 34 16
def own0 (H : Ht) (i o : Value) : Array Value := mca H i o ++ (List.replicate 80 (Value.int .i64 0)).toArray
theorem own0_size (H : Ht) (i o : Value) : (own0 H i o).size = 114 := by kernel_rfl
theorem own0_list (H : Ht) (i o : Value) : (own0 H i o).toList = (mca H i o).toList ++ List.replicate 80 (Value.int .i64 0) := by simp [own0]
theorem own0_one (H : Ht) (i o : Value) (hi : i.oneCell' = true) (ho : o.oneCell' = true) : (own0 H i o).all (·.oneCell') = true := by
  rw [own0, Array.all_append, mca_one H i o hi ho, Bool.true_and, List.all_toArray, List.all_replicate]
  rfl
end Go.Proofs.Ytijajemalokgjaa
namespace Go.Proofs.Ytijajemalokgjaa
open Go.RowKit
set_option linter.unusedVariables false

set_option maxRecDepth 20000 in
set_option maxHeartbeats 8000000 in
theorem i_knownL (H : Ht) (xa : Option Addr) (xn xk : Nat) (ya : Option Addr) (yn yk : Nat) (ps qs : List (Int × Int)) (zs : List Int) (q0 : Nat) (w : World)
    (hf : ∀ k : Nat, k < 8 → ∀ u, Below w.heap.size w u → Calls Try.prog 57 #[.int .i64 (k : Int), .agg #[.int .i64 (ps.getD k (0, 0)).1, .int .i64 (ps.getD k (0, 0)).2], .pointer (some ⟨q0, 0, none⟩)] u fun e u' => e = .returned (.agg (tenL qs zs k).toArray) ∧ Below u.heap.size u u') :
    Calls Try.prog 55 #[.agg (mcp H (.slice xa xn xk) (.slice ya yn yk) ps), .func (.func 57) #[] #[.pointer (some ⟨q0, 0, none⟩)]] w fun e w' => e = .returned (.agg (ownL H (.slice xa xn xk) (.slice ya yn yk) qs zs).toArray) ∧ Below w.heap.size w w' := by
  have HF : Hid (∀ k : Nat, k < 8 → ∀ u, Below w.heap.size w u → Calls Try.prog 57 #[.int .i64 (k : Int), .agg #[.int .i64 (ps.getD k (0, 0)).1, .int .i64 (ps.getD k (0, 0)).2], .pointer (some ⟨q0, 0, none⟩)] u fun e u' => e = .returned (.agg (tenL qs zs k).toArray) ∧ Below u.heap.size u u') := hf
  clear hf
  generalize hW : (w.alloc (.cells (mcp H (.slice xa xn xk) (.slice ya yn yk) ps) 99)).alloc (.cells Try.zeroCells81 81) = W
  have B0 : Hid (Below w.heap.size w W) := by show Below _ _ _; rw [← hW]; exact al (al (Below.refl _ _) _) _
  obtain ⟨s, hS⟩ : ∃ s, w.heap.size = s := ⟨_, rfl⟩
  have HSs : Hid (w.heap.size = s) := hS
  have z1 : s + 1 = (w.alloc (.cells (mcp H (.slice xa xn xk) (.slice ya yn yk) ps) 99)).heap.size := by rw [← hS]; simp
  have Q : Hid (Vb W s (mcp H (.slice xa xn xk) (.slice ya yn yk) ps) 99) := by show Vb _ _ _ _; rw [← hW, ← hS]; exact (Vb.new _ _ _).push _
  have R : Hid (W.there (s + 1) 0 114) := by show World.there _ _ _ _; rw [← hW, z1]; exact (Vb.new _ _ _).there 114 (Nat.le_of_eq (by kernel_rfl))
  clear z1
  have LT : Hid (s + 1 < W.heap.size) := by show _ < _; rw [← hW, ← hS]; simp
  obtain ⟨P, hP⟩ : ∃ P : List Value, (ownL H (.slice xa xn xk) (.slice ya yn yk) qs zs) = P := ⟨_, rfl⟩
  rw [hP]
  have HP : Hid (ownL H (.slice xa xn xk) (.slice ya yn yk) qs zs = P) := hP
  have HPL : Hid (P.length = 114) := by show _ = _; rw [← hP]; exact ownL_len _ _ _ _ _
  clear hP
  go_enter Try.func55, Try.ntmps55
  go_upto_region 1 with fail
  clear hW hS
  have RM : Hid (∀ v, Below W.heap.size W v → v.rangeAt s 0 (mca H (.slice xa xn xk) (.slice ya yn yk)).toList ∧ v.rangeAt s 34 (pgL ps)) := fun v hv => mcp_range (Q.out.keep hv)
  refine wp_region_lit ?_
  refine wpList_take (.pointer (some ⟨s, 0, none⟩)) (Or.inl ⟨by rfl, fun w' hs => by subst hs; go_simp⟩) ?_
  change wpList _ _ _ _ (Act.put _ (some 8) _) _
  simp only [Act.put, List.setIfInBounds_toArray, List.set_cons_zero, List.set_cons_succ]
  refine wpList_take (.agg (mca H (.slice xa xn xk) (.slice ya yn yk)).toList.toArray) (yieldsIf_load_mid rfl 72 (.tmp 8) rfl s 0 rfl (mca H (.slice xa xn xk) (.slice ya yn yk)).toList _ (fun w' e => by subst e; exact (RM.out _ (Below.refl _ _)).1) Try.underlying72 rfl (by kernel_rfl)) ?_
  change wpList _ _ _ _ (Act.put _ (some 9) _) _
  simp only [Act.put, List.setIfInBounds_toArray, List.set_cons_zero, List.set_cons_succ]
  refine wpList_build rfl 81 #[(0, .tmp 9)] rfl (own0 H (.slice xa xn xk) (.slice ya yn yk)) (by kernel_rfl) ?_
  change wpList _ _ _ _ (Act.put _ (some 10) _) _
  simp only [Act.put, List.setIfInBounds_toArray, List.set_cons_zero, List.set_cons_succ]
  refine wpList_plain rfl (fun K hK => ?_)
  go_simp
  refine hK _ _ ?_
  clear hK K
  obtain ⟨q, hq⟩ : ∃ q, W.heap.size = q := ⟨_, rfl⟩
  have W1 : Hid (Below W.heap.size W (W.alloc (.cells Try.zeroCells81 81)) ∧ (W.alloc (.cells Try.zeroCells81 81)).there q 0 114 ∧ q < (W.alloc (.cells Try.zeroCells81 81)).heap.size) := ⟨al (Below.refl _ _) _, by rw [← hq]; exact (Vb.new _ _ _).there 114 (Nat.le_of_eq (by kernel_rfl)), by rw [← hq]; simp⟩
  have HQ : Hid (W.heap.size = q) := hq
  rw [hq]
  generalize W.alloc (.cells Try.zeroCells81 81) = V1 at *
  clear hq
  refine wpList_store_mid rfl 81 (.tmp 5) (.tmp 10) rfl q 0 (own0 H (.slice xa xn xk) (.slice ya yn yk)) rfl rfl (by rw [own0_size]; exact W1.out.2.1) (by kernel_rfl) (own0_one _ _ _ rfl rfl) ?_
  change wpList _ _ _ _ (Act.put _ none undef) _
  simp only [Act.put]
  have K0 : Hid (Ko w q (V1.setCells q 0 (own0 H (.slice xa xn xk) (.slice ya yn yk)).toList) (mca H (.slice xa xn xk) (.slice ya yn yk)).toList qs zs 0) := by
    have hs : Mq (fun k => k = q) V1 (V1.setCells q 0 (own0 H (.slice xa xn xk) (.slice ya yn yk)).toList) := mq_cells q _ V1 _
    have hw : w.heap.size ≤ q := by have := B0.out.size; have := HQ.out; omega
    refine ⟨Mq.under (on B0.out W1.out.1) hs fun k e => by omega, ⟨hw, Nat.lt_of_lt_of_le W1.out.2.2 hs.size⟩, World.there_setCells W1.out.2.1 _ _ _, ?_, range_nil _ _ _⟩
    have := World.rangeAt_setCells_same V1 q 0 (own0 H (.slice xa xn xk) (.slice ya yn yk)).toList (by rw [Array.length_toList, own0_size]; exact W1.out.2.1)
    rw [own0_list] at this ⊢
    exact range_left this
  have RM2 : Hid ((V1.setCells q 0 (own0 H (.slice xa xn xk) (.slice ya yn yk)).toList).rangeAt s 34 (pgL ps)) := by
    have hs : Mq (fun k => k = q) V1 (V1.setCells q 0 (own0 H (.slice xa xn xk) (.slice ya yn yk)).toList) := mq_cells q _ V1 _
    exact (mcp_range (hs.vb (Q.out.keep W1.out.1) (by have := LT.out; have := HQ.out; omega))).2
  have R2 : Hid (SvN 114 V1 q (V1.setCells q 0 (own0 H (.slice xa xn xk) (.slice ya yn yk)).toList)) := ⟨mq_cells q _ V1 _, World.there_setCells W1.out.2.1 _ _ _⟩
  have TH : Hid (V1.there (s + 1) 0 114) := there_below R.out LT.out W1.out.1
  have Z1 : Hid (s + 1 < q ∧ s + 1 < V1.heap.size) := ⟨by have := LT.out; have := HQ.out; show _ < _; omega, Nat.lt_of_lt_of_le LT.out W1.out.1.size⟩
  generalize V1.setCells q 0 (own0 H (.slice xa xn xk) (.slice ya yn yk)).toList = V2 at *
  have K0' : Hid (V2.there (s + 1) 0 114) := there_mq TH.out Z1.out.2 R2.out.1 (by have := Z1.out.1; omega)
  refine wpList_nil ?_
  go_upto_region 2 with fail
  refine wp_region_lit ?_
  refine wpList_take (.pointer (some ⟨s, 34, none⟩)) (Or.inl ⟨by rfl, fun w' hs => by subst hs; go_simp⟩) ?_
  change wpList _ _ _ _ (Act.put _ (some 11) _) _
  simp only [Act.put, List.setIfInBounds_toArray, List.set_cons_zero, List.set_cons_succ]
  refine wpList_take (.agg (pgL ps).toArray) (yieldsIf_load_mid rfl 97 (.tmp 11) rfl s 34 rfl (pgL ps) _ (fun w' e => by subst e; exact RM2.out) Try.underlying97 rfl (by kernel_rfl)) ?_
  change wpList _ _ _ _ (Act.put _ (some 12) _) _
  simp only [Act.put, List.setIfInBounds_toArray, List.set_cons_zero, List.set_cons_succ]
  refine wpList_take (.int .i64 0) (Or.inl ⟨by rfl, fun w' hs => by subst hs; go_simp⟩) ?_
  change wpList _ _ _ _ (Act.put _ (some 13) _) _
  simp only [Act.put, List.setIfInBounds_toArray, List.set_cons_zero, List.set_cons_succ]
  refine wpList_nil ?_
  clear RM2 R2 TH W1
  go_wp2_with fail
  go_loopw [6, 7, 13] (fun _ _ c wr => ∃ k : Nat, k ≤ 8 ∧ c = .int .i64 k ∧ Ko w q wr (mca H (.slice xa xn xk) (.slice ya yn yk)).toList qs zs k ∧ wr.there (s + 1) 0 114) (fun _ _ c _ => 8 - (intOf c).toNat)
  case atStart => exact ⟨0, by decide, rfl, K0.out, K0'.out⟩
  case round =>
    obtain ⟨k, hk, rfl, hK, hT⟩ := hrel
    have KK : Hid (Ko w q wr (mca H (.slice xa xn xk) (.slice ya yn yk)).toList qs zs k) := hK
    have KT : Hid (wr.there (s + 1) 0 114) := hT
    clear hK hT K0 K0'
    by_cases hlt : k < 8
    · have hI : (k : Int) < 8 := by omega
      have HLT : Hid (k < 8) := hlt
      have CF : Hid (∀ u, Below w.heap.size w u → Calls Try.prog 57 #[.int .i64 (k : Int), .agg #[.int .i64 (ps.getD k (0, 0)).1, .int .i64 (ps.getD k (0, 0)).2], .pointer (some ⟨q0, 0, none⟩)] u fun e u' => e = .returned (.agg (tenL qs zs k).toArray) ∧ Below u.heap.size u u') := HF.out k hlt
      have IX : Hid (∀ u, (Instr.index 97 (.agg (pgL ps).toArray) (.int .i64 (k : Int))).run Try.prog u = .ok (.agg #[.int .i64 (ps.getD k (0, 0)).1, .int .i64 (ps.getD k (0, 0)).2]) u) := pg_index ps k hlt
      obtain ⟨tk, htk⟩ : ∃ z, (ps.getD k (0, 0)).1 = z := ⟨_, rfl⟩
      obtain ⟨dk, hdk⟩ : ∃ z, (ps.getD k (0, 0)).2 = z := ⟨_, rfl⟩
      rw [htk, hdk] at CF IX
      clear htk hdk hlt
      have ix := IX.out
      go_upto_region 5 with fail
      clear ix IX
      have B3 : Hid (Below wr.heap.size wr (wr.alloc (.cells #[.int .i64 tk, .int .i64 dk] 74))) := al (Below.refl _ _) _
      have V3 : Hid (Vb (wr.alloc (.cells #[.int .i64 tk, .int .i64 dk] 74)) wr.heap.size #[.int .i64 tk, .int .i64 dk] 74) := Vb.new _ _ _
      generalize hp : wr.heap.size = p at V3 ⊢
      have K3 : Hid (Ko w q (wr.alloc (.cells #[.int .i64 tk, .int .i64 dk] 74)) (mca H (.slice xa xn xk) (.slice ya yn yk)).toList qs zs k ∧ (wr.alloc (.cells #[.int .i64 tk, .int .i64 dk] 74)).there (s + 1) 0 114) := ⟨KK.out.step B3.out, there_below KT.out (by have := Z1.out.1; have := KK.out.hq.2; omega) B3.out⟩
      have ZB : Hid (s + 1 < (wr.alloc (.cells #[.int .i64 tk, .int .i64 dk] 74)).heap.size) := by have := Z1.out.1; have := KK.out.hq.2; show _ < _; simp; omega
      generalize wr.alloc (.cells #[.int .i64 tk, .int .i64 dk] 74) = U3 at *
      clear hp B3
      have y0 := V3.out.cell 0 rfl
      have y1 := V3.out.cell 1 rfl
      refine wp_region_lit ?_
      refine wpList_take (.int .i64 (k : Int)) (Or.inl ⟨by rfl, fun w' hs => by subst hs; go_simp⟩) ?_
      change wpList _ _ _ _ (Act.put _ (some 17) _) _
      simp only [Act.put, List.setIfInBounds_toArray, List.set_cons_zero, List.set_cons_succ]
      refine wpList_take (.func (.func 57) #[] #[.pointer (some ⟨q0, 0, none⟩)]) (Or.inl ⟨by rfl, fun w' hs => by subst hs; go_simp⟩) ?_
      change wpList _ _ _ _ (Act.put _ (some 18) _) _
      simp only [Act.put, List.setIfInBounds_toArray, List.set_cons_zero, List.set_cons_succ]
      refine wpList_take (.int .i64 (k : Int)) (Or.inl ⟨by rfl, fun w' hs => by subst hs; go_simp⟩) ?_
      change wpList _ _ _ _ (Act.put _ (some 19) _) _
      simp only [Act.put, List.setIfInBounds_toArray, List.set_cons_zero, List.set_cons_succ]
      refine wpList_take (.agg #[.int .i64 tk, .int .i64 dk]) (Or.inl ⟨by rfl, fun w' hs => by subst hs; go_simp⟩) ?_
      change wpList _ _ _ _ (Act.put _ (some 20) _) _
      simp only [Act.put, List.setIfInBounds_toArray, List.set_cons_zero, List.set_cons_succ]
      clear y0 y1
      refine wpList_plain rfl (fun K hK => ?_)
      go_simp
      refine (CF.out _ K3.out.1.b).mono ?_
      rintro e U4 ⟨rfl, b4⟩
      refine hK _ _ ?_
      clear hK K
      have K4 : Hid (Ko w q U4 (mca H (.slice xa xn xk) (.slice ya yn yk)).toList qs zs k ∧ U4.there (s + 1) 0 114) := ⟨K3.out.1.step b4, there_below K3.out.2 ZB.out b4⟩
      have ZC : Hid (s + 1 < U4.heap.size) := Nat.lt_of_lt_of_le ZB.out b4.size
      clear b4
      refine wpList_take (.pointer (some ⟨q, 34, none⟩)) (Or.inl ⟨by rfl, fun w' hs => by subst hs; go_simp⟩) ?_
      change wpList _ _ _ _ (Act.put _ (some 22) _) _
      simp only [Act.put, List.setIfInBounds_toArray, List.set_cons_zero, List.set_cons_succ]
      refine wpList_take (.pointer (some ⟨q, 34 + k * 10, none⟩)) (Or.inl ⟨by rfl, fun w' hs => by subst hs; go_simp⟩) ?_
      change wpList _ _ _ _ (Act.put _ (some 23) _) _
      simp only [Act.put, List.setIfInBounds_toArray, List.set_cons_zero, List.set_cons_succ]
      refine wpList_store_mid rfl 78 (.tmp 23) (.tmp 21) rfl q (34 + k * 10) (tenL qs zs k).toArray rfl rfl (there_part K4.out.1.t _ _ (by have := HLT.out; show 34 + k * 10 + 10 ≤ 114; omega)) (by kernel_rfl) (tenL_one _ _ _) ?_
      change wpList _ _ _ _ (Act.put _ none undef) _
      simp only [Act.put]
      have K5 : Hid (Ko w q (U4.setCells q (34 + k * 10) (tenL qs zs k).toArray.toList) (mca H (.slice xa xn xk) (.slice ya yn yk)).toList qs zs (k + 1) ∧ (U4.setCells q (34 + k * 10) (tenL qs zs k).toArray.toList).there (s + 1) 0 114) := ⟨K4.out.1.put rfl HLT.out, World.there_setCells K4.out.2 _ _ _⟩
      generalize U4.setCells q (34 + k * 10) (tenL qs zs k).toArray.toList = U5 at *
      refine wpList_nil ?_
      go_wp2_with fail
      go_roundw
      case rel => exact ⟨k + 1, by have := HLT.out; omega, by go_num, K5.out.1, K5.out.2⟩
      case measure => have := HLT.out; simp [intOf]; omega
    · have hJ : ¬ (k : Int) < 8 := by omega
      obtain rfl : k = 8 := by omega
      have RG : Hid (wr.rangeAt q 0 P) := by show World.rangeAt _ _ _ _; rw [← HP.out]; exact KK.out.all
      clear hlt
      go_upto_region 7 with fail
      refine wp_region_lit ?_
      refine wpList_take (.agg P.toArray) (yieldsIf_load_mid rfl 81 (.tmp 5) rfl q 0 rfl P _ (fun w' e => by subst e; exact RG.out) Try.underlying81 rfl (by rw [HPL.out]; kernel_rfl)) ?_
      change wpList _ _ _ _ (Act.put _ (some 25) _) _
      simp only [Act.put, List.setIfInBounds_toArray, List.set_cons_zero, List.set_cons_succ]
      refine wpList_store_mid rfl 81 (.tmp 4) (.tmp 25) rfl (s + 1) 0 P.toArray rfl rfl (by rw [List.size_toArray, HPL.out]; exact KT.out) (by rw [List.size_toArray, HPL.out]; kernel_rfl) (by rw [← HP.out]; exact ownL_one _ _ _ _ _ rfl rfl) ?_
      change wpList _ _ _ _ (Act.put _ none undef) _
      simp only [Act.put]
      refine wpList_nil ?_
      have R6 : Hid ((wr.setCells (s + 1) 0 P.toArray.toList).rangeAt (s + 1) 0 P) := World.rangeAt_setCells_same _ _ _ _ (by show World.there _ _ _ _; rw [HPL.out]; exact KT.out)
      have B6 : Hid (Below w.heap.size w (wr.setCells (s + 1) 0 P.toArray.toList)) := Mq.under KK.out.b (mq_cells (s + 1) _ wr 0) fun k e => by have := HSs.out; omega
      generalize wr.setCells (s + 1) 0 P.toArray.toList = U6 at *
      have LD := run_loadVar_mid (P := Try.prog) U6 (s + 1) 0 81 P _ R6.out Try.underlying81 rfl (by rw [HPL.out]; kernel_rfl)
      go_wp2_with fail
      exact bodyPost_ret (v := .agg P.toArray) (by simp [results, Try.results55, asAddr]; rw [LD]) rfl ⟨rfl, B6.out⟩
end Go.Proofs.Ytijajemalokgjaa
namespace Go.Proofs.Ytijajemalokgjaa
open Go.RowKit
set_option linter.unusedVariables false

set_option maxRecDepth 20000 in
set_option maxHeartbeats 8000000 in
theorem i_lonelyOf (r c i o l m : Value) (H : Ht) (ps : List (Int × Int)) (zs : List Int) (b : Nat) (w : World) (h : Sm w b r c i o l m H ps zs) (hx : sfV H ps zs = 0) :
    Calls Try.prog 40 #[.agg #[r, .int .i64 H.pc, c, .bool H.halted, .bool H.waiting, .bool H.rung, .int .i64 H.done, i, o, l, m]] w fun e w' => ∃ xa xn xk ya yn yk, e = .returned (.agg (ownL H (.slice xa xn xk) (.slice ya yn yk) ps zs).toArray) ∧ Nums w' w.heap.size (.slice xa xn xk) H.inn ∧ Nums w' w.heap.size (.slice ya yn yk) H.out ∧ Apt (.slice xa xn xk) (.slice ya yn yk) ∧ Below w.heap.size w w' := by
  obtain ⟨a0, k0, e0, _⟩ := h.h.r.shape
  obtain ⟨a1, k1, e1, _⟩ := h.h.c.shape
  obtain ⟨a2, k2, e2, _⟩ := h.h.i.shape
  obtain ⟨a3, k3, e3, _⟩ := h.h.o.shape
  obtain ⟨a4, k4, e4, _, _, hg4⟩ := h.pl.shape
  obtain ⟨a5, k5, e5, _, _, hg5⟩ := h.mm.shape
  have OK : Hid (Hok H ∧ zs.length = 64 ∧ ps.length = 8) := fs_sol H ps zs hx
  obtain ⟨gm, hgm⟩ := hg5 (by rw [OK.out.2.1]; decide)
  obtain ⟨pb, hpb⟩ := hg4 (by rw [OK.out.2.2]; decide)
  subst e0 e1 e2 e3 e4 e5 hgm hpb
  generalize hn0 : H.regs.length = n0 at *
  generalize hn1 : H.csr.length = n1 at *
  generalize hn2 : H.inn.length = n2 at *
  generalize hn3 : H.out.length = n3 at *
  rw [OK.out.2.1, OK.out.2.2] at h ⊢
  have HS : Hid (Sm w b (.slice a0 n0 k0) (.slice a1 n1 k1) (.slice a2 n2 k2) (.slice a3 n3 k3) (.slice (some ⟨pb, 0, none⟩) 8 k4) (.slice (some ⟨gm, 0, none⟩) 64 k5) H ps zs) := h
  clear h hx hn0 hn1 hn2 hn3 hg4 hg5
  generalize hW : (w.alloc (.cells #[.slice a0 n0 k0, .int .i64 H.pc, .slice a1 n1 k1, .bool H.halted, .bool H.waiting, .bool H.rung, .int .i64 H.done, .slice a2 n2 k2, .slice a3 n3 k3, .slice (some ⟨pb, 0, none⟩) 8 k4, .slice (some ⟨gm, 0, none⟩) 64 k5] 35)).alloc (.cells Try.zeroCells81 81) = W
  have B0 : Hid (Below w.heap.size w W) := by show Below _ _ _; rw [← hW]; exact al (al (Below.refl _ _) _) _
  obtain ⟨s, hS⟩ : ∃ s, w.heap.size = s := ⟨_, rfl⟩
  have HSs : Hid (w.heap.size = s) := hS
  have z1 : s + 1 = (w.alloc (.cells #[.slice a0 n0 k0, .int .i64 H.pc, .slice a1 n1 k1, .bool H.halted, .bool H.waiting, .bool H.rung, .int .i64 H.done, .slice a2 n2 k2, .slice a3 n3 k3, .slice (some ⟨pb, 0, none⟩) 8 k4, .slice (some ⟨gm, 0, none⟩) 64 k5] 35)).heap.size := by rw [← hS]; simp
  have Q : Hid (Vb W s #[.slice a0 n0 k0, .int .i64 H.pc, .slice a1 n1 k1, .bool H.halted, .bool H.waiting, .bool H.rung, .int .i64 H.done, .slice a2 n2 k2, .slice a3 n3 k3, .slice (some ⟨pb, 0, none⟩) 8 k4, .slice (some ⟨gm, 0, none⟩) 64 k5] 35) := by show Vb _ _ _ _; rw [← hW, ← hS]; exact (Vb.new _ _ _).push _
  have R : Hid (Vb W (s + 1) Try.zeroCells81 81) := by show Vb _ _ _ _; rw [← hW, z1]; exact Vb.new _ _ _
  clear z1
  have q0 := Q.out.cell 0 rfl
  have q1 := Q.out.cell 1 rfl
  have q2 := Q.out.cell 2 rfl
  have q3 := Q.out.cell 3 rfl
  have q4 := Q.out.cell 4 rfl
  have q5 := Q.out.cell 5 rfl
  have q6 := Q.out.cell 6 rfl
  have q7 := Q.out.cell 7 rfl
  have q8 := Q.out.cell 8 rfl
  have q9 := Q.out.cell 9 rfl
  have q10 := Q.out.cell 10 rfl
  have RT : Hid (W.there (s + 1) 0 114 ∧ s + 1 < W.heap.size) := ⟨R.out.there 114 (Nat.le_of_eq (by kernel_rfl)), R.out.lt⟩
  clear R
  go_enter Try.func40, Try.ntmps40
  go_wp2_with fail
  clear hW hS
  refine (impl_cut gm 64 k5 zs b 8 _ (HS.out.mm.keep B0.out) (by have := OK.out.2.1; omega) (by decide) (by decide)).mono ?_
  rintro e w1 ⟨g, rfl, pg, b1⟩
  have B1 : Hid (Below w.heap.size w w1) := on B0.out b1
  have Q1 : Hid (Vb w1 s #[.slice a0 n0 k0, .int .i64 H.pc, .slice a1 n1 k1, .bool H.halted, .bool H.waiting, .bool H.rung, .int .i64 H.done, .slice a2 n2 k2, .slice a3 n3 k3, .slice (some ⟨pb, 0, none⟩) 8 k4, .slice (some ⟨gm, 0, none⟩) 64 k5] 35) := Q.out.keep b1
  have R1 : Hid (w1.there (s + 1) 0 114 ∧ s + 1 < w1.heap.size) := ⟨there_below RT.out.1 RT.out.2 b1, Nat.lt_of_lt_of_le RT.out.2 b1.size⟩
  have PG : Hid (Pags w1 W.heap.size (.slice (some ⟨g, 0, none⟩) 8 8) 8 zs) := pg
  clear pg b1 q0 q1 q2 q3 q4 q5 q6 q7 q8 q9 q10
  go_upto_region 2 with fail
  generalize hw2 : w1.alloc (.cells #[.slice (some ⟨g, 0, none⟩) 8 8] 91) = w2
  have b2 : Below w1.heap.size w1 w2 := by rw [← hw2]; exact al (Below.refl _ _) _
  have B2 : Hid (Below w.heap.size w w2) := on B1.out b2
  have C2 : Hid (w2.cell? ⟨w1.heap.size, 0, none⟩ = some (.slice (some ⟨g, 0, none⟩) 8 8)) := by show _ = _; rw [← hw2]; exact cell_new rfl
  have P2 : Hid (Pags w2 W.heap.size (.slice (some ⟨g, 0, none⟩) 8 8) 8 zs) := PG.out.keep b2
  have Q2 : Hid (Vb w2 s #[.slice a0 n0 k0, .int .i64 H.pc, .slice a1 n1 k1, .bool H.halted, .bool H.waiting, .bool H.rung, .int .i64 H.done, .slice a2 n2 k2, .slice a3 n3 k3, .slice (some ⟨pb, 0, none⟩) 8 k4, .slice (some ⟨gm, 0, none⟩) 64 k5] 35) := Q1.out.keep b2
  have R2 : Hid (w2.there (s + 1) 0 114 ∧ s + 1 < w2.heap.size) := ⟨there_below R1.out.1 R1.out.2 b2, Nat.lt_of_lt_of_le R1.out.2 b2.size⟩
  clear hw2 b2
  generalize w1.heap.size = pq at *
  have q0 := Q2.out.cell 0 rfl
  have q1 := Q2.out.cell 1 rfl
  have q2 := Q2.out.cell 2 rfl
  have q3 := Q2.out.cell 3 rfl
  have q4 := Q2.out.cell 4 rfl
  have q5 := Q2.out.cell 5 rfl
  have q6 := Q2.out.cell 6 rfl
  have q7 := Q2.out.cell 7 rfl
  have q8 := Q2.out.cell 8 rfl
  have q9 := Q2.out.cell 9 rfl
  go_wp2_with fail
  clear q0 q1 q2 q3 q4 q5 q6 q7 q8 q9
  refine (i_pagedOver _ _ _ _ H pb k4 ps b _ (HS.out.h.keep B2.out) OK.out.1 (HS.out.pl.keep B2.out) OK.out.2.2).mono ?_
  rintro e w3 ⟨i', o', rfl, mi, mo, ap, b3⟩
  obtain ⟨xa, xk, rfl, _⟩ := mi.shape
  obtain ⟨ya, yk, rfl, _⟩ := mo.shape
  obtain ⟨xn, hxn⟩ : ∃ n, H.inn.length = n := ⟨_, rfl⟩
  obtain ⟨yn, hyn⟩ : ∃ n, H.out.length = n := ⟨_, rfl⟩
  rw [hxn] at mi
  rw [hyn] at mo
  rw [hxn, hyn] at ap ⊢
  have B3 : Hid (Below w.heap.size w w3) := on B2.out b3
  have M3 : Hid (Nums w3 w2.heap.size (.slice xa xn xk) H.inn ∧ Nums w3 w2.heap.size (.slice ya yn yk) H.out ∧ Apt (.slice xa xn xk) (.slice ya yn yk)) := ⟨mi, mo, ap⟩
  have C3 : Hid (w3.cell? ⟨pq, 0, none⟩ = some (.slice (some ⟨g, 0, none⟩) 8 8)) := cell_keep b3 C2.out
  have P3 : Hid (Pags w3 W.heap.size (.slice (some ⟨g, 0, none⟩) 8 8) 8 zs) := P2.out.keep b3
  have R3 : Hid (w3.there (s + 1) 0 114 ∧ s + 1 < w3.heap.size) := ⟨there_below R2.out.1 R2.out.2 b3, Nat.lt_of_lt_of_le R2.out.2 b3.size⟩
  clear mi mo ap b3 hxn hyn
  go_wp2_with fail
  refine (i_knownL H xa xn xk ya yn yk ps ps zs pq _ (fun k hk u hu => c_own pq g 8 zs W.heap.size k _ _ u (cell_keep hu C3.out) (P3.out.keep hu) hk)).mono ?_
  rintro e w4 ⟨rfl, b4⟩
  obtain ⟨P, hP⟩ : ∃ P : List Value, (ownL H (.slice xa xn xk) (.slice ya yn yk) ps zs) = P := ⟨_, rfl⟩
  have HP : Hid (ownL H (.slice xa xn xk) (.slice ya yn yk) ps zs = P) := hP
  have HPL : Hid (P.length = 114) := by show _ = _; rw [← hP]; exact ownL_len _ _ _ _ _
  rw [hP]
  clear hP
  have R4 : Hid (w4.there (s + 1) 0 114 ∧ s + 1 < w4.heap.size) := ⟨there_below R3.out.1 R3.out.2 b4, Nat.lt_of_lt_of_le R3.out.2 b4.size⟩
  have M4 : Hid (Nums w4 w2.heap.size (.slice xa xn xk) H.inn ∧ Nums w4 w2.heap.size (.slice ya yn yk) H.out ∧ Apt (.slice xa xn xk) (.slice ya yn yk)) := ⟨M3.out.1.keep b4, M3.out.2.1.keep b4, M3.out.2.2⟩
  have B4 : Hid (Below w.heap.size w w4) := on B3.out b4
  clear b4
  go_wp2_with (refine wpList_store_mid rfl 81 (.tmp 2) (.tmp 13) rfl (s + 1) 0 P.toArray rfl rfl (by rw [List.size_toArray, HPL.out]; exact R4.out.1) (by rw [List.size_toArray, HPL.out]; kernel_rfl) (by rw [← HP.out]; exact ownL_one _ _ _ _ _ rfl rfl) ?_; change wpList _ _ _ _ (Act.put _ none undef) _; simp only [Act.put]; generalize hU : w4.setCells (s + 1) 0 P.toArray.toList = U6)
  have R6 : Hid (U6.rangeAt (s + 1) 0 P) := by show World.rangeAt _ _ _ _; rw [← hU]; exact World.rangeAt_setCells_same _ _ _ _ (by show World.there _ _ _ _; rw [HPL.out]; exact R4.out.1)
  have Q6 : Hid (Mq (fun k => k = s + 1) w4 U6) := by show Mq _ _ _; rw [← hU]; exact mq_cells (s + 1) _ w4 0
  have B6 : Hid (Below w.heap.size w U6) := Mq.under B4.out Q6.out fun k e => by have := HSs.out; omega
  have LT : Hid (s + 1 < w2.heap.size ∧ w.heap.size ≤ w2.heap.size) := ⟨R2.out.2, B2.out.size⟩
  have NE : ∀ v : Value, ∀ zz, Nums w4 w2.heap.size v zz → ∀ k, v.ownBlock = some k → ¬ k = s + 1 := fun v zz hn k e hk => by have := (hn.lt k e).1; have := LT.out.1; omega
  have M6 : Hid (Nums U6 w.heap.size (.slice xa xn xk) H.inn ∧ Nums U6 w.heap.size (.slice ya yn yk) H.out) := ⟨(Q6.out.nums M4.out.1 (NE _ _ M4.out.1)).mono LT.out.2, (Q6.out.nums M4.out.2.1 (NE _ _ M4.out.2.1)).mono LT.out.2⟩
  clear NE
  have LD := run_loadVar_mid (P := Try.prog) U6 (s + 1) 0 81 P _ R6.out Try.underlying81 rfl (by rw [HPL.out]; kernel_rfl)
  exact bodyPost_ret (v := .agg P.toArray) (by simp [results, Try.results40, asAddr]; rw [LD]) rfl ⟨xa, xn, xk, ya, yn, yk, by rw [HP.out], M6.out.1, M6.out.2, M4.out.2.2, B6.out⟩
end Go.Proofs.Ytijajemalokgjaa
namespace Go.Proofs.Ytijajemalokgjaa
open Go.RowKit
set_option linter.unusedVariables false

theorem own_idx0 (qs : List (Int × Int)) (zs : List Int) (w : World) : (Instr.index 79 (.agg (tensL qs zs 8).toArray) (.int .i64 ((0 : Nat) : Int))).run Try.prog w = .ok (.agg (tenL qs zs 0).toArray) w := by kernel_rfl
theorem own_idx1 (qs : List (Int × Int)) (zs : List Int) (w : World) : (Instr.index 79 (.agg (tensL qs zs 8).toArray) (.int .i64 ((1 : Nat) : Int))).run Try.prog w = .ok (.agg (tenL qs zs 1).toArray) w := by kernel_rfl
theorem own_idx2 (qs : List (Int × Int)) (zs : List Int) (w : World) : (Instr.index 79 (.agg (tensL qs zs 8).toArray) (.int .i64 ((2 : Nat) : Int))).run Try.prog w = .ok (.agg (tenL qs zs 2).toArray) w := by kernel_rfl
theorem own_idx3 (qs : List (Int × Int)) (zs : List Int) (w : World) : (Instr.index 79 (.agg (tensL qs zs 8).toArray) (.int .i64 ((3 : Nat) : Int))).run Try.prog w = .ok (.agg (tenL qs zs 3).toArray) w := by kernel_rfl
theorem own_idx4 (qs : List (Int × Int)) (zs : List Int) (w : World) : (Instr.index 79 (.agg (tensL qs zs 8).toArray) (.int .i64 ((4 : Nat) : Int))).run Try.prog w = .ok (.agg (tenL qs zs 4).toArray) w := by kernel_rfl
theorem own_idx5 (qs : List (Int × Int)) (zs : List Int) (w : World) : (Instr.index 79 (.agg (tensL qs zs 8).toArray) (.int .i64 ((5 : Nat) : Int))).run Try.prog w = .ok (.agg (tenL qs zs 5).toArray) w := by kernel_rfl
theorem own_idx6 (qs : List (Int × Int)) (zs : List Int) (w : World) : (Instr.index 79 (.agg (tensL qs zs 8).toArray) (.int .i64 ((6 : Nat) : Int))).run Try.prog w = .ok (.agg (tenL qs zs 6).toArray) w := by kernel_rfl
theorem own_idx7 (qs : List (Int × Int)) (zs : List Int) (w : World) : (Instr.index 79 (.agg (tensL qs zs 8).toArray) (.int .i64 ((7 : Nat) : Int))).run Try.prog w = .ok (.agg (tenL qs zs 7).toArray) w := by kernel_rfl
theorem own_index (qs : List (Int × Int)) (zs : List Int) (k : Nat) (hk : k < 8) (w : World) : (Instr.index 79 (.agg (tensL qs zs 8).toArray) (.int .i64 (k : Int))).run Try.prog w = .ok (.agg (tenL qs zs k).toArray) w := by
  match k, hk with
  | 0, _ => exact own_idx0 qs zs w
  | 1, _ => exact own_idx1 qs zs w
  | 2, _ => exact own_idx2 qs zs w
  | 3, _ => exact own_idx3 qs zs w
  | 4, _ => exact own_idx4 qs zs w
  | 5, _ => exact own_idx5 qs zs w
  | 6, _ => exact own_idx6 qs zs w
  | 7, _ => exact own_idx7 qs zs w
theorem row_apart {w : World} {b b' s s' n n' : Nat} {e e' : TypeId} {v v' : Value} {xs xs' : List Value} (h : w.ownsRow b e s v n xs) (k : w.ownsRow b' e' s' v' n' xs') (he : e ≠ e') : v.ownBlock = none ∨ v.ownBlock ≠ v'.ownBlock := by
  obtain ⟨_, ⟨rfl, _⟩ | ⟨g, cap, cur, rfl, _, hg, _⟩⟩ := h
  · exact .inl rfl
  · obtain ⟨_, ⟨rfl, _⟩ | ⟨g', cap', cur', rfl, _, hg', _⟩⟩ := k
    · exact .inr (fun f => by cases f)
    · refine .inr (fun f => ?_)
      have f : g = g' := by simpa [Value.ownBlock] using f
      subst f
      rw [hg] at hg'
      simp at hg'
      exact he hg'.2
theorem vb_row {w : World} {p : Nat} {cs : Array Value} {t : TypeId} (h : Vb w p cs t) (hs : cs.size = 1 * 10) : w.ownsRow 0 t 10 (.slice (some ⟨p, 0, none⟩) 1 1) 1 cs.toList :=
  ⟨by simpa using hs, .inr ⟨p, 1, cs, rfl, Nat.zero_le _, h, Nat.le_refl _, by decide, hs, List.take_of_length_le (by rw [Array.length_toList, hs]; exact Nat.le_refl _)⟩⟩
theorem prs_mono {w : World} {b b' : Nat} {v : Value} {rs : List (Int × Int)} (h : Prs 74 w b v rs) (hb : b' ≤ b) : Prs 74 w b' v rs := h.mono hb
theorem prs_mq {S : Nat → Prop} {w w' : World} {base : Nat} {v : Value} {rs : List (Int × Int)} (h : Prs 74 w base v rs) (m : Mq S w w') (hn : ∀ k, v.ownBlock = some k → ¬ S k) : Prs 74 w' base v rs := by
  obtain ⟨h1, h2 | ⟨g, cap, cur, hv, hg, hr, rest⟩⟩ := h
  · exact ⟨h1, .inl h2⟩
  · refine ⟨h1, .inr ⟨g, cap, cur, hv, hg, ?_, rest⟩⟩
    have hlt : g < w.heap.size := by
      rcases Nat.lt_or_ge g w.heap.size with h | h
      · exact h
      · rw [Array.getElem?_eq_none h] at hr; cases hr
    rw [m.block g hlt (hn g (by rw [hv]; rfl)), hr]
theorem prs_one (w : World) (base : Nat) (a b : Int) (hb : base ≤ w.heap.size) : Prs 74 (w.alloc (.cells #[.int .i64 a, .int .i64 b] 74)) base (.slice (some ⟨w.heap.size, 0, none⟩) 1 1) [(a, b)] :=
  World.ownsRow_lit w #[.int .i64 a, .int .i64 b] 1 hb (by decide) rfl
theorem own_vc {w : World} {s : Nat} {H : Ht} {i o : Value} {qs : List (Int × Int)} {zs : List Int} {t : TypeId} (h : Vb w s (ownL H i o qs zs).toArray t) : Vc w s (mca H i o) := by
  refine ⟨_, _, h, fun j x hx => ?_⟩
  have hj : j < (mca H i o).toList.length := by
    rw [Array.length_toList]
    exact (Array.getElem?_eq_some_iff.1 hx).1
  rw [List.getElem?_toArray, ownL, List.getElem?_append_left hj]
  simpa using hx
theorem own_tail {w : World} {s : Nat} {H : Ht} {i o : Value} {qs : List (Int × Int)} {zs : List Int} {t : TypeId} (h : Vb w s (ownL H i o qs zs).toArray t) : w.rangeAt s 34 (tensL qs zs 8) := by
  intro j x hx
  refine h.cell (34 + j) ?_
  rw [List.getElem?_toArray, ownL, List.getElem?_append_right (by show 34 ≤ _; omega)]
  rw [← hx]
  congr 1
  show 34 + j - 34 = j
  omega
theorem take_pair (qs : List (Int × Int)) (k : Nat) (h : k < qs.length) : qs.take (k + 1) = qs.take k ++ [((qs.getD k (0, 0)).1, (qs.getD k (0, 0)).2)] := by
  rw [List.take_add_one, List.getElem?_eq_getElem h, List.getD, List.getElem?_eq_getElem h]
  rfl
set_option maxRecDepth 20000 in
set_option maxHeartbeats 8000000 in
theorem i_asSolo (H : Ht) (xa : Option Addr) (xn xk : Nat) (ya : Option Addr) (yn yk : Nat) (qs : List (Int × Int)) (zs : List Int) (b : Nat) (w : World) (hi : Nums w b (.slice xa xn xk) H.inn) (ho : Nums w b (.slice ya yn yk) H.out) (ok : Hok H) (h8 : qs.length = 8) (h64 : zs.length = 64) :
    Calls Try.prog 41 #[.agg (ownL H (.slice xa xn xk) (.slice ya yn yk) qs zs).toArray] w fun e w' => ∃ r' c' i' o' l' m', e = .returned (.agg #[r', .int .i64 H.pc, c', .bool H.halted, .bool H.waiting, .bool H.rung, .int .i64 H.done, i', o', l', m']) ∧ Sm w' w.heap.size r' c' i' o' l' m' H qs zs ∧ Below w.heap.size w w' := by
  have HI : Hid (Nums w b (.slice xa xn xk) H.inn ∧ Nums w b (.slice ya yn yk) H.out) := ⟨hi, ho⟩
  have OK : Hid (Hok H ∧ qs.length = 8 ∧ zs.length = 64) := ⟨ok, h8, h64⟩
  clear hi ho ok h8 h64
  obtain ⟨P, hP⟩ : ∃ P : List Value, (ownL H (.slice xa xn xk) (.slice ya yn yk) qs zs) = P := ⟨_, rfl⟩
  have HP : Hid (ownL H (.slice xa xn xk) (.slice ya yn yk) qs zs = P) := hP
  rw [hP]
  clear hP
  generalize hW : (w.alloc (.cells P.toArray 81)).alloc (.cells #[.slice none 0 0, .int .i64 0, .slice none 0 0, .bool false, .bool false, .bool false, .int .i64 0, .slice none 0 0, .slice none 0 0, .slice none 0 0, .slice none 0 0] 35) = W
  have B0 : Hid (Below w.heap.size w W) := by show Below _ _ _; rw [← hW]; exact al (al (Below.refl _ _) _) _
  obtain ⟨s, hS⟩ : ∃ s, w.heap.size = s := ⟨_, rfl⟩
  have HSs : Hid (w.heap.size = s) := hS
  have z1 : s + 1 = (w.alloc (.cells P.toArray 81)).heap.size := by rw [← hS]; simp
  have Q : Hid (Vb W s P.toArray 81) := by show Vb _ _ _ _; rw [← hW, ← hS]; exact (Vb.new _ _ _).push _
  have R : Hid (Vb W (s + 1) #[.slice none 0 0, .int .i64 0, .slice none 0 0, .bool false, .bool false, .bool false, .int .i64 0, .slice none 0 0, .slice none 0 0, .slice none 0 0, .slice none 0 0] 35) := by show Vb _ _ _ _; rw [← hW, z1]; exact Vb.new _ _ _
  clear z1
  have VC : Hid (Vc W s (mca H (.slice xa xn xk) (.slice ya yn yk)) ∧ W.rangeAt s 34 (tensL qs zs 8)) := by
    have h := Q.out
    rw [← HP.out] at h
    exact ⟨own_vc h, own_tail h⟩
  go_enter Try.func41, Try.ntmps41
  go_upto_region 3 with fail
  clear hW hS
  refine wp_region_lit ?_
  refine wpList_take (.pointer (some ⟨s, 34, none⟩)) (Or.inl ⟨by rfl, fun w' hs => by subst hs; go_simp⟩) ?_
  change wpList _ _ _ _ (Act.put _ (some 7) _) _
  simp only [Act.put, List.setIfInBounds_toArray, List.set_cons_zero, List.set_cons_succ]
  refine wpList_take (.agg (tensL qs zs 8).toArray) (yieldsIf_load_mid rfl 79 (.tmp 7) rfl s 34 rfl (tensL qs zs 8) _ (fun w' e => by subst e; exact VC.out.2) Try.underlying79 rfl (by rw [tensL_len]; kernel_rfl)) ?_
  change wpList _ _ _ _ (Act.put _ (some 8) _) _
  simp only [Act.put, List.setIfInBounds_toArray, List.set_cons_zero, List.set_cons_succ]
  refine wpList_take (.int .i64 0) (Or.inl ⟨by rfl, fun w' hs => by subst hs; go_simp⟩) ?_
  change wpList _ _ _ _ (Act.put _ (some 9) _) _
  simp only [Act.put, List.setIfInBounds_toArray, List.set_cons_zero, List.set_cons_succ]
  refine wpList_nil ?_
  go_wp2_with fail
  go_loopw [3, 4, 6, 9] (fun l m _ c wr => ∃ k : Nat, k ≤ 8 ∧ c = .int .i64 k ∧ Prs 74 wr W.heap.size l (qs.take k) ∧ Pags wr W.heap.size m k (zs.take (k * 8)) ∧ Below W.heap.size W wr) (fun _ _ _ c _ => 8 - (intOf c).toNat)
  case atStart => exact ⟨0, by decide, rfl, Prs.nil _ _ _, by rw [Nat.zero_mul, List.take_zero]; exact Pags.nil _ _, Below.refl _ _⟩
  case round =>
    obtain ⟨k, hk, rfl, hl, hm, hB⟩ := hrel
    obtain ⟨la, lc, hle, _⟩ := hl.shape
    obtain ⟨ma, mc, hme, _, _, hms⟩ := hm.shape
    have QL : Hid ((qs.take k).length = k) := by show _ = _; rw [List.length_take]; have := OK.out.2.1; omega
    rw [QL.out] at hle
    subst hle hme
    have HL : Hid (Prs 74 wr W.heap.size (.slice la k lc) (qs.take k)) := hl
    have HM : Hid (Pags wr W.heap.size (.slice ma k mc) k (zs.take (k * 8))) := hm
    have HB : Hid (Below W.heap.size W wr) := hB
    by_cases hlt : k < 8
    · have hI : (k : Int) < 8 := by omega
      have HLT : Hid (k < 8) := hlt
      have IX : Hid (∀ u, (Instr.index 79 (.agg (tensL qs zs 8).toArray) (.int .i64 (k : Int))).run Try.prog u = .ok (.agg (tenL qs zs k).toArray) u) := own_index qs zs k hlt
      have TK : Hid (qs.take (k + 1) = qs.take k ++ [((qs.getD k (0, 0)).1, (qs.getD k (0, 0)).2)]) := take_pair qs k (by have := OK.out.2.1; omega)
      have TZ : Hid (zs.take ((k + 1) * 8) = zs.take (k * 8) ++ [zs.getD (k * 8) 0, zs.getD (k * 8 + 1) 0, zs.getD (k * 8 + 2) 0, zs.getD (k * 8 + 3) 0, zs.getD (k * 8 + 4) 0, zs.getD (k * 8 + 5) 0, zs.getD (k * 8 + 6) 0, zs.getD (k * 8 + 7) 0]) := by
        show _ = _
        rw [show (k + 1) * 8 = k * 8 + 8 by omega, List.take_add, show (zs.drop (k * 8)).take 8 = eight zs k from rfl, eight_list zs k (by have := OK.out.2.2; omega)]
      unfold tenL at IX
      obtain ⟨tk, htk⟩ : ∃ z, (qs.getD k (0, 0)).1 = z := ⟨_, rfl⟩
      obtain ⟨dk, hdk⟩ : ∃ z, (qs.getD k (0, 0)).2 = z := ⟨_, rfl⟩
      rw [htk, hdk] at IX TK
      obtain ⟨x0, hx0⟩ : ∃ z, zs.getD (k * 8) 0 = z := ⟨_, rfl⟩
      rw [hx0] at IX TZ
      obtain ⟨x1, hx1⟩ : ∃ z, zs.getD (k * 8 + 1) 0 = z := ⟨_, rfl⟩
      rw [hx1] at IX TZ
      obtain ⟨x2, hx2⟩ : ∃ z, zs.getD (k * 8 + 2) 0 = z := ⟨_, rfl⟩
      rw [hx2] at IX TZ
      obtain ⟨x3, hx3⟩ : ∃ z, zs.getD (k * 8 + 3) 0 = z := ⟨_, rfl⟩
      rw [hx3] at IX TZ
      obtain ⟨x4, hx4⟩ : ∃ z, zs.getD (k * 8 + 4) 0 = z := ⟨_, rfl⟩
      rw [hx4] at IX TZ
      obtain ⟨x5, hx5⟩ : ∃ z, zs.getD (k * 8 + 5) 0 = z := ⟨_, rfl⟩
      rw [hx5] at IX TZ
      obtain ⟨x6, hx6⟩ : ∃ z, zs.getD (k * 8 + 6) 0 = z := ⟨_, rfl⟩
      rw [hx6] at IX TZ
      obtain ⟨x7, hx7⟩ : ∃ z, zs.getD (k * 8 + 7) 0 = z := ⟨_, rfl⟩
      rw [hx7] at IX TZ
      clear htk hdk hx0 hx1 hx2 hx3 hx4 hx5 hx6 hx7 hl hm hB hms hlt
      have ix := IX.out
      go_upto_region 6 with fail
      clear ix IX
      generalize hU : wr.alloc (.cells #[.int .i64 tk, .int .i64 dk, .int .i64 x0, .int .i64 x1, .int .i64 x2, .int .i64 x3, .int .i64 x4, .int .i64 x5, .int .i64 x6, .int .i64 x7] 78) = U
      have bU : Below wr.heap.size wr U := by rw [← hU]; exact al (Below.refl _ _) _
      have VU : Hid (Vb U wr.heap.size #[.int .i64 tk, .int .i64 dk, .int .i64 x0, .int .i64 x1, .int .i64 x2, .int .i64 x3, .int .i64 x4, .int .i64 x5, .int .i64 x6, .int .i64 x7] 78) := by show Vb _ _ _ _; rw [← hU]; exact Vb.new _ _ _
      have BU : Hid (Below W.heap.size W U) := on HB.out bU
      have LU : Hid (Prs 74 U W.heap.size (.slice la k lc) (qs.take k)) := HL.out.keep bU
      have MU : Hid (Pags U W.heap.size (.slice ma k mc) k (zs.take (k * 8))) := HM.out.keep bU
      have ZU : Hid (W.heap.size ≤ wr.heap.size ∧ W.heap.size ≤ U.heap.size) := ⟨HB.out.size, BU.out.size⟩
      generalize wr.heap.size = p at *
      clear hU bU
      have y0 : U.cell? ⟨p, 0, none⟩ = some (.int .i64 tk) := VU.out.cell 0 rfl
      have y1 : U.cell? ⟨p, 1, none⟩ = some (.int .i64 dk) := VU.out.cell 1 rfl
      go_upto_region 7 with (at_builtin; refine wp_appp _ rfl (.tmp 12) (.tmp 15) rfl W.heap.size _ (qs.take k) rfl (LU.out.keep (al (Below.refl _ _) _)) U.heap.size 1 1 W.heap.size [(tk, dk)] rfl (prs_one U _ tk dk ZU.out.2) rfl (by rw [QL.out]; have := HLT.out; omega) (by have := ZU.out.2; simp; omega) ?_; intro l1 U1 hl1 g1)
      have G1 : World.grownBy _ U1 (Value.slice la k lc).ownBlock := g1
      have BV : Hid (Below W.heap.size W U1) := (al BU.out _).grown g1 (by have := ZU.out; simp; omega) (fun j hj => (LU.out.lt j hj).1)
      have VV : Hid (Vb U1 p #[.int .i64 tk, .int .i64 dk, .int .i64 x0, .int .i64 x1, .int .i64 x2, .int .i64 x3, .int .i64 x4, .int .i64 x5, .int .i64 x6, .int .i64 x7] 78) := (VU.out.push _).gr G1 (fun f => absurd (row_apart (b' := 0) (e' := 78) (s' := 10) (n' := 1) (v' := .slice (some ⟨p, 0, none⟩) 1 1) (xs' := #[.int .i64 tk, .int .i64 dk, .int .i64 x0, .int .i64 x1, .int .i64 x2, .int .i64 x3, .int .i64 x4, .int .i64 x5, .int .i64 x6, .int .i64 x7].toList) LU.out (vb_row VU.out rfl) (by decide)) (by rw [← f]; simp [Value.ownBlock]))
      have LV : Hid (Prs 74 U1 W.heap.size l1 (qs.take (k + 1))) := by show Prs _ _ _ _ _; rw [TK.out]; exact hl1
      have MV : Hid (Pags U1 W.heap.size (.slice ma k mc) k (zs.take (k * 8))) := World.ownsRow.kept (MU.out.keep (al (Below.refl _ _) _)) g1 (row_apart MU.out LU.out (by decide))
      clear hl1 g1 G1 y0 y1 LU MU VU BU
      have QL2 : Hid ((qs.take (k + 1)).length = k + 1) := by show _ = _; rw [List.length_take]; have := OK.out.2.1; have := HLT.out; omega
      obtain ⟨la', lc', hle, _⟩ := LV.out.shape
      rw [QL2.out] at hle
      subst hle
      have ZV : Hid (W.heap.size ≤ U1.heap.size) := BV.out.size
      have RX : Hid (U1.rangeAt p 2 [.int .i64 x0, .int .i64 x1, .int .i64 x2, .int .i64 x3, .int .i64 x4, .int .i64 x5, .int .i64 x6, .int .i64 x7]) := by
        intro j v hv
        have hj : j < 8 := (List.getElem?_eq_some_iff.1 hv).1
        refine VV.out.cell (2 + j) ?_
        rw [← hv]
        have e : j = 0 ∨ j = 1 ∨ j = 2 ∨ j = 3 ∨ j = 4 ∨ j = 5 ∨ j = 6 ∨ j = 7 := by omega
        rcases e with rfl | rfl | rfl | rfl | rfl | rfl | rfl | rfl <;> rfl
      refine wp_region_lit ?_
      refine wpList_take (.slice ma k mc) (Or.inl ⟨by rfl, fun w' hs => by subst hs; go_simp⟩) ?_
      change wpList _ _ _ _ (Act.put _ (some 17) _) _
      simp only [Act.put, List.setIfInBounds_toArray, List.set_cons_zero, List.set_cons_succ]
      refine wpList_take (.pointer (some ⟨p, 2, none⟩)) (Or.inl ⟨by rfl, fun w' hs => by subst hs; go_simp⟩) ?_
      change wpList _ _ _ _ (Act.put _ (some 18) _) _
      simp only [Act.put, List.setIfInBounds_toArray, List.set_cons_zero, List.set_cons_succ]
      refine wpList_take (.agg #[.int .i64 x0, .int .i64 x1, .int .i64 x2, .int .i64 x3, .int .i64 x4, .int .i64 x5, .int .i64 x6, .int .i64 x7]) (yieldsIf_load_mid rfl 76 (.tmp 18) rfl p 2 rfl [.int .i64 x0, .int .i64 x1, .int .i64 x2, .int .i64 x3, .int .i64 x4, .int .i64 x5, .int .i64 x6, .int .i64 x7] _ (fun w' e => by subst e; exact RX.out) Try.underlying76 rfl (by kernel_rfl)) ?_
      change wpList _ _ _ _ (Act.put _ (some 19) _) _
      simp only [Act.put, List.setIfInBounds_toArray, List.set_cons_zero, List.set_cons_succ]
      go_wp2_with (at_builtin; refine wp_pag _ rfl (.tmp 17) (.tmp 20) rfl W.heap.size _ k _ rfl (MV.out.keep (al (Below.refl _ _) _)) U1.heap.size [x0, x1, x2, x3, x4, x5, x6, x7] rfl rfl (cells_eight _ _ _ _ _ _ _ _ _ _) (by have := HLT.out; omega) (by have := ZV.out; simp; omega) ?_; intro m1 U2 hm1 g2)
      have BX : Hid (Below W.heap.size W U2) := (al BV.out _).grown g2 (by have := ZV.out; simp; omega) (fun j hj => (MV.out.inb j hj).1)
      have MX : Hid (Pags U2 W.heap.size m1 (k + 1) (zs.take ((k + 1) * 8))) := by show Pags _ _ _ _ _; rw [TZ.out]; exact hm1
      have LX : Hid (Prs 74 U2 W.heap.size (.slice la' (k + 1) lc') (qs.take (k + 1))) := World.ownsRow.kept (LV.out.keep (al (Below.refl _ _) _)) g2 (row_apart LV.out MV.out (by decide))
      clear hm1 g2
      go_wp2_with fail
      go_roundw
      case rel => exact ⟨k + 1, by have := HLT.out; omega, by go_num, LX.out, MX.out, BX.out⟩
      case measure => have := HLT.out; simp [intOf]; omega
    · have hJ : ¬ (k : Int) < 8 := by omega
      obtain rfl : k = 8 := by omega
      obtain ⟨mg, rfl⟩ := hms (by decide)
      have L8 : Hid (Prs 74 wr W.heap.size (.slice la 8 lc) qs) := by have := HL.out; rw [List.take_of_length_le (by have := OK.out.2.1; omega)] at this; exact this
      have M8 : Hid (Pags wr W.heap.size (.slice (some ⟨mg, 0, none⟩) 8 mc) 8 zs) := by have := HM.out; rw [List.take_of_length_le (by have := OK.out.2.2; omega)] at this; exact this
      clear hlt hl hm hB hms QL
      go_wp2_with fail
      refine (i_hartV s (.slice xa xn xk) (.slice ya yn yk) H wr (VC.out.1.keep HB.out) ((HI.out.1.keep B0.out).keep HB.out).rv ((HI.out.2.keep B0.out).keep HB.out).rv OK.out.1.r16 OK.out.1.c11 (by have := OK.out.1.i40; omega) (by have := OK.out.1.o40; omega)).mono ?_
      rintro e w1 ⟨r', c', i', o', rfl, hm1, ha1, b1⟩
      obtain ⟨v0, d0, e0, _⟩ := hm1.r.shape
      obtain ⟨v1, d1, e1, _⟩ := hm1.c.shape
      obtain ⟨v2, d2, e2, _⟩ := hm1.i.shape
      obtain ⟨v3, d3, e3, _⟩ := hm1.o.shape
      subst e0 e1 e2 e3
      obtain ⟨n0, hn0⟩ : ∃ n, H.regs.length = n := ⟨_, rfl⟩
      obtain ⟨n1, hn1⟩ : ∃ n, H.csr.length = n := ⟨_, rfl⟩
      obtain ⟨n2, hn2⟩ : ∃ n, H.inn.length = n := ⟨_, rfl⟩
      obtain ⟨n3, hn3⟩ : ∃ n, H.out.length = n := ⟨_, rfl⟩
      rw [hn0, hn1, hn2, hn3] at hm1 ha1 ⊢
      have H1 : Hid (Hm w1 wr.heap.size (.slice v0 n0 d0) (.slice v1 n1 d1) (.slice v2 n2 d2) (.slice v3 n3 d3) H ∧ Ha (.slice v0 n0 d0) (.slice v1 n1 d1) (.slice v2 n2 d2) (.slice v3 n3 d3)) := ⟨hm1, ha1⟩
      have B1 : Hid (Below W.heap.size W w1) := on HB.out b1
      have L1 : Hid (Prs 74 w1 W.heap.size (.slice la 8 lc) qs) := L8.out.keep b1
      have M1 : Hid (Pags w1 W.heap.size (.slice (some ⟨mg, 0, none⟩) 8 mc) 8 zs) := M8.out.keep b1
      clear hm1 ha1 b1 hn0 hn1 hn2 hn3 HL HM L8 M8
      go_wp2_with fail
      refine (impl_join mg 8 mc zs _ _ M1.out (by decide)).mono ?_
      rintro e w2 ⟨m', rfl, n2', b2⟩
      obtain ⟨v5, d5, e5, _⟩ := n2'.shape
      rw [OK.out.2.2] at e5
      subst e5
      have B2 : Hid (Below W.heap.size W w2) := on B1.out b2
      have H2 : Hid (Hm w2 wr.heap.size (.slice v0 n0 d0) (.slice v1 n1 d1) (.slice v2 n2 d2) (.slice v3 n3 d3) H) := H1.out.1.keep b2
      have L2 : Hid (Prs 74 w2 W.heap.size (.slice la 8 lc) qs) := L1.out.keep b2
      have M2 : Hid (Nums w2 w1.heap.size (.slice v5 64 d5) zs) := n2'
      have AP : Hid (Apt (.slice v0 n0 d0) (.slice v5 64 d5) ∧ Apt (.slice v1 n1 d1) (.slice v5 64 d5) ∧ Apt (.slice v2 n2 d2) (.slice v5 64 d5) ∧ Apt (.slice v3 n3 d3) (.slice v5 64 d5)) := ⟨H1.out.1.r.apt n2' (Nat.le_refl _), H1.out.1.c.apt n2' (Nat.le_refl _), H1.out.1.i.apt n2' (Nat.le_refl _), H1.out.1.o.apt n2' (Nat.le_refl _)⟩
      have ZZ : Hid (s + 1 < W.heap.size ∧ W.heap.size ≤ wr.heap.size ∧ W.heap.size ≤ w1.heap.size ∧ w.heap.size ≤ W.heap.size) := ⟨R.out.lt, HB.out.size, B1.out.size, B0.out.size⟩
      have R2 : Hid (Vb w2 (s + 1) #[.slice none 0 0, .int .i64 0, .slice none 0 0, .bool false, .bool false, .bool false, .int .i64 0, .slice none 0 0, .slice none 0 0, .slice none 0 0, .slice none 0 0] 35) := R.out.keep B2.out
      clear b2 n2' M1
      have p0 := R2.out.cell 0 rfl
      have f0 := R2.out.free 0
      have p1 := R2.out.cell 1 rfl
      have f1 := R2.out.free 1
      have p2 := R2.out.cell 2 rfl
      have f2 := R2.out.free 2
      have p3 := R2.out.cell 3 rfl
      have f3 := R2.out.free 3
      have p4 := R2.out.cell 4 rfl
      have f4 := R2.out.free 4
      have p5 := R2.out.cell 5 rfl
      have f5 := R2.out.free 5
      have p6 := R2.out.cell 6 rfl
      have f6 := R2.out.free 6
      have p7 := R2.out.cell 7 rfl
      have f7 := R2.out.free 7
      have p8 := R2.out.cell 8 rfl
      have f8 := R2.out.free 8
      have p9 := R2.out.cell 9 rfl
      have f9 := R2.out.free 9
      have p10 := R2.out.cell 10 rfl
      have f10 := R2.out.free 10
      have NR : Hid (_ ∧ _) := elevenX R2.out (.slice v0 n0 d0) (.int .i64 H.pc) (.slice v1 n1 d1) (.bool H.halted) (.bool H.waiting) (.bool H.rung) (.int .i64 H.done) (.slice v2 n2 d2) (.slice v3 n3 d3) (.slice la 8 lc) (.slice v5 64 d5)
      go_wp2_with fail
      clear p0 f0 p1 f1 p2 f2 p3 f3 p4 f4 p5 f5 p6 f6 p7 f7 p8 f8 p9 f9 p10 f10
      generalize (((((((((((w2.setCell ⟨s + 1, 0, none⟩ (.slice v0 n0 d0)).setCell ⟨s + 1, 1, none⟩ (.int .i64 H.pc)).setCell ⟨s + 1, 2, none⟩ (.slice v1 n1 d1)).setCell ⟨s + 1, 3, none⟩ (.bool H.halted)).setCell ⟨s + 1, 4, none⟩ (.bool H.waiting)).setCell ⟨s + 1, 5, none⟩ (.bool H.rung)).setCell ⟨s + 1, 6, none⟩ (.int .i64 H.done)).setCell ⟨s + 1, 7, none⟩ (.slice v2 n2 d2)).setCell ⟨s + 1, 8, none⟩ (.slice v3 n3 d3)).setCell ⟨s + 1, 9, none⟩ (.slice la 8 lc)).setCell ⟨s + 1, 10, none⟩ (.slice v5 64 d5)) = V at *
      have O6 : Ho (s + 2) w2 V := NR.out.2.ho fun k e => by omega
      have B7 : Hid (Below w.heap.size w V) := Mq.under (on B0.out B2.out) NR.out.2 fun k e => by have := HSs.out; omega
      have NE : ∀ k, (Value.slice la 8 lc).ownBlock = some k → ¬ k = s + 1 := fun k e f => by have := (L2.out.lt k e).1; have := ZZ.out; omega
      have SS : Hid (Sm V w.heap.size (.slice v0 n0 d0) (.slice v1 n1 d1) (.slice v2 n2 d2) (.slice v3 n3 d3) (.slice la 8 lc) (.slice v5 64 d5) H qs zs) := ⟨((H2.out.mono (by have := ZZ.out; omega)).ho O6).mono (by have := HSs.out; omega), H1.out.2, prs_mono (prs_mq L2.out NR.out.2 NE) ZZ.out.2.2.2, ((M2.out.mono (by have := ZZ.out; omega)).ho O6).mono (by have := HSs.out; omega), AP.out.1, AP.out.2.1, AP.out.2.2.1, AP.out.2.2.2⟩
      have x0' := NR.out.1.cell 0 rfl
      have x1' := NR.out.1.cell 1 rfl
      have x2' := NR.out.1.cell 2 rfl
      have x3' := NR.out.1.cell 3 rfl
      have x4' := NR.out.1.cell 4 rfl
      have x5' := NR.out.1.cell 5 rfl
      have x6' := NR.out.1.cell 6 rfl
      have x7' := NR.out.1.cell 7 rfl
      have x8' := NR.out.1.cell 8 rfl
      have x9' := NR.out.1.cell 9 rfl
      have x10' := NR.out.1.cell 10 rfl
      exact bodyPost_ret (v := .agg #[.slice v0 n0 d0, .int .i64 H.pc, .slice v1 n1 d1, .bool H.halted, .bool H.waiting, .bool H.rung, .int .i64 H.done, .slice v2 n2 d2, .slice v3 n3 d3, .slice la 8 lc, .slice v5 64 d5]) (by simp [results, Try.results41, go_sem, x0', x1', x2', x3', x4', x5', x6', x7', x8', x9', x10']) rfl ⟨_, _, _, _, _, _, rfl, SS.out, B7.out⟩
end Go.Proofs.Ytijajemalokgjaa
namespace Go.Proofs.Ytijajemalokgjaa
open Go.RowKit
set_option linter.unusedVariables false

theorem range_right {w : World} {q o : Nat} {xs ys : List Value} (h : w.rangeAt q o (xs ++ ys)) : w.rangeAt q (o + xs.length) ys := fun j v hv => by
  have := h (xs.length + j) v (by rw [List.getElem?_append_right (by omega), show xs.length + j - xs.length = j by omega]; exact hv)
  rw [show o + xs.length + j = o + (xs.length + j) by omega]
  exact this
theorem tens_parts {w : World} {q : Nat} {qs : List (Int × Int)} {zs : List Int} : ∀ n, w.rangeAt q 34 (tensL qs zs n) → ∀ k, k < n → w.rangeAt q (34 + k * 10) (tenL qs zs k)
  | 0, _, k, hk => by omega
  | n + 1, h, k, hk => by
    rw [tensL] at h
    by_cases e : k = n
    · subst e
      have := range_right h
      rw [tensL_len] at this
      exact this
    · exact tens_parts n (range_left h) k (by omega)
theorem tens_join {w : World} {q : Nat} {qs : List (Int × Int)} {zs : List Int} : ∀ n, (∀ k, k < n → w.rangeAt q (34 + k * 10) (tenL qs zs k)) → w.rangeAt q 34 (tensL qs zs n)
  | 0, _ => range_nil _ _ _
  | n + 1, h => by
    rw [tensL]
    refine range_app (tens_join n fun k hk => h k (by omega)) ?_
    rw [tensL_len]
    exact h n (by omega)
theorem fz_at (zs : List Int) (p : Nat) (ws : List Int) (hz : zs.length = 64) (hp : p ≤ 7) (hw : ws.length = 8) (i : Nat) : (fzL zs p ws 8).getD i 0 = if p * 8 ≤ i ∧ i < p * 8 + 8 then ws.getD (i - p * 8) 0 else zs.getD i 0 := by
  unfold fzL
  have e1 : ws.take 8 = ws := List.take_of_length_le (by omega)
  rw [e1]
  simp only [List.getD_eq_getElem?_getD]
  by_cases h1 : i < p * 8
  · rw [if_neg (by omega), List.getElem?_append_left (by rw [List.length_take]; omega), List.getElem?_take_of_lt h1]
  · rw [List.getElem?_append_right (by rw [List.length_take]; omega)]
    have l1 : (zs.take (p * 8)).length = p * 8 := by rw [List.length_take]; omega
    rw [l1]
    by_cases h2 : i < p * 8 + 8
    · rw [if_pos ⟨by omega, h2⟩, List.getElem?_append_left (by omega)]
    · rw [if_neg (by omega), List.getElem?_append_right (by omega), List.getElem?_drop, hw]
      congr 2
      omega
theorem ten_other (qs : List (Int × Int)) (zs : List Int) (p : Nat) (ws : List Int) (hz : zs.length = 64) (hp : p ≤ 7) (hw : ws.length = 8) (k : Nat) (hk : k ≠ p) : tenL qs (fzL zs p ws 8) k = tenL qs zs k := by
  unfold tenL
  have h : ∀ j, j < 8 → (fzL zs p ws 8).getD (k * 8 + j) 0 = zs.getD (k * 8 + j) 0 := fun j hj => by rw [fz_at zs p ws hz hp hw, if_neg (by omega)]
  rw [show (fzL zs p ws 8).getD (k * 8) 0 = zs.getD (k * 8) 0 from h 0 (by decide), h 1 (by decide), h 2 (by decide), h 3 (by decide), h 4 (by decide), h 5 (by decide), h 6 (by decide), h 7 (by decide)]
theorem eight_map (ws : List Int) (hw : ws.length = 8) : ws.map (Value.int .i64) = [.int .i64 (ws.getD 0 0), .int .i64 (ws.getD 1 0), .int .i64 (ws.getD 2 0), .int .i64 (ws.getD 3 0), .int .i64 (ws.getD 4 0), .int .i64 (ws.getD 5 0), .int .i64 (ws.getD 6 0), .int .i64 (ws.getD 7 0)] := by
  match ws, hw with
  | [a, b, c, d, e, f, g, h], _ => rfl
theorem ten_same (qs : List (Int × Int)) (zs : List Int) (p : Nat) (ws : List Int) (hz : zs.length = 64) (hp : p ≤ 7) (hw : ws.length = 8) : tenL qs (fzL zs p ws 8) p = [.int .i64 (qs.getD p (0, 0)).1, .int .i64 (qs.getD p (0, 0)).2] ++ ws.map (Value.int .i64) := by
  unfold tenL
  have h : ∀ j, j < 8 → (fzL zs p ws 8).getD (p * 8 + j) 0 = ws.getD j 0 := fun j hj => by rw [fz_at zs p ws hz hp hw, if_pos (by omega), show p * 8 + j - p * 8 = j by omega]
  rw [eight_map ws hw, show (fzL zs p ws 8).getD (p * 8) 0 = ws.getD 0 0 from h 0 (by decide), h 1 (by decide), h 2 (by decide), h 3 (by decide), h 4 (by decide), h 5 (by decide), h 6 (by decide), h 7 (by decide)]
  rfl
theorem own_feed {w : World} {q : Nat} {H : Ht} {i o : Value} {qs : List (Int × Int)} {zs : List Int} (p : Nat) (ws : List Int) (h : w.rangeAt q 0 (ownL H i o qs zs)) (ht : w.there q 0 114) (hz : zs.length = 64) (hp : p ≤ 7) (hw : ws.length = 8) :
    (w.setCells q (34 + p * 10 + 2) (ws.map (Value.int .i64))).rangeAt q 0 (ownL H i o qs (fzL zs p ws 8)) := by
  have hl : (ws.map (Value.int .i64)).length = 8 := by rw [List.length_map, hw]
  have h34 : (mca H i o).toList.length = 34 := rfl
  unfold ownL at h ⊢
  have hm := range_left h
  have ht' := range_right h
  rw [h34, Nat.zero_add] at ht'
  refine range_app (World.rangeAt_setCells_apart hm _ _ _ (.inr (.inl (by omega)))) ?_
  rw [h34, Nat.zero_add]
  refine tens_join 8 fun k hk => ?_
  have hkk := tens_parts 8 ht' k hk
  by_cases e : k = p
  · subst e
    rw [ten_same qs zs k ws hz hp hw]
    have h2 : tenL qs zs k = [.int .i64 (qs.getD k (0, 0)).1, .int .i64 (qs.getD k (0, 0)).2] ++ [.int .i64 (zs.getD (k * 8) 0), .int .i64 (zs.getD (k * 8 + 1) 0), .int .i64 (zs.getD (k * 8 + 2) 0), .int .i64 (zs.getD (k * 8 + 3) 0), .int .i64 (zs.getD (k * 8 + 4) 0), .int .i64 (zs.getD (k * 8 + 5) 0), .int .i64 (zs.getD (k * 8 + 6) 0), .int .i64 (zs.getD (k * 8 + 7) 0)] := rfl
    rw [h2] at hkk
    refine range_app (World.rangeAt_setCells_apart (range_left hkk) _ _ _ (.inr (.inl (by simp)))) ?_
    exact World.rangeAt_setCells_same _ _ _ _ (there_part ht _ _ (by rw [hl]; omega))
  · rw [ten_other qs zs p ws hz hp hw k e]
    refine World.rangeAt_setCells_apart hkk _ _ _ ?_
    rw [tenL_len, hl]
    omega
theorem vb_range {w : World} {q : Nat} {L : List Value} {t : TypeId} (h : Vb w q L.toArray t) : w.rangeAt q 0 L := fun j v hv => by
  rw [Nat.zero_add]
  exact h.cell j (by rw [List.getElem?_toArray]; exact hv)
theorem yieldsIf_load_any {ops : Array Oper} {S : World → Prop} {op : Oper} {a : Act} (hw : Region.wanted op (yielded ops a.tmps) = true) (ty : TypeId) (x : Operand) (ho : op.op = .load ty x)
    (ad : Addr) (hx : a.eval x = .pointer (some ad)) (cs : List Value) (d : TypeDesc) (hS : ∀ w, S w → ∀ j v, cs[j]? = some v → w.cell? (ad.add j) = some v)
    (hu : Try.prog.underlying ty = some d) (hd : d.isRow = true) (hi : (Try.prog.info? ty).map (·.size) = some cs.length) : YieldsIf Try.prog ops S op (.agg cs.toArray) a :=
  .inl ⟨hw, fun w hw' => by
    have hl : (loadCells ad cs.length).run Try.prog w = .ok cs.toArray w := run_loadCells_list (P := Try.prog) w ad cs (hS w hw')
    have hv : (loadVar ty ad).run Try.prog w = .ok (.agg cs.toArray) w := by
      cases hq : Try.prog.info? ty with
      | none => simp [hq] at hi
      | some i =>
        have hs : i.size = cs.length := by simpa [hq] using hi
        have hagg : (isAgg ty).run Try.prog w = .ok true w := by
          unfold isAgg
          rw [Sem.run_bind, run_underlying hu w]
          cases d <;> simp_all
        simp [loadVar, Sem.run_bind, hagg, sizeOf, typeInfo, hq, hs, hl]
    unfold execOp
    simp only [ho, hx, Instr.loadAt, Instr.sureAddr, Sem.run_bind, Sem.run_pure, Result.andThen_ok, hv]⟩
end Go.Proofs.Ytijajemalokgjaa
namespace Go.Proofs.Ytijajemalokgjaa
open Go.RowKit
set_option linter.unusedVariables false

set_option maxRecDepth 20000 in
set_option maxHeartbeats 8000000 in
theorem ifs_bad (r c i o l m : Value) (H : Ht) (ps : List (Int × Int)) (zs : List Int) (pg : Int) (wa : Option Addr) (wn wc : Nat) (ws : List Int) (b : Nat) (w : World) (h : Sm w b r c i o l m H ps zs) (hl : ps.length ≤ 1048576) (hw : Rn w wa wn wc ws) (hx : swC H ps zs pg ≠ 0) :
    Calls Try.prog 16 #[.agg #[r, .int .i64 H.pc, c, .bool H.halted, .bool H.waiting, .bool H.rung, .int .i64 H.done, i, o, l, m], .int .i64 pg, .slice wa wn wc] w fun e w' => ∃ r' c' i' o' l' m', e = .returned (.agg #[.int .i64 (fsC H ps zs pg ws), r', .int .i64 (fsH H ps zs pg ws).pc, c', .bool (fsH H ps zs pg ws).halted, .bool (fsH H ps zs pg ws).waiting, .bool (fsH H ps zs pg ws).rung, .int .i64 (fsH H ps zs pg ws).done, i', o', l', m']) ∧ Sm w' w.heap.size r' c' i' o' l' m' (fsH H ps zs pg ws) (fsP H ps zs pg ws) (fsZ H ps zs pg ws) ∧ Below w.heap.size w w' := by
  have hc : fsC H ps zs pg ws = swC H ps zs pg := by rw [fsC, if_neg hx]
  have hu := fs_not H ps zs pg ws (by rw [hc]; exact hx)
  rw [hu.1, hu.2.1, hu.2.2, hc]
  obtain ⟨cx, hcx⟩ : ∃ cx, swC H ps zs pg = cx := ⟨_, rfl⟩
  rw [hcx] at hx ⊢
  have HX : Hid (swC H ps zs pg = cx) := hcx
  have hx0 : (cx != 0) = true := by simp [hx]
  clear hu hc hcx hx
  obtain ⟨a0, k0, e0, _⟩ := h.h.r.shape
  obtain ⟨a1, k1, e1, _⟩ := h.h.c.shape
  obtain ⟨a2, k2, e2, _⟩ := h.h.i.shape
  obtain ⟨a3, k3, e3, _⟩ := h.h.o.shape
  obtain ⟨a4, k4, e4, _, _, g4⟩ := h.pl.shape
  obtain ⟨a5, k5, e5, _, _, g5⟩ := h.mm.shape
  subst e0 e1 e2 e3 e4 e5
  obtain ⟨n0, hn0⟩ : ∃ n, H.regs.length = n := ⟨_, rfl⟩
  obtain ⟨n1, hn1⟩ : ∃ n, H.csr.length = n := ⟨_, rfl⟩
  obtain ⟨n2, hn2⟩ : ∃ n, H.inn.length = n := ⟨_, rfl⟩
  obtain ⟨n3, hn3⟩ : ∃ n, H.out.length = n := ⟨_, rfl⟩
  obtain ⟨n4, hn4⟩ : ∃ n, ps.length = n := ⟨_, rfl⟩
  obtain ⟨n5, hn5⟩ : ∃ n, zs.length = n := ⟨_, rfl⟩
  rw [hn0, hn1, hn2, hn3, hn4, hn5] at h ⊢
  have HS : Hid (Sm w b (.slice a0 n0 k0) (.slice a1 n1 k1) (.slice a2 n2 k2) (.slice a3 n3 k3) (.slice a4 n4 k4) (.slice a5 n5 k5) H ps zs) := h
  have HL : Hid (ps.length ≤ 1048576) := hl
  have HW : Hid (Rn w wa wn wc ws) := hw
  have HWN : Hid (wn = ws.length) := hw.len
  have hwn : (wn : Int) ≤ 9223372036854775807 := by have := hw.cap; unfold maxLen at this; omega
  clear h hl hw hn0 hn1 hn2 hn3 hn4 hn5 g4 g5
  generalize hW : (w.alloc (.cells #[.slice a0 n0 k0, .int .i64 H.pc, .slice a1 n1 k1, .bool H.halted, .bool H.waiting, .bool H.rung, .int .i64 H.done, .slice a2 n2 k2, .slice a3 n3 k3, .slice a4 n4 k4, .slice a5 n5 k5] 35)).alloc (.cells #[.int .i64 0, .slice none 0 0, .int .i64 0, .slice none 0 0, .bool false, .bool false, .bool false, .int .i64 0, .slice none 0 0, .slice none 0 0, .slice none 0 0, .slice none 0 0] 43) = W
  have B0 : Hid (Below w.heap.size w W) := by show Below _ _ _; rw [← hW]; exact al (al (Below.refl _ _) _) _
  obtain ⟨s, hS⟩ : ∃ s, w.heap.size = s := ⟨_, rfl⟩
  have HSs : Hid (w.heap.size = s) := hS
  have z1 : s + 1 = (w.alloc (.cells #[.slice a0 n0 k0, .int .i64 H.pc, .slice a1 n1 k1, .bool H.halted, .bool H.waiting, .bool H.rung, .int .i64 H.done, .slice a2 n2 k2, .slice a3 n3 k3, .slice a4 n4 k4, .slice a5 n5 k5] 35)).heap.size := by rw [← hS]; simp
  have Q : Hid (Vb W s #[.slice a0 n0 k0, .int .i64 H.pc, .slice a1 n1 k1, .bool H.halted, .bool H.waiting, .bool H.rung, .int .i64 H.done, .slice a2 n2 k2, .slice a3 n3 k3, .slice a4 n4 k4, .slice a5 n5 k5] 35) := by show Vb _ _ _ _; rw [← hW, ← hS]; exact (Vb.new _ _ _).push _
  have R : Hid (Vb W (s + 1) #[.int .i64 0, .slice none 0 0, .int .i64 0, .slice none 0 0, .bool false, .bool false, .bool false, .int .i64 0, .slice none 0 0, .slice none 0 0, .slice none 0 0, .slice none 0 0] 43) := by show Vb _ _ _ _; rw [← hW, z1]; exact Vb.new _ _ _
  clear z1
  have q0 := Q.out.cell 0 rfl
  have q1 := Q.out.cell 1 rfl
  have q2 := Q.out.cell 2 rfl
  have q3 := Q.out.cell 3 rfl
  have q4 := Q.out.cell 4 rfl
  have q5 := Q.out.cell 5 rfl
  have q6 := Q.out.cell 6 rfl
  have q7 := Q.out.cell 7 rfl
  have q8 := Q.out.cell 8 rfl
  have q9 := Q.out.cell 9 rfl
  have q10 := Q.out.cell 10 rfl
  go_enter Try.func16, Try.ntmps16
  go_wp2_with fail
  clear hW hS q0 q1 q2 q3 q4 q5 q6 q7 q8 q9 q10
  refine (i_soloPageFault _ _ _ _ _ _ H ps zs pg _ _ (HS.out.keep B0.out) HL.out).mono ?_
  rw [HX.out]
  rintro e w1 ⟨rfl, b1⟩
  have B1 : Hid (Below w.heap.size w w1) := on B0.out b1
  have R1 : Hid (Vb w1 (s + 1) #[.int .i64 0, .slice none 0 0, .int .i64 0, .slice none 0 0, .bool false, .bool false, .bool false, .int .i64 0, .slice none 0 0, .slice none 0 0, .slice none 0 0, .slice none 0 0] 43) := R.out.keep b1
  have Q1 : Hid (Vb w1 s #[.slice a0 n0 k0, .int .i64 H.pc, .slice a1 n1 k1, .bool H.halted, .bool H.waiting, .bool H.rung, .int .i64 H.done, .slice a2 n2 k2, .slice a3 n3 k3, .slice a4 n4 k4, .slice a5 n5 k5] 35) := Q.out.keep b1
  have W1 : Hid (Rn w1 wa wn wc ws) := HW.out.stay B1.out
  clear b1
  go_upto_region 3 with (fail)
  have p0 := R1.out.cell 0 rfl
  have f0 := R1.out.free 0
  have p1 := R1.out.cell 1 rfl
  have f1 := R1.out.free 1
  have p2 := R1.out.cell 2 rfl
  have f2 := R1.out.free 2
  have p3 := R1.out.cell 3 rfl
  have f3 := R1.out.free 3
  have p4 := R1.out.cell 4 rfl
  have f4 := R1.out.free 4
  have p5 := R1.out.cell 5 rfl
  have f5 := R1.out.free 5
  have p6 := R1.out.cell 6 rfl
  have f6 := R1.out.free 6
  have p7 := R1.out.cell 7 rfl
  have f7 := R1.out.free 7
  have p8 := R1.out.cell 8 rfl
  have f8 := R1.out.free 8
  have p9 := R1.out.cell 9 rfl
  have f9 := R1.out.free 9
  have p10 := R1.out.cell 10 rfl
  have f10 := R1.out.free 10
  have p11 := R1.out.cell 11 rfl
  have f11 := R1.out.free 11
  have lt := R1.out.lt
  go_wp2_with fail
  clear lt p0 f0 p1 f1 p2 f2 p3 f3 p4 f4 p5 f5 p6 f6 p7 f7 p8 f8 p9 f9 p10 f10 p11 f11
  have NN : Hid (_ ∧ _) := twelveF R1.out (.int .i64 cx) (.slice none 0 0) (.int .i64 0) (.slice none 0 0) (.bool false) (.bool false) (.bool false) (.int .i64 0) (.slice none 0 0) (.slice none 0 0) (.slice none 0 0) (.slice none 0 0)
  generalize ((((((((((((w1.setCell ⟨s + 1, 0, none⟩ (.int .i64 cx)).setCell ⟨s + 1, 1, none⟩ (.slice none 0 0)).setCell ⟨s + 1, 2, none⟩ (.int .i64 0)).setCell ⟨s + 1, 3, none⟩ (.slice none 0 0)).setCell ⟨s + 1, 4, none⟩ (.bool false)).setCell ⟨s + 1, 5, none⟩ (.bool false)).setCell ⟨s + 1, 6, none⟩ (.bool false)).setCell ⟨s + 1, 7, none⟩ (.int .i64 0)).setCell ⟨s + 1, 8, none⟩ (.slice none 0 0)).setCell ⟨s + 1, 9, none⟩ (.slice none 0 0)).setCell ⟨s + 1, 10, none⟩ (.slice none 0 0)).setCell ⟨s + 1, 11, none⟩ (.slice none 0 0)) = V at *
  have x0 := NN.out.1.cell 0 rfl
  have x1 := NN.out.1.cell 1 rfl
  have x2 := NN.out.1.cell 2 rfl
  have x3 := NN.out.1.cell 3 rfl
  have x4 := NN.out.1.cell 4 rfl
  have x5 := NN.out.1.cell 5 rfl
  have x6 := NN.out.1.cell 6 rfl
  have x7 := NN.out.1.cell 7 rfl
  have x8 := NN.out.1.cell 8 rfl
  have x9 := NN.out.1.cell 9 rfl
  have x10 := NN.out.1.cell 10 rfl
  have x11 := NN.out.1.cell 11 rfl
  exact bodyPost_ret (v := .agg #[.int .i64 cx, .slice none 0 0, .int .i64 0, .slice none 0 0, .bool false, .bool false, .bool false, .int .i64 0, .slice none 0 0, .slice none 0 0, .slice none 0 0, .slice none 0 0]) (by simp [results, Try.results16, go_sem, x0, x1, x2, x3, x4, x5, x6, x7, x8, x9, x10, x11]) rfl ⟨.slice none 0 0, .slice none 0 0, .slice none 0 0, .slice none 0 0, .slice none 0 0, .slice none 0 0, rfl, sm_voidF _ _, Mq.under B1.out NN.out.2 fun k e => by have := HSs.out; omega⟩
set_option maxRecDepth 20000 in
set_option maxHeartbeats 8000000 in
theorem ifs_len (r c i o l m : Value) (H : Ht) (ps : List (Int × Int)) (zs : List Int) (pg : Int) (wa : Option Addr) (wn wc : Nat) (ws : List Int) (b : Nat) (w : World) (h : Sm w b r c i o l m H ps zs) (hl : ps.length ≤ 1048576) (hw : Rn w wa wn wc ws) (hx : swC H ps zs pg = 0) (h8 : ws.length ≠ 8) :
    Calls Try.prog 16 #[.agg #[r, .int .i64 H.pc, c, .bool H.halted, .bool H.waiting, .bool H.rung, .int .i64 H.done, i, o, l, m], .int .i64 pg, .slice wa wn wc] w fun e w' => ∃ r' c' i' o' l' m', e = .returned (.agg #[.int .i64 (fsC H ps zs pg ws), r', .int .i64 (fsH H ps zs pg ws).pc, c', .bool (fsH H ps zs pg ws).halted, .bool (fsH H ps zs pg ws).waiting, .bool (fsH H ps zs pg ws).rung, .int .i64 (fsH H ps zs pg ws).done, i', o', l', m']) ∧ Sm w' w.heap.size r' c' i' o' l' m' (fsH H ps zs pg ws) (fsP H ps zs pg ws) (fsZ H ps zs pg ws) ∧ Below w.heap.size w w' := by
  have hc : fsC H ps zs pg ws = 1 := by rw [fsC, if_pos hx, if_neg (by exact fun h => h8 h.1)]
  have hu := fs_not H ps zs pg ws (by rw [hc]; decide)
  rw [hu.1, hu.2.1, hu.2.2, hc]
  have HX : Hid (swC H ps zs pg = 0) := hx
  clear hu hc hx
  have hne : ¬ (wn : Int) = 8 := by have := hw.len; omega
  have hnb : ((wn : Int) != 8) = true := by simp [hne]
  clear h8
  obtain ⟨a0, k0, e0, _⟩ := h.h.r.shape
  obtain ⟨a1, k1, e1, _⟩ := h.h.c.shape
  obtain ⟨a2, k2, e2, _⟩ := h.h.i.shape
  obtain ⟨a3, k3, e3, _⟩ := h.h.o.shape
  obtain ⟨a4, k4, e4, _, _, g4⟩ := h.pl.shape
  obtain ⟨a5, k5, e5, _, _, g5⟩ := h.mm.shape
  subst e0 e1 e2 e3 e4 e5
  obtain ⟨n0, hn0⟩ : ∃ n, H.regs.length = n := ⟨_, rfl⟩
  obtain ⟨n1, hn1⟩ : ∃ n, H.csr.length = n := ⟨_, rfl⟩
  obtain ⟨n2, hn2⟩ : ∃ n, H.inn.length = n := ⟨_, rfl⟩
  obtain ⟨n3, hn3⟩ : ∃ n, H.out.length = n := ⟨_, rfl⟩
  obtain ⟨n4, hn4⟩ : ∃ n, ps.length = n := ⟨_, rfl⟩
  obtain ⟨n5, hn5⟩ : ∃ n, zs.length = n := ⟨_, rfl⟩
  rw [hn0, hn1, hn2, hn3, hn4, hn5] at h ⊢
  have HS : Hid (Sm w b (.slice a0 n0 k0) (.slice a1 n1 k1) (.slice a2 n2 k2) (.slice a3 n3 k3) (.slice a4 n4 k4) (.slice a5 n5 k5) H ps zs) := h
  have HL : Hid (ps.length ≤ 1048576) := hl
  have HW : Hid (Rn w wa wn wc ws) := hw
  have HWN : Hid (wn = ws.length) := hw.len
  have hwn : (wn : Int) ≤ 9223372036854775807 := by have := hw.cap; unfold maxLen at this; omega
  clear h hl hw hn0 hn1 hn2 hn3 hn4 hn5 g4 g5
  generalize hW : (w.alloc (.cells #[.slice a0 n0 k0, .int .i64 H.pc, .slice a1 n1 k1, .bool H.halted, .bool H.waiting, .bool H.rung, .int .i64 H.done, .slice a2 n2 k2, .slice a3 n3 k3, .slice a4 n4 k4, .slice a5 n5 k5] 35)).alloc (.cells #[.int .i64 0, .slice none 0 0, .int .i64 0, .slice none 0 0, .bool false, .bool false, .bool false, .int .i64 0, .slice none 0 0, .slice none 0 0, .slice none 0 0, .slice none 0 0] 43) = W
  have B0 : Hid (Below w.heap.size w W) := by show Below _ _ _; rw [← hW]; exact al (al (Below.refl _ _) _) _
  obtain ⟨s, hS⟩ : ∃ s, w.heap.size = s := ⟨_, rfl⟩
  have HSs : Hid (w.heap.size = s) := hS
  have z1 : s + 1 = (w.alloc (.cells #[.slice a0 n0 k0, .int .i64 H.pc, .slice a1 n1 k1, .bool H.halted, .bool H.waiting, .bool H.rung, .int .i64 H.done, .slice a2 n2 k2, .slice a3 n3 k3, .slice a4 n4 k4, .slice a5 n5 k5] 35)).heap.size := by rw [← hS]; simp
  have Q : Hid (Vb W s #[.slice a0 n0 k0, .int .i64 H.pc, .slice a1 n1 k1, .bool H.halted, .bool H.waiting, .bool H.rung, .int .i64 H.done, .slice a2 n2 k2, .slice a3 n3 k3, .slice a4 n4 k4, .slice a5 n5 k5] 35) := by show Vb _ _ _ _; rw [← hW, ← hS]; exact (Vb.new _ _ _).push _
  have R : Hid (Vb W (s + 1) #[.int .i64 0, .slice none 0 0, .int .i64 0, .slice none 0 0, .bool false, .bool false, .bool false, .int .i64 0, .slice none 0 0, .slice none 0 0, .slice none 0 0, .slice none 0 0] 43) := by show Vb _ _ _ _; rw [← hW, z1]; exact Vb.new _ _ _
  clear z1
  have q0 := Q.out.cell 0 rfl
  have q1 := Q.out.cell 1 rfl
  have q2 := Q.out.cell 2 rfl
  have q3 := Q.out.cell 3 rfl
  have q4 := Q.out.cell 4 rfl
  have q5 := Q.out.cell 5 rfl
  have q6 := Q.out.cell 6 rfl
  have q7 := Q.out.cell 7 rfl
  have q8 := Q.out.cell 8 rfl
  have q9 := Q.out.cell 9 rfl
  have q10 := Q.out.cell 10 rfl
  go_enter Try.func16, Try.ntmps16
  go_wp2_with fail
  clear hW hS q0 q1 q2 q3 q4 q5 q6 q7 q8 q9 q10
  refine (i_soloPageFault _ _ _ _ _ _ H ps zs pg _ _ (HS.out.keep B0.out) HL.out).mono ?_
  rw [HX.out]
  rintro e w1 ⟨rfl, b1⟩
  have B1 : Hid (Below w.heap.size w w1) := on B0.out b1
  have R1 : Hid (Vb w1 (s + 1) #[.int .i64 0, .slice none 0 0, .int .i64 0, .slice none 0 0, .bool false, .bool false, .bool false, .int .i64 0, .slice none 0 0, .slice none 0 0, .slice none 0 0, .slice none 0 0] 43) := R.out.keep b1
  have Q1 : Hid (Vb w1 s #[.slice a0 n0 k0, .int .i64 H.pc, .slice a1 n1 k1, .bool H.halted, .bool H.waiting, .bool H.rung, .int .i64 H.done, .slice a2 n2 k2, .slice a3 n3 k3, .slice a4 n4 k4, .slice a5 n5 k5] 35) := Q.out.keep b1
  have W1 : Hid (Rn w1 wa wn wc ws) := HW.out.stay B1.out
  clear b1
  go_upto_region 5 with (fail)
  have p0 := R1.out.cell 0 rfl
  have f0 := R1.out.free 0
  have p1 := R1.out.cell 1 rfl
  have f1 := R1.out.free 1
  have p2 := R1.out.cell 2 rfl
  have f2 := R1.out.free 2
  have p3 := R1.out.cell 3 rfl
  have f3 := R1.out.free 3
  have p4 := R1.out.cell 4 rfl
  have f4 := R1.out.free 4
  have p5 := R1.out.cell 5 rfl
  have f5 := R1.out.free 5
  have p6 := R1.out.cell 6 rfl
  have f6 := R1.out.free 6
  have p7 := R1.out.cell 7 rfl
  have f7 := R1.out.free 7
  have p8 := R1.out.cell 8 rfl
  have f8 := R1.out.free 8
  have p9 := R1.out.cell 9 rfl
  have f9 := R1.out.free 9
  have p10 := R1.out.cell 10 rfl
  have f10 := R1.out.free 10
  have p11 := R1.out.cell 11 rfl
  have f11 := R1.out.free 11
  have lt := R1.out.lt
  go_wp2_with fail
  clear lt p0 f0 p1 f1 p2 f2 p3 f3 p4 f4 p5 f5 p6 f6 p7 f7 p8 f8 p9 f9 p10 f10 p11 f11
  have NN : Hid (_ ∧ _) := twelveF R1.out (.int .i64 1) (.slice none 0 0) (.int .i64 0) (.slice none 0 0) (.bool false) (.bool false) (.bool false) (.int .i64 0) (.slice none 0 0) (.slice none 0 0) (.slice none 0 0) (.slice none 0 0)
  generalize ((((((((((((w1.setCell ⟨s + 1, 0, none⟩ (.int .i64 1)).setCell ⟨s + 1, 1, none⟩ (.slice none 0 0)).setCell ⟨s + 1, 2, none⟩ (.int .i64 0)).setCell ⟨s + 1, 3, none⟩ (.slice none 0 0)).setCell ⟨s + 1, 4, none⟩ (.bool false)).setCell ⟨s + 1, 5, none⟩ (.bool false)).setCell ⟨s + 1, 6, none⟩ (.bool false)).setCell ⟨s + 1, 7, none⟩ (.int .i64 0)).setCell ⟨s + 1, 8, none⟩ (.slice none 0 0)).setCell ⟨s + 1, 9, none⟩ (.slice none 0 0)).setCell ⟨s + 1, 10, none⟩ (.slice none 0 0)).setCell ⟨s + 1, 11, none⟩ (.slice none 0 0)) = V at *
  have x0 := NN.out.1.cell 0 rfl
  have x1 := NN.out.1.cell 1 rfl
  have x2 := NN.out.1.cell 2 rfl
  have x3 := NN.out.1.cell 3 rfl
  have x4 := NN.out.1.cell 4 rfl
  have x5 := NN.out.1.cell 5 rfl
  have x6 := NN.out.1.cell 6 rfl
  have x7 := NN.out.1.cell 7 rfl
  have x8 := NN.out.1.cell 8 rfl
  have x9 := NN.out.1.cell 9 rfl
  have x10 := NN.out.1.cell 10 rfl
  have x11 := NN.out.1.cell 11 rfl
  exact bodyPost_ret (v := .agg #[.int .i64 1, .slice none 0 0, .int .i64 0, .slice none 0 0, .bool false, .bool false, .bool false, .int .i64 0, .slice none 0 0, .slice none 0 0, .slice none 0 0, .slice none 0 0]) (by simp [results, Try.results16, go_sem, x0, x1, x2, x3, x4, x5, x6, x7, x8, x9, x10, x11]) rfl ⟨.slice none 0 0, .slice none 0 0, .slice none 0 0, .slice none 0 0, .slice none 0 0, .slice none 0 0, rfl, sm_voidF _ _, Mq.under B1.out NN.out.2 fun k e => by have := HSs.out; omega⟩
set_option maxRecDepth 20000 in
set_option maxHeartbeats 8000000 in
theorem ifs_all (r c i o l m : Value) (H : Ht) (ps : List (Int × Int)) (zs : List Int) (pg : Int) (wa : Option Addr) (wn wc : Nat) (ws : List Int) (b : Nat) (w : World) (h : Sm w b r c i o l m H ps zs) (hl : ps.length ≤ 1048576) (hw : Rn w wa wn wc ws) (hx : swC H ps zs pg = 0) (h8 : ws.length = 8) (ha : ws.all isW = false) :
    Calls Try.prog 16 #[.agg #[r, .int .i64 H.pc, c, .bool H.halted, .bool H.waiting, .bool H.rung, .int .i64 H.done, i, o, l, m], .int .i64 pg, .slice wa wn wc] w fun e w' => ∃ r' c' i' o' l' m', e = .returned (.agg #[.int .i64 (fsC H ps zs pg ws), r', .int .i64 (fsH H ps zs pg ws).pc, c', .bool (fsH H ps zs pg ws).halted, .bool (fsH H ps zs pg ws).waiting, .bool (fsH H ps zs pg ws).rung, .int .i64 (fsH H ps zs pg ws).done, i', o', l', m']) ∧ Sm w' w.heap.size r' c' i' o' l' m' (fsH H ps zs pg ws) (fsP H ps zs pg ws) (fsZ H ps zs pg ws) ∧ Below w.heap.size w w' := by
  have hc : fsC H ps zs pg ws = 1 := by rw [fsC, if_pos hx, if_neg (by rw [ha]; simp)]
  have hu := fs_not H ps zs pg ws (by rw [hc]; decide)
  rw [hu.1, hu.2.1, hu.2.2, hc]
  have HX : Hid (swC H ps zs pg = 0) := hx
  clear hu hc hx
  have hne : (wn : Int) = 8 := by have := hw.len; omega
  have hnb : ((wn : Int) != 8) = false := by simp [hne]
  clear hne
  have HA : Hid (ws.all isW = false) := ha
  clear ha h8
  obtain ⟨a0, k0, e0, _⟩ := h.h.r.shape
  obtain ⟨a1, k1, e1, _⟩ := h.h.c.shape
  obtain ⟨a2, k2, e2, _⟩ := h.h.i.shape
  obtain ⟨a3, k3, e3, _⟩ := h.h.o.shape
  obtain ⟨a4, k4, e4, _, _, g4⟩ := h.pl.shape
  obtain ⟨a5, k5, e5, _, _, g5⟩ := h.mm.shape
  subst e0 e1 e2 e3 e4 e5
  obtain ⟨n0, hn0⟩ : ∃ n, H.regs.length = n := ⟨_, rfl⟩
  obtain ⟨n1, hn1⟩ : ∃ n, H.csr.length = n := ⟨_, rfl⟩
  obtain ⟨n2, hn2⟩ : ∃ n, H.inn.length = n := ⟨_, rfl⟩
  obtain ⟨n3, hn3⟩ : ∃ n, H.out.length = n := ⟨_, rfl⟩
  obtain ⟨n4, hn4⟩ : ∃ n, ps.length = n := ⟨_, rfl⟩
  obtain ⟨n5, hn5⟩ : ∃ n, zs.length = n := ⟨_, rfl⟩
  rw [hn0, hn1, hn2, hn3, hn4, hn5] at h ⊢
  have HS : Hid (Sm w b (.slice a0 n0 k0) (.slice a1 n1 k1) (.slice a2 n2 k2) (.slice a3 n3 k3) (.slice a4 n4 k4) (.slice a5 n5 k5) H ps zs) := h
  have HL : Hid (ps.length ≤ 1048576) := hl
  have HW : Hid (Rn w wa wn wc ws) := hw
  have HWN : Hid (wn = ws.length) := hw.len
  have hwn : (wn : Int) ≤ 9223372036854775807 := by have := hw.cap; unfold maxLen at this; omega
  clear h hl hw hn0 hn1 hn2 hn3 hn4 hn5 g4 g5
  generalize hW : (w.alloc (.cells #[.slice a0 n0 k0, .int .i64 H.pc, .slice a1 n1 k1, .bool H.halted, .bool H.waiting, .bool H.rung, .int .i64 H.done, .slice a2 n2 k2, .slice a3 n3 k3, .slice a4 n4 k4, .slice a5 n5 k5] 35)).alloc (.cells #[.int .i64 0, .slice none 0 0, .int .i64 0, .slice none 0 0, .bool false, .bool false, .bool false, .int .i64 0, .slice none 0 0, .slice none 0 0, .slice none 0 0, .slice none 0 0] 43) = W
  have B0 : Hid (Below w.heap.size w W) := by show Below _ _ _; rw [← hW]; exact al (al (Below.refl _ _) _) _
  obtain ⟨s, hS⟩ : ∃ s, w.heap.size = s := ⟨_, rfl⟩
  have HSs : Hid (w.heap.size = s) := hS
  have z1 : s + 1 = (w.alloc (.cells #[.slice a0 n0 k0, .int .i64 H.pc, .slice a1 n1 k1, .bool H.halted, .bool H.waiting, .bool H.rung, .int .i64 H.done, .slice a2 n2 k2, .slice a3 n3 k3, .slice a4 n4 k4, .slice a5 n5 k5] 35)).heap.size := by rw [← hS]; simp
  have Q : Hid (Vb W s #[.slice a0 n0 k0, .int .i64 H.pc, .slice a1 n1 k1, .bool H.halted, .bool H.waiting, .bool H.rung, .int .i64 H.done, .slice a2 n2 k2, .slice a3 n3 k3, .slice a4 n4 k4, .slice a5 n5 k5] 35) := by show Vb _ _ _ _; rw [← hW, ← hS]; exact (Vb.new _ _ _).push _
  have R : Hid (Vb W (s + 1) #[.int .i64 0, .slice none 0 0, .int .i64 0, .slice none 0 0, .bool false, .bool false, .bool false, .int .i64 0, .slice none 0 0, .slice none 0 0, .slice none 0 0, .slice none 0 0] 43) := by show Vb _ _ _ _; rw [← hW, z1]; exact Vb.new _ _ _
  clear z1
  have q0 := Q.out.cell 0 rfl
  have q1 := Q.out.cell 1 rfl
  have q2 := Q.out.cell 2 rfl
  have q3 := Q.out.cell 3 rfl
  have q4 := Q.out.cell 4 rfl
  have q5 := Q.out.cell 5 rfl
  have q6 := Q.out.cell 6 rfl
  have q7 := Q.out.cell 7 rfl
  have q8 := Q.out.cell 8 rfl
  have q9 := Q.out.cell 9 rfl
  have q10 := Q.out.cell 10 rfl
  go_enter Try.func16, Try.ntmps16
  go_wp2_with fail
  clear hW hS q0 q1 q2 q3 q4 q5 q6 q7 q8 q9 q10
  refine (i_soloPageFault _ _ _ _ _ _ H ps zs pg _ _ (HS.out.keep B0.out) HL.out).mono ?_
  rw [HX.out]
  rintro e w1 ⟨rfl, b1⟩
  have B1 : Hid (Below w.heap.size w w1) := on B0.out b1
  have R1 : Hid (Vb w1 (s + 1) #[.int .i64 0, .slice none 0 0, .int .i64 0, .slice none 0 0, .bool false, .bool false, .bool false, .int .i64 0, .slice none 0 0, .slice none 0 0, .slice none 0 0, .slice none 0 0] 43) := R.out.keep b1
  have Q1 : Hid (Vb w1 s #[.slice a0 n0 k0, .int .i64 H.pc, .slice a1 n1 k1, .bool H.halted, .bool H.waiting, .bool H.rung, .int .i64 H.done, .slice a2 n2 k2, .slice a3 n3 k3, .slice a4 n4 k4, .slice a5 n5 k5] 35) := Q.out.keep b1
  have W1 : Hid (Rn w1 wa wn wc ws) := HW.out.stay B1.out
  clear b1
  go_upto_region 5 with (go_at_call 39; refine (i_words _ _ _ ws _ W1.out).mono ?_; rintro e y ⟨rfl, hy⟩; rw [hy]; clear hy y; rw [HA.out])
  have p0 := R1.out.cell 0 rfl
  have f0 := R1.out.free 0
  have p1 := R1.out.cell 1 rfl
  have f1 := R1.out.free 1
  have p2 := R1.out.cell 2 rfl
  have f2 := R1.out.free 2
  have p3 := R1.out.cell 3 rfl
  have f3 := R1.out.free 3
  have p4 := R1.out.cell 4 rfl
  have f4 := R1.out.free 4
  have p5 := R1.out.cell 5 rfl
  have f5 := R1.out.free 5
  have p6 := R1.out.cell 6 rfl
  have f6 := R1.out.free 6
  have p7 := R1.out.cell 7 rfl
  have f7 := R1.out.free 7
  have p8 := R1.out.cell 8 rfl
  have f8 := R1.out.free 8
  have p9 := R1.out.cell 9 rfl
  have f9 := R1.out.free 9
  have p10 := R1.out.cell 10 rfl
  have f10 := R1.out.free 10
  have p11 := R1.out.cell 11 rfl
  have f11 := R1.out.free 11
  have lt := R1.out.lt
  go_wp2_with fail
  clear lt p0 f0 p1 f1 p2 f2 p3 f3 p4 f4 p5 f5 p6 f6 p7 f7 p8 f8 p9 f9 p10 f10 p11 f11
  have NN : Hid (_ ∧ _) := twelveF R1.out (.int .i64 1) (.slice none 0 0) (.int .i64 0) (.slice none 0 0) (.bool false) (.bool false) (.bool false) (.int .i64 0) (.slice none 0 0) (.slice none 0 0) (.slice none 0 0) (.slice none 0 0)
  generalize ((((((((((((w1.setCell ⟨s + 1, 0, none⟩ (.int .i64 1)).setCell ⟨s + 1, 1, none⟩ (.slice none 0 0)).setCell ⟨s + 1, 2, none⟩ (.int .i64 0)).setCell ⟨s + 1, 3, none⟩ (.slice none 0 0)).setCell ⟨s + 1, 4, none⟩ (.bool false)).setCell ⟨s + 1, 5, none⟩ (.bool false)).setCell ⟨s + 1, 6, none⟩ (.bool false)).setCell ⟨s + 1, 7, none⟩ (.int .i64 0)).setCell ⟨s + 1, 8, none⟩ (.slice none 0 0)).setCell ⟨s + 1, 9, none⟩ (.slice none 0 0)).setCell ⟨s + 1, 10, none⟩ (.slice none 0 0)).setCell ⟨s + 1, 11, none⟩ (.slice none 0 0)) = V at *
  have x0 := NN.out.1.cell 0 rfl
  have x1 := NN.out.1.cell 1 rfl
  have x2 := NN.out.1.cell 2 rfl
  have x3 := NN.out.1.cell 3 rfl
  have x4 := NN.out.1.cell 4 rfl
  have x5 := NN.out.1.cell 5 rfl
  have x6 := NN.out.1.cell 6 rfl
  have x7 := NN.out.1.cell 7 rfl
  have x8 := NN.out.1.cell 8 rfl
  have x9 := NN.out.1.cell 9 rfl
  have x10 := NN.out.1.cell 10 rfl
  have x11 := NN.out.1.cell 11 rfl
  exact bodyPost_ret (v := .agg #[.int .i64 1, .slice none 0 0, .int .i64 0, .slice none 0 0, .bool false, .bool false, .bool false, .int .i64 0, .slice none 0 0, .slice none 0 0, .slice none 0 0, .slice none 0 0]) (by simp [results, Try.results16, go_sem, x0, x1, x2, x3, x4, x5, x6, x7, x8, x9, x10, x11]) rfl ⟨.slice none 0 0, .slice none 0 0, .slice none 0 0, .slice none 0 0, .slice none 0 0, .slice none 0 0, rfl, sm_voidF _ _, Mq.under B1.out NN.out.2 fun k e => by have := HSs.out; omega⟩
end Go.Proofs.Ytijajemalokgjaa
namespace Go.Proofs.Ytijajemalokgjaa
open Go.RowKit
set_option linter.unusedVariables false

set_option maxRecDepth 20000 in
set_option maxHeartbeats 8000000 in
theorem ifs_good (r c i o l m : Value) (H : Ht) (ps : List (Int × Int)) (zs : List Int) (p : Nat) (wa : Option Addr) (wn wc : Nat) (ws : List Int) (b : Nat) (w : World) (h : Sm w b r c i o l m H ps zs) (hl : ps.length ≤ 1048576) (hw : Rn w wa wn wc ws) (hx : swC H ps zs (p : Int) = 0) (h8 : ws.length = 8) (ha : ws.all isW = true) :
    Calls Try.prog 16 #[.agg #[r, .int .i64 H.pc, c, .bool H.halted, .bool H.waiting, .bool H.rung, .int .i64 H.done, i, o, l, m], .int .i64 (p : Int), .slice wa wn wc] w fun e w' => ∃ r' c' i' o' l' m', e = .returned (.agg #[.int .i64 0, r', .int .i64 H.pc, c', .bool H.halted, .bool H.waiting, .bool H.rung, .int .i64 H.done, i', o', l', m']) ∧ Sm w' w.heap.size r' c' i' o' l' m' H ps (fzL zs p ws 8) ∧ Below w.heap.size w w' := by
  have HX : Hid (swC H ps zs (p : Int) = 0) := hx
  have SP : Hid (sfV H ps zs = 0 ∧ 0 ≤ (p : Int) ∧ (p : Int) ≤ 7) := sw_sp hx
  have OK : Hid (Hok H ∧ zs.length = 64 ∧ ps.length = 8) := fs_sol H ps zs SP.out.1
  have PP : Hid (p ≤ 7) := by have := SP.out.2; show _ ≤ _; omega
  have hp8 : (p : Int) < 8 := by have := PP.out; omega
  have hnb : ((wn : Int) != 8) = false := by have := hw.len; have e : (wn : Int) = 8 := (by omega); simp [e]
  have HA : Hid (ws.all isW = true) := ha
  have W8 : Hid (ws.length = 8 ∧ wn = 8) := ⟨h8, by have := hw.len; omega⟩
  obtain ⟨x, hx'⟩ : ∃ x, wa = some x := by
    rcases hw with ⟨_, e, _, _⟩ | ⟨x, e, _⟩
    · have := W8.out.2; omega
    · exact ⟨x, e⟩
  subst hx'
  clear hx h8 ha
  obtain ⟨a0, k0, e0, _⟩ := h.h.r.shape
  obtain ⟨a1, k1, e1, _⟩ := h.h.c.shape
  obtain ⟨a2, k2, e2, _⟩ := h.h.i.shape
  obtain ⟨a3, k3, e3, _⟩ := h.h.o.shape
  obtain ⟨a4, k4, e4, _, _, g4⟩ := h.pl.shape
  obtain ⟨a5, k5, e5, _, _, g5⟩ := h.mm.shape
  subst e0 e1 e2 e3 e4 e5
  obtain ⟨n0, hn0⟩ : ∃ n, H.regs.length = n := ⟨_, rfl⟩
  obtain ⟨n1, hn1⟩ : ∃ n, H.csr.length = n := ⟨_, rfl⟩
  obtain ⟨n2, hn2⟩ : ∃ n, H.inn.length = n := ⟨_, rfl⟩
  obtain ⟨n3, hn3⟩ : ∃ n, H.out.length = n := ⟨_, rfl⟩
  obtain ⟨n4, hn4⟩ : ∃ n, ps.length = n := ⟨_, rfl⟩
  obtain ⟨n5, hn5⟩ : ∃ n, zs.length = n := ⟨_, rfl⟩
  rw [hn0, hn1, hn2, hn3, hn4, hn5] at h ⊢
  have HS : Hid (Sm w b (.slice a0 n0 k0) (.slice a1 n1 k1) (.slice a2 n2 k2) (.slice a3 n3 k3) (.slice a4 n4 k4) (.slice a5 n5 k5) H ps zs) := h
  have HL : Hid (ps.length ≤ 1048576) := hl
  have HW : Hid (Rn w (some x) wn wc ws) := hw
  have HWN : Hid (wn = ws.length) := hw.len
  have hwn : (wn : Int) ≤ 9223372036854775807 := by have := hw.cap; unfold maxLen at this; omega
  clear h hl hw hn0 hn1 hn2 hn3 hn4 hn5 g4 g5
  generalize hW : (w.alloc (.cells #[.slice a0 n0 k0, .int .i64 H.pc, .slice a1 n1 k1, .bool H.halted, .bool H.waiting, .bool H.rung, .int .i64 H.done, .slice a2 n2 k2, .slice a3 n3 k3, .slice a4 n4 k4, .slice a5 n5 k5] 35)).alloc (.cells #[.int .i64 0, .slice none 0 0, .int .i64 0, .slice none 0 0, .bool false, .bool false, .bool false, .int .i64 0, .slice none 0 0, .slice none 0 0, .slice none 0 0, .slice none 0 0] 43) = W
  have B0 : Hid (Below w.heap.size w W) := by show Below _ _ _; rw [← hW]; exact al (al (Below.refl _ _) _) _
  obtain ⟨s, hS⟩ : ∃ s, w.heap.size = s := ⟨_, rfl⟩
  have HSs : Hid (w.heap.size = s) := hS
  have z1 : s + 1 = (w.alloc (.cells #[.slice a0 n0 k0, .int .i64 H.pc, .slice a1 n1 k1, .bool H.halted, .bool H.waiting, .bool H.rung, .int .i64 H.done, .slice a2 n2 k2, .slice a3 n3 k3, .slice a4 n4 k4, .slice a5 n5 k5] 35)).heap.size := by rw [← hS]; simp
  have Q : Hid (Vb W s #[.slice a0 n0 k0, .int .i64 H.pc, .slice a1 n1 k1, .bool H.halted, .bool H.waiting, .bool H.rung, .int .i64 H.done, .slice a2 n2 k2, .slice a3 n3 k3, .slice a4 n4 k4, .slice a5 n5 k5] 35) := by show Vb _ _ _ _; rw [← hW, ← hS]; exact (Vb.new _ _ _).push _
  have R : Hid (Vb W (s + 1) #[.int .i64 0, .slice none 0 0, .int .i64 0, .slice none 0 0, .bool false, .bool false, .bool false, .int .i64 0, .slice none 0 0, .slice none 0 0, .slice none 0 0, .slice none 0 0] 43) := by show Vb _ _ _ _; rw [← hW, z1]; exact Vb.new _ _ _
  clear z1
  have q0 := Q.out.cell 0 rfl
  have q1 := Q.out.cell 1 rfl
  have q2 := Q.out.cell 2 rfl
  have q3 := Q.out.cell 3 rfl
  have q4 := Q.out.cell 4 rfl
  have q5 := Q.out.cell 5 rfl
  have q6 := Q.out.cell 6 rfl
  have q7 := Q.out.cell 7 rfl
  have q8 := Q.out.cell 8 rfl
  have q9 := Q.out.cell 9 rfl
  have q10 := Q.out.cell 10 rfl
  go_enter Try.func16, Try.ntmps16
  go_wp2_with fail
  clear hW hS q0 q1 q2 q3 q4 q5 q6 q7 q8 q9 q10
  refine (i_soloPageFault _ _ _ _ _ _ H ps zs (p : Int) _ _ (HS.out.keep B0.out) HL.out).mono ?_
  rw [HX.out]
  rintro e w1 ⟨rfl, b1⟩
  have B1 : Hid (Below w.heap.size w w1) := on B0.out b1
  have R1 : Hid (Vb w1 (s + 1) #[.int .i64 0, .slice none 0 0, .int .i64 0, .slice none 0 0, .bool false, .bool false, .bool false, .int .i64 0, .slice none 0 0, .slice none 0 0, .slice none 0 0, .slice none 0 0] 43) := R.out.keep b1
  have Q1 : Hid (Vb w1 s #[.slice a0 n0 k0, .int .i64 H.pc, .slice a1 n1 k1, .bool H.halted, .bool H.waiting, .bool H.rung, .int .i64 H.done, .slice a2 n2 k2, .slice a3 n3 k3, .slice a4 n4 k4, .slice a5 n5 k5] 35) := Q.out.keep b1
  have W1 : Hid (Rn w1 (some x) wn wc ws) := HW.out.stay B1.out
  clear b1
  go_upto_region 6 with (go_at_call 39; refine (i_words (some x) wn wc ws w1 W1.out).mono ?_; rintro e y ⟨rfl, hy⟩; rw [hy]; clear hy y; rw [HA.out])
  have q0 := Q1.out.cell 0 rfl
  have q1 := Q1.out.cell 1 rfl
  have q2 := Q1.out.cell 2 rfl
  have q3 := Q1.out.cell 3 rfl
  have q4 := Q1.out.cell 4 rfl
  have q5 := Q1.out.cell 5 rfl
  have q6 := Q1.out.cell 6 rfl
  have q7 := Q1.out.cell 7 rfl
  have q8 := Q1.out.cell 8 rfl
  have q9 := Q1.out.cell 9 rfl
  have q10 := Q1.out.cell 10 rfl
  go_wp2_with fail
  clear q0 q1 q2 q3 q4 q5 q6 q7 q8 q9 q10
  refine (i_lonelyOf _ _ _ _ _ _ H ps zs b _ (HS.out.keep B1.out) SP.out.1).mono ?_
  rintro e w2 ⟨xa, xn, xk, ya, yn, yk, rfl, ni, no, ap, b2⟩
  obtain ⟨P, hP⟩ : ∃ P : List Value, (ownL H (.slice xa xn xk) (.slice ya yn yk) ps zs) = P := ⟨_, rfl⟩
  have HP : Hid (ownL H (.slice xa xn xk) (.slice ya yn yk) ps zs = P) := hP
  have HPL : Hid (P.length = 114) := by show _ = _; rw [← hP]; exact ownL_len _ _ _ _ _
  rw [hP]
  clear hP
  have B2 : Hid (Below w.heap.size w w2) := on B1.out b2
  have N2 : Hid (Nums w2 w1.heap.size (.slice xa xn xk) H.inn ∧ Nums w2 w1.heap.size (.slice ya yn yk) H.out) := ⟨ni, no⟩
  have R2 : Hid (Vb w2 (s + 1) #[.int .i64 0, .slice none 0 0, .int .i64 0, .slice none 0 0, .bool false, .bool false, .bool false, .int .i64 0, .slice none 0 0, .slice none 0 0, .slice none 0 0, .slice none 0 0] 43) := R1.out.keep b2
  have W2 : Hid (Rn w2 (some x) wn wc ws) := W1.out.stay b2
  have WLE : Hid (w1.heap.size ≤ w2.heap.size) := b2.size
  clear ni no ap b2
  have hst : (storeCells ⟨w2.heap.size, 0, none⟩ P 0).run Try.prog (w2.alloc (.cells Try.zeroCells81 81)) = .ok () (w2.alloc (.cells P.toArray 81)) := run_storeCells_new (P := Try.prog) w2 81 Try.zeroCells81 P.toArray (by rw [List.size_toArray, HPL.out]; kernel_rfl) ((by kernel_rfl : Try.zeroCells81.size = 114).trans HPL.out.symm) (by rw [← HP.out]; exact ownL_one _ _ _ _ _ rfl rfl)
  have hsz : P.length = 114 := HPL.out
  go_upto_region 7 with fail
  clear hst hsz
  generalize hU : w2.alloc (.cells P.toArray 81) = U
  have BU : Hid (Below w2.heap.size w2 U) := by show Below _ _ _; rw [← hU]; exact al (Below.refl _ _) _
  have VU : Hid (Vb U w2.heap.size P.toArray 81) := by show Vb _ _ _ _; rw [← hU]; exact Vb.new _ _ _
  have RU : Hid (U.rangeAt w2.heap.size 0 (ownL H (.slice xa xn xk) (.slice ya yn yk) ps zs) ∧ U.there w2.heap.size 0 114) := by
    rw [HP.out]
    exact ⟨vb_range VU.out, VU.out.there 114 (Nat.le_of_eq (by rw [List.size_toArray, HPL.out]))⟩
  obtain ⟨q, hq⟩ : ∃ q, w2.heap.size = q := ⟨_, rfl⟩
  have HQ : Hid (w2.heap.size = q) := hq
  rw [hq] at RU ⊢
  have NU : Hid (Nums U w1.heap.size (.slice xa xn xk) H.inn ∧ Nums U w1.heap.size (.slice ya yn yk) H.out) := ⟨N2.out.1.keep BU.out, N2.out.2.keep BU.out⟩
  have R3 : Hid (Vb U (s + 1) #[.int .i64 0, .slice none 0 0, .int .i64 0, .slice none 0 0, .bool false, .bool false, .bool false, .int .i64 0, .slice none 0 0, .slice none 0 0, .slice none 0 0, .slice none 0 0] 43) := R2.out.keep BU.out
  have W3 : Hid (Rn U (some x) wn wc ws) := W2.out.stay BU.out
  have B3 : Hid (Below w.heap.size w U) := on B2.out BU.out
  have ZZ : Hid (s + 1 < w1.heap.size ∧ w1.heap.size ≤ w2.heap.size) := ⟨R1.out.lt, WLE.out⟩
  clear hU hq
  obtain rfl : wn = 8 := W8.out.2
  have CL : Hid (∀ j v, (ws.map (Value.int .i64))[j]? = some v → U.cell? (x.add j) = some v) := by
    intro j v hv
    have hj : j < 8 := by have := (List.getElem?_eq_some_iff.1 hv).1; rw [List.length_map, W8.out.1] at this; exact this
    obtain ⟨x', hx', hc⟩ := W3.out.at j hj
    obtain rfl := Option.some.inj hx'
    rw [hc, ← hv, List.getElem?_map, List.getD, List.getElem?_eq_getElem (by rw [W8.out.1]; exact hj)]
    rfl
  have AR : Hid (∀ w', (Instr.arrayAt 76 (.slice (some x) 8 wc)).run Try.prog w' = .ok (.pointer (some x)) w') := fun w' => by simp [Instr.arrayAt, Sem.run_bind, run_underlying Try.underlying76]
  refine wp_region_lit ?_
  refine wpList_take (.int .i64 (p : Int)) (Or.inl ⟨by rfl, fun w' hs => by subst hs; go_simp⟩) ?_
  change wpList _ _ _ _ (Act.put _ (some 27) _) _
  simp only [Act.put, List.setIfInBounds_toArray, List.set_cons_zero, List.set_cons_succ]
  refine wpList_take (.slice (some x) 8 wc) (Or.inl ⟨by rfl, fun w' hs => by subst hs; go_simp⟩) ?_
  change wpList _ _ _ _ (Act.put _ (some 28) _) _
  simp only [Act.put, List.setIfInBounds_toArray, List.set_cons_zero, List.set_cons_succ]
  refine wpList_take (.pointer (some x)) (Or.inl ⟨by rfl, fun w' hs => by subst hs; have ha := AR.out w'; go_simp⟩) ?_
  change wpList _ _ _ _ (Act.put _ (some 29) _) _
  simp only [Act.put, List.setIfInBounds_toArray, List.set_cons_zero, List.set_cons_succ]
  refine wpList_take (.agg (ws.map (Value.int .i64)).toArray) (yieldsIf_load_any rfl 76 (.tmp 29) rfl x rfl (ws.map (Value.int .i64)) _ (fun w' e => by subst e; exact CL.out) Try.underlying76 rfl (by rw [List.length_map, W8.out.1]; kernel_rfl)) ?_
  change wpList _ _ _ _ (Act.put _ (some 30) _) _
  simp only [Act.put, List.setIfInBounds_toArray, List.set_cons_zero, List.set_cons_succ]
  refine wpList_take (.pointer (some ⟨q, 34, none⟩)) (Or.inl ⟨by rfl, fun w' hs => by subst hs; go_simp⟩) ?_
  change wpList _ _ _ _ (Act.put _ (some 31) _) _
  simp only [Act.put, List.setIfInBounds_toArray, List.set_cons_zero, List.set_cons_succ]
  refine wpList_take (.pointer (some ⟨q, 34 + p * 10, none⟩)) (Or.inl ⟨by rfl, fun w' hs => by subst hs; go_simp⟩) ?_
  change wpList _ _ _ _ (Act.put _ (some 32) _) _
  simp only [Act.put, List.setIfInBounds_toArray, List.set_cons_zero, List.set_cons_succ]
  refine wpList_take (.pointer (some ⟨q, 34 + p * 10 + 2, none⟩)) (Or.inl ⟨by rfl, fun w' hs => by subst hs; go_simp⟩) ?_
  change wpList _ _ _ _ (Act.put _ (some 33) _) _
  simp only [Act.put, List.setIfInBounds_toArray, List.set_cons_zero, List.set_cons_succ]
  refine wpList_store_mid rfl 76 (.tmp 33) (.tmp 30) rfl q (34 + p * 10 + 2) (ws.map (Value.int .i64)).toArray rfl rfl (there_part RU.out.2 _ _ (by rw [List.size_toArray, List.length_map, W8.out.1]; have := PP.out; omega)) (by rw [List.size_toArray, List.length_map, W8.out.1]; kernel_rfl) (by simp [Value.oneCell']) ?_
  change wpList _ _ _ _ (Act.put _ none undef) _
  simp only [Act.put]
  have M4 : Hid (Mq (fun k => k = q) U (U.setCells q (34 + p * 10 + 2) (ws.map (Value.int .i64)).toArray.toList)) := mq_cells _ _ _ _
  have R4 : Hid ((U.setCells q (34 + p * 10 + 2) (ws.map (Value.int .i64)).toArray.toList).rangeAt q 0 (ownL H (.slice xa xn xk) (.slice ya yn yk) ps (fzL zs p ws 8))) := own_feed p ws RU.out.1 RU.out.2 OK.out.2.1 PP.out W8.out.1
  generalize U.setCells q (34 + p * 10 + 2) (ws.map (Value.int .i64)).toArray.toList = V at *
  have NQ : Hid (s + 1 ≠ q ∧ w1.heap.size ≤ q) := by have := ZZ.out; have := HQ.out; exact ⟨by omega, by omega⟩
  have NE : ∀ v : Value, ∀ zz, Nums U w1.heap.size v zz → (∀ k, v.ownBlock = some k → k < q) → ∀ k, v.ownBlock = some k → ¬ k = q := fun v zz hn hk k e f => by have := hk k e; omega
  have NV : Hid (Nums V w1.heap.size (.slice xa xn xk) H.inn ∧ Nums V w1.heap.size (.slice ya yn yk) H.out) := ⟨M4.out.nums NU.out.1 (NE _ _ NU.out.1 (fun k e => by have := (N2.out.1.lt k e).2; have := HQ.out; omega)), M4.out.nums NU.out.2 (NE _ _ NU.out.2 (fun k e => by have := (N2.out.2.lt k e).2; have := HQ.out; omega))⟩
  have R5 : Hid (Vb V (s + 1) #[.int .i64 0, .slice none 0 0, .int .i64 0, .slice none 0 0, .bool false, .bool false, .bool false, .int .i64 0, .slice none 0 0, .slice none 0 0, .slice none 0 0, .slice none 0 0] 43) := M4.out.vb R3.out NQ.out.1
  have B4 : Hid (Below w.heap.size w V) := Mq.under B3.out M4.out fun k e => by have := B1.out.size; have := NQ.out.2; omega
  clear NE
  refine wpList_nil ?_
  obtain ⟨P', hP'⟩ : ∃ P : List Value, (ownL H (.slice xa xn xk) (.slice ya yn yk) ps (fzL zs p ws 8)) = P := ⟨_, rfl⟩
  have HP' : Hid (ownL H (.slice xa xn xk) (.slice ya yn yk) ps (fzL zs p ws 8) = P') := hP'
  have HPL' : Hid (P'.length = 114) := by show _ = _; rw [← hP']; exact ownL_len _ _ _ _ _
  rw [hP'] at R4
  clear hP'
  go_upto_region 8 with fail
  refine wp_region_lit ?_
  refine wpList_take (.agg P'.toArray) (yieldsIf_load_mid rfl 81 (.tmp 8) rfl q 0 rfl P' _ (fun w' e => by subst e; exact R4.out) Try.underlying81 rfl (by rw [HPL'.out]; kernel_rfl)) ?_
  change wpList _ _ _ _ (Act.put _ (some 34) _) _
  simp only [Act.put, List.setIfInBounds_toArray, List.set_cons_zero, List.set_cons_succ]
  rw [← HP'.out]
  refine wpList_plain rfl (fun K hK => ?_)
  go_simp
  refine (i_asSolo H xa xn xk ya yn yk ps (fzL zs p ws 8) w1.heap.size _ NV.out.1 NV.out.2 OK.out.1 OK.out.2.2 (fz_len zs p ws 8 OK.out.2.1 PP.out W8.out.1 (by decide))).mono ?_
  rintro e w5 ⟨r', c', i', o', l', m', rfl, sm, b5⟩
  refine hK _ _ ?_
  clear hK K
  obtain ⟨v0, d0, e0, _⟩ := sm.h.r.shape
  obtain ⟨v1, d1, e1, _⟩ := sm.h.c.shape
  obtain ⟨v2, d2, e2, _⟩ := sm.h.i.shape
  obtain ⟨v3, d3, e3, _⟩ := sm.h.o.shape
  obtain ⟨v4, d4, e4, _⟩ := sm.pl.shape
  obtain ⟨v5, d5, e5, _⟩ := sm.mm.shape
  subst e0 e1 e2 e3 e4 e5
  generalize hm0 : H.regs.length = m0 at *
  generalize hm1 : H.csr.length = m1 at *
  generalize hm2 : H.inn.length = m2 at *
  generalize hm3 : H.out.length = m3 at *
  generalize hm4 : ps.length = m4 at *
  generalize hm5 : (fzL zs p ws 8).length = m5 at *
  have SM : Hid (Sm w5 V.heap.size (.slice v0 m0 d0) (.slice v1 m1 d1) (.slice v2 m2 d2) (.slice v3 m3 d3) (.slice v4 m4 d4) (.slice v5 m5 d5) H ps (fzL zs p ws 8)) := sm
  have B5 : Hid (Below w.heap.size w w5) := on B4.out b5
  have R6 : Hid (Vb w5 (s + 1) #[.int .i64 0, .slice none 0 0, .int .i64 0, .slice none 0 0, .bool false, .bool false, .bool false, .int .i64 0, .slice none 0 0, .slice none 0 0, .slice none 0 0, .slice none 0 0] 43) := R5.out.keep b5
  have ZV : Hid (s + 1 < V.heap.size ∧ w.heap.size ≤ V.heap.size) := ⟨R5.out.lt, B4.out.size⟩
  clear sm b5 hm0 hm1 hm2 hm3 hm4 hm5
  have p0 := R6.out.cell 0 rfl
  have f0 := R6.out.free 0
  have p1 := R6.out.cell 1 rfl
  have f1 := R6.out.free 1
  have p2 := R6.out.cell 2 rfl
  have f2 := R6.out.free 2
  have p3 := R6.out.cell 3 rfl
  have f3 := R6.out.free 3
  have p4 := R6.out.cell 4 rfl
  have f4 := R6.out.free 4
  have p5 := R6.out.cell 5 rfl
  have f5 := R6.out.free 5
  have p6 := R6.out.cell 6 rfl
  have f6 := R6.out.free 6
  have p7 := R6.out.cell 7 rfl
  have f7 := R6.out.free 7
  have p8 := R6.out.cell 8 rfl
  have f8 := R6.out.free 8
  have p9 := R6.out.cell 9 rfl
  have f9 := R6.out.free 9
  have p10 := R6.out.cell 10 rfl
  have f10 := R6.out.free 10
  have p11 := R6.out.cell 11 rfl
  have f11 := R6.out.free 11
  go_wp2_with fail
  clear p0 f0 p1 f1 p2 f2 p3 f3 p4 f4 p5 f5 p6 f6 p7 f7 p8 f8 p9 f9 p10 f10 p11 f11
  have NN : Hid (_ ∧ _) := twelveF R6.out (.int .i64 0) (.slice v0 m0 d0) (.int .i64 H.pc) (.slice v1 m1 d1) (.bool H.halted) (.bool H.waiting) (.bool H.rung) (.int .i64 H.done) (.slice v2 m2 d2) (.slice v3 m3 d3) (.slice v4 m4 d4) (.slice v5 m5 d5)
  generalize ((((((((((((w5.setCell ⟨s + 1, 0, none⟩ (.int .i64 0)).setCell ⟨s + 1, 1, none⟩ (.slice v0 m0 d0)).setCell ⟨s + 1, 2, none⟩ (.int .i64 H.pc)).setCell ⟨s + 1, 3, none⟩ (.slice v1 m1 d1)).setCell ⟨s + 1, 4, none⟩ (.bool H.halted)).setCell ⟨s + 1, 5, none⟩ (.bool H.waiting)).setCell ⟨s + 1, 6, none⟩ (.bool H.rung)).setCell ⟨s + 1, 7, none⟩ (.int .i64 H.done)).setCell ⟨s + 1, 8, none⟩ (.slice v2 m2 d2)).setCell ⟨s + 1, 9, none⟩ (.slice v3 m3 d3)).setCell ⟨s + 1, 10, none⟩ (.slice v4 m4 d4)).setCell ⟨s + 1, 11, none⟩ (.slice v5 m5 d5)) = V6 at *
  have O6 : Ho (s + 2) w5 V6 := NN.out.2.ho fun k e => by omega
  have NE : ∀ k, (Value.slice v4 m4 d4).ownBlock = some k → ¬ k = s + 1 := fun k e f => by have := (SM.out.pl.lt k e).1; have := ZV.out; omega
  have SS : Hid (Sm V6 w.heap.size (.slice v0 m0 d0) (.slice v1 m1 d1) (.slice v2 m2 d2) (.slice v3 m3 d3) (.slice v4 m4 d4) (.slice v5 m5 d5) H ps (fzL zs p ws 8)) := ⟨((SM.out.h.mono (by have := ZV.out; omega)).ho O6).mono (by have := HSs.out; omega), SM.out.a, prs_mono (prs_mq SM.out.pl NN.out.2 NE) ZV.out.2, ((SM.out.mm.mono (by have := ZV.out; omega)).ho O6).mono (by have := HSs.out; omega), SM.out.rm, SM.out.cm, SM.out.im, SM.out.om⟩
  have x0 := NN.out.1.cell 0 rfl
  have x1 := NN.out.1.cell 1 rfl
  have x2 := NN.out.1.cell 2 rfl
  have x3 := NN.out.1.cell 3 rfl
  have x4 := NN.out.1.cell 4 rfl
  have x5 := NN.out.1.cell 5 rfl
  have x6 := NN.out.1.cell 6 rfl
  have x7 := NN.out.1.cell 7 rfl
  have x8 := NN.out.1.cell 8 rfl
  have x9 := NN.out.1.cell 9 rfl
  have x10 := NN.out.1.cell 10 rfl
  have x11 := NN.out.1.cell 11 rfl
  exact bodyPost_ret (v := .agg #[.int .i64 0, .slice v0 m0 d0, .int .i64 H.pc, .slice v1 m1 d1, .bool H.halted, .bool H.waiting, .bool H.rung, .int .i64 H.done, .slice v2 m2 d2, .slice v3 m3 d3, .slice v4 m4 d4, .slice v5 m5 d5]) (by simp [results, Try.results16, go_sem, x0, x1, x2, x3, x4, x5, x6, x7, x8, x9, x10, x11]) rfl ⟨_, _, _, _, _, _, rfl, SS.out, Mq.under B5.out NN.out.2 fun k e => by have := HSs.out; omega⟩
theorem i_feedSolo (r c i o l m : Value) (H : Ht) (ps : List (Int × Int)) (zs : List Int) (pg : Int) (wa : Option Addr) (wn wc : Nat) (ws : List Int) (b : Nat) (w : World) (h : Sm w b r c i o l m H ps zs) (hl : ps.length ≤ 1048576) (hw : Rn w wa wn wc ws) :
    Calls Try.prog 16 #[.agg #[r, .int .i64 H.pc, c, .bool H.halted, .bool H.waiting, .bool H.rung, .int .i64 H.done, i, o, l, m], .int .i64 pg, .slice wa wn wc] w fun e w' => ∃ r' c' i' o' l' m', e = .returned (.agg #[.int .i64 (fsC H ps zs pg ws), r', .int .i64 (fsH H ps zs pg ws).pc, c', .bool (fsH H ps zs pg ws).halted, .bool (fsH H ps zs pg ws).waiting, .bool (fsH H ps zs pg ws).rung, .int .i64 (fsH H ps zs pg ws).done, i', o', l', m']) ∧ Sm w' w.heap.size r' c' i' o' l' m' (fsH H ps zs pg ws) (fsP H ps zs pg ws) (fsZ H ps zs pg ws) ∧ Below w.heap.size w w' := by
  by_cases hx : swC H ps zs pg = 0
  · by_cases h8 : ws.length = 8
    · cases ha : ws.all isW
      · exact ifs_all r c i o l m H ps zs pg wa wn wc ws b w h hl hw hx h8 ha
      · have hc : fsC H ps zs pg ws = 0 := by rw [fsC, if_pos hx, if_pos ⟨h8, ha⟩]
        have hu := fs_yes H ps zs pg ws hc
        rw [hu.1, hu.2.1, hu.2.2, hc]
        obtain ⟨p, rfl⟩ := Int.eq_ofNat_of_zero_le (sw_sp hx).2.1
        rw [Int.toNat_natCast]
        exact ifs_good r c i o l m H ps zs p wa wn wc ws b w h hl hw hx h8 ha
    · exact ifs_len r c i o l m H ps zs pg wa wn wc ws b w h hl hw hx h8
  · exact ifs_bad r c i o l m H ps zs pg wa wn wc ws b w h hl hw hx
end Go.Proofs.Ytijajemalokgjaa
namespace Go.Proofs.Ytijajemalokgjaa.fnExactFeedSoloDone
open Go.ChangeShapes Go.WideShapes Go.ChangeAt Go.RowKit
open Go.ChangeMaps (open_string shut_string)
set_option linter.unusedVariables false

theorem sm_mqF {S : Nat → Prop} {w w' : World} {base : Nat} {r c i o l m : Value} {H : Ht} {ps : List (Int × Int)} {zs : List Int} (s : Sm w base r c i o l m H ps zs) (g : Mq S w w') (hn : ∀ k, OwnS r c i o l m k → ¬ S k) : Sm w' base r c i o l m H ps zs :=
  ⟨g.hm s.h fun k e => hn k (.inl e), s.a, s.pl.low' g fun k e => hn k (.inr (.inl e)), g.nums s.mm fun k e => hn k (.inr (.inr e)), s.rm, s.cm, s.im, s.om⟩
theorem fs_small (H : Ht) (ps : List (Int × Int)) (zs : List Int) (pg : Int) (ws : List Int) : totS (fsH H ps zs pg ws) (fsP H ps zs pg ws) (fsZ H ps zs pg ws) ≤ 2000 := by
  by_cases h : fsC H ps zs pg ws = 0
  · have hu := fs_yes H ps zs pg ws h
    rw [hu.1, hu.2.1, hu.2.2]
    have hs : swC H ps zs pg = 0 := by
      unfold fsC at h
      split at h
      · assumption
      · rename_i k; exact absurd h k
    have h8 : ws.length = 8 := by
      rw [fsC, if_pos hs] at h
      split at h
      · rename_i k; exact k.1
      · cases h
    have sp := sw_sp hs
    have h1 := fs_sol H ps zs sp.1
    have h2 := fz_len zs pg.toNat ws 8 h1.2.1 (by omega) h8 (by decide)
    have := h1.1.r16
    have := h1.1.c11
    have := h1.1.i40
    have := h1.1.o40
    unfold totS totH
    omega
  · have hu := fs_not H ps zs pg ws h
    rw [hu.1, hu.2.1, hu.2.2]
    decide
set_option maxRecDepth 20000 in
set_option maxHeartbeats 8000000 in
theorem walk (a0 a1 a2 a3 : Option Addr) (n0 c0 n1 c1 n2 c2 n3 c3 : Nat) (H : Ht) (la : Option Addr) (ln lc : Nat) (ps : List (Int × Int)) (ma : Option Addr) (mn mc : Nat) (zs : List Int) (pg : Int) (wa : Option Addr) (yn wc : Nat) (ys : List Int) (w : World) (h : Hin w a0 n0 c0 a1 n1 c1 a2 n2 c2 a3 n3 c3 H) (hp : IsPairs w la ln lc ps) (hz : IsRow .i64 w ma mn mc zs) (wp : (Lit.int .i64 pg).wf = true) (hy : IsRow .i64 w wa yn wc ys) :
    Calls Try.prog 4 #[.agg #[.slice a0 n0 c0, .int .i64 H.pc, .slice a1 n1 c1, .bool H.halted, .bool H.waiting, .bool H.rung, .int .i64 H.done, .slice a2 n2 c2, .slice a3 n3 c3, .slice la ln lc, .slice ma mn mc], .int .i64 pg, .slice wa yn wc] w fun e w' => e = .returned (.bool true) ∧ Below w.heap.size w w' := by
  generalize hW : w.alloc (.cells #[.slice a0 n0 c0, .int .i64 H.pc, .slice a1 n1 c1, .bool H.halted, .bool H.waiting, .bool H.rung, .int .i64 H.done, .slice a2 n2 c2, .slice a3 n3 c3, .slice la ln lc, .slice ma mn mc] 27) = W
  have B0 : Hid (Below w.heap.size w W) := by show Below _ _ _; rw [← hW]; exact al (Below.refl _ _) _
  obtain ⟨s, hS⟩ : ∃ s, w.heap.size = s := ⟨_, rfl⟩
  have Q : Hid (Vb W s #[.slice a0 n0 c0, .int .i64 H.pc, .slice a1 n1 c1, .bool H.halted, .bool H.waiting, .bool H.rung, .int .i64 H.done, .slice a2 n2 c2, .slice a3 n3 c3, .slice la ln lc, .slice ma mn mc] 27) := by
    show Vb _ _ _ _
    rw [← hW, ← hS]
    exact Vb.new _ _ _
  have HP : Hid (Hin W a0 n0 c0 a1 n1 c1 a2 n2 c2 a3 n3 c3 H ∧ IsPairs W la ln lc ps ∧ IsRow .i64 W ma mn mc zs) := ⟨h.stay B0.out, hp.stay B0.out, hz.stay B0.out⟩
  have EL : Hid (ln = ps.length ∧ mn = zs.length) := ⟨hp.len, hz.ln.1⟩
  have HY : Hid (IsRow .i64 W wa yn wc ys) := hy.stay B0.out
  have YL : Hid (yn = ys.length) := hy.ln.1
  have hyc : (yn : Int) ≤ 9223372036854775807 := by have := hy.ln.2; unfold maxLen at this; omega
  clear h hp hz wp hy
  have q0 := Q.out.cell 0 rfl
  have q1 := Q.out.cell 1 rfl
  have q2 := Q.out.cell 2 rfl
  have q3 := Q.out.cell 3 rfl
  have q4 := Q.out.cell 4 rfl
  have q5 := Q.out.cell 5 rfl
  have q6 := Q.out.cell 6 rfl
  have q7 := Q.out.cell 7 rfl
  have q8 := Q.out.cell 8 rfl
  have q9 := Q.out.cell 9 rfl
  have q10 := Q.out.cell 10 rfl
  by_cases hbig : 1048576 < yn
  · have hbi : (1048576 : Int) < (yn : Int) := by omega
    go_enter Try.func4, Try.ntmps4
    go_wp2_with fail
    go_ret
    exact ⟨rfl, B0.out⟩
  have SYN : Hid (yn ≤ 1048576) := by show _ ≤ _; omega
  have hbi : ¬ (1048576 : Int) < (yn : Int) := by omega
  clear hbig
  go_enter Try.func4, Try.ntmps4
  go_wp2_with fail
  clear hW hS hbi
  refine (sz_solo _ _ _ _ _ _ _ _ _ _ _ _ H _ _ _ ps _ _ _ zs _ HP.out.1 HP.out.2.1 HP.out.2.2).mono ?_
  rintro e w1 ⟨⟨r, rfl, hs⟩, b1⟩
  by_cases hneg : r < 0
  · go_wp2_with fail
    go_ret
    exact ⟨rfl, on B0.out b1⟩
  have SM : Hid (Hs n0 n1 n2 n3 ∧ ln ≤ 1048576 ∧ mn ≤ 1048576) := hs (by omega)
  have PL : Hid (ps.length ≤ 1048576) := by show _ ≤ _; rw [← EL.out.1]; exact SM.out.2.1
  have B1 : Hid (Below _ W w1) := b1
  have Q1 := Q.out.keep b1
  clear hs b1 q0 q1 q2 q3 q4 q5 q6 q7 q8 q9 q10
  have q0 := Q1.cell 0 rfl
  have q1 := Q1.cell 1 rfl
  have q2 := Q1.cell 2 rfl
  have q3 := Q1.cell 3 rfl
  have q4 := Q1.cell 4 rfl
  have q5 := Q1.cell 5 rfl
  have q6 := Q1.cell 6 rfl
  have q7 := Q1.cell 7 rfl
  have q8 := Q1.cell 8 rfl
  have q9 := Q1.cell 9 rfl
  have q10 := Q1.cell 10 rfl
  clear Q1
  go_wp2_with fail
  clear q0 q1 q2 q3 q4 q5 q6 q7 q8 q9 q10
  refine (to_solo _ _ _ _ _ _ _ _ _ _ _ _ H _ _ _ ps _ _ _ zs _ (HP.out.1.stay B1.out) (HP.out.2.1.stay B1.out) (HP.out.2.2.stay B1.out) SM.out.1 SM.out.2.1 SM.out.2.2).mono ?_
  rintro e w2 ⟨r2, d2, i2, o2, l2, m2, rfl, s2, b2⟩
  have B2 : Hid (Below _ W w2) := on B1.out b2
  have M2 : Hid (Sm w2 _ r2 d2 i2 o2 l2 m2 H ps zs) := s2
  clear s2 b2
  go_wp2_with fail
  refine (to_nums _ _ _ _ _ (HY.out.stay B2.out) SYN.out).mono ?_
  rintro e u2 ⟨g2, rfl, n2', c2'⟩
  have N2 : Hid (Nums u2 _ (.slice (some ⟨g2, 0, none⟩) yn yn) ys) := n2'
  have M2' : Hid (Sm u2 _ r2 d2 i2 o2 l2 m2 H ps zs) := M2.out.keep c2'
  have B2' : Hid (Below _ W u2) := on B2.out c2'
  clear n2' c2' M2 B2
  go_wp2_with fail
  obtain ⟨C, hC⟩ : ∃ C, fsC H ps zs pg ys = C := ⟨_, rfl⟩
  obtain ⟨G, hG⟩ : ∃ G, fsH H ps zs pg ys = G := ⟨_, rfl⟩
  obtain ⟨P, hP⟩ : ∃ P, fsP H ps zs pg ys = P := ⟨_, rfl⟩
  obtain ⟨Z, hZ⟩ : ∃ Z, fsZ H ps zs pg ys = Z := ⟨_, rfl⟩
  have HCZ : Hid (fsC H ps zs pg ys = C ∧ fsH H ps zs pg ys = G ∧ fsP H ps zs pg ys = P ∧ fsZ H ps zs pg ys = Z) := ⟨hC, hG, hP, hZ⟩
  have SY : Hid (totS G P Z ≤ 2000) := by have t := fs_small H ps zs pg ys; rw [hG, hP, hZ] at t; exact t
  have ML : Hid (zs.length ≤ 1048576) := by show _ ≤ _; rw [← EL.out.2]; exact SM.out.2.2
  obtain ⟨e0, le0⟩ : ∃ n, G.regs.length = n := ⟨_, rfl⟩
  obtain ⟨e1, le1⟩ : ∃ n, G.csr.length = n := ⟨_, rfl⟩
  obtain ⟨e2, le2⟩ : ∃ n, G.inn.length = n := ⟨_, rfl⟩
  obtain ⟨e3, le3⟩ : ∃ n, G.out.length = n := ⟨_, rfl⟩
  obtain ⟨e4, le4⟩ : ∃ n, P.length = n := ⟨_, rfl⟩
  obtain ⟨e5, le5⟩ : ∃ n, Z.length = n := ⟨_, rfl⟩
  have LY : Hid (G.regs.length = e0 ∧ G.csr.length = e1 ∧ G.inn.length = e2 ∧ G.out.length = e3 ∧ P.length = e4 ∧ Z.length = e5) := ⟨le0, le1, le2, le3, le4, le5⟩
  clear hC hG hP hZ le0 le1 le2 le3 le4 le5
  have CALL := s_feedSolo _ _ _ _ _ _ H ps zs pg _ _ _ ys _ _ M2'.out PL.out N2.out.rn
  rw [HCZ.out.1, HCZ.out.2.1, HCZ.out.2.2.1, HCZ.out.2.2.2] at CALL
  refine CALL.mono ?_
  clear CALL M2' N2
  rintro e w3 ⟨_, _, _, _, _, _, rfl, sp, b3⟩
  obtain ⟨ya0, yk0, f0, _⟩ := sp.h.r.shape
  obtain ⟨ya1, yk1, f1, _⟩ := sp.h.c.shape
  obtain ⟨ya2, yk2, f2, _⟩ := sp.h.i.shape
  obtain ⟨ya3, yk3, f3, _⟩ := sp.h.o.shape
  obtain ⟨ya4, yk4, f4, _⟩ := sp.pl.shape
  obtain ⟨ya5, yk5, f5, _⟩ := sp.mm.shape
  subst f0 f1 f2 f3 f4 f5
  rw [LY.out.1, LY.out.2.1, LY.out.2.2.1, LY.out.2.2.2.1, LY.out.2.2.2.2.1, LY.out.2.2.2.2.2] at sp ⊢
  have B3 : Hid (Below _ W (w3.alloc (.cells #[.int .i64 C, .slice ya0 e0 yk0, .int .i64 G.pc, .slice ya1 e1 yk1, .bool G.halted, .bool G.waiting, .bool G.rung, .int .i64 G.done, .slice ya2 e2 yk2, .slice ya3 e3 yk3, .slice ya4 e4 yk4, .slice ya5 e5 yk5] 43))) := al (on B2'.out b3) _
  have Y3 : Hid (Vb (w3.alloc (.cells #[.int .i64 C, .slice ya0 e0 yk0, .int .i64 G.pc, .slice ya1 e1 yk1, .bool G.halted, .bool G.waiting, .bool G.rung, .int .i64 G.done, .slice ya2 e2 yk2, .slice ya3 e3 yk3, .slice ya4 e4 yk4, .slice ya5 e5 yk5] 43)) w3.heap.size #[.int .i64 C, .slice ya0 e0 yk0, .int .i64 G.pc, .slice ya1 e1 yk1, .bool G.halted, .bool G.waiting, .bool G.rung, .int .i64 G.done, .slice ya2 e2 yk2, .slice ya3 e3 yk3, .slice ya4 e4 yk4, .slice ya5 e5 yk5] 43) := Vb.new _ _ _
  have N3 : Hid (Sm (w3.alloc (.cells #[.int .i64 C, .slice ya0 e0 yk0, .int .i64 G.pc, .slice ya1 e1 yk1, .bool G.halted, .bool G.waiting, .bool G.rung, .int .i64 G.done, .slice ya2 e2 yk2, .slice ya3 e3 yk3, .slice ya4 e4 yk4, .slice ya5 e5 yk5] 43)) _ (.slice ya0 e0 yk0) (.slice ya1 e1 yk1) (.slice ya2 e2 yk2) (.slice ya3 e3 yk3) (.slice ya4 e4 yk4) (.slice ya5 e5 yk5) G P Z) := sp.keep (al (Below.refl _ _) _)
  have L3 : Hid (∀ k, OwnS (.slice ya0 e0 yk0) (.slice ya1 e1 yk1) (.slice ya2 e2 yk2) (.slice ya3 e3 yk3) (.slice ya4 e4 yk4) (.slice ya5 e5 yk5) k → k < w3.heap.size) := fun k e => by
    rcases e with e | e | e
    · exact (sp.h.own k e).2
    · exact (sp.pl.lt k e).2
    · exact (sp.mm.lt k e).2
  have Z3 : Hid (w3.heap.size + 1 = (w3.alloc (.cells #[.int .i64 C, .slice ya0 e0 yk0, .int .i64 G.pc, .slice ya1 e1 yk1, .bool G.halted, .bool G.waiting, .bool G.rung, .int .i64 G.done, .slice ya2 e2 yk2, .slice ya3 e3 yk3, .slice ya4 e4 yk4, .slice ya5 e5 yk5] 43)).heap.size ∧ W.heap.size ≤ w3.heap.size) := ⟨by simp, (on B2'.out b3).size⟩
  clear sp b3 B2'
  have Q3 := Q.out.keep B3.out
  have q0 := Q3.cell 0 rfl
  have q1 := Q3.cell 1 rfl
  have q2 := Q3.cell 2 rfl
  have q3 := Q3.cell 3 rfl
  have q4 := Q3.cell 4 rfl
  have q5 := Q3.cell 5 rfl
  have q6 := Q3.cell 6 rfl
  have q7 := Q3.cell 7 rfl
  have q8 := Q3.cell 8 rfl
  have q9 := Q3.cell 9 rfl
  have q10 := Q3.cell 10 rfl
  clear Q3
  go_wp2_with fail
  clear q0 q1 q2 q3 q4 q5 q6 q7 q8 q9 q10
  generalize (w3.alloc (.cells #[.int .i64 C, .slice ya0 e0 yk0, .int .i64 G.pc, .slice ya1 e1 yk1, .bool G.halted, .bool G.waiting, .bool G.rung, .int .i64 G.done, .slice ya2 e2 yk2, .slice ya3 e3 yk3, .slice ya4 e4 yk4, .slice ya5 e5 yk5] 43)) = W3 at *
  obtain ⟨s3, hs3⟩ : ∃ s3, w3.heap.size = s3 := ⟨_, rfl⟩
  rw [hs3] at Y3 L3 Z3 ⊢
  clear hs3
  refine (to_solo _ _ _ _ _ _ _ _ _ _ _ _ H _ _ _ ps _ _ _ zs _ (HP.out.1.stay B3.out) (HP.out.2.1.stay B3.out) (HP.out.2.2.stay B3.out) SM.out.1 SM.out.2.1 SM.out.2.2).mono ?_
  rintro e w4 ⟨r4, d4, i4, o4, l4, m4, rfl, s4', b4⟩
  obtain ⟨xa0, xk0, e0, _⟩ := s4'.h.r.shape
  obtain ⟨xa1, xk1, e1, _⟩ := s4'.h.c.shape
  obtain ⟨xa2, xk2, e2, _⟩ := s4'.h.i.shape
  obtain ⟨xa3, xk3, e3, _⟩ := s4'.h.o.shape
  obtain ⟨xa4, xk4, e4, _⟩ := s4'.pl.shape
  obtain ⟨xa5, xk5, e5, _⟩ := s4'.mm.shape
  subst e0 e1 e2 e3 e4 e5
  obtain ⟨rn, hn0⟩ : ∃ n, H.regs.length = n := ⟨_, rfl⟩
  obtain ⟨dn, hn1⟩ : ∃ n, H.csr.length = n := ⟨_, rfl⟩
  obtain ⟨jn, hn2⟩ : ∃ n, H.inn.length = n := ⟨_, rfl⟩
  obtain ⟨on0, hn3⟩ : ∃ n, H.out.length = n := ⟨_, rfl⟩
  obtain ⟨ln0, hn4⟩ : ∃ n, ps.length = n := ⟨_, rfl⟩
  obtain ⟨mn0, hn5⟩ : ∃ n, zs.length = n := ⟨_, rfl⟩
  rw [hn0, hn1, hn2, hn3, hn4, hn5] at s4' ⊢
  have M4 : Hid (Sm w4 W3.heap.size (.slice xa0 rn xk0) (.slice xa1 dn xk1) (.slice xa2 jn xk2) (.slice xa3 on0 xk3) (.slice xa4 ln0 xk4) (.slice xa5 mn0 xk5) H ps zs) := s4'
  have D4 : Hid (Below w4.heap.size w4 (w4.alloc (.cells #[.slice xa0 rn xk0, .int .i64 H.pc, .slice xa1 dn xk1, .bool H.halted, .bool H.waiting, .bool H.rung, .int .i64 H.done, .slice xa2 jn xk2, .slice xa3 on0 xk3, .slice xa4 ln0 xk4, .slice xa5 mn0 xk5] 35))) := al (Below.refl _ _) _
  have B4 : Hid (Below _ W (w4.alloc (.cells #[.slice xa0 rn xk0, .int .i64 H.pc, .slice xa1 dn xk1, .bool H.halted, .bool H.waiting, .bool H.rung, .int .i64 H.done, .slice xa2 jn xk2, .slice xa3 on0 xk3, .slice xa4 ln0 xk4, .slice xa5 mn0 xk5] 35))) := al (on B3.out b4) _
  have X4 : Hid (Vb (w4.alloc (.cells #[.slice xa0 rn xk0, .int .i64 H.pc, .slice xa1 dn xk1, .bool H.halted, .bool H.waiting, .bool H.rung, .int .i64 H.done, .slice xa2 jn xk2, .slice xa3 on0 xk3, .slice xa4 ln0 xk4, .slice xa5 mn0 xk5] 35)) w4.heap.size #[.slice xa0 rn xk0, .int .i64 H.pc, .slice xa1 dn xk1, .bool H.halted, .bool H.waiting, .bool H.rung, .int .i64 H.done, .slice xa2 jn xk2, .slice xa3 on0 xk3, .slice xa4 ln0 xk4, .slice xa5 mn0 xk5] 35) := Vb.new _ _ _
  have E4 : Hid (Below W3.heap.size W3 (w4.alloc (.cells #[.slice xa0 rn xk0, .int .i64 H.pc, .slice xa1 dn xk1, .bool H.halted, .bool H.waiting, .bool H.rung, .int .i64 H.done, .slice xa2 jn xk2, .slice xa3 on0 xk3, .slice xa4 ln0 xk4, .slice xa5 mn0 xk5] 35))) := al b4 _
  have RN : Hid (∀ k, OwnS (.slice xa0 rn xk0) (.slice xa1 dn xk1) (.slice xa2 jn xk2) (.slice xa3 on0 xk3) (.slice xa4 ln0 xk4) (.slice xa5 mn0 xk5) k → W3.heap.size ≤ k ∧ k < w4.heap.size) := fun k e => by
    rcases e with e | e | e
    · exact s4'.h.own k e
    · exact s4'.pl.lt k e
    · exact s4'.mm.lt k e
  have Z4 : Hid (W3.heap.size ≤ w4.heap.size ∧ w4.heap.size + 1 = (w4.alloc (.cells #[.slice xa0 rn xk0, .int .i64 H.pc, .slice xa1 dn xk1, .bool H.halted, .bool H.waiting, .bool H.rung, .int .i64 H.done, .slice xa2 jn xk2, .slice xa3 on0 xk3, .slice xa4 ln0 xk4, .slice xa5 mn0 xk5] 35)).heap.size) := ⟨b4.size, by simp⟩
  clear s4' b4 hn0 hn1 hn2 hn3 hn4 hn5
  go_wp2_with fail
  generalize (w4.alloc (.cells #[.slice xa0 rn xk0, .int .i64 H.pc, .slice xa1 dn xk1, .bool H.halted, .bool H.waiting, .bool H.rung, .int .i64 H.done, .slice xa2 jn xk2, .slice xa3 on0 xk3, .slice xa4 ln0 xk4, .slice xa5 mn0 xk5] 35)) = W4 at *
  obtain ⟨s4, hs4⟩ : ∃ s4, w4.heap.size = s4 := ⟨_, rfl⟩
  rw [hs4] at X4 Z4 RN ⊢
  have S4 : Hid (w4.heap.size = s4) := hs4
  clear hs4
  refine (to_nums _ _ _ _ _ (HY.out.stay B4.out) SYN.out).mono ?_
  rintro e u4 ⟨g4, rfl, n4', c4'⟩
  have NX4 : Hid (Nums u4 W4.heap.size (.slice (some ⟨g4, 0, none⟩) yn yn) ys) := n4'
  have RX : Hid (W4.heap.size ≤ g4 ∧ g4 < u4.heap.size) := n4'.lt g4 rfl
  have B4 : Hid (Below _ W u4) := on B4.out c4'
  have D4 : Hid (Below w4.heap.size w4 u4) := on D4.out c4'
  have E4 : Hid (Below W3.heap.size W3 u4) := on E4.out c4'
  have X4 : Hid (Vb u4 s4 _ _) := X4.out.keep c4'
  have ZU : Hid (W4.heap.size ≤ u4.heap.size) := c4'.size
  clear n4' c4'
  have q0 := X4.out.cell 0 rfl
  have q1 := X4.out.cell 1 rfl
  have q2 := X4.out.cell 2 rfl
  have q3 := X4.out.cell 3 rfl
  have q4 := X4.out.cell 4 rfl
  have q5 := X4.out.cell 5 rfl
  have q6 := X4.out.cell 6 rfl
  have q7 := X4.out.cell 7 rfl
  have q8 := X4.out.cell 8 rfl
  have q9 := X4.out.cell 9 rfl
  have q10 := X4.out.cell 10 rfl
  go_wp2_with fail
  clear q0 q1 q2 q3 q4 q5 q6 q7 q8 q9 q10
  have CALL := i_feedSolo _ _ _ _ _ _ H ps zs pg _ _ _ ys _ _ (M4.out.keep D4.out) PL.out NX4.out.rn
  rw [HCZ.out.1, HCZ.out.2.1, HCZ.out.2.2.1, HCZ.out.2.2.2] at CALL
  refine CALL.mono ?_
  clear CALL
  rintro e w5 ⟨_, _, _, _, _, _, rfl, sm, b5⟩
  obtain ⟨za0, zk0, f0, _⟩ := sm.h.r.shape
  obtain ⟨za1, zk1, f1, _⟩ := sm.h.c.shape
  obtain ⟨za2, zk2, f2, _⟩ := sm.h.i.shape
  obtain ⟨za3, zk3, f3, _⟩ := sm.h.o.shape
  obtain ⟨za4, zk4, f4, _⟩ := sm.pl.shape
  obtain ⟨za5, zk5, f5, _⟩ := sm.mm.shape
  subst f0 f1 f2 f3 f4 f5
  rw [LY.out.1, LY.out.2.1, LY.out.2.2.1, LY.out.2.2.2.1, LY.out.2.2.2.2.1, LY.out.2.2.2.2.2] at sm ⊢
  have E5 : Hid (Below u4.heap.size u4 (w5.alloc (.cells #[.int .i64 C, .slice za0 e0 zk0, .int .i64 G.pc, .slice za1 e1 zk1, .bool G.halted, .bool G.waiting, .bool G.rung, .int .i64 G.done, .slice za2 e2 zk2, .slice za3 e3 zk3, .slice za4 e4 zk4, .slice za5 e5 zk5] 43))) := al b5 _
  have B5 : Hid (Below _ W (w5.alloc (.cells #[.int .i64 C, .slice za0 e0 zk0, .int .i64 G.pc, .slice za1 e1 zk1, .bool G.halted, .bool G.waiting, .bool G.rung, .int .i64 G.done, .slice za2 e2 zk2, .slice za3 e3 zk3, .slice za4 e4 zk4, .slice za5 e5 zk5] 43))) := on B4.out E5.out
  have D5 : Hid (Below w4.heap.size w4 (w5.alloc (.cells #[.int .i64 C, .slice za0 e0 zk0, .int .i64 G.pc, .slice za1 e1 zk1, .bool G.halted, .bool G.waiting, .bool G.rung, .int .i64 G.done, .slice za2 e2 zk2, .slice za3 e3 zk3, .slice za4 e4 zk4, .slice za5 e5 zk5] 43))) := on D4.out E5.out
  have G5 : Hid (Vb (w5.alloc (.cells #[.int .i64 C, .slice za0 e0 zk0, .int .i64 G.pc, .slice za1 e1 zk1, .bool G.halted, .bool G.waiting, .bool G.rung, .int .i64 G.done, .slice za2 e2 zk2, .slice za3 e3 zk3, .slice za4 e4 zk4, .slice za5 e5 zk5] 43)) w5.heap.size #[.int .i64 C, .slice za0 e0 zk0, .int .i64 G.pc, .slice za1 e1 zk1, .bool G.halted, .bool G.waiting, .bool G.rung, .int .i64 G.done, .slice za2 e2 zk2, .slice za3 e3 zk3, .slice za4 e4 zk4, .slice za5 e5 zk5] 43) := Vb.new _ _ _
  have X5 : Hid (Vb (w5.alloc (.cells #[.int .i64 C, .slice za0 e0 zk0, .int .i64 G.pc, .slice za1 e1 zk1, .bool G.halted, .bool G.waiting, .bool G.rung, .int .i64 G.done, .slice za2 e2 zk2, .slice za3 e3 zk3, .slice za4 e4 zk4, .slice za5 e5 zk5] 43)) s4 #[.slice xa0 rn xk0, .int .i64 H.pc, .slice xa1 dn xk1, .bool H.halted, .bool H.waiting, .bool H.rung, .int .i64 H.done, .slice xa2 jn xk2, .slice xa3 on0 xk3, .slice xa4 ln0 xk4, .slice xa5 mn0 xk5] 35) := X4.out.keep E5.out
  have Y5 : Hid (Vb (w5.alloc (.cells #[.int .i64 C, .slice za0 e0 zk0, .int .i64 G.pc, .slice za1 e1 zk1, .bool G.halted, .bool G.waiting, .bool G.rung, .int .i64 G.done, .slice za2 e2 zk2, .slice za3 e3 zk3, .slice za4 e4 zk4, .slice za5 e5 zk5] 43)) s3 #[.int .i64 C, .slice ya0 e0 yk0, .int .i64 G.pc, .slice ya1 e1 yk1, .bool G.halted, .bool G.waiting, .bool G.rung, .int .i64 G.done, .slice ya2 e2 yk2, .slice ya3 e3 yk3, .slice ya4 e4 yk4, .slice ya5 e5 yk5] 43) := (Y3.out.keep E4.out).keep E5.out
  have N5 : Hid (Sm (w5.alloc (.cells #[.int .i64 C, .slice za0 e0 zk0, .int .i64 G.pc, .slice za1 e1 zk1, .bool G.halted, .bool G.waiting, .bool G.rung, .int .i64 G.done, .slice za2 e2 zk2, .slice za3 e3 zk3, .slice za4 e4 zk4, .slice za5 e5 zk5] 43)) _ (.slice ya0 e0 yk0) (.slice ya1 e1 yk1) (.slice ya2 e2 yk2) (.slice ya3 e3 yk3) (.slice ya4 e4 yk4) (.slice ya5 e5 yk5) G P Z) := (N3.out.keep E4.out).keep E5.out
  have O5 : Hid (Sm (w5.alloc (.cells #[.int .i64 C, .slice za0 e0 zk0, .int .i64 G.pc, .slice za1 e1 zk1, .bool G.halted, .bool G.waiting, .bool G.rung, .int .i64 G.done, .slice za2 e2 zk2, .slice za3 e3 zk3, .slice za4 e4 zk4, .slice za5 e5 zk5] 43)) u4.heap.size (.slice za0 e0 zk0) (.slice za1 e1 zk1) (.slice za2 e2 zk2) (.slice za3 e3 zk3) (.slice za4 e4 zk4) (.slice za5 e5 zk5) G P Z) := sm.keep (al (Below.refl _ _) _)
  have M5 : Hid (Sm (w5.alloc (.cells #[.int .i64 C, .slice za0 e0 zk0, .int .i64 G.pc, .slice za1 e1 zk1, .bool G.halted, .bool G.waiting, .bool G.rung, .int .i64 G.done, .slice za2 e2 zk2, .slice za3 e3 zk3, .slice za4 e4 zk4, .slice za5 e5 zk5] 43)) W3.heap.size (.slice xa0 rn xk0) (.slice xa1 dn xk1) (.slice xa2 jn xk2) (.slice xa3 on0 xk3) (.slice xa4 ln0 xk4) (.slice xa5 mn0 xk5) H ps zs) := M4.out.keep D5.out
  have L5 : Hid (∀ k, OwnS (.slice za0 e0 zk0) (.slice za1 e1 zk1) (.slice za2 e2 zk2) (.slice za3 e3 zk3) (.slice za4 e4 zk4) (.slice za5 e5 zk5) k → u4.heap.size ≤ k ∧ k < w5.heap.size) := fun k e => by
    rcases e with e | e | e
    · exact sm.h.own k e
    · exact sm.pl.lt k e
    · exact sm.mm.lt k e
  have Z5 : Hid (u4.heap.size ≤ w5.heap.size) := b5.size
  have NX5 : Hid (Nums (w5.alloc (.cells #[.int .i64 C, .slice za0 e0 zk0, .int .i64 G.pc, .slice za1 e1 zk1, .bool G.halted, .bool G.waiting, .bool G.rung, .int .i64 G.done, .slice za2 e2 zk2, .slice za3 e3 zk3, .slice za4 e4 zk4, .slice za5 e5 zk5] 43)) W4.heap.size (.slice (some ⟨g4, 0, none⟩) yn yn) ys) := NX4.out.keep E5.out
  have yk := (Y3.out.keep E4.out).keep b5
  have ly : s3 < w5.heap.size := yk.lt
  have y0 := yk.cell 0 rfl
  have y1 := yk.cell 1 rfl
  have y2 := yk.cell 2 rfl
  have y3 := yk.cell 3 rfl
  have y4 := yk.cell 4 rfl
  have y5 := yk.cell 5 rfl
  have y6 := yk.cell 6 rfl
  have y7 := yk.cell 7 rfl
  have y8 := yk.cell 8 rfl
  have y9 := yk.cell 9 rfl
  have y10 := yk.cell 10 rfl
  have y11 := yk.cell 11 rfl
  clear yk sm b5 M4 X4 Y3 N3 B4 D4
  go_wp2_with fail
  clear y0 y1 y2 y3 y4 y5 y6 y7 y8 y9 y10 y11 ly
  generalize (w5.alloc (.cells #[.int .i64 C, .slice za0 e0 zk0, .int .i64 G.pc, .slice za1 e1 zk1, .bool G.halted, .bool G.waiting, .bool G.rung, .int .i64 G.done, .slice za2 e2 zk2, .slice za3 e3 zk3, .slice za4 e4 zk4, .slice za5 e5 zk5] 43)) = W5 at *
  obtain ⟨s5, hs5⟩ : ∃ s5, w5.heap.size = s5 := ⟨_, rfl⟩
  rw [hs5] at G5 L5 Z5 ⊢
  clear hs5
  refine (eq_sres _ _ _ _ _ _ _ _ _ _ _ _ _ G P Z _ _ _ O5.out.sr N5.out.sr).mono ?_
  rintro e w6 ⟨rfl, b6⟩
  have B6 : Hid (Below _ W w6) := on B5.out b6
  have D6 : Hid (Below W5.heap.size W5 w6) := b6
  clear b6
  go_upto_region 13 with fail
  have s1_ := Q.out.keep B6.out
  have s2_ := X5.out.keep D6.out
  have S0 : Hid (Vb w6.drew s #[.slice a0 n0 c0, .int .i64 H.pc, .slice a1 n1 c1, .bool H.halted, .bool H.waiting, .bool H.rung, .int .i64 H.done, .slice a2 n2 c2, .slice a3 n3 c3, .slice la ln lc, .slice ma mn mc] 27 ∧ Vb w6.drew s4 #[.slice xa0 rn xk0, .int .i64 H.pc, .slice xa1 dn xk1, .bool H.halted, .bool H.waiting, .bool H.rung, .int .i64 H.done, .slice xa2 jn xk2, .slice xa3 on0 xk3, .slice xa4 ln0 xk4, .slice xa5 mn0 xk5] 35) := ⟨s1_, s2_⟩
  clear s1_ s2_
  have D7 : Hid (Below W5.heap.size W5 w6.drew) := D6.out.drew
  have B7 : Hid (Below _ W w6.drew) := B6.out.drew
  clear D6 B6
  refine wp_region_held (S := fun w' => Vb w' s #[.slice a0 n0 c0, .int .i64 H.pc, .slice a1 n1 c1, .bool H.halted, .bool H.waiting, .bool H.rung, .int .i64 H.done, .slice a2 n2 c2, .slice a3 n3 c3, .slice la ln lc, .slice ma mn mc] 27 ∧ Vb w' s4 #[.slice xa0 rn xk0, .int .i64 H.pc, .slice xa1 dn xk1, .bool H.halted, .bool H.waiting, .bool H.rung, .int .i64 H.done, .slice xa2 jn xk2, .slice xa3 on0 xk3, .slice xa4 ln0 xk4, .slice xa5 mn0 xk5] 35) (by kernel_rfl) ?_
  change wpAnyH _ _ _ _ _ _ _ _ (World.drew _)
  generalize w6.drew = x0 at *
  refine wpAnyH_take (i := 0) (v := .agg #[.slice xa0 rn xk0, .int .i64 H.pc, .slice xa1 dn xk1, .bool H.halted, .bool H.waiting, .bool H.rung, .int .i64 H.done, .slice xa2 jn xk2, .slice xa3 on0 xk3, .slice xa4 ln0 xk4, .slice xa5 mn0 xk5]) rfl (by kernel_rfl) (by kernel_rfl) (by kernel_rfl) (fun _ _ _ h => h) (Or.inl ⟨by rfl, fun w' hs => by have y0 := hs.2.cell 0 rfl; have y1 := hs.2.cell 1 rfl; have y2 := hs.2.cell 2 rfl; have y3 := hs.2.cell 3 rfl; have y4 := hs.2.cell 4 rfl; have y5 := hs.2.cell 5 rfl; have y6 := hs.2.cell 6 rfl; have y7 := hs.2.cell 7 rfl; have y8 := hs.2.cell 8 rfl; have y9 := hs.2.cell 9 rfl; have y10 := hs.2.cell 10 rfl; go_simp⟩) S0.out ?_
  change wpAnyH _ _ _ _ _ _ _ (Act.put _ (some 42) _) _
  simp only [Act.put, List.setIfInBounds_toArray, List.set_cons_zero, List.set_cons_succ]
  refine wpAnyH_take (i := 1) (v := .agg #[.slice a0 n0 c0, .int .i64 H.pc, .slice a1 n1 c1, .bool H.halted, .bool H.waiting, .bool H.rung, .int .i64 H.done, .slice a2 n2 c2, .slice a3 n3 c3, .slice la ln lc, .slice ma mn mc]) rfl (by kernel_rfl) (by kernel_rfl) (by kernel_rfl) (fun _ _ _ h => h) (Or.inl ⟨by rfl, fun w' hs => by have y0 := hs.1.cell 0 rfl; have y1 := hs.1.cell 1 rfl; have y2 := hs.1.cell 2 rfl; have y3 := hs.1.cell 3 rfl; have y4 := hs.1.cell 4 rfl; have y5 := hs.1.cell 5 rfl; have y6 := hs.1.cell 6 rfl; have y7 := hs.1.cell 7 rfl; have y8 := hs.1.cell 8 rfl; have y9 := hs.1.cell 9 rfl; have y10 := hs.1.cell 10 rfl; go_simp⟩) S0.out ?_
  change wpAnyH _ _ _ _ _ _ _ (Act.put _ (some 43) _) _
  simp only [Act.put, List.setIfInBounds_toArray, List.set_cons_zero, List.set_cons_succ]
  refine wpAnyH_ready (rs := [2]) (by kernel_rfl) (by simp) ?_
  refine AllReadyH.cons rfl (fun K hK => ?_) AllReadyH.nil
  rw [if_pos (by rfl)]
  go_simp
  refine (to_solo _ _ _ _ _ _ _ _ _ _ _ _ H _ _ _ ps _ _ _ zs _ (HP.out.1.stay B7.out) (HP.out.2.1.stay B7.out) (HP.out.2.2.stay B7.out) SM.out.1 SM.out.2.1 SM.out.2.2).mono ?_
  rintro e w8 ⟨r8, d8, i8, o8, l8, m8, rfl, s8, b8⟩
  have M8 : Hid (Sm w8 _ r8 d8 i8 o8 l8 m8 H ps zs) := s8
  have D8 : Hid (Below W5.heap.size W5 w8) := on D7.out b8
  have B8 : Hid (Below _ W w8) := on B7.out b8
  have S8 : Hid (Vb w8 s #[.slice a0 n0 c0, .int .i64 H.pc, .slice a1 n1 c1, .bool H.halted, .bool H.waiting, .bool H.rung, .int .i64 H.done, .slice a2 n2 c2, .slice a3 n3 c3, .slice la ln lc, .slice ma mn mc] 27 ∧ Vb w8 s4 #[.slice xa0 rn xk0, .int .i64 H.pc, .slice xa1 dn xk1, .bool H.halted, .bool H.waiting, .bool H.rung, .int .i64 H.done, .slice xa2 jn xk2, .slice xa3 on0 xk3, .slice xa4 ln0 xk4, .slice xa5 mn0 xk5] 35) := ⟨S0.out.1.keep b8, S0.out.2.keep b8⟩
  clear s8 b8 D7 B7 S0
  refine hK.out _ _ S8.out (fun _ => ?_)
  clear hK K
  refine wpAnyH_ready (rs := [3]) (by kernel_rfl) (by simp) ?_
  refine AllReadyH.cons rfl (fun K hK => ?_) AllReadyH.nil
  rw [if_pos (by rfl)]
  go_simp
  refine (eq_solo _ _ _ _ _ _ _ _ _ _ _ _ H ps zs _ _ _ (M5.out.keep D8.out) M8.out).mono ?_
  rintro e w9 ⟨rfl, b9⟩
  have D9 : Hid (Below W5.heap.size W5 w9) := on D8.out b9
  have B9 : Hid (Below _ W w9) := on B8.out b9
  have S9 : Hid (Vb w9 s #[.slice a0 n0 c0, .int .i64 H.pc, .slice a1 n1 c1, .bool H.halted, .bool H.waiting, .bool H.rung, .int .i64 H.done, .slice a2 n2 c2, .slice a3 n3 c3, .slice la ln lc, .slice ma mn mc] 27 ∧ Vb w9 s4 #[.slice xa0 rn xk0, .int .i64 H.pc, .slice xa1 dn xk1, .bool H.halted, .bool H.waiting, .bool H.rung, .int .i64 H.done, .slice xa2 jn xk2, .slice xa3 on0 xk3, .slice xa4 ln0 xk4, .slice xa5 mn0 xk5] 35) := ⟨S8.out.1.keep b9, S8.out.2.keep b9⟩
  clear b9 D8 B8 S8 M8
  refine hK.out _ _ S9.out (fun _ => ?_)
  clear hK K
  refine wpAnyH_take (i := 4) (v := .bool false) rfl (by kernel_rfl) (by kernel_rfl) (by kernel_rfl) (fun _ _ _ h => h) (Or.inl ⟨by rfl, fun w' hs => by go_simp⟩) S9.out ?_
  change wpAnyH _ _ _ _ _ _ _ (Act.put _ (some 46) _) _
  simp only [Act.put, List.setIfInBounds_toArray, List.set_cons_zero, List.set_cons_succ]
  refine wpAnyH_done (by kernel_rfl) ?_ _
  clear S9
  have X7 : Hid (Vb w9 s4 #[.slice xa0 rn xk0, .int .i64 H.pc, .slice xa1 dn xk1, .bool H.halted, .bool H.waiting, .bool H.rung, .int .i64 H.done, .slice xa2 jn xk2, .slice xa3 on0 xk3, .slice xa4 ln0 xk4, .slice xa5 mn0 xk5] 35) := X5.out.keep D9.out
  have Y7 : Hid (Vb w9 s3 #[.int .i64 C, .slice ya0 e0 yk0, .int .i64 G.pc, .slice ya1 e1 yk1, .bool G.halted, .bool G.waiting, .bool G.rung, .int .i64 G.done, .slice ya2 e2 yk2, .slice ya3 e3 yk3, .slice ya4 e4 yk4, .slice ya5 e5 yk5] 43) := Y5.out.keep D9.out
  have G7 : Hid (Vb w9 s5 #[.int .i64 C, .slice za0 e0 zk0, .int .i64 G.pc, .slice za1 e1 zk1, .bool G.halted, .bool G.waiting, .bool G.rung, .int .i64 G.done, .slice za2 e2 zk2, .slice za3 e3 zk3, .slice za4 e4 zk4, .slice za5 e5 zk5] 43) := G5.out.keep D9.out
  have N7 : Hid (Sm w9 _ (.slice ya0 e0 yk0) (.slice ya1 e1 yk1) (.slice ya2 e2 yk2) (.slice ya3 e3 yk3) (.slice ya4 e4 yk4) (.slice ya5 e5 yk5) G P Z) := N5.out.keep D9.out
  have O7 : Hid (Sm w9 u4.heap.size (.slice za0 e0 zk0) (.slice za1 e1 zk1) (.slice za2 e2 zk2) (.slice za3 e3 zk3) (.slice za4 e4 zk4) (.slice za5 e5 zk5) G P Z) := O5.out.keep D9.out
  have M7 : Hid (Sm w9 W3.heap.size (.slice xa0 rn xk0) (.slice xa1 dn xk1) (.slice xa2 jn xk2) (.slice xa3 on0 xk3) (.slice xa4 ln0 xk4) (.slice xa5 mn0 xk5) H ps zs) := M5.out.keep D9.out
  have NX7 : Hid (Nums w9 W4.heap.size (.slice (some ⟨g4, 0, none⟩) yn yn) ys) := NX5.out.keep D9.out
  clear X5 Y5 G5 N5 O5 M5 D9 D5 B5 NX5
  go_wp2_with fail
  refine (to_nums _ _ _ _ _ (HY.out.stay B9.out) SYN.out).mono ?_
  rintro e u7 ⟨g7', rfl, n7', c7'⟩
  have NE7 : Hid (Nums u7 _ (.slice (some ⟨g7', 0, none⟩) yn yn) ys) := n7'
  have C7 : Hid (Below w9.heap.size w9 u7) := c7'
  clear n7' c7'
  go_wp2_with fail
  refine (eq_nums _ _ _ _ _ _ (NX7.out.keep C7.out) NE7.out).mono ?_
  rintro e w9' ⟨rfl, c8'⟩
  have C8 : Below w9.heap.size w9 w9' := on C7.out c8'
  have NX7 : Hid (Nums w9' W4.heap.size (.slice (some ⟨g4, 0, none⟩) yn yn) ys) := NX7.out.keep C8
  have B9 : Hid (Below _ W w9') := on B9.out C8
  have X7 : Hid (Vb w9' s4 _ _) := X7.out.keep C8
  have Y7 : Hid (Vb w9' s3 _ _) := Y7.out.keep C8
  have G7 : Hid (Vb w9' s5 _ _) := G7.out.keep C8
  have N7 : Hid (Sm w9' _ (.slice ya0 e0 yk0) (.slice ya1 e1 yk1) (.slice ya2 e2 yk2) (.slice ya3 e3 yk3) (.slice ya4 e4 yk4) (.slice ya5 e5 yk5) G P Z) := N7.out.keep C8
  have O7 : Hid (Sm w9' u4.heap.size (.slice za0 e0 zk0) (.slice za1 e1 zk1) (.slice za2 e2 zk2) (.slice za3 e3 zk3) (.slice za4 e4 zk4) (.slice za5 e5 zk5) G P Z) := O7.out.keep C8
  have M7 : Hid (Sm w9' W3.heap.size (.slice xa0 rn xk0) (.slice xa1 dn xk1) (.slice xa2 jn xk2) (.slice xa3 on0 xk3) (.slice xa4 ln0 xk4) (.slice xa5 mn0 xk5) H ps zs) := M7.out.keep C8
  clear C7 C8 NE7 c8'
  have q0 := X7.out.cell 0 rfl
  have q1 := X7.out.cell 1 rfl
  have q2 := X7.out.cell 2 rfl
  have q3 := X7.out.cell 3 rfl
  have q4 := X7.out.cell 4 rfl
  have q5 := X7.out.cell 5 rfl
  have q6 := X7.out.cell 6 rfl
  have q7 := X7.out.cell 7 rfl
  have q8 := X7.out.cell 8 rfl
  have q9 := X7.out.cell 9 rfl
  have q10 := X7.out.cell 10 rfl
  go_wp2_with fail
  clear q0 q1 q2 q3 q4 q5 q6 q7 q8 q9 q10
  have TH : Hid ((1 : Int) + (totS H ps zs : Nat) ≤ 12000000) := by
    show _ ≤ _
    have h0 := (HP.out.1.regs).ln.1
    have h1 := (HP.out.1.csr).ln.1
    have h2 := (HP.out.1.inn).ln.1
    have h3 := (HP.out.1.out).ln.1
    have := SM.out.1.regs
    have := SM.out.1.csr
    have := SM.out.1.inn
    have := SM.out.1.out
    have := SM.out.2
    have := EL.out
    unfold totS totH
    omega
  refine (mark_solo _ _ _ _ _ _ H ps zs 1 _ w9' M7.out (by decide) (by have := TH.out; omega)).mono ?_
  rintro e m3 ⟨rfl, _, mk1⟩
  have K1 : Hid (Mq (fun k => W3.heap.size ≤ k ∧ k < s4) w9' m3) := ⟨mk1.os, mk1.tape, mk1.output, mk1.size, fun k hk hn => mk1.block k hk fun e => hn (RN.out k e)⟩
  have hp3 : 0 ≤ (1 : Int) + (totS H ps zs : Nat) := by omega
  have hq3 : (1 : Int) + (totS H ps zs : Nat) ≤ 12000000 := TH.out
  generalize (1 : Int) + (totS H ps zs : Nat) = T3 at *
  clear mk1 M7 TH
  have Bm : Hid (Below _ W m3) := Mq.below B9.out K1.out fun k e => by have := Z3.out; omega
  have Ym : Hid (Vb m3 s3 #[.int .i64 C, .slice ya0 e0 yk0, .int .i64 G.pc, .slice ya1 e1 yk1, .bool G.halted, .bool G.waiting, .bool G.rung, .int .i64 G.done, .slice ya2 e2 yk2, .slice ya3 e3 yk3, .slice ya4 e4 yk4, .slice ya5 e5 yk5] 43) := K1.out.vb Y7.out fun e => by have := Z3.out; omega
  have Gm : Hid (Vb m3 s5 #[.int .i64 C, .slice za0 e0 zk0, .int .i64 G.pc, .slice za1 e1 zk1, .bool G.halted, .bool G.waiting, .bool G.rung, .int .i64 G.done, .slice za2 e2 zk2, .slice za3 e3 zk3, .slice za4 e4 zk4, .slice za5 e5 zk5] 43) := K1.out.vb G7.out fun e => by have := Z4.out; have := ZU.out; have := Z5.out; omega
  have Nm : Hid (Sm m3 _ (.slice ya0 e0 yk0) (.slice ya1 e1 yk1) (.slice ya2 e2 yk2) (.slice ya3 e3 yk3) (.slice ya4 e4 yk4) (.slice ya5 e5 yk5) G P Z) := sm_mqF N7.out K1.out fun k e f => by have := L3.out k e; have := Z3.out; omega
  have Om : Hid (Sm m3 u4.heap.size (.slice za0 e0 zk0) (.slice za1 e1 zk1) (.slice za2 e2 zk2) (.slice za3 e3 zk3) (.slice za4 e4 zk4) (.slice za5 e5 zk5) G P Z) := sm_mqF O7.out K1.out fun k e f => by have := (L5.out k e).1; have := Z4.out; have := ZU.out; omega
  have NXm : Hid (Nums m3 W4.heap.size (.slice (some ⟨g4, 0, none⟩) yn yn) ys) := K1.out.nums NX7.out fun k e f => by
    have e' : g4 = k := by simpa [Value.ownBlock] using e
    have := RX.out.1; have := Z4.out; have := ZU.out; omega
  clear K1 Y7 G7 N7 O7 X7 B9 NX7
  go_wp2_with fail
  refine (mark_nums _ T3 ys _ _ NXm.out hp3 (by have := hq3; have := SYN.out; have := YL.out; omega)).mono ?_
  rintro e m4 ⟨rfl, _, gr⟩
  have MX : Hid (Mq (fun k => k = g4) m3 m4) := Mq.of gr fun k e => by simpa [Value.ownBlock] using e
  have Bm : Hid (Below _ W m4) := Mq.below Bm.out MX.out fun k e => by have := RX.out.1; have := Z3.out; have := Z4.out; have := ZU.out; omega
  have Ym : Hid (Vb m4 s3 _ _) := MX.out.vb Ym.out fun e => by have := RX.out.1; have := Z3.out; have := Z4.out; have := ZU.out; omega
  have Gm : Hid (Vb m4 s5 _ _) := MX.out.vb Gm.out fun e => by have := RX.out.2; have := Z5.out; omega
  have Nm : Hid (Sm m4 _ (.slice ya0 e0 yk0) (.slice ya1 e1 yk1) (.slice ya2 e2 yk2) (.slice ya3 e3 yk3) (.slice ya4 e4 yk4) (.slice ya5 e5 yk5) G P Z) := sm_mqF Nm.out MX.out fun k e f => by have := L3.out k e; have := RX.out.1; have := Z3.out; have := Z4.out; have := ZU.out; omega
  have Om : Hid (Sm m4 u4.heap.size (.slice za0 e0 zk0) (.slice za1 e1 zk1) (.slice za2 e2 zk2) (.slice za3 e3 zk3) (.slice za4 e4 zk4) (.slice za5 e5 zk5) G P Z) := sm_mqF Om.out MX.out fun k e f => by have := (L5.out k e).1; have := RX.out.2; omega
  have hp4 : 0 ≤ T3 + (ys.length : Int) := by omega
  generalize T3 + (ys.length : Int) = T4 at *
  clear gr MX NXm
  have y0 := Ym.out.cell 0 rfl
  have y1 := Ym.out.cell 1 rfl
  have y2 := Ym.out.cell 2 rfl
  have y3 := Ym.out.cell 3 rfl
  have y4 := Ym.out.cell 4 rfl
  have y5 := Ym.out.cell 5 rfl
  have y6 := Ym.out.cell 6 rfl
  have y7 := Ym.out.cell 7 rfl
  have y8 := Ym.out.cell 8 rfl
  have y9 := Ym.out.cell 9 rfl
  have y10 := Ym.out.cell 10 rfl
  have y11 := Ym.out.cell 11 rfl
  have g0 := Gm.out.cell 0 rfl
  have g1 := Gm.out.cell 1 rfl
  have g2 := Gm.out.cell 2 rfl
  have g3 := Gm.out.cell 3 rfl
  have g4 := Gm.out.cell 4 rfl
  have g5 := Gm.out.cell 5 rfl
  have g6 := Gm.out.cell 6 rfl
  have g7 := Gm.out.cell 7 rfl
  have g8 := Gm.out.cell 8 rfl
  have g9 := Gm.out.cell 9 rfl
  have g10 := Gm.out.cell 10 rfl
  have g11 := Gm.out.cell 11 rfl
  go_wp2_with fail
  clear y0 y1 y2 y3 y4 y5 y6 y7 y8 y9 y10 y11 g0 g1 g2 g3 g4 g5 g6 g7 g8 g9 g10 g11
  refine (eq_sres _ _ _ _ _ _ _ _ _ _ _ _ _ G P Z _ _ _ Om.out.sr Nm.out.sr).mono ?_
  rintro e t1 ⟨rfl, b7⟩
  have Bt1 : Hid (Below _ W t1) := on Bm.out b7
  have Yt1 : Hid (Vb t1 s3 #[.int .i64 C, .slice ya0 e0 yk0, .int .i64 G.pc, .slice ya1 e1 yk1, .bool G.halted, .bool G.waiting, .bool G.rung, .int .i64 G.done, .slice ya2 e2 yk2, .slice ya3 e3 yk3, .slice ya4 e4 yk4, .slice ya5 e5 yk5] 43) := Ym.out.keep b7
  have Gt1 : Hid (Vb t1 s5 #[.int .i64 C, .slice za0 e0 zk0, .int .i64 G.pc, .slice za1 e1 zk1, .bool G.halted, .bool G.waiting, .bool G.rung, .int .i64 G.done, .slice za2 e2 zk2, .slice za3 e3 zk3, .slice za4 e4 zk4, .slice za5 e5 zk5] 43) := Gm.out.keep b7
  have Nt1 : Hid (Sm t1 _ (.slice ya0 e0 yk0) (.slice ya1 e1 yk1) (.slice ya2 e2 yk2) (.slice ya3 e3 yk3) (.slice ya4 e4 yk4) (.slice ya5 e5 yk5) G P Z) := Nm.out.keep b7
  have Ot1 : Hid (Sm t1 u4.heap.size (.slice za0 e0 zk0) (.slice za1 e1 zk1) (.slice za2 e2 zk2) (.slice za3 e3 zk3) (.slice za4 e4 zk4) (.slice za5 e5 zk5) G P Z) := Om.out.keep b7
  clear b7 Ym Gm Nm Om Bm hq3
  have g0 := Gt1.out.cell 0 rfl
  have g1 := Gt1.out.cell 1 rfl
  have g2 := Gt1.out.cell 2 rfl
  have g3 := Gt1.out.cell 3 rfl
  have g4 := Gt1.out.cell 4 rfl
  have g5 := Gt1.out.cell 5 rfl
  have g6 := Gt1.out.cell 6 rfl
  have g7 := Gt1.out.cell 7 rfl
  have g8 := Gt1.out.cell 8 rfl
  have g9 := Gt1.out.cell 9 rfl
  have g10 := Gt1.out.cell 10 rfl
  have g11 := Gt1.out.cell 11 rfl
  go_wp2_with fail
  clear g0 g1 g2 g3 g4 g5 g6 g7 g8 g9 g10 g11
  refine (mark_sres _ _ _ _ _ _ _ G P Z 1 _ _ Ot1.out (by decide) (by have := SY.out; omega)).mono ?_
  rintro e t2 ⟨rfl, n7, g7⟩
  have TG : Hid ((1 : Int) + (totS G P Z : Nat) = 1 + (totH G : Nat) + (2 * P.length : Nat) + (Z.length : Nat)) := by show _ = _; unfold totS; omega
  have mk2 : Mq (fun k => u4.heap.size ≤ k ∧ k < s5) t1 t2 := mq_wid g7 fun k e => L5.out k e
  have Bt2 : Hid (Below _ W t2) := Mq.below Bt1.out mk2 fun k e => by have := Z3.out; have := Z4.out; have := ZU.out; omega
  have Yt2 : Hid (Vb t2 s3 #[.int .i64 C, .slice ya0 e0 yk0, .int .i64 G.pc, .slice ya1 e1 yk1, .bool G.halted, .bool G.waiting, .bool G.rung, .int .i64 G.done, .slice ya2 e2 yk2, .slice ya3 e3 yk3, .slice ya4 e4 yk4, .slice ya5 e5 yk5] 43) := mk2.vb Yt1.out fun e => by have := Z3.out; have := Z4.out; have := ZU.out; omega
  have Gt2 : Hid (Vb t2 s5 #[.int .i64 C, .slice za0 e0 zk0, .int .i64 G.pc, .slice za1 e1 zk1, .bool G.halted, .bool G.waiting, .bool G.rung, .int .i64 G.done, .slice za2 e2 zk2, .slice za3 e3 zk3, .slice za4 e4 zk4, .slice za5 e5 zk5] 43) := mk2.vb Gt1.out fun e => by omega
  have Nt2 : Hid (Sm t2 _ (.slice ya0 e0 yk0) (.slice ya1 e1 yk1) (.slice ya2 e2 yk2) (.slice ya3 e3 yk3) (.slice ya4 e4 yk4) (.slice ya5 e5 yk5) G P Z) := sm_mqF Nt1.out mk2 fun k e f => by have := L3.out k e; have := Z3.out; have := Z4.out; have := ZU.out; omega
  have Ot2 : Hid (Sm t2 u4.heap.size (.slice za0 e0 zk0) (.slice za1 e1 zk1) (.slice za2 e2 zk2) (.slice za3 e3 zk3) (.slice za4 e4 zk4) (.slice za5 e5 zk5) (mkH 1 G) (pmarks (1 + totH G) P.length) (marks (1 + totH G + (2 * P.length : Nat)) Z.length)) := n7
  clear n7 g7 mk2 Bt1 Yt1 Gt1 Nt1 Ot1
  have TL : Hid (1 + (totH G : Int) + (2 * P.length : Nat) + (Z.length : Nat) ≤ 4611686018427387904) := by have := SY.out; have := TG.out; show _ ≤ _; omega
  rw [TG.out]
  have tp : 0 ≤ 1 + (totH G : Int) + (2 * P.length : Nat) + (Z.length : Nat) := by omega
  obtain ⟨TT, hTT⟩ : ∃ t, 1 + (totH G : Int) + (2 * P.length : Nat) + (Z.length : Nat) = t := ⟨_, rfl⟩
  have HTT : Hid (1 + (totH G : Int) + (2 * P.length : Nat) + (Z.length : Nat) = TT) := hTT
  rw [hTT] at tp ⊢
  clear hTT
  have g0 := Gt2.out.cell 0 rfl
  have g1 := Gt2.out.cell 1 rfl
  have g2 := Gt2.out.cell 2 rfl
  have g3 := Gt2.out.cell 3 rfl
  have g4 := Gt2.out.cell 4 rfl
  have g5 := Gt2.out.cell 5 rfl
  have g6 := Gt2.out.cell 6 rfl
  have g7 := Gt2.out.cell 7 rfl
  have g8 := Gt2.out.cell 8 rfl
  have g9 := Gt2.out.cell 9 rfl
  have g10 := Gt2.out.cell 10 rfl
  have g11 := Gt2.out.cell 11 rfl
  go_wp2_with fail
  clear g0 g1 g2 g3 g4 g5 g6 g7 g8 g9 g10 g11
  refine (held_sres _ _ _ _ _ _ _ G P.length Z.length 1 _ _ Ot2.out.h Ot2.out.pl Ot2.out.mm (by decide) TL.out).mono ?_
  rintro e t3 ⟨rfl, b7⟩
  rw [HTT.out]
  have Bt3 : Hid (Below _ W t3) := on Bt2.out b7
  have Yt3 : Hid (Vb t3 s3 #[.int .i64 C, .slice ya0 e0 yk0, .int .i64 G.pc, .slice ya1 e1 yk1, .bool G.halted, .bool G.waiting, .bool G.rung, .int .i64 G.done, .slice ya2 e2 yk2, .slice ya3 e3 yk3, .slice ya4 e4 yk4, .slice ya5 e5 yk5] 43) := Yt2.out.keep b7
  have Gt3 : Hid (Vb t3 s5 #[.int .i64 C, .slice za0 e0 zk0, .int .i64 G.pc, .slice za1 e1 zk1, .bool G.halted, .bool G.waiting, .bool G.rung, .int .i64 G.done, .slice za2 e2 zk2, .slice za3 e3 zk3, .slice za4 e4 zk4, .slice za5 e5 zk5] 43) := Gt2.out.keep b7
  have Nt3 : Hid (Sm t3 _ (.slice ya0 e0 yk0) (.slice ya1 e1 yk1) (.slice ya2 e2 yk2) (.slice ya3 e3 yk3) (.slice ya4 e4 yk4) (.slice ya5 e5 yk5) G P Z) := Nt2.out.keep b7
  have Ot3 : Hid (Sm t3 u4.heap.size (.slice za0 e0 zk0) (.slice za1 e1 zk1) (.slice za2 e2 zk2) (.slice za3 e3 zk3) (.slice za4 e4 zk4) (.slice za5 e5 zk5) (mkH 1 G) (pmarks (1 + totH G) P.length) (marks (1 + totH G + (2 * P.length : Nat)) Z.length)) := Ot2.out.keep b7
  clear b7 Bt2 Yt2 Gt2 Nt2 Ot2
  have Q3 := Q.out.keep Bt3.out
  have q0 := Q3.cell 0 rfl
  have q1 := Q3.cell 1 rfl
  have q2 := Q3.cell 2 rfl
  have q3 := Q3.cell 3 rfl
  have q4 := Q3.cell 4 rfl
  have q5 := Q3.cell 5 rfl
  have q6 := Q3.cell 6 rfl
  have q7 := Q3.cell 7 rfl
  have q8 := Q3.cell 8 rfl
  have q9 := Q3.cell 9 rfl
  have q10 := Q3.cell 10 rfl
  clear Q3
  go_wp2_with fail
  clear q0 q1 q2 q3 q4 q5 q6 q7 q8 q9 q10
  refine (to_solo _ _ _ _ _ _ _ _ _ _ _ _ H _ _ _ ps _ _ _ zs _ (HP.out.1.stay Bt3.out) (HP.out.2.1.stay Bt3.out) (HP.out.2.2.stay Bt3.out) SM.out.1 SM.out.2.1 SM.out.2.2).mono ?_
  rintro e t4 ⟨r9, d9, i9, o9, l9, m9, rfl, s9, b9⟩
  have M9 : Hid (Sm t4 _ r9 d9 i9 o9 l9 m9 H ps zs) := s9
  have D10 : Hid (Below t3.heap.size t3 t4) := b9
  clear s9 b9
  go_wp2_with fail
  refine (to_nums _ _ _ _ _ (HY.out.stay (on Bt3.out D10.out)) SYN.out).mono ?_
  rintro e t5 ⟨g9, rfl, n9', c9'⟩
  have N9 : Hid (Nums t5 _ (.slice (some ⟨g9, 0, none⟩) yn yn) ys) := n9'
  have M9 : Hid (Sm t5 _ r9 d9 i9 o9 l9 m9 H ps zs) := M9.out.keep c9'
  have D10 : Hid (Below t3.heap.size t3 t5) := on D10.out c9'
  clear n9' c9'
  go_wp2_with fail
  have CALL := i_feedSolo _ _ _ _ _ _ H ps zs pg _ _ _ ys _ _ M9.out PL.out N9.out.rn
  rw [HCZ.out.1, HCZ.out.2.1, HCZ.out.2.2.1, HCZ.out.2.2.2] at CALL
  refine CALL.mono ?_
  clear CALL M9
  rintro e t6 ⟨_, _, _, _, _, _, rfl, sm, b10⟩
  obtain ⟨ta0, tk0, f0, _⟩ := sm.h.r.shape
  obtain ⟨ta1, tk1, f1, _⟩ := sm.h.c.shape
  obtain ⟨ta2, tk2, f2, _⟩ := sm.h.i.shape
  obtain ⟨ta3, tk3, f3, _⟩ := sm.h.o.shape
  obtain ⟨ta4, tk4, f4, _⟩ := sm.pl.shape
  obtain ⟨ta5, tk5, f5, _⟩ := sm.mm.shape
  subst f0 f1 f2 f3 f4 f5
  rw [LY.out.1, LY.out.2.1, LY.out.2.2.1, LY.out.2.2.2.1, LY.out.2.2.2.2.1, LY.out.2.2.2.2.2] at sm ⊢
  have WN : Hid (Below t6.heap.size t6 (t6.alloc (.cells #[.int .i64 C, .slice ta0 e0 tk0, .int .i64 G.pc, .slice ta1 e1 tk1, .bool G.halted, .bool G.waiting, .bool G.rung, .int .i64 G.done, .slice ta2 e2 tk2, .slice ta3 e3 tk3, .slice ta4 e4 tk4, .slice ta5 e5 tk5] 43))) := al (Below.refl _ _) _
  have H6 : Hid (Sm (t6.alloc (.cells #[.int .i64 C, .slice ta0 e0 tk0, .int .i64 G.pc, .slice ta1 e1 tk1, .bool G.halted, .bool G.waiting, .bool G.rung, .int .i64 G.done, .slice ta2 e2 tk2, .slice ta3 e3 tk3, .slice ta4 e4 tk4, .slice ta5 e5 tk5] 43)) _ (.slice ta0 e0 tk0) (.slice ta1 e1 tk1) (.slice ta2 e2 tk2) (.slice ta3 e3 tk3) (.slice ta4 e4 tk4) (.slice ta5 e5 tk5) G P Z) := sm.keep WN.out
  have bb : Below t3.heap.size t3 t6 := on D10.out b10
  have Bt6 : Hid (Below _ W t6) := on Bt3.out bb
  have Gt6 : Hid (Vb t6 s5 #[.int .i64 C, .slice za0 e0 zk0, .int .i64 G.pc, .slice za1 e1 zk1, .bool G.halted, .bool G.waiting, .bool G.rung, .int .i64 G.done, .slice za2 e2 zk2, .slice za3 e3 zk3, .slice za4 e4 zk4, .slice za5 e5 zk5] 43) := Gt3.out.keep bb
  have Nt6 : Hid (Sm t6 _ (.slice ya0 e0 yk0) (.slice ya1 e1 yk1) (.slice ya2 e2 yk2) (.slice ya3 e3 yk3) (.slice ya4 e4 yk4) (.slice ya5 e5 yk5) G P Z) := Nt3.out.keep bb
  have Ot6 : Hid (Sm t6 u4.heap.size (.slice za0 e0 zk0) (.slice za1 e1 zk1) (.slice za2 e2 zk2) (.slice za3 e3 zk3) (.slice za4 e4 zk4) (.slice za5 e5 zk5) (mkH 1 G) (pmarks (1 + totH G) P.length) (marks (1 + totH G + (2 * P.length : Nat)) Z.length)) := Ot3.out.keep bb
  have Yt := Yt3.out.keep bb
  have l6 : s3 < t6.heap.size := Yt.lt
  have y0 := Yt.cell 0 rfl
  have y1 := Yt.cell 1 rfl
  have y2 := Yt.cell 2 rfl
  have y3 := Yt.cell 3 rfl
  have y4 := Yt.cell 4 rfl
  have y5 := Yt.cell 5 rfl
  have y6 := Yt.cell 6 rfl
  have y7 := Yt.cell 7 rfl
  have y8 := Yt.cell 8 rfl
  have y9 := Yt.cell 9 rfl
  have y10 := Yt.cell 10 rfl
  have y11 := Yt.cell 11 rfl
  clear sm b10 bb Yt Yt3 Gt3 Nt3 Ot3 D10 Bt3
  go_wp2_with fail
  clear y0 y1 y2 y3 y4 y5 y6 y7 y8 y9 y10 y11 l6
  refine (eq_sres _ _ _ _ _ _ _ _ _ _ _ _ _ G P Z _ _ _ H6.out.sr (Nt6.out.keep WN.out).sr).mono ?_
  rintro e t7 ⟨rfl, b8⟩
  have b7 := on WN.out b8
  have Bt7 : Hid (Below _ W t7) := on Bt6.out b7
  have Gt7 : Hid (Vb t7 s5 #[.int .i64 C, .slice za0 e0 zk0, .int .i64 G.pc, .slice za1 e1 zk1, .bool G.halted, .bool G.waiting, .bool G.rung, .int .i64 G.done, .slice za2 e2 zk2, .slice za3 e3 zk3, .slice za4 e4 zk4, .slice za5 e5 zk5] 43) := Gt6.out.keep b7
  have Ot7 : Hid (Sm t7 u4.heap.size (.slice za0 e0 zk0) (.slice za1 e1 zk1) (.slice za2 e2 zk2) (.slice za3 e3 zk3) (.slice za4 e4 zk4) (.slice za5 e5 zk5) (mkH 1 G) (pmarks (1 + totH G) P.length) (marks (1 + totH G + (2 * P.length : Nat)) Z.length)) := Ot6.out.keep b7
  clear b7 b8
  have g0 := Gt7.out.cell 0 rfl
  have g1 := Gt7.out.cell 1 rfl
  have g2 := Gt7.out.cell 2 rfl
  have g3 := Gt7.out.cell 3 rfl
  have g4 := Gt7.out.cell 4 rfl
  have g5 := Gt7.out.cell 5 rfl
  have g6 := Gt7.out.cell 6 rfl
  have g7 := Gt7.out.cell 7 rfl
  have g8 := Gt7.out.cell 8 rfl
  have g9 := Gt7.out.cell 9 rfl
  have g10 := Gt7.out.cell 10 rfl
  have g11 := Gt7.out.cell 11 rfl
  go_wp2_with fail
  clear g0 g1 g2 g3 g4 g5 g6 g7 g8 g9 g10 g11
  refine (held_sres _ _ _ _ _ _ _ G P.length Z.length 1 _ _ Ot7.out.h Ot7.out.pl Ot7.out.mm (by decide) TL.out).mono ?_
  rintro e t8 ⟨rfl, b8⟩
  rw [HTT.out]
  go_wp2_with fail
  go_ret
  exact ⟨rfl, on B0.out (on Bt7.out b8)⟩

set_option maxRecDepth 100000 in
theorem lifted (os : Go.Os) (started : os.Started) (H : Type) (enc : TypeId × Value → H) :
    ReturnsInHanded {} Try.checked os 4 .any (Rows.fnExactFeedSoloSpec.pre6 enc Try.prog Try.f4 Rows.fnExactFeedSoloRow.domain false) (Rows.fnExactFeedSoloSpec.post enc Try.prog Try.f4 false true false false) := by
  refine returnsInHanded_of_change (C := Try.checked) own started (by kernel_rfl) Try.func4
    (ChangeSpec.witness6 (enc := enc) (C := Try.checked) false ⟨#[], #[.agg #[.slice none 0 0, .int .i64 0, .slice none 0 0, .bool false, .bool false, .bool false, .int .i64 0, .slice none 0 0, .slice none 0 0, .slice none 0 0, .slice none 0 0], .int .i64 0, .slice none 0 0], []⟩ 8 (by kernel_rfl) (by kernel_rfl) (by kernel_rfl) (by kernel_rfl)) ?_
  intro W base args ds gs before hval0 hW hcnd _
  have hval : ∀ (j : Nat) t v, Try.f4.params[j]? = some t → args[j]? = some v → Value.okWide Try.prog W .any base t v := hval0
  have hW' := hW
  obtain ⟨p, q, hA0, hV, rfl, hfz, hnd⟩ := hW
  have hA : DataW.TrodAll enc Try.prog W 0 (fun _ => true) true Try.f4.params.toList args.toList ds p := hA0
  rw [Try.params4] at hA hval
  obtain ⟨v0, vs0, d0, ds0, p0, q0, hargs, rfl, rfl, h0, r0⟩ := trodAll_cons hA
  obtain ⟨v1, vs1, d1, ds1, p1, q1, rfl, rfl, rfl, h1, r1⟩ := trodAll_cons r0
  obtain ⟨v2, vs2, d2, ds2, p2, q2, rfl, rfl, rfl, h2, r2⟩ := trodAll_cons r1
  obtain ⟨rfl, rfl, rfl⟩ := trodAll_nil r2
  obtain rfl : args = #[v0, v1, v2] := by cases args; simp_all
  obtain ⟨rfl, rfl⟩ := trodVars_none hV
  have k0 := h0
  have lt0 : ∀ x ∈ p0, x.block < W.heap.size := by obtain ⟨m, hm⟩ := k0; exact DataW.trod_lt m _ _ _ hm
  obtain ⟨pa0, pa1, pa2, pa3, pn0, pk0, pn1, pk1, pn2, pk2, pn3, pk3, pH, pla, pln, plc, pps, pma, pmn, pmc, pzs, rfl, pin, pip, piz⟩ := solo_open Try.underlying27 (by kernel_rfl) rfl rfl rfl (by kernel_rfl) (by kernel_rfl) (by kernel_rfl) Try.underlying24 (by kernel_rfl) Try.underlying22 Try.underlying2 Try.underlying22 Try.underlying4 Try.underlying4 Try.underlying4 Try.underlying2 Try.underlying22 Try.underlying22 Try.underlying2 Try.underlying2 Try.underlying2 Try.underlying2 (by kernel_rfl) (by kernel_rfl) (by kernel_rfl) (by kernel_rfl) Try.underlying25 Try.underlying89 (by kernel_rfl) rfl rfl (by kernel_rfl) (by kernel_rfl) Try.underlying2 Try.underlying2 Try.underlying22 Try.underlying2 (by kernel_rfl) (hval 0 27 v0 rfl rfl) h0
  obtain ⟨a1, rfl, rfl, rfl, w1⟩ := open_int Try.underlying2 (hval 1 2 v1 rfl rfl) h1
  obtain ⟨a2, len2, cap2, rfl⟩ := okWide_slice Try.underlying22 (hval 2 22 v2 rfl rfl)
  have k2 := h2
  have lt2 : ∀ x ∈ p2, x.block < W.heap.size := by obtain ⟨m, hm⟩ := k2; exact DataW.trod_lt m _ _ _ hm
  obtain ⟨z2, w2⟩ : ∃ zs, IsRow .i64 W a2 len2 cap2 zs := by
    obtain ⟨fuel, hf⟩ := h2
    rcases open_ints Try.underlying22 Try.underlying2 (by kernel_rfl) hf with ⟨hcs, _⟩ | ⟨x, l, c, zs, hcs, _, hl, hm, hz, _, hcell, hwz⟩
    · simp [Value.cells] at hcs
      obtain ⟨rfl, rfl, rfl⟩ := hcs
      exact ⟨[], .inl ⟨rfl, rfl, rfl, rfl⟩⟩
    · simp [Value.cells] at hcs
      obtain ⟨rfl, rfl, rfl⟩ := hcs
      exact ⟨_, IsRow.of_all hl hm (by simpa using hz) hcell hwz⟩
  clear hA0 hval0
  refine (walk pa0 pa1 pa2 pa3 pn0 pk0 pn1 pk1 pn2 pk2 pn3 pk3 pH pla pln plc pps pma pmn pmc pzs a1 a2 len2 cap2 z2 W pin pip piz w1 w2).mono fun e W' ⟨he, bel⟩ => ?_
  subst he
  exact ⟨_, rfl, _, _, _, [], _, [], hW', trodAll_mk1 (shut_bool Try.underlying4 _), (trodAll_cons_mk (Below.trod laidOut (by kernel_rfl) (of_decide_eq_true (by kernel_rfl)) k0 bel lt0) (trodAll_cons_mk (shut_int Try.underlying2 w1) (trodAll_cons_mk (Below.trod laidOut (by kernel_rfl) (of_decide_eq_true (by kernel_rfl)) k2 bel lt2) trodAll_mk0))), rfl, bel.frame _, fun h => by cases h⟩

theorem over : Rows.fnExactFeedSoloRow.holds Try.pinned (OpenSpec.ofChange Rows.fnExactFeedSoloSpec) :=
  OpenClaim.holds_of_wide 4 Try.f4 rfl rfl rfl rfl rfl rfl rfl ⟨rfl, rfl, rfl, rfl, rfl⟩ rfl rfl rfl rfl rfl (by kernel_rfl) Try.func4 (by kernel_rfl)
    (of_decide_eq_true (by kernel_rfl)) (by unfold Func.isWrapper; first | (rw [if_pos (by decide +kernel)]; kernel_rfl) | (rw [if_neg (by decide +kernel)]; exact ⟨rfl, rfl⟩))
    (fun os started H enc _ => lifted os started H enc)

theorem proved : Rows.FnExactFeedSoloSaid := over
end Go.Proofs.Ytijajemalokgjaa.fnExactFeedSoloDone
