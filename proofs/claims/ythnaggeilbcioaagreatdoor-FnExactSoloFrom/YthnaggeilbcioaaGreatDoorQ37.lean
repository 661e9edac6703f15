/- Texts of this seat, joined. -/
import Derived.Test.YthnaggeilbcioaaGreatDoorQ15
import Derived.Test.YthnaggeilbcioaaGreatDoorQ32
import Derived.Test.YthnaggeilbcioaaGreatDoorQ36
namespace Go.Proofs.YthnaggeilbcioaaGreatDoor
open Go.RowKit
set_option linter.unusedVariables false

theorem pf_parts (P : Plc) (h : pfV P = 0) : P.own.length ≤ 3 ∧ guestsV P.own = 0 ∧ lanesV P.own [] P.lanes = 0 ∧ bellsV P.own.length [] P.bells = 0 ∧ P.lanes.length ≤ 4 ∧ P.bells.length ≤ 4 ∧ 1 ≤ P.own.length := by
  have h1 := (or_zero h).1
  have h2 := (or_zero (or_zero h).2).1
  have h3 := (or_zero (or_zero h).2).2
  have h4 := (or_zero h1).1
  have h5 := (or_zero h2).1
  have h6 := (or_zero h2).2
  have h7 := (or_zero h3).1
  unfold g1V at h4
  split at h4
  · cases h4
  · rename_i k1
    unfold g3V at h5
    split at h5
    · cases h5
    · rename_i k2
      exact ⟨by omega, h4, h6, h7, by omega, by omega, by omega⟩
theorem isG_iff (n : Nat) (g : Int) : isG n g = true ↔ (0 ≤ g ∧ g < n) := by
  unfold isG
  simp
  omega
/-- What one round leaves: the list of numbers that grew stands in the answer under way (block O), the answer's place (block R) is as it was. -/
structure GrewI (w : World) (R O : Nat) (z : Value) (L : List Int) (w' : World) : Prop where
  prs : Nums w' (O + 1) z L
  r0 : w'.cell? ⟨R, 0, none⟩ = some (.int .i64 0)
  r1 : w'.cell? ⟨R, 1, none⟩ = some (.slice none 0 0)
  f0 : w'.frozen? ⟨R, 0, none⟩ = false
  f1 : w'.frozen? ⟨R, 1, none⟩ = false
  o0 : w'.cell? ⟨O, 0, none⟩ = some (.int .i64 0)
  o1 : w'.cell? ⟨O, 1, none⟩ = some z
  g1 : w'.frozen? ⟨O, 1, none⟩ = false
  lt : R < O
  below : Below w.heap.size w w'
theorem frozen_grownI {w w' : World} {row : Option Nat} {p : Addr} (g : w.grownBy w' row) (hp : p.block < w.heap.size) (hne : some p.block ≠ row) : w'.frozen? p = w.frozen? p :=
  World.frozen?_of_block (w := w) (g.block p.block hp hne)
theorem GrewI.keep {w w1 w2 : World} {R O : Nat} {z : Value} {L : List Int} (h : GrewI w R O z L w1) (b : Below w1.heap.size w1 w2) : GrewI w R O z L w2 := by
  have s1 : O < w1.heap.size := block_of_cell h.o0
  have s0 : R < w1.heap.size := block_of_cell h.r0
  exact ⟨h.prs.keep b, cell_keep b h.r0, cell_keep b h.r1, by rw [b.frozen (p := ⟨R, 0, none⟩) s0]; exact h.f0, by rw [b.frozen (p := ⟨R, 1, none⟩) s0]; exact h.f1,
    cell_keep b h.o0, cell_keep b h.o1, by rw [b.frozen (p := ⟨O, 1, none⟩) s1]; exact h.g1, h.lt, on h.below b⟩
theorem GrewI.grown {w w1 w2 : World} {R O : Nat} {z z' : Value} {L : List Int} {r : Int} (h : GrewI w R O z L w1) (hp : Nums w2 (O + 1) z' (L ++ [r])) (g : w1.grownBy w2 z.ownBlock) (hS : w.heap.size ≤ R) :
    GrewI w R O z' (L ++ [r]) (w2.setCell ⟨O, 1, none⟩ z') ∧ w2.cell? ⟨O, 1, none⟩ = some z ∧ w2.frozen? ⟨O, 1, none⟩ = false := by
  have s1 : O < w1.heap.size := block_of_cell h.o0
  have s0 : R < w1.heap.size := block_of_cell h.r0
  have hlt := h.lt
  have n0 : some R ≠ z.ownBlock := own_not h.prs _ (.inl (by omega))
  have n1 : some O ≠ z.ownBlock := own_not h.prs _ (.inl (by omega))
  have r0 := cell_grown g h.r0 n0
  have r1 := cell_grown g h.r1 n0
  have o0 := cell_grown g h.o0 n1
  have o1 := cell_grown g h.o1 n1
  have f0 : w2.frozen? ⟨R, 0, none⟩ = false := by rw [frozen_grownI (p := ⟨R, 0, none⟩) g s0 n0]; exact h.f0
  have f1 : w2.frozen? ⟨R, 1, none⟩ = false := by rw [frozen_grownI (p := ⟨R, 1, none⟩) g s0 n0]; exact h.f1
  have g1 : w2.frozen? ⟨O, 1, none⟩ = false := by rw [frozen_grownI (p := ⟨O, 1, none⟩) g s1 n1]; exact h.g1
  have b2 : Below w.heap.size w w2 := h.below.grown g h.below.size (fun k hk => by have := (h.prs.lt k hk).1; omega)
  have ne : ∀ i, (⟨O, 1, none⟩ : Addr) ≠ ⟨R, i, none⟩ := fun i e => by have := congrArg Addr.block e; simp at this; omega
  refine ⟨⟨hp.put _ _ (fun e => own_not hp O (.inl (by omega)) e.symm), by rw [World.cell?_setCell_other _ _ _ _ (ne 0)]; exact r0, by rw [World.cell?_setCell_other _ _ _ _ (ne 1)]; exact r1, by rw [World.frozen?_setCell]; exact f0, by rw [World.frozen?_setCell]; exact f1, by rw [World.cell?_setCell_other _ _ _ _ (by intro e; cases e)]; exact o0, by rw [World.cell?_setCell_same _ _ _ o1], by rw [World.frozen?_setCell]; exact g1, hlt, b2.setCell (by show w.heap.size ≤ O; omega) _⟩, o1, g1⟩
/-- The answer's place (a code and a list), still empty. -/
def RsI (w : World) (s : Nat) : Prop := w.cell? ⟨s + 1, 0, none⟩ = some (.int .i64 0) ∧ w.cell? ⟨s + 1, 1, none⟩ = some (.slice none 0 0) ∧ w.frozen? ⟨s + 1, 0, none⟩ = false ∧ w.frozen? ⟨s + 1, 1, none⟩ = false ∧ s + 1 < w.heap.size
theorem RsI.keep {w w' : World} {s : Nat} (h : RsI w s) (b : Below w.heap.size w w') : RsI w' s :=
  ⟨cell_keep b h.1, cell_keep b h.2.1, by rw [b.frozen (p := ⟨s + 1, 0, none⟩) h.2.2.2.2]; exact h.2.2.1, by rw [b.frozen (p := ⟨s + 1, 1, none⟩) h.2.2.2.2]; exact h.2.2.2.1, Nat.lt_of_lt_of_le h.2.2.2.2 b.size⟩

end Go.Proofs.YthnaggeilbcioaaGreatDoor
namespace Go.Proofs.YthnaggeilbcioaaGreatDoor
open Go.RowKit
set_option linter.unusedVariables false

def tenL (qs : List (Int × Int)) (zs : List Int) (k : Nat) : List Value := [.int .i64 (qs.getD k (0, 0)).1, .int .i64 (qs.getD k (0, 0)).2, .int .i64 (zs.getD (k * 8) 0), .int .i64 (zs.getD (k * 8 + 1) 0), .int .i64 (zs.getD (k * 8 + 2) 0), .int .i64 (zs.getD (k * 8 + 3) 0), .int .i64 (zs.getD (k * 8 + 4) 0), .int .i64 (zs.getD (k * 8 + 5) 0), .int .i64 (zs.getD (k * 8 + 6) 0), .int .i64 (zs.getD (k * 8 + 7) 0)]
theorem tenL_len (qs : List (Int × Int)) (zs : List Int) (k : Nat) : (tenL qs zs k).length = 10 := rfl
def tensL (qs : List (Int × Int)) (zs : List Int) : Nat → List Value
  | 0 => []
  | n + 1 => tensL qs zs n ++ tenL qs zs n
theorem tensL_len (qs : List (Int × Int)) (zs : List Int) : ∀ n, (tensL qs zs n).length = n * 10
  | 0 => rfl
  | n + 1 => by rw [tensL, List.length_append, tensL_len qs zs n, tenL_len]; omega
def oplL (H : Ht) (i o : Value) (qs : List (Int × Int)) (zs : List Int) : List Value := (mca H i o).toList ++ tensL qs zs 8
theorem oplL_len (H : Ht) (i o : Value) (qs : List (Int × Int)) (zs : List Int) : (oplL H i o qs zs).length = 114 := by rw [oplL, List.length_append, tensL_len]; rfl
theorem tenL_one (qs : List (Int × Int)) (zs : List Int) (k : Nat) : (tenL qs zs k).toArray.all (·.oneCell') = true := by simp [tenL, Value.oneCell']
theorem oplL_one (H : Ht) (i o : Value) (qs : List (Int × Int)) (zs : List Int) (hi : i.oneCell' = true) (ho : o.oneCell' = true) : (oplL H i o qs zs).toArray.all (·.oneCell') = true := by
  have ht : ∀ n, (tensL qs zs n).all (·.oneCell') = true := by
    intro n
    induction n with
    | zero => rfl
    | succ n ih => rw [tensL, List.all_append, ih]; simp [tenL, Value.oneCell']
  have hm := mca_one H i o hi ho
  rw [← Array.all_toList] at hm
  rw [List.all_toArray, oplL, List.all_append, ht, Bool.and_true]
  exact hm
theorem range_app {w : World} {q o : Nat} {xs ys : List Value} (h : w.rangeAt q o xs) (k : w.rangeAt q (o + xs.length) ys) : w.rangeAt q o (xs ++ ys) := by
  intro j v hv
  by_cases hj : j < xs.length
  · rw [List.getElem?_append_left hj] at hv
    exact h j v hv
  · rw [List.getElem?_append_right (by omega)] at hv
    have := k (j - xs.length) v hv
    rw [show o + j = o + xs.length + (j - xs.length) by omega]
    exact this
theorem range_left {w : World} {q o : Nat} {xs ys : List Value} (h : w.rangeAt q o (xs ++ ys)) : w.rangeAt q o xs := fun j v hv => h j v (by rw [List.getElem?_append_left (List.getElem?_eq_some_iff.1 hv).1]; exact hv)
theorem range_nil (w : World) (q o : Nat) : w.rangeAt q o [] := fun j v hv => by simp at hv
theorem range_keep {w w' : World} {q o : Nat} {xs : List Value} (h : w.rangeAt q o xs) (b : Below w.heap.size w w') : w'.rangeAt q o xs := fun j v hv => cell_keep b (h j v hv)
/-- block q lies behind w: its 114 cells, the machine's first, then so many pages. -/
structure Ko (w : World) (q : Nat) (wr : World) (ma : List Value) (qs : List (Int × Int)) (zs : List Int) (k : Nat) : Prop where
  b : Below w.heap.size w wr
  hq : w.heap.size ≤ q ∧ q < wr.heap.size
  t : wr.there q 0 114
  m : wr.rangeAt q 0 ma
  p : wr.rangeAt q 34 (tensL qs zs k)
theorem there_part {w : World} {b n : Nat} (h : w.there b 0 n) (o m : Nat) (hm : o + m ≤ n) : w.there b o m := fun j hj => by have := h (o + j) (by omega); rw [Nat.zero_add] at this; exact this
theorem there_mq {S : Nat → Prop} {w w' : World} {b n : Nat} (h : w.there b 0 n) (hl : b < w.heap.size) (m : Mq S w w') (hn : ¬ S b) : w'.there b 0 n := by
  have e := m.block b hl hn
  intro j hj
  have := h j hj
  unfold World.cell? World.frozen? at this ⊢
  simp only [e]
  exact this
theorem Ko.step {w wr w' : World} {q k : Nat} {ma : List Value} {qs : List (Int × Int)} {zs : List Int} (h : Ko w q wr ma qs zs k) (b : Below wr.heap.size wr w') : Ko w q w' ma qs zs k :=
  ⟨on h.b b, ⟨h.hq.1, Nat.lt_of_lt_of_le h.hq.2 b.size⟩, there_below h.t h.hq.2 b, range_keep h.m b, range_keep h.p b⟩
theorem Ko.put {w wr : World} {q k : Nat} {ma : List Value} {qs : List (Int × Int)} {zs : List Int} (h : Ko w q wr ma qs zs k) (hm : ma.length = 34) (hk : k < 8) : Ko w q (wr.setCells q (34 + k * 10) (tenL qs zs k)) ma qs zs (k + 1) := by
  have hs : Mq (fun k => k = q) wr (wr.setCells q (34 + k * 10) (tenL qs zs k)) := mq_cells q _ wr _
  refine ⟨Mq.under h.b hs fun k e => by have := h.hq.1; omega, ⟨h.hq.1, Nat.lt_of_lt_of_le h.hq.2 hs.size⟩, World.there_setCells h.t _ _ _, World.rangeAt_setCells_apart h.m _ _ _ (.inr (.inl (by omega))), ?_⟩
  rw [tensL]
  refine range_app (World.rangeAt_setCells_apart h.p _ _ _ (.inr (.inl (by rw [tensL_len]; omega)))) ?_
  rw [tensL_len]
  exact World.rangeAt_setCells_same _ _ _ _ (there_part h.t _ _ (by rw [tenL_len]; omega))
theorem Ko.all {w wr : World} {q : Nat} {H : Ht} {i o : Value} {qs : List (Int × Int)} {zs : List Int} (h : Ko w q wr (mca H i o).toList qs zs 8) : wr.rangeAt q 0 (oplL H i o qs zs) :=
  range_app h.m (by have := h.p; rwa [show 0 + (mca H i o).toList.length = 34 from rfl])
theorem wpList_build {ops : Array Oper} {rest : List Oper} {op : Oper} {a : Act} {w : World} {Q : Exit → Act → World → Prop} (hgd : op.guard = none) (t : TypeId) (parts : Array (Nat × Operand)) (ho : op.op = .build t parts) (cells : Array Value) (hb : Tryz.prog.built t (parts.map fun (i, x) => (i, a.eval x)).toList = some cells)
    (h : wpList Tryz.prog ops Q rest (a.put op.dst (.agg cells)) w) : wpList Tryz.prog ops Q (op :: rest) a w :=
  wpList_plain hgd fun K hK => by
    unfold Oper.wp execOp
    simp only [ho, Sem.run_bind, run_build (P := Tryz.prog) w t _ cells hb, Sem.run_pure, Result.andThen_ok]
    exact hK _ _ h
theorem wpList_take {ops : Array Oper} {rest : List Oper} {op : Oper} {a : Act} {w : World} {Q : Exit → Act → World → Prop} (v : Value) (hy : YieldsIf Tryz.prog ops (fun w' => w' = w) op v a)
    (h : wpList Tryz.prog ops Q rest (a.put op.dst v) w) : wpList Tryz.prog ops Q (op :: rest) a w :=
  wpList_step fun K hK => by
    rcases hy with ⟨hw, hv⟩ | ⟨hw, rfl⟩
    · simp only [hw, if_true, Oper.wp, hv w rfl, Oper.upon]; exact hK _ _ h
    · simp only [hw, Bool.false_eq_true, if_false]; exact hK _ _ h
def pgL (ps : List (Int × Int)) : List Value := [.int .i64 (ps.getD 0 (0, 0)).1, .int .i64 (ps.getD 0 (0, 0)).2, .int .i64 (ps.getD 1 (0, 0)).1, .int .i64 (ps.getD 1 (0, 0)).2, .int .i64 (ps.getD 2 (0, 0)).1, .int .i64 (ps.getD 2 (0, 0)).2, .int .i64 (ps.getD 3 (0, 0)).1, .int .i64 (ps.getD 3 (0, 0)).2, .int .i64 (ps.getD 4 (0, 0)).1, .int .i64 (ps.getD 4 (0, 0)).2, .int .i64 (ps.getD 5 (0, 0)).1, .int .i64 (ps.getD 5 (0, 0)).2, .int .i64 (ps.getD 6 (0, 0)).1, .int .i64 (ps.getD 6 (0, 0)).2, .int .i64 (ps.getD 7 (0, 0)).1, .int .i64 (ps.getD 7 (0, 0)).2]
theorem idx_0 (ps : List (Int × Int)) (w : World) : (Instr.index 86 (.agg (pgL ps).toArray) (.int .i64 ((0 : Nat) : Int))).run Tryz.prog w = .ok (.agg #[.int .i64 (ps.getD 0 (0, 0)).1, .int .i64 (ps.getD 0 (0, 0)).2]) w := by kernel_rfl
theorem idx_1 (ps : List (Int × Int)) (w : World) : (Instr.index 86 (.agg (pgL ps).toArray) (.int .i64 ((1 : Nat) : Int))).run Tryz.prog w = .ok (.agg #[.int .i64 (ps.getD 1 (0, 0)).1, .int .i64 (ps.getD 1 (0, 0)).2]) w := by kernel_rfl
theorem idx_2 (ps : List (Int × Int)) (w : World) : (Instr.index 86 (.agg (pgL ps).toArray) (.int .i64 ((2 : Nat) : Int))).run Tryz.prog w = .ok (.agg #[.int .i64 (ps.getD 2 (0, 0)).1, .int .i64 (ps.getD 2 (0, 0)).2]) w := by kernel_rfl
theorem idx_3 (ps : List (Int × Int)) (w : World) : (Instr.index 86 (.agg (pgL ps).toArray) (.int .i64 ((3 : Nat) : Int))).run Tryz.prog w = .ok (.agg #[.int .i64 (ps.getD 3 (0, 0)).1, .int .i64 (ps.getD 3 (0, 0)).2]) w := by kernel_rfl
theorem idx_4 (ps : List (Int × Int)) (w : World) : (Instr.index 86 (.agg (pgL ps).toArray) (.int .i64 ((4 : Nat) : Int))).run Tryz.prog w = .ok (.agg #[.int .i64 (ps.getD 4 (0, 0)).1, .int .i64 (ps.getD 4 (0, 0)).2]) w := by kernel_rfl
theorem idx_5 (ps : List (Int × Int)) (w : World) : (Instr.index 86 (.agg (pgL ps).toArray) (.int .i64 ((5 : Nat) : Int))).run Tryz.prog w = .ok (.agg #[.int .i64 (ps.getD 5 (0, 0)).1, .int .i64 (ps.getD 5 (0, 0)).2]) w := by kernel_rfl
theorem idx_6 (ps : List (Int × Int)) (w : World) : (Instr.index 86 (.agg (pgL ps).toArray) (.int .i64 ((6 : Nat) : Int))).run Tryz.prog w = .ok (.agg #[.int .i64 (ps.getD 6 (0, 0)).1, .int .i64 (ps.getD 6 (0, 0)).2]) w := by kernel_rfl
theorem idx_7 (ps : List (Int × Int)) (w : World) : (Instr.index 86 (.agg (pgL ps).toArray) (.int .i64 ((7 : Nat) : Int))).run Tryz.prog w = .ok (.agg #[.int .i64 (ps.getD 7 (0, 0)).1, .int .i64 (ps.getD 7 (0, 0)).2]) w := by kernel_rfl
theorem pg_index (ps : List (Int × Int)) (k : Nat) (hk : k < 8) (w : World) : (Instr.index 86 (.agg (pgL ps).toArray) (.int .i64 (k : Int))).run Tryz.prog w = .ok (.agg #[.int .i64 (ps.getD k (0, 0)).1, .int .i64 (ps.getD k (0, 0)).2]) w := by
  match k, hk with
  | 0, _ => exact idx_0 ps w
  | 1, _ => exact idx_1 ps w
  | 2, _ => exact idx_2 ps w
  | 3, _ => exact idx_3 ps w
  | 4, _ => exact idx_4 ps w
  | 5, _ => exact idx_5 ps w
  | 6, _ => exact idx_6 ps w
  | 7, _ => exact idx_7 ps w
theorem mcp_head (H : Ht) (i o : Value) (ps : List (Int × Int)) : ((mcp H i o ps).extract 0 (0 + 34)).toList = (mca H i o).toList := by kernel_rfl
theorem mcp_tail (H : Ht) (i o : Value) (ps : List (Int × Int)) : ((mcp H i o ps).extract 34 (34 + 16)).toList = pgL ps := by kernel_rfl
theorem mcp_range {w : World} {s : Nat} {H : Ht} {i o : Value} {ps : List (Int × Int)} {t : TypeId} (h : Vb w s (mcp H i o ps) t) : w.rangeAt s 0 (mca H i o).toList ∧ w.rangeAt s 34 (pgL ps) := by
  refine ⟨?_, ?_⟩
  · rw [← mcp_head H i o ps]; exact World.rangeAt_of_block h 0 34
  · rw [← mcp_tail H i o ps]; exact World.rangeAt_of_block h 34 16
def own0 (H : Ht) (i o : Value) : Array Value := mca H i o ++ (List.replicate 80 (Value.int .i64 0)).toArray
theorem own0_size (H : Ht) (i o : Value) : (own0 H i o).size = 114 := by kernel_rfl
theorem own0_list (H : Ht) (i o : Value) : (own0 H i o).toList = (mca H i o).toList ++ List.replicate 80 (Value.int .i64 0) := by simp [own0]
theorem own0_one (H : Ht) (i o : Value) (hi : i.oneCell' = true) (ho : o.oneCell' = true) : (own0 H i o).all (·.oneCell') = true := by
  rw [own0, Array.all_append, mca_one H i o hi ho, Bool.true_and, List.all_toArray, List.all_replicate]
  rfl
end Go.Proofs.YthnaggeilbcioaaGreatDoor
