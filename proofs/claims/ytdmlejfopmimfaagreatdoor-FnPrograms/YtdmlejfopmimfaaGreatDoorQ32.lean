/- Texts of this seat, joined. -/
import Derived.Deep.RegionLaw
import Derived.BigQuiet
import Derived.Test.YtdmlejfopmimfaaGreatDoorQ30
namespace Go.Proofs.YtdmlejfopmimfaaGreatDoor
open Go.RowKit
set_option linter.unusedVariables false

/-- The labels of lines of words: the line's number, the words ahead, the labels so far; a code, its line, the labels. -/
def labR : List (List Wb) → Nat → Nat → List Lbl → Int × Nat × List Lbl
  | [], _, _, acc => (0, 0, acc)
  | ws :: r, k, p, acc =>
    if labB ws = true then
      if ws.length = 2 ∧ nameB (ws.getD 1 []) = true then
        if findL acc (ws.getD 1 []) = none then labR r (k + 1) p (acc ++ [(ws.getD 1 [], p)]) else (6, k, [])
      else (5, k, [])
    else labR r (k + 1) (if ws = [] then p else p + 1) acc
def labV (tx : Wb) : Int × Nat × List Lbl := if 1500 < tx.length ∨ 80 < (linesM tx).length then (2, 0, []) else labR (cutT tx) 0 0 []
theorem labR_at (W : List (List Wb)) (j k p : Nat) (acc : List Lbl) (h : j < W.length) : labR (W.drop j) k p acc =
    if labB (W.getD j []) = true then
      if (W.getD j []).length = 2 ∧ nameB ((W.getD j []).getD 1 []) = true then
        if findL acc ((W.getD j []).getD 1 []) = none then labR (W.drop (j + 1)) (k + 1) p (acc ++ [((W.getD j []).getD 1 [], p)]) else (6, k, [])
      else (5, k, [])
    else labR (W.drop (j + 1)) (k + 1) (if W.getD j [] = [] then p else p + 1) acc := by
  have e : W.getD j [] = W[j] := by simp [List.getD, List.getElem?_eq_getElem h]
  rw [e, List.drop_eq_getElem_cons h, labR]
theorem labR_len : ∀ (W : List (List Wb)) (k p : Nat) (acc : List Lbl), (labR W k p acc).2.2.length ≤ acc.length + W.length
  | [], k, p, acc => by simp [labR]
  | ws :: r, k, p, acc => by
    have h1 := labR_len r (k + 1) p (acc ++ [(ws.getD 1 [], p)])
    have h2 := labR_len r (k + 1) (if ws = [] then p else p + 1) acc
    rw [labR]
    split
    · split
      · split
        · simp at h1 ⊢; omega
        · simp
      · simp
    · simp at h2 ⊢; omega
theorem spl_mem (sep : UInt8) : ∀ (r cur x : Wb), x ∈ spl sep r cur → x.length ≤ r.length + cur.length
  | [], cur, x, h => by simp [spl] at h; subst h; simp
  | c :: r, cur, x, h => by
    unfold spl at h
    split at h
    · rcases List.mem_cons.1 h with rfl | h
      · simp
      · have := spl_mem sep r [] x h; simp at this ⊢; omega
    · have := spl_mem sep r (cur ++ [c]) x h; simp at this ⊢; omega
theorem lines_mem (tx x : Wb) (h : x ∈ linesM tx) : x.length ≤ tx.length := by
  unfold linesM dropE at h
  have : x ∈ spl 10 tx [] := by
    split at h
    · exact List.dropLast_subset _ h
    · exact h
  have := spl_mem 10 tx [] x this
  simpa using this
theorem words_mem (l x : Wb) (h : x ∈ wordsM l) : x.length ≤ l.length := by
  unfold wordsM at h
  have := spl_mem 32 l [] x (List.mem_filter.1 h).1
  simpa using this
theorem getD_memL {α : Type} (l : List α) (i : Nat) (d : α) (h : i < l.length) : l.getD i d ∈ l := by
  simp [List.getD, List.getElem?_eq_getElem h]
/-- A block of cells with its type. -/
def Vq (w : World) (q : Nat) (cs : Array Value) (t : TypeId) : Prop := w.heap[q]? = some (.cells cs t (0, 0))
theorem Vq.lt {w : World} {q : Nat} {cs : Array Value} {t : TypeId} (h : Vq w q cs t) : q < w.heap.size := by
  apply Classical.byContradiction
  intro hn
  unfold Vq at h
  rw [Array.getElem?_eq_none (by omega)] at h
  cases h
theorem Vq.cell {w : World} {q : Nat} {cs : Array Value} {t : TypeId} (h : Vq w q cs t) (i : Nat) {v : Value} (hi : cs[i]? = some v) : w.cell? ⟨q, i, none⟩ = some v := by
  unfold Vq at h
  simp [World.cell?, h, hi]
theorem Vq.free {w : World} {q : Nat} {cs : Array Value} {t : TypeId} (h : Vq w q cs t) (i : Nat) : w.frozen? ⟨q, i, none⟩ = false := by
  unfold Vq at h
  simp [World.frozen?, h]
theorem Vq.new (w : World) (cs : Array Value) (t : TypeId) : Vq (w.alloc (.cells cs t)) w.heap.size cs t := heap_alloc_new w _
theorem Vq.keep {w w' : World} {q : Nat} {cs : Array Value} {t : TypeId} (h : Vq w q cs t) (b : Below w.heap.size w w') : Vq w' q cs t := (b.block q h.lt).trans h
theorem Vq.gr {w w' : World} {q : Nat} {cs : Array Value} {t : TypeId} {row : Option Nat} (h : Vq w q cs t) (g : w.grownBy w' row) (hn : some q ≠ row) : Vq w' q cs t := (g.block q h.lt hn).trans h
theorem step_lab {ops : Array Oper} {o : Oper} {act : Act} {w : World} {K : Act → World → Prop} {Q : Exit → Act → World → Prop} {E : Prop}
    (hgd : o.guard = none) (s x : Operand)
    (ho : o.op = .call { callee := .builtin .append, args := #[s, x], argTypes := #[53, 53] }) (base : Nat) (v : Value) (ls : List Lbl) (hs : act.eval s = v) (hN : Lb w base v ls)
    (g : Nat) (t : Wb) (k : Nat) (hx : act.eval x = .slice (some ⟨g, 0, none⟩) 1 1) (h0 : w.cell? ⟨g, 0, none⟩ = some (.string (bq t))) (h1 : w.cell? ⟨g, 1, none⟩ = some (.int .i64 k))
    (hlen : ls.length ≤ 1000000) (hbase : base ≤ w.heap.size)
    (h : ∀ v' w', Hid (Lb w' base v' (ls ++ [(t, k)])) → w.grownBy w' v.ownBlock → K (act.put o.dst v') w') :
    if Region.wanted o (yielded ops act.tmps) = true then Oper.wp Tryz.prog o act w K Q else E := by
  have hw : Region.wanted o (yielded ops act.tmps) = true := by simp [Region.wanted, hgd]
  rw [if_pos hw]
  obtain ⟨i, hi, hz0, hz1, hz2⟩ := info_parts info_label
  refine wp_append_own w s x 53 ho base 90 i _ 2 24 Tryz.underlying53 hi hz0 hz1 hz2 rfl (by decide) v ls.length (labCells ls) hs hN ⟨g, 0, none⟩ 1 1 [.string (bq t), .int .i64 k] hx rfl ?_ ?_ (by unfold maxLen; omega) (by omega) hbase ?_
  · intro j u hj
    rw [add_plainL]
    match j, hj with
    | 0, hj => rw [h0]; exact hj
    | 1, hj => rw [h1]; exact hj
    | j + 2, hj => simp at hj
  · intro u hu
    simp at hu
    rcases hu with rfl | rfl <;> rfl
  · intro v' w' hown hgrow _
    refine h v' w' ?_ hgrow
    show Lb _ _ _ _
    unfold Lb
    rw [List.length_append, labCells_app]
    exact hown
end Go.Proofs.YtdmlejfopmimfaaGreatDoor
