/- Texts of this seat, joined. -/
import Derived.Deep.RegionLaw
import Derived.Test.YtgihkpjhdpipaaaGreatDoorQ04
import Derived.Test.YtgihkpjhdpipaaaGreatDoorQ07
import Derived.Test.YtgihkpjhdpipaaaGreatDoorQ11
import Derived.Test.YtgihkpjhdpipaaaGreatDoorQ14
namespace Go.Proofs.YtgihkpjhdpipaaaGreatDoor
open Go.RowKit
set_option linter.unusedVariables false

theorem getD_mem {α : Type} (zs : List α) (d : α) (k : Nat) (h : k < zs.length) : zs.getD k d ∈ zs := by
  rw [List.getD, List.getElem?_eq_getElem h]
  exact List.getElem_mem h
def wordsL (ms : List Int) : List Int → List Int
  | [] => []
  | p :: t => eight ms p.toNat ++ wordsL ms t
theorem wordsL_append (ms a b : List Int) : wordsL ms (a ++ b) = wordsL ms a ++ wordsL ms b := by
  induction a with
  | nil => rfl
  | cons p t ih => rw [List.cons_append, wordsL, wordsL, ih, List.append_assoc]
theorem wordsL_take (ms ps : List Int) (j : Nat) (h : j < ps.length) : wordsL ms (ps.take (j + 1)) = wordsL ms (ps.take j) ++ eight ms (ps.getD j 0).toNat := by
  rw [take_succ_getD ps 0 j h, wordsL_append, wordsL, wordsL, List.append_nil]
theorem eight_le (ms : List Int) (j : Nat) : (eight ms j).length ≤ 8 := by simp [eight]; omega
theorem wordsL_le (ms : List Int) : ∀ ps : List Int, (wordsL ms ps).length ≤ 8 * ps.length
  | [] => by simp [wordsL]
  | p :: t => by
    have := wordsL_le ms t
    have := eight_le ms p.toNat
    rw [wordsL, List.length_append, List.length_cons]
    omega
theorem Pags.nil (w : World) (base : Nat) : Pags w base (.slice none 0 0) 0 [] := World.ownsRow_nil w base _ _
theorem nums_empty (w : World) (base : Nat) (hb : base ≤ w.heap.size) : Nums (w.alloc (.cells #[] 2)) base (.slice (some ⟨w.heap.size, 0, none⟩) 0 0) [] :=
  World.ownsRow_lit w #[] 0 hb (by decide) rfl
theorem Pags.shape {w : World} {base n : Nat} {v : Value} {zs : List Int} (h : Pags w base v n zs) : ∃ a cap, v = .slice a n cap ∧ n ≤ cap ∧ cap ≤ maxLen ∧ (0 < n → ∃ g, a = some ⟨g, 0, none⟩) := by
  have h' := h
  obtain ⟨h1, ⟨rfl, h3⟩ | ⟨g, cap, cur, rfl, _, _, h4, h5, _⟩⟩ := h'
  · exact ⟨none, 0, by rw [h3], by omega, by unfold maxLen; omega, fun hz => by omega⟩
  · exact ⟨_, _, rfl, h4, h5, fun _ => ⟨g, rfl⟩⟩
theorem Pags.lt {w : World} {base n : Nat} {v : Value} {zs : List Int} (h : Pags w base v n zs) : ∀ k, v.ownBlock = some k → base ≤ k ∧ k < w.heap.size := World.ownsRow.lt h
theorem eight_list (zs : List Int) (p : Nat) (h : p * 8 + 8 ≤ zs.length) : eight zs p = [zs.getD (p * 8) 0, zs.getD (p * 8 + 1) 0, zs.getD (p * 8 + 2) 0, zs.getD (p * 8 + 3) 0, zs.getD (p * 8 + 4) 0, zs.getD (p * 8 + 5) 0, zs.getD (p * 8 + 6) 0, zs.getD (p * 8 + 7) 0] := by
  have h1 := take_eight zs (p * 8) h
  rw [List.take_add] at h1
  exact List.append_cancel_left h1
/-- append of one page to a slice of pages of the call's own. -/
theorem wp_pag {ops : Array Oper} {rest : List Oper} {o : Oper} {act : Act} {Q : Exit → Act → World → Prop} (w : World) (hgd : o.guard = none) (s x : Operand)
    (ho : o.op = .call { callee := .builtin .append, args := #[s, x], argTypes := #[146, 146] }) (base : Nat) (v : Value) (n : Nat) (zs : List Int) (hs : act.eval s = v) (hN : Pags w base v n zs)
    (B : Nat) (ys : List Int) (hy : ys.length = 8) (hx : act.eval x = .slice (some ⟨B, 0, none⟩) 1 1) (hc : ∀ i, i < 8 → w.cell? ⟨B, i, none⟩ = some (.int .i64 (ys.getD i 0)))
    (hlen : n ≤ 1000) (hbase : base ≤ w.heap.size)
    (h : ∀ v' w', Pags w' base v' (n + 1) (zs ++ ys) → w.grownBy w' v.ownBlock → wpList Tryz.prog ops Q rest (act.put o.dst v') w') : wpList Tryz.prog ops Q (o :: rest) act w := by
  obtain ⟨i, hi, hz0, hz1, hz2⟩ := info_parts info_wpage
  refine wpList_append_own w hgd s x 146 ho base 149 i _ 8 64 Tryz.underlying146 hi hz0 hz1 hz2 rfl (by decide) v n _ hs hN ⟨B, 0, none⟩ 1 1 (ys.map (Value.int .i64)) hx (by simpa using hy) ?_ ?_ (by unfold maxLen; omega) (by omega) hbase ?_
  · intro j u hj
    have hjl : j < ys.length := by have := (List.getElem?_eq_some_iff.1 hj).1; simpa using this
    rw [List.getElem?_map, List.getElem?_eq_getElem hjl] at hj
    have := hc j (by omega)
    rw [List.getD, List.getElem?_eq_getElem hjl] at this
    rw [show (⟨B, 0, none⟩ : Addr).add j = ⟨B, j, none⟩ by rw [Addr.add_lit]; simp, this]
    exact hj
  · intro u hu
    obtain ⟨z, _, rfl⟩ := List.mem_map.1 hu
    rfl
  · intro v' w' hown hgrow _
    refine h v' w' ?_ hgrow
    unfold Pags
    rw [List.map_append]
    exact hown
end Go.Proofs.YtgihkpjhdpipaaaGreatDoor
