/- Texts of this seat, joined. -/
import Derived.Test.YtdmlejfopmimfaaGreatDoorQ29
namespace Go.Proofs.YtdmlejfopmimfaaGreatDoor
open Go.RowKit
set_option linter.unusedVariables false

abbrev Lbl := Wb × Nat
def labCells (ls : List Lbl) : List Value := ls.flatMap fun p => [.string (bq p.1), .int .i64 p.2]
theorem labCells_get : ∀ (ls : List Lbl) (i : Nat), i < ls.length → (labCells ls)[i * 2]? = some (.string (bq (ls.getD i ([], 0)).1)) ∧ (labCells ls)[i * 2 + 1]? = some (.int .i64 ((ls.getD i ([], 0)).2 : Nat))
  | [], i, h => absurd h (Nat.not_lt_zero _)
  | p :: r, 0, h => ⟨rfl, rfl⟩
  | p :: r, i + 1, h => by
    have ih := labCells_get r i (by simpa using h)
    have e : labCells (p :: r) = .string (bq p.1) :: .int .i64 p.2 :: labCells r := rfl
    rw [e, show (i + 1) * 2 = i * 2 + 1 + 1 by omega]
    simp only [List.getElem?_cons_succ]
    exact ih
theorem labCells_app (a b : List Lbl) : labCells (a ++ b) = labCells a ++ labCells b := by simp [labCells]
/-- A row of labels of the call's own. -/
def Lb (w : World) (base : Nat) (v : Value) (ls : List Lbl) : Prop := w.ownsRow base 90 2 v ls.length (labCells ls)
theorem Lb.keep {w w' : World} {base : Nat} {v : Value} {ls : List Lbl} (h : Lb w base v ls) (hb : Below w.heap.size w w') : Lb w' base v ls := owns_keepL h hb
theorem Lb.nil (w : World) (base : Nat) : Lb w base (.slice none 0 0) [] := World.ownsRow_nil w base _ _
theorem Lb.lt {w : World} {base : Nat} {v : Value} {ls : List Lbl} (h : Lb w base v ls) : ∀ k, v.ownBlock = some k → base ≤ k ∧ k < w.heap.size := World.ownsRow.lt h
theorem Lb.mono {w : World} {base base' : Nat} {v : Value} {ls : List Lbl} (h : Lb w base v ls) (hb : base' ≤ base) : Lb w base' v ls := owns_mono h hb
theorem Lb.shape {w : World} {base : Nat} {v : Value} {ls : List Lbl} (h : Lb w base v ls) : ∃ a cap, v = .slice a ls.length cap ∧ ls.length ≤ cap ∧ cap ≤ maxLen ∧ (0 < ls.length → ∃ g, a = some ⟨g, 0, none⟩) := by
  obtain ⟨h1, ⟨rfl, h3⟩ | ⟨g, cap, cur, rfl, hg, hr, h4, h5, h6⟩⟩ := h
  · have : ls.length = 0 := h3
    exact ⟨none, 0, by rw [this], by omega, by unfold maxLen; omega, fun h => by omega⟩
  · exact ⟨some ⟨g, 0, none⟩, cap, rfl, h4, h5, fun _ => ⟨g, rfl⟩⟩
theorem Lb.cell {w : World} {base g n cap : Nat} {ls : List Lbl} (h : Lb w base (.slice (some ⟨g, 0, none⟩) n cap) ls) (hn : n = ls.length) (i : Nat) (hi : i < n) :
    w.cell? ⟨g, i * 2, none⟩ = some (.string (bq (ls.getD i ([], 0)).1)) ∧ w.cell? ⟨g, i * 2 + 1, none⟩ = some (.int .i64 ((ls.getD i ([], 0)).2 : Nat)) := by
  subst hn
  rw [World.ownsRow.cellAt h (i * 2) (by omega), World.ownsRow.cellAt h (i * 2 + 1) (by omega)]
  exact labCells_get ls i hi
theorem grown_setL (w : World) (p : Addr) (u : Value) : w.grownBy (w.setCell p u) (some p.block) :=
  ⟨rfl, rfl, rfl, by simp [World.setCell], fun k hk hn => Below.heap_setCell w p u k (fun e => hn (by rw [e]))⟩
theorem Lb.put {w : World} {base : Nat} {v : Value} {ls : List Lbl} (h : Lb w base v ls) (p : Addr) (u : Value) (hne : v.ownBlock ≠ some p.block) : Lb (w.setCell p u) base v ls := World.ownsRow.kept h (grown_setL w p u) (.inr hne)
/-- The place of a label. -/
def findL : List Lbl → Wb → Option Nat
  | [], _ => none
  | p :: r, x => if p.1 = x then some p.2 else findL r x
def fndI : Option Nat → Int
  | some k => k
  | none => -1
theorem findL_at (ls : List Lbl) (x : Wb) (j : Nat) (h : j < ls.length) : findL (ls.drop j) x = if (ls.getD j ([], 0)).1 = x then some (ls.getD j ([], 0)).2 else findL (ls.drop (j + 1)) x := by
  rw [List.drop_eq_getElem_cons h, findL, List.getD, List.getElem?_eq_getElem h]
  rfl
set_option maxHeartbeats 2000000 in
theorem s_find (v : Value) (ls : List Lbl) (x : Wb) (b : Nat) (w : World) (h : Lb w b v ls) (hn : ls.length ≤ 1048576) :
    Calls Tryz.prog 55 #[v, .string (bq x)] w fun e w' => e = .returned (.int .i64 (fndI (findL ls x))) ∧ w' = w := by
  obtain ⟨a, cap, rfl, _, _, hg⟩ := h.shape
  obtain ⟨n, hnn⟩ : ∃ n, ls.length = n := ⟨_, rfl⟩
  rw [hnn] at h hg ⊢
  have HN : Hid (ls.length = n ∧ n ≤ 1048576) := ⟨hnn, by omega⟩
  have HB : Hid (Lb w b (.slice a n cap) ls) := h
  have hnI : (n : Int) ≤ 1048576 := by omega
  clear h hnn hn
  go_enter Tryz.func55, Tryz.ntmps55
  go_wp2_with fail
  go_loop [4, 5] (fun r i => ∃ j : Nat, j ≤ n ∧ i = .int .i64 j ∧ Hid (findL (ls.drop j) x = findL ls x)) (fun _ i => n - (intOf i).toNat)
  case atStart => exact ⟨0, Nat.zero_le _, rfl, rfl⟩
  case round =>
    obtain ⟨j, hj, rfl, hF⟩ := hrel
    by_cases hlt : j < n
    · obtain ⟨g, rfl⟩ := hg (by omega)
      have hJ : (j : Int) < (n : Int) := by omega
      have HL : Hid (j < n) := hlt
      obtain ⟨c1, c2⟩ := HB.out.cell HN.out.1.symm j hlt
      have FA : Hid (_ = _) := findL_at ls x j (by have := HN.out; omega)
      obtain ⟨y, k, hyk⟩ : ∃ y k, ls.getD j ([], 0) = (y, k) := ⟨_, _, rfl⟩
      rw [hyk] at c1 c2 FA
      have FA2 : Hid (findL (ls.drop j) x = if y = x then some k else findL (ls.drop (j + 1)) x) := FA.out
      clear hyk FA hj hg
      by_cases he : y = x
      · subst he
        have FE : Hid (findL ls y = some k) := by show _ = _; rw [← hF.out, FA2.out, if_pos rfl]
        go_wp2_with fail
        go_ret
        exact ⟨by rw [FE.out]; rfl, rfl⟩
      · have FE : Hid (findL (ls.drop (j + 1)) x = findL ls x) := by show _ = _; rw [← hF.out, FA2.out, if_neg he]
        have e1 : ((bq y).toList == (bq x).toList) = false := by rw [bq_toList, bq_toList]; simpa using he
        go_wp2_with fail
        go_round
        case rel => exact ⟨j + 1, by have := HL.out; omega, by go_num, FE⟩
        case measure => have := HL.out; simp [intOf]; omega
    · have hJ : ¬ (j : Int) < (n : Int) := by omega
      have FE : Hid (findL ls x = none) := by show _ = _; rw [← hF.out, List.drop_eq_nil_of_le (by have := HN.out; omega)]; rfl
      clear hg
      go_wp2_with fail
      go_ret
      exact ⟨by rw [FE.out]; rfl, rfl⟩
theorem info_label : (Tryz.prog.info? 90).map (fun i => (i.zero, i.size, i.bytes)) = some (some (.agg #[.string ⟨#[]⟩, .int .i64 0]), 2, 24) := by kernel_rfl
end Go.Proofs.YtdmlejfopmimfaaGreatDoor
