/- Texts of this seat, joined. -/
import Derived.Test.YtdmlejfopmimfaaGreatDoorQ03
namespace Go.Proofs.YtdmlejfopmimfaaGreatDoor
open Go.RowKit
set_option linter.unusedVariables false

abbrev Wb := List UInt8
def bq (l : Wb) : ByteArray := ⟨l.toArray⟩
theorem bq_size (l : Wb) : (bq l).size = l.length := by simp [bq, ByteArray.size]
theorem bq_of (s : ByteArray) : s = bq s.data.toList := rfl
/-- What a word under way adds to the words of its line. -/
def fin (ws : List Wb) (cur : Wb) : List Wb := if cur = [] then ws else ws ++ [cur]
/-- Lines of words, in one pass: what is left, the words of this line, the word under way. -/
def cutW : Wb → List Wb → Wb → List (List Wb)
  | [], ws, cur => [fin ws cur]
  | c :: r, ws, cur => if c = 10 then fin ws cur :: (if r = [] then [] else cutW r [] []) else if c = 32 then cutW r (fin ws cur) [] else cutW r ws (cur ++ [c])
def cutT (tx : Wb) : List (List Wb) := if tx = [] then [] else cutW tx [] []
/-- Pieces between separators. -/
def spl (sep : UInt8) : Wb → Wb → List Wb
  | [], cur => [cur]
  | c :: r, cur => if c = sep then cur :: spl sep r [] else spl sep r (cur ++ [c])
theorem spl_ne (sep : UInt8) (r cur : Wb) : spl sep r cur ≠ [] := by
  induction r generalizing cur with
  | nil => simp [spl]
  | cons c r ih => unfold spl; split <;> simp [ih]
def dropE (p : List Wb) : List Wb := if p.getLast? = some [] then p.dropLast else p
def linesM (tx : Wb) : List Wb := dropE (spl 10 tx [])
def neB (w : Wb) : Bool := !w.isEmpty
def wordsM (l : Wb) : List Wb := (spl 32 l []).filter neB
theorem fin_filter (ws : List Wb) (cur : Wb) : fin ws cur = ws ++ [cur].filter neB := by
  unfold fin neB
  cases cur <;> simp
theorem dropE_cons (x : Wb) (p : List Wb) (h : p ≠ []) : dropE (x :: p) = x :: dropE p := by
  unfold dropE
  obtain ⟨y, q, rfl⟩ := List.exists_cons_of_ne_nil h
  rw [List.getLast?_cons_cons]
  split <;> simp [List.dropLast]
theorem cutW_eq : ∀ (r pre : Wb) (ws : List Wb) (cur : Wb), (pre ≠ [] ∨ r ≠ []) → (∀ more, (spl 32 (pre ++ more) []).filter neB = ws ++ (spl 32 more cur).filter neB) →
    cutW r ws cur = (dropE (spl 10 r pre)).map wordsM := by
  intro r
  induction r with
  | nil =>
    intro pre ws cur h hs
    have hp : pre ≠ [] := by rcases h with h | h; exact h; exact absurd rfl h
    have h0 := hs []
    rw [List.append_nil] at h0
    have e : dropE [pre] = [pre] := by unfold dropE; rw [if_neg]; simpa using hp
    rw [cutW, spl, e, List.map_cons, List.map_nil, wordsM, h0, fin_filter]
    rfl
  | cons c r ih =>
    intro pre ws cur h hs
    rw [cutW, spl]
    by_cases h10 : c = 10
    · rw [if_pos h10, if_pos h10, dropE_cons _ _ (spl_ne _ _ _), List.map_cons]
      have h0 := hs []
      rw [List.append_nil] at h0
      congr 1
      · rw [wordsM, h0, fin_filter]; rfl
      · by_cases hr : r = []
        · subst hr; rfl
        · rw [if_neg hr]
          exact ih [] [] [] (.inr hr) (fun more => rfl)
    · rw [if_neg h10, if_neg h10]
      by_cases h32 : c = 32
      · subst h32
        rw [if_pos rfl]
        refine ih (pre ++ [32]) (fin ws cur) [] (.inl (by simp)) (fun more => ?_)
        have := hs (32 :: more)
        rw [List.append_assoc, List.singleton_append, this, spl, if_pos rfl, fin_filter, List.append_assoc, ← List.filter_append]
        rfl
      · rw [if_neg h32]
        refine ih (pre ++ [c]) ws (cur ++ [c]) (.inl (by simp)) (fun more => ?_)
        have := hs (c :: more)
        rw [List.append_assoc, List.singleton_append, this, spl, if_neg h32]
theorem cutT_eq (tx : Wb) : cutT tx = (linesM tx).map wordsM := by
  unfold cutT linesM
  by_cases h : tx = []
  · subst h; rfl
  · rw [if_neg h]
    exact cutW_eq tx [] [] [] (.inr h) (fun more => rfl)
theorem cutT_len (tx : Wb) : (cutT tx).length = (linesM tx).length := by rw [cutT_eq, List.length_map]
end Go.Proofs.YtdmlejfopmimfaaGreatDoor
