/- Words of pages, as values. -/
import Derived.Test.YtpaedaigibippaaGreatDoorPfv
import Derived.Test.YtpaedaigibippaaGreatDoorCut
import Derived.Test.YtpaedaigibippaaGreatDoorIntr
namespace Go.Proofs.YtpaedaigibippaaGreatDoor
open Go.RowKit
set_option linter.unusedVariables false

def wholeB (ms : List Int) : Bool := decide (ms.length = 192) && decide (memV ms = 0)
def wordsL (ms : List Int) : List Int → List Int
  | [] => []
  | p :: t => eight ms p.toNat ++ wordsL ms t
theorem wordsL_append (ms a b : List Int) : wordsL ms (a ++ b) = wordsL ms a ++ wordsL ms b := by
  induction a with
  | nil => rfl
  | cons p t ih => rw [List.cons_append, wordsL, wordsL, ih, List.append_assoc]
theorem wordsL_take (ms ps : List Int) (j : Nat) (h : j < ps.length) : wordsL ms (ps.take (j + 1)) = wordsL ms (ps.take j) ++ eight ms (ps.getD j 0).toNat := by
  rw [take_succ_getD ps 0 j h, wordsL_append, wordsL, wordsL, List.append_nil]
theorem eight_le (ms : List Int) (j : Nat) : (eight ms j).length ≤ 8 := by simp [eight]; omega
theorem wordsL_le (ms : List Int) : ∀ ps : List Int, (wordsL ms ps).length ≤ 8 * ps.length
  | [] => by simp [wordsL]
  | p :: t => by
    have := wordsL_le ms t
    have := eight_le ms p.toNat
    rw [wordsL, List.length_append, List.length_cons]
    omega
theorem wordsL_len (ms : List Int) (hm : ms.length = 192) : ∀ ps : List Int, (∀ x ∈ ps, 0 ≤ x ∧ x ≤ 23) → (wordsL ms ps).length = ps.length * 8
  | [], _ => by simp [wordsL]
  | p :: t, h => by
    have h1 := wordsL_len ms hm t (fun x hx => h x (List.mem_cons_of_mem _ hx))
    have h2 := h p (by simp)
    rw [wordsL, List.length_append, h1, eight_length ms 24 p.toNat (by omega) (by omega), List.length_cons]
    omega
def wordsC (P : Plc) (ms : List Int) (g : Int) : Int := if askV P g = 0 then (if wholeB ms = true then 0 else 1) else askV P g
def wordsZ (P : Plc) (ms : List Int) (g : Int) : List Int := if wordsC P ms g = 0 then wordsL ms (P.own.getD g.toNat []) else []
theorem words_ask (P : Plc) (ms : List Int) (g : Int) (h : wordsC P ms g = 0) : askV P g = 0 ∧ wholeB ms = true := by
  unfold wordsC at h
  split at h
  · rename_i h1
    split at h
    · rename_i h2; exact ⟨h1, h2⟩
    · cases h
  · rename_i h1; exact absurd h h1
theorem words_len (P : Plc) (ms : List Int) (g : Int) : (wordsZ P ms g).length ≤ 40 := by
  unfold wordsZ
  split
  · rename_i h
    have ha := (words_ask P ms g h).1
    have := (pf_own P (ask_pf P g ha) g.toNat (by have := ask_guest P g ha; omega)).2.1
    have := wordsL_le ms (P.own.getD g.toNat [])
    omega
  · exact Nat.zero_le _
def lwordsC (P : Plc) (ms : List Int) (l : Int) : Int := if pfV P = 0 then (if 0 ≤ l ∧ l < P.lanes.length then (if wholeB ms = true then 0 else 1) else 4) else pfV P
def lwordsZ (P : Plc) (ms : List Int) (l : Int) : List Int := if lwordsC P ms l = 0 then wordsL ms [(P.lanes.getD l.toNat lz).pg] else []
theorem lwords_len (P : Plc) (ms : List Int) (l : Int) : (lwordsZ P ms l).length ≤ 8 := by
  unfold lwordsZ
  split
  · have := wordsL_le ms [(P.lanes.getD l.toNat lz).pg]
    simpa using this
  · exact Nat.zero_le _
theorem lane_pg (own : List (List Int)) : ∀ (ls ahead : List Ln), lanesV own ahead ls = 0 → ∀ l ∈ ls, 0 ≤ l.pg ∧ l.pg ≤ 23 := by
  intro ls
  induction ls with
  | nil => intro _ _ l hl; cases hl
  | cons a t ih =>
    intro ahead h l hl
    rw [lanesV] at h
    split at h
    · rename_i h1
      rcases List.mem_cons.1 hl with rfl | hl
      · rw [laneV] at h1
        split at h1
        · split at h1
          · cases h1
          · rename_i h2
            simp only [not_or, Bool.not_eq_false] at h2
            simpa [pgOk] using h2.1
        · rename_i h2
          exact absurd h1 h2
      · exact ih _ h l hl
    · rename_i h1
      exact absurd h h1
theorem pf_page (P : Plc) (h : pfV P = 0) (j : Nat) (hj : j < P.lanes.length) : 0 ≤ (P.lanes.getD j lz).pg ∧ (P.lanes.getD j lz).pg ≤ 23 :=
  lane_pg _ _ _ (pf_parts P h).2.2.1 _ (getD_mem P.lanes lz j hj)

theorem i_whole (v : Value) (ms : List Int) (b : Nat) (w : World) (h : Nums w b v ms) :
    Calls Tryz.prog 31 #[v, .int .i64 24] w fun e w' => e = .returned (.bool (wholeB ms)) ∧ w' = w := by
  obtain ⟨a, cap, rfl, l1, l2, hg⟩ := h.shape
  have HM : Hid (Nums w b _ ms) := h
  unfold wholeB
  have hl : (ms.length : Int) ≤ 9223372036854775807 := by unfold maxLen at l2; omega
  obtain ⟨n, hn⟩ : ∃ n, ms.length = n := ⟨_, rfl⟩
  rw [hn] at HM hl ⊢
  clear h l1 l2 hg
  by_cases h1 : n = 192
  · rw [decide_eq_true h1, Bool.true_and]
    have h1i : (n : Int) = 192 := by omega
    have HM2 : Hid (Nums w b (.slice a 192 cap) ms) := by rw [h1] at HM; exact HM
    subst h1
    clear hn h1i
    by_cases h2 : memV ms = 0
    · go_enter Tryz.func31, Tryz.ntmps31
      go_wp2_with (go_at_call 52; refine (impl_memFault _ ms b _ HM2.out).mono ?_; rintro e w ⟨rfl, rfl⟩; rw [h2])
      go_ret
      exact ⟨by first | rfl | simp [h2], rfl⟩
    · have h4 : decide (memV ms = 0) = false := decide_eq_false h2
      rw [h4]
      obtain ⟨mv, hmv⟩ : ∃ mv, memV ms = mv := ⟨_, rfl⟩
      rw [hmv] at h2
      have HMV : Hid (memV ms = mv) := hmv
      clear hmv h4
      have h5 : (mv == 0) = false := by simpa using h2
      go_enter Tryz.func31, Tryz.ntmps31
      go_wp2_with (go_at_call 52; refine (impl_memFault _ ms b _ HM2.out).mono ?_; rintro e w ⟨rfl, rfl⟩; rw [HMV.out])
      go_ret
      exact ⟨by first | rfl | simp [h5], rfl⟩
  · have h1i : ¬ (n : Int) = 192 := by omega
    rw [decide_eq_false h1, Bool.false_and]
    clear hn
    go_enter Tryz.func31, Tryz.ntmps31
    go_wp2_with fail
    go_ret
    exact ⟨by first | rfl | simp_all, rfl⟩
theorem l7_whole (v : Value) (ms : List Int) (b : Nat) (w : World) (h : Nums w b v ms) :
    Calls Tryz.prog 24 #[v] w fun e w' => e = .returned (.bool (wholeB ms)) ∧ w' = w := by
  obtain ⟨a, cap, rfl, l1, l2, hg⟩ := h.shape
  have HM : Hid (Nums w b _ ms) := h
  unfold wholeB
  have hl : (ms.length : Int) ≤ 9223372036854775807 := by unfold maxLen at l2; omega
  obtain ⟨n, hn⟩ : ∃ n, ms.length = n := ⟨_, rfl⟩
  rw [hn] at HM hl ⊢
  clear h l1 l2 hg
  by_cases h2 : memV ms = 0
  · rw [decide_eq_true h2, Bool.and_true]
    clear hn
    go_enter Tryz.func24, Tryz.ntmps24
    go_wp2_with (go_at_call 47; refine (spec_memFault _ ms b _ HM.out).mono ?_; rintro e w ⟨rfl, rfl⟩; rw [h2])
    go_ret
    exact ⟨congrArg (fun b => Ending.returned (.bool b)) (by apply Bool.eq_iff_iff.2; simp; omega), rfl⟩
  · have h4 : decide (memV ms = 0) = false := decide_eq_false h2
    rw [h4, Bool.and_false]
    obtain ⟨mv, hmv⟩ : ∃ mv, memV ms = mv := ⟨_, rfl⟩
    rw [hmv] at h2
    have HMV : Hid (memV ms = mv) := hmv
    have h5 : (mv == 0) = false := by simpa using h2
    clear hn hmv h4
    go_enter Tryz.func24, Tryz.ntmps24
    go_wp2_with (go_at_call 47; refine (spec_memFault _ ms b _ HM.out).mono ?_; rintro e w ⟨rfl, rfl⟩; rw [HMV.out])
    go_ret
    exact ⟨by first | rfl | simp [h5], rfl⟩
theorem ns_one (w : World) (pg : Int) (t : TypeId) : IsNs (w.alloc (.cells #[.int .i64 pg] t)) (some ⟨w.heap.size, 0, none⟩) 1 1 [pg] := by
  refine .inr ⟨_, rfl, Nat.le_refl _, by unfold maxLen; omega, rfl, fun i hi => ?_⟩
  obtain rfl : i = 0 := by omega
  exact cell_new rfl
end Go.Proofs.YtpaedaigibippaaGreatDoor
