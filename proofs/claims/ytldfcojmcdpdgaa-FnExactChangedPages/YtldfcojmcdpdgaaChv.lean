/- Pages that changed, us values: by pages, and by words put into a rising list. -/
import Derived.Test.YtldfcojmcdpdgaaCut
import Derived.Test.YtldfcojmcdpdgaaRise
namespace Go.Proofs.Ytldfcojmcdpdgaa
open Go.RowKit
set_option linter.unusedVariables false

/-- A number put into a rising list. -/
def rsV : List Int → Int → List Int
  | [], v => [v]
  | z :: t, v => if z < v then z :: rsV t v else if z = v then z :: t else v :: z :: t
theorem rsV_mem (zs : List Int) (v x : Int) : x ∈ rsV zs v ↔ (x = v ∨ x ∈ zs) := by
  induction zs with
  | nil => simp [rsV]
  | cons z t ih =>
    rw [rsV]
    split
    · rw [List.mem_cons, ih, List.mem_cons]
      constructor
      · rintro (h | h | h) <;> simp [h]
      · rintro (h | h | h) <;> simp [h]
    · split
      · rename_i h1 h2
        subst h2
        simp
      · simp
theorem rsV_len (zs : List Int) (v : Int) : (rsV zs v).length ≤ zs.length + 1 := by
  induction zs with
  | nil => simp [rsV]
  | cons z t ih =>
    rw [rsV]
    split
    · simp; omega
    · split <;> simp
def UpR (zs : List Int) : Prop := zs.Pairwise (· < ·)
theorem rsV_up (zs : List Int) (v : Int) (h : UpR zs) : UpR (rsV zs v) := by
  induction zs with
  | nil => simp [rsV, UpR]
  | cons z t ih =>
    unfold UpR at *
    rw [List.pairwise_cons] at h
    rw [rsV]
    split
    · rename_i h1
      rw [List.pairwise_cons]
      refine ⟨fun x hx => ?_, ih h.2⟩
      rcases (rsV_mem t v x).1 hx with rfl | hx
      · exact h1
      · exact h.1 x hx
    · split
      · rw [List.pairwise_cons]; exact h
      · rename_i h1 h2
        rw [List.pairwise_cons, List.pairwise_cons]
        refine ⟨fun x hx => ?_, h⟩
        rcases List.mem_cons.1 hx with rfl | hx
        · omega
        · have := h.1 x hx; omega
theorem upR_ext : ∀ (a b : List Int), UpR a → UpR b → (∀ x, x ∈ a ↔ x ∈ b) → a = b := by
  intro a
  induction a with
  | nil =>
    intro b _ _ h
    cases b with
    | nil => rfl
    | cons y t => have := (h y).2 (by simp); cases this
  | cons x a ih =>
    intro b ha hb h
    cases b with
    | nil => have := (h x).1 (by simp); cases this
    | cons y b =>
      unfold UpR at *
      rw [List.pairwise_cons] at ha hb
      have hxy : x = y := by
        have h1 := (h x).1 (by simp)
        have h2 := (h y).2 (by simp)
        rcases List.mem_cons.1 h1 with e | h1
        · exact e
        · rcases List.mem_cons.1 h2 with e | h2
          · exact e.symm
          · have := ha.1 y h2; have := hb.1 x h1; omega
      subst hxy
      congr 1
      refine ih b ha.2 hb.2 (fun z => ?_)
      constructor
      · intro hz
        rcases List.mem_cons.1 ((h z).1 (List.mem_cons_of_mem _ hz)) with e | hz'
        · subst e; have := ha.1 z hz; omega
        · exact hz'
      · intro hz
        rcases List.mem_cons.1 ((h z).2 (List.mem_cons_of_mem _ hz)) with e | hz'
        · subst e; have := hb.1 z hz; omega
        · exact hz'
/-- Where a number goes in. -/
theorem rsV_at (zs : List Int) (v : Int) : ∃ j, j ≤ zs.length ∧ (∀ i, i < j → zs.getD i 0 < v) ∧
    ((j < zs.length ∧ zs.getD j 0 = v ∧ rsV zs v = zs) ∨ ((j < zs.length → v < zs.getD j 0) ∧ rsV zs v = zs.take j ++ [v] ++ zs.drop j)) := by
  induction zs with
  | nil => exact ⟨0, Nat.le_refl _, fun i hi => absurd hi (Nat.not_lt_zero _), .inr ⟨fun h => absurd h (Nat.not_lt_zero _), rfl⟩⟩
  | cons z t ih =>
    rw [rsV]
    split
    · rename_i h1
      obtain ⟨j, k1, k2, k3⟩ := ih
      refine ⟨j + 1, by simp; omega, fun i hi => ?_, ?_⟩
      · cases i with
        | zero => simpa using h1
        | succ i => simpa using k2 i (by omega)
      · rcases k3 with ⟨k3, k4, k5⟩ | ⟨k3, k4⟩
        · exact .inl ⟨by simp; omega, by simpa using k4, by rw [k5]⟩
        · refine .inr ⟨fun h => ?_, by rw [k4]; simp⟩
          have := k3 (by simp at h; omega)
          simpa using this
    · rename_i h1
      split
      · rename_i h2
        exact ⟨0, Nat.zero_le _, fun i hi => absurd hi (Nat.not_lt_zero _), .inl ⟨by simp, by simpa using h2, rfl⟩⟩
      · rename_i h2
        exact ⟨0, Nat.zero_le _, fun i hi => absurd hi (Nat.not_lt_zero _), .inr ⟨fun _ => by simp; omega, by simp⟩⟩

theorem rs_any (v0 : Value) (zs : List Int) (v : Int) (b : Nat) (w : World) (h : Nums w b v0 zs) (hl : zs.length ≤ 900) (hb : b ≤ w.heap.size) :
    Calls Try.prog 28 #[v0, .int .i64 v] w fun e w' => ∃ u, e = .returned u ∧ Nums w' b u (rsV zs v) ∧ Below w.heap.size w w' := by
  obtain ⟨j, k1, k2, k3⟩ := rsV_at zs v
  have h' := h
  obtain ⟨h1, ⟨hv, h3⟩ | ⟨g, cap, cur, hv, hg, hr, rest⟩⟩ := h'
  · subst hv
    have e0 : zs = [] := List.eq_nil_of_length_eq_zero h3
    subst e0
    refine (rise_nil v w).mono ?_
    rintro e w1 ⟨u, rfl, n1, b1⟩
    exact ⟨u, rfl, n1.mono hb, b1⟩
  · subst hv
    rcases k3 with ⟨k3, k4, k5⟩ | ⟨k3, k4⟩
    · refine (rise_same g zs.length cap zs v b j w h (by omega) k3 k2 k4).mono ?_
      rintro e w1 ⟨rfl, rfl⟩
      rw [k5]
      exact ⟨_, rfl, h, Below.refl _ _⟩
    · refine (rise_row g zs.length cap zs v b j w h (by omega) k1 k2 k3).mono ?_
      rintro e w1 ⟨u, rfl, n1, b1⟩
      rw [k4]
      exact ⟨u, rfl, n1.mono hb, b1⟩


/-- The pages below n on which a word is not the same. -/
def chB (us vs : List Int) (k : Nat) : Bool := !decide (eight us k = eight vs k)
def chL (us vs : List Int) (n : Nat) : List Int := ((List.range n).filter (chB us vs)).map fun (i : Nat) => (i : Int)
theorem ch_succ (us vs : List Int) (n : Nat) : chL us vs (n + 1) = chL us vs n ++ (if chB us vs n then [(n : Int)] else []) := by
  unfold chL
  rw [List.range_succ, List.filter_append, List.map_append]
  congr 1
  cases h : chB us vs n <;> simp [h]
theorem ch_len (us vs : List Int) (n : Nat) : (chL us vs n).length ≤ n := by
  unfold chL
  rw [List.length_map]
  refine Nat.le_trans (List.length_filter_le _ _) ?_
  simp
theorem ch_mem (us vs : List Int) (n : Nat) (x : Int) : x ∈ chL us vs n ↔ ∃ k : Nat, k < n ∧ chB us vs k = true ∧ x = k := by
  unfold chL
  rw [List.mem_map]
  constructor
  · rintro ⟨k, hk, rfl⟩
    rw [List.mem_filter, List.mem_range] at hk
    exact ⟨k, hk.1, hk.2, rfl⟩
  · rintro ⟨k, h1, h2, rfl⟩
    exact ⟨k, by rw [List.mem_filter, List.mem_range]; exact ⟨h1, h2⟩, rfl⟩
theorem ch_up (us vs : List Int) : ∀ n, UpR (chL us vs n) := by
  intro n
  induction n with
  | zero => exact List.Pairwise.nil
  | succ n ih =>
    rw [ch_succ]
    split
    · unfold UpR at *
      rw [List.pairwise_append]
      refine ⟨ih, by simp, fun a ha b hb => ?_⟩
      rw [List.mem_singleton] at hb
      obtain ⟨k, h1, _, h2⟩ := (ch_mem us vs n a).1 ha
      omega
    · rw [List.append_nil]; exact ih
/-- The same by words: behind i of them. -/
def wL (us vs : List Int) : Nat → List Int
  | 0 => []
  | i + 1 => if us.getD i 0 = vs.getD i 0 then wL us vs i else rsV (wL us vs i) ((i / 8 : Nat) : Int)
theorem wL_up (us vs : List Int) : ∀ i, UpR (wL us vs i)
  | 0 => List.Pairwise.nil
  | i + 1 => by
    rw [wL]
    split
    · exact wL_up us vs i
    · exact rsV_up _ _ (wL_up us vs i)
theorem wL_len (us vs : List Int) : ∀ i, (wL us vs i).length ≤ i
  | 0 => Nat.le_refl _
  | i + 1 => by
    have h := wL_len us vs i
    rw [wL]
    split
    · omega
    · have := rsV_len (wL us vs i) ((i / 8 : Nat) : Int); omega
theorem wL_mem (us vs : List Int) (x : Int) : ∀ i, x ∈ wL us vs i ↔ ∃ j, j < i ∧ ¬ us.getD j 0 = vs.getD j 0 ∧ x = ((j / 8 : Nat) : Int)
  | 0 => by simp [wL]
  | i + 1 => by
    have ih := wL_mem us vs x i
    rw [wL]
    split
    · rename_i h
      rw [ih]
      constructor
      · rintro ⟨j, h1, h2, h3⟩; exact ⟨j, by omega, h2, h3⟩
      · rintro ⟨j, h1, h2, h3⟩
        by_cases e : j = i
        · subst e; exact absurd h h2
        · exact ⟨j, by omega, h2, h3⟩
    · rename_i h
      rw [rsV_mem, ih]
      constructor
      · rintro (h1 | ⟨j, h1, h2, h3⟩)
        · exact ⟨i, by omega, h, h1⟩
        · exact ⟨j, by omega, h2, h3⟩
      · rintro ⟨j, h1, h2, h3⟩
        by_cases e : j = i
        · subst e; exact .inl h3
        · exact .inr ⟨j, by omega, h2, h3⟩
theorem eight_get (zs : List Int) (k i : Nat) (h : i < 8) : (eight zs k)[i]? = zs[k * 8 + i]? := by
  unfold eight
  rw [List.getElem?_take, if_pos h, List.getElem?_drop]
theorem ch_word (us vs : List Int) (p k : Nat) (ha : us.length = p * 8) (hb : vs.length = p * 8) (hk : k < p) : chB us vs k = true ↔ ∃ j, j < p * 8 ∧ j / 8 = k ∧ ¬ us.getD j 0 = vs.getD j 0 := by
  unfold chB
  rw [Bool.not_eq_true', decide_eq_false_iff_not]
  constructor
  · intro h
    refine Classical.byContradiction fun hn => h ?_
    refine List.ext_getElem? fun i => ?_
    by_cases hi : i < 8
    · rw [eight_get _ _ _ hi, eight_get _ _ _ hi]
      have : us.getD (k * 8 + i) 0 = vs.getD (k * 8 + i) 0 := Classical.byContradiction fun h2 => hn ⟨k * 8 + i, by omega, by omega, h2⟩
      rw [List.getD, List.getD, List.getElem?_eq_getElem (by omega), List.getElem?_eq_getElem (by omega)] at this
      rw [List.getElem?_eq_getElem (by omega), List.getElem?_eq_getElem (by omega)]
      simpa using this
    · rw [List.getElem?_eq_none (by rw [eight_length us p k ha hk]; omega), List.getElem?_eq_none (by rw [eight_length vs p k hb hk]; omega)]
  · rintro ⟨j, h1, h2, h3⟩ e
    refine h3 ?_
    have : (eight us k)[j % 8]? = (eight vs k)[j % 8]? := by rw [e]
    rw [eight_get _ _ _ (Nat.mod_lt _ (by decide)), eight_get _ _ _ (Nat.mod_lt _ (by decide)), show k * 8 + j % 8 = j by omega] at this
    rw [List.getD, List.getD, this]
theorem wL_eq (us vs : List Int) (p : Nat) (ha : us.length = p * 8) (hb : vs.length = p * 8) : wL us vs (p * 8) = chL us vs p := by
  refine upR_ext _ _ (wL_up _ _ _) (ch_up _ _ _) (fun x => ?_)
  rw [wL_mem, ch_mem]
  constructor
  · rintro ⟨j, h1, h2, rfl⟩
    exact ⟨j / 8, by omega, (ch_word us vs p (j / 8) ha hb (by omega)).2 ⟨j, h1, rfl, h2⟩, rfl⟩
  · rintro ⟨k, h1, h2, rfl⟩
    obtain ⟨j, h3, h4, h5⟩ := (ch_word us vs p k ha hb h1).1 h2
    exact ⟨j, h3, h5, by rw [h4]⟩
def chC (us vs : List Int) : Int := if memV us = 0 then (if memV vs = 0 then (if us.length = vs.length then 0 else 1) else memV vs) else memV us
def chZ (us vs : List Int) : List Int := if chC us vs = 0 then chL us vs (us.length / 8) else []
theorem mem_form {zs : List Int} (h : memV zs = 0) : ∃ p, zs.length = p * 8 ∧ 1 ≤ p ∧ p ≤ 24 := by
  unfold memV at h
  split at h
  · rename_i h1
    simp only [formB, decide_eq_true_eq] at h1
    exact ⟨zs.length / 8, by omega, by omega, by omega⟩
  · cases h
theorem chZ_len (us vs : List Int) : (chZ us vs).length ≤ 192 := by
  unfold chZ
  split
  · rename_i h
    have : memV us = 0 := by
      unfold chC at h
      split at h
      · assumption
      · assumption
    obtain ⟨p, hp, _, h24⟩ := mem_form this
    have := ch_len us vs (us.length / 8)
    omega
  · simp
theorem ch_parts {us vs : List Int} (h : chC us vs = 0) : memV us = 0 ∧ memV vs = 0 ∧ us.length = vs.length := by
  unfold chC at h
  split at h
  · rename_i h1
    split at h
    · rename_i h2
      split at h
      · rename_i h3; exact ⟨h1, h2, h3⟩
      · cases h
    · rename_i h2; exact absurd h h2
  · rename_i h1; exact absurd h h1
end Go.Proofs.Ytldfcojmcdpdgaa
