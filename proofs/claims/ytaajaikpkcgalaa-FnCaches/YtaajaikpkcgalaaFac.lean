/- What a filled cache holds: facts of lists alone. -/
import Derived.Test.YtaajaikpkcgalaaFlw
namespace Go.Proofs.Ytaajaikpkcgalaa
open Go.RowKit
set_option linter.unusedVariables false

/-- No two hits have one tag and page. -/
def AptQ (l : List Qd) : Prop := l.Pairwise fun a b => ¬ (a.tag = b.tag ∧ a.page = b.page)
theorem hasQ_iff (l : List Qd) (t p : Int) : hasQ l t p = true ↔ ∃ x ∈ l, x.tag = t ∧ x.page = p := by
  unfold hasQ
  rw [List.any_eq_true]
  simp
theorem hasQ_not (l : List Qd) (t p : Int) : hasQ l t p = false ↔ ∀ x ∈ l, ¬ (x.tag = t ∧ x.page = p) := by
  constructor
  · intro h x hx e
    have := (hasQ_iff l t p).2 ⟨x, hx, e⟩
    rw [h] at this
    cases this
  · intro h
    cases hh : hasQ l t p
    · rfl
    · obtain ⟨x, hx, e⟩ := (hasQ_iff l t p).1 hh
      exact absurd e (h x hx)
theorem cfG_zero : ∀ (l pre : List Qd), (∀ q ∈ l, okQ q = true) → AptQ l → (∀ q ∈ l, hasQ pre q.tag q.page = false) → cfG pre l = 0
  | [], _, _, _, _ => rfl
  | q :: r, pre, ho, ha, hp => by
    obtain ⟨a1, a2⟩ := List.pairwise_cons.1 ha
    rw [cfG, ho q (List.mem_cons_self ..), hp q (List.mem_cons_self ..)]
    simp only [if_true, Bool.false_eq_true, if_false]
    refine cfG_zero r _ (fun x hx => ho x (List.mem_cons_of_mem _ hx)) a2 (fun x hx => ?_)
    rw [hasQ_not]
    intro y hy
    rcases List.mem_append.1 hy with hy | hy
    · exact (hasQ_not _ _ _).1 (hp x (List.mem_cons_of_mem _ hx)) y hy
    · rw [List.mem_singleton] at hy
      subst hy
      exact a1 x hx
theorem cfV_zero {l : List Qd} (h1 : l.length ≤ 12) (h2 : ∀ q ∈ l, okQ q = true) (h3 : AptQ l) : cfV l = 0 := by
  unfold cfV
  rw [if_neg (by omega)]
  exact cfG_zero l [] h2 h3 (fun _ _ => rfl)
theorem getD_mem {l : List Qd} {i : Nat} (h : i < l.length) : l.getD i qz ∈ l := by
  rw [List.getD, List.getElem?_eq_getElem h]
  exact List.getElem_mem h
theorem mem_getD {l : List Qd} {x : Qd} (h : x ∈ l) : ∃ i, i < l.length ∧ l.getD i qz = x := by
  obtain ⟨i, hi, e⟩ := List.getElem_of_mem h
  exact ⟨i, hi, by rw [List.getD, List.getElem?_eq_getElem hi]; exact e⟩
theorem cfV_parts {l : List Qd} (h : cfV l = 0) : l.length ≤ 12 ∧ (∀ q ∈ l, okQ q = true) ∧ AptQ l :=
  ⟨(cfV_apart h).2, fun q hq => by obtain ⟨i, hi, e⟩ := mem_getD hq; rw [← e]; exact cfV_ok h i hi, (cfV_apart h).1⟩
theorem AptQ.eq {l : List Qd} (h : AptQ l) : ∀ x ∈ l, ∀ y ∈ l, x.tag = y.tag → x.page = y.page → x = y := by
  induction l with
  | nil => intro x hx; cases hx
  | cons q r ih =>
    obtain ⟨a1, a2⟩ := List.pairwise_cons.1 h
    intro x hx y hy e1 e2
    rcases List.mem_cons.1 hx with h1 | h1
    · rcases List.mem_cons.1 hy with h2 | h2
      · rw [h1, h2]
      · rw [h1] at e1 e2; exact absurd ⟨e1, e2⟩ (a1 y h2)
    · rcases List.mem_cons.1 hy with h2 | h2
      · rw [h2] at e1 e2; exact absurd ⟨e1.symm, e2.symm⟩ (a1 x h1)
      · exact ih a2 x h1 y h2 e1 e2
theorem fiG_at (t p : Int) : ∀ (l : List Qd) (k : Int), hasQ l t p = true → ∃ i : Nat, i < l.length ∧ fiG t p l k = k + i ∧ (l.getD i qz).tag = t ∧ (l.getD i qz).page = p
  | [], _, h => by simp [hasQ] at h
  | q :: r, k, h => by
    cases hq : (q.tag == t && q.page == p)
    · have hr : hasQ r t p = true := by unfold hasQ at h ⊢; rw [List.any_cons, hq] at h; simpa using h
      obtain ⟨i, hi, e, e1, e2⟩ := fiG_at t p r (k + 1) hr
      refine ⟨i + 1, by simp; omega, ?_, by simpa using e1, by simpa using e2⟩
      rw [fiG, hq]
      simp only [Bool.false_eq_true, if_false]
      rw [e]
      omega
    · refine ⟨0, by simp, ?_, ?_⟩
      · rw [fiG, hq]; simp
      · simp only [Bool.and_eq_true, beq_iff_eq] at hq
        simpa using hq
/-- The hit of a key, where it is found. -/
theorem find_at {l : List Qd} (ha : AptQ l) {x : Qd} (hx : x ∈ l) : ∃ i : Nat, i < l.length ∧ fiV l x.tag x.page = i ∧ l.getD i qz = x := by
  obtain ⟨i, hi, e, e1, e2⟩ := fiG_at x.tag x.page l 0 ((hasQ_iff _ _ _).2 ⟨x, hx, rfl, rfl⟩)
  exact ⟨i, hi, by unfold fiV; rw [e]; omega, ha.eq _ (getD_mem hi) x hx e1 e2⟩
/-- What stays when a hit is filled in. -/
def stayQ (rs : List Qd) (q : Qd) : List Qd := if hasQ rs q.tag q.page then rs.filter (notKey q.tag q.page) else if rs.length = 12 then rs.tail else rs
theorem stay_sub (rs : List Qd) (q : Qd) : (stayQ rs q).Sublist rs := by
  unfold stayQ
  split
  · exact List.filter_sublist
  · split
    · exact List.tail_sublist _
    · exact List.Sublist.refl _
theorem stay_key (rs : List Qd) (q : Qd) : ∀ x ∈ stayQ rs q, ¬ (x.tag = q.tag ∧ x.page = q.page) := by
  intro x hx
  unfold stayQ at hx
  cases hh : hasQ rs q.tag q.page
  · have hn := (hasQ_not _ _ _).1 hh
    exact hn x (by have := (stay_sub rs q).subset (by unfold stayQ; exact hx); exact this)
  · rw [hh] at hx
    simp only [if_true] at hx
    have := (List.mem_filter.1 hx).2
    simp only [notKey, Bool.not_eq_true', Bool.and_eq_false_iff, beq_eq_false_iff_ne] at this
    intro ⟨e1, e2⟩
    rcases this with h | h
    · exact h e1
    · exact h e2
theorem filter_one : ∀ (l : List Qd) (t p : Int), AptQ l → l.length ≤ (l.filter (notKey t p)).length + 1
  | [], _, _, _ => by simp
  | q :: r, t, p, ha => by
    obtain ⟨a1, a2⟩ := List.pairwise_cons.1 ha
    cases hq : notKey t p q
    · have e : r.filter (notKey t p) = r := by
        rw [List.filter_eq_self]
        intro x hx
        simp only [notKey, Bool.not_eq_false', Bool.and_eq_true, beq_iff_eq] at hq
        have := a1 x hx
        rw [hq.1, hq.2] at this
        simp only [notKey, Bool.not_eq_true', Bool.and_eq_false_iff, beq_eq_false_iff_ne]
        by_cases e : x.tag = t
        · right; intro e2; exact this ⟨e.symm, e2.symm⟩
        · left; exact e
      rw [List.filter_cons_of_neg (by simp [hq]), e]
      simp
    · have := filter_one r t p a2
      rw [List.filter_cons_of_pos hq]
      simp
      omega
theorem filter_some {l : List Qd} {t p : Int} (h : hasQ l t p = true) : (l.filter (notKey t p)).length < l.length := by
  obtain ⟨x, hx, e1, e2⟩ := (hasQ_iff _ _ _).1 h
  rw [List.length_filter_lt_length_iff_exists]
  exact ⟨x, hx, by simp [notKey, e1, e2]⟩
theorem stay_len {rs : List Qd} (q : Qd) (h : cfV rs = 0) : (stayQ rs q).length ≤ 11 ∧ rs.length ≤ (stayQ rs q).length + 1 := by
  obtain ⟨hl, ho, ha⟩ := cfV_parts h
  unfold stayQ
  cases hh : hasQ rs q.tag q.page
  · simp only [Bool.false_eq_true, if_false]
    split
    · rw [List.length_tail]; omega
    · omega
  · simp only [if_true]
    have h1 := filter_one rs q.tag q.page ha
    have h2 := filter_some hh
    omega
/-- A cache that was filled has no fault; it has the hit, and all others but the first one of twelve. -/
theorem fill_ok {rs : List Qd} {q : Qd} (h : cfV rs = 0) (hq : okQ q = true) : cfV (fillQ rs q) = 0 ∧ AptQ (fillQ rs q) ∧ q ∈ fillQ rs q ∧ rs.length ≤ (fillQ rs q).length ∧ (fillQ rs q).length ≤ 12 := by
  obtain ⟨hl, ho, ha⟩ := cfV_parts h
  obtain ⟨h1, h2⟩ := stay_len q h
  have e : fillQ rs q = stayQ rs q ++ [q] := rfl
  have hA : AptQ (fillQ rs q) := by
    rw [e]
    refine List.pairwise_append.2 ⟨List.Pairwise.sublist (stay_sub rs q) ha, List.pairwise_singleton _ _, fun x hx y hy => ?_⟩
    rw [List.mem_singleton] at hy
    subst hy
    exact stay_key rs y x hx
  refine ⟨cfV_zero (by rw [e]; simp; omega) (fun x hx => ?_) hA, hA, by rw [e]; simp, by rw [e]; simp; omega, by rw [e]; simp; omega⟩
  rw [e] at hx
  rcases List.mem_append.1 hx with hx | hx
  · exact ho x ((stay_sub rs q).subset hx)
  · rw [List.mem_singleton] at hx
    subst hx
    exact hq
theorem fill_mem {rs : List Qd} {q : Qd} (h : cfV rs = 0) {i : Nat} (hi : i < rs.length) (hk : ¬ ((rs.getD i qz).tag = q.tag ∧ (rs.getD i qz).page = q.page)) : rs.getD i qz ∈ fillQ rs q ∨ (i = 0 ∧ rs.length = 12) := by
  have e : fillQ rs q = stayQ rs q ++ [q] := rfl
  by_cases hz : i = 0 ∧ rs.length = 12
  · exact .inr hz
  refine .inl ?_
  rw [e]
  refine List.mem_append.2 (.inl ?_)
  unfold stayQ
  split
  · refine List.mem_filter.2 ⟨getD_mem hi, ?_⟩
    simp only [notKey, Bool.not_eq_true', Bool.and_eq_false_iff, beq_eq_false_iff_ne]
    by_cases e : (rs.getD i qz).tag = q.tag
    · right; intro e2; exact hk ⟨e, e2⟩
    · left; exact e
  · split
    · cases rs with
      | nil => simp at hi
      | cons x r =>
        cases i with
        | zero => exact absurd ⟨rfl, by assumption⟩ hz
        | succ i =>
          have : (x :: r).getD (i + 1) qz = r.getD i qz := by simp
          rw [this]
          exact getD_mem (by simpa using hi)
    · exact getD_mem hi
/-- A hit of the cache is found in the filled one as itself, or not at all. -/
theorem fill_find {rs : List Qd} {q : Qd} (h : cfV rs = 0) (hq : okQ q = true) {i : Nat} (hi : i < rs.length) (hk : ¬ ((rs.getD i qz).tag = q.tag ∧ (rs.getD i qz).page = q.page)) :
    (∃ j : Nat, j < (fillQ rs q).length ∧ fhC (fillQ rs q) (rs.getD i qz).tag (rs.getD i qz).page = 0 ∧ fhV (fillQ rs q) (rs.getD i qz).tag (rs.getD i qz).page = j ∧ (fillQ rs q).getD j qz = rs.getD i qz) ∨
    (fhC (fillQ rs q) (rs.getD i qz).tag (rs.getD i qz).page = 4 ∧ i = 0 ∧ rs.length = 12) := by
  obtain ⟨hc, hA, hm, _, _⟩ := fill_ok h hq
  cases hh : hasQ (fillQ rs q) (rs.getD i qz).tag (rs.getD i qz).page
  · right
    refine ⟨by unfold fhC; rw [if_pos hc, hh]; rfl, ?_⟩
    rcases fill_mem h hi hk with hx | hx
    · exact absurd ⟨rfl, rfl⟩ ((hasQ_not _ _ _).1 hh _ hx)
    · exact hx
  · left
    obtain ⟨y, hy, e1, e2⟩ := (hasQ_iff _ _ _).1 hh
    have hy2 : y ∈ rs := by
      have e : fillQ rs q = stayQ rs q ++ [q] := rfl
      rw [e] at hy
      rcases List.mem_append.1 hy with hy | hy
      · exact (stay_sub rs q).subset hy
      · rw [List.mem_singleton] at hy
        subst hy
        exact absurd ⟨e1.symm, e2.symm⟩ hk
    have ey : y = rs.getD i qz := (cfV_parts h).2.2.eq _ hy2 _ (getD_mem hi) e1 e2
    obtain ⟨j, hj, e3, e4⟩ := find_at hA hy
    rw [ey] at e3 e4
    exact ⟨j, hj, by unfold fhC; rw [if_pos hc, hh]; rfl, by unfold fhV; rw [if_pos hc, hh]; exact e3, e4⟩
theorem fill_self {rs : List Qd} {q : Qd} (h : cfV rs = 0) (hq : okQ q = true) : ∃ j : Nat, j < (fillQ rs q).length ∧ fhC (fillQ rs q) q.tag q.page = 0 ∧ fhV (fillQ rs q) q.tag q.page = j ∧ (fillQ rs q).getD j qz = q := by
  obtain ⟨hc, hA, hm, _, _⟩ := fill_ok h hq
  have hh : hasQ (fillQ rs q) q.tag q.page = true := (hasQ_iff _ _ _).2 ⟨q, hm, rfl, rfl⟩
  obtain ⟨j, hj, e3, e4⟩ := find_at hA hm
  exact ⟨j, hj, by unfold fhC; rw [if_pos hc, hh]; rfl, by unfold fhV; rw [if_pos hc, hh]; exact e3, e4⟩
theorem flush_not {rs : List Qd} (h : cfV rs = 0) {t : Int} (ht : tagB t = true) (p : Int) : flC rs t = 0 ∧ cfV (flL rs t) = 0 ∧ fhC (flL rs t) t p = 4 := by
  obtain ⟨hl, ho, ha⟩ := cfV_parts h
  have e0 : flC rs t = 0 := by unfold flC; rw [if_pos h, ht]; rfl
  have e1 : flL rs t = rs.filter (notTag t) := if_pos e0
  have hc : cfV (flL rs t) = 0 := by
    rw [e1]
    exact cfV_zero (Nat.le_trans (List.length_filter_le _ _) hl) (fun x hx => ho x (List.mem_filter.1 hx).1) (List.Pairwise.sublist List.filter_sublist ha)
  refine ⟨e0, hc, ?_⟩
  have hh : hasQ (flL rs t) t p = false := by
    rw [hasQ_not, e1]
    intro x hx e
    have := (List.mem_filter.1 hx).2
    simp [notTag] at this
    exact this e.1
  unfold fhC
  rw [if_pos hc, hh]
  rfl
end Go.Proofs.Ytaajaikpkcgalaa
