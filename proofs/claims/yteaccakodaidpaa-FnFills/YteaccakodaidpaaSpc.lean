/- CacheFits, by program and model. -/
import Derived.Test.YteaccakodaidpaaSpf
import Derived.Test.YteaccakodaidpaaPgs4
namespace Go.Proofs.Yteaccakodaidpaa
open Go.RowKit
set_option linter.unusedVariables false

/-- Is a hit what the list says, where it is of the tag? -/
def fitG (ps : List (Int × Int)) (t : Int) (q : Qd) : Bool := !(q.tag == t) || ((ps.getD q.page.toNat (0, 0)).1 == q.to && (ps.getD q.page.toNat (0, 0)).2 == q.kinds)
def fitV (rs : List Qd) (t : Int) (ps : List (Int × Int)) : Bool := decide (cfV rs = 0) && (decide (pgsV ps 24 = 0) && rs.all (fitG ps t))
/-- The same, asked of a page. -/
def fitP (s : List (Int × Qd)) (ps : List (Int × Int)) (t : Int) (j : Nat) : Bool := !(s.any (sel t j)) || ((fnd s t j).2.to == (ps.getD j (0, 0)).1 && (fnd s t j).2.kinds == (ps.getD j (0, 0)).2)

theorem fnd_mem {s : List (Int × Qd)} {t p : Int} (h : s.any (sel t p) = true) : fnd s t p ∈ s ∧ (fnd s t p).2.tag = t ∧ (fnd s t p).2.page = p := by
  unfold fnd
  cases hf : s.find? (sel t p) with
  | none =>
    rw [List.any_eq_true] at h
    obtain ⟨x, hx, hs⟩ := h
    exact absurd hs (by simpa using List.find?_eq_none.1 hf x hx)
  | some e => exact ⟨List.mem_of_find?_eq_some hf, sel_iff.1 (List.find?_some hf)⟩
theorem apart_eq {s : List (Int × Qd)} (h : s.Pairwise fun a b => ¬ (a.2.tag = b.2.tag ∧ a.2.page = b.2.page)) : ∀ x ∈ s, ∀ y ∈ s, x.2.tag = y.2.tag → x.2.page = y.2.page → x = y := by
  induction s with
  | nil => intro x hx; cases hx
  | cons z r ih =>
    obtain ⟨h1, h2⟩ := List.pairwise_cons.1 h
    intro x hx y hy e1 e2
    rcases List.mem_cons.1 hx with hx | hx
    · rcases List.mem_cons.1 hy with hy | hy
      · rw [hx, hy]
      · exact absurd (by rw [← hx]; exact ⟨e1, e2⟩) (h1 y hy)
    · rcases List.mem_cons.1 hy with hy | hy
      · exact absurd (by rw [← hy]; exact ⟨e1.symm, e2.symm⟩) (h1 x hx)
      · exact ih h2 x hx y hy e1 e2
theorem fits_pages (s : List (Int × Qd)) (ha : s.Pairwise fun a b => ¬ (a.2.tag = b.2.tag ∧ a.2.page = b.2.page)) (hk : ∀ e ∈ s, 0 ≤ e.2.tag ∧ e.2.tag ≤ 9 ∧ 0 ≤ e.2.page ∧ e.2.page ≤ 7) (ps : List (Int × Int)) (t : Int) :
    (List.range 8).all (fitP s ps t) = s.all fun e => fitG ps t e.2 := by
  rw [Bool.eq_iff_iff, List.all_eq_true, List.all_eq_true]
  constructor
  · intro h e he
    have hke := hk e he
    have hj := h e.2.page.toNat (List.mem_range.2 (by omega))
    unfold fitG
    unfold fitP at hj
    cases ht : (e.2.tag == t)
    · rfl
    · have hp : ((e.2.page.toNat : Nat) : Int) = e.2.page := by omega
      have ht' : e.2.tag = t := by simpa using ht
      have hany : s.any (sel t e.2.page) = true := List.any_eq_true.2 ⟨e, he, sel_iff.2 ⟨ht', rfl⟩⟩
      rw [hp, hany] at hj
      obtain ⟨m1, m2, m3⟩ := fnd_mem hany
      rw [apart_eq ha _ m1 e he (m2.trans ht'.symm) m3] at hj
      simp at hj ⊢
      exact ⟨hj.1.symm, hj.2.symm⟩
  · intro h j hj
    have hj8 : j < 8 := List.mem_range.1 hj
    unfold fitP
    cases hany : s.any (sel t (j : Int))
    · rfl
    · obtain ⟨m1, m2, m3⟩ := fnd_mem hany
      have := h _ m1
      unfold fitG at this
      rw [m2, m3] at this
      simp at this ⊢
      exact ⟨this.1.symm, this.2.symm⟩
theorem cfG_ok : ∀ (l pre : List Qd), cfG pre l = 0 → ∀ j, j < l.length → okQ (l.getD j qz) = true
  | [], _, _ => fun j hj => by simp at hj
  | q :: r, pre, h => by
    unfold cfG at h
    cases hq : okQ q
    · rw [hq] at h; simp at h
    · rw [hq] at h
      cases hh : hasQ pre q.tag q.page
      · rw [hh] at h
        simp at h
        intro j hj
        cases j with
        | zero => exact hq
        | succ j => exact cfG_ok r _ h j (by simpa using hj)
      · rw [hh] at h; simp at h
theorem cfV_ok {l : List Qd} (h : cfV l = 0) : ∀ j, j < l.length → okQ (l.getD j qz) = true := by
  unfold cfV at h
  split at h
  · cases h
  · exact cfG_ok l [] h
theorem cell_keep' {w : World} {b g cap : Nat} {ps : List (Int × Int)} (h : Prs 84 w b (.slice (some ⟨g, 0, none⟩) 8 cap) ps) (hl : ps.length = 8) {i : Nat} (hi : i < 8) :
    w.cell? ⟨g, i * 2, none⟩ = some (.int .i64 (ps.getD i (0, 0)).1) ∧ w.cell? ⟨g, i * 2 + 1, none⟩ = some (.int .i64 (ps.getD i (0, 0)).2) := h.cell hl.symm i hi
theorem trn_all (l : List Qd) (f : Qd → Bool) : ((trn l).all fun e => f e.2) = l.all f := by
  unfold trn
  rw [List.all_map]
  have : ∀ (l : List Qd) (k : Nat), (l.zipIdx k).all ((fun e : Int × Qd => f e.2) ∘ fun x => ((x.2 : Int), x.1)) = l.all f := by
    intro l
    induction l with
    | nil => intro k; rfl
    | cons q r ih => intro k; simp [List.zipIdx_cons] at ih ⊢; rw [ih]
  exact this l 0
theorem all_range_not {f : Nat → Bool} {n j : Nat} (h : j < n) (hf : f j = false) : (List.range n).all f = false := by
  rw [List.all_eq_false]
  exact ⟨j, List.mem_range.2 h, by simp [hf]⟩
theorem all_range_succ (f : Nat → Bool) (j : Nat) : (List.range (j + 1)).all f = ((List.range j).all f && f j) := by
  rw [List.range_succ, List.all_append]
  simp

end Go.Proofs.Yteaccakodaidpaa
