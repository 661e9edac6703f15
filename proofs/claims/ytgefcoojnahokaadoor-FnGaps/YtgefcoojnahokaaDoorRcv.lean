/- Who reaches a guest, as values. -/
import Derived.Test.YtgefcoojnahokaaDoorPfv
namespace Go.Proofs.YtgefcoojnahokaaDoor
open Go.RowKit
set_option linter.unusedVariables false

def addAll (z : List Int) : List Int → List Int
  | [] => z
  | x :: t => addAll (riseV z x) t
theorem addAll_step (z ms : List Int) (j : Nat) (h : j < ms.length) : addAll z (ms.drop j) = addAll (riseV z (ms.getD j 0)) (ms.drop (j + 1)) := by
  rw [drop_cons_getD ms 0 j h, addAll]
theorem addAll_up (ms : List Int) : ∀ z, Up z → Up (addAll z ms) := by
  induction ms with
  | nil => intro z h; exact h
  | cons x t ih => intro z h; exact ih _ (riseV_up _ _ h)
theorem addAll_mem (ms : List Int) (y : Int) : ∀ z, y ∈ addAll z ms ↔ (y ∈ z ∨ y ∈ ms) := by
  induction ms with
  | nil => intro z; simp [addAll]
  | cons x t ih =>
    intro z
    rw [addAll, ih, riseV_mem, List.mem_cons]
    constructor
    · rintro ((h | h) | h)
      · exact .inr (.inl h)
      · exact .inl h
      · exact .inr (.inr h)
    · rintro (h | h | h)
      · exact .inl (.inr h)
      · exact .inl (.inl h)
      · exact .inr h
/-- One round: what has a link to one of the list is added. -/
def nextF (P : Plc) (z : List Int) : List Int → List Int
  | [] => z
  | x :: t => nextF P (addAll z (lkV P x)) t
def nextV (P : Plc) (o : List Int) : List Int := nextF P o o
theorem nextF_step (P : Plc) (z o : List Int) (j : Nat) (h : j < o.length) : nextF P z (o.drop j) = nextF P (addAll z (lkV P (o.getD j 0))) (o.drop (j + 1)) := by
  rw [drop_cons_getD o 0 j h, nextF]
theorem nextF_up (P : Plc) (o : List Int) : ∀ z, Up z → Up (nextF P z o) := by
  induction o with
  | nil => intro z h; exact h
  | cons x t ih => intro z h; exact ih _ (addAll_up _ _ h)
theorem nextF_mem (P : Plc) (o : List Int) (y : Int) : ∀ z, y ∈ nextF P z o ↔ (y ∈ z ∨ ∃ x ∈ o, y ∈ lkV P x) := by
  induction o with
  | nil => intro z; simp [nextF]
  | cons x t ih =>
    intro z
    rw [nextF, ih, addAll_mem]
    simp only [List.mem_cons, exists_eq_or_imp]
    exact or_assoc
def rch (P : Plc) (g : Int) : List Int := nextV P (nextV P (nextV P (lkV P g)))
def In3 (z : List Int) : Prop := ∀ x ∈ z, 0 ≤ x ∧ x < 3
theorem lk_up (P : Plc) (g : Int) : Up (lkV P g) := lkB_up _ _ _ (lkL_up _ _ _ List.Pairwise.nil)
theorem lk_in3 (P : Plc) (h : pfV P = 0) (g : Int) : In3 (lkV P g) := by
  intro x hx
  rw [link_eq P g h] at hx
  have := (linkUp_mem P g x _).1 hx
  have := (pf_parts P h).1
  omega
theorem next_up (P : Plc) (o : List Int) (h : Up o) : Up (nextV P o) := nextF_up P o o h
theorem next_in3 (P : Plc) (hp : pfV P = 0) (o : List Int) (h : In3 o) : In3 (nextV P o) := by
  intro x hx
  rcases (nextF_mem P o x o).1 hx with h1 | ⟨y, _, h1⟩
  · exact h x h1
  · exact lk_in3 P hp y x h1
theorem next_sub (P : Plc) (o : List Int) : ∀ x ∈ o, x ∈ nextV P o := fun x hx => (nextF_mem P o x o).2 (.inl hx)
theorem next_has (P : Plc) (o : List Int) (y : Int) (hy : y ∈ o) : ∀ x ∈ lkV P y, x ∈ nextV P o := fun x hx => (nextF_mem P o x o).2 (.inr ⟨y, hy, hx⟩)
theorem up_sub (b : List Int) : ∀ a : List Int, Up a → Up b → (∀ x ∈ a, x ∈ b) → a.length ≤ b.length ∧ (a.length = b.length → a = b) := by
  induction b with
  | nil =>
    intro a _ _ h
    cases a with
    | nil => exact ⟨Nat.le_refl _, fun _ => rfl⟩
    | cons x t => have := h x (by simp); cases this
  | cons y b ih =>
    intro a ha hb h
    cases a with
    | nil => exact ⟨Nat.zero_le _, fun e => by simp at e⟩
    | cons x s =>
      unfold Up at ha hb
      rw [List.pairwise_cons] at ha hb
      by_cases e : x = y
      · subst e
        have hs : ∀ z ∈ s, z ∈ b := fun z hz => by
          rcases List.mem_cons.1 (h z (List.mem_cons_of_mem _ hz)) with e2 | h2
          · have := ha.1 z hz; omega
          · exact h2
        obtain ⟨i1, i2⟩ := ih s ha.2 hb.2 hs
        exact ⟨by simp; omega, fun e2 => by rw [i2 (by simpa using e2)]⟩
      · have hx : x ∈ b := by
          rcases List.mem_cons.1 (h x (by simp)) with e2 | h2
          · exact absurd e2 e
          · exact h2
        have hs : ∀ z ∈ x :: s, z ∈ b := fun z hz => by
          rcases List.mem_cons.1 (h z hz) with e2 | h2
          · have hy := hb.1 x hx
            rcases List.mem_cons.1 hz with e3 | h3
            · omega
            · have := ha.1 z h3; omega
          · exact h2
        obtain ⟨i1, i2⟩ := ih (x :: s) (List.pairwise_cons.2 ha) hb.2 hs
        exact ⟨by simp at i1 ⊢; omega, fun e2 => by simp at i1 e2; omega⟩
theorem up3 (a : List Int) (h : Up a) (k : In3 a) : a.length ≤ 3 := by
  match a, h, k with
  | [], _, _ => exact Nat.zero_le _
  | [_], _, _ => exact Nat.succ_le_succ (Nat.zero_le _)
  | [_, _], _, _ => exact Nat.succ_le_succ (Nat.succ_le_succ (Nat.zero_le _))
  | [_, _, _], _, _ => exact Nat.le_refl _
  | x :: y :: z :: u :: t, h, k =>
    unfold Up at h
    have h1 := (List.pairwise_cons.1 h)
    have h2 := (List.pairwise_cons.1 h1.2)
    have h3 := (List.pairwise_cons.1 h2.2)
    have a1 := h1.1 y (by simp)
    have a2 := h2.1 z (by simp)
    have a3 := h3.1 u (by simp)
    have b1 := k x (by simp)
    have b2 := k u (by simp)
    omega
theorem next_stay (P : Plc) (o : List Int) (h : nextV P o = o) : ∀ y ∈ o, ∀ x ∈ lkV P y, x ∈ o := fun y hy x hx => by
  have := next_has P o y hy x hx
  rw [h] at this
  exact this
/-- Behind three rounds nothing comes in any more. -/
theorem rch_closed (P : Plc) (hp : pfV P = 0) (g : Int) : ∀ y ∈ rch P g, ∀ x ∈ lkV P y, x ∈ rch P g := by
  have u0 := lk_up P g
  have i0 := lk_in3 P hp g
  unfold rch
  generalize lkV P g = o0 at *
  have u1 := next_up P o0 u0
  have u2 := next_up P _ u1
  have u3 := next_up P _ u2
  have i1 := next_in3 P hp o0 i0
  have i2 := next_in3 P hp _ i1
  have i3 := next_in3 P hp _ i2
  have s1 := up_sub _ _ u0 u1 (next_sub P o0)
  have s2 := up_sub _ _ u1 u2 (next_sub P _)
  have s3 := up_sub _ _ u2 u3 (next_sub P _)
  have l3 := up3 _ u3 i3
  have key : nextV P (nextV P (nextV P o0)) = nextV P (nextV P o0) := by
    by_cases e1 : o0.length = (nextV P o0).length
    · have e : nextV P o0 = o0 := (s1.2 e1).symm
      rw [e, e, e]
    · by_cases e2 : (nextV P o0).length = (nextV P (nextV P o0)).length
      · have e : nextV P (nextV P o0) = nextV P o0 := (s2.2 e2).symm
        rw [e, e]
      · by_cases e3 : (nextV P (nextV P o0)).length = (nextV P (nextV P (nextV P o0))).length
        · exact (s3.2 e3).symm
        · have hz : o0.length = 0 := by omega
          have he : o0 = [] := List.eq_nil_of_length_eq_zero hz
          subst he
          exact absurd rfl e1
  rw [key]
  exact next_stay P _ key
theorem rch_least (P : Plc) (g : Int) (S : Int → Prop) (h1 : ∀ x ∈ lkV P g, S x) (h2 : ∀ y, S y → ∀ x ∈ lkV P y, S x) : ∀ x ∈ rch P g, S x := by
  have step : ∀ o : List Int, (∀ x ∈ o, S x) → ∀ x ∈ nextV P o, S x := fun o h x hx => by
    rcases (nextF_mem P o x o).1 hx with h3 | ⟨y, hy, h3⟩
    · exact h x h3
    · exact h2 y (h y hy) x h3
  exact step _ (step _ (step _ h1))
theorem rch_first (P : Plc) (g : Int) : ∀ x ∈ lkV P g, x ∈ rch P g := fun x hx => next_sub P _ x (next_sub P _ x (next_sub P _ x hx))
theorem rch_up (P : Plc) (g : Int) : Up (rch P g) := next_up P _ (next_up P _ (next_up P _ (lk_up P g)))
theorem rch_in3 (P : Plc) (hp : pfV P = 0) (g : Int) : In3 (rch P g) := next_in3 P hp _ (next_in3 P hp _ (next_in3 P hp _ (lk_in3 P hp g)))
/-- A list that is closed, holds the first ones and no more than it must, put in order, is this list. -/
theorem rch_eq (P : Plc) (hp : pfV P = 0) (g : Int) (r ys : List Int) (hy : Up ys) (hm : ∀ x, x ∈ ys ↔ x ∈ r) (h1 : ∀ x ∈ lkV P g, x ∈ r) (h2 : ∀ y ∈ r, ∀ x ∈ lkV P y, x ∈ r) (h3 : ∀ x ∈ r, x ∈ rch P g) : ys = rch P g := by
  refine up_ext _ _ hy (rch_up P g) (fun x => ?_)
  rw [hm]
  exact ⟨h3 x, rch_least P g (fun x => x ∈ r) h1 h2 x⟩
theorem nodup3 (r : List Int) (h : r.Nodup) (k : In3 r) : r.length ≤ 3 := by
  match r, h, k with
  | [], _, _ => exact Nat.zero_le _
  | [_], _, _ => exact Nat.succ_le_succ (Nat.zero_le _)
  | [_, _], _, _ => exact Nat.succ_le_succ (Nat.succ_le_succ (Nat.zero_le _))
  | [_, _, _], _, _ => exact Nat.le_refl _
  | x :: y :: z :: u :: t, h, k =>
    have h1 := (List.nodup_cons.1 h)
    have h2 := (List.nodup_cons.1 h1.2)
    have h3 := (List.nodup_cons.1 h2.2)
    have b1 := k x (by simp)
    have b2 := k y (by simp)
    have b3 := k z (by simp)
    have b4 := k u (by simp)
    have n1 : x ≠ y := fun e => h1.1 (by simp [e])
    have n2 : x ≠ z := fun e => h1.1 (by simp [e])
    have n3 : x ≠ u := fun e => h1.1 (by simp [e])
    have n4 : y ≠ z := fun e => h2.1 (by simp [e])
    have n5 : y ≠ u := fun e => h2.1 (by simp [e])
    have n6 : z ≠ u := fun e => h3.1 (by simp [e])
    omega
theorem up_nodup (a : List Int) (h : Up a) : a.Nodup := List.Pairwise.imp (fun h => Int.ne_of_lt h) h
def reachZ (P : Plc) (g : Int) : List Int := if askV P g = 0 then rch P g else []
theorem reach_len (P : Plc) (g : Int) : (reachZ P g).length ≤ 3 := by
  unfold reachZ
  split
  · rename_i h
    exact up3 _ (rch_up P g) (rch_in3 P (ask_pf P g h) g)
  · exact Nat.zero_le _
end Go.Proofs.YtgefcoojnahokaaDoor
