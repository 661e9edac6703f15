/- A region that draws its order, walked by a condition on what is listed: each operation is looked at once, not each order. -/
import Derived.Test.YtgefcoojnahokaaDoorBase
import Derived.Orders
namespace Go.Proofs.YtgefcoojnahokaaDoor
open Go.RowKit
set_option linter.unusedVariables false

/-- How many operations are not listed yet. -/
def unlisted (l : Array Bool) : Nat := l.toList.countP (fun b => !b)
theorem unlisted_set {l : Array Bool} {i : Nat} (h : l.getD i true = false) : unlisted l = unlisted (l.setIfInBounds i true) + 1 := by
  have hi : i < l.size := by
    rcases Nat.lt_or_ge i l.size with h1 | h1
    · exact h1
    · rw [Array.getD, dif_neg (by omega)] at h; cases h
  have hl : l.toList[i]? = some false := by
    rw [Array.getD, dif_pos hi] at h
    rw [Array.getElem?_toList, Array.getElem?_eq_getElem hi]
    simpa using h
  unfold unlisted
  rw [Array.toList_setIfInBounds]
  generalize l.toList = t at hl
  clear h hi
  induction t generalizing i with
  | nil => simp at hl
  | cons x r ih =>
    cases i with
    | zero =>
      simp at hl
      subst hl
      simp
    | succ i =>
      simp at hl
      have := ih hl
      simp [List.countP_cons, this]
      omega
theorem ready_listed {md : Region.Mode} {ops : Array Oper} {l : Array Bool} {i : Nat} (h : i ∈ Region.ready md ops l) : l.getD i true = false := by
  unfold Region.ready at h
  have := (List.mem_filter.1 h).2
  simp only [Bool.and_eq_true, Bool.not_eq_true'] at this
  exact this.1
theorem ready_after {md : Region.Mode} {ops : Array Oper} {l : Array Bool} {i : Nat} {o : Oper} (h : i ∈ Region.ready md ops l) (ho : ops[i]? = some o) : o.after.all (fun e => !Region.binds md e || l.getD e.on false) = true := by
  unfold Region.ready at h
  have := (List.mem_filter.1 h).2
  simp only [Bool.and_eq_true, ho, Option.map_some, Option.getD_some] at this
  exact this.2
theorem unlisted_none {l : Array Bool} (h : unlisted l = 0) (i : Nat) : l.getD i true = true := by
  unfold unlisted at h
  rw [List.countP_eq_zero] at h
  rw [Array.getD]
  split
  · rename_i hi
    have := h l[i] (by simp)
    simpa using this
  · rfl
theorem wpAny_inv {P : Program} {md : Region.Mode} {ops : Array Oper} {Q : Exit → Act → World → Prop} (I : Array Bool → Act → World → Prop)
    (step : ∀ l a w, I l a w → ∀ i ∈ Region.ready md ops l, wpOp P ops Q i (fun a' w' => I (l.setIfInBounds i true) a' w') a w)
    (fin : ∀ l a w, I l a w → Region.ready md ops l = [] → Q .normal a w) : ∀ (fuel : Nat) (l : Array Bool) (a : Act) (w : World), unlisted l ≤ fuel → I l a w → wpAny P md ops Q fuel l a w := by
  intro fuel
  induction fuel with
  | zero =>
    intro l a w hf h
    have hr : Region.ready md ops l = [] := by
      cases hh : Region.ready md ops l with
      | nil => rfl
      | cons x xs =>
        have := ready_listed (md := md) (ops := ops) (l := l) (i := x) (by rw [hh]; exact List.mem_cons_self ..)
        rw [unlisted_none (by omega)] at this
        cases this
    exact ⟨hr, fin l a w h hr⟩
  | succ fuel ih =>
    intro l a w hf h
    refine ⟨fun hr => fin l a w h hr, fun i hi => ?_⟩
    have hu := unlisted_set (ready_listed hi)
    exact wpOp_mono (fun a' w' h' => ih _ _ _ (by omega) h') (step l a w h i hi)
/-- The region by such a condition. -/
theorem region_inv {P : Program} {id : Nat} {ops : Array Oper} {Q : Exit → Act → World → Prop} {a : Act} {w : World} (hm : P.follows .mixedOrders = true) (I : Array Bool → Act → World → Prop)
    (h0 : I (Array.replicate ops.size false) a w.drew)
    (step : ∀ l a w, I l a w → ∀ i ∈ Region.ready .any ops l, wpOp P ops Q i (fun a' w' => I (l.setIfInBounds i true) a' w') a w)
    (fin : ∀ l a w, I l a w → Region.ready .any ops l = [] → Q .normal a w) : (Code.region id ops true).wp P Q a w := by
  refine wp_region_any hm (wpAny_inv I step fin _ _ _ _ ?_ h0)
  unfold unlisted
  simp [List.countP_replicate]
end Go.Proofs.YtgefcoojnahokaaDoor
