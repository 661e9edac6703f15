/- Texts of this seat, joined. -/
import Derived.OrdersHeld
import Derived.Test.YtdhdfopkcpkbeaaGreatDoorQ01
namespace Go.Proofs.YtdhdfopkcpkbeaaGreatDoor
open Go.RowKit
set_option linter.unusedVariables false

variable {P : Program} {ops : Array Oper} {Q : Exit → Act → World → Prop} {md : Region.Mode} {S : World → Prop} {z : Nat}
/-- Each order from here on; z: the operation behind which S is not asked. -/
def Hz (P : Program) (md : Region.Mode) (ops : Array Oper) (Q : Exit → Act → World → Prop) (S : World → Prop) (z : Nat) : Nat → Array Bool → Act → World → Prop
  | 0, L, a, w => Region.ready md ops L = [] ∧ Q .normal a w
  | n + 1, L, a, w => (Region.ready md ops L = [] → Q .normal a w) ∧ ∀ i ∈ Region.ready md ops L, wpOp P ops Q i (fun a' w' => (i ≠ z → S w') ∧ Hz P md ops Q S z n (L.setIfInBounds i true) a' w') a w
theorem hz_any : ∀ (n : Nat) (L : Array Bool) (a : Act) (w : World), Hz P md ops Q S z n L a w → wpAny P md ops Q n L a w
  | 0, _, _, _, h => h
  | n + 1, _, _, _, h => ⟨h.1, fun i hi => wpOp_mono (fun _ _ k => hz_any n _ _ _ k.2) (h.2 i hi)⟩
theorem hz_region {id : Nat} {a : Act} {w : World} (S : World → Prop) (z : Nat) (hm : P.follows .mixedOrders = true) (h : Hz P .any ops Q S z ops.size (Array.replicate ops.size false) a w.drew) : (Code.region id ops true).wp P Q a w :=
  wp_region_any hm (hz_any _ _ _ _ h)
/-- The operation i is taken now, though others might come first: it reads what none of them turns but z, which waits for it. -/
theorem hz_first {i : Nat} {oi : Oper} {v : Value} (hi : ops[i]? = some oi) (hsel : ∀ (j : Nat) (o : Oper) cs b, ops[j]? = some o → o.op ≠ .select cs b) (hz : ∀ oz, ops[z]? = some oz → ∃ e ∈ oz.after, Region.binds md e = true ∧ e.on = i) (hzi : i ≠ z)
    (hQ : ∀ c a w, Q (.panic c) (a.put oi.dst v) w → Q (.panic c) a w) : ∀ (n : Nat) (L : Array Bool) (a : Act) (w : World),
      (∀ j oj, ops[j]? = some oj → j ≠ i → L.getD j true = false → (∀ e ∈ oj.after, Region.binds md e = true → e.on ≠ i) → oi.apart ops oj = true) →
      i ∈ Region.ready md ops L → YieldsIf P ops S oi v a → S w → Hz P md ops Q S z n (L.setIfInBounds i true) (a.put oi.dst v) w → Hz P md ops Q S z (n + 1) L a w := by
  intro n
  induction n with
  | zero =>
    intro L a w _ hr hy hS H
    refine ⟨fun h => (by rw [h] at hr; cases hr), fun j hj => ?_⟩
    rcases Nat.decEq j i with hji | hji
    · have k := ready_mono hj hji
      rw [H.1] at k
      cases k
    · subst hji
      exact hy.wpOp hi hS ⟨fun _ => hS, H⟩
  | succ n ih =>
    intro L a w hfree hr hy hS H
    refine ⟨fun h => (by rw [h] at hr; cases hr), fun j hj => ?_⟩
    rcases Nat.decEq j i with hji | hji
    · obtain ⟨hun, oj, hoj, hall⟩ := mem_ready.1 hj
      have hin := (mem_ready.1 hr).1
      have hno : ∀ e ∈ oj.after, Region.binds md e = true → e.on ≠ i := fun e he hb heq => by
        have k := hall e he hb
        rw [heq] at k
        rcases Nat.lt_or_ge i L.size with h' | h'
        · simp [h'] at hin k; rw [hin] at k; cases k
        · simp [Array.getElem?_eq_none h'] at k
      have hjz : j ≠ z := fun e => by
        subst e
        obtain ⟨e, he, hb, heq⟩ := hz oj hoj
        exact hno e he hb heq
      refine wpOp_mono (fun a' w' k => ⟨fun _ => k.2.1 hjz, ih (L.setIfInBounds j true) a' w' ?_ (ready_mono hr (Ne.symm hji)) k.1 (k.2.1 hjz) ?_⟩) (wpOp_putIf hoj (hfree j oj hoj hji hun hno) (fun cs b => hsel i oi cs b hi) (fun cs b => hsel j oj cs b hoj) hQ hy (H.2 j (ready_mono hj hji)))
      · intro k ok hk hki hku hkn
        refine hfree k ok hk hki ?_ hkn
        by_cases hjk : j = k
        · subst hjk; exact hun
        · rw [getD_set_ne true hjk] at hku; exact hku
      · rw [Array.setIfInBounds_comm _ _ hji]
        exact k.2.2
    · subst hji
      exact hy.wpOp hi hS ⟨fun _ => hS, H⟩
theorem hz_take {i : Nat} {oi oz : Oper} {v : Value} {n : Nat} {L : Array Bool} {a : Act} {w : World} (hi : ops[i]? = some oi) (hoz : ops[z]? = some oz) (hz : (oz.after.toList.any fun e => Region.binds md e && decide (e.on = i)) = true) (hzi : i ≠ z)
    (hs : Region.noSelect ops = true) (hf : Region.free md ops L i = true) (hr : (Region.ready md ops L).contains i = true)
    (hQ : ∀ c a w, Q (.panic c) (a.put oi.dst v) w → Q (.panic c) a w) (hy : YieldsIf P ops S oi v a) (hS : S w) (h : Hz P md ops Q S z n (L.setIfInBounds i true) (a.put oi.dst v) w) : Hz P md ops Q S z (n + 1) L a w :=
  hz_first hi (Region.noSelect_spec hs) (fun oz' e => by
    rw [hoz] at e
    cases e
    obtain ⟨e, he, k⟩ := List.any_eq_true.1 hz
    simp only [Bool.and_eq_true, decide_eq_true_eq] at k
    exact ⟨e, by simpa using he, k.1, k.2⟩) hzi hQ n L a w (Region.free_spec hi hf) (by simpa using hr) hy hS h
/-- Whichever is ready comes next. -/
theorem hz_ready {rs : List Nat} {n : Nat} {L : Array Bool} {a : Act} {w : World} (hr : Region.ready md ops L = rs) (hne : rs ≠ [])
    (h : ∀ i ∈ rs, wpOp P ops Q i (fun a' w' => (i ≠ z → S w') ∧ Hz P md ops Q S z n (L.setIfInBounds i true) a' w') a w) : Hz P md ops Q S z (n + 1) L a w :=
  ⟨fun h0 => absurd (hr ▸ h0) hne, hr ▸ h⟩
theorem hz_op {i : Nat} {o : Oper} {K : Act → World → Prop} {a : Act} {w : World} (hi : ops[i]? = some o) (h : if Region.wanted o (yielded ops a.tmps) = true then Oper.wp P o a w K Q else K (a.put o.dst undef) w) : wpOp P ops Q i K a w := by
  unfold wpOp
  simp only [hi]
  split at h
  · rename_i hw; rw [if_pos hw]; exact .inl h
  · rename_i hw; rw [if_neg hw]; exact h
theorem hz_done {n : Nat} {L : Array Bool} {a : Act} {w : World} (hr : Region.ready md ops L = []) (h : Q .normal a w) : Hz P md ops Q S z n L a w := by
  cases n with
  | zero => exact ⟨hr, h⟩
  | succ n => exact ⟨fun _ => h, by rw [hr]; simp⟩
theorem hz_next {i n : Nat} {o : Oper} {L : Array Bool} {a : Act} {w : World} (hi : ops[i]? = some o) (h : ∀ K : Act → World → Prop, Hid (∀ a' w', (i ≠ z → S w') → Hz P md ops Q S z n (L.setIfInBounds i true) a' w' → K a' w') → if Region.wanted o (yielded ops a.tmps) = true then Oper.wp P o a w K Q else K (a.put o.dst undef) w) : wpOp P ops Q i (fun a' w' => (i ≠ z → S w') ∧ Hz P md ops Q S z n (L.setIfInBounds i true) a' w') a w :=
  hz_op hi (h _ fun a' w' h1 h2 => ⟨h1, h2⟩)
theorem hz_nil {p : Nat → Prop} : ∀ i ∈ ([] : List Nat), p i := fun i hi => by cases hi
theorem hz_cons {p : Nat → Prop} {x : Nat} {t : List Nat} (h1 : p x) (h2 : ∀ i ∈ t, p i) : ∀ i ∈ x :: t, p i := fun i hi => by
  rcases List.mem_cons.1 hi with rfl | hi
  · exact h1
  · exact h2 i hi
theorem hz_enter {o : Oper} {a : Act} {w : World} {K : Act → World → Prop} {R : Ending → World → Prop} (f : FuncId) (args : Array Value) (hw : Region.wanted o (yielded ops a.tmps) = true) (he : ∀ w, (execOp a.eval o).run P w = .ok (.enter f args) w) (hc : Calls P f args w R) (h : ∀ e w', R e w' → ∃ v, e = .returned v ∧ K (a.put o.dst v) w') :
    if Region.wanted o (yielded ops a.tmps) = true then Oper.wp P o a w K Q else K (a.put o.dst undef) w := by
  rw [if_pos hw]
  unfold Oper.wp
  rw [he w]
  exact hc.mono fun e w' r => by obtain ⟨v, rfl, k⟩ := h e w' r; exact k
theorem hz_value {o : Oper} {a : Act} {w w' : World} {K : Act → World → Prop} (v : Value) (hw : Region.wanted o (yielded ops a.tmps) = true) (he : (execOp a.eval o).run P w = .ok (.value v) w') (h : K (a.put o.dst v) w') :
    if Region.wanted o (yielded ops a.tmps) = true then Oper.wp P o a w K Q else K (a.put o.dst undef) w := by
  rw [if_pos hw]
  unfold Oper.wp
  rw [he]
  exact h
/-- A name for the goal: each state is then a fact of its own. -/
theorem hz_name {n : Nat} {L : Array Bool} {a : Act} {w : World} (h : ∀ G : Nat → Array Bool → Act → World → Prop, Hid (G = Hz P md ops Q S z) → G n L a w) : Hz P md ops Q S z n L a w := h _ rfl
end Go.Proofs.YtdhdfopkcpkbeaaGreatDoor
