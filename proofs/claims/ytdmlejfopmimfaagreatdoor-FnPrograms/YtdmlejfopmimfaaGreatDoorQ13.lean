/- Texts of this seat, joined. -/
import Derived.OwnWalk
import Derived.WalkMore
import Derived.ScopeJumps
import Derived.Test.YtdmlejfopmimfaaGreatDoorQ10
namespace Go.Proofs.YtdmlejfopmimfaaGreatDoor
open Go.RowKit
set_option linter.unusedVariables false

theorem info_strL : (Tryz.prog.info? 9).map (fun i => (i.zero, i.size, i.bytes)) = some (some (.string ⟨#[]⟩), 1, 16) := by kernel_rfl
theorem info_strsL : (Tryz.prog.info? 59).map (fun i => (i.zero, i.size, i.bytes)) = some (some (.slice none 0 0), 1, 24) := by kernel_rfl
theorem own_typesL {w : World} {base base' e e' sz sz' n m : Nat} {v u : Value} {xs ys : List Value} (h : w.ownsRow base e sz v n xs) (k : w.ownsRow base' e' sz' u m ys) (hne : e ≠ e') : v.ownBlock = none ∨ v.ownBlock ≠ u.ownBlock := by
  obtain ⟨h1, ⟨rfl, h3⟩ | ⟨g, cap, cur, rfl, hg, hr, rest⟩⟩ := h
  · exact .inl rfl
  · obtain ⟨k1, ⟨rfl, k3⟩ | ⟨g', cap', cur', rfl, kg, kr, rest'⟩⟩ := k
    · exact .inr (fun e => by cases e)
    · refine .inr fun e => ?_
      cases e
      rw [hr] at kr
      cases kr
      exact hne rfl
theorem below_grownL {w w' : World} (h : Below w.heap.size w w') (row : Option Nat) : w.grownBy w' row := ⟨h.os, h.tape, h.output, h.size, fun k hk _ => h.block k hk⟩
theorem owns_keepL {w w' : World} {base n sz : Nat} {e : TypeId} {v : Value} {xs : List Value} (h : w.ownsRow base e sz v n xs) (hb : Below w.heap.size w w') : w'.ownsRow base e sz v n xs := by
  refine h.kept (below_grownL hb none) ?_
  cases v.ownBlock <;> simp
theorem owns_mono {w : World} {base base' n sz : Nat} {e : TypeId} {v : Value} {xs : List Value} (h : w.ownsRow base e sz v n xs) (hb : base' ≤ base) : w.ownsRow base' e sz v n xs := by
  obtain ⟨h1, h2 | ⟨g, cap, cur, hv, hg, rest⟩⟩ := h
  · exact ⟨h1, .inl h2⟩
  · exact ⟨h1, .inr ⟨g, cap, cur, hv, Nat.le_trans hb hg, rest⟩⟩
def strs (ss : List Wb) : List Value := ss.map fun l => .string (bq l)
/-- A row of strings of the call's own. -/
def Os (w : World) (base : Nat) (v : Value) (ss : List Wb) : Prop := w.ownsRow base 9 1 v ss.length (strs ss)
theorem Os.keep {w w' : World} {base : Nat} {v : Value} {ss : List Wb} (h : Os w base v ss) (hb : Below w.heap.size w w') : Os w' base v ss := owns_keepL h hb
theorem Os.nil (w : World) (base : Nat) : Os w base (.slice none 0 0) [] := World.ownsRow_nil w base _ _
theorem Os.mono {w : World} {base base' : Nat} {v : Value} {ss : List Wb} (h : Os w base v ss) (hb : base' ≤ base) : Os w base' v ss := owns_mono h hb
theorem Os.lt {w : World} {base : Nat} {v : Value} {ss : List Wb} (h : Os w base v ss) : ∀ k, v.ownBlock = some k → base ≤ k ∧ k < w.heap.size := World.ownsRow.lt h
theorem Os.kept {w w' : World} {base : Nat} {v : Value} {ss : List Wb} {row : Option Nat} (h : Os w base v ss) (hg : w.grownBy w' row) (hne : v.ownBlock = none ∨ v.ownBlock ≠ row) : Os w' base v ss := World.ownsRow.kept h hg hne
theorem Os.shape {w : World} {base : Nat} {v : Value} {ss : List Wb} (h : Os w base v ss) : ∃ a cap, v = .slice a ss.length cap ∧ ss.length ≤ cap ∧ cap ≤ maxLen ∧ (a = none → ss = []) ∧ (∀ x, a = some x → ∃ g, x = ⟨g, 0, none⟩) := by
  obtain ⟨h1, ⟨rfl, h3⟩ | ⟨g, cap, cur, rfl, hg, hr, h4, h5, h6⟩⟩ := h
  · have : ss.length = 0 := h3
    exact ⟨none, 0, by rw [this], by omega, by unfold maxLen; omega, fun _ => List.eq_nil_of_length_eq_zero this, fun x e => by cases e⟩
  · exact ⟨some ⟨g, 0, none⟩, cap, rfl, h4, h5, (fun e => by cases e), (fun x e => by cases e; exact ⟨g, rfl⟩)⟩
/-- Lines so far: a row of slices, each a row of strings below a bound. -/
def Li (w : World) (b0 hi : Nat) (v : Value) (ls : List (List Wb)) : Prop :=
  ∃ vs : List Value, w.ownsRow b0 59 1 v ls.length vs ∧ vs.length = ls.length ∧ ∀ j, j < ls.length → Os w b0 (vs.getD j undef) (ls.getD j []) ∧ ∀ g, (vs.getD j undef).ownBlock = some g → g < hi
theorem Li.nil (w : World) (b0 hi : Nat) : Li w b0 hi (.slice none 0 0) [] := ⟨[], World.ownsRow_nil w b0 _ _, rfl, fun j hj => absurd hj (Nat.not_lt_zero _)⟩
theorem Li.shape {w : World} {b0 hi : Nat} {v : Value} {ls : List (List Wb)} (h : Li w b0 hi v ls) : ∃ a cap, v = .slice a ls.length cap := by
  obtain ⟨vs, ⟨h1, ⟨rfl, h3⟩ | ⟨g, cap, cur, rfl, hg, hr, h4, h5, h6⟩⟩, _⟩ := h
  · have : ls.length = 0 := h3
    exact ⟨none, 0, by rw [this]⟩
  · exact ⟨some ⟨g, 0, none⟩, cap, rfl⟩
theorem Li.keep {w w' : World} {b0 hi : Nat} {v : Value} {ls : List (List Wb)} (h : Li w b0 hi v ls) (hb : Below w.heap.size w w') : Li w' b0 hi v ls := by
  obtain ⟨vs, h1, h2, h3⟩ := h
  exact ⟨vs, owns_keepL h1 hb, h2, fun j hj => ⟨(h3 j hj).1.keep hb, (h3 j hj).2⟩⟩
theorem Li.mono {w : World} {b0 hi hi' : Nat} {v : Value} {ls : List (List Wb)} (h : Li w b0 hi v ls) (hb : hi ≤ hi') : Li w b0 hi' v ls := by
  obtain ⟨vs, h1, h2, h3⟩ := h
  exact ⟨vs, h1, h2, fun j hj => ⟨(h3 j hj).1, fun g hg => Nat.lt_of_lt_of_le ((h3 j hj).2 g hg) hb⟩⟩
/-- A row of strings above the bound grows: the lines stay. -/
theorem Li.words {w w' : World} {b0 hi : Nat} {v u : Value} {ls : List (List Wb)} {ss : List Wb} (h : Li w b0 hi v ls) (k : Os w hi u ss) (hg : w.grownBy w' u.ownBlock) : Li w' b0 hi v ls := by
  obtain ⟨vs, h1, h2, h3⟩ := h
  refine ⟨vs, h1.kept hg (own_typesL h1 k (by decide)), h2, fun j hj => ⟨(h3 j hj).1.kept hg ?_, (h3 j hj).2⟩⟩
  cases e : (vs.getD j undef).ownBlock with
  | none => exact .inl rfl
  | some g =>
    refine .inr fun e2 => ?_
    have := (h3 j hj).2 g e
    have := (k.lt g e2.symm).1
    omega
theorem strs_app (a b : List Wb) : strs (a ++ b) = strs a ++ strs b := by simp [strs]
theorem wp_pushL {ops : Array Oper} {rest : List Oper} {o : Oper} {act : Act} {Q : Exit → Act → World → Prop} (w : World) (hgd : o.guard = none) (s x : Operand)
    (ho : o.op = .call { callee := .builtin .append, args := #[s, x], argTypes := #[59, 59] }) (base : Nat) (v : Value) (ss : List Wb)
    (hs : act.eval s = v) (hown : Os w base v ss) (g : Nat) (t : Wb) (hx : act.eval x = .slice (some ⟨g, 0, none⟩) 1 1) (hg : w.cell? ⟨g, 0, none⟩ = some (.string (bq t)))
    (hn : ss.length ≤ 2000000) (hbase : base ≤ w.heap.size)
    (h : ∀ v' w', Os w' base v' (ss ++ [t]) → w.grownBy w' v.ownBlock → wpList Tryz.prog ops Q rest (act.put o.dst v') w') :
    wpList Tryz.prog ops Q (o :: rest) act w := by
  obtain ⟨i, hi, hz0, hz1, hz2⟩ := info_parts info_strL
  refine wpList_append_own w hgd s x 59 ho base 9 i _ 1 16 Tryz.underlying59 hi hz0 hz1 hz2 rfl (by decide) v ss.length (strs ss) hs hown ⟨g, 0, none⟩ 1 1 [.string (bq t)] hx rfl ?_ ?_ (by unfold maxLen; omega) (by omega) hbase ?_
  · intro j u hj
    have hj0 : j = 0 := by
      have := (List.getElem?_eq_some_iff.1 hj).1
      simpa using this
    subst hj0
    have hu : Value.string (bq t) = u := by simpa using hj
    subst hu
    exact hg
  · intro u hu
    simp at hu
    subst hu
    rfl
  · intro v' w' h1 h2 _
    refine h v' w' ?_ h2
    unfold Os
    rw [List.length_append, strs_app]
    exact h1
theorem wp_pushLine {ops : Array Oper} {rest : List Oper} {o : Oper} {act : Act} {Q : Exit → Act → World → Prop} (w : World) (hgd : o.guard = none) (s x : Operand)
    (ho : o.op = .call { callee := .builtin .append, args := #[s, x], argTypes := #[52, 52] }) (b0 hi hi' : Nat) (v : Value) (ls : List (List Wb))
    (hs : act.eval s = v) (hown : Li w b0 hi v ls) (g : Nat) (u : Value) (ws : List Wb) (hx : act.eval x = .slice (some ⟨g, 0, none⟩) 1 1) (hg : w.cell? ⟨g, 0, none⟩ = some u) (hu : Os w b0 u ws) (hlt : ∀ k, u.ownBlock = some k → k < hi') (hhi : hi ≤ hi')
    (hn : ls.length ≤ 1000000) (hbase : b0 ≤ w.heap.size)
    (h : ∀ v' w', Li w' b0 hi' v' (ls ++ [ws]) → w.grownBy w' v.ownBlock → wpList Tryz.prog ops Q rest (act.put o.dst v') w') :
    wpList Tryz.prog ops Q (o :: rest) act w := by
  obtain ⟨i, hi0, hz0, hz1, hz2⟩ := info_parts info_strsL
  obtain ⟨vs, h1, h2, h3⟩ := hown
  have hone : u.oneCell' = true := by obtain ⟨a, c, rfl, _⟩ := hu.shape; rfl
  refine wpList_append_own w hgd s x 52 ho b0 59 i _ 1 24 Tryz.underlying52 hi0 hz0 hz1 hz2 rfl (by decide) v ls.length vs hs h1 ⟨g, 0, none⟩ 1 1 [u] hx rfl ?_ ?_ (by unfold maxLen; omega) (by omega) hbase ?_
  · intro j u' hj
    have hj0 : j = 0 := by
      have := (List.getElem?_eq_some_iff.1 hj).1
      simpa using this
    subst hj0
    have hu' : u = u' := by simpa using hj
    subst hu'
    exact hg
  · intro u' hu'
    simp at hu'
    subst hu'
    exact hone
  · intro v' w' k1 k2 _
    refine h v' w' ⟨vs ++ [u], by rw [List.length_append]; exact k1, by simp [h2], fun j hj => ?_⟩ k2
    rw [List.length_append] at hj
    by_cases hjl : j < ls.length
    · have e1 : (vs ++ [u]).getD j undef = vs.getD j undef := by simp [List.getD, List.getElem?_append_left (show j < vs.length by omega)]
      have e2 : (ls ++ [ws]).getD j [] = ls.getD j [] := by simp [List.getD, List.getElem?_append_left hjl]
      rw [e1, e2]
      refine ⟨(h3 j hjl).1.kept k2 (own_typesL (h3 j hjl).1 h1 (by decide)), fun q hq => Nat.lt_of_lt_of_le ((h3 j hjl).2 q hq) hhi⟩
    · obtain rfl : j = ls.length := by simp at hj; omega
      have e1 : (vs ++ [u]).getD ls.length undef = u := by simp [List.getD, ← h2]
      have e2 : (ls ++ [ws]).getD ls.length [] = ws := by simp [List.getD]
      rw [e1, e2]
      exact ⟨hu.kept k2 (own_typesL hu h1 (by decide)), hlt⟩

/-- A scope in which the run jumps to several labels. -/
def jumps (ok : Nat → Prop) (J : Nat → Act → World → Prop) (Q : Exit → Act → World → Prop) : Exit → Act → World → Prop
  | .goto l', a, w => ok l' ∧ J l' a w
  | e, a, w => Q e a w
theorem wp_scope_many {P : Program} {a : Act} {w : World} {Q : Exit → Act → World → Prop} {c : Code} (rest : Nat → Code) (ok : Nat → Prop) (J : Nat → Act → World → Prop) (μ : Nat → Act → World → Nat) (hf : ∀ l, ok l → findLabel c l = some (rest l))
    (first : c.wp P (jumps ok J Q) a w)
    (pass : ∀ l a w, ok l → J l a w → (rest l).wp P (jumps ok (fun l' a' w' => J l' a' w' ∧ μ l' a' w' < μ l a w) Q) a w) : (Code.scope c).wp P Q a w := by
  intro b k cs
  have hg : ∀ l, ok l → gotoIn l (.inScope c :: k) = some (.code (rest l) :: .inScope c :: k) := fun l hl => by simp [gotoIn, hf l hl]
  have key : ∀ n l a w, μ l a w = n → ok l → J l a w → ∃ e a' w', Q e a' w' ∧ Arrives P (lone (b.at a (.code (rest l) :: .inScope c :: k)) cs w) b k cs e a' w' := by
    intro n
    induction n using Nat.strongRecOn with
    | _ n ih =>
      intro l a w hn hl hJ
      obtain ⟨e, a₁, w₁, hq, harr⟩ := pass l a w hl hJ b (.inScope c :: k) cs
      cases e with
      | normal => exact ⟨.normal, a₁, w₁, hq, Steps.trans harr (.one step_inScope)⟩
      | exit id => exact ⟨.exit id, a₁, w₁, hq, fun k' hk => harr k' (by simp [exitTo, hk])⟩
      | goto l' =>
        obtain ⟨hl', hJ', hlt⟩ := hq
        obtain ⟨e₂, a₂, w₂, hq₂, harr₂⟩ := ih _ (by omega) l' a₁ w₁ rfl hl' hJ'
        exact ⟨e₂, a₂, w₂, hq₂, .of_steps (harr _ (hg l' hl')) harr₂⟩
      | ret => exact ⟨_, a₁, w₁, hq, harr⟩
      | panic ch => exact ⟨_, a₁, w₁, hq, harr⟩
      | outgrown => exact ⟨_, a₁, w₁, hq, harr⟩
  obtain ⟨e, a₁, w₁, hq, harr⟩ := first b (.inScope c :: k) cs
  cases e with
  | normal => exact ⟨.normal, a₁, w₁, hq, .head step_scope (Steps.trans harr (.one step_inScope))⟩
  | exit id => exact ⟨.exit id, a₁, w₁, hq, fun k' hk => .head step_scope (harr k' (by simp [exitTo, hk]))⟩
  | goto l' =>
    obtain ⟨hl', hJ'⟩ := hq
    obtain ⟨e₂, a₂, w₂, hq₂, harr₂⟩ := key _ l' a₁ w₁ rfl hl' hJ'
    exact ⟨e₂, a₂, w₂, hq₂, .of_steps (.head step_scope (harr _ (hg l' hl'))) harr₂⟩
  | ret => exact ⟨_, a₁, w₁, hq, .of_steps (.one step_scope) harr⟩
  | panic ch => exact ⟨_, a₁, w₁, hq, .of_steps (.one step_scope) harr⟩
  | outgrown => exact ⟨_, a₁, w₁, hq, .of_steps (.one step_scope) harr⟩
end Go.Proofs.YtdmlejfopmimfaaGreatDoor
