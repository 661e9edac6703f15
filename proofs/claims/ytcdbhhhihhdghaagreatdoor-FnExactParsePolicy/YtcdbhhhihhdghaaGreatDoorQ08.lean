/- Texts of this seat, joined. -/
import Derived.OrdersHeld
import Derived.OwnWalk
import Derived.WalkMore
import Derived.ScopeJumps
import Derived.Deep.Cut
import Derived.Deep.RegionWith
import Derived.Deep.Slices
import Derived.Laws.AppendOwn
import Derived.Lib.SmallJoins
import Derived.Test.YtcdbhhhihhdghaaGreatDoorQ01
import Derived.Test.YtcdbhhhihhdghaaGreatDoorQ02
import Derived.Test.YtcdbhhhihhdghaaGreatDoorQ04
import Derived.Test.YtcdbhhhihhdghaaGreatDoorQ05
import Derived.Test.YtcdbhhhihhdghaaGreatDoorQ06
import Derived.Test.YtcdbhhhihhdghaaGreatDoorQ07
namespace Go.Proofs.YtcdbhhhihhdghaaGreatDoor
open Go.RowKit
set_option linter.unusedVariables false

variable {P : Program} {ops : Array Oper} {Q : Exit → Act → World → Prop} {md : Region.Mode} {S : World → Prop} {z : Nat}
/-- Each order from here on; z: the operation behind which S is not asked. -/
def Hz (P : Program) (md : Region.Mode) (ops : Array Oper) (Q : Exit → Act → World → Prop) (S : World → Prop) (z : Nat) : Nat → Array Bool → Act → World → Prop
  | 0, L, a, w => Region.ready md ops L = [] ∧ Q .normal a w
  | n + 1, L, a, w => (Region.ready md ops L = [] → Q .normal a w) ∧ ∀ i ∈ Region.ready md ops L, wpOp P ops Q i (fun a' w' => (i ≠ z → S w') ∧ Hz P md ops Q S z n (L.setIfInBounds i true) a' w') a w
theorem hz_any : ∀ (n : Nat) (L : Array Bool) (a : Act) (w : World), Hz P md ops Q S z n L a w → wpAny P md ops Q n L a w
  | 0, _, _, _, h => h
  | n + 1, _, _, _, h => ⟨h.1, fun i hi => wpOp_mono (fun _ _ k => hz_any n _ _ _ k.2) (h.2 i hi)⟩
theorem hz_region {id : Nat} {a : Act} {w : World} (S : World → Prop) (z : Nat) (hm : P.follows .mixedOrders = true) (h : Hz P .any ops Q S z ops.size (Array.replicate ops.size false) a w.drew) : (Code.region id ops true).wp P Q a w :=
  wp_region_any hm (hz_any _ _ _ _ h)
/-- The operation i is taken now, though others might come first: it reads what none of them turns but z, which waits for it. -/
theorem hz_first {i : Nat} {oi : Oper} {v : Value} (hi : ops[i]? = some oi) (hsel : ∀ (j : Nat) (o : Oper) cs b, ops[j]? = some o → o.op ≠ .select cs b) (hz : ∀ oz, ops[z]? = some oz → ∃ e ∈ oz.after, Region.binds md e = true ∧ e.on = i) (hzi : i ≠ z)
    (hQ : ∀ c a w, Q (.panic c) (a.put oi.dst v) w → Q (.panic c) a w) : ∀ (n : Nat) (L : Array Bool) (a : Act) (w : World),
      (∀ j oj, ops[j]? = some oj → j ≠ i → L.getD j true = false → (∀ e ∈ oj.after, Region.binds md e = true → e.on ≠ i) → oi.apart ops oj = true) →
      i ∈ Region.ready md ops L → YieldsIf P ops S oi v a → S w → Hz P md ops Q S z n (L.setIfInBounds i true) (a.put oi.dst v) w → Hz P md ops Q S z (n + 1) L a w := by
  intro n
  induction n with
  | zero =>
    intro L a w _ hr hy hS H
    refine ⟨fun h => (by rw [h] at hr; cases hr), fun j hj => ?_⟩
    rcases Nat.decEq j i with hji | hji
    · have k := ready_mono hj hji
      rw [H.1] at k
      cases k
    · subst hji
      exact hy.wpOp hi hS ⟨fun _ => hS, H⟩
  | succ n ih =>
    intro L a w hfree hr hy hS H
    refine ⟨fun h => (by rw [h] at hr; cases hr), fun j hj => ?_⟩
    rcases Nat.decEq j i with hji | hji
    · obtain ⟨hun, oj, hoj, hall⟩ := mem_ready.1 hj
      have hin := (mem_ready.1 hr).1
      have hno : ∀ e ∈ oj.after, Region.binds md e = true → e.on ≠ i := fun e he hb heq => by
        have k := hall e he hb
        rw [heq] at k
        rcases Nat.lt_or_ge i L.size with h' | h'
        · simp [h'] at hin k; rw [hin] at k; cases k
        · simp [Array.getElem?_eq_none h'] at k
      have hjz : j ≠ z := fun e => by
        subst e
        obtain ⟨e, he, hb, heq⟩ := hz oj hoj
        exact hno e he hb heq
      refine wpOp_mono (fun a' w' k => ⟨fun _ => k.2.1 hjz, ih (L.setIfInBounds j true) a' w' ?_ (ready_mono hr (Ne.symm hji)) k.1 (k.2.1 hjz) ?_⟩) (wpOp_putIf hoj (hfree j oj hoj hji hun hno) (fun cs b => hsel i oi cs b hi) (fun cs b => hsel j oj cs b hoj) hQ hy (H.2 j (ready_mono hj hji)))
      · intro k ok hk hki hku hkn
        refine hfree k ok hk hki ?_ hkn
        by_cases hjk : j = k
        · subst hjk; exact hun
        · rw [getD_set_ne true hjk] at hku; exact hku
      · rw [Array.setIfInBounds_comm _ _ hji]
        exact k.2.2
    · subst hji
      exact hy.wpOp hi hS ⟨fun _ => hS, H⟩
theorem hz_take {i : Nat} {oi oz : Oper} {v : Value} {n : Nat} {L : Array Bool} {a : Act} {w : World} (hi : ops[i]? = some oi) (hoz : ops[z]? = some oz) (hz : (oz.after.toList.any fun e => Region.binds md e && decide (e.on = i)) = true) (hzi : i ≠ z)
    (hs : Region.noSelect ops = true) (hf : Region.free md ops L i = true) (hr : (Region.ready md ops L).contains i = true)
    (hQ : ∀ c a w, Q (.panic c) (a.put oi.dst v) w → Q (.panic c) a w) (hy : YieldsIf P ops S oi v a) (hS : S w) (h : Hz P md ops Q S z n (L.setIfInBounds i true) (a.put oi.dst v) w) : Hz P md ops Q S z (n + 1) L a w :=
  hz_first hi (Region.noSelect_spec hs) (fun oz' e => by
    rw [hoz] at e
    cases e
    obtain ⟨e, he, k⟩ := List.any_eq_true.1 hz
    simp only [Bool.and_eq_true, decide_eq_true_eq] at k
    exact ⟨e, by simpa using he, k.1, k.2⟩) hzi hQ n L a w (Region.free_spec hi hf) (by simpa using hr) hy hS h
/-- Whichever is ready comes next. -/
theorem hz_ready {rs : List Nat} {n : Nat} {L : Array Bool} {a : Act} {w : World} (hr : Region.ready md ops L = rs) (hne : rs ≠ [])
    (h : ∀ i ∈ rs, wpOp P ops Q i (fun a' w' => (i ≠ z → S w') ∧ Hz P md ops Q S z n (L.setIfInBounds i true) a' w') a w) : Hz P md ops Q S z (n + 1) L a w :=
  ⟨fun h0 => absurd (hr ▸ h0) hne, hr ▸ h⟩
theorem hz_op {i : Nat} {o : Oper} {K : Act → World → Prop} {a : Act} {w : World} (hi : ops[i]? = some o) (h : if Region.wanted o (yielded ops a.tmps) = true then Oper.wp P o a w K Q else K (a.put o.dst undef) w) : wpOp P ops Q i K a w := by
  unfold wpOp
  simp only [hi]
  split at h
  · rename_i hw; rw [if_pos hw]; exact .inl h
  · rename_i hw; rw [if_neg hw]; exact h
theorem hz_done {n : Nat} {L : Array Bool} {a : Act} {w : World} (hr : Region.ready md ops L = []) (h : Q .normal a w) : Hz P md ops Q S z n L a w := by
  cases n with
  | zero => exact ⟨hr, h⟩
  | succ n => exact ⟨fun _ => h, by rw [hr]; simp⟩
theorem hz_next {i n : Nat} {o : Oper} {L : Array Bool} {a : Act} {w : World} (hi : ops[i]? = some o) (h : ∀ K : Act → World → Prop, Hid (∀ a' w', (i ≠ z → S w') → Hz P md ops Q S z n (L.setIfInBounds i true) a' w' → K a' w') → if Region.wanted o (yielded ops a.tmps) = true then Oper.wp P o a w K Q else K (a.put o.dst undef) w) : wpOp P ops Q i (fun a' w' => (i ≠ z → S w') ∧ Hz P md ops Q S z n (L.setIfInBounds i true) a' w') a w :=
  hz_op hi (h _ fun a' w' h1 h2 => ⟨h1, h2⟩)
theorem hz_nil {p : Nat → Prop} : ∀ i ∈ ([] : List Nat), p i := fun i hi => by cases hi
theorem hz_cons {p : Nat → Prop} {x : Nat} {t : List Nat} (h1 : p x) (h2 : ∀ i ∈ t, p i) : ∀ i ∈ x :: t, p i := fun i hi => by
  rcases List.mem_cons.1 hi with rfl | hi
  · exact h1
  · exact h2 i hi
end Go.Proofs.YtcdbhhhihhdghaaGreatDoor
namespace Go.Proofs.YtcdbhhhihhdghaaGreatDoor
open Go.RowKit
set_option linter.unusedVariables false

abbrev Wb := List UInt8
def bq (l : Wb) : ByteArray := ⟨l.toArray⟩
theorem bq_size (l : Wb) : (bq l).size = l.length := by simp [bq, ByteArray.size]
theorem bq_of (s : ByteArray) : s = bq s.data.toList := rfl
/-- Pieces between separators. -/
def spl (sep : UInt8) : Wb → Wb → List Wb
  | [], cur => [cur]
  | c :: r, cur => if c = sep then cur :: spl sep r [] else spl sep r (cur ++ [c])
theorem spl_ne (sep : UInt8) (r cur : Wb) : spl sep r cur ≠ [] := by
  induction r generalizing cur with
  | nil => simp [spl]
  | cons c r ih => unfold spl; split <;> simp [ih]
end Go.Proofs.YtcdbhhhihhdghaaGreatDoor
namespace Go.Proofs.YtcdbhhhihhdghaaGreatDoor
open Go.RowKit
set_option linter.unusedVariables false

theorem info_strL : (Tryz.prog.info? 9).map (fun i => (i.zero, i.size, i.bytes)) = some (some (.string ⟨#[]⟩), 1, 16) := by kernel_rfl
theorem own_typesL {w : World} {base base' e e' sz sz' n m : Nat} {v u : Value} {xs ys : List Value} (h : w.ownsRow base e sz v n xs) (k : w.ownsRow base' e' sz' u m ys) (hne : e ≠ e') : v.ownBlock = none ∨ v.ownBlock ≠ u.ownBlock := by
  obtain ⟨h1, ⟨rfl, h3⟩ | ⟨g, cap, cur, rfl, hg, hr, rest⟩⟩ := h
  · exact .inl rfl
  · obtain ⟨k1, ⟨rfl, k3⟩ | ⟨g', cap', cur', rfl, kg, kr, rest'⟩⟩ := k
    · exact .inr (fun e => by cases e)
    · refine .inr fun e => ?_
      cases e
      rw [hr] at kr
      cases kr
      exact hne rfl
theorem below_grownL {w w' : World} (h : Below w.heap.size w w') (row : Option Nat) : w.grownBy w' row := ⟨h.os, h.tape, h.output, h.size, fun k hk _ => h.block k hk⟩
theorem owns_keepL {w w' : World} {base n sz : Nat} {e : TypeId} {v : Value} {xs : List Value} (h : w.ownsRow base e sz v n xs) (hb : Below w.heap.size w w') : w'.ownsRow base e sz v n xs := by
  refine h.kept (below_grownL hb none) ?_
  cases v.ownBlock <;> simp
theorem owns_mono {w : World} {base base' n sz : Nat} {e : TypeId} {v : Value} {xs : List Value} (h : w.ownsRow base e sz v n xs) (hb : base' ≤ base) : w.ownsRow base' e sz v n xs := by
  obtain ⟨h1, h2 | ⟨g, cap, cur, hv, hg, rest⟩⟩ := h
  · exact ⟨h1, .inl h2⟩
  · exact ⟨h1, .inr ⟨g, cap, cur, hv, Nat.le_trans hb hg, rest⟩⟩
def strs (ss : List Wb) : List Value := ss.map fun l => .string (bq l)
/-- A row of strings of the call's own. -/
def Os (w : World) (base : Nat) (v : Value) (ss : List Wb) : Prop := w.ownsRow base 9 1 v ss.length (strs ss)
theorem Os.keep {w w' : World} {base : Nat} {v : Value} {ss : List Wb} (h : Os w base v ss) (hb : Below w.heap.size w w') : Os w' base v ss := owns_keepL h hb
theorem Os.nil (w : World) (base : Nat) : Os w base (.slice none 0 0) [] := World.ownsRow_nil w base _ _
theorem Os.mono {w : World} {base base' : Nat} {v : Value} {ss : List Wb} (h : Os w base v ss) (hb : base' ≤ base) : Os w base' v ss := owns_mono h hb
theorem Os.lt {w : World} {base : Nat} {v : Value} {ss : List Wb} (h : Os w base v ss) : ∀ k, v.ownBlock = some k → base ≤ k ∧ k < w.heap.size := World.ownsRow.lt h
theorem Os.kept {w w' : World} {base : Nat} {v : Value} {ss : List Wb} {row : Option Nat} (h : Os w base v ss) (hg : w.grownBy w' row) (hne : v.ownBlock = none ∨ v.ownBlock ≠ row) : Os w' base v ss := World.ownsRow.kept h hg hne
theorem Os.shape {w : World} {base : Nat} {v : Value} {ss : List Wb} (h : Os w base v ss) : ∃ a cap, v = .slice a ss.length cap ∧ ss.length ≤ cap ∧ cap ≤ maxLen ∧ (a = none → ss = []) ∧ (∀ x, a = some x → ∃ g, x = ⟨g, 0, none⟩) := by
  obtain ⟨h1, ⟨rfl, h3⟩ | ⟨g, cap, cur, rfl, hg, hr, h4, h5, h6⟩⟩ := h
  · have : ss.length = 0 := h3
    exact ⟨none, 0, by rw [this], by omega, by unfold maxLen; omega, fun _ => List.eq_nil_of_length_eq_zero this, fun x e => by cases e⟩
  · exact ⟨some ⟨g, 0, none⟩, cap, rfl, h4, h5, (fun e => by cases e), (fun x e => by cases e; exact ⟨g, rfl⟩)⟩
/-- Lines so far: a row of slices, each a row of strings below a bound. -/
def Li (w : World) (b0 hi : Nat) (v : Value) (ls : List (List Wb)) : Prop :=
  ∃ vs : List Value, w.ownsRow b0 34 1 v ls.length vs ∧ vs.length = ls.length ∧ ∀ j, j < ls.length → Os w b0 (vs.getD j undef) (ls.getD j []) ∧ ∀ g, (vs.getD j undef).ownBlock = some g → g < hi
theorem Li.nil (w : World) (b0 hi : Nat) : Li w b0 hi (.slice none 0 0) [] := ⟨[], World.ownsRow_nil w b0 _ _, rfl, fun j hj => absurd hj (Nat.not_lt_zero _)⟩
theorem Li.shape {w : World} {b0 hi : Nat} {v : Value} {ls : List (List Wb)} (h : Li w b0 hi v ls) : ∃ a cap, v = .slice a ls.length cap := by
  obtain ⟨vs, ⟨h1, ⟨rfl, h3⟩ | ⟨g, cap, cur, rfl, hg, hr, h4, h5, h6⟩⟩, _⟩ := h
  · have : ls.length = 0 := h3
    exact ⟨none, 0, by rw [this]⟩
  · exact ⟨some ⟨g, 0, none⟩, cap, rfl⟩
theorem Li.keep {w w' : World} {b0 hi : Nat} {v : Value} {ls : List (List Wb)} (h : Li w b0 hi v ls) (hb : Below w.heap.size w w') : Li w' b0 hi v ls := by
  obtain ⟨vs, h1, h2, h3⟩ := h
  exact ⟨vs, owns_keepL h1 hb, h2, fun j hj => ⟨(h3 j hj).1.keep hb, (h3 j hj).2⟩⟩
theorem Li.mono {w : World} {b0 hi hi' : Nat} {v : Value} {ls : List (List Wb)} (h : Li w b0 hi v ls) (hb : hi ≤ hi') : Li w b0 hi' v ls := by
  obtain ⟨vs, h1, h2, h3⟩ := h
  exact ⟨vs, h1, h2, fun j hj => ⟨(h3 j hj).1, fun g hg => Nat.lt_of_lt_of_le ((h3 j hj).2 g hg) hb⟩⟩
/-- A row of strings above the bound grows: the lines stay. -/
theorem Li.words {w w' : World} {b0 hi : Nat} {v u : Value} {ls : List (List Wb)} {ss : List Wb} (h : Li w b0 hi v ls) (k : Os w hi u ss) (hg : w.grownBy w' u.ownBlock) : Li w' b0 hi v ls := by
  obtain ⟨vs, h1, h2, h3⟩ := h
  refine ⟨vs, h1.kept hg (own_typesL h1 k (by decide)), h2, fun j hj => ⟨(h3 j hj).1.kept hg ?_, (h3 j hj).2⟩⟩
  cases e : (vs.getD j undef).ownBlock with
  | none => exact .inl rfl
  | some g =>
    refine .inr fun e2 => ?_
    have := (h3 j hj).2 g e
    have := (k.lt g e2.symm).1
    omega
theorem strs_app (a b : List Wb) : strs (a ++ b) = strs a ++ strs b := by simp [strs]
theorem wp_pushL {ops : Array Oper} {rest : List Oper} {o : Oper} {act : Act} {Q : Exit → Act → World → Prop} (w : World) (hgd : o.guard = none) (s x : Operand)
    (ho : o.op = .call { callee := .builtin .append, args := #[s, x], argTypes := #[34, 34] }) (base : Nat) (v : Value) (ss : List Wb)
    (hs : act.eval s = v) (hown : Os w base v ss) (g : Nat) (t : Wb) (hx : act.eval x = .slice (some ⟨g, 0, none⟩) 1 1) (hg : w.cell? ⟨g, 0, none⟩ = some (.string (bq t)))
    (hn : ss.length ≤ 2000000) (hbase : base ≤ w.heap.size)
    (h : ∀ v' w', Os w' base v' (ss ++ [t]) → w.grownBy w' v.ownBlock → wpList Tryz.prog ops Q rest (act.put o.dst v') w') :
    wpList Tryz.prog ops Q (o :: rest) act w := by
  obtain ⟨i, hi, hz0, hz1, hz2⟩ := info_parts info_strL
  refine wpList_append_own w hgd s x 34 ho base 9 i _ 1 16 Tryz.underlying34 hi hz0 hz1 hz2 rfl (by decide) v ss.length (strs ss) hs hown ⟨g, 0, none⟩ 1 1 [.string (bq t)] hx rfl ?_ ?_ (by unfold maxLen; omega) (by omega) hbase ?_
  · intro j u hj
    have hj0 : j = 0 := by
      have := (List.getElem?_eq_some_iff.1 hj).1
      simpa using this
    subst hj0
    have hu : Value.string (bq t) = u := by simpa using hj
    subst hu
    exact hg
  · intro u hu
    simp at hu
    subst hu
    rfl
  · intro v' w' h1 h2 _
    refine h v' w' ?_ h2
    unfold Os
    rw [List.length_append, strs_app]
    exact h1
end Go.Proofs.YtcdbhhhihhdghaaGreatDoor
namespace Go.Proofs.YtcdbhhhihhdghaaGreatDoor
open Go.RowKit
set_option linter.unusedVariables false

def isW (z : Int) : Bool := decide (0 ≤ z) && decide (z ≤ 4294967295)
end Go.Proofs.YtcdbhhhihhdghaaGreatDoor
namespace Go.Proofs.YtcdbhhhihhdghaaGreatDoor
open Go.RowKit
set_option linter.unusedVariables false

theorem bq_get (l : Wb) (j : Nat) (h : j < (bq l).size) : (bq l)[j]'h = l.getD j 0 := by
  have hl : j < l.length := by rw [bq_size] at h; exact h
  rw [List.getD, List.getElem?_eq_getElem hl]
  show (l.toArray)[j]'_ = _
  exact List.getElem_toArray _
theorem all_takeB (f : UInt8 → Bool) (l : Wb) (j : Nat) (h : j < l.length) : (l.take (j + 1)).all f = ((l.take j).all f && f (l.getD j 0)) := by
  rw [List.take_add_one, List.getElem?_eq_getElem h, List.all_append]
  simp [List.getD, List.getElem?_eq_getElem h]
theorem all_falseB (f : UInt8 → Bool) (l : Wb) (j : Nat) (h : j < l.length) (hf : f (l.getD j 0) = false) : l.all f = false := by
  rw [List.all_eq_false]
  exact ⟨l.getD j 0, by simp [List.getD, List.getElem?_eq_getElem h], by rw [hf]; decide⟩
end Go.Proofs.YtcdbhhhihhdghaaGreatDoor
namespace Go.Proofs.YtcdbhhhihhdghaaGreatDoor
open Go.RowKit
set_option linter.unusedVariables false

theorem info_lane : (Tryz.prog.info? 54).map (fun i => (i.zero, i.size, i.bytes)) = some (some lz.val, 5, 40) := by kernel_rfl

theorem eq_lane (a b c d z : Int) (w : World) : Calls Tryz.prog 68 #[.agg #[.int .i64 a, .int .i64 b, .int .i64 c, .int .i64 d, .int .i64 z], .agg #[.int .i64 a, .int .i64 b, .int .i64 c, .int .i64 d, .int .i64 z]] w fun e w' => e = .returned (.bool true) ∧ Below w.heap.size w w' := by
  go_enter Tryz.func68, Tryz.ntmps68
  go_wp2_with fail
  go_ret
  exact ⟨rfl, al (al (Below.refl _ _) _) _⟩

set_option maxHeartbeats 1000000 in
theorem eq_lanes (v u : Value) (rs : List Ln) (b c : Nat) (w : World) (h : Ls 54 w b v rs) (k : Ls 54 w c u rs) :
    Calls Tryz.prog 35 #[v, u] w fun e w' => e = .returned (.bool true) ∧ Below w.heap.size w w' := by
  obtain ⟨a, cap, rfl, l1, l2, hg⟩ := h.shape
  obtain ⟨a', cap', rfl, m1, m2, hg'⟩ := k.shape
  have HZ : Hid (Ls _ w b _ rs) := h
  have KZ : Hid (Ls _ w c _ rs) := k
  have hl : (rs.length : Int) ≤ 9223372036854775807 := by unfold maxLen at l2; omega
  clear h k
  obtain ⟨n, hn⟩ : ∃ n, rs.length = n := ⟨_, rfl⟩
  rw [hn] at HZ KZ hl l1 m1 hg hg' ⊢
  have HN : Hid (rs.length = n) := hn
  clear hn l1 m1 l2 m2
  go_enter Tryz.func35, Tryz.ntmps35
  go_wp2_with fail
  go_loopw [5] (fun i wr => ∃ j : Nat, j ≤ n ∧ i = .int .i64 j ∧ Below w.heap.size w wr) (fun i _ => n - (intOf i).toNat)
  case atStart => exact ⟨0, Nat.zero_le _, rfl, Below.refl _ _⟩
  case round =>
    obtain ⟨j, hj, rfl, hB⟩ := hrel
    have HB : Hid (Below _ _ _) := hB
    by_cases hlt : j < n
    · obtain ⟨g, rfl⟩ := hg (by omega)
      obtain ⟨g', rfl⟩ := hg' (by omega)
      obtain ⟨c0, c1, c2, c3, c4⟩ := HZ.out.cell HN.out.symm j hlt
      obtain ⟨d0, d1, d2, d3, d4⟩ := KZ.out.cell HN.out.symm j hlt
      have c0 := cell_keep hB c0
      have c1 := cell_keep hB c1
      have c2 := cell_keep hB c2
      have c3 := cell_keep hB c3
      have c4 := cell_keep hB c4
      have d0 := cell_keep hB d0
      have d1 := cell_keep hB d1
      have d2 := cell_keep hB d2
      have d3 := cell_keep hB d3
      have d4 := cell_keep hB d4
      have hI : (j : Int) < (n : Int) := by omega
      have HL : Hid (j < n) := hlt
      generalize (rs.getD j lz).fr = a0 at *
      generalize (rs.getD j lz).dst = a1 at *
      generalize (rs.getD j lz).pg = a2 at *
      generalize (rs.getD j lz).af = a3 at *
      generalize (rs.getD j lz).tt = a4 at *
      clear hB hlt hg hg'
      go_wp2_with fail
      go_region_with (go_at_call 68; refine (eq_lane _ _ _ _ _ _).mono ?_; rintro e y ⟨rfl, hb⟩; first | have BB := on HB.out hb | have BB := on HB.out.drew hb | have BB := on HB.out.drew.drew hb | have BB := on HB.out.drew.drew.drew hb)
      all_goals clear c0 c1 c2 c3 c4 d0 d1 d2 d3 d4
      all_goals go_wp2_with fail
      all_goals go_roundw
      all_goals first
        | (show ∃ _, _; exact ⟨j + 1, by have := HL.out; omega, by go_num, by first | exact BB | exact BB.drew⟩)
        | (have := HL.out; simp [intOf]; omega)
    · have hI : ¬ (j : Int) < (n : Int) := by omega
      clear hB
      go_wp2_with fail
      go_ret
      exact ⟨rfl, HB.out⟩
end Go.Proofs.YtcdbhhhihhdghaaGreatDoor
namespace Go.Proofs.YtcdbhhhihhdghaaGreatDoor
open Go.RowKit
set_option linter.unusedVariables false

theorem info_bell : (Tryz.prog.info? 56).map (fun i => (i.zero, i.size, i.bytes)) = some (some (.agg #[.int .i64 0, .int .i64 0]), 2, 16) := by kernel_rfl

theorem eq_bell (a b : Int) (w : World) : Calls Tryz.prog 69 #[.agg #[.int .i64 a, .int .i64 b], .agg #[.int .i64 a, .int .i64 b]] w fun e w' => e = .returned (.bool true) ∧ Below w.heap.size w w' := by
  go_enter Tryz.func69, Tryz.ntmps69
  go_wp2_with fail
  go_ret
  exact ⟨rfl, al (al (Below.refl _ _) _) _⟩

set_option maxHeartbeats 1000000 in
theorem eq_bells (v u : Value) (rs : List (Int × Int)) (b c : Nat) (w : World) (h : Prs 56 w b v rs) (k : Prs 56 w c u rs) :
    Calls Tryz.prog 36 #[v, u] w fun e w' => e = .returned (.bool true) ∧ Below w.heap.size w w' := by
  obtain ⟨a, cap, rfl, l1, l2, hg⟩ := h.shape
  obtain ⟨a', cap', rfl, m1, m2, hg'⟩ := k.shape
  have HZ : Hid (Prs _ w b _ rs) := h
  have KZ : Hid (Prs _ w c _ rs) := k
  have hl : (rs.length : Int) ≤ 9223372036854775807 := by unfold maxLen at l2; omega
  clear h k
  obtain ⟨n, hn⟩ : ∃ n, rs.length = n := ⟨_, rfl⟩
  rw [hn] at HZ KZ hl l1 m1 hg hg' ⊢
  have HN : Hid (rs.length = n) := hn
  clear hn l1 m1 l2 m2
  go_enter Tryz.func36, Tryz.ntmps36
  go_wp2_with fail
  go_loopw [5] (fun i wr => ∃ j : Nat, j ≤ n ∧ i = .int .i64 j ∧ Below w.heap.size w wr) (fun i _ => n - (intOf i).toNat)
  case atStart => exact ⟨0, Nat.zero_le _, rfl, Below.refl _ _⟩
  case round =>
    obtain ⟨j, hj, rfl, hB⟩ := hrel
    have HB : Hid (Below _ _ _) := hB
    by_cases hlt : j < n
    · obtain ⟨g, rfl⟩ := hg (by omega)
      obtain ⟨g', rfl⟩ := hg' (by omega)
      have c1 := cell_keep hB (HZ.out.cell HN.out.symm j hlt).1
      have c2 := cell_keep hB (HZ.out.cell HN.out.symm j hlt).2
      have d1 := cell_keep hB (KZ.out.cell HN.out.symm j hlt).1
      have d2 := cell_keep hB (KZ.out.cell HN.out.symm j hlt).2
      have hI : (j : Int) < (n : Int) := by omega
      have HL : Hid (j < n) := hlt
      generalize (rs.getD j (0, 0)).1 = p at *
      generalize (rs.getD j (0, 0)).2 = q at *
      clear hB hlt hg hg'
      go_wp2_with fail
      go_region_with (go_at_call 69; refine (eq_bell _ _ _).mono ?_; rintro e y ⟨rfl, hb⟩; first | have BB := on HB.out hb | have BB := on HB.out.drew hb | have BB := on HB.out.drew.drew hb | have BB := on HB.out.drew.drew.drew hb)
      all_goals clear c1 c2 d1 d2
      all_goals go_wp2_with fail
      all_goals go_roundw
      all_goals first
        | (show ∃ _, _; exact ⟨j + 1, by have := HL.out; omega, by go_num, by first | exact BB | exact BB.drew⟩)
        | (have := HL.out; simp [intOf]; omega)
    · have hI : ¬ (j : Int) < (n : Int) := by omega
      clear hB
      go_wp2_with fail
      go_ret
      exact ⟨rfl, HB.out⟩
end Go.Proofs.YtcdbhhhihhdghaaGreatDoor
namespace Go.Proofs.YtcdbhhhihhdghaaGreatDoor
open Go.RowKit
set_option linter.unusedVariables false

theorem info_slot : (Tryz.prog.info? 58).map (fun i => (i.zero, i.size, i.bytes)) = some (some (.agg #[.int .i64 0, .int .i64 0]), 2, 16) := by kernel_rfl

theorem eq_slot (a b : Int) (w : World) : Calls Tryz.prog 70 #[.agg #[.int .i64 a, .int .i64 b], .agg #[.int .i64 a, .int .i64 b]] w fun e w' => e = .returned (.bool true) ∧ Below w.heap.size w w' := by
  go_enter Tryz.func70, Tryz.ntmps70
  go_wp2_with fail
  go_ret
  exact ⟨rfl, al (al (Below.refl _ _) _) _⟩

set_option maxHeartbeats 1000000 in
theorem eq_slots (v u : Value) (rs : List (Int × Int)) (b c : Nat) (w : World) (h : Prs 58 w b v rs) (k : Prs 58 w c u rs) :
    Calls Tryz.prog 37 #[v, u] w fun e w' => e = .returned (.bool true) ∧ Below w.heap.size w w' := by
  obtain ⟨a, cap, rfl, l1, l2, hg⟩ := h.shape
  obtain ⟨a', cap', rfl, m1, m2, hg'⟩ := k.shape
  have HZ : Hid (Prs _ w b _ rs) := h
  have KZ : Hid (Prs _ w c _ rs) := k
  have hl : (rs.length : Int) ≤ 9223372036854775807 := by unfold maxLen at l2; omega
  clear h k
  obtain ⟨n, hn⟩ : ∃ n, rs.length = n := ⟨_, rfl⟩
  rw [hn] at HZ KZ hl l1 m1 hg hg' ⊢
  have HN : Hid (rs.length = n) := hn
  clear hn l1 m1 l2 m2
  go_enter Tryz.func37, Tryz.ntmps37
  go_wp2_with fail
  go_loopw [5] (fun i wr => ∃ j : Nat, j ≤ n ∧ i = .int .i64 j ∧ Below w.heap.size w wr) (fun i _ => n - (intOf i).toNat)
  case atStart => exact ⟨0, Nat.zero_le _, rfl, Below.refl _ _⟩
  case round =>
    obtain ⟨j, hj, rfl, hB⟩ := hrel
    have HB : Hid (Below _ _ _) := hB
    by_cases hlt : j < n
    · obtain ⟨g, rfl⟩ := hg (by omega)
      obtain ⟨g', rfl⟩ := hg' (by omega)
      have c1 := cell_keep hB (HZ.out.cell HN.out.symm j hlt).1
      have c2 := cell_keep hB (HZ.out.cell HN.out.symm j hlt).2
      have d1 := cell_keep hB (KZ.out.cell HN.out.symm j hlt).1
      have d2 := cell_keep hB (KZ.out.cell HN.out.symm j hlt).2
      have hI : (j : Int) < (n : Int) := by omega
      have HL : Hid (j < n) := hlt
      generalize (rs.getD j (0, 0)).1 = p at *
      generalize (rs.getD j (0, 0)).2 = q at *
      clear hB hlt hg hg'
      go_wp2_with fail
      go_region_with (go_at_call 70; refine (eq_slot _ _ _).mono ?_; rintro e y ⟨rfl, hb⟩; first | have BB := on HB.out hb | have BB := on HB.out.drew hb | have BB := on HB.out.drew.drew hb | have BB := on HB.out.drew.drew.drew hb)
      all_goals clear c1 c2 d1 d2
      all_goals go_wp2_with fail
      all_goals go_roundw
      all_goals first
        | (show ∃ _, _; exact ⟨j + 1, by have := HL.out; omega, by go_num, by first | exact BB | exact BB.drew⟩)
        | (have := HL.out; simp [intOf]; omega)
    · have hI : ¬ (j : Int) < (n : Int) := by omega
      clear hB
      go_wp2_with fail
      go_ret
      exact ⟨rfl, HB.out⟩
end Go.Proofs.YtcdbhhhihhdghaaGreatDoor
namespace Go.Proofs.YtcdbhhhihhdghaaGreatDoor
open Go.RowKit
set_option linter.unusedVariables false

/-- A slice of numbers, read alone. -/
def Rn (w : World) (a : Option Addr) (len cap : Nat) (zs : List Int) : Prop :=
  (a = none ∧ len = 0 ∧ cap = 0 ∧ zs = []) ∨
  ∃ x, a = some x ∧ len ≤ cap ∧ cap ≤ maxLen ∧ zs.length = len ∧ ∀ i, i < len → w.cell? (x.add i) = some (.int .i64 (zs.getD i 0))
theorem Rn.stay {w w' : World} {a : Option Addr} {len cap : Nat} {zs : List Int} (h : Rn w a len cap zs) (b : Below w.heap.size w w') : Rn w' a len cap zs := by
  rcases h with h | ⟨x, rfl, h1, h2, h3, h4⟩
  · exact .inl h
  · exact .inr ⟨x, rfl, h1, h2, h3, fun i hi => cell_keep b (h4 i hi)⟩
theorem Rn.len {w : World} {a : Option Addr} {len cap : Nat} {zs : List Int} (h : Rn w a len cap zs) : len = zs.length := by
  rcases h with ⟨_, h1, _, rfl⟩ | ⟨x, _, _, _, h1, _⟩
  · simpa using h1
  · exact h1.symm
theorem Rn.cap {w : World} {a : Option Addr} {len cap : Nat} {zs : List Int} (h : Rn w a len cap zs) : len ≤ cap ∧ cap ≤ maxLen := by
  rcases h with ⟨_, h1, h2, _⟩ | ⟨x, _, h1, h2, _⟩
  · subst h1 h2; exact ⟨Nat.le_refl _, Nat.zero_le _⟩
  · exact ⟨h1, h2⟩
theorem Rn.at {w : World} {a : Option Addr} {len cap : Nat} {zs : List Int} (h : Rn w a len cap zs) (i : Nat) (hi : i < len) : ∃ x, a = some x ∧ w.cell? (x.add i) = some (.int .i64 (zs.getD i 0)) := by
  rcases h with ⟨_, h1, _, _⟩ | ⟨x, rfl, _, _, _, h4⟩
  · omega
  · exact ⟨x, rfl, h4 i hi⟩
theorem IsRow.rn {w : World} {a : Option Addr} {len cap : Nat} {zs : List Int} (h : IsRow .i64 w a len cap zs) : Rn w a len cap zs := by
  rcases h with h | ⟨x, h0, h1, h2, h3, h4, _⟩
  · exact .inl h
  · exact .inr ⟨x, h0, h1, h2, h3, h4⟩
theorem Nums.rn {w : World} {base n cap : Nat} {a : Option Addr} {zs : List Int} (h : Nums w base (.slice a n cap) zs) : Rn w a n cap zs := by
  obtain ⟨a', cap', hv, l1, l2, hg⟩ := h.shape
  cases hv
  by_cases hz : 0 < zs.length
  · obtain ⟨g, rfl⟩ := hg hz
    refine .inr ⟨_, rfl, l1, l2, rfl, fun i hi => ?_⟩
    have := h.cell rfl i hi
    simpa [Addr.add_lit] using this
  · have h0 : zs = [] := by cases zs with
      | nil => rfl
      | cons x t => exact absurd (Nat.succ_pos _) hz
    subst h0
    cases a with
    | none =>
      obtain ⟨h1, ⟨hq, h3⟩ | ⟨g, cap, cur, hq, _⟩⟩ := h
      · cases hq; exact .inl ⟨rfl, rfl, rfl, rfl⟩
      · cases hq
    | some x => exact .inr ⟨x, rfl, l1, l2, rfl, fun i hi => absurd hi (Nat.not_lt_zero _)⟩
/-- A slice as a value, read alone. -/
def Rv (w : World) (v : Value) (zs : List Int) : Prop := ∃ a cap, v = .slice a zs.length cap ∧ Rn w a zs.length cap zs
theorem Rv.stay {w w' : World} {v : Value} {zs : List Int} (h : Rv w v zs) (b : Below w.heap.size w w') : Rv w' v zs := by
  obtain ⟨a, cap, h1, h2⟩ := h
  exact ⟨a, cap, h1, h2.stay b⟩
theorem Nums.rv {w : World} {base : Nat} {v : Value} {zs : List Int} (h : Nums w base v zs) : Rv w v zs := by
  obtain ⟨a, cap, rfl, _⟩ := h.shape
  exact ⟨a, cap, rfl, h.rn⟩
theorem Rn.rv {w : World} {a : Option Addr} {len cap : Nat} {zs : List Int} (h : Rn w a len cap zs) : Rv w (.slice a len cap) zs := by
  have := h.len
  subst this
  exact ⟨a, cap, rfl, h⟩

/-- A block of cells of a type. -/
def Vb (w : World) (q : Nat) (cs : Array Value) (t : TypeId) : Prop := w.heap[q]? = some (.cells cs t (0, 0))
theorem Vb.cell {w : World} {q : Nat} {cs : Array Value} {t : TypeId} (h : Vb w q cs t) (i : Nat) {v : Value} (hi : cs[i]? = some v) : w.cell? ⟨q, i, none⟩ = some v := by
  unfold Vb at h
  simp [World.cell?, h, hi]
theorem Vb.free {w : World} {q : Nat} {cs : Array Value} {t : TypeId} (h : Vb w q cs t) (i : Nat) : w.frozen? ⟨q, i, none⟩ = false := by
  unfold Vb at h
  simp [World.frozen?, h]
theorem Vb.lt {w : World} {q : Nat} {cs : Array Value} {t : TypeId} (h : Vb w q cs t) : q < w.heap.size := by
  rcases Nat.lt_or_ge q w.heap.size with h1 | h1
  · exact h1
  · unfold Vb at h
    rw [Array.getElem?_eq_none h1] at h
    cases h
theorem Vb.new (w : World) (cs : Array Value) (t : TypeId) : Vb (w.alloc (.cells cs t)) w.heap.size cs t := heap_alloc_new w _
theorem Vb.gr {w w' : World} {q : Nat} {cs : Array Value} {t : TypeId} {row : Option Nat} (h : Vb w q cs t) (g : w.grownBy w' row) (hn : some q ≠ row) : Vb w' q cs t := (g.block q h.lt hn).trans h
theorem Vb.keep {w w' : World} {q : Nat} {cs : Array Value} {t : TypeId} (h : Vb w q cs t) (b : Below w.heap.size w w') : Vb w' q cs t := (b.block q h.lt).trans h
theorem Vb.put {w : World} {q : Nat} {cs : Array Value} {t : TypeId} (h : Vb w q cs t) (p : Addr) (u : Value) (hp : q ≠ p.block) : Vb (w.setCell p u) q cs t := (heap_setCell_other w p q u hp).trans h
theorem Vb.set {w : World} {q : Nat} {cs : Array Value} {t : TypeId} (h : Vb w q cs t) (i : Nat) (u : Value) : Vb (w.setCell ⟨q, i, none⟩ u) q (cs.setIfInBounds i u) t := heap_setCell_same w q i cs t u h
theorem Vb.push {w : World} {q : Nat} {cs : Array Value} {t : TypeId} (h : Vb w q cs t) (o : Obj) : Vb (w.alloc o) q cs t := h.keep (al (Below.refl _ _) o)

/-- From one world to another: blocks from base on stay. -/
structure Ho (base : Nat) (w w' : World) : Prop where
  size : w.heap.size ≤ w'.heap.size
  block : ∀ k, base ≤ k → k < w.heap.size → w'.heap[k]? = w.heap[k]?
theorem Ho.refl (base : Nat) (w : World) : Ho base w w := ⟨Nat.le_refl _, fun _ _ _ => rfl⟩
theorem Ho.trans {base : Nat} {a b c : World} (h : Ho base a b) (k : Ho base b c) : Ho base a c :=
  ⟨Nat.le_trans h.size k.size, fun i hb hi => (k.block i hb (Nat.lt_of_lt_of_le hi h.size)).trans (h.block i hb hi)⟩
theorem Ho.of {base : Nat} {w w' : World} (h : Below w.heap.size w w') : Ho base w w' := ⟨h.size, fun k _ hk => h.block k hk⟩
theorem Ho.set {base : Nat} (w : World) (p : Addr) (u : Value) (h : p.block < base) : Ho base w (w.setCell p u) :=
  ⟨(grown_set w p u).size, fun k hb hk => (grown_set w p u).block k hk (fun e => by cases e; omega)⟩
theorem Nums.ho {base : Nat} {v : Value} {w w' : World} {zs : List Int} (h : Nums w base v zs) (H : Ho base w w') : Nums w' base v zs := by
  obtain ⟨h1, h2 | ⟨g, cap, cur, hv, hg, hr, rest⟩⟩ := h
  · exact ⟨h1, .inl h2⟩
  · refine ⟨h1, .inr ⟨g, cap, cur, hv, hg, ?_, rest⟩⟩
    rw [H.block g hg ((Array.getElem?_eq_some_iff.1 hr).1)]
    exact hr
end Go.Proofs.YtcdbhhhihhdghaaGreatDoor
namespace Go.Proofs.YtcdbhhhihhdghaaGreatDoor
open Go.RowKit
set_option linter.unusedVariables false

structure Ht where
  regs : List Int
  pc : Int
  csr : List Int
  halted : Bool
  waiting : Bool
  rung : Bool
  done : Int
  inn : List Int
  out : List Int

def Ht.form (H : Ht) : Bool := decide (H.regs.length = 16) && decide (H.csr.length = 11) && decide (H.regs.getD 0 0 = 0)
def Ht.words (H : Ht) : Bool := H.regs.all isW && isW H.pc && H.csr.all isW && H.inn.all isW && H.out.all isW
def voidH : Ht := ⟨[], 0, [], false, false, false, 0, [], []⟩
end Go.Proofs.YtcdbhhhihhdghaaGreatDoor
namespace Go.Proofs.YtcdbhhhihhdghaaGreatDoor
open Go.RowKit
set_option linter.unusedVariables false

def seg (tx : Wb) (f p : Nat) : Wb := (tx.drop f).take (p - f)
theorem drop_at (tx : Wb) (p : Nat) (h : p < tx.length) : tx.drop p = tx.getD p 0 :: tx.drop (p + 1) := by
  rw [List.drop_eq_getElem_cons h, List.getD, List.getElem?_eq_getElem h]
  rfl
theorem seg_self (tx : Wb) (p : Nat) : seg tx p p = [] := by unfold seg; simp
theorem seg_next (tx : Wb) (f p : Nat) (hf : f ≤ p) (h : p < tx.length) : seg tx f (p + 1) = seg tx f p ++ [tx.getD p 0] := by
  unfold seg
  rw [show p + 1 - f = (p - f) + 1 by omega, List.take_add_one, List.getElem?_drop, show f + (p - f) = p by omega, List.getD, List.getElem?_eq_getElem h]
  rfl
theorem bq_cut (tx : Wb) (f p : Nat) : (bq tx).extract f p = bq (seg tx f p) := by
  apply ByteArray.ext
  rw [ByteArray.data_extract]
  simp [bq, seg, List.extract_eq_take_drop]

end Go.Proofs.YtcdbhhhihhdghaaGreatDoor
namespace Go.Proofs.YtcdbhhhihhdghaaGreatDoor
open Go.RowKit Go.ChangeShapes Go.WideShapes Go.ChangeAt
set_option linter.unusedVariables false

/-- A machine that came in. -/
structure Hin (w : World) (a0 : Option Addr) (n0 c0 : Nat) (a1 : Option Addr) (n1 c1 : Nat) (a2 : Option Addr) (n2 c2 : Nat) (a3 : Option Addr) (n3 c3 : Nat) (H : Ht) : Prop where
  regs : IsRow .i64 w a0 n0 c0 H.regs
  csr : IsRow .i64 w a1 n1 c1 H.csr
  inn : IsRow .i64 w a2 n2 c2 H.inn
  out : IsRow .i64 w a3 n3 c3 H.out
theorem Hin.stay {w w' : World} {a0 a1 a2 a3 : Option Addr} {n0 c0 n1 c1 n2 c2 n3 c3 : Nat} {H : Ht} (h : Hin w a0 n0 c0 a1 n1 c1 a2 n2 c2 a3 n3 c3 H) (b : Below w.heap.size w w') : Hin w' a0 n0 c0 a1 n1 c1 a2 n2 c2 a3 n3 c3 H :=
  ⟨h.regs.stay b, h.csr.stay b, h.inn.stay b, h.out.stay b⟩
end Go.Proofs.YtcdbhhhihhdghaaGreatDoor
namespace Go.Proofs.YtcdbhhhihhdghaaGreatDoor
open Go.RowKit
set_option linter.unusedVariables false

theorem Os.empty (w : World) (base : Nat) (hb : base ≤ w.heap.size) : Os (w.alloc (.cells #[] 9)) base (.slice (some ⟨w.heap.size, 0, none⟩) 0 0) [] :=
  World.ownsRow_lit w #[] 0 hb (by decide) rfl
theorem sp_sep (sep : UInt8) (l : Wb) (i : Nat) (cur : Wb) (h : i < l.length) (hc : l.getD i 0 = sep) : spl sep (l.drop i) cur = cur :: spl sep (l.drop (i + 1)) [] := by
  rw [drop_at l i h, spl, if_pos hc]
theorem sp_ch (sep : UInt8) (l : Wb) (i : Nat) (cur : Wb) (h : i < l.length) (hc : ¬ l.getD i 0 = sep) : spl sep (l.drop i) cur = spl sep (l.drop (i + 1)) (cur ++ [l.getD i 0]) := by
  rw [drop_at l i h, spl, if_neg hc]
theorem sp_end (sep : UInt8) (l : Wb) (cur : Wb) : spl sep (l.drop l.length) cur = [cur] := by
  rw [List.drop_length, spl]
set_option maxHeartbeats 4000000 in
theorem s_cut (l : Wb) (sep : UInt8) (w : World) (hl : l.length ≤ 1048576) :
    Calls Tryz.prog 9 #[.string (bq l), .int .u8 sep.toNat] w fun e w' => ∃ v, e = .returned v ∧ Os w' w.heap.size v (spl sep l []) ∧ Below w.heap.size w w' := by
  obtain ⟨n, hn⟩ : ∃ n, l.length = n := ⟨_, rfl⟩
  have hz : (bq l).size = n := by rw [bq_size]; exact hn
  have HN : Hid (l.length = n ∧ n ≤ 1048576) := ⟨hn, by omega⟩
  have hnI : (n : Int) ≤ 1048576 := by omega
  have GT : Hid (∀ j (h : j < (bq l).size), (bq l)[j]'h = l.getD j 0) := bq_get l
  have CUT : Hid (∀ f p, (bq l).extract f p = bq (seg l f p)) := bq_cut l
  have E0 : Hid (Os (w.alloc (.cells #[] 9)) w.heap.size (.slice (some ⟨w.heap.size, 0, none⟩) 0 0) []) := Os.empty w _ (Nat.le_refl _)
  have B0 : Hid (Below w.heap.size w (w.alloc (.cells #[] 9))) := al (Below.refl _ _) _
  clear hn hl
  go_enter Tryz.func9, Tryz.ntmps9
  go_wp2_with fail
  generalize w.alloc (.cells #[] 9) = W at *
  go_loopw [5, 6, 7] (fun u f i wr => ∃ (j q : Nat) (P : List Wb), i = .int .i64 j ∧ f = .int .i64 q ∧ j ≤ n + 1 ∧ q ≤ j ∧ P.length ≤ j ∧ Os wr w.heap.size u P ∧ Below w.heap.size w wr ∧ Hid (j ≤ n ∧ P ++ spl sep (l.drop j) (seg l q j) = spl sep l [] ∨ j = n + 1 ∧ P = spl sep l [])) (fun _ _ i _ => n + 2 - (intOf i).toNat)
  case atStart => exact ⟨0, 0, [], rfl, rfl, by omega, Nat.le_refl _, by simp, E0.out, B0.out, .inl ⟨Nat.zero_le _, by rw [seg_self]; rfl⟩⟩
  case round =>
    obtain ⟨j, q, P, rfl, rfl, hj, hq, hP, hO, hB, hT⟩ := hrel
    obtain ⟨au, cu, rfl, _⟩ := hO.shape
    obtain ⟨lu, hlu⟩ : ∃ lu, P.length = lu := ⟨_, rfl⟩
    rw [hlu] at hO ⊢
    have HO : Hid (Os wr w.heap.size (.slice au lu cu) P) := hO
    have HB : Hid (Below w.heap.size w wr) := hB
    have HP : Hid (P.length ≤ j ∧ q ≤ j) := ⟨hP, hq⟩
    have hqI : (q : Int) ≤ (j : Int) := by omega
    clear hO hB hP hlu
    by_cases hjn : j ≤ n
    · have hJ : (j : Int) ≤ (n : Int) := by omega
      have HJ : Hid (j ≤ n) := hjn
      have TT : Hid (P ++ spl sep (l.drop j) (seg l q j) = spl sep l []) := by
        rcases hT.out with ⟨_, h⟩ | ⟨h, _⟩
        · exact h
        · omega
      have hcut := CUT.out q j
      clear hT
      by_cases hje : j = n
      · subst hje
        go_upto_region 8 with (at_builtin; refine wp_pushL _ rfl _ _ rfl w.heap.size _ P rfl (HO.out.keep (al (Below.refl _ _) _)) _ (seg l q j) rfl (cell_new (by first | rfl | simp [hcut])) (by have := HN.out; have := HP.out; omega) (by have := HB.out.size; simp <;> omega) ?_; intro u2 w2 hW2 hG2)
        have W2 : Hid (Os w2 w.heap.size u2 (P ++ [seg l q j])) := hW2
        have B2 : Hid (Below w.heap.size w w2) := (al HB.out _).grown hG2 (by have := HB.out.size; simp <;> omega) (fun k e => (HO.out.lt k e).1)
        clear hW2 hG2 hcut
        go_wp2_with fail
        go_roundw
        case rel => exact ⟨j + 1, j + 1, P ++ [seg l q j], by go_num, by go_num, Nat.le_refl _, Nat.le_refl _, by have := HP.out; simp <;> omega, W2.out, B2.out, .inr ⟨rfl, by rw [← TT.out, ← HN.out.1, sp_end]⟩⟩
        case measure => simp [intOf] <;> omega
      · have hjl : j < n := by omega
        have hJl : (j : Int) < (n : Int) := by omega
        have hJe : ((j : Int) == (n : Int)) = false := by rw [beq_eq_false_iff_ne]; omega
        have hg := GT.out j (by omega)
        obtain ⟨c, hc⟩ : ∃ c, l.getD j 0 = c := ⟨_, rfl⟩
        rw [hc] at hg
        have HC : Hid (l.getD j 0 = c) := hc
        clear hc
        by_cases hcs : c = sep
        · subst hcs
          go_upto_region 8 with (at_builtin; refine wp_pushL _ rfl _ _ rfl w.heap.size _ P rfl (HO.out.keep (al (Below.refl _ _) _)) _ (seg l q j) rfl (cell_new (by first | rfl | simp [hcut])) (by have := HN.out; have := HP.out; omega) (by have := HB.out.size; simp <;> omega) ?_; intro u2 w2 hW2 hG2)
          have W2 : Hid (Os w2 w.heap.size u2 (P ++ [seg l q j])) := hW2
          have B2 : Hid (Below w.heap.size w w2) := (al HB.out _).grown hG2 (by have := HB.out.size; simp <;> omega) (fun k e => (HO.out.lt k e).1)
          clear hW2 hG2 hcut
          go_wp2_with fail
          go_roundw
          case rel => exact ⟨j + 1, j + 1, P ++ [seg l q j], by go_num, by go_num, by omega, Nat.le_refl _, by have := HP.out; simp <;> omega, W2.out, B2.out, .inl ⟨by omega, by rw [← TT.out, sp_sep _ l j _ (by have := HN.out; omega) HC.out, seg_self, List.append_assoc]; rfl⟩⟩
          case measure => simp [intOf] <;> omega
        · have e1 : (c.toNat == sep.toNat) = false := by rw [beq_eq_false_iff_ne]; intro e; exact hcs (UInt8.toNat_inj.1 e)
          have e2 : ¬ c.toNat = sep.toNat := fun e => hcs (UInt8.toNat_inj.1 e)
          have e3 : ((c.toNat : Int) == (sep.toNat : Int)) = false := by rw [beq_eq_false_iff_ne]; omega
          go_wp2_with fail
          go_roundw
          case rel => exact ⟨j + 1, q, P, by go_num, rfl, by omega, by omega, by have := HP.out; omega, HO.out, HB.out, .inl ⟨by omega, by rw [← TT.out, sp_ch _ l j _ (by have := HN.out; omega) (by rw [HC.out]; exact hcs), seg_next l q j (by omega) (by have := HN.out; omega)]⟩⟩
          case measure => simp [intOf] <;> omega
    · have hJ : ¬ (j : Int) ≤ (n : Int) := by omega
      have TT : Hid (P = spl sep l []) := by
        rcases hT.out with ⟨h, _⟩ | ⟨_, h⟩
        · omega
        · exact h
      clear hT
      go_wp2_with fail
      go_ret
      exact ⟨_, rfl, by rw [← TT.out]; exact HO.out, HB.out⟩
end Go.Proofs.YtcdbhhhihhdghaaGreatDoor
namespace Go.Proofs.YtcdbhhhihhdghaaGreatDoor
open Go.RowKit
set_option linter.unusedVariables false

/-- A machine whose four lists lie in blocks of their own, at base or behind it (or are nil). -/
structure Hm (w : World) (base : Nat) (r c i o : Value) (H : Ht) : Prop where
  r : Nums w base r H.regs
  c : Nums w base c H.csr
  i : Nums w base i H.inn
  o : Nums w base o H.out
theorem Hm.keep {w w' : World} {base : Nat} {r c i o : Value} {H : Ht} (h : Hm w base r c i o H) (b : Below w.heap.size w w') : Hm w' base r c i o H := ⟨h.r.keep b, h.c.keep b, h.i.keep b, h.o.keep b⟩
theorem Hm.mono {w : World} {base base' : Nat} {r c i o : Value} {H : Ht} (h : Hm w base r c i o H) (hb : base' ≤ base) : Hm w base' r c i o H := ⟨h.r.mono hb, h.c.mono hb, h.i.mono hb, h.o.mono hb⟩
theorem Hm.ho {w w' : World} {base : Nat} {r c i o : Value} {H : Ht} (h : Hm w base r c i o H) (k : Ho base w w') : Hm w' base r c i o H := ⟨h.r.ho k, h.c.ho k, h.i.ho k, h.o.ho k⟩
/-- Two lists that no block holds both of. -/
def Apt (a b : Value) : Prop := a.ownBlock = none ∨ a.ownBlock ≠ b.ownBlock
end Go.Proofs.YtcdbhhhihhdghaaGreatDoor
namespace Go.Proofs.YtcdbhhhihhdghaaGreatDoor
open Go.RowKit
set_option linter.unusedVariables false

/-- From one world to another: blocks outside of S stay. -/
structure Mq (S : Nat → Prop) (w w' : World) : Prop where
  os : w'.os = w.os
  tape : w'.tape = w.tape
  output : w'.output = w.output
  size : w.heap.size ≤ w'.heap.size
  block : ∀ k, k < w.heap.size → ¬ S k → w'.heap[k]? = w.heap[k]?
theorem Mq.of {S : Nat → Prop} {w w' : World} {row : Option Nat} (g : w.grownBy w' row) (h : ∀ k, some k = row → S k) : Mq S w w' :=
  ⟨g.os, g.tape, g.output, g.size, fun k hk hn => g.block k hk fun e => hn (h k e)⟩
theorem Mq.trans {S : Nat → Prop} {a b c : World} (h : Mq S a b) (k : Mq S b c) : Mq S a c :=
  ⟨k.os.trans h.os, k.tape.trans h.tape, k.output.trans h.output, Nat.le_trans h.size k.size, fun i hi hn => (k.block i (Nat.lt_of_lt_of_le hi h.size) hn).trans (h.block i hi hn)⟩
theorem Mq.nums {S : Nat → Prop} {w w' : World} {base : Nat} {v : Value} {zs : List Int} (m : Mq S w w') (h : Nums w base v zs) (hn : ∀ k, v.ownBlock = some k → ¬ S k) : Nums w' base v zs := by
  obtain ⟨h1, h2 | ⟨g, cap, cur, hv, hg, hr, rest⟩⟩ := h
  · exact ⟨h1, .inl h2⟩
  · refine ⟨h1, .inr ⟨g, cap, cur, hv, hg, ?_, rest⟩⟩
    rw [m.block g ((Array.getElem?_eq_some_iff.1 hr).1) (hn g (by rw [hv]; rfl))]
    exact hr
theorem Mq.below {S : Nat → Prop} {a w w' : World} (h : Below a.heap.size a w) (m : Mq S w w') (hn : ∀ k, S k → a.heap.size ≤ k) : Below a.heap.size a w' :=
  ⟨m.os.trans h.os, m.tape.trans h.tape, m.output.trans h.output, Nat.le_trans h.size m.size, fun k hk => (m.block k (Nat.lt_of_lt_of_le hk h.size) (fun s => by have := hn k s; omega)).trans (h.block k hk)⟩
/-- The blocks of four lists. -/
def Own4 (r c i o : Value) (k : Nat) : Prop := r.ownBlock = some k ∨ c.ownBlock = some k ∨ i.ownBlock = some k ∨ o.ownBlock = some k
theorem Mq.hm {S : Nat → Prop} {w w' : World} {base : Nat} {r c i o : Value} {H : Ht} (m : Mq S w w') (h : Hm w base r c i o H) (hn : ∀ k, Own4 r c i o k → ¬ S k) : Hm w' base r c i o H :=
  ⟨m.nums h.r fun k e => hn k (.inl e), m.nums h.c fun k e => hn k (.inr (.inl e)), m.nums h.i fun k e => hn k (.inr (.inr (.inl e))), m.nums h.o fun k e => hn k (.inr (.inr (.inr e)))⟩
theorem Hm.own {w : World} {base : Nat} {r c i o : Value} {H : Ht} (h : Hm w base r c i o H) (k : Nat) (e : Own4 r c i o k) : base ≤ k ∧ k < w.heap.size := by
  rcases e with e | e | e | e
  · exact h.r.lt k e
  · exact h.c.lt k e
  · exact h.i.lt k e
  · exact h.o.lt k e

end Go.Proofs.YtcdbhhhihhdghaaGreatDoor
