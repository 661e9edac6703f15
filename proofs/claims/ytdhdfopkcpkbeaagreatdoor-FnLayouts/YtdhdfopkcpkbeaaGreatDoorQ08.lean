/- Texts of this seat, joined. -/
import Derived.Laws.AppendOwn
import Derived.Deep.SlicePairs
import Derived.Test.YtdhdfopkcpkbeaaGreatDoorQ06
namespace Go.Proofs.YtdhdfopkcpkbeaaGreatDoor
open Go.RowKit
set_option linter.unusedVariables false

def flat : List (Int × Int) → List Value
  | [] => []
  | r :: t => .int .i64 r.1 :: .int .i64 r.2 :: flat t
theorem flat_append (rs qs : List (Int × Int)) : flat (rs ++ qs) = flat rs ++ flat qs := by
  induction rs with
  | nil => rfl
  | cons r t ih => simp [flat, ih]
theorem flat_get (rs : List (Int × Int)) (i : Nat) (h : i < rs.length) : (flat rs)[i * 2]? = some (.int .i64 (rs.getD i (0, 0)).1) ∧ (flat rs)[i * 2 + 1]? = some (.int .i64 (rs.getD i (0, 0)).2) := by
  induction rs generalizing i with
  | nil => simp at h
  | cons r t ih =>
    cases i with
    | zero => exact ⟨rfl, rfl⟩
    | succ i =>
      have h2 := ih i (by simpa using h)
      rw [show (i + 1) * 2 = i * 2 + 1 + 1 by omega]
      simpa [flat] using h2
theorem flat_set (rs : List (Int × Int)) (i : Nat) (a b : Int) (h : i < rs.length) : flat (rs.set i (a, b)) = ((flat rs).set (i * 2) (.int .i64 a)).set (i * 2 + 1) (.int .i64 b) := by
  induction rs generalizing i with
  | nil => simp at h
  | cons r t ih =>
    cases i with
    | zero => rfl
    | succ i =>
      rw [show (i + 1) * 2 = i * 2 + 1 + 1 by omega]
      simp [flat, ih i (by simpa using h)]
theorem flat_replicate (n : Nat) : flat (List.replicate n (0, 0)) = List.replicate (n * 2) (.int .i64 0) := by
  induction n with
  | zero => rfl
  | succ n ih =>
    rw [List.replicate_succ, flat, ih, show (n + 1) * 2 = n * 2 + 1 + 1 by omega, List.replicate_succ, List.replicate_succ]
theorem flat_one (rs : List (Int × Int)) : ∀ u ∈ flat rs, u.oneCell' = true := by
  induction rs with
  | nil => intro u hu; cases hu
  | cons r t ih =>
    intro u hu
    rcases List.mem_cons.1 hu with rfl | hu
    · rfl
    rcases List.mem_cons.1 hu with rfl | hu
    · rfl
    exact ih u hu

/-- A slice of pairs at the head of a block of its own (or nil). -/
def Prs (e : TypeId) (w : World) (base : Nat) (v : Value) (rs : List (Int × Int)) : Prop := w.ownsRow base e 2 v rs.length (flat rs)

theorem Prs.keep {e : TypeId} {w w' : World} {base : Nat} {v : Value} {rs : List (Int × Int)} (h : Prs e w base v rs) (hb : Below w.heap.size w w') : Prs e w' base v rs := by
  refine World.ownsRow.kept h (below_grown hb none) ?_
  cases v.ownBlock <;> simp
theorem Prs.lt {e : TypeId} {w : World} {base : Nat} {v : Value} {rs : List (Int × Int)} (h : Prs e w base v rs) : ∀ k, v.ownBlock = some k → base ≤ k ∧ k < w.heap.size := World.ownsRow.lt h
theorem Prs.nil (e : TypeId) (w : World) (base : Nat) : Prs e w base (.slice none 0 0) [] := World.ownsRow_nil w base _ _
theorem Prs.cell {e : TypeId} {w : World} {base g n cap : Nat} {rs : List (Int × Int)} (h : Prs e w base (.slice (some ⟨g, 0, none⟩) n cap) rs) (hn : n = rs.length) (i : Nat) (hi : i < n) :
    w.cell? ⟨g, i * 2, none⟩ = some (.int .i64 (rs.getD i (0, 0)).1) ∧ w.cell? ⟨g, i * 2 + 1, none⟩ = some (.int .i64 (rs.getD i (0, 0)).2) := by
  subst hn
  rw [World.ownsRow.cellAt h (i * 2) (by omega), World.ownsRow.cellAt h (i * 2 + 1) (by omega)]
  exact flat_get rs i hi
theorem Prs.free {e : TypeId} {w : World} {base g n cap : Nat} {rs : List (Int × Int)} (h : Prs e w base (.slice (some ⟨g, 0, none⟩) n cap) rs) (hn : n = rs.length) (i : Nat) : w.frozen? ⟨g, i, none⟩ = false := by
  subst hn
  exact World.ownsRow.frozenAt h i
theorem Prs.shape {e : TypeId} {w : World} {base : Nat} {v : Value} {rs : List (Int × Int)} (h : Prs e w base v rs) : ∃ a cap, v = .slice a rs.length cap ∧ rs.length ≤ cap ∧ cap ≤ maxLen ∧ (0 < rs.length → ∃ g, a = some ⟨g, 0, none⟩) := by
  have h' := h
  obtain ⟨h1, ⟨rfl, h3⟩ | ⟨g, cap, cur, rfl, _, _, h4, h5, _⟩⟩ := h'
  · exact ⟨none, 0, by rw [h3], by omega, by unfold maxLen; omega, fun hz => by omega⟩
  · exact ⟨_, _, rfl, h4, h5, fun _ => ⟨g, rfl⟩⟩
theorem Prs.store {e : TypeId} {w : World} {base g n cap : Nat} {rs : List (Int × Int)} (h : Prs e w base (.slice (some ⟨g, 0, none⟩) n cap) rs) (hn : n = rs.length) (j : Nat) (a b : Int) (hj : j < n) :
    Prs e ((w.setCell ⟨g, j * 2, none⟩ (.int .i64 a)).setCell ⟨g, j * 2 + 1, none⟩ (.int .i64 b)) base (.slice (some ⟨g, 0, none⟩) n cap) (rs.set j (a, b)) := by
  subst hn
  have h1 := (World.ownsRow.stored h (j * 2) (.int .i64 a)).1
  have h2 := (World.ownsRow.stored h1 (j * 2 + 1) (.int .i64 b)).1
  unfold Prs
  rw [List.length_set, flat_set rs j a b hj]
  exact h2

/-- A slice of pairs that came in. -/
def IsPairs (w : World) (a : Option Addr) (len cap : Nat) (rs : List (Int × Int)) : Prop :=
  (a = none ∧ len = 0 ∧ cap = 0 ∧ rs = []) ∨
  ∃ x, a = some x ∧ len ≤ cap ∧ cap ≤ maxLen ∧ rs.length = len ∧ ∀ i, i < len → w.cell? (x.add (i * 2)) = some (.int .i64 (rs.getD i (0, 0)).1) ∧ w.cell? (x.add (i * 2 + 1)) = some (.int .i64 (rs.getD i (0, 0)).2)
theorem IsPairs.of {w : World} {x : Addr} {len cap : Nat} (V0 V1 : Nat → Value) (hl : len ≤ cap) (hm : cap ≤ maxLen)
    (h : ∀ i, i < len → w.cell? (x.add (i * 2)) = some (V0 i) ∧ w.cell? (x.add (i * 2 + 1)) = some (V1 i) ∧ (∃ a, V0 i = .int .i64 a) ∧ ∃ b, V1 i = .int .i64 b) : ∃ rs, IsPairs w (some x) len cap rs := by
  refine ⟨(List.range len).map fun i => (intOf (V0 i), intOf (V1 i)), .inr ⟨x, rfl, hl, hm, by simp, fun i hi => ?_⟩⟩
  obtain ⟨h0, h1, ⟨a, ha⟩, ⟨b, hb⟩⟩ := h i hi
  rw [h0, h1, ha, hb]
  simp [List.getD, hi, ha, hb, intOf]
theorem IsPairs.stay {w w' : World} {a : Option Addr} {len cap : Nat} {rs : List (Int × Int)} (h : IsPairs w a len cap rs) (b : Below w.heap.size w w') : IsPairs w' a len cap rs := by
  rcases h with h | ⟨x, rfl, h1, h2, h3, h4⟩
  · exact .inl h
  · exact .inr ⟨x, rfl, h1, h2, h3, fun i hi => ⟨cell_keep b (h4 i hi).1, cell_keep b (h4 i hi).2⟩⟩
theorem IsPairs.len {w : World} {a : Option Addr} {len cap : Nat} {rs : List (Int × Int)} (h : IsPairs w a len cap rs) : len = rs.length := by
  rcases h with ⟨_, h1, _, rfl⟩ | ⟨x, _, _, _, h1, _⟩
  · simpa using h1
  · exact h1.symm

/-- append of one pair to a slice of the call's own. -/
theorem wp_pair {ops : Array Oper} {rest : List Oper} {o : Oper} {act : Act} {Q : Exit → Act → World → Prop} (t e : TypeId) (he : Tryz.prog.underlying t = some (.slice e)) (hinfo : (Tryz.prog.info? e).map (fun i => (i.zero, i.size, i.bytes)) = some (some (.agg #[.int .i64 0, .int .i64 0]), 2, 16))
    (w : World) (hgd : o.guard = none) (s x : Operand)
    (ho : o.op = .call { callee := .builtin .append, args := #[s, x], argTypes := #[t, t] }) (base : Nat) (v : Value) (rs : List (Int × Int)) (hs : act.eval s = v) (hN : Prs e w base v rs)
    (B : Nat) (a b : Int) (hx : act.eval x = .slice (some ⟨B, 0, none⟩) 1 1) (h0 : w.cell? ⟨B, 0, none⟩ = some (.int .i64 a)) (h1 : w.cell? ⟨B, 1, none⟩ = some (.int .i64 b))
    (hlen : rs.length ≤ 1000000000) (hbase : base ≤ w.heap.size)
    (h : ∀ v' w', Prs e w' base v' (rs ++ [(a, b)]) → w.grownBy w' v.ownBlock → wpList Tryz.prog ops Q rest (act.put o.dst v') w') : wpList Tryz.prog ops Q (o :: rest) act w := by
  obtain ⟨i, hi, hz0, hz1, hz2⟩ := info_parts hinfo
  refine wpList_append_own w hgd s x t ho base e i _ 2 16 he hi hz0 hz1 hz2 rfl (by decide) v rs.length _ hs hN ⟨B, 0, none⟩ 1 1 (flat [(a, b)]) hx rfl ?_ (flat_one _) (by unfold maxLen; omega) (by omega) hbase ?_
  · intro j u hj
    rw [Addr.add_lit, Nat.zero_add]
    match j, hj with
    | 0, hj => rw [h0]; exact hj
    | 1, hj => rw [h1]; exact hj
    | j + 2, hj => simp [flat] at hj
  · intro v' w' hown hgrow _
    refine h v' w' ?_ hgrow
    unfold Prs
    rw [List.length_append, flat_append]
    exact hown
end Go.Proofs.YtdhdfopkcpkbeaaGreatDoor
