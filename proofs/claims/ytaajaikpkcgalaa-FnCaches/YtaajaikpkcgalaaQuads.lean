/- Slices of structs of four int64: how they are told, and that they stay. -/
import Derived.Test.YtaajaikpkcgalaaNumb
import Derived.Laws.AppendOwn
import Derived.Deep.SlicePairs
namespace Go.Proofs.Ytaajaikpkcgalaa
open Go.RowKit
set_option linter.unusedVariables false

/-- A hit: Tag, Page, To, Kinds. -/
structure Qd where
  tag : Int
  page : Int
  to : Int
  kinds : Int
deriving DecidableEq, Inhabited

def qz : Qd := ⟨0, 0, 0, 0⟩
def Qd.cells (r : Qd) : List Value := [.int .i64 r.tag, .int .i64 r.page, .int .i64 r.to, .int .i64 r.kinds]
def Qd.val (r : Qd) : Value := .agg #[.int .i64 r.tag, .int .i64 r.page, .int .i64 r.to, .int .i64 r.kinds]
def flat4 : List Qd → List Value
  | [] => []
  | r :: t => .int .i64 r.tag :: .int .i64 r.page :: .int .i64 r.to :: .int .i64 r.kinds :: flat4 t
theorem flat4_length (rs : List Qd) : (flat4 rs).length = rs.length * 4 := by
  induction rs with
  | nil => rfl
  | cons r t ih => simp [flat4, ih]; omega
theorem flat4_append (rs qs : List Qd) : flat4 (rs ++ qs) = flat4 rs ++ flat4 qs := by
  induction rs with
  | nil => rfl
  | cons r t ih => simp [flat4, ih]
theorem flat4_get (rs : List Qd) (i : Nat) (h : i < rs.length) : (flat4 rs)[i * 4]? = some (.int .i64 (rs.getD i qz).tag) ∧ (flat4 rs)[i * 4 + 1]? = some (.int .i64 (rs.getD i qz).page) ∧
    (flat4 rs)[i * 4 + 2]? = some (.int .i64 (rs.getD i qz).to) ∧ (flat4 rs)[i * 4 + 3]? = some (.int .i64 (rs.getD i qz).kinds) := by
  induction rs generalizing i with
  | nil => simp at h
  | cons r t ih =>
    cases i with
    | zero => exact ⟨rfl, rfl, rfl, rfl⟩
    | succ i =>
      have h2 := ih i (by simpa using h)
      rw [show (i + 1) * 4 = i * 4 + 1 + 1 + 1 + 1 by omega]
      simpa [flat4] using h2
theorem flat4_set (rs : List Qd) (i : Nat) (r : Qd) (h : i < rs.length) : flat4 (rs.set i r) =
    ((((flat4 rs).set (i * 4) (.int .i64 r.tag)).set (i * 4 + 1) (.int .i64 r.page)).set (i * 4 + 2) (.int .i64 r.to)).set (i * 4 + 3) (.int .i64 r.kinds) := by
  induction rs generalizing i with
  | nil => simp at h
  | cons r t ih =>
    cases i with
    | zero => rfl
    | succ i =>
      rw [show (i + 1) * 4 = i * 4 + 1 + 1 + 1 + 1 by omega]
      simp [flat4, ih i (by simpa using h)]
theorem flat4_replicate (n : Nat) : flat4 (List.replicate n qz) = List.replicate (n * 4) (.int .i64 0) := by
  induction n with
  | zero => rfl
  | succ n ih =>
    rw [List.replicate_succ, flat4, ih, show (n + 1) * 4 = n * 4 + 1 + 1 + 1 + 1 by omega, List.replicate_succ, List.replicate_succ, List.replicate_succ, List.replicate_succ]
    rfl
theorem flat4_one (rs : List Qd) : ∀ u ∈ flat4 rs, u.oneCell' = true := by
  induction rs with
  | nil => intro u hu; cases hu
  | cons r t ih =>
    intro u hu
    rcases List.mem_cons.1 hu with rfl | hu
    · rfl
    rcases List.mem_cons.1 hu with rfl | hu
    · rfl
    rcases List.mem_cons.1 hu with rfl | hu
    · rfl
    rcases List.mem_cons.1 hu with rfl | hu
    · rfl
    exact ih u hu

/-- A slice of hits at the head of a block of its own (or nil). -/
def Qs (e : TypeId) (w : World) (base : Nat) (v : Value) (rs : List Qd) : Prop := w.ownsRow base e 4 v rs.length (flat4 rs)

theorem Qs.keep {e : TypeId} {w w' : World} {base : Nat} {v : Value} {rs : List Qd} (h : Qs e w base v rs) (hb : Below w.heap.size w w') : Qs e w' base v rs := by
  refine World.ownsRow.kept h (below_grown hb none) ?_
  cases v.ownBlock <;> simp
theorem Qs.lt {e : TypeId} {w : World} {base : Nat} {v : Value} {rs : List Qd} (h : Qs e w base v rs) : ∀ k, v.ownBlock = some k → base ≤ k ∧ k < w.heap.size := World.ownsRow.lt h
theorem Qs.nil (e : TypeId) (w : World) (base : Nat) : Qs e w base (.slice none 0 0) [] := World.ownsRow_nil w base _ _
theorem Qs.cell {e : TypeId} {w : World} {base g n cap : Nat} {rs : List Qd} (h : Qs e w base (.slice (some ⟨g, 0, none⟩) n cap) rs) (hn : n = rs.length) (i : Nat) (hi : i < n) :
    w.cell? ⟨g, i * 4, none⟩ = some (.int .i64 (rs.getD i qz).tag) ∧ w.cell? ⟨g, i * 4 + 1, none⟩ = some (.int .i64 (rs.getD i qz).page) ∧
    w.cell? ⟨g, i * 4 + 2, none⟩ = some (.int .i64 (rs.getD i qz).to) ∧ w.cell? ⟨g, i * 4 + 3, none⟩ = some (.int .i64 (rs.getD i qz).kinds) := by
  subst hn
  rw [World.ownsRow.cellAt h (i * 4) (by omega), World.ownsRow.cellAt h (i * 4 + 1) (by omega), World.ownsRow.cellAt h (i * 4 + 2) (by omega), World.ownsRow.cellAt h (i * 4 + 3) (by omega)]
  exact flat4_get rs i hi
theorem Qs.free {e : TypeId} {w : World} {base g n cap : Nat} {rs : List Qd} (h : Qs e w base (.slice (some ⟨g, 0, none⟩) n cap) rs) (hn : n = rs.length) (i : Nat) : w.frozen? ⟨g, i, none⟩ = false := by
  subst hn
  exact World.ownsRow.frozenAt h i
theorem Qs.shape {e : TypeId} {w : World} {base : Nat} {v : Value} {rs : List Qd} (h : Qs e w base v rs) : ∃ a cap, v = .slice a rs.length cap ∧ rs.length ≤ cap ∧ cap ≤ maxLen ∧ (0 < rs.length → ∃ g, a = some ⟨g, 0, none⟩) := by
  have h' := h
  obtain ⟨h1, ⟨rfl, h3⟩ | ⟨g, cap, cur, rfl, _, _, h4, h5, _⟩⟩ := h'
  · exact ⟨none, 0, by rw [h3], by omega, by unfold maxLen; omega, fun hz => by omega⟩
  · exact ⟨_, _, rfl, h4, h5, fun _ => ⟨g, rfl⟩⟩
theorem Qs.store {e : TypeId} {w : World} {base g n cap : Nat} {rs : List Qd} (h : Qs e w base (.slice (some ⟨g, 0, none⟩) n cap) rs) (hn : n = rs.length) (j : Nat) (r : Qd) (hj : j < n) :
    Qs e ((((w.setCell ⟨g, j * 4, none⟩ (.int .i64 r.tag)).setCell ⟨g, j * 4 + 1, none⟩ (.int .i64 r.page)).setCell ⟨g, j * 4 + 2, none⟩ (.int .i64 r.to)).setCell ⟨g, j * 4 + 3, none⟩ (.int .i64 r.kinds)) base (.slice (some ⟨g, 0, none⟩) n cap) (rs.set j r) := by
  subst hn
  have h1 := (World.ownsRow.stored h (j * 4) (.int .i64 r.tag)).1
  have h2 := (World.ownsRow.stored h1 (j * 4 + 1) (.int .i64 r.page)).1
  have h3 := (World.ownsRow.stored h2 (j * 4 + 2) (.int .i64 r.to)).1
  have h4 := (World.ownsRow.stored h3 (j * 4 + 3) (.int .i64 r.kinds)).1
  unfold Qs
  rw [List.length_set, flat4_set rs j r hj]
  exact h4

/-- A slice of hits that is read alone: so many cells in a row. -/
def IsQuads (w : World) (a : Option Addr) (len cap : Nat) (rs : List Qd) : Prop :=
  (a = none ∧ len = 0 ∧ cap = 0 ∧ rs = []) ∨
  ∃ x, a = some x ∧ len ≤ cap ∧ cap ≤ maxLen ∧ rs.length = len ∧ ∀ i, i < len → w.cell? (x.add (i * 4)) = some (.int .i64 (rs.getD i qz).tag) ∧ w.cell? (x.add (i * 4 + 1)) = some (.int .i64 (rs.getD i qz).page) ∧
    w.cell? (x.add (i * 4 + 2)) = some (.int .i64 (rs.getD i qz).to) ∧ w.cell? (x.add (i * 4 + 3)) = some (.int .i64 (rs.getD i qz).kinds)
theorem IsQuads.of {w : World} {x : Addr} {len cap : Nat} (V0 V1 V2 V3 : Nat → Value) (hl : len ≤ cap) (hm : cap ≤ maxLen)
    (h : ∀ i, i < len → w.cell? (x.add (i * 4)) = some (V0 i) ∧ w.cell? (x.add (i * 4 + 1)) = some (V1 i) ∧ w.cell? (x.add (i * 4 + 2)) = some (V2 i) ∧ w.cell? (x.add (i * 4 + 3)) = some (V3 i) ∧
      (∃ a, V0 i = .int .i64 a) ∧ (∃ a, V1 i = .int .i64 a) ∧ (∃ a, V2 i = .int .i64 a) ∧ ∃ a, V3 i = .int .i64 a) : ∃ rs, IsQuads w (some x) len cap rs := by
  refine ⟨(List.range len).map fun i => ⟨intOf (V0 i), intOf (V1 i), intOf (V2 i), intOf (V3 i)⟩, .inr ⟨x, rfl, hl, hm, by simp, fun i hi => ?_⟩⟩
  obtain ⟨h0, h1, h2, h3, ⟨a, ha⟩, ⟨b, hb⟩, ⟨c, hc⟩, ⟨d, hd⟩⟩ := h i hi
  rw [h0, h1, h2, h3, ha, hb, hc, hd]
  simp [List.getD, hi, ha, hb, hc, hd, intOf]
theorem IsQuads.stay {w w' : World} {a : Option Addr} {len cap : Nat} {rs : List Qd} (h : IsQuads w a len cap rs) (b : Below w.heap.size w w') : IsQuads w' a len cap rs := by
  rcases h with h | ⟨x, rfl, h1, h2, h3, h4⟩
  · exact .inl h
  · exact .inr ⟨x, rfl, h1, h2, h3, fun i hi => ⟨cell_keep b (h4 i hi).1, cell_keep b (h4 i hi).2.1, cell_keep b (h4 i hi).2.2.1, cell_keep b (h4 i hi).2.2.2⟩⟩
theorem IsQuads.len {w : World} {a : Option Addr} {len cap : Nat} {rs : List Qd} (h : IsQuads w a len cap rs) : len = rs.length := by
  rcases h with ⟨_, h1, _, rfl⟩ | ⟨x, _, _, _, h1, _⟩
  · simpa using h1
  · exact h1.symm
theorem IsQuads.cap {w : World} {a : Option Addr} {len cap : Nat} {rs : List Qd} (h : IsQuads w a len cap rs) : len ≤ cap ∧ cap ≤ maxLen := by
  rcases h with ⟨_, h1, h2, _⟩ | ⟨x, _, h1, h2, _, _⟩
  · subst h1 h2; exact ⟨Nat.le_refl _, Nat.zero_le _⟩
  · exact ⟨h1, h2⟩
/-- A slice of the call's own, read alone. -/
theorem Qs.read {e : TypeId} {w : World} {base n cap : Nat} {a : Option Addr} {rs : List Qd} (h : Qs e w base (.slice a n cap) rs) : IsQuads w a n cap rs := by
  obtain ⟨a', cap', hv, l1, l2, hg⟩ := h.shape
  cases hv
  by_cases hz : 0 < rs.length
  · obtain ⟨g, rfl⟩ := hg hz
    refine .inr ⟨_, rfl, l1, l2, rfl, fun i hi => ?_⟩
    have := h.cell rfl i hi
    simpa [Addr.add_lit] using this
  · have h0 : rs = [] := by cases rs with
      | nil => rfl
      | cons x t => exact absurd (Nat.succ_pos _) hz
    subst h0
    cases a with
    | none =>
      obtain ⟨h1, ⟨hq, h3⟩ | ⟨g, cap, cur, hq, _⟩⟩ := h
      · cases hq; exact .inl ⟨rfl, rfl, rfl, rfl⟩
      · cases hq
    | some x => exact .inr ⟨x, rfl, l1, l2, rfl, fun i hi => absurd hi (Nat.not_lt_zero _)⟩

theorem quads_set (rs : List Qd) (j n : Nat) (h : j < rs.length) (hn : n = rs.length) : (rs.take j ++ List.replicate (n - j) qz).set j (rs.getD j qz) = rs.take (j + 1) ++ List.replicate (n - (j + 1)) qz := by
  subst hn
  obtain ⟨m, hm⟩ : ∃ m, rs.length - j = m + 1 := ⟨rs.length - j - 1, by omega⟩
  have hm2 : rs.length - (j + 1) = m := by omega
  rw [hm, hm2, List.replicate_succ, List.set_append_right _ _ (by simp; omega), List.take_add_one, List.getElem?_eq_getElem h, List.getD, List.getElem?_eq_getElem h]
  rw [List.length_take, show j - min j rs.length = 0 by omega, List.set_cons_zero]
  simp only [Option.toList_some, Option.getD_some, List.append_assoc, List.singleton_append]

/-- append of one hit to a slice of the call's own. -/
theorem wp_quad {ops : Array Oper} {rest : List Oper} {o : Oper} {act : Act} {Q : Exit → Act → World → Prop} (t e : TypeId) (he : Try.prog.underlying t = some (.slice e)) (hinfo : (Try.prog.info? e).map (fun i => (i.zero, i.size, i.bytes)) = some (some qz.val, 4, 32))
    (w : World) (hgd : o.guard = none) (s x : Operand)
    (ho : o.op = .call { callee := .builtin .append, args := #[s, x], argTypes := #[t, t] }) (base : Nat) (v : Value) (rs : List Qd) (hs : act.eval s = v) (hN : Qs e w base v rs)
    (B : Nat) (r : Qd) (hx : act.eval x = .slice (some ⟨B, 0, none⟩) 1 1) (h0 : w.cell? ⟨B, 0, none⟩ = some (.int .i64 r.tag)) (h1 : w.cell? ⟨B, 1, none⟩ = some (.int .i64 r.page)) (h2 : w.cell? ⟨B, 2, none⟩ = some (.int .i64 r.to)) (h3 : w.cell? ⟨B, 3, none⟩ = some (.int .i64 r.kinds))
    (hlen : rs.length ≤ 1000000000) (hbase : base ≤ w.heap.size)
    (h : ∀ v' w', Qs e w' base v' (rs ++ [r]) → w.grownBy w' v.ownBlock → wpList Try.prog ops Q rest (act.put o.dst v') w') : wpList Try.prog ops Q (o :: rest) act w := by
  obtain ⟨i, hi, hz0, hz1, hz2⟩ := info_parts hinfo
  refine wpList_append_own w hgd s x t ho base e i _ 4 32 he hi hz0 hz1 hz2 rfl (by decide) v rs.length _ hs hN ⟨B, 0, none⟩ 1 1 (flat4 [r]) hx rfl ?_ (flat4_one _) (by unfold maxLen; omega) (by omega) hbase ?_
  · intro j u hj
    rw [Addr.add_lit, Nat.zero_add]
    match j, hj with
    | 0, hj => rw [h0]; exact hj
    | 1, hj => rw [h1]; exact hj
    | 2, hj => rw [h2]; exact hj
    | 3, hj => rw [h3]; exact hj
    | j + 4, hj => simp [flat4] at hj
  · intro v' w' hown hgrow _
    refine h v' w' ?_ hgrow
    unfold Qs
    rw [List.length_append, flat4_append]
    exact hown
end Go.Proofs.Ytaajaikpkcgalaa
