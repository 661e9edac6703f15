/- Texts of this seat, joined. -/
import Derived.Laws.AppendOwn
import Derived.Deep.SlicePairs
import Derived.Test.YtggejbphdadckaaGreatDoorQ01
namespace Go.Proofs.YtggejbphdadckaaGreatDoor
open Go.RowKit
set_option linter.unusedVariables false

def flat : List (Int × Int) → List Value
  | [] => []
  | r :: t => .int .i64 r.1 :: .int .i64 r.2 :: flat t
theorem flat_length (rs : List (Int × Int)) : (flat rs).length = rs.length * 2 := by
  induction rs with
  | nil => rfl
  | cons r t ih => simp [flat, ih]; omega
theorem flat_append (rs qs : List (Int × Int)) : flat (rs ++ qs) = flat rs ++ flat qs := by
  induction rs with
  | nil => rfl
  | cons r t ih => simp [flat, ih]
theorem flat_get (rs : List (Int × Int)) (i : Nat) (h : i < rs.length) : (flat rs)[i * 2]? = some (.int .i64 (rs.getD i (0, 0)).1) ∧ (flat rs)[i * 2 + 1]? = some (.int .i64 (rs.getD i (0, 0)).2) := by
  induction rs generalizing i with
  | nil => simp at h
  | cons r t ih =>
    cases i with
    | zero => exact ⟨rfl, rfl⟩
    | succ i =>
      have h2 := ih i (by simpa using h)
      rw [show (i + 1) * 2 = i * 2 + 1 + 1 by omega]
      simpa [flat] using h2
theorem flat_set (rs : List (Int × Int)) (i : Nat) (a b : Int) (h : i < rs.length) : flat (rs.set i (a, b)) = ((flat rs).set (i * 2) (.int .i64 a)).set (i * 2 + 1) (.int .i64 b) := by
  induction rs generalizing i with
  | nil => simp at h
  | cons r t ih =>
    cases i with
    | zero => rfl
    | succ i =>
      rw [show (i + 1) * 2 = i * 2 + 1 + 1 by omega]
      simp [flat, ih i (by simpa using h)]
theorem flat_replicate (n : Nat) : flat (List.replicate n (0, 0)) = List.replicate (n * 2) (.int .i64 0) := by
  induction n with
  | zero => rfl
  | succ n ih =>
    rw [List.replicate_succ, flat, ih, show (n + 1) * 2 = n * 2 + 1 + 1 by omega, List.replicate_succ, List.replicate_succ]
theorem flat_one (rs : List (Int × Int)) : ∀ u ∈ flat rs, u.oneCell' = true := by
  induction rs with
  | nil => intro u hu; cases hu
  | cons r t ih =>
    intro u hu
    rcases List.mem_cons.1 hu with rfl | hu
    · rfl
    rcases List.mem_cons.1 hu with rfl | hu
    · rfl
    exact ih u hu

/-- A slice of pairs at the head of a block of its own (or nil). -/
def Prs (e : TypeId) (w : World) (base : Nat) (v : Value) (rs : List (Int × Int)) : Prop := w.ownsRow base e 2 v rs.length (flat rs)

theorem Prs.keep {e : TypeId} {w w' : World} {base : Nat} {v : Value} {rs : List (Int × Int)} (h : Prs e w base v rs) (hb : Below w.heap.size w w') : Prs e w' base v rs := by
  refine World.ownsRow.kept h (below_grown hb none) ?_
  cases v.ownBlock <;> simp
theorem Prs.lt {e : TypeId} {w : World} {base : Nat} {v : Value} {rs : List (Int × Int)} (h : Prs e w base v rs) : ∀ k, v.ownBlock = some k → base ≤ k ∧ k < w.heap.size := World.ownsRow.lt h
theorem Prs.nil (e : TypeId) (w : World) (base : Nat) : Prs e w base (.slice none 0 0) [] := World.ownsRow_nil w base _ _
theorem Prs.cell {e : TypeId} {w : World} {base g n cap : Nat} {rs : List (Int × Int)} (h : Prs e w base (.slice (some ⟨g, 0, none⟩) n cap) rs) (hn : n = rs.length) (i : Nat) (hi : i < n) :
    w.cell? ⟨g, i * 2, none⟩ = some (.int .i64 (rs.getD i (0, 0)).1) ∧ w.cell? ⟨g, i * 2 + 1, none⟩ = some (.int .i64 (rs.getD i (0, 0)).2) := by
  subst hn
  rw [World.ownsRow.cellAt h (i * 2) (by omega), World.ownsRow.cellAt h (i * 2 + 1) (by omega)]
  exact flat_get rs i hi
theorem Prs.free {e : TypeId} {w : World} {base g n cap : Nat} {rs : List (Int × Int)} (h : Prs e w base (.slice (some ⟨g, 0, none⟩) n cap) rs) (hn : n = rs.length) (i : Nat) : w.frozen? ⟨g, i, none⟩ = false := by
  subst hn
  exact World.ownsRow.frozenAt h i
theorem Prs.shape {e : TypeId} {w : World} {base : Nat} {v : Value} {rs : List (Int × Int)} (h : Prs e w base v rs) : ∃ a cap, v = .slice a rs.length cap ∧ rs.length ≤ cap ∧ cap ≤ maxLen ∧ (0 < rs.length → ∃ g, a = some ⟨g, 0, none⟩) := by
  have h' := h
  obtain ⟨h1, ⟨rfl, h3⟩ | ⟨g, cap, cur, rfl, _, _, h4, h5, _⟩⟩ := h'
  · exact ⟨none, 0, by rw [h3], by omega, by unfold maxLen; omega, fun hz => by omega⟩
  · exact ⟨_, _, rfl, h4, h5, fun _ => ⟨g, rfl⟩⟩
theorem Prs.store {e : TypeId} {w : World} {base g n cap : Nat} {rs : List (Int × Int)} (h : Prs e w base (.slice (some ⟨g, 0, none⟩) n cap) rs) (hn : n = rs.length) (j : Nat) (a b : Int) (hj : j < n) :
    Prs e ((w.setCell ⟨g, j * 2, none⟩ (.int .i64 a)).setCell ⟨g, j * 2 + 1, none⟩ (.int .i64 b)) base (.slice (some ⟨g, 0, none⟩) n cap) (rs.set j (a, b)) := by
  subst hn
  have h1 := (World.ownsRow.stored h (j * 2) (.int .i64 a)).1
  have h2 := (World.ownsRow.stored h1 (j * 2 + 1) (.int .i64 b)).1
  unfold Prs
  rw [List.length_set, flat_set rs j a b hj]
  exact h2

/-- A slice of pairs that came in. -/
def IsPairs (w : World) (a : Option Addr) (len cap : Nat) (rs : List (Int × Int)) : Prop :=
  (a = none ∧ len = 0 ∧ cap = 0 ∧ rs = []) ∨
  ∃ x, a = some x ∧ len ≤ cap ∧ cap ≤ maxLen ∧ rs.length = len ∧ ∀ i, i < len → w.cell? (x.add (i * 2)) = some (.int .i64 (rs.getD i (0, 0)).1) ∧ w.cell? (x.add (i * 2 + 1)) = some (.int .i64 (rs.getD i (0, 0)).2)
theorem IsPairs.of {w : World} {x : Addr} {len cap : Nat} (V0 V1 : Nat → Value) (hl : len ≤ cap) (hm : cap ≤ maxLen)
    (h : ∀ i, i < len → w.cell? (x.add (i * 2)) = some (V0 i) ∧ w.cell? (x.add (i * 2 + 1)) = some (V1 i) ∧ (∃ a, V0 i = .int .i64 a) ∧ ∃ b, V1 i = .int .i64 b) : ∃ rs, IsPairs w (some x) len cap rs := by
  refine ⟨(List.range len).map fun i => (intOf (V0 i), intOf (V1 i)), .inr ⟨x, rfl, hl, hm, by simp, fun i hi => ?_⟩⟩
  obtain ⟨h0, h1, ⟨a, ha⟩, ⟨b, hb⟩⟩ := h i hi
  rw [h0, h1, ha, hb]
  simp [List.getD, hi, ha, hb, intOf]
theorem IsPairs.stay {w w' : World} {a : Option Addr} {len cap : Nat} {rs : List (Int × Int)} (h : IsPairs w a len cap rs) (b : Below w.heap.size w w') : IsPairs w' a len cap rs := by
  rcases h with h | ⟨x, rfl, h1, h2, h3, h4⟩
  · exact .inl h
  · exact .inr ⟨x, rfl, h1, h2, h3, fun i hi => ⟨cell_keep b (h4 i hi).1, cell_keep b (h4 i hi).2⟩⟩
theorem IsPairs.len {w : World} {a : Option Addr} {len cap : Nat} {rs : List (Int × Int)} (h : IsPairs w a len cap rs) : len = rs.length := by
  rcases h with ⟨_, h1, _, rfl⟩ | ⟨x, _, _, _, h1, _⟩
  · simpa using h1
  · exact h1.symm

theorem pairs_set (rs : List (Int × Int)) (j n : Nat) (h : j < rs.length) (hn : n = rs.length) : (rs.take j ++ List.replicate (n - j) (0, 0)).set j ((rs.getD j (0, 0)).1, (rs.getD j (0, 0)).2) = rs.take (j + 1) ++ List.replicate (n - (j + 1)) (0, 0) := by
  subst hn
  obtain ⟨m, hm⟩ : ∃ m, rs.length - j = m + 1 := ⟨rs.length - j - 1, by omega⟩
  have hm2 : rs.length - (j + 1) = m := by omega
  rw [hm, hm2, List.replicate_succ, List.set_append_right _ _ (by simp; omega), List.take_add_one, List.getElem?_eq_getElem h, List.getD, List.getElem?_eq_getElem h]
  rw [List.length_take, show j - min j rs.length = 0 by omega, List.set_cons_zero]
  simp only [Option.toList_some, Option.getD_some, List.append_assoc, List.singleton_append]

/-- append of one pair to a slice of the call's own. -/
theorem wp_pair {ops : Array Oper} {rest : List Oper} {o : Oper} {act : Act} {Q : Exit → Act → World → Prop} (t e : TypeId) (he : Tryz.prog.underlying t = some (.slice e)) (hinfo : (Tryz.prog.info? e).map (fun i => (i.zero, i.size, i.bytes)) = some (some (.agg #[.int .i64 0, .int .i64 0]), 2, 16))
    (w : World) (hgd : o.guard = none) (s x : Operand)
    (ho : o.op = .call { callee := .builtin .append, args := #[s, x], argTypes := #[t, t] }) (base : Nat) (v : Value) (rs : List (Int × Int)) (hs : act.eval s = v) (hN : Prs e w base v rs)
    (B : Nat) (a b : Int) (hx : act.eval x = .slice (some ⟨B, 0, none⟩) 1 1) (h0 : w.cell? ⟨B, 0, none⟩ = some (.int .i64 a)) (h1 : w.cell? ⟨B, 1, none⟩ = some (.int .i64 b))
    (hlen : rs.length ≤ 1000000000) (hbase : base ≤ w.heap.size)
    (h : ∀ v' w', Prs e w' base v' (rs ++ [(a, b)]) → w.grownBy w' v.ownBlock → wpList Tryz.prog ops Q rest (act.put o.dst v') w') : wpList Tryz.prog ops Q (o :: rest) act w := by
  obtain ⟨i, hi, hz0, hz1, hz2⟩ := info_parts hinfo
  refine wpList_append_own w hgd s x t ho base e i _ 2 16 he hi hz0 hz1 hz2 rfl (by decide) v rs.length _ hs hN ⟨B, 0, none⟩ 1 1 (flat [(a, b)]) hx rfl ?_ (flat_one _) (by unfold maxLen; omega) (by omega) hbase ?_
  · intro j u hj
    rw [Addr.add_lit, Nat.zero_add]
    match j, hj with
    | 0, hj => rw [h0]; exact hj
    | 1, hj => rw [h1]; exact hj
    | j + 2, hj => simp [flat] at hj
  · intro v' w' hown hgrow _
    refine h v' w' ?_ hgrow
    unfold Prs
    rw [List.length_append, flat_append]
    exact hown
end Go.Proofs.YtggejbphdadckaaGreatDoor
namespace Go.Proofs.YtggejbphdadckaaGreatDoor
open Go.RowKit
set_option linter.unusedVariables false

/-- A lane: From, To, Page, AtFrom, AtTo. -/
structure Ln where
  fr : Int
  dst : Int
  pg : Int
  af : Int
  tt : Int
deriving DecidableEq, Inhabited

def lz : Ln := ⟨0, 0, 0, 0, 0⟩
def Ln.val (r : Ln) : Value := .agg #[.int .i64 r.fr, .int .i64 r.dst, .int .i64 r.pg, .int .i64 r.af, .int .i64 r.tt]
def flat5 : List Ln → List Value
  | [] => []
  | r :: t => .int .i64 r.fr :: .int .i64 r.dst :: .int .i64 r.pg :: .int .i64 r.af :: .int .i64 r.tt :: flat5 t
theorem flat5_length (rs : List Ln) : (flat5 rs).length = rs.length * 5 := by
  induction rs with
  | nil => rfl
  | cons r t ih => simp [flat5, ih]; omega
theorem flat5_get (rs : List Ln) (i : Nat) (h : i < rs.length) : (flat5 rs)[i * 5]? = some (.int .i64 (rs.getD i lz).fr) ∧ (flat5 rs)[i * 5 + 1]? = some (.int .i64 (rs.getD i lz).dst) ∧
    (flat5 rs)[i * 5 + 2]? = some (.int .i64 (rs.getD i lz).pg) ∧ (flat5 rs)[i * 5 + 3]? = some (.int .i64 (rs.getD i lz).af) ∧ (flat5 rs)[i * 5 + 4]? = some (.int .i64 (rs.getD i lz).tt) := by
  induction rs generalizing i with
  | nil => simp at h
  | cons r t ih =>
    cases i with
    | zero => exact ⟨rfl, rfl, rfl, rfl, rfl⟩
    | succ i =>
      have h2 := ih i (by simpa using h)
      rw [show (i + 1) * 5 = i * 5 + 1 + 1 + 1 + 1 + 1 by omega]
      simpa [flat5] using h2
theorem flat5_set (rs : List Ln) (i : Nat) (r : Ln) (h : i < rs.length) : flat5 (rs.set i r) =
    (((((flat5 rs).set (i * 5) (.int .i64 r.fr)).set (i * 5 + 1) (.int .i64 r.dst)).set (i * 5 + 2) (.int .i64 r.pg)).set (i * 5 + 3) (.int .i64 r.af)).set (i * 5 + 4) (.int .i64 r.tt) := by
  induction rs generalizing i with
  | nil => simp at h
  | cons r t ih =>
    cases i with
    | zero => rfl
    | succ i =>
      rw [show (i + 1) * 5 = i * 5 + 1 + 1 + 1 + 1 + 1 by omega]
      simp [flat5, ih i (by simpa using h)]
theorem flat5_replicate (n : Nat) : flat5 (List.replicate n lz) = List.replicate (n * 5) (.int .i64 0) := by
  induction n with
  | zero => rfl
  | succ n ih =>
    rw [List.replicate_succ, flat5, ih, show (n + 1) * 5 = n * 5 + 1 + 1 + 1 + 1 + 1 by omega, List.replicate_succ, List.replicate_succ, List.replicate_succ, List.replicate_succ, List.replicate_succ]
    rfl
theorem flat5_one (rs : List Ln) : ∀ u ∈ flat5 rs, u.oneCell' = true := by
  induction rs with
  | nil => intro u hu; cases hu
  | cons r t ih =>
    intro u hu
    rcases List.mem_cons.1 hu with rfl | hu
    · rfl
    rcases List.mem_cons.1 hu with rfl | hu
    · rfl
    rcases List.mem_cons.1 hu with rfl | hu
    · rfl
    rcases List.mem_cons.1 hu with rfl | hu
    · rfl
    rcases List.mem_cons.1 hu with rfl | hu
    · rfl
    exact ih u hu

/-- A slice of lanes at the head of a block of its own (or nil). -/
def Ls (e : TypeId) (w : World) (base : Nat) (v : Value) (rs : List Ln) : Prop := w.ownsRow base e 5 v rs.length (flat5 rs)

theorem Ls.keep {e : TypeId} {w w' : World} {base : Nat} {v : Value} {rs : List Ln} (h : Ls e w base v rs) (hb : Below w.heap.size w w') : Ls e w' base v rs := by
  refine World.ownsRow.kept h (below_grown hb none) ?_
  cases v.ownBlock <;> simp
theorem Ls.lt {e : TypeId} {w : World} {base : Nat} {v : Value} {rs : List Ln} (h : Ls e w base v rs) : ∀ k, v.ownBlock = some k → base ≤ k ∧ k < w.heap.size := World.ownsRow.lt h
theorem Ls.nil (e : TypeId) (w : World) (base : Nat) : Ls e w base (.slice none 0 0) [] := World.ownsRow_nil w base _ _
theorem Ls.cell {e : TypeId} {w : World} {base g n cap : Nat} {rs : List Ln} (h : Ls e w base (.slice (some ⟨g, 0, none⟩) n cap) rs) (hn : n = rs.length) (i : Nat) (hi : i < n) :
    w.cell? ⟨g, i * 5, none⟩ = some (.int .i64 (rs.getD i lz).fr) ∧ w.cell? ⟨g, i * 5 + 1, none⟩ = some (.int .i64 (rs.getD i lz).dst) ∧
    w.cell? ⟨g, i * 5 + 2, none⟩ = some (.int .i64 (rs.getD i lz).pg) ∧ w.cell? ⟨g, i * 5 + 3, none⟩ = some (.int .i64 (rs.getD i lz).af) ∧ w.cell? ⟨g, i * 5 + 4, none⟩ = some (.int .i64 (rs.getD i lz).tt) := by
  subst hn
  rw [World.ownsRow.cellAt h (i * 5) (by omega), World.ownsRow.cellAt h (i * 5 + 1) (by omega), World.ownsRow.cellAt h (i * 5 + 2) (by omega), World.ownsRow.cellAt h (i * 5 + 3) (by omega), World.ownsRow.cellAt h (i * 5 + 4) (by omega)]
  exact flat5_get rs i hi
theorem Ls.free {e : TypeId} {w : World} {base g n cap : Nat} {rs : List Ln} (h : Ls e w base (.slice (some ⟨g, 0, none⟩) n cap) rs) (hn : n = rs.length) (i : Nat) : w.frozen? ⟨g, i, none⟩ = false := by
  subst hn
  exact World.ownsRow.frozenAt h i
theorem Ls.shape {e : TypeId} {w : World} {base : Nat} {v : Value} {rs : List Ln} (h : Ls e w base v rs) : ∃ a cap, v = .slice a rs.length cap ∧ rs.length ≤ cap ∧ cap ≤ maxLen ∧ (0 < rs.length → ∃ g, a = some ⟨g, 0, none⟩) := by
  have h' := h
  obtain ⟨h1, ⟨rfl, h3⟩ | ⟨g, cap, cur, rfl, _, _, h4, h5, _⟩⟩ := h'
  · exact ⟨none, 0, by rw [h3], by omega, by unfold maxLen; omega, fun hz => by omega⟩
  · exact ⟨_, _, rfl, h4, h5, fun _ => ⟨g, rfl⟩⟩
theorem Ls.store {e : TypeId} {w : World} {base g n cap : Nat} {rs : List Ln} (h : Ls e w base (.slice (some ⟨g, 0, none⟩) n cap) rs) (hn : n = rs.length) (j : Nat) (r : Ln) (hj : j < n) :
    Ls e (((((w.setCell ⟨g, j * 5, none⟩ (.int .i64 r.fr)).setCell ⟨g, j * 5 + 1, none⟩ (.int .i64 r.dst)).setCell ⟨g, j * 5 + 2, none⟩ (.int .i64 r.pg)).setCell ⟨g, j * 5 + 3, none⟩ (.int .i64 r.af)).setCell ⟨g, j * 5 + 4, none⟩ (.int .i64 r.tt)) base (.slice (some ⟨g, 0, none⟩) n cap) (rs.set j r) := by
  subst hn
  have h1 := (World.ownsRow.stored h (j * 5) (.int .i64 r.fr)).1
  have h2 := (World.ownsRow.stored h1 (j * 5 + 1) (.int .i64 r.dst)).1
  have h3 := (World.ownsRow.stored h2 (j * 5 + 2) (.int .i64 r.pg)).1
  have h4 := (World.ownsRow.stored h3 (j * 5 + 3) (.int .i64 r.af)).1
  have h5 := (World.ownsRow.stored h4 (j * 5 + 4) (.int .i64 r.tt)).1
  unfold Ls
  rw [List.length_set, flat5_set rs j r hj]
  exact h5

/-- A slice of lanes that is read alone: so many cells in a row. -/
def IsLanes (w : World) (a : Option Addr) (len cap : Nat) (rs : List Ln) : Prop :=
  (a = none ∧ len = 0 ∧ cap = 0 ∧ rs = []) ∨
  ∃ x, a = some x ∧ len ≤ cap ∧ cap ≤ maxLen ∧ rs.length = len ∧ ∀ i, i < len → w.cell? (x.add (i * 5)) = some (.int .i64 (rs.getD i lz).fr) ∧ w.cell? (x.add (i * 5 + 1)) = some (.int .i64 (rs.getD i lz).dst) ∧
    w.cell? (x.add (i * 5 + 2)) = some (.int .i64 (rs.getD i lz).pg) ∧ w.cell? (x.add (i * 5 + 3)) = some (.int .i64 (rs.getD i lz).af) ∧ w.cell? (x.add (i * 5 + 4)) = some (.int .i64 (rs.getD i lz).tt)
theorem IsLanes.stay {w w' : World} {a : Option Addr} {len cap : Nat} {rs : List Ln} (h : IsLanes w a len cap rs) (b : Below w.heap.size w w') : IsLanes w' a len cap rs := by
  rcases h with h | ⟨x, rfl, h1, h2, h3, h4⟩
  · exact .inl h
  · exact .inr ⟨x, rfl, h1, h2, h3, fun i hi => ⟨cell_keep b (h4 i hi).1, cell_keep b (h4 i hi).2.1, cell_keep b (h4 i hi).2.2.1, cell_keep b (h4 i hi).2.2.2.1, cell_keep b (h4 i hi).2.2.2.2⟩⟩
theorem IsLanes.len {w : World} {a : Option Addr} {len cap : Nat} {rs : List Ln} (h : IsLanes w a len cap rs) : len = rs.length := by
  rcases h with ⟨_, h1, _, rfl⟩ | ⟨x, _, _, _, h1, _⟩
  · simpa using h1
  · exact h1.symm
theorem IsLanes.cap {w : World} {a : Option Addr} {len cap : Nat} {rs : List Ln} (h : IsLanes w a len cap rs) : len ≤ cap ∧ cap ≤ maxLen := by
  rcases h with ⟨_, h1, h2, _⟩ | ⟨x, _, h1, h2, _, _⟩
  · subst h1 h2; exact ⟨Nat.le_refl _, Nat.zero_le _⟩
  · exact ⟨h1, h2⟩
/-- A slice of the call's own, read alone. -/
theorem Ls.read {e : TypeId} {w : World} {base n cap : Nat} {a : Option Addr} {rs : List Ln} (h : Ls e w base (.slice a n cap) rs) : IsLanes w a n cap rs := by
  obtain ⟨a', cap', hv, l1, l2, hg⟩ := h.shape
  cases hv
  by_cases hz : 0 < rs.length
  · obtain ⟨g, rfl⟩ := hg hz
    refine .inr ⟨_, rfl, l1, l2, rfl, fun i hi => ?_⟩
    have := h.cell rfl i hi
    simpa [Addr.add_lit] using this
  · have h0 : rs = [] := by cases rs with
      | nil => rfl
      | cons x t => exact absurd (Nat.succ_pos _) hz
    subst h0
    cases a with
    | none =>
      obtain ⟨h1, ⟨hq, h3⟩ | ⟨g, cap, cur, hq, _⟩⟩ := h
      · cases hq; exact .inl ⟨rfl, rfl, rfl, rfl⟩
      · cases hq
    | some x => exact .inr ⟨x, rfl, l1, l2, rfl, fun i hi => absurd hi (Nat.not_lt_zero _)⟩

theorem lanes_set (rs : List Ln) (j n : Nat) (h : j < rs.length) (hn : n = rs.length) : (rs.take j ++ List.replicate (n - j) lz).set j (rs.getD j lz) = rs.take (j + 1) ++ List.replicate (n - (j + 1)) lz := by
  subst hn
  obtain ⟨m, hm⟩ : ∃ m, rs.length - j = m + 1 := ⟨rs.length - j - 1, by omega⟩
  have hm2 : rs.length - (j + 1) = m := by omega
  rw [hm, hm2, List.replicate_succ, List.set_append_right _ _ (by simp; omega), List.take_add_one, List.getElem?_eq_getElem h, List.getD, List.getElem?_eq_getElem h]
  rw [List.length_take, show j - min j rs.length = 0 by omega, List.set_cons_zero]
  simp only [Option.toList_some, Option.getD_some, List.append_assoc, List.singleton_append]

end Go.Proofs.YtggejbphdadckaaGreatDoor
namespace Go.Proofs.YtggejbphdadckaaGreatDoor
open Go.RowKit
set_option linter.unusedVariables false

/-- A policy: Own, Lanes, Bells, Plan. -/
structure Plc where
  own : List (List Int)
  lanes : List Ln
  bells : List (Int × Int)
  plan : List (Int × Int)

def pgOk (x : Int) : Bool := decide (0 ≤ x) && decide (x ≤ 23)
def guestsV : List (List Int) → Int
  | [] => 0
  | o :: t => if o.length < 1 ∨ 5 < o.length then 2 else if o.all pgOk = false then 3 else guestsV t
def dupF (seen : List Int) : List Int → Bool
  | [] => false
  | z :: t => if z ∈ seen then true else dupF (seen ++ [z]) t
def ownerFrom (i : Int) : List (List Int) → Int → Int
  | [], _ => -1
  | o :: t, pg => if pg ∈ o then i else ownerFrom (i + 1) t pg
def isG (n : Nat) (g : Int) : Bool := decide (0 ≤ g) && decide (g ≤ (n : Int) - 1)
def endsV (n : Nat) (f t : Int) : Int := if isG n f = false ∨ isG n t = false then 4 else if f = t then 1 else 0
def usesV (l : Ln) (g p : Int) : Bool := decide (l.fr = g ∧ l.af = p ∨ l.dst = g ∧ l.tt = p)
def meetV (o l : Ln) : Bool := decide (o.pg = l.pg) || usesV o l.fr l.af || usesV o l.dst l.tt
def atOk (x : Int) : Bool := decide (5 ≤ x) && decide (x ≤ 6)
def stOk (x : Int) : Bool := decide (1 ≤ x) && decide (x ≤ 50)
def laneV (own : List (List Int)) (ahead : List Ln) (l : Ln) : Int :=
  if endsV own.length l.fr l.dst = 0 then
    if pgOk l.pg = false ∨ atOk l.af = false ∨ atOk l.tt = false then 3
    else if 0 ≤ ownerFrom 0 own l.pg then 6 else if ahead.any (fun o => meetV o l) then 6 else 0
  else endsV own.length l.fr l.dst
def lanesV (own : List (List Int)) (ahead : List Ln) : List Ln → Int
  | [] => 0
  | l :: t => if laneV own ahead l = 0 then lanesV own (ahead ++ [l]) t else laneV own ahead l
def bellV (n : Nat) (ahead : List (Int × Int)) (b : Int × Int) : Int := if endsV n b.1 b.2 = 0 then (if b ∈ ahead then 6 else 0) else endsV n b.1 b.2
def bellsV (n : Nat) (ahead : List (Int × Int)) : List (Int × Int) → Int
  | [] => 0
  | b :: t => if bellV n ahead b = 0 then bellsV n (ahead ++ [b]) t else bellV n ahead b
def slotV (n : Nat) (s : Int × Int) : Int := if isG n s.1 = false then 4 else if stOk s.2 = false then 3 else 0
def slotsV (n : Nat) : List (Int × Int) → Int
  | [] => 0
  | s :: t => if slotV n s = 0 then slotsV n t else slotV n s
def g1V (own : List (List Int)) : Int := if own.length < 1 ∨ 3 < own.length then 2 else guestsV own
def g2V (own : List (List Int)) : Int := if dupF [] own.flatten then 6 else 0
def g3V (P : Plc) : Int := if 4 < P.lanes.length ∨ 4 < P.bells.length then 2 else 0
def g6V (P : Plc) : Int := if P.plan.length < 1 ∨ 8 < P.plan.length then 2 else slotsV P.own.length P.plan
/-- The first of two codes that is not 0. -/
def orV (a b : Int) : Int := if a = 0 then b else a
def ownsV (P : Plc) : Int := orV (g1V P.own) (g2V P.own)
def linksV (P : Plc) : Int := orV (g3V P) (lanesV P.own [] P.lanes)
def restV (P : Plc) : Int := orV (bellsV P.own.length [] P.bells) (g6V P)
def pfV (P : Plc) : Int := orV (ownsV P) (orV (linksV P) (restV P))

theorem take_succ_getD {α : Type} (zs : List α) (d : α) (j : Nat) (h : j < zs.length) : zs.take (j + 1) = zs.take j ++ [zs.getD j d] := by
  rw [List.take_add_one, List.getElem?_eq_getElem h, List.getD, List.getElem?_eq_getElem h]
  simp
theorem drop_cons_getD {α : Type} (zs : List α) (d : α) (j : Nat) (h : j < zs.length) : zs.drop j = zs.getD j d :: zs.drop (j + 1) := by
  rw [List.drop_eq_getElem_cons h, List.getD, List.getElem?_eq_getElem h]
  simp
theorem guests_step (own : List (List Int)) (j : Nat) (h : j < own.length) : guestsV (own.drop j) =
    if (own.getD j []).length < 1 ∨ 5 < (own.getD j []).length then 2 else if (own.getD j []).all pgOk = false then 3 else guestsV (own.drop (j + 1)) := by
  rw [drop_cons_getD own [] j h, guestsV]
theorem all_step (zs : List Int) (f : Int → Bool) (j : Nat) (h : j < zs.length) : (zs.drop j).all f = (f (zs.getD j 0) && (zs.drop (j + 1)).all f) := by
  rw [drop_cons_getD zs 0 j h, List.all_cons]
theorem any_step {α : Type} (d : α) (zs : List α) (f : α → Bool) (j : Nat) (h : j < zs.length) : (zs.drop j).any f = (f (zs.getD j d) || (zs.drop (j + 1)).any f) := by
  rw [drop_cons_getD zs d j h, List.any_cons]
theorem owner_step (own : List (List Int)) (pg : Int) (j : Nat) (h : j < own.length) : ownerFrom j (own.drop j) pg = if pg ∈ own.getD j [] then (j : Int) else ownerFrom ((j + 1 : Nat) : Int) (own.drop (j + 1)) pg := by
  rw [drop_cons_getD own [] j h, ownerFrom]
  rfl
theorem lanes_step (own : List (List Int)) (zs : List Ln) (j : Nat) (h : j < zs.length) : lanesV own (zs.take j) (zs.drop j) =
    if laneV own (zs.take j) (zs.getD j lz) = 0 then lanesV own (zs.take (j + 1)) (zs.drop (j + 1)) else laneV own (zs.take j) (zs.getD j lz) := by
  rw [drop_cons_getD zs lz j h, lanesV, take_succ_getD zs lz j h]
theorem bells_step (n : Nat) (zs : List (Int × Int)) (j : Nat) (h : j < zs.length) : bellsV n (zs.take j) (zs.drop j) =
    if bellV n (zs.take j) (zs.getD j (0, 0)) = 0 then bellsV n (zs.take (j + 1)) (zs.drop (j + 1)) else bellV n (zs.take j) (zs.getD j (0, 0)) := by
  rw [drop_cons_getD zs (0, 0) j h, bellsV, take_succ_getD zs (0, 0) j h]
theorem slots_step (n : Nat) (zs : List (Int × Int)) (j : Nat) (h : j < zs.length) : slotsV n (zs.drop j) =
    if slotV n (zs.getD j (0, 0)) = 0 then slotsV n (zs.drop (j + 1)) else slotV n (zs.getD j (0, 0)) := by
  rw [drop_cons_getD zs (0, 0) j h, slotsV]
/-- What is seen of the pages, and what is left, at the page k of the guest i. -/
def seenAt (own : List (List Int)) (i k : Nat) : List Int := (own.take i).flatten ++ (own.getD i []).take k
def leftAt (own : List (List Int)) (i k : Nat) : List Int := (own.getD i []).drop k ++ (own.drop (i + 1)).flatten
theorem dup_step (own : List (List Int)) (i k : Nat) (h : k < (own.getD i []).length) : dupF (seenAt own i k) (leftAt own i k) =
    if (own.getD i []).getD k 0 ∈ seenAt own i k then true else dupF (seenAt own i (k + 1)) (leftAt own i (k + 1)) := by
  unfold leftAt seenAt
  rw [drop_cons_getD _ 0 k h, List.cons_append, dupF, take_succ_getD _ 0 k h, List.append_assoc]
theorem guests_all (own : List (List Int)) (h : guestsV own = 0) : ∀ o ∈ own, 1 ≤ o.length ∧ o.length ≤ 5 ∧ ∀ x ∈ o, 0 ≤ x ∧ x ≤ 23 := by
  induction own with
  | nil => intro o ho; cases ho
  | cons a t ih =>
    rw [guestsV] at h
    split at h
    · cases h
    · rename_i h1
      split at h
      · cases h
      · rename_i h2
        intro o ho
        rcases List.mem_cons.1 ho with rfl | ho
        · refine ⟨by omega, by omega, fun x hx => ?_⟩
          have h3 : o.all pgOk = true := by simpa using h2
          have := (List.all_eq_true.1 h3) x hx
          simpa [pgOk] using this
        · exact ih h o ho
theorem owner_range (own : List (List Int)) (pg : Int) : ∀ i : Int, 0 ≤ i → ownerFrom i own pg = -1 ∨ (i ≤ ownerFrom i own pg ∧ ownerFrom i own pg < i + own.length) := by
  induction own with
  | nil => intro i _; exact .inl rfl
  | cons o t ih =>
    intro i hi
    rw [ownerFrom]
    split
    · right; simp; omega
    · rcases ih (i + 1) (by omega) with h | h
      · exact .inl h
      · right; simp only [List.length_cons]; omega
end Go.Proofs.YtggejbphdadckaaGreatDoor
