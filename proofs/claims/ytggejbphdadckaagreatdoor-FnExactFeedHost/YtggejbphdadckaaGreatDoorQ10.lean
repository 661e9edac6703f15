/- Texts of this seat, joined. -/
import Derived.Laws.AppendOwn
import Derived.Deep.SlicePairs
import Derived.Test.YtggejbphdadckaaGreatDoorQ04
import Derived.Test.YtggejbphdadckaaGreatDoorQ08
import Derived.Test.YtggejbphdadckaaGreatDoorQ09
namespace Go.Proofs.YtggejbphdadckaaGreatDoor
open Go.RowKit
set_option linter.unusedVariables false
def flat : List (Int × Int) → List Value
  | [] => []
  | r :: t => .int .i64 r.1 :: .int .i64 r.2 :: flat t
theorem flat_length (rs : List (Int × Int)) : (flat rs).length = rs.length * 2 := by
  induction rs with
  | nil => rfl
  | cons r t ih => simp [flat, ih]; omega
theorem flat_append (rs qs : List (Int × Int)) : flat (rs ++ qs) = flat rs ++ flat qs := by
  induction rs with
  | nil => rfl
  | cons r t ih => simp [flat, ih]
theorem flat_get (rs : List (Int × Int)) (i : Nat) (h : i < rs.length) : (flat rs)[i * 2]? = some (.int .i64 (rs.getD i (0, 0)).1) ∧ (flat rs)[i * 2 + 1]? = some (.int .i64 (rs.getD i (0, 0)).2) := by
  induction rs generalizing i with
  | nil => simp at h
  | cons r t ih =>
    cases i with
    | zero => exact ⟨rfl, rfl⟩
    | succ i =>
      have h2 := ih i (by simpa using h)
      rw [show (i + 1) * 2 = i * 2 + 1 + 1 by omega]
      simpa [flat] using h2
theorem flat_set (rs : List (Int × Int)) (i : Nat) (a b : Int) (h : i < rs.length) : flat (rs.set i (a, b)) = ((flat rs).set (i * 2) (.int .i64 a)).set (i * 2 + 1) (.int .i64 b) := by
  induction rs generalizing i with
  | nil => simp at h
  | cons r t ih =>
    cases i with
    | zero => rfl
    | succ i =>
      rw [show (i + 1) * 2 = i * 2 + 1 + 1 by omega]
      simp [flat, ih i (by simpa using h)]
theorem flat_replicate (n : Nat) : flat (List.replicate n (0, 0)) = List.replicate (n * 2) (.int .i64 0) := by
  induction n with
  | zero => rfl
  | succ n ih =>
    rw [List.replicate_succ, flat, ih, show (n + 1) * 2 = n * 2 + 1 + 1 by omega, List.replicate_succ, List.replicate_succ]
theorem flat_one (rs : List (Int × Int)) : ∀ u ∈ flat rs, u.oneCell' = true := by
  induction rs with
  | nil => intro u hu; cases hu
  | cons r t ih =>
    intro u hu
    rcases List.mem_cons.1 hu with rfl | hu
    · rfl
    rcases List.mem_cons.1 hu with rfl | hu
    · rfl
    exact ih u hu
def Prs (e : TypeId) (w : World) (base : Nat) (v : Value) (rs : List (Int × Int)) : Prop := w.ownsRow base e 2 v rs.length (flat rs)
theorem Prs.keep {e : TypeId} {w w' : World} {base : Nat} {v : Value} {rs : List (Int × Int)} (h : Prs e w base v rs) (hb : Below w.heap.size w w') : Prs e w' base v rs := by
  refine World.ownsRow.kept h (below_grown hb none) ?_
  cases v.ownBlock <;> simp
theorem Prs.lt {e : TypeId} {w : World} {base : Nat} {v : Value} {rs : List (Int × Int)} (h : Prs e w base v rs) : ∀ k, v.ownBlock = some k → base ≤ k ∧ k < w.heap.size := World.ownsRow.lt h
theorem Prs.nil (e : TypeId) (w : World) (base : Nat) : Prs e w base (.slice none 0 0) [] := World.ownsRow_nil w base _ _
theorem Prs.cell {e : TypeId} {w : World} {base g n cap : Nat} {rs : List (Int × Int)} (h : Prs e w base (.slice (some ⟨g, 0, none⟩) n cap) rs) (hn : n = rs.length) (i : Nat) (hi : i < n) :
    w.cell? ⟨g, i * 2, none⟩ = some (.int .i64 (rs.getD i (0, 0)).1) ∧ w.cell? ⟨g, i * 2 + 1, none⟩ = some (.int .i64 (rs.getD i (0, 0)).2) := by
  subst hn
  rw [World.ownsRow.cellAt h (i * 2) (by omega), World.ownsRow.cellAt h (i * 2 + 1) (by omega)]
  exact flat_get rs i hi
theorem Prs.free {e : TypeId} {w : World} {base g n cap : Nat} {rs : List (Int × Int)} (h : Prs e w base (.slice (some ⟨g, 0, none⟩) n cap) rs) (hn : n = rs.length) (i : Nat) : w.frozen? ⟨g, i, none⟩ = false := by
  subst hn
  exact World.ownsRow.frozenAt h i
theorem Prs.shape {e : TypeId} {w : World} {base : Nat} {v : Value} {rs : List (Int × Int)} (h : Prs e w base v rs) : ∃ a cap, v = .slice a rs.length cap ∧ rs.length ≤ cap ∧ cap ≤ maxLen ∧ (0 < rs.length → ∃ g, a = some ⟨g, 0, none⟩) := by
  have h' := h
  obtain ⟨h1, ⟨rfl, h3⟩ | ⟨g, cap, cur, rfl, _, _, h4, h5, _⟩⟩ := h'
  · exact ⟨none, 0, by rw [h3], by omega, by unfold maxLen; omega, fun hz => by omega⟩
  · exact ⟨_, _, rfl, h4, h5, fun _ => ⟨g, rfl⟩⟩
theorem Prs.store {e : TypeId} {w : World} {base g n cap : Nat} {rs : List (Int × Int)} (h : Prs e w base (.slice (some ⟨g, 0, none⟩) n cap) rs) (hn : n = rs.length) (j : Nat) (a b : Int) (hj : j < n) :
    Prs e ((w.setCell ⟨g, j * 2, none⟩ (.int .i64 a)).setCell ⟨g, j * 2 + 1, none⟩ (.int .i64 b)) base (.slice (some ⟨g, 0, none⟩) n cap) (rs.set j (a, b)) := by
  subst hn
  have h1 := (World.ownsRow.stored h (j * 2) (.int .i64 a)).1
  have h2 := (World.ownsRow.stored h1 (j * 2 + 1) (.int .i64 b)).1
  unfold Prs
  rw [List.length_set, flat_set rs j a b hj]
  exact h2
def IsPairs (w : World) (a : Option Addr) (len cap : Nat) (rs : List (Int × Int)) : Prop :=
  (a = none ∧ len = 0 ∧ cap = 0 ∧ rs = []) ∨
  ∃ x, a = some x ∧ len ≤ cap ∧ cap ≤ maxLen ∧ rs.length = len ∧ ∀ i, i < len → w.cell? (x.add (i * 2)) = some (.int .i64 (rs.getD i (0, 0)).1) ∧ w.cell? (x.add (i * 2 + 1)) = some (.int .i64 (rs.getD i (0, 0)).2)
theorem IsPairs.of {w : World} {x : Addr} {len cap : Nat} (V0 V1 : Nat → Value) (hl : len ≤ cap) (hm : cap ≤ maxLen)
    (h : ∀ i, i < len → w.cell? (x.add (i * 2)) = some (V0 i) ∧ w.cell? (x.add (i * 2 + 1)) = some (V1 i) ∧ (∃ a, V0 i = .int .i64 a) ∧ ∃ b, V1 i = .int .i64 b) : ∃ rs, IsPairs w (some x) len cap rs := by
  refine ⟨(List.range len).map fun i => (intOf (V0 i), intOf (V1 i)), .inr ⟨x, rfl, hl, hm, by simp, fun i hi => ?_⟩⟩
  obtain ⟨h0, h1, ⟨a, ha⟩, ⟨b, hb⟩⟩ := h i hi
  rw [h0, h1, ha, hb]
  simp [List.getD, hi, ha, hb, intOf]
theorem IsPairs.stay {w w' : World} {a : Option Addr} {len cap : Nat} {rs : List (Int × Int)} (h : IsPairs w a len cap rs) (b : Below w.heap.size w w') : IsPairs w' a len cap rs := by
  rcases h with h | ⟨x, rfl, h1, h2, h3, h4⟩
  · exact .inl h
  · exact .inr ⟨x, rfl, h1, h2, h3, fun i hi => ⟨cell_keep b (h4 i hi).1, cell_keep b (h4 i hi).2⟩⟩
theorem IsPairs.len {w : World} {a : Option Addr} {len cap : Nat} {rs : List (Int × Int)} (h : IsPairs w a len cap rs) : len = rs.length := by
  rcases h with ⟨_, h1, _, rfl⟩ | ⟨x, _, _, _, h1, _⟩
  · simpa using h1
  · exact h1.symm
theorem pairs_set (rs : List (Int × Int)) (j n : Nat) (h : j < rs.length) (hn : n = rs.length) : (rs.take j ++ List.replicate (n - j) (0, 0)).set j ((rs.getD j (0, 0)).1, (rs.getD j (0, 0)).2) = rs.take (j + 1) ++ List.replicate (n - (j + 1)) (0, 0) := by
  subst hn
  obtain ⟨m, hm⟩ : ∃ m, rs.length - j = m + 1 := ⟨rs.length - j - 1, by omega⟩
  have hm2 : rs.length - (j + 1) = m := by omega
  rw [hm, hm2, List.replicate_succ, List.set_append_right _ _ (by simp; omega), List.take_add_one, List.getElem?_eq_getElem h, List.getD, List.getElem?_eq_getElem h]
  rw [List.length_take, show j - min j rs.length = 0 by omega, List.set_cons_zero]
  simp only [Option.toList_some, Option.getD_some, List.append_assoc, List.singleton_append]
theorem wp_pair {ops : Array Oper} {rest : List Oper} {o : Oper} {act : Act} {Q : Exit → Act → World → Prop} (t e : TypeId) (he : Tryz.prog.underlying t = some (.slice e)) (hinfo : (Tryz.prog.info? e).map (fun i => (i.zero, i.size, i.bytes)) = some (some (.agg #[.int .i64 0, .int .i64 0]), 2, 16))
    (w : World) (hgd : o.guard = none) (s x : Operand)
    (ho : o.op = .call { callee := .builtin .append, args := #[s, x], argTypes := #[t, t] }) (base : Nat) (v : Value) (rs : List (Int × Int)) (hs : act.eval s = v) (hN : Prs e w base v rs)
    (B : Nat) (a b : Int) (hx : act.eval x = .slice (some ⟨B, 0, none⟩) 1 1) (h0 : w.cell? ⟨B, 0, none⟩ = some (.int .i64 a)) (h1 : w.cell? ⟨B, 1, none⟩ = some (.int .i64 b))
    (hlen : rs.length ≤ 1000000000) (hbase : base ≤ w.heap.size)
    (h : ∀ v' w', Prs e w' base v' (rs ++ [(a, b)]) → w.grownBy w' v.ownBlock → wpList Tryz.prog ops Q rest (act.put o.dst v') w') : wpList Tryz.prog ops Q (o :: rest) act w := by
  obtain ⟨i, hi, hz0, hz1, hz2⟩ := info_parts hinfo
  refine wpList_append_own w hgd s x t ho base e i _ 2 16 he hi hz0 hz1 hz2 rfl (by decide) v rs.length _ hs hN ⟨B, 0, none⟩ 1 1 (flat [(a, b)]) hx rfl ?_ (flat_one _) (by unfold maxLen; omega) (by omega) hbase ?_
  · intro j u hj
    rw [Addr.add_lit, Nat.zero_add]
    match j, hj with
    | 0, hj => rw [h0]; exact hj
    | 1, hj => rw [h1]; exact hj
    | j + 2, hj => simp [flat] at hj
  · intro v' w' hown hgrow _
    refine h v' w' ?_ hgrow
    unfold Prs
    rw [List.length_append, flat_append]
    exact hown
structure Ln where
  fr : Int
  dst : Int
  pg : Int
  af : Int
  tt : Int
deriving DecidableEq, Inhabited
def lz : Ln := ⟨0, 0, 0, 0, 0⟩
def Ln.val (r : Ln) : Value := .agg #[.int .i64 r.fr, .int .i64 r.dst, .int .i64 r.pg, .int .i64 r.af, .int .i64 r.tt]
def flat5 : List Ln → List Value
  | [] => []
  | r :: t => .int .i64 r.fr :: .int .i64 r.dst :: .int .i64 r.pg :: .int .i64 r.af :: .int .i64 r.tt :: flat5 t
theorem flat5_length (rs : List Ln) : (flat5 rs).length = rs.length * 5 := by
  induction rs with
  | nil => rfl
  | cons r t ih => simp [flat5, ih]; omega
theorem flat5_get (rs : List Ln) (i : Nat) (h : i < rs.length) : (flat5 rs)[i * 5]? = some (.int .i64 (rs.getD i lz).fr) ∧ (flat5 rs)[i * 5 + 1]? = some (.int .i64 (rs.getD i lz).dst) ∧
    (flat5 rs)[i * 5 + 2]? = some (.int .i64 (rs.getD i lz).pg) ∧ (flat5 rs)[i * 5 + 3]? = some (.int .i64 (rs.getD i lz).af) ∧ (flat5 rs)[i * 5 + 4]? = some (.int .i64 (rs.getD i lz).tt) := by
  induction rs generalizing i with
  | nil => simp at h
  | cons r t ih =>
    cases i with
    | zero => exact ⟨rfl, rfl, rfl, rfl, rfl⟩
    | succ i =>
      have h2 := ih i (by simpa using h)
      rw [show (i + 1) * 5 = i * 5 + 1 + 1 + 1 + 1 + 1 by omega]
      simpa [flat5] using h2
theorem flat5_set (rs : List Ln) (i : Nat) (r : Ln) (h : i < rs.length) : flat5 (rs.set i r) =
    (((((flat5 rs).set (i * 5) (.int .i64 r.fr)).set (i * 5 + 1) (.int .i64 r.dst)).set (i * 5 + 2) (.int .i64 r.pg)).set (i * 5 + 3) (.int .i64 r.af)).set (i * 5 + 4) (.int .i64 r.tt) := by
  induction rs generalizing i with
  | nil => simp at h
  | cons r t ih =>
    cases i with
    | zero => rfl
    | succ i =>
      rw [show (i + 1) * 5 = i * 5 + 1 + 1 + 1 + 1 + 1 by omega]
      simp [flat5, ih i (by simpa using h)]
theorem flat5_replicate (n : Nat) : flat5 (List.replicate n lz) = List.replicate (n * 5) (.int .i64 0) := by
  induction n with
  | zero => rfl
  | succ n ih =>
    rw [List.replicate_succ, flat5, ih, show (n + 1) * 5 = n * 5 + 1 + 1 + 1 + 1 + 1 by omega, List.replicate_succ, List.replicate_succ, List.replicate_succ, List.replicate_succ, List.replicate_succ]
    rfl
theorem flat5_one (rs : List Ln) : ∀ u ∈ flat5 rs, u.oneCell' = true := by
  induction rs with
  | nil => intro u hu; cases hu
  | cons r t ih =>
    intro u hu
    rcases List.mem_cons.1 hu with rfl | hu
    · rfl
    rcases List.mem_cons.1 hu with rfl | hu
    · rfl
    rcases List.mem_cons.1 hu with rfl | hu
    · rfl
    rcases List.mem_cons.1 hu with rfl | hu
    · rfl
    rcases List.mem_cons.1 hu with rfl | hu
    · rfl
    exact ih u hu
def Ls (e : TypeId) (w : World) (base : Nat) (v : Value) (rs : List Ln) : Prop := w.ownsRow base e 5 v rs.length (flat5 rs)
theorem Ls.keep {e : TypeId} {w w' : World} {base : Nat} {v : Value} {rs : List Ln} (h : Ls e w base v rs) (hb : Below w.heap.size w w') : Ls e w' base v rs := by
  refine World.ownsRow.kept h (below_grown hb none) ?_
  cases v.ownBlock <;> simp
theorem Ls.lt {e : TypeId} {w : World} {base : Nat} {v : Value} {rs : List Ln} (h : Ls e w base v rs) : ∀ k, v.ownBlock = some k → base ≤ k ∧ k < w.heap.size := World.ownsRow.lt h
theorem Ls.nil (e : TypeId) (w : World) (base : Nat) : Ls e w base (.slice none 0 0) [] := World.ownsRow_nil w base _ _
theorem Ls.cell {e : TypeId} {w : World} {base g n cap : Nat} {rs : List Ln} (h : Ls e w base (.slice (some ⟨g, 0, none⟩) n cap) rs) (hn : n = rs.length) (i : Nat) (hi : i < n) :
    w.cell? ⟨g, i * 5, none⟩ = some (.int .i64 (rs.getD i lz).fr) ∧ w.cell? ⟨g, i * 5 + 1, none⟩ = some (.int .i64 (rs.getD i lz).dst) ∧
    w.cell? ⟨g, i * 5 + 2, none⟩ = some (.int .i64 (rs.getD i lz).pg) ∧ w.cell? ⟨g, i * 5 + 3, none⟩ = some (.int .i64 (rs.getD i lz).af) ∧ w.cell? ⟨g, i * 5 + 4, none⟩ = some (.int .i64 (rs.getD i lz).tt) := by
  subst hn
  rw [World.ownsRow.cellAt h (i * 5) (by omega), World.ownsRow.cellAt h (i * 5 + 1) (by omega), World.ownsRow.cellAt h (i * 5 + 2) (by omega), World.ownsRow.cellAt h (i * 5 + 3) (by omega), World.ownsRow.cellAt h (i * 5 + 4) (by omega)]
  exact flat5_get rs i hi
theorem Ls.free {e : TypeId} {w : World} {base g n cap : Nat} {rs : List Ln} (h : Ls e w base (.slice (some ⟨g, 0, none⟩) n cap) rs) (hn : n = rs.length) (i : Nat) : w.frozen? ⟨g, i, none⟩ = false := by
  subst hn
  exact World.ownsRow.frozenAt h i
theorem Ls.shape {e : TypeId} {w : World} {base : Nat} {v : Value} {rs : List Ln} (h : Ls e w base v rs) : ∃ a cap, v = .slice a rs.length cap ∧ rs.length ≤ cap ∧ cap ≤ maxLen ∧ (0 < rs.length → ∃ g, a = some ⟨g, 0, none⟩) := by
  have h' := h
  obtain ⟨h1, ⟨rfl, h3⟩ | ⟨g, cap, cur, rfl, _, _, h4, h5, _⟩⟩ := h'
  · exact ⟨none, 0, by rw [h3], by omega, by unfold maxLen; omega, fun hz => by omega⟩
  · exact ⟨_, _, rfl, h4, h5, fun _ => ⟨g, rfl⟩⟩
theorem Ls.store {e : TypeId} {w : World} {base g n cap : Nat} {rs : List Ln} (h : Ls e w base (.slice (some ⟨g, 0, none⟩) n cap) rs) (hn : n = rs.length) (j : Nat) (r : Ln) (hj : j < n) :
    Ls e (((((w.setCell ⟨g, j * 5, none⟩ (.int .i64 r.fr)).setCell ⟨g, j * 5 + 1, none⟩ (.int .i64 r.dst)).setCell ⟨g, j * 5 + 2, none⟩ (.int .i64 r.pg)).setCell ⟨g, j * 5 + 3, none⟩ (.int .i64 r.af)).setCell ⟨g, j * 5 + 4, none⟩ (.int .i64 r.tt)) base (.slice (some ⟨g, 0, none⟩) n cap) (rs.set j r) := by
  subst hn
  have h1 := (World.ownsRow.stored h (j * 5) (.int .i64 r.fr)).1
  have h2 := (World.ownsRow.stored h1 (j * 5 + 1) (.int .i64 r.dst)).1
  have h3 := (World.ownsRow.stored h2 (j * 5 + 2) (.int .i64 r.pg)).1
  have h4 := (World.ownsRow.stored h3 (j * 5 + 3) (.int .i64 r.af)).1
  have h5 := (World.ownsRow.stored h4 (j * 5 + 4) (.int .i64 r.tt)).1
  unfold Ls
  rw [List.length_set, flat5_set rs j r hj]
  exact h5
def IsLanes (w : World) (a : Option Addr) (len cap : Nat) (rs : List Ln) : Prop :=
  (a = none ∧ len = 0 ∧ cap = 0 ∧ rs = []) ∨
  ∃ x, a = some x ∧ len ≤ cap ∧ cap ≤ maxLen ∧ rs.length = len ∧ ∀ i, i < len → w.cell? (x.add (i * 5)) = some (.int .i64 (rs.getD i lz).fr) ∧ w.cell? (x.add (i * 5 + 1)) = some (.int .i64 (rs.getD i lz).dst) ∧
    w.cell? (x.add (i * 5 + 2)) = some (.int .i64 (rs.getD i lz).pg) ∧ w.cell? (x.add (i * 5 + 3)) = some (.int .i64 (rs.getD i lz).af) ∧ w.cell? (x.add (i * 5 + 4)) = some (.int .i64 (rs.getD i lz).tt)
theorem IsLanes.stay {w w' : World} {a : Option Addr} {len cap : Nat} {rs : List Ln} (h : IsLanes w a len cap rs) (b : Below w.heap.size w w') : IsLanes w' a len cap rs := by
  rcases h with h | ⟨x, rfl, h1, h2, h3, h4⟩
  · exact .inl h
  · exact .inr ⟨x, rfl, h1, h2, h3, fun i hi => ⟨cell_keep b (h4 i hi).1, cell_keep b (h4 i hi).2.1, cell_keep b (h4 i hi).2.2.1, cell_keep b (h4 i hi).2.2.2.1, cell_keep b (h4 i hi).2.2.2.2⟩⟩
theorem IsLanes.len {w : World} {a : Option Addr} {len cap : Nat} {rs : List Ln} (h : IsLanes w a len cap rs) : len = rs.length := by
  rcases h with ⟨_, h1, _, rfl⟩ | ⟨x, _, _, _, h1, _⟩
  · simpa using h1
  · exact h1.symm
theorem IsLanes.cap {w : World} {a : Option Addr} {len cap : Nat} {rs : List Ln} (h : IsLanes w a len cap rs) : len ≤ cap ∧ cap ≤ maxLen := by
  rcases h with ⟨_, h1, h2, _⟩ | ⟨x, _, h1, h2, _, _⟩
  · subst h1 h2; exact ⟨Nat.le_refl _, Nat.zero_le _⟩
  · exact ⟨h1, h2⟩
theorem Ls.read {e : TypeId} {w : World} {base n cap : Nat} {a : Option Addr} {rs : List Ln} (h : Ls e w base (.slice a n cap) rs) : IsLanes w a n cap rs := by
  obtain ⟨a', cap', hv, l1, l2, hg⟩ := h.shape
  cases hv
  by_cases hz : 0 < rs.length
  · obtain ⟨g, rfl⟩ := hg hz
    refine .inr ⟨_, rfl, l1, l2, rfl, fun i hi => ?_⟩
    have := h.cell rfl i hi
    simpa [Addr.add_lit] using this
  · have h0 : rs = [] := by cases rs with
      | nil => rfl
      | cons x t => exact absurd (Nat.succ_pos _) hz
    subst h0
    cases a with
    | none =>
      obtain ⟨h1, ⟨hq, h3⟩ | ⟨g, cap, cur, hq, _⟩⟩ := h
      · cases hq; exact .inl ⟨rfl, rfl, rfl, rfl⟩
      · cases hq
    | some x => exact .inr ⟨x, rfl, l1, l2, rfl, fun i hi => absurd hi (Nat.not_lt_zero _)⟩
theorem lanes_set (rs : List Ln) (j n : Nat) (h : j < rs.length) (hn : n = rs.length) : (rs.take j ++ List.replicate (n - j) lz).set j (rs.getD j lz) = rs.take (j + 1) ++ List.replicate (n - (j + 1)) lz := by
  subst hn
  obtain ⟨m, hm⟩ : ∃ m, rs.length - j = m + 1 := ⟨rs.length - j - 1, by omega⟩
  have hm2 : rs.length - (j + 1) = m := by omega
  rw [hm, hm2, List.replicate_succ, List.set_append_right _ _ (by simp; omega), List.take_add_one, List.getElem?_eq_getElem h, List.getD, List.getElem?_eq_getElem h]
  rw [List.length_take, show j - min j rs.length = 0 by omega, List.set_cons_zero]
  simp only [Option.toList_some, Option.getD_some, List.append_assoc, List.singleton_append]
theorem ret_b {a b : Bool} (h : a = b) : Ending.returned (.bool a) = .returned (.bool b) := by rw [h]
set_option maxHeartbeats 1000000 in
theorem i_words (a : Option Addr) (n cap : Nat) (zs : List Int) (w : World) (h : Rn w a n cap zs) :
    Calls Tryz.prog 59 #[.slice a n cap] w fun e w' => e = .returned (.bool (zs.all isW)) ∧ w' = w := by
  have HN : Hid (n = zs.length) := h.len
  have HZ : Hid (Rn w a n cap zs) := h
  have hl : (n : Int) ≤ 9223372036854775807 := by have := h.cap; unfold maxLen at this; omega
  clear h
  go_enter Tryz.func59, Tryz.ntmps59
  go_wp2_with fail
  go_loop [4, 7] (fun _ i => ∃ j : Nat, j ≤ n ∧ i = .int .i64 j ∧ Hid ((zs.take j).all isW = true)) (fun _ i => n - (intOf i).toNat)
  case atStart => exact ⟨0, Nat.zero_le _, rfl, rfl⟩
  case round =>
    obtain ⟨j, hj, rfl, hA⟩ := hrel
    by_cases hlt : j < n
    · obtain ⟨x, rfl, c1⟩ := HZ.out.at j hlt
      have hJ : (j : Int) < (n : Int) := by omega
      have HL : Hid (j < zs.length) := by show _ < _; have := HN.out; omega
      obtain ⟨z, hz⟩ : ∃ z, zs.getD j 0 = z := ⟨_, rfl⟩
      rw [hz] at c1
      have HZZ : Hid (zs.getD j 0 = z) := hz
      clear hz hlt
      cases hw : isW z
      · have HW : Hid (isW z = false) := hw
        go_wp2_with (go_at_call 90; refine (impl_isWord _ _).mono ?_; rintro e x ⟨rfl, rfl⟩; rw [hw])
        go_ret
        exact ⟨ret_b (all_not zs j HL.out (by rw [HZZ.out]; exact HW.out)).symm, rfl⟩
      · have HW : Hid (isW z = true) := hw
        go_wp2_with (go_at_call 90; refine (impl_isWord _ _).mono ?_; rintro e x ⟨rfl, rfl⟩; rw [hw])
        go_round
        case rel => exact ⟨j + 1, by have := HL.out; have := HN.out; omega, by go_num, by show _ = _; rw [all_take zs j HL.out, hA.out, HZZ.out, HW.out]; rfl⟩
        case measure => have := HL.out; have := HN.out; simp [intOf]; omega
    · have hJ : ¬ (j : Int) < (n : Int) := by omega
      obtain rfl : j = n := by omega
      go_wp2_with fail
      go_ret
      exact ⟨ret_b (by have := hA.out; rw [List.take_of_length_le (Nat.le_of_eq HN.out.symm)] at this; exact this.symm), rfl⟩
theorem s_word (z : Int) (w : World) : Calls Tryz.prog 81 #[.int .i64 z] w fun e w' => e = .returned (.bool (isW z)) ∧ w' = w := by
  have hw : (decide (0 ≤ z) && decide (z ≤ 4294967295)) = isW z := rfl
  go_enter Tryz.func81, Tryz.ntmps81
  go_wp2_with (go_at_call 42; refine (spec_in _ _ _ _).mono ?_; rintro e x ⟨rfl, rfl⟩; rw [hw])
  go_ret
  exact ⟨rfl, rfl⟩
set_option maxHeartbeats 1000000 in
theorem s_words (a : Option Addr) (n cap : Nat) (zs : List Int) (w : World) (h : Rn w a n cap zs) :
    Calls Tryz.prog 44 #[.slice a n cap] w fun e w' => e = .returned (.bool (zs.all isW)) ∧ w' = w := by
  have HN : Hid (n = zs.length) := h.len
  have HZ : Hid (Rn w a n cap zs) := h
  have hl : (n : Int) ≤ 9223372036854775807 := by have := h.cap; unfold maxLen at this; omega
  clear h
  go_enter Tryz.func44, Tryz.ntmps44
  go_wp2_with fail
  go_loop [3] (fun i => ∃ j : Nat, j ≤ n ∧ i = .int .i64 j ∧ Hid ((zs.take j).all isW = true)) (fun i => n - (intOf i).toNat)
  case atStart => exact ⟨0, Nat.zero_le _, rfl, rfl⟩
  case round =>
    obtain ⟨j, hj, rfl, hA⟩ := hrel
    by_cases hlt : j < n
    · obtain ⟨x, rfl, c1⟩ := HZ.out.at j hlt
      have hJ : (j : Int) < (n : Int) := by omega
      have HL : Hid (j < zs.length) := by show _ < _; have := HN.out; omega
      obtain ⟨z, hz⟩ : ∃ z, zs.getD j 0 = z := ⟨_, rfl⟩
      rw [hz] at c1
      have HZZ : Hid (zs.getD j 0 = z) := hz
      clear hz hlt
      cases hw : isW z
      · have HW : Hid (isW z = false) := hw
        go_wp2_with (go_at_call 81; refine (s_word _ _).mono ?_; rintro e x ⟨rfl, rfl⟩; rw [hw])
        go_ret
        exact ⟨ret_b (all_not zs j HL.out (by rw [HZZ.out]; exact HW.out)).symm, rfl⟩
      · have HW : Hid (isW z = true) := hw
        go_wp2_with (go_at_call 81; refine (s_word _ _).mono ?_; rintro e x ⟨rfl, rfl⟩; rw [hw])
        go_round
        case rel => exact ⟨j + 1, by have := HL.out; have := HN.out; omega, by go_num, by show _ = _; rw [all_take zs j HL.out, hA.out, HZZ.out, HW.out]; rfl⟩
        case measure => have := HL.out; have := HN.out; simp [intOf]; omega
    · have hJ : ¬ (j : Int) < (n : Int) := by omega
      obtain rfl : j = n := by omega
      go_wp2_with fail
      go_ret
      exact ⟨ret_b (by have := hA.out; rw [List.take_of_length_le (Nat.le_of_eq HN.out.symm)] at this; exact this.symm), rfl⟩
theorem stand_tmod (z m : Int) (h : 0 ≤ z) : z.tmod m = z % m := Int.tmod_eq_emod_of_nonneg h
theorem i_stand (k z : Int) (w : World) (hz : 0 ≤ z) (hz2 : z ≤ 4294967295) :
    Calls Tryz.prog 116 #[.int .i64 k, .int .i64 z] w fun e w' => e = .returned (.int .i64 (standV k z)) ∧ w' = w := by
  have t4 := stand_tmod z 4 hz
  have t8 := stand_tmod z 8 hz
  by_cases h0 : k = 0
  · subst h0
    go_enter Tryz.func116, Tryz.ntmps116
    go_wp2_with fail
    go_ret
    exact ⟨by simp [standV], rfl⟩
  by_cases h7 : k = 7
  · subst h7
    go_enter Tryz.func116, Tryz.ntmps116
    go_wp2_with fail
    go_ret
    exact ⟨by simp [standV], rfl⟩
  by_cases h10 : k = 10
  · subst h10
    by_cases h8 : 8 < z
    · go_enter Tryz.func116, Tryz.ntmps116
      go_wp2_with fail
      go_ret
      exact ⟨by simp [standV, h8], rfl⟩
    · go_enter Tryz.func116, Tryz.ntmps116
      go_wp2_with fail
      go_ret
      exact ⟨ret_i (by unfold standV; rw [if_neg (by decide), if_neg (by decide), if_pos rfl, if_neg (by omega)]), rfl⟩
  by_cases h6 : k = 6
  · subst h6
    go_enter Tryz.func116, Tryz.ntmps116
    go_wp2_with fail
    go_ret
    exact ⟨by simp [standV], rfl⟩
  by_cases h8 : k = 8
  · subst h8
    go_enter Tryz.func116, Tryz.ntmps116
    go_wp2_with fail
    go_ret
    exact ⟨by simp [standV], rfl⟩
  have hv : standV k z = z := by simp [standV, h0, h7, h10, h6, h8]
  rw [hv]
  clear hv
  go_enter Tryz.func116, Tryz.ntmps116
  go_wp2_with fail
  go_ret
  exact ⟨rfl, rfl⟩
set_option maxHeartbeats 1000000 in
theorem i_allStand (x : Addr) (cap : Nat) (zs : List Int) (w : World) (h : Rn w (some x) 11 cap zs) (hw : zs.all isW = true) :
    Calls Tryz.prog 88 #[.slice (some x) 11 cap] w fun e w' => e = .returned (.bool (standC zs)) ∧ w' = w := by
  have HN : Hid (zs.length = 11) := h.len.symm
  have HZ : Hid (Rn w (some x) 11 cap zs) := h
  have HW : Hid (zs.all isW = true) := hw
  have HC : Hid ((∀ k : Nat, k < 11 → standV k (zs.getD k 0) = zs.getD k 0) ↔ standC zs = true) := stand_all hw h.len.symm
  clear h hw
  go_enter Tryz.func88, Tryz.ntmps88
  go_wp2_with fail
  go_loop [3, 4, 7] (fun _ _ i => ∃ j : Nat, j ≤ 11 ∧ i = .int .i64 j ∧ Hid (∀ k : Nat, k < j → standV k (zs.getD k 0) = zs.getD k 0)) (fun _ _ i => 11 - (intOf i).toNat)
  case atStart => exact ⟨0, Nat.zero_le _, rfl, fun k hk => absurd hk (Nat.not_lt_zero _)⟩
  case round =>
    obtain ⟨j, hj, rfl, hA⟩ := hrel
    by_cases hlt : j < 11
    · obtain ⟨x', e, c1⟩ := HZ.out.at j hlt
      cases e
      have hJ : (j : Int) < 11 := by omega
      have HL : Hid (j < 11) := hlt
      have ha := all_at HW.out j
      obtain ⟨z, hz⟩ : ∃ z, zs.getD j 0 = z := ⟨_, rfl⟩
      rw [hz] at c1 ha
      have HA : Hid (0 ≤ z ∧ z ≤ 4294967295) := ha
      have HZZ : Hid (zs.getD j 0 = z) := hz
      obtain ⟨u, hu⟩ : ∃ u, standV (j : Int) z = u := ⟨_, rfl⟩
      have HU : Hid (standV (j : Int) z = u) := hu
      clear hz hlt ha hu
      by_cases hs : u = z
      · have HS : Hid (u = z) := hs
        subst hs
        go_wp2_with (go_at_call 116; refine (i_stand _ _ _ HA.out.1 HA.out.2).mono ?_; rintro e x ⟨rfl, rfl⟩; rw [HU.out])
        go_round
        case rel => exact ⟨j + 1, by have := HL.out; omega, by go_num, fun k hk => by
          by_cases e : k = j
          · subst e; rw [HZZ.out]; exact HU.out
          · exact hA.out k (by omega)⟩
        case measure => have := HL.out; simp [intOf]; omega
      · have HS : Hid (¬ u = z) := hs
        go_wp2_with (go_at_call 116; refine (i_stand _ _ _ HA.out.1 HA.out.2).mono ?_; rintro e x ⟨rfl, rfl⟩; rw [HU.out])
        go_ret
        refine ⟨?_, rfl⟩
        cases hc : standC zs
        · rfl
        · exact absurd (HU.out.symm.trans (by have := HC.out.2 hc j HL.out; rw [HZZ.out] at this; exact this)) HS.out
    · have hJ : ¬ (j : Int) < 11 := by omega
      obtain rfl : j = 11 := by omega
      go_wp2_with fail
      go_ret
      exact ⟨ret_b (HC.out.1 hA.out).symm, rfl⟩
end Go.Proofs.YtggejbphdadckaaGreatDoor
