/- Texts of this seat, joined. -/
import Derived.Laws.AppendOwn
import Derived.Deep.SlicePairs
import Derived.Test.YtdhdfopkcpkbeaaGreatDoorQ06
namespace Go.Proofs.YtdhdfopkcpkbeaaGreatDoor
open Go.RowKit
set_option linter.unusedVariables false

/-- A lane: From, To, Page, AtFrom, AtTo. -/
structure Ln where
  fr : Int
  dst : Int
  pg : Int
  af : Int
  tt : Int
deriving DecidableEq, Inhabited

def lz : Ln := ⟨0, 0, 0, 0, 0⟩
def Ln.val (r : Ln) : Value := .agg #[.int .i64 r.fr, .int .i64 r.dst, .int .i64 r.pg, .int .i64 r.af, .int .i64 r.tt]
def flat5 : List Ln → List Value
  | [] => []
  | r :: t => .int .i64 r.fr :: .int .i64 r.dst :: .int .i64 r.pg :: .int .i64 r.af :: .int .i64 r.tt :: flat5 t
theorem flat5_length (rs : List Ln) : (flat5 rs).length = rs.length * 5 := by
  induction rs with
  | nil => rfl
  | cons r t ih => simp [flat5, ih]; omega
theorem flat5_append (rs qs : List Ln) : flat5 (rs ++ qs) = flat5 rs ++ flat5 qs := by
  induction rs with
  | nil => rfl
  | cons r t ih => simp [flat5, ih]
theorem flat5_get (rs : List Ln) (i : Nat) (h : i < rs.length) : (flat5 rs)[i * 5]? = some (.int .i64 (rs.getD i lz).fr) ∧ (flat5 rs)[i * 5 + 1]? = some (.int .i64 (rs.getD i lz).dst) ∧
    (flat5 rs)[i * 5 + 2]? = some (.int .i64 (rs.getD i lz).pg) ∧ (flat5 rs)[i * 5 + 3]? = some (.int .i64 (rs.getD i lz).af) ∧ (flat5 rs)[i * 5 + 4]? = some (.int .i64 (rs.getD i lz).tt) := by
  induction rs generalizing i with
  | nil => simp at h
  | cons r t ih =>
    cases i with
    | zero => exact ⟨rfl, rfl, rfl, rfl, rfl⟩
    | succ i =>
      have h2 := ih i (by simpa using h)
      rw [show (i + 1) * 5 = i * 5 + 1 + 1 + 1 + 1 + 1 by omega]
      simpa [flat5] using h2
theorem flat5_set (rs : List Ln) (i : Nat) (r : Ln) (h : i < rs.length) : flat5 (rs.set i r) =
    (((((flat5 rs).set (i * 5) (.int .i64 r.fr)).set (i * 5 + 1) (.int .i64 r.dst)).set (i * 5 + 2) (.int .i64 r.pg)).set (i * 5 + 3) (.int .i64 r.af)).set (i * 5 + 4) (.int .i64 r.tt) := by
  induction rs generalizing i with
  | nil => simp at h
  | cons r t ih =>
    cases i with
    | zero => rfl
    | succ i =>
      rw [show (i + 1) * 5 = i * 5 + 1 + 1 + 1 + 1 + 1 by omega]
      simp [flat5, ih i (by simpa using h)]
theorem flat5_replicate (n : Nat) : flat5 (List.replicate n lz) = List.replicate (n * 5) (.int .i64 0) := by
  induction n with
  | zero => rfl
  | succ n ih =>
    rw [List.replicate_succ, flat5, ih, show (n + 1) * 5 = n * 5 + 1 + 1 + 1 + 1 + 1 by omega, List.replicate_succ, List.replicate_succ, List.replicate_succ, List.replicate_succ, List.replicate_succ]
    rfl
theorem flat5_one (rs : List Ln) : ∀ u ∈ flat5 rs, u.oneCell' = true := by
  induction rs with
  | nil => intro u hu; cases hu
  | cons r t ih =>
    intro u hu
    rcases List.mem_cons.1 hu with rfl | hu
    · rfl
    rcases List.mem_cons.1 hu with rfl | hu
    · rfl
    rcases List.mem_cons.1 hu with rfl | hu
    · rfl
    rcases List.mem_cons.1 hu with rfl | hu
    · rfl
    rcases List.mem_cons.1 hu with rfl | hu
    · rfl
    exact ih u hu

/-- A slice of lanes at the head of a block of its own (or nil). -/
def Ls (e : TypeId) (w : World) (base : Nat) (v : Value) (rs : List Ln) : Prop := w.ownsRow base e 5 v rs.length (flat5 rs)

theorem Ls.keep {e : TypeId} {w w' : World} {base : Nat} {v : Value} {rs : List Ln} (h : Ls e w base v rs) (hb : Below w.heap.size w w') : Ls e w' base v rs := by
  refine World.ownsRow.kept h (below_grown hb none) ?_
  cases v.ownBlock <;> simp
theorem Ls.lt {e : TypeId} {w : World} {base : Nat} {v : Value} {rs : List Ln} (h : Ls e w base v rs) : ∀ k, v.ownBlock = some k → base ≤ k ∧ k < w.heap.size := World.ownsRow.lt h
theorem Ls.nil (e : TypeId) (w : World) (base : Nat) : Ls e w base (.slice none 0 0) [] := World.ownsRow_nil w base _ _
theorem Ls.cell {e : TypeId} {w : World} {base g n cap : Nat} {rs : List Ln} (h : Ls e w base (.slice (some ⟨g, 0, none⟩) n cap) rs) (hn : n = rs.length) (i : Nat) (hi : i < n) :
    w.cell? ⟨g, i * 5, none⟩ = some (.int .i64 (rs.getD i lz).fr) ∧ w.cell? ⟨g, i * 5 + 1, none⟩ = some (.int .i64 (rs.getD i lz).dst) ∧
    w.cell? ⟨g, i * 5 + 2, none⟩ = some (.int .i64 (rs.getD i lz).pg) ∧ w.cell? ⟨g, i * 5 + 3, none⟩ = some (.int .i64 (rs.getD i lz).af) ∧ w.cell? ⟨g, i * 5 + 4, none⟩ = some (.int .i64 (rs.getD i lz).tt) := by
  subst hn
  rw [World.ownsRow.cellAt h (i * 5) (by omega), World.ownsRow.cellAt h (i * 5 + 1) (by omega), World.ownsRow.cellAt h (i * 5 + 2) (by omega), World.ownsRow.cellAt h (i * 5 + 3) (by omega), World.ownsRow.cellAt h (i * 5 + 4) (by omega)]
  exact flat5_get rs i hi
theorem Ls.free {e : TypeId} {w : World} {base g n cap : Nat} {rs : List Ln} (h : Ls e w base (.slice (some ⟨g, 0, none⟩) n cap) rs) (hn : n = rs.length) (i : Nat) : w.frozen? ⟨g, i, none⟩ = false := by
  subst hn
  exact World.ownsRow.frozenAt h i
theorem Ls.shape {e : TypeId} {w : World} {base : Nat} {v : Value} {rs : List Ln} (h : Ls e w base v rs) : ∃ a cap, v = .slice a rs.length cap ∧ rs.length ≤ cap ∧ cap ≤ maxLen ∧ (0 < rs.length → ∃ g, a = some ⟨g, 0, none⟩) := by
  have h' := h
  obtain ⟨h1, ⟨rfl, h3⟩ | ⟨g, cap, cur, rfl, _, _, h4, h5, _⟩⟩ := h'
  · exact ⟨none, 0, by rw [h3], by omega, by unfold maxLen; omega, fun hz => by omega⟩
  · exact ⟨_, _, rfl, h4, h5, fun _ => ⟨g, rfl⟩⟩
theorem Ls.store {e : TypeId} {w : World} {base g n cap : Nat} {rs : List Ln} (h : Ls e w base (.slice (some ⟨g, 0, none⟩) n cap) rs) (hn : n = rs.length) (j : Nat) (r : Ln) (hj : j < n) :
    Ls e (((((w.setCell ⟨g, j * 5, none⟩ (.int .i64 r.fr)).setCell ⟨g, j * 5 + 1, none⟩ (.int .i64 r.dst)).setCell ⟨g, j * 5 + 2, none⟩ (.int .i64 r.pg)).setCell ⟨g, j * 5 + 3, none⟩ (.int .i64 r.af)).setCell ⟨g, j * 5 + 4, none⟩ (.int .i64 r.tt)) base (.slice (some ⟨g, 0, none⟩) n cap) (rs.set j r) := by
  subst hn
  have h1 := (World.ownsRow.stored h (j * 5) (.int .i64 r.fr)).1
  have h2 := (World.ownsRow.stored h1 (j * 5 + 1) (.int .i64 r.dst)).1
  have h3 := (World.ownsRow.stored h2 (j * 5 + 2) (.int .i64 r.pg)).1
  have h4 := (World.ownsRow.stored h3 (j * 5 + 3) (.int .i64 r.af)).1
  have h5 := (World.ownsRow.stored h4 (j * 5 + 4) (.int .i64 r.tt)).1
  unfold Ls
  rw [List.length_set, flat5_set rs j r hj]
  exact h5

/-- A slice of lanes that is read alone: so many cells in a row. -/
def IsLanes (w : World) (a : Option Addr) (len cap : Nat) (rs : List Ln) : Prop :=
  (a = none ∧ len = 0 ∧ cap = 0 ∧ rs = []) ∨
  ∃ x, a = some x ∧ len ≤ cap ∧ cap ≤ maxLen ∧ rs.length = len ∧ ∀ i, i < len → w.cell? (x.add (i * 5)) = some (.int .i64 (rs.getD i lz).fr) ∧ w.cell? (x.add (i * 5 + 1)) = some (.int .i64 (rs.getD i lz).dst) ∧
    w.cell? (x.add (i * 5 + 2)) = some (.int .i64 (rs.getD i lz).pg) ∧ w.cell? (x.add (i * 5 + 3)) = some (.int .i64 (rs.getD i lz).af) ∧ w.cell? (x.add (i * 5 + 4)) = some (.int .i64 (rs.getD i lz).tt)
theorem IsLanes.stay {w w' : World} {a : Option Addr} {len cap : Nat} {rs : List Ln} (h : IsLanes w a len cap rs) (b : Below w.heap.size w w') : IsLanes w' a len cap rs := by
  rcases h with h | ⟨x, rfl, h1, h2, h3, h4⟩
  · exact .inl h
  · exact .inr ⟨x, rfl, h1, h2, h3, fun i hi => ⟨cell_keep b (h4 i hi).1, cell_keep b (h4 i hi).2.1, cell_keep b (h4 i hi).2.2.1, cell_keep b (h4 i hi).2.2.2.1, cell_keep b (h4 i hi).2.2.2.2⟩⟩
theorem IsLanes.len {w : World} {a : Option Addr} {len cap : Nat} {rs : List Ln} (h : IsLanes w a len cap rs) : len = rs.length := by
  rcases h with ⟨_, h1, _, rfl⟩ | ⟨x, _, _, _, h1, _⟩
  · simpa using h1
  · exact h1.symm
theorem IsLanes.cap {w : World} {a : Option Addr} {len cap : Nat} {rs : List Ln} (h : IsLanes w a len cap rs) : len ≤ cap ∧ cap ≤ maxLen := by
  rcases h with ⟨_, h1, h2, _⟩ | ⟨x, _, h1, h2, _, _⟩
  · subst h1 h2; exact ⟨Nat.le_refl _, Nat.zero_le _⟩
  · exact ⟨h1, h2⟩
/-- A slice of the call's own, read alone. -/
theorem Ls.read {e : TypeId} {w : World} {base n cap : Nat} {a : Option Addr} {rs : List Ln} (h : Ls e w base (.slice a n cap) rs) : IsLanes w a n cap rs := by
  obtain ⟨a', cap', hv, l1, l2, hg⟩ := h.shape
  cases hv
  by_cases hz : 0 < rs.length
  · obtain ⟨g, rfl⟩ := hg hz
    refine .inr ⟨_, rfl, l1, l2, rfl, fun i hi => ?_⟩
    have := h.cell rfl i hi
    simpa [Addr.add_lit] using this
  · have h0 : rs = [] := by cases rs with
      | nil => rfl
      | cons x t => exact absurd (Nat.succ_pos _) hz
    subst h0
    cases a with
    | none =>
      obtain ⟨h1, ⟨hq, h3⟩ | ⟨g, cap, cur, hq, _⟩⟩ := h
      · cases hq; exact .inl ⟨rfl, rfl, rfl, rfl⟩
      · cases hq
    | some x => exact .inr ⟨x, rfl, l1, l2, rfl, fun i hi => absurd hi (Nat.not_lt_zero _)⟩

/-- append of one lane to a slice of the call's own. -/
theorem wp_lane {ops : Array Oper} {rest : List Oper} {o : Oper} {act : Act} {Q : Exit → Act → World → Prop} (t e : TypeId) (he : Tryz.prog.underlying t = some (.slice e)) (hinfo : (Tryz.prog.info? e).map (fun i => (i.zero, i.size, i.bytes)) = some (some lz.val, 5, 40))
    (w : World) (hgd : o.guard = none) (s x : Operand)
    (ho : o.op = .call { callee := .builtin .append, args := #[s, x], argTypes := #[t, t] }) (base : Nat) (v : Value) (rs : List Ln) (hs : act.eval s = v) (hN : Ls e w base v rs)
    (B : Nat) (r : Ln) (hx : act.eval x = .slice (some ⟨B, 0, none⟩) 1 1) (h0 : w.cell? ⟨B, 0, none⟩ = some (.int .i64 r.fr)) (h1 : w.cell? ⟨B, 1, none⟩ = some (.int .i64 r.dst)) (h2 : w.cell? ⟨B, 2, none⟩ = some (.int .i64 r.pg)) (h3 : w.cell? ⟨B, 3, none⟩ = some (.int .i64 r.af)) (h4 : w.cell? ⟨B, 4, none⟩ = some (.int .i64 r.tt))
    (hlen : rs.length ≤ 1000000000) (hbase : base ≤ w.heap.size)
    (h : ∀ v' w', Ls e w' base v' (rs ++ [r]) → w.grownBy w' v.ownBlock → wpList Tryz.prog ops Q rest (act.put o.dst v') w') : wpList Tryz.prog ops Q (o :: rest) act w := by
  obtain ⟨i, hi, hz0, hz1, hz2⟩ := info_parts hinfo
  refine wpList_append_own w hgd s x t ho base e i _ 5 40 he hi hz0 hz1 hz2 rfl (by decide) v rs.length _ hs hN ⟨B, 0, none⟩ 1 1 (flat5 [r]) hx rfl ?_ (flat5_one _) (by unfold maxLen; omega) (by omega) hbase ?_
  · intro j u hj
    rw [Addr.add_lit, Nat.zero_add]
    match j, hj with
    | 0, hj => rw [h0]; exact hj
    | 1, hj => rw [h1]; exact hj
    | 2, hj => rw [h2]; exact hj
    | 3, hj => rw [h3]; exact hj
    | 4, hj => rw [h4]; exact hj
    | j + 5, hj => simp [flat5] at hj
  · intro v' w' hown hgrow _
    refine h v' w' ?_ hgrow
    unfold Ls
    rw [List.length_append, flat5_append]
    exact hown
end Go.Proofs.YtdhdfopkcpkbeaaGreatDoor
