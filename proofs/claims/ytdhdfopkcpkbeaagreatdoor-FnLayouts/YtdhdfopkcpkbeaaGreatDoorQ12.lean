/- Texts of this seat, joined. -/
import Derived.Deep.Slices
import Derived.Test.YtdhdfopkcpkbeaaGreatDoorQ11
namespace Go.Proofs.YtdhdfopkcpkbeaaGreatDoor
open Go.RowKit
set_option linter.unusedVariables false

/-- A slice of numbers, read alone. -/
def IsNs (w : World) (a : Option Addr) (len cap : Nat) (zs : List Int) : Prop :=
  (a = none ∧ len = 0 ∧ cap = 0 ∧ zs = []) ∨
  ∃ x, a = some x ∧ len ≤ cap ∧ cap ≤ maxLen ∧ zs.length = len ∧ ∀ i, i < len → w.cell? (x.add i) = some (.int .i64 (zs.getD i 0))
theorem IsNs.stay {w w' : World} {a : Option Addr} {len cap : Nat} {zs : List Int} (h : IsNs w a len cap zs) (b : Below w.heap.size w w') : IsNs w' a len cap zs := by
  rcases h with h | ⟨x, rfl, h1, h2, h3, h4⟩
  · exact .inl h
  · exact .inr ⟨x, rfl, h1, h2, h3, fun i hi => cell_keep b (h4 i hi)⟩
theorem IsNs.len {w : World} {a : Option Addr} {len cap : Nat} {zs : List Int} (h : IsNs w a len cap zs) : len = zs.length := by
  rcases h with ⟨_, h1, _, rfl⟩ | ⟨x, _, _, _, h1, _⟩
  · simpa using h1
  · exact h1.symm
theorem IsNs.cap {w : World} {a : Option Addr} {len cap : Nat} {zs : List Int} (h : IsNs w a len cap zs) : len ≤ cap ∧ cap ≤ maxLen := by
  rcases h with ⟨_, h1, h2, _⟩ | ⟨x, _, h1, h2, _⟩
  · subst h1 h2; exact ⟨Nat.le_refl _, Nat.zero_le _⟩
  · exact ⟨h1, h2⟩
theorem Nums.read {w : World} {base n cap : Nat} {a : Option Addr} {zs : List Int} (h : Nums w base (.slice a n cap) zs) : IsNs w a n cap zs := by
  obtain ⟨a', cap', hv, l1, l2, hg⟩ := h.shape
  cases hv
  by_cases hz : 0 < zs.length
  · obtain ⟨g, rfl⟩ := hg hz
    refine .inr ⟨_, rfl, l1, l2, rfl, fun i hi => ?_⟩
    have := h.cell rfl i hi
    simpa [Addr.add_lit] using this
  · have h0 : zs = [] := by cases zs with
      | nil => rfl
      | cons x t => exact absurd (Nat.succ_pos _) hz
    subst h0
    cases a with
    | none =>
      obtain ⟨h1, ⟨hq, h3⟩ | ⟨g, cap, cur, hq, _⟩⟩ := h
      · cases hq; exact .inl ⟨rfl, rfl, rfl, rfl⟩
      · cases hq
    | some x => exact .inr ⟨x, rfl, l1, l2, rfl, fun i hi => absurd hi (Nat.not_lt_zero _)⟩
theorem Prs.read {e : TypeId} {w : World} {base n cap : Nat} {a : Option Addr} {rs : List (Int × Int)} (h : Prs e w base (.slice a n cap) rs) : IsPairs w a n cap rs := by
  obtain ⟨a', cap', hv, l1, l2, hg⟩ := h.shape
  cases hv
  by_cases hz : 0 < rs.length
  · obtain ⟨g, rfl⟩ := hg hz
    refine .inr ⟨_, rfl, l1, l2, rfl, fun i hi => ?_⟩
    have := h.cell rfl i hi
    simpa [Addr.add_lit] using this
  · have h0 : rs = [] := by cases rs with
      | nil => rfl
      | cons x t => exact absurd (Nat.succ_pos _) hz
    subst h0
    cases a with
    | none =>
      obtain ⟨h1, ⟨hq, h3⟩ | ⟨g, cap, cur, hq, _⟩⟩ := h
      · cases hq; exact .inl ⟨rfl, rfl, rfl, rfl⟩
      · cases hq
    | some x => exact .inr ⟨x, rfl, l1, l2, rfl, fun i hi => absurd hi (Nat.not_lt_zero _)⟩
theorem IsPairs.cap {w : World} {a : Option Addr} {len cap : Nat} {rs : List (Int × Int)} (h : IsPairs w a len cap rs) : len ≤ cap ∧ cap ≤ maxLen := by
  rcases h with ⟨_, h1, h2, _⟩ | ⟨x, _, h1, h2, _, _⟩
  · subst h1 h2; exact ⟨Nat.le_refl _, Nat.zero_le _⟩
  · exact ⟨h1, h2⟩

/-- A slice of slices of numbers that came in. -/
def IsSS (w : World) (a : Option Addr) (len cap : Nat) (oss : List (List Int)) : Prop :=
  (a = none ∧ len = 0 ∧ cap = 0 ∧ oss = []) ∨
  ∃ x, a = some x ∧ len ≤ cap ∧ cap ≤ maxLen ∧ oss.length = len ∧ ∀ i, i < len → ∃ b l c, w.cell? (x.add i) = some (.slice b l c) ∧ IsRow .i64 w b l c (oss.getD i [])
theorem IsSS.stay {w w' : World} {a : Option Addr} {len cap : Nat} {oss : List (List Int)} (h : IsSS w a len cap oss) (b : Below w.heap.size w w') : IsSS w' a len cap oss := by
  rcases h with h | ⟨x, rfl, h1, h2, h3, h4⟩
  · exact .inl h
  · refine .inr ⟨x, rfl, h1, h2, h3, fun i hi => ?_⟩
    obtain ⟨p, l, c, k1, k2⟩ := h4 i hi
    exact ⟨p, l, c, cell_keep b k1, k2.stay b⟩
theorem IsSS.len {w : World} {a : Option Addr} {len cap : Nat} {oss : List (List Int)} (h : IsSS w a len cap oss) : len = oss.length := by
  rcases h with ⟨_, h1, _, rfl⟩ | ⟨x, _, _, _, h1, _⟩
  · simpa using h1
  · exact h1.symm
theorem IsSS.cap {w : World} {a : Option Addr} {len cap : Nat} {oss : List (List Int)} (h : IsSS w a len cap oss) : len ≤ cap ∧ cap ≤ maxLen := by
  rcases h with ⟨_, h1, h2, _⟩ | ⟨x, _, h1, h2, _, _⟩
  · subst h1 h2; exact ⟨Nat.le_refl _, Nat.zero_le _⟩
  · exact ⟨h1, h2⟩
/-- The same, read alone: nothing is said of how great the numbers are. -/
def IsS2 (w : World) (a : Option Addr) (len cap : Nat) (oss : List (List Int)) : Prop :=
  (a = none ∧ len = 0 ∧ cap = 0 ∧ oss = []) ∨
  ∃ x, a = some x ∧ len ≤ cap ∧ cap ≤ maxLen ∧ oss.length = len ∧ ∀ i, i < len → ∃ b l c, w.cell? (x.add i) = some (.slice b l c) ∧ IsNs w b l c (oss.getD i [])
theorem IsS2.stay {w w' : World} {a : Option Addr} {len cap : Nat} {oss : List (List Int)} (h : IsS2 w a len cap oss) (b : Below w.heap.size w w') : IsS2 w' a len cap oss := by
  rcases h with h | ⟨x, rfl, h1, h2, h3, h4⟩
  · exact .inl h
  · refine .inr ⟨x, rfl, h1, h2, h3, fun i hi => ?_⟩
    obtain ⟨p, l, c, k1, k2⟩ := h4 i hi
    exact ⟨p, l, c, cell_keep b k1, k2.stay b⟩
theorem IsS2.len {w : World} {a : Option Addr} {len cap : Nat} {oss : List (List Int)} (h : IsS2 w a len cap oss) : len = oss.length := by
  rcases h with ⟨_, h1, _, rfl⟩ | ⟨x, _, _, _, h1, _⟩
  · simpa using h1
  · exact h1.symm
theorem IsS2.cap {w : World} {a : Option Addr} {len cap : Nat} {oss : List (List Int)} (h : IsS2 w a len cap oss) : len ≤ cap ∧ cap ≤ maxLen := by
  rcases h with ⟨_, h1, h2, _⟩ | ⟨x, _, h1, h2, _, _⟩
  · subst h1 h2; exact ⟨Nat.le_refl _, Nat.zero_le _⟩
  · exact ⟨h1, h2⟩
/-- The guest i of such a slice. -/
theorem IsS2.at {w : World} {a : Option Addr} {len cap : Nat} {oss : List (List Int)} (h : IsS2 w a len cap oss) (i : Nat) (hi : i < len) : ∃ x b l c, a = some x ∧ w.cell? (x.add i) = some (.slice b l c) ∧ IsNs w b l c (oss.getD i []) := by
  rcases h with ⟨_, h1, _, _⟩ | ⟨x, rfl, h1, h2, h3, h4⟩
  · omega
  · obtain ⟨b, l, c, k1, k2⟩ := h4 i hi
    exact ⟨x, b, l, c, rfl, k1, k2⟩

/-- The lane i. -/
theorem IsLanes.at {w : World} {a : Option Addr} {n c : Nat} {rs : List Ln} (h : IsLanes w a n c rs) (j : Nat) (hj : j < n) : ∃ x, a = some x ∧ w.cell? (x.add (j * 5)) = some (.int .i64 (rs.getD j lz).fr) ∧
    w.cell? ⟨(x.add (j * 5)).block, (x.add (j * 5)).off + 1, none⟩ = some (.int .i64 (rs.getD j lz).dst) ∧ w.cell? ⟨(x.add (j * 5)).block, (x.add (j * 5)).off + 2, none⟩ = some (.int .i64 (rs.getD j lz).pg) ∧
    w.cell? ⟨(x.add (j * 5)).block, (x.add (j * 5)).off + 3, none⟩ = some (.int .i64 (rs.getD j lz).af) ∧ w.cell? ⟨(x.add (j * 5)).block, (x.add (j * 5)).off + 4, none⟩ = some (.int .i64 (rs.getD j lz).tt) := by
  rcases h with ⟨_, h1, _, _⟩ | ⟨x, rfl, h1, h2, h3, h4⟩
  · omega
  · obtain ⟨k0, k1, k2, k3, k4⟩ := h4 j hj
    refine ⟨x, rfl, k0, ?_, ?_, ?_, ?_⟩
    · show w.cell? ((x.add (j * 5)).add 1) = _
      rw [Go.Deep.add_add]; exact k1
    · show w.cell? ((x.add (j * 5)).add 2) = _
      rw [Go.Deep.add_add]; exact k2
    · show w.cell? ((x.add (j * 5)).add 3) = _
      rw [Go.Deep.add_add]; exact k3
    · show w.cell? ((x.add (j * 5)).add 4) = _
      rw [Go.Deep.add_add]; exact k4
/-- The pair i. -/
theorem IsPairs.at {w : World} {a : Option Addr} {n c : Nat} {rs : List (Int × Int)} (h : IsPairs w a n c rs) (j : Nat) (hj : j < n) : ∃ x, a = some x ∧ w.cell? (x.add (j * 2)) = some (.int .i64 (rs.getD j (0, 0)).1) ∧
    w.cell? ⟨(x.add (j * 2)).block, (x.add (j * 2)).off + 1, none⟩ = some (.int .i64 (rs.getD j (0, 0)).2) := by
  rcases h with ⟨_, h1, _, _⟩ | ⟨x, rfl, h1, h2, h3, h4⟩
  · omega
  · obtain ⟨k0, k1⟩ := h4 j hj
    refine ⟨x, rfl, k0, ?_⟩
    show w.cell? ((x.add (j * 2)).add 1) = _
    rw [Go.Deep.add_add]; exact k1

/-- A policy, its four slices read alone. -/
structure Pl (w : World) (a0 : Option Addr) (n0 c0 : Nat) (a1 : Option Addr) (n1 c1 : Nat) (a2 : Option Addr) (n2 c2 : Nat) (a3 : Option Addr) (n3 c3 : Nat) (P : Plc) : Prop where
  own : IsS2 w a0 n0 c0 P.own
  lanes : IsLanes w a1 n1 c1 P.lanes
  bells : IsPairs w a2 n2 c2 P.bells
  plan : IsPairs w a3 n3 c3 P.plan
theorem Pl.stay {w w' : World} {a0 a1 a2 a3 : Option Addr} {n0 c0 n1 c1 n2 c2 n3 c3 : Nat} {P : Plc} (h : Pl w a0 n0 c0 a1 n1 c1 a2 n2 c2 a3 n3 c3 P) (b : Below w.heap.size w w') : Pl w' a0 n0 c0 a1 n1 c1 a2 n2 c2 a3 n3 c3 P :=
  ⟨h.own.stay b, h.lanes.stay b, h.bells.stay b, h.plan.stay b⟩
end Go.Proofs.YtdhdfopkcpkbeaaGreatDoor
