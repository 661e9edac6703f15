/- Texts of this seat, joined. -/
import Derived.Deep.Slices
import Derived.Test.YtkfcofjmjbkekaaGreatDoorQ06
namespace Go.Proofs.YtkfcofjmjbkekaaGreatDoor
open Go.RowKit
set_option linter.unusedVariables false

/-- A slice of numbers, read alone. -/
def IsNs (w : World) (a : Option Addr) (len cap : Nat) (zs : List Int) : Prop :=
  (a = none ∧ len = 0 ∧ cap = 0 ∧ zs = []) ∨
  ∃ x, a = some x ∧ len ≤ cap ∧ cap ≤ maxLen ∧ zs.length = len ∧ ∀ i, i < len → w.cell? (x.add i) = some (.int .i64 (zs.getD i 0))
theorem IsNs.stay {w w' : World} {a : Option Addr} {len cap : Nat} {zs : List Int} (h : IsNs w a len cap zs) (b : Below w.heap.size w w') : IsNs w' a len cap zs := by
  rcases h with h | ⟨x, rfl, h1, h2, h3, h4⟩
  · exact .inl h
  · exact .inr ⟨x, rfl, h1, h2, h3, fun i hi => cell_keep b (h4 i hi)⟩
theorem IsNs.len {w : World} {a : Option Addr} {len cap : Nat} {zs : List Int} (h : IsNs w a len cap zs) : len = zs.length := by
  rcases h with ⟨_, h1, _, rfl⟩ | ⟨x, _, _, _, h1, _⟩
  · simpa using h1
  · exact h1.symm
theorem IsNs.cap {w : World} {a : Option Addr} {len cap : Nat} {zs : List Int} (h : IsNs w a len cap zs) : len ≤ cap ∧ cap ≤ maxLen := by
  rcases h with ⟨_, h1, h2, _⟩ | ⟨x, _, h1, h2, _⟩
  · subst h1 h2; exact ⟨Nat.le_refl _, Nat.zero_le _⟩
  · exact ⟨h1, h2⟩
theorem Nums.read {w : World} {base n cap : Nat} {a : Option Addr} {zs : List Int} (h : Nums w base (.slice a n cap) zs) : IsNs w a n cap zs := by
  obtain ⟨a', cap', hv, l1, l2, hg⟩ := h.shape
  cases hv
  by_cases hz : 0 < zs.length
  · obtain ⟨g, rfl⟩ := hg hz
    refine .inr ⟨_, rfl, l1, l2, rfl, fun i hi => ?_⟩
    have := h.cell rfl i hi
    simpa [Addr.add_lit] using this
  · have h0 : zs = [] := by cases zs with
      | nil => rfl
      | cons x t => exact absurd (Nat.succ_pos _) hz
    subst h0
    cases a with
    | none =>
      obtain ⟨h1, ⟨hq, h3⟩ | ⟨g, cap, cur, hq, _⟩⟩ := h
      · cases hq; exact .inl ⟨rfl, rfl, rfl, rfl⟩
      · cases hq
    | some x => exact .inr ⟨x, rfl, l1, l2, rfl, fun i hi => absurd hi (Nat.not_lt_zero _)⟩
theorem Prs.read {e : TypeId} {w : World} {base n cap : Nat} {a : Option Addr} {rs : List (Int × Int)} (h : Prs e w base (.slice a n cap) rs) : IsPairs w a n cap rs := by
  obtain ⟨a', cap', hv, l1, l2, hg⟩ := h.shape
  cases hv
  by_cases hz : 0 < rs.length
  · obtain ⟨g, rfl⟩ := hg hz
    refine .inr ⟨_, rfl, l1, l2, rfl, fun i hi => ?_⟩
    have := h.cell rfl i hi
    simpa [Addr.add_lit] using this
  · have h0 : rs = [] := by cases rs with
      | nil => rfl
      | cons x t => exact absurd (Nat.succ_pos _) hz
    subst h0
    cases a with
    | none =>
      obtain ⟨h1, ⟨hq, h3⟩ | ⟨g, cap, cur, hq, _⟩⟩ := h
      · cases hq; exact .inl ⟨rfl, rfl, rfl, rfl⟩
      · cases hq
    | some x => exact .inr ⟨x, rfl, l1, l2, rfl, fun i hi => absurd hi (Nat.not_lt_zero _)⟩
theorem IsPairs.cap {w : World} {a : Option Addr} {len cap : Nat} {rs : List (Int × Int)} (h : IsPairs w a len cap rs) : len ≤ cap ∧ cap ≤ maxLen := by
  rcases h with ⟨_, h1, h2, _⟩ | ⟨x, _, h1, h2, _, _⟩
  · subst h1 h2; exact ⟨Nat.le_refl _, Nat.zero_le _⟩
  · exact ⟨h1, h2⟩

/-- A slice of slices of numbers that came in. -/
def IsSS (w : World) (a : Option Addr) (len cap : Nat) (oss : List (List Int)) : Prop :=
  (a = none ∧ len = 0 ∧ cap = 0 ∧ oss = []) ∨
  ∃ x, a = some x ∧ len ≤ cap ∧ cap ≤ maxLen ∧ oss.length = len ∧ ∀ i, i < len → ∃ b l c, w.cell? (x.add i) = some (.slice b l c) ∧ IsRow .i64 w b l c (oss.getD i [])
theorem IsSS.stay {w w' : World} {a : Option Addr} {len cap : Nat} {oss : List (List Int)} (h : IsSS w a len cap oss) (b : Below w.heap.size w w') : IsSS w' a len cap oss := by
  rcases h with h | ⟨x, rfl, h1, h2, h3, h4⟩
  · exact .inl h
  · refine .inr ⟨x, rfl, h1, h2, h3, fun i hi => ?_⟩
    obtain ⟨p, l, c, k1, k2⟩ := h4 i hi
    exact ⟨p, l, c, cell_keep b k1, k2.stay b⟩
theorem IsSS.len {w : World} {a : Option Addr} {len cap : Nat} {oss : List (List Int)} (h : IsSS w a len cap oss) : len = oss.length := by
  rcases h with ⟨_, h1, _, rfl⟩ | ⟨x, _, _, _, h1, _⟩
  · simpa using h1
  · exact h1.symm
theorem IsSS.cap {w : World} {a : Option Addr} {len cap : Nat} {oss : List (List Int)} (h : IsSS w a len cap oss) : len ≤ cap ∧ cap ≤ maxLen := by
  rcases h with ⟨_, h1, h2, _⟩ | ⟨x, _, h1, h2, _, _⟩
  · subst h1 h2; exact ⟨Nat.le_refl _, Nat.zero_le _⟩
  · exact ⟨h1, h2⟩
/-- The same, read alone: nothing is said of how great the numbers are. -/
def IsS2 (w : World) (a : Option Addr) (len cap : Nat) (oss : List (List Int)) : Prop :=
  (a = none ∧ len = 0 ∧ cap = 0 ∧ oss = []) ∨
  ∃ x, a = some x ∧ len ≤ cap ∧ cap ≤ maxLen ∧ oss.length = len ∧ ∀ i, i < len → ∃ b l c, w.cell? (x.add i) = some (.slice b l c) ∧ IsNs w b l c (oss.getD i [])
theorem IsS2.stay {w w' : World} {a : Option Addr} {len cap : Nat} {oss : List (List Int)} (h : IsS2 w a len cap oss) (b : Below w.heap.size w w') : IsS2 w' a len cap oss := by
  rcases h with h | ⟨x, rfl, h1, h2, h3, h4⟩
  · exact .inl h
  · refine .inr ⟨x, rfl, h1, h2, h3, fun i hi => ?_⟩
    obtain ⟨p, l, c, k1, k2⟩ := h4 i hi
    exact ⟨p, l, c, cell_keep b k1, k2.stay b⟩
theorem IsS2.len {w : World} {a : Option Addr} {len cap : Nat} {oss : List (List Int)} (h : IsS2 w a len cap oss) : len = oss.length := by
  rcases h with ⟨_, h1, _, rfl⟩ | ⟨x, _, _, _, h1, _⟩
  · simpa using h1
  · exact h1.symm
theorem IsS2.cap {w : World} {a : Option Addr} {len cap : Nat} {oss : List (List Int)} (h : IsS2 w a len cap oss) : len ≤ cap ∧ cap ≤ maxLen := by
  rcases h with ⟨_, h1, h2, _⟩ | ⟨x, _, h1, h2, _, _⟩
  · subst h1 h2; exact ⟨Nat.le_refl _, Nat.zero_le _⟩
  · exact ⟨h1, h2⟩
/-- The guest i of such a slice. -/
theorem IsS2.at {w : World} {a : Option Addr} {len cap : Nat} {oss : List (List Int)} (h : IsS2 w a len cap oss) (i : Nat) (hi : i < len) : ∃ x b l c, a = some x ∧ w.cell? (x.add i) = some (.slice b l c) ∧ IsNs w b l c (oss.getD i []) := by
  rcases h with ⟨_, h1, _, _⟩ | ⟨x, rfl, h1, h2, h3, h4⟩
  · omega
  · obtain ⟨b, l, c, k1, k2⟩ := h4 i hi
    exact ⟨x, b, l, c, rfl, k1, k2⟩

/-- The lane i. -/
theorem IsLanes.at {w : World} {a : Option Addr} {n c : Nat} {rs : List Ln} (h : IsLanes w a n c rs) (j : Nat) (hj : j < n) : ∃ x, a = some x ∧ w.cell? (x.add (j * 5)) = some (.int .i64 (rs.getD j lz).fr) ∧
    w.cell? ⟨(x.add (j * 5)).block, (x.add (j * 5)).off + 1, none⟩ = some (.int .i64 (rs.getD j lz).dst) ∧ w.cell? ⟨(x.add (j * 5)).block, (x.add (j * 5)).off + 2, none⟩ = some (.int .i64 (rs.getD j lz).pg) ∧
    w.cell? ⟨(x.add (j * 5)).block, (x.add (j * 5)).off + 3, none⟩ = some (.int .i64 (rs.getD j lz).af) ∧ w.cell? ⟨(x.add (j * 5)).block, (x.add (j * 5)).off + 4, none⟩ = some (.int .i64 (rs.getD j lz).tt) := by
  rcases h with ⟨_, h1, _, _⟩ | ⟨x, rfl, h1, h2, h3, h4⟩
  · omega
  · obtain ⟨k0, k1, k2, k3, k4⟩ := h4 j hj
    refine ⟨x, rfl, k0, ?_, ?_, ?_, ?_⟩
    · show w.cell? ((x.add (j * 5)).add 1) = _
      rw [Go.Deep.add_add]; exact k1
    · show w.cell? ((x.add (j * 5)).add 2) = _
      rw [Go.Deep.add_add]; exact k2
    · show w.cell? ((x.add (j * 5)).add 3) = _
      rw [Go.Deep.add_add]; exact k3
    · show w.cell? ((x.add (j * 5)).add 4) = _
      rw [Go.Deep.add_add]; exact k4
/-- The pair i. -/
theorem IsPairs.at {w : World} {a : Option Addr} {n c : Nat} {rs : List (Int × Int)} (h : IsPairs w a n c rs) (j : Nat) (hj : j < n) : ∃ x, a = some x ∧ w.cell? (x.add (j * 2)) = some (.int .i64 (rs.getD j (0, 0)).1) ∧
    w.cell? ⟨(x.add (j * 2)).block, (x.add (j * 2)).off + 1, none⟩ = some (.int .i64 (rs.getD j (0, 0)).2) := by
  rcases h with ⟨_, h1, _, _⟩ | ⟨x, rfl, h1, h2, h3, h4⟩
  · omega
  · obtain ⟨k0, k1⟩ := h4 j hj
    refine ⟨x, rfl, k0, ?_⟩
    show w.cell? ((x.add (j * 2)).add 1) = _
    rw [Go.Deep.add_add]; exact k1

/-- A policy, its four slices read alone. -/
structure Pl (w : World) (a0 : Option Addr) (n0 c0 : Nat) (a1 : Option Addr) (n1 c1 : Nat) (a2 : Option Addr) (n2 c2 : Nat) (a3 : Option Addr) (n3 c3 : Nat) (P : Plc) : Prop where
  own : IsS2 w a0 n0 c0 P.own
  lanes : IsLanes w a1 n1 c1 P.lanes
  bells : IsPairs w a2 n2 c2 P.bells
  plan : IsPairs w a3 n3 c3 P.plan
theorem Pl.stay {w w' : World} {a0 a1 a2 a3 : Option Addr} {n0 c0 n1 c1 n2 c2 n3 c3 : Nat} {P : Plc} (h : Pl w a0 n0 c0 a1 n1 c1 a2 n2 c2 a3 n3 c3 P) (b : Below w.heap.size w w') : Pl w' a0 n0 c0 a1 n1 c1 a2 n2 c2 a3 n3 c3 P :=
  ⟨h.own.stay b, h.lanes.stay b, h.bells.stay b, h.plan.stay b⟩
end Go.Proofs.YtkfcofjmjbkekaaGreatDoor
namespace Go.Proofs.YtkfcofjmjbkekaaGreatDoor
open Go.RowKit
set_option linter.unusedVariables false

/-- A policy at the head of the block q. -/
def PolAt (w : World) (q : Nat) (P : Plc) : Prop :=
  ∃ a0 n0 c0 a1 n1 c1 a2 n2 c2 a3 n3 c3, w.cell? ⟨q, 0, none⟩ = some (.slice a0 n0 c0) ∧ w.cell? ⟨q, 1, none⟩ = some (.slice a1 n1 c1) ∧ w.cell? ⟨q, 2, none⟩ = some (.slice a2 n2 c2) ∧ w.cell? ⟨q, 3, none⟩ = some (.slice a3 n3 c3) ∧
    Pl w a0 n0 c0 a1 n1 c1 a2 n2 c2 a3 n3 c3 P
theorem PolAt.stay {w w' : World} {q : Nat} {P : Plc} (h : PolAt w q P) (b : Below w.heap.size w w') : PolAt w' q P := by
  obtain ⟨a0, n0, c0, a1, n1, c1, a2, n2, c2, a3, n3, c3, h0, h1, h2, h3, h4⟩ := h
  exact ⟨a0, n0, c0, a1, n1, c1, a2, n2, c2, a3, n3, c3, cell_keep b h0, cell_keep b h1, cell_keep b h2, cell_keep b h3, h4.stay b⟩

theorem l1_in (z a b : Int) (w : World) : Calls Tryz.prog 66 #[.int .i64 z, .int .i64 a, .int .i64 b] w fun e w' => e = .returned (.bool (decide (a ≤ z) && decide (z ≤ b))) ∧ w' = w := by
  by_cases h : a ≤ z
  · go_enter Tryz.func66, Tryz.ntmps66
    go_wp2
    go_ret
    exact ⟨by simp [h], rfl⟩
  · go_enter Tryz.func66, Tryz.ntmps66
    go_wp2
    go_ret
    exact ⟨by simp; omega, rfl⟩

theorem l1_pg (z : Int) (w : World) : Calls Tryz.prog 66 #[.int .i64 z, .int .i64 0, .int .i64 23] w fun e w' => e = .returned (.bool (pgOk z)) ∧ w' = w := l1_in z 0 23 w
theorem l1_st (z : Int) (w : World) : Calls Tryz.prog 66 #[.int .i64 z, .int .i64 1, .int .i64 50] w fun e w' => e = .returned (.bool (stOk z)) ∧ w' = w := l1_in z 1 50 w

theorem mem_drop_step (zs : List Int) (x : Int) (j : Nat) (h : j < zs.length) : (x ∈ zs.drop j) ↔ (zs.getD j 0 = x ∨ x ∈ zs.drop (j + 1)) := by
  rw [drop_cons_getD zs 0 j h, List.mem_cons]
  constructor
  · rintro (h | h)
    · exact .inl h.symm
    · exact .inr h
  · rintro (h | h)
    · exact .inl h.symm
    · exact .inr h

set_option maxHeartbeats 1000000 in
theorem l1_has (a : Option Addr) (len cap : Nat) (x : Int) (zs : List Int) (w : World) (h : IsNs w a len cap zs) :
    Calls Tryz.prog 67 #[.slice a len cap, .int .i64 x] w fun e w' => e = .returned (.bool (decide (x ∈ zs))) ∧ w' = w := by
  have HR : Hid (IsNs w a len cap zs) := h
  have hmax : (len : Int) ≤ 9223372036854775807 := by have := h.cap; unfold maxLen at this; omega
  have HL : Hid (len = zs.length) := h.len
  clear h
  go_enter Tryz.func67, Tryz.ntmps67
  go_wp2_with fail
  go_loop [5] (fun c => ∃ j : Nat, j ≤ len ∧ c = .int .i64 j ∧ Hid ((x ∈ zs) ↔ (x ∈ zs.drop j))) (fun c => len - (intOf c).toNat)
  case atStart => exact ⟨0, Nat.zero_le _, rfl, by show _ ↔ _; simp⟩
  case round =>
    obtain ⟨j, hj, rfl, hI⟩ := hrel
    by_cases hlt : j < len
    · rcases HR.out with ⟨_, h1, _, _⟩ | ⟨y, rfl, h1, h2, h3, h4⟩
      · omega
      have c0 := h4 j hlt
      have hJ : (j : Int) < (len : Int) := by omega
      have HLT : Hid (j < len) := hlt
      have ST : Hid (_ ↔ _) := mem_drop_step zs x j (by have := HL.out; omega)
      clear h1 h2 h3 h4
      generalize hz : zs.getD j 0 = z at *
      clear hz
      clear hlt
      by_cases hx : z = x
      · go_wp2_with fail
        go_ret
        refine ⟨?_, rfl⟩
        have : x ∈ zs := hI.out.2 (ST.out.2 (.inl hx))
        simp [this]
      · have HX : Hid (¬ z = x) := hx
        go_wp2_with fail
        go_round
        case rel =>
          refine ⟨j + 1, by have := HLT.out; omega, by go_num, ?_⟩
          show _ ↔ _
          rw [hI.out, ST.out]
          have := HX.out
          simp [this]
        case measure => have := HLT.out; simp [intOf]; omega
    · have hJ : ¬ (j : Int) < (len : Int) := by omega
      have HJ : Hid (j = len) := by show _ = _; omega
      clear hlt
      go_wp2_with fail
      go_ret
      refine ⟨?_, rfl⟩
      have e := hI.out
      rw [List.drop_of_length_le (by have := HL.out; have := HJ.out; omega)] at e
      simp at e
      simp [e]

theorem l6_guest (q : Nat) (g : Int) (P : Plc) (w : World) (h : PolAt w q P) :
    Calls Tryz.prog 71 #[.pointer (some ⟨q, 0, none⟩), .int .i64 g] w fun e w' => e = .returned (.bool (isG P.own.length g)) ∧ w' = w := by
  obtain ⟨a0, n0, c0, a1, n1, c1, a2, n2, c2, a3, n3, c3, h0, h1, h2, h3, h4⟩ := h
  have HL : Hid (n0 = P.own.length) := h4.own.len
  have hmax : (n0 : Int) ≤ 9223372036854775807 := by have := h4.own.cap; unfold maxLen at this; omega
  clear h1 h2 h3 h4
  go_enter Tryz.func71, Tryz.ntmps71
  go_wp2_with (go_at_call 66; refine (l1_in _ _ _ _).mono ?_; rintro e x ⟨rfl, rfl⟩)
  go_ret
  rw [isG, ← HL.out]
  exact ⟨rfl, rfl⟩

set_option maxHeartbeats 1000000 in
theorem l6_owner (q : Nat) (pg : Int) (P : Plc) (w : World) (h : PolAt w q P) :
    Calls Tryz.prog 69 #[.pointer (some ⟨q, 0, none⟩), .int .i64 pg] w fun e w' => e = .returned (.int .i64 (ownerFrom 0 P.own pg)) ∧ w' = w := by
  obtain ⟨a0, n0, c0, a1, n1, c1, a2, n2, c2, a3, n3, c3, h0, h1, h2, h3, h4⟩ := h
  have HL : Hid (n0 = P.own.length) := h4.own.len
  have HO : Hid (IsS2 w a0 n0 c0 P.own) := h4.own
  have hmax : (n0 : Int) ≤ 9223372036854775807 := by have := h4.own.cap; unfold maxLen at this; omega
  clear h1 h2 h3 h4
  go_enter Tryz.func69, Tryz.ntmps69
  go_wp2_with fail
  go_loop [5] (fun c => ∃ j : Nat, j ≤ n0 ∧ c = .int .i64 j ∧ Hid (ownerFrom 0 P.own pg = ownerFrom j (P.own.drop j) pg)) (fun c => n0 - (intOf c).toNat)
  case atStart => exact ⟨0, Nat.zero_le _, rfl, by show _ = _; simp⟩
  case round =>
    obtain ⟨j, hj, rfl, hI⟩ := hrel
    by_cases hlt : j < n0
    · obtain ⟨x, b, l, c, rfl, k1, k2⟩ := HO.out.at j hlt
      have HN : Hid (IsNs w b l c _) := k2
      have hJ : (j : Int) < (n0 : Int) := by omega
      have HLT : Hid (j < n0) := hlt
      have ST : Hid (_ = _) := owner_step P.own pg j (by have := HL.out; omega)
      clear k2 hlt
      by_cases hx : pg ∈ P.own.getD j []
      · have HX : Hid (pg ∈ P.own.getD j []) := hx
        have hd : decide (pg ∈ P.own.getD j []) = true := decide_eq_true hx
        clear hx
        go_wp2_with (go_at_call 67; refine (l1_has _ _ _ _ _ _ HN.out).mono ?_; rintro e x ⟨rfl, rfl⟩; rw [hd])
        go_ret
        rw [hI.out, ST.out, if_pos HX.out]
        exact ⟨rfl, rfl⟩
      · have HX : Hid (¬ pg ∈ P.own.getD j []) := hx
        have hd : decide (pg ∈ P.own.getD j []) = false := decide_eq_false hx
        clear hx
        go_wp2_with (go_at_call 67; refine (l1_has _ _ _ _ _ _ HN.out).mono ?_; rintro e x ⟨rfl, rfl⟩; rw [hd])
        go_round
        case rel =>
          refine ⟨j + 1, by have := HLT.out; omega, by go_num, ?_⟩
          show _ = _
          rw [hI.out, ST.out, if_neg HX.out]
        case measure => have := HLT.out; simp [intOf]; omega
    · have hJ : ¬ (j : Int) < (n0 : Int) := by omega
      have HJ : Hid (j = n0) := by show _ = _; omega
      clear hlt
      go_wp2_with fail
      go_ret
      rw [hI.out, List.drop_of_length_le (by have := HL.out; have := HJ.out; omega)]
      exact ⟨rfl, rfl⟩

theorem l6_at (l : Ln) (g p : Int) (w : World) : Calls Tryz.prog 70 #[.agg #[.int .i64 l.fr, .int .i64 l.dst, .int .i64 l.pg, .int .i64 l.af, .int .i64 l.tt], .int .i64 g, .int .i64 p] w fun e w' => e = .returned (.bool (usesV l g p)) ∧ w' = w.alloc (.cells #[.int .i64 l.fr, .int .i64 l.dst, .int .i64 l.pg, .int .i64 l.af, .int .i64 l.tt] 58) := by
  obtain ⟨a, b, c, d, z⟩ := l
  unfold usesV
  simp only
  have e0 : ∀ x : Bool, decide (a = g ∧ d = p ∨ b = g ∧ z = p) = x → True := fun _ _ => trivial
  by_cases h1 : a = g <;> by_cases h2 : d = p <;> by_cases h3 : b = g <;> by_cases h4 : z = p <;>
    (go_enter Tryz.func70, Tryz.ntmps70
     go_wp2_with fail
     go_ret
     exact ⟨by simp [h1, h2, h3, h4], by first | rfl | simp [h1, h2, h3, h4]⟩)

theorem l6_ends (q : Nat) (f t : Int) (P : Plc) (w : World) (h : PolAt w q P) :
    Calls Tryz.prog 68 #[.pointer (some ⟨q, 0, none⟩), .int .i64 f, .int .i64 t] w fun e w' => e = .returned (.int .i64 (endsV P.own.length f t)) ∧ w' = w := by
  have HP : Hid (PolAt w q P) := h
  clear h
  unfold endsV
  by_cases h1 : isG P.own.length f = true
  · by_cases h2 : isG P.own.length t = true
    · rw [if_neg (by simp [h1, h2])]
      by_cases h3 : f = t
      · rw [if_pos h3]
        go_enter Tryz.func68, Tryz.ntmps68
        go_wp2_with (go_at_call 71; refine (l6_guest _ _ P _ HP.out).mono ?_; rintro e x ⟨rfl, rfl⟩; first | rw [h1] | rw [h2])
        go_ret
        exact ⟨rfl, rfl⟩
      · rw [if_neg h3]
        go_enter Tryz.func68, Tryz.ntmps68
        go_wp2_with (go_at_call 71; refine (l6_guest _ _ P _ HP.out).mono ?_; rintro e x ⟨rfl, rfl⟩; first | rw [h1] | rw [h2])
        go_ret
        exact ⟨rfl, rfl⟩
    · rw [Bool.not_eq_true] at h2
      rw [if_pos (.inr h2)]
      go_enter Tryz.func68, Tryz.ntmps68
      go_wp2_with (go_at_call 71; refine (l6_guest _ _ P _ HP.out).mono ?_; rintro e x ⟨rfl, rfl⟩; first | rw [h1] | rw [h2])
      go_ret
      exact ⟨rfl, rfl⟩
  · rw [Bool.not_eq_true] at h1
    rw [if_pos (.inl h1)]
    go_enter Tryz.func68, Tryz.ntmps68
    go_wp2_with (go_at_call 71; refine (l6_guest _ _ P _ HP.out).mono ?_; rintro e x ⟨rfl, rfl⟩; rw [h1])
    go_ret
    exact ⟨rfl, rfl⟩
end Go.Proofs.YtkfcofjmjbkekaaGreatDoor
