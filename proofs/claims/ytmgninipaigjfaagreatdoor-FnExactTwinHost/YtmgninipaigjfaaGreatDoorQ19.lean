/- Texts of this seat, joined. -/
import Derived.Laws.AppendOwn
import Derived.Deep.RegionHeld3
import Derived.Test.YtmgninipaigjfaaGreatDoorQ04
import Derived.Test.YtmgninipaigjfaaGreatDoorQ10
import Derived.Test.YtmgninipaigjfaaGreatDoorQ15
import Derived.Test.YtmgninipaigjfaaGreatDoorQ18
namespace Go.Proofs.YtmgninipaigjfaaGreatDoor
open Go.RowKit
set_option linter.unusedVariables false

/-- A policy at the head of the block q. -/
def PolAt (w : World) (q : Nat) (P : Plc) : Prop :=
  ∃ a0 n0 c0 a1 n1 c1 a2 n2 c2 a3 n3 c3, w.cell? ⟨q, 0, none⟩ = some (.slice a0 n0 c0) ∧ w.cell? ⟨q, 1, none⟩ = some (.slice a1 n1 c1) ∧ w.cell? ⟨q, 2, none⟩ = some (.slice a2 n2 c2) ∧ w.cell? ⟨q, 3, none⟩ = some (.slice a3 n3 c3) ∧
    Pl w a0 n0 c0 a1 n1 c1 a2 n2 c2 a3 n3 c3 P
theorem PolAt.stay {w w' : World} {q : Nat} {P : Plc} (h : PolAt w q P) (b : Below w.heap.size w w') : PolAt w' q P := by
  obtain ⟨a0, n0, c0, a1, n1, c1, a2, n2, c2, a3, n3, c3, h0, h1, h2, h3, h4⟩ := h
  exact ⟨a0, n0, c0, a1, n1, c1, a2, n2, c2, a3, n3, c3, cell_keep b h0, cell_keep b h1, cell_keep b h2, cell_keep b h3, h4.stay b⟩

theorem l1_in (z a b : Int) (w : World) : Calls Tryz.prog 67 #[.int .i64 z, .int .i64 a, .int .i64 b] w fun e w' => e = .returned (.bool (decide (a ≤ z) && decide (z ≤ b))) ∧ w' = w := by
  by_cases h : a ≤ z
  · go_enter Tryz.func67, Tryz.ntmps67
    go_wp2
    go_ret
    exact ⟨by simp [h], rfl⟩
  · go_enter Tryz.func67, Tryz.ntmps67
    go_wp2
    go_ret
    exact ⟨by simp; omega, rfl⟩

theorem l1_pg (z : Int) (w : World) : Calls Tryz.prog 67 #[.int .i64 z, .int .i64 0, .int .i64 23] w fun e w' => e = .returned (.bool (pgOk z)) ∧ w' = w := l1_in z 0 23 w
theorem l1_st (z : Int) (w : World) : Calls Tryz.prog 67 #[.int .i64 z, .int .i64 1, .int .i64 50] w fun e w' => e = .returned (.bool (stOk z)) ∧ w' = w := l1_in z 1 50 w

theorem mem_drop_step (zs : List Int) (x : Int) (j : Nat) (h : j < zs.length) : (x ∈ zs.drop j) ↔ (zs.getD j 0 = x ∨ x ∈ zs.drop (j + 1)) := by
  rw [drop_cons_getD zs 0 j h, List.mem_cons]
  constructor
  · rintro (h | h)
    · exact .inl h.symm
    · exact .inr h
  · rintro (h | h)
    · exact .inl h.symm
    · exact .inr h

set_option maxHeartbeats 1000000 in
theorem l1_has (a : Option Addr) (len cap : Nat) (x : Int) (zs : List Int) (w : World) (h : IsNs w a len cap zs) :
    Calls Tryz.prog 84 #[.slice a len cap, .int .i64 x] w fun e w' => e = .returned (.bool (decide (x ∈ zs))) ∧ w' = w := by
  have HR : Hid (IsNs w a len cap zs) := h
  have hmax : (len : Int) ≤ 9223372036854775807 := by have := h.cap; unfold maxLen at this; omega
  have HL : Hid (len = zs.length) := h.len
  clear h
  go_enter Tryz.func84, Tryz.ntmps84
  go_wp2_with fail
  go_loop [5] (fun c => ∃ j : Nat, j ≤ len ∧ c = .int .i64 j ∧ Hid ((x ∈ zs) ↔ (x ∈ zs.drop j))) (fun c => len - (intOf c).toNat)
  case atStart => exact ⟨0, Nat.zero_le _, rfl, by show _ ↔ _; simp⟩
  case round =>
    obtain ⟨j, hj, rfl, hI⟩ := hrel
    by_cases hlt : j < len
    · rcases HR.out with ⟨_, h1, _, _⟩ | ⟨y, rfl, h1, h2, h3, h4⟩
      · omega
      have c0 := h4 j hlt
      have hJ : (j : Int) < (len : Int) := by omega
      have HLT : Hid (j < len) := hlt
      have ST : Hid (_ ↔ _) := mem_drop_step zs x j (by have := HL.out; omega)
      clear h1 h2 h3 h4
      generalize hz : zs.getD j 0 = z at *
      clear hz
      clear hlt
      by_cases hx : z = x
      · go_wp2_with fail
        go_ret
        refine ⟨?_, rfl⟩
        have : x ∈ zs := hI.out.2 (ST.out.2 (.inl hx))
        simp [this]
      · have HX : Hid (¬ z = x) := hx
        go_wp2_with fail
        go_round
        case rel =>
          refine ⟨j + 1, by have := HLT.out; omega, by go_num, ?_⟩
          show _ ↔ _
          rw [hI.out, ST.out]
          have := HX.out
          simp [this]
        case measure => have := HLT.out; simp [intOf]; omega
    · have hJ : ¬ (j : Int) < (len : Int) := by omega
      have HJ : Hid (j = len) := by show _ = _; omega
      clear hlt
      go_wp2_with fail
      go_ret
      refine ⟨?_, rfl⟩
      have e := hI.out
      rw [List.drop_of_length_le (by have := HL.out; have := HJ.out; omega)] at e
      simp at e
      simp [e]

theorem l6_guest (q : Nat) (g : Int) (P : Plc) (w : World) (h : PolAt w q P) :
    Calls Tryz.prog 42 #[.pointer (some ⟨q, 0, none⟩), .int .i64 g] w fun e w' => e = .returned (.bool (isG P.own.length g)) ∧ w' = w := by
  obtain ⟨a0, n0, c0, a1, n1, c1, a2, n2, c2, a3, n3, c3, h0, h1, h2, h3, h4⟩ := h
  have HL : Hid (n0 = P.own.length) := h4.own.len
  have hmax : (n0 : Int) ≤ 9223372036854775807 := by have := h4.own.cap; unfold maxLen at this; omega
  clear h1 h2 h3 h4
  go_enter Tryz.func42, Tryz.ntmps42
  go_wp2_with (go_at_call 67; refine (l1_in _ _ _ _).mono ?_; rintro e x ⟨rfl, rfl⟩)
  go_ret
  rw [isG, ← HL.out]
  exact ⟨rfl, rfl⟩

set_option maxHeartbeats 1000000 in
theorem l6_owner (q : Nat) (pg : Int) (P : Plc) (w : World) (h : PolAt w q P) :
    Calls Tryz.prog 86 #[.pointer (some ⟨q, 0, none⟩), .int .i64 pg] w fun e w' => e = .returned (.int .i64 (ownerFrom 0 P.own pg)) ∧ w' = w := by
  obtain ⟨a0, n0, c0, a1, n1, c1, a2, n2, c2, a3, n3, c3, h0, h1, h2, h3, h4⟩ := h
  have HL : Hid (n0 = P.own.length) := h4.own.len
  have HO : Hid (IsS2 w a0 n0 c0 P.own) := h4.own
  have hmax : (n0 : Int) ≤ 9223372036854775807 := by have := h4.own.cap; unfold maxLen at this; omega
  clear h1 h2 h3 h4
  go_enter Tryz.func86, Tryz.ntmps86
  go_wp2_with fail
  go_loop [5] (fun c => ∃ j : Nat, j ≤ n0 ∧ c = .int .i64 j ∧ Hid (ownerFrom 0 P.own pg = ownerFrom j (P.own.drop j) pg)) (fun c => n0 - (intOf c).toNat)
  case atStart => exact ⟨0, Nat.zero_le _, rfl, by show _ = _; simp⟩
  case round =>
    obtain ⟨j, hj, rfl, hI⟩ := hrel
    by_cases hlt : j < n0
    · obtain ⟨x, b, l, c, rfl, k1, k2⟩ := HO.out.at j hlt
      have HN : Hid (IsNs w b l c _) := k2
      have hJ : (j : Int) < (n0 : Int) := by omega
      have HLT : Hid (j < n0) := hlt
      have ST : Hid (_ = _) := owner_step P.own pg j (by have := HL.out; omega)
      clear k2 hlt
      by_cases hx : pg ∈ P.own.getD j []
      · have HX : Hid (pg ∈ P.own.getD j []) := hx
        have hd : decide (pg ∈ P.own.getD j []) = true := decide_eq_true hx
        clear hx
        go_wp2_with (go_at_call 84; refine (l1_has _ _ _ _ _ _ HN.out).mono ?_; rintro e x ⟨rfl, rfl⟩; rw [hd])
        go_ret
        rw [hI.out, ST.out, if_pos HX.out]
        exact ⟨rfl, rfl⟩
      · have HX : Hid (¬ pg ∈ P.own.getD j []) := hx
        have hd : decide (pg ∈ P.own.getD j []) = false := decide_eq_false hx
        clear hx
        go_wp2_with (go_at_call 84; refine (l1_has _ _ _ _ _ _ HN.out).mono ?_; rintro e x ⟨rfl, rfl⟩; rw [hd])
        go_round
        case rel =>
          refine ⟨j + 1, by have := HLT.out; omega, by go_num, ?_⟩
          show _ = _
          rw [hI.out, ST.out, if_neg HX.out]
        case measure => have := HLT.out; simp [intOf]; omega
    · have hJ : ¬ (j : Int) < (n0 : Int) := by omega
      have HJ : Hid (j = n0) := by show _ = _; omega
      clear hlt
      go_wp2_with fail
      go_ret
      rw [hI.out, List.drop_of_length_le (by have := HL.out; have := HJ.out; omega)]
      exact ⟨rfl, rfl⟩

theorem l6_at (l : Ln) (g p : Int) (w : World) : Calls Tryz.prog 87 #[.agg #[.int .i64 l.fr, .int .i64 l.dst, .int .i64 l.pg, .int .i64 l.af, .int .i64 l.tt], .int .i64 g, .int .i64 p] w fun e w' => e = .returned (.bool (usesV l g p)) ∧ w' = w.alloc (.cells #[.int .i64 l.fr, .int .i64 l.dst, .int .i64 l.pg, .int .i64 l.af, .int .i64 l.tt] 86) := by
  obtain ⟨a, b, c, d, z⟩ := l
  unfold usesV
  simp only
  have e0 : ∀ x : Bool, decide (a = g ∧ d = p ∨ b = g ∧ z = p) = x → True := fun _ _ => trivial
  by_cases h1 : a = g <;> by_cases h2 : d = p <;> by_cases h3 : b = g <;> by_cases h4 : z = p <;>
    (go_enter Tryz.func87, Tryz.ntmps87
     go_wp2_with fail
     go_ret
     exact ⟨by simp [h1, h2, h3, h4], by first | rfl | simp [h1, h2, h3, h4]⟩)

theorem l6_ends (q : Nat) (f t : Int) (P : Plc) (w : World) (h : PolAt w q P) :
    Calls Tryz.prog 85 #[.pointer (some ⟨q, 0, none⟩), .int .i64 f, .int .i64 t] w fun e w' => e = .returned (.int .i64 (endsV P.own.length f t)) ∧ w' = w := by
  have HP : Hid (PolAt w q P) := h
  clear h
  unfold endsV
  by_cases h1 : isG P.own.length f = true
  · by_cases h2 : isG P.own.length t = true
    · rw [if_neg (by simp [h1, h2])]
      by_cases h3 : f = t
      · rw [if_pos h3]
        go_enter Tryz.func85, Tryz.ntmps85
        go_wp2_with (go_at_call 42; refine (l6_guest _ _ P _ HP.out).mono ?_; rintro e x ⟨rfl, rfl⟩; first | rw [h1] | rw [h2])
        go_ret
        exact ⟨rfl, rfl⟩
      · rw [if_neg h3]
        go_enter Tryz.func85, Tryz.ntmps85
        go_wp2_with (go_at_call 42; refine (l6_guest _ _ P _ HP.out).mono ?_; rintro e x ⟨rfl, rfl⟩; first | rw [h1] | rw [h2])
        go_ret
        exact ⟨rfl, rfl⟩
    · rw [Bool.not_eq_true] at h2
      rw [if_pos (.inr h2)]
      go_enter Tryz.func85, Tryz.ntmps85
      go_wp2_with (go_at_call 42; refine (l6_guest _ _ P _ HP.out).mono ?_; rintro e x ⟨rfl, rfl⟩; first | rw [h1] | rw [h2])
      go_ret
      exact ⟨rfl, rfl⟩
  · rw [Bool.not_eq_true] at h1
    rw [if_pos (.inl h1)]
    go_enter Tryz.func85, Tryz.ntmps85
    go_wp2_with (go_at_call 42; refine (l6_guest _ _ P _ HP.out).mono ?_; rintro e x ⟨rfl, rfl⟩; rw [h1])
    go_ret
    exact ⟨rfl, rfl⟩
end Go.Proofs.YtmgninipaigjfaaGreatDoor
namespace Go.Proofs.YtmgninipaigjfaaGreatDoor
open Go.RowKit
set_option linter.unusedVariables false

theorem wp_appn {ops : Array Oper} {rest : List Oper} {o : Oper} {act : Act} {Q : Exit → Act → World → Prop} (w : World) (hgd : o.guard = none) (s x : Operand)
    (ho : o.op = .call { callee := .builtin .append, args := #[s, x], argTypes := #[28, 28] }) (base : Nat) (v : Value) (zs : List Int) (hs : act.eval s = v) (hN : Nums w base v zs)
    (B m c : Nat) (ys : List Int) (hx : act.eval x = .slice (some ⟨B, 0, none⟩) m c) (hy : ys.length = m) (hc : ∀ i, i < m → w.cell? ⟨B, i, none⟩ = some (.int .i64 (ys.getD i 0)))
    (hlen : zs.length + m ≤ 1000000000) (hbase : base ≤ w.heap.size)
    (h : ∀ v' w', Nums w' base v' (zs ++ ys) → w.grownBy w' v.ownBlock → wpList Tryz.prog ops Q rest (act.put o.dst v') w') : wpList Tryz.prog ops Q (o :: rest) act w := by
  obtain ⟨i, hi, hz0, hz1, hz2⟩ := info_parts info_i64
  refine wpList_append_own w hgd s x 28 ho base 2 i _ 1 8 Tryz.underlying28 hi hz0 hz1 hz2 rfl (by decide) v zs.length _ hs hN ⟨B, 0, none⟩ m c (ys.map (Value.int .i64)) hx (by simpa using hy) ?_ ?_ (by unfold maxLen; omega) (by omega) hbase ?_
  · intro j u hj
    have hjl : j < ys.length := by have := (List.getElem?_eq_some_iff.1 hj).1; simpa using this
    rw [List.getElem?_map, List.getElem?_eq_getElem hjl] at hj
    have := hc j (by omega)
    rw [List.getD, List.getElem?_eq_getElem hjl] at this
    rw [show (⟨B, 0, none⟩ : Addr).add j = ⟨B, j, none⟩ by rw [Addr.add_lit]; simp, this]
    exact hj
  · intro u hu
    obtain ⟨z, _, rfl⟩ := List.mem_map.1 hu
    rfl
  · intro v' w' hown hgrow _
    refine h v' w' ?_ hgrow
    unfold Nums
    rw [List.length_append, hy, List.map_append]
    exact hown

theorem nums_empty (w : World) (base : Nat) (hb : base ≤ w.heap.size) : Nums (w.alloc (.cells #[] 2)) base (.slice (some ⟨w.heap.size, 0, none⟩) 0 0) [] :=
  World.ownsRow_lit w #[] 0 hb (by decide) rfl
theorem one_at {w : World} {g : Nat} {z : Int} (h : w.cell? ⟨g, 0, none⟩ = some (.int .i64 z)) : ∀ i, i < 1 → w.cell? ⟨g, i, none⟩ = some (.int .i64 (([z] : List Int).getD i 0)) := by
  intro i hi
  obtain rfl : i = 0 := by omega
  exact h
end Go.Proofs.YtmgninipaigjfaaGreatDoor
namespace Go.Proofs.YtmgninipaigjfaaGreatDoor
open Go.RowKit
set_option linter.unusedVariables false

def SvN (n : Nat) (W : World) (q : Nat) (w' : World) : Prop := Mq (fun k => k = q) W w' ∧ w'.there q 0 n
theorem SvN.step {n : Nat} {W w w' : World} {q : Nat} (h : SvN n W q w) (hq : q < W.heap.size) (b : Below w.heap.size w w') : SvN n W q w' :=
  ⟨h.1.trans (Mq.of (below_grown b none) fun k e => by cases e), there_below h.2 (Nat.lt_of_lt_of_le hq h.1.size) b⟩
theorem SvN.set {n : Nat} {W w : World} {q : Nat} (h : SvN n W q w) (vs : List Value) : SvN n W q (w.setCells q 0 vs) := ⟨h.1.trans (mq_cells q vs w 0), World.there_setCells h.2 _ _ _⟩
end Go.Proofs.YtmgninipaigjfaaGreatDoor
namespace Go.Proofs.YtmgninipaigjfaaGreatDoor
open Go.RowKit
set_option linter.unusedVariables false

/-- A slice of slices of numbers, read alone. -/
def Sv (w : World) (v : Value) (oss : List (List Int)) : Prop :=
  (v = .slice none 0 0 ∧ oss = []) ∨ ∃ g cap, v = .slice (some ⟨g, 0, none⟩) oss.length cap ∧ oss.length ≤ cap ∧ cap ≤ maxLen ∧ ∀ i, i < oss.length → ∃ b l c, w.cell? ⟨g, i, none⟩ = some (.slice b l c) ∧ Rv w (.slice b l c) (oss.getD i [])
theorem Sv.keep {w w' : World} {v : Value} {oss : List (List Int)} (h : Sv w v oss) (b : Below w.heap.size w w') : Sv w' v oss := by
  rcases h with h | ⟨g, cap, h1, h2, h3, h4⟩
  · exact .inl h
  · exact .inr ⟨g, cap, h1, h2, h3, fun i hi => by obtain ⟨x, l, c, k1, k2⟩ := h4 i hi; exact ⟨x, l, c, cell_keep b k1, k2.stay b⟩⟩
theorem Sv.shape {w : World} {v : Value} {oss : List (List Int)} (h : Sv w v oss) : ∃ a cap, v = .slice a oss.length cap ∧ oss.length ≤ cap ∧ cap ≤ maxLen ∧ (0 < oss.length → ∃ g, a = some ⟨g, 0, none⟩) := by
  rcases h with ⟨rfl, rfl⟩ | ⟨g, cap, h1, h2, h3, _⟩
  · exact ⟨none, 0, rfl, Nat.le_refl _, by unfold maxLen; omega, fun h => by simp at h⟩
  · exact ⟨_, cap, h1, h2, h3, fun _ => ⟨g, rfl⟩⟩
theorem Sv.row {w : World} {g n cap : Nat} {oss : List (List Int)} (h : Sv w (.slice (some ⟨g, 0, none⟩) n cap) oss) (i : Nat) (hi : i < oss.length) : ∃ b l c, w.cell? ⟨g, i, none⟩ = some (.slice b l c) ∧ Rv w (.slice b l c) (oss.getD i []) := by
  rcases h with ⟨h, _⟩ | ⟨g', cap', h1, h2, h3, h4⟩
  · cases h
  · simp at h1
    obtain ⟨e1, e2, e3⟩ := h1
    subst e1 e2 e3
    exact h4 i hi
set_option maxRecDepth 20000 in
set_option maxHeartbeats 8000000 in
theorem eq_ssQ (v u : Value) (oss : List (List Int)) (w : World) (h : Sv w v oss) (k : Sv w u oss) :
    Calls Tryz.prog 13 #[v, u] w fun e w' => e = .returned (.bool true) ∧ Below w.heap.size w w' := by
  obtain ⟨a1, q1, hu, z1, l1, g1⟩ := h.shape
  obtain ⟨a2, q2, hv, _, l2, g2⟩ := k.shape
  subst hu hv
  obtain ⟨n, hn⟩ : ∃ n, oss.length = n := ⟨_, rfl⟩
  rw [hn] at h k g1 g2 z1 ⊢
  have HZ : Hid (Sv w (.slice a1 n q1) oss) := h
  have KZ : Hid (Sv w (.slice a2 n q2) oss) := k
  have HN : Hid (oss.length = n) := hn
  have G1 : Hid (0 < n → ∃ g, a1 = some ⟨g, 0, none⟩) := g1
  have G2 : Hid (0 < n → ∃ g, a2 = some ⟨g, 0, none⟩) := g2
  have hl : (n : Int) ≤ 9223372036854775807 := by unfold maxLen at l1; omega
  clear hn g1 g2 l1 l2 z1
  clear h k
  go_enter Tryz.func13, Tryz.ntmps13
  go_wp2_with fail
  go_loopw [5] (fun i wr => ∃ j : Nat, j ≤ n ∧ i = .int .i64 j ∧ Below w.heap.size w wr) (fun i _ => n - (intOf i).toNat)
  case atStart => exact ⟨0, Nat.zero_le _, rfl, Below.refl _ _⟩
  case round =>
    obtain ⟨j, hj, rfl, hB⟩ := hrel
    have HB : Hid (Below _ _ _) := hB
    by_cases hlt : j < n
    · obtain ⟨y1, e1⟩ := G1.out (by omega)
      obtain ⟨y2, e2⟩ := G2.out (by omega)
      subst e1 e2
      obtain ⟨x1, l1, c1, d1, m1⟩ := (HZ.out.keep hB).row j (by rw [HN.out]; exact hlt)
      obtain ⟨x2, l2, c2, d2, m2⟩ := (KZ.out.keep hB).row j (by rw [HN.out]; exact hlt)
      have M1 : Hid (Rv wr _ _) := m1
      have M2 : Hid (Rv wr _ _) := m2
      have hI : (j : Int) < (n : Int) := by omega
      have HL : Hid (j < n) := hlt
      have inh : Nonempty (BW wr) := ⟨⟨wr, Below.refl _ _⟩⟩
      have z1 := BW.cell d1
      have z2 := BW.cell d2
      have CE : ∀ p : BW wr, Calls Tryz.prog 14 #[.slice x1 l1 c1, .slice x2 l2 c2] p.w fun e w' => e = .returned (.bool true) ∧ Below p.w.heap.size p.w w' := fun p => eq_rn _ _ _ _ (M1.out.stay p.h) (M2.out.stay p.h)
      clear hB hlt m1 m2
      go_wp2_with fail
      refine region_bw (by kernel_rfl) ?_
      repeat (quiet_step ((go_at_call 14; exact calls_bw (CE _))))
      refine wpQuiet_nil ?_
      rintro _ ⟨p9, rfl⟩
      have B9 : Hid (Below w.heap.size w p9.w) := on HB.out p9.h
      go_wp2_with fail
      go_roundw
      case rel => exact ⟨j + 1, by have := HL.out; omega, by go_num, B9.out⟩
      case measure => have := HL.out; simp [intOf]; omega
    · have hI : ¬ (j : Int) < (n : Int) := by omega
      clear hB
      go_wp2_with fail
      go_ret
      exact ⟨rfl, HB.out⟩
/-- Machines in a list, read alone. -/
def Hv (w : World) (v : Value) (hs : List Ht) : Prop :=
  (v = .slice none 0 0 ∧ hs = []) ∨ ∃ g cap, v = .slice (some ⟨g, 0, none⟩) hs.length cap ∧ hs.length ≤ cap ∧ cap ≤ maxLen ∧ ∀ k, k < hs.length → ∃ r c i o, Hc w ⟨g, k * 9, none⟩ r c i o (hs.getD k voidH) ∧ Hr w r c i o (hs.getD k voidH)
theorem Hv.keep {w w' : World} {v : Value} {hs : List Ht} (h : Hv w v hs) (b : Below w.heap.size w w') : Hv w' v hs := by
  rcases h with h | ⟨g, cap, h1, h2, h3, h4⟩
  · exact .inl h
  · exact .inr ⟨g, cap, h1, h2, h3, fun k hk => by obtain ⟨r, c, i, o, k1, k2⟩ := h4 k hk; exact ⟨r, c, i, o, k1.stay b, k2.stay b⟩⟩
theorem Hv.shape {w : World} {v : Value} {hs : List Ht} (h : Hv w v hs) : ∃ a cap, v = .slice a hs.length cap ∧ hs.length ≤ cap ∧ cap ≤ maxLen ∧ (0 < hs.length → ∃ g, a = some ⟨g, 0, none⟩) := by
  rcases h with ⟨rfl, rfl⟩ | ⟨g, cap, h1, h2, h3, _⟩
  · exact ⟨none, 0, rfl, Nat.le_refl _, by unfold maxLen; omega, fun h => by simp at h⟩
  · exact ⟨_, cap, h1, h2, h3, fun _ => ⟨g, rfl⟩⟩
theorem Hv.at {w : World} {g n cap : Nat} {hs : List Ht} (h : Hv w (.slice (some ⟨g, 0, none⟩) n cap) hs) (k : Nat) (hk : k < hs.length) : ∃ r c i o, Hc w ⟨g, k * 9, none⟩ r c i o (hs.getD k voidH) ∧ Hr w r c i o (hs.getD k voidH) := by
  rcases h with ⟨h, _⟩ | ⟨g', cap', h1, h2, h3, h4⟩
  · cases h
  · simp at h1
    obtain ⟨e1, e2, e3⟩ := h1
    subst e1 e2 e3
    exact h4 k hk
set_option maxRecDepth 20000 in
set_option maxHeartbeats 8000000 in
theorem eq_hartsQ (u v : Value) (hs : List Ht) (w : World) (h : Hv w u hs) (k : Hv w v hs) :
    Calls Tryz.prog 56 #[u, v] w fun e w' => e = .returned (.bool true) ∧ Below w.heap.size w w' := by
  obtain ⟨a1, q1, hu, _, l1, g1⟩ := h.shape
  obtain ⟨a2, q2, hv, _, l2, g2⟩ := k.shape
  subst hu hv
  obtain ⟨n, hn⟩ : ∃ n, hs.length = n := ⟨_, rfl⟩
  rw [hn] at h k g1 g2 ⊢
  have HH : Hid (Hv w (.slice a1 n q1) hs) := h
  have HK : Hid (Hv w (.slice a2 n q2) hs) := k
  have HN : Hid (hs.length = n) := hn
  have G1 : Hid (0 < n → ∃ g, a1 = some ⟨g, 0, none⟩) := g1
  have G2 : Hid (0 < n → ∃ g, a2 = some ⟨g, 0, none⟩) := g2
  have hmax : (n : Int) ≤ 9223372036854775807 := by have hc := h.shape; obtain ⟨_, _, _, h1, h2, _⟩ := hc; rw [hn] at h1; unfold maxLen at h2; omega
  clear h k hn g1 g2 l1 l2
  go_enter Tryz.func56, Tryz.ntmps56
  go_wp2_with fail
  go_loopw [5] (fun c wr => ∃ j : Nat, j ≤ n ∧ c = .int .i64 j ∧ Below w.heap.size w wr) (fun c _ => n - (intOf c).toNat)
  case atStart => exact ⟨0, Nat.zero_le _, rfl, Below.refl _ _⟩
  case round =>
    obtain ⟨j, hj, rfl, hB⟩ := hrel
    have HB : Hid (Below w.heap.size w wr) := hB
    by_cases hlt : j < n
    · obtain ⟨x1, e1⟩ := G1.out (by omega)
      obtain ⟨x2, e2⟩ := G2.out (by omega)
      subst e1 e2
      obtain ⟨r, c, i, o, y1, y2⟩ := (HH.out.keep hB).at j (by rw [HN.out]; exact hlt)
      obtain ⟨r', c', i', o', z1, z2⟩ := (HK.out.keep hB).at j (by rw [HN.out]; exact hlt)
      obtain ⟨H, hH⟩ : ∃ H, hs.getD j voidH = H := ⟨_, rfl⟩
      rw [hH] at y1 y2 z1 z2
      obtain ⟨xr, lr, rfl, _⟩ := y2.r
      obtain ⟨xc, lc, rfl, _⟩ := y2.c
      obtain ⟨xi, li, rfl, _⟩ := y2.i
      obtain ⟨xo, lo, rfl, _⟩ := y2.o
      obtain ⟨zr, qr, rfl, _⟩ := z2.r
      obtain ⟨zc, qc, rfl, _⟩ := z2.c
      obtain ⟨zi, qi, rfl, _⟩ := z2.i
      obtain ⟨zo, qo, rfl, _⟩ := z2.o
      have Y2 : Hid (Hr wr _ _ _ _ H) := y2
      have Z2 : Hid (Hr wr _ _ _ _ H) := z2
      generalize H.regs.length = m0 at *
      generalize H.csr.length = m1 at *
      generalize H.inn.length = mi at *
      generalize H.out.length = mo at *
      have Y1 : Hid (Hc wr ⟨x1, j * 9, none⟩ _ _ _ _ H) := y1
      have Z1 : Hid (Hc wr ⟨x2, j * 9, none⟩ _ _ _ _ H) := z1
      have hI : (j : Int) < (n : Int) := by omega
      have HL : Hid (j < n) := hlt
      clear y1 y2 z1 z2 hB hH hlt
      go_wp2_with fail
      refine wp_region_held (S := fun w' => Below wr.heap.size wr w') (by kernel_rfl) ?_
      change wpAnyH _ _ _ _ _ _ _ _ (World.drew _)
      have SD : Hid (Below wr.heap.size wr wr.drew) := (Below.refl _ _).drew
      generalize wr.drew = x0 at *
      refine wpAnyH_take (i := 0) (v := .slice (some ⟨x1, 0, none⟩) n q1) rfl (by kernel_rfl) (by kernel_rfl) (by kernel_rfl) (fun _ _ _ h => h) (Or.inl ⟨by rfl, fun w' hs => by go_simp⟩) SD.out ?_
      change wpAnyH _ _ _ _ _ _ _ (Act.put _ (some 17) _) _
      simp only [Act.put, List.setIfInBounds_toArray, List.set_cons_zero, List.set_cons_succ]
      refine wpAnyH_take (i := 1) (v := .int .i64 (j : Int)) rfl (by kernel_rfl) (by kernel_rfl) (by kernel_rfl) (fun _ _ _ h => h) (Or.inl ⟨by rfl, fun w' hs => by go_simp⟩) SD.out ?_
      change wpAnyH _ _ _ _ _ _ _ (Act.put _ (some 18) _) _
      simp only [Act.put, List.setIfInBounds_toArray, List.set_cons_zero, List.set_cons_succ]
      refine wpAnyH_take (i := 2) (v := .pointer (some ⟨x1, j * 9, none⟩)) rfl (by kernel_rfl) (by kernel_rfl) (by kernel_rfl) (fun _ _ _ h => h) (Or.inl ⟨by rfl, fun w' hs => by go_simp⟩) SD.out ?_
      change wpAnyH _ _ _ _ _ _ _ (Act.put _ (some 19) _) _
      simp only [Act.put, List.setIfInBounds_toArray, List.set_cons_zero, List.set_cons_succ]
      refine wpAnyH_take (i := 3) (v := .agg #[.slice xr m0 lr, .int .i64 H.pc, .slice xc m1 lc, .bool H.halted, .bool H.waiting, .bool H.rung, .int .i64 H.done, .slice xi mi li, .slice xo mo lo]) rfl (by kernel_rfl) (by kernel_rfl) (by kernel_rfl) (fun _ _ _ h => h) (Or.inl ⟨by rfl, fun w' hs => by have hc := Y1.out.stay hs; have y0 := hc.c0; have y1 := hc.c1; have y2 := hc.c2; have y3 := hc.c3; have y4 := hc.c4; have y5 := hc.c5; have y6 := hc.c6; have y7 := hc.c7; have y8 := hc.c8; go_simp⟩) SD.out ?_
      change wpAnyH _ _ _ _ _ _ _ (Act.put _ (some 20) _) _
      simp only [Act.put, List.setIfInBounds_toArray, List.set_cons_zero, List.set_cons_succ]
      refine wpAnyH_take (i := 4) (v := .slice (some ⟨x2, 0, none⟩) n q2) rfl (by kernel_rfl) (by kernel_rfl) (by kernel_rfl) (fun _ _ _ h => h) (Or.inl ⟨by rfl, fun w' hs => by go_simp⟩) SD.out ?_
      change wpAnyH _ _ _ _ _ _ _ (Act.put _ (some 21) _) _
      simp only [Act.put, List.setIfInBounds_toArray, List.set_cons_zero, List.set_cons_succ]
      refine wpAnyH_take (i := 5) (v := .int .i64 (j : Int)) rfl (by kernel_rfl) (by kernel_rfl) (by kernel_rfl) (fun _ _ _ h => h) (Or.inl ⟨by rfl, fun w' hs => by go_simp⟩) SD.out ?_
      change wpAnyH _ _ _ _ _ _ _ (Act.put _ (some 22) _) _
      simp only [Act.put, List.setIfInBounds_toArray, List.set_cons_zero, List.set_cons_succ]
      refine wpAnyH_take (i := 6) (v := .pointer (some ⟨x2, j * 9, none⟩)) rfl (by kernel_rfl) (by kernel_rfl) (by kernel_rfl) (fun _ _ _ h => h) (Or.inl ⟨by rfl, fun w' hs => by go_simp⟩) SD.out ?_
      change wpAnyH _ _ _ _ _ _ _ (Act.put _ (some 23) _) _
      simp only [Act.put, List.setIfInBounds_toArray, List.set_cons_zero, List.set_cons_succ]
      refine wpAnyH_take (i := 7) (v := .agg #[.slice zr m0 qr, .int .i64 H.pc, .slice zc m1 qc, .bool H.halted, .bool H.waiting, .bool H.rung, .int .i64 H.done, .slice zi mi qi, .slice zo mo qo]) rfl (by kernel_rfl) (by kernel_rfl) (by kernel_rfl) (fun _ _ _ h => h) (Or.inl ⟨by rfl, fun w' hs => by have hc := Z1.out.stay hs; have y0 := hc.c0; have y1 := hc.c1; have y2 := hc.c2; have y3 := hc.c3; have y4 := hc.c4; have y5 := hc.c5; have y6 := hc.c6; have y7 := hc.c7; have y8 := hc.c8; go_simp⟩) SD.out ?_
      change wpAnyH _ _ _ _ _ _ _ (Act.put _ (some 24) _) _
      simp only [Act.put, List.setIfInBounds_toArray, List.set_cons_zero, List.set_cons_succ]
      refine wpAnyH_ready (rs := [8]) (by kernel_rfl) (by simp) ?_
      refine AllReadyH.cons rfl (fun K hK => ?_) AllReadyH.nil
      rw [if_pos (by rfl)]
      go_simp
      refine (eqr_hart _ _ _ _ _ _ _ _ H _ (Y2.out.stay SD.out) (Z2.out.stay SD.out)).mono ?_
      rintro e w2 ⟨rfl, b2⟩
      have S2 : Hid (Below wr.heap.size wr w2) := on SD.out b2
      clear b2
      refine hK.out _ _ S2.out (fun _ => ?_)
      clear hK K
      refine wpAnyH_take (i := 9) (v := .bool false) rfl (by kernel_rfl) (by kernel_rfl) (by kernel_rfl) (fun _ _ _ h => h) (Or.inl ⟨by rfl, fun w' hs => by go_simp⟩) S2.out ?_
      change wpAnyH _ _ _ _ _ _ _ (Act.put _ (some 26) _) _
      simp only [Act.put, List.setIfInBounds_toArray, List.set_cons_zero, List.set_cons_succ]
      refine wpAnyH_done (by kernel_rfl) ?_ _
      have B2 : Hid (Below w.heap.size w w2) := on HB.out S2.out
      clear SD S2 Y1 Y2 Z1 Z2
      go_wp2_with fail
      go_roundw
      case rel => exact ⟨j + 1, by have := HL.out; omega, by go_num, B2.out⟩
      case measure => have := HL.out; simp [intOf]; omega
    · have hJ : ¬ (j : Int) < (n : Int) := by omega
      clear hlt
      go_wp2_with fail
      go_ret
      exact ⟨rfl, hB⟩
/-- A host that is read alone. -/
structure Hq (w : World) (b : Nat) (v0 v1 v2 v3 v4 v5 : Value) (X : Hst) : Prop where
  own : Sv w v0 X.pol.own
  lanes : Ls 86 w b v1 X.pol.lanes
  bells : Prs 90 w b v2 X.pol.bells
  plan : Prs 79 w b v3 X.pol.plan
  mem : Rv w v4 X.mem
  harts : Hv w v5 X.harts
theorem Hq.keep {w w' : World} {b : Nat} {v0 v1 v2 v3 v4 v5 : Value} {X : Hst} (h : Hq w b v0 v1 v2 v3 v4 v5 X) (B : Below w.heap.size w w') : Hq w' b v0 v1 v2 v3 v4 v5 X :=
  ⟨h.own.keep B, h.lanes.keep B, h.bells.keep B, h.plan.keep B, h.mem.stay B, h.harts.keep B⟩
set_option maxRecDepth 20000 in
set_option maxHeartbeats 8000000 in
theorem eq_policyQ (v0 v1 v2 v3 u0 u1 u2 u3 : Value) (P : Plc) (b c : Nat) (w : World) (h0 : Sv w v0 P.own) (h1 : Ls 86 w b v1 P.lanes) (h2 : Prs 90 w b v2 P.bells) (h3 : Prs 79 w b v3 P.plan) (k0 : Sv w u0 P.own) (k1 : Ls 86 w c u1 P.lanes) (k2 : Prs 90 w c u2 P.bells) (k3 : Prs 79 w c u3 P.plan) :
    Calls Tryz.prog 12 #[.agg #[v0, v1, v2, v3], .agg #[u0, u1, u2, u3]] w fun e w' => e = .returned (.bool true) ∧ Below w.heap.size w w' := by
  obtain ⟨xa0, xc0, e0, _⟩ := h0.shape
  obtain ⟨xa1, xc1, e1, _⟩ := h1.shape
  obtain ⟨xa2, xc2, e2, _⟩ := h2.shape
  obtain ⟨xa3, xc3, e3, _⟩ := h3.shape
  obtain ⟨ya0, yc0, f0, _⟩ := k0.shape
  obtain ⟨ya1, yc1, f1, _⟩ := k1.shape
  obtain ⟨ya2, yc2, f2, _⟩ := k2.shape
  obtain ⟨ya3, yc3, f3, _⟩ := k3.shape
  subst e0 e1 e2 e3 f0 f1 f2 f3
  obtain ⟨n0, hn0⟩ : ∃ n, P.own.length = n := ⟨_, rfl⟩
  obtain ⟨n1, hn1⟩ : ∃ n, P.lanes.length = n := ⟨_, rfl⟩
  obtain ⟨n2, hn2⟩ : ∃ n, P.bells.length = n := ⟨_, rfl⟩
  obtain ⟨n3, hn3⟩ : ∃ n, P.plan.length = n := ⟨_, rfl⟩
  rw [hn0] at h0 k0
  rw [hn1] at h1 k1
  rw [hn2] at h2 k2
  rw [hn3] at h3 k3
  rw [hn0, hn1, hn2, hn3]
  clear hn0 hn1 hn2 hn3
  generalize hW : (w.alloc (.cells #[.slice xa0 n0 xc0, .slice xa1 n1 xc1, .slice xa2 n2 xc2, .slice xa3 n3 xc3] 35)).alloc (.cells #[.slice ya0 n0 yc0, .slice ya1 n1 yc1, .slice ya2 n2 yc2, .slice ya3 n3 yc3] 35) = W
  have B0 : Hid (Below w.heap.size w W) := by show Below _ _ _; rw [← hW]; exact al (al (Below.refl _ _) _) _
  obtain ⟨s, hS⟩ : ∃ s, w.heap.size = s := ⟨_, rfl⟩
  have z1 : s + 1 = (w.alloc (.cells #[.slice xa0 n0 xc0, .slice xa1 n1 xc1, .slice xa2 n2 xc2, .slice xa3 n3 xc3] 35)).heap.size := by rw [← hS]; simp
  have Q : Hid (Vb W s #[.slice xa0 n0 xc0, .slice xa1 n1 xc1, .slice xa2 n2 xc2, .slice xa3 n3 xc3] 35) := by show Vb _ _ _ _; rw [← hW, ← hS]; exact (Vb.new _ _ _).push _
  have K : Hid (Vb W (s + 1) #[.slice ya0 n0 yc0, .slice ya1 n1 yc1, .slice ya2 n2 yc2, .slice ya3 n3 yc3] 35) := by show Vb _ _ _ _; rw [← hW, z1]; exact Vb.new _ _ _
  have H0 : Hid (Sv W _ P.own ∧ Sv W _ P.own) := ⟨h0.keep B0.out, k0.keep B0.out⟩
  have H1 : Hid (Ls 86 W b _ P.lanes ∧ Ls 86 W c _ P.lanes) := ⟨h1.keep B0.out, k1.keep B0.out⟩
  have H2 : Hid (Prs 90 W b _ P.bells ∧ Prs 90 W c _ P.bells) := ⟨h2.keep B0.out, k2.keep B0.out⟩
  have H3 : Hid (Prs 79 W b _ P.plan ∧ Prs 79 W c _ P.plan) := ⟨h3.keep B0.out, k3.keep B0.out⟩
  clear h0 h1 h2 h3 k0 k1 k2 k3 z1
  have q0 := Q.out.cell 0 rfl
  have s0 := K.out.cell 0 rfl
  go_enter Tryz.func12, Tryz.ntmps12
  go_wp2_with fail
  clear hW hS q0 s0
  refine (eq_ssQ _ _ _ _ H0.out.1 H0.out.2).mono ?_
  rintro e w1 ⟨rfl, b1⟩
  have q1 := (Q.out.keep b1).cell 1 rfl
  have s1 := (K.out.keep b1).cell 1 rfl
  go_wp2_with fail
  clear q1 s1
  refine (eq_lanes _ _ _ _ _ _ (H1.out.1.keep b1) (H1.out.2.keep b1)).mono ?_
  rintro e w2 ⟨rfl, b2'⟩
  have b2 := on b1 b2'
  clear b1 b2'
  have q2 := (Q.out.keep b2).cell 2 rfl
  have s2 := (K.out.keep b2).cell 2 rfl
  go_wp2_with fail
  clear q2 s2
  refine (eq_bells _ _ _ _ _ _ (H2.out.1.keep b2) (H2.out.2.keep b2)).mono ?_
  rintro e w3 ⟨rfl, b3'⟩
  have b3 := on b2 b3'
  clear b2 b3'
  have q3 := (Q.out.keep b3).cell 3 rfl
  have s3 := (K.out.keep b3).cell 3 rfl
  go_wp2_with fail
  clear q3 s3
  refine (eq_slots _ _ _ _ _ _ (H3.out.1.keep b3) (H3.out.2.keep b3)).mono ?_
  rintro e w4 ⟨rfl, b4⟩
  go_wp2_with fail
  go_ret
  exact ⟨rfl, on B0.out (on b3 b4)⟩
set_option maxRecDepth 20000 in
set_option maxHeartbeats 8000000 in
theorem eq_hostQ (v0 v1 v2 v3 v4 v5 u0 u1 u2 u3 u4 u5 : Value) (X : Hst) (b b' : Nat) (w : World) (d : Hq w b v0 v1 v2 v3 v4 v5 X) (d' : Hq w b' u0 u1 u2 u3 u4 u5 X) :
    Calls Tryz.prog 32 #[.agg #[v0, v1, v2, v3, v4, v5, .int .i64 X.slot, .int .i64 X.left, .int .i64 X.clock], .agg #[u0, u1, u2, u3, u4, u5, .int .i64 X.slot, .int .i64 X.left, .int .i64 X.clock]] w fun e w' => e = .returned (.bool true) ∧ Below w.heap.size w w' := by
  obtain ⟨xa0, xc0, e0, _⟩ := d.own.shape
  obtain ⟨ya0, yc0, f0, _⟩ := d'.own.shape
  obtain ⟨xa1, xc1, e1, _⟩ := d.lanes.shape
  obtain ⟨ya1, yc1, f1, _⟩ := d'.lanes.shape
  obtain ⟨xa2, xc2, e2, _⟩ := d.bells.shape
  obtain ⟨ya2, yc2, f2, _⟩ := d'.bells.shape
  obtain ⟨xa3, xc3, e3, _⟩ := d.plan.shape
  obtain ⟨ya3, yc3, f3, _⟩ := d'.plan.shape
  obtain ⟨xa4, xc4, e4, _⟩ := d.mem
  obtain ⟨ya4, yc4, f4, _⟩ := d'.mem
  obtain ⟨xa5, xc5, e5, _⟩ := d.harts.shape
  obtain ⟨ya5, yc5, f5, _⟩ := d'.harts.shape
  subst e0 e1 e2 e3 e4 e5 f0 f1 f2 f3 f4 f5
  obtain ⟨n0, hn0⟩ : ∃ n, X.pol.own.length = n := ⟨_, rfl⟩
  obtain ⟨n1, hn1⟩ : ∃ n, X.pol.lanes.length = n := ⟨_, rfl⟩
  obtain ⟨n2, hn2⟩ : ∃ n, X.pol.bells.length = n := ⟨_, rfl⟩
  obtain ⟨n3, hn3⟩ : ∃ n, X.pol.plan.length = n := ⟨_, rfl⟩
  obtain ⟨n4, hn4⟩ : ∃ n, X.mem.length = n := ⟨_, rfl⟩
  obtain ⟨n5, hn5⟩ : ∃ n, X.harts.length = n := ⟨_, rfl⟩
  rw [hn0, hn1, hn2, hn3, hn4, hn5] at d d' ⊢
  clear hn0 hn1 hn2 hn3 hn4 hn5
  have D : Hid (Hq w b _ _ _ _ _ _ X) := d
  have D' : Hid (Hq w b' _ _ _ _ _ _ X) := d'
  clear d d'
  generalize hW : (w.alloc (.cells #[.slice xa0 n0 xc0, .slice xa1 n1 xc1, .slice xa2 n2 xc2, .slice xa3 n3 xc3, .slice xa4 n4 xc4, .slice xa5 n5 xc5, .int .i64 X.slot, .int .i64 X.left, .int .i64 X.clock] 38)).alloc (.cells #[.slice ya0 n0 yc0, .slice ya1 n1 yc1, .slice ya2 n2 yc2, .slice ya3 n3 yc3, .slice ya4 n4 yc4, .slice ya5 n5 yc5, .int .i64 X.slot, .int .i64 X.left, .int .i64 X.clock] 38) = W
  have B0 : Hid (Below w.heap.size w W) := by show Below _ _ _; rw [← hW]; exact al (al (Below.refl _ _) _) _
  obtain ⟨s, hS⟩ : ∃ s, w.heap.size = s := ⟨_, rfl⟩
  have Q : Hid (Vb W s #[.slice xa0 n0 xc0, .slice xa1 n1 xc1, .slice xa2 n2 xc2, .slice xa3 n3 xc3, .slice xa4 n4 xc4, .slice xa5 n5 xc5, .int .i64 X.slot, .int .i64 X.left, .int .i64 X.clock] 38) := by show Vb _ _ _ _; rw [← hW, ← hS]; exact (Vb.new _ _ _).push _
  have R : Hid (Vb W (s + 1) #[.slice ya0 n0 yc0, .slice ya1 n1 yc1, .slice ya2 n2 yc2, .slice ya3 n3 yc3, .slice ya4 n4 yc4, .slice ya5 n5 yc5, .int .i64 X.slot, .int .i64 X.left, .int .i64 X.clock] 38) := by
    have z1 : s + 1 = (w.alloc (.cells #[.slice xa0 n0 xc0, .slice xa1 n1 xc1, .slice xa2 n2 xc2, .slice xa3 n3 xc3, .slice xa4 n4 xc4, .slice xa5 n5 xc5, .int .i64 X.slot, .int .i64 X.left, .int .i64 X.clock] 38)).heap.size := by rw [← hS]; simp
    show Vb _ _ _ _; rw [← hW, z1]; exact Vb.new _ _ _
  have q0 := Q.out.cell 0 rfl
  have q1 := Q.out.cell 1 rfl
  have q2 := Q.out.cell 2 rfl
  have q3 := Q.out.cell 3 rfl
  have r0 := R.out.cell 0 rfl
  have r1 := R.out.cell 1 rfl
  have r2 := R.out.cell 2 rfl
  have r3 := R.out.cell 3 rfl
  have E : Hid (Hq W b _ _ _ _ _ _ X ∧ Hq W b' _ _ _ _ _ _ X) := ⟨D.out.keep B0.out, D'.out.keep B0.out⟩
  clear D D'
  go_enter Tryz.func32, Tryz.ntmps32
  go_wp2_with fail
  clear hW hS q0 r0 q1 r1 q2 r2 q3 r3
  refine (eq_policyQ _ _ _ _ _ _ _ _ X.pol _ _ _ E.out.1.own E.out.1.lanes E.out.1.bells E.out.1.plan E.out.2.own E.out.2.lanes E.out.2.bells E.out.2.plan).mono ?_
  rintro e w1 ⟨rfl, b1⟩
  have B1 : Hid (Below W.heap.size W w1) := b1
  have q4 := (Q.out.keep b1).cell 4 rfl
  have r4 := (R.out.keep b1).cell 4 rfl
  clear b1
  go_wp2_with fail
  clear q4 r4
  refine (eq_rn _ _ X.mem _ (E.out.1.mem.stay B1.out) (E.out.2.mem.stay B1.out)).mono ?_
  rintro e w2 ⟨rfl, b2⟩
  have B2 : Hid (Below W.heap.size W w2) := on B1.out b2
  have q5 := (Q.out.keep B2.out).cell 5 rfl
  have r5 := (R.out.keep B2.out).cell 5 rfl
  clear b2
  go_wp2_with fail
  clear q5 r5
  refine (eq_hartsQ _ _ X.harts _ (E.out.1.harts.keep B2.out) (E.out.2.harts.keep B2.out)).mono ?_
  rintro e w3 ⟨rfl, b3⟩
  have B3 : Hid (Below W.heap.size W w3) := on B2.out b3
  clear b3
  have q6 := (Q.out.keep B3.out).cell 6 rfl
  have q7 := (Q.out.keep B3.out).cell 7 rfl
  have q8 := (Q.out.keep B3.out).cell 8 rfl
  have r6 := (R.out.keep B3.out).cell 6 rfl
  have r7 := (R.out.keep B3.out).cell 7 rfl
  have r8 := (R.out.keep B3.out).cell 8 rfl
  go_wp2_with fail
  go_ret
  exact ⟨rfl, on B0.out B3.out⟩
set_option maxRecDepth 20000 in
set_option maxHeartbeats 8000000 in
theorem eq_hostRQ (z : Int) (v0 v1 v2 v3 v4 v5 u0 u1 u2 u3 u4 u5 : Value) (X : Hst) (b b' : Nat) (w : World) (d : Hq w b v0 v1 v2 v3 v4 v5 X) (d' : Hq w b' u0 u1 u2 u3 u4 u5 X) :
    Calls Tryz.prog 11 #[.agg #[.int .i64 z, v0, v1, v2, v3, v4, v5, .int .i64 X.slot, .int .i64 X.left, .int .i64 X.clock], .agg #[.int .i64 z, u0, u1, u2, u3, u4, u5, .int .i64 X.slot, .int .i64 X.left, .int .i64 X.clock]] w fun e w' => e = .returned (.bool true) ∧ Below w.heap.size w w' := by
  obtain ⟨xa0, xc0, e0, _⟩ := d.own.shape
  obtain ⟨ya0, yc0, f0, _⟩ := d'.own.shape
  obtain ⟨xa1, xc1, e1, _⟩ := d.lanes.shape
  obtain ⟨ya1, yc1, f1, _⟩ := d'.lanes.shape
  obtain ⟨xa2, xc2, e2, _⟩ := d.bells.shape
  obtain ⟨ya2, yc2, f2, _⟩ := d'.bells.shape
  obtain ⟨xa3, xc3, e3, _⟩ := d.plan.shape
  obtain ⟨ya3, yc3, f3, _⟩ := d'.plan.shape
  obtain ⟨xa4, xc4, e4, _⟩ := d.mem
  obtain ⟨ya4, yc4, f4, _⟩ := d'.mem
  obtain ⟨xa5, xc5, e5, _⟩ := d.harts.shape
  obtain ⟨ya5, yc5, f5, _⟩ := d'.harts.shape
  subst e0 e1 e2 e3 e4 e5 f0 f1 f2 f3 f4 f5
  obtain ⟨n0, hn0⟩ : ∃ n, X.pol.own.length = n := ⟨_, rfl⟩
  obtain ⟨n1, hn1⟩ : ∃ n, X.pol.lanes.length = n := ⟨_, rfl⟩
  obtain ⟨n2, hn2⟩ : ∃ n, X.pol.bells.length = n := ⟨_, rfl⟩
  obtain ⟨n3, hn3⟩ : ∃ n, X.pol.plan.length = n := ⟨_, rfl⟩
  obtain ⟨n4, hn4⟩ : ∃ n, X.mem.length = n := ⟨_, rfl⟩
  obtain ⟨n5, hn5⟩ : ∃ n, X.harts.length = n := ⟨_, rfl⟩
  rw [hn0, hn1, hn2, hn3, hn4, hn5] at d d' ⊢
  clear hn0 hn1 hn2 hn3 hn4 hn5
  have D : Hid (Hq w b _ _ _ _ _ _ X) := d
  have D' : Hid (Hq w b' _ _ _ _ _ _ X) := d'
  clear d d'
  generalize hW : (w.alloc (.cells #[.int .i64 z, .slice xa0 n0 xc0, .slice xa1 n1 xc1, .slice xa2 n2 xc2, .slice xa3 n3 xc3, .slice xa4 n4 xc4, .slice xa5 n5 xc5, .int .i64 X.slot, .int .i64 X.left, .int .i64 X.clock] 40)).alloc (.cells #[.int .i64 z, .slice ya0 n0 yc0, .slice ya1 n1 yc1, .slice ya2 n2 yc2, .slice ya3 n3 yc3, .slice ya4 n4 yc4, .slice ya5 n5 yc5, .int .i64 X.slot, .int .i64 X.left, .int .i64 X.clock] 40) = W
  have B0 : Hid (Below w.heap.size w W) := by show Below _ _ _; rw [← hW]; exact al (al (Below.refl _ _) _) _
  obtain ⟨s, hS⟩ : ∃ s, w.heap.size = s := ⟨_, rfl⟩
  have Q : Hid (Vb W s #[.int .i64 z, .slice xa0 n0 xc0, .slice xa1 n1 xc1, .slice xa2 n2 xc2, .slice xa3 n3 xc3, .slice xa4 n4 xc4, .slice xa5 n5 xc5, .int .i64 X.slot, .int .i64 X.left, .int .i64 X.clock] 40) := by show Vb _ _ _ _; rw [← hW, ← hS]; exact (Vb.new _ _ _).push _
  have R : Hid (Vb W (s + 1) #[.int .i64 z, .slice ya0 n0 yc0, .slice ya1 n1 yc1, .slice ya2 n2 yc2, .slice ya3 n3 yc3, .slice ya4 n4 yc4, .slice ya5 n5 yc5, .int .i64 X.slot, .int .i64 X.left, .int .i64 X.clock] 40) := by
    have z1 : s + 1 = (w.alloc (.cells #[.int .i64 z, .slice xa0 n0 xc0, .slice xa1 n1 xc1, .slice xa2 n2 xc2, .slice xa3 n3 xc3, .slice xa4 n4 xc4, .slice xa5 n5 xc5, .int .i64 X.slot, .int .i64 X.left, .int .i64 X.clock] 40)).heap.size := by rw [← hS]; simp
    show Vb _ _ _ _; rw [← hW, z1]; exact Vb.new _ _ _
  have E : Hid (Hq W b _ _ _ _ _ _ X ∧ Hq W b' _ _ _ _ _ _ X) := ⟨D.out.keep B0.out, D'.out.keep B0.out⟩
  clear D D'
  have q0 := Q.out.cell 0 rfl
  have r0 := R.out.cell 0 rfl
  have q1 := Q.out.cell 1 rfl
  have r1 := R.out.cell 1 rfl
  have q2 := Q.out.cell 2 rfl
  have r2 := R.out.cell 2 rfl
  have q3 := Q.out.cell 3 rfl
  have r3 := R.out.cell 3 rfl
  have q4 := Q.out.cell 4 rfl
  have r4 := R.out.cell 4 rfl
  have q5 := Q.out.cell 5 rfl
  have r5 := R.out.cell 5 rfl
  have q6 := Q.out.cell 6 rfl
  have r6 := R.out.cell 6 rfl
  have q7 := Q.out.cell 7 rfl
  have r7 := R.out.cell 7 rfl
  have q8 := Q.out.cell 8 rfl
  have r8 := R.out.cell 8 rfl
  have q9 := Q.out.cell 9 rfl
  have r9 := R.out.cell 9 rfl
  go_enter Tryz.func11, Tryz.ntmps11
  go_wp2_with fail
  clear hW hS q0 r0 q1 r1 q2 r2 q3 r3 q4 r4 q5 r5 q6 r6 q7 r7 q8 r8 q9 r9
  refine (eq_hostQ _ _ _ _ _ _ _ _ _ _ _ _ X _ _ _ E.out.1 E.out.2).mono ?_
  rintro e w1 ⟨rfl, b1⟩
  go_wp2_with fail
  go_ret
  exact ⟨rfl, on B0.out b1⟩
end Go.Proofs.YtmgninipaigjfaaGreatDoor
