/- Texts of this seat, joined. -/
import Derived.Deep.RegionHeld3
import Derived.Deep.WholeRow
import Derived.Lib.BufferMore
import Derived.Test.YtadkhognlapckaaGreatDoorQ26
namespace Go.Proofs.YtadkhognlapckaaGreatDoor
open Go.RowKit
set_option linter.unusedVariables false

/-- A policy that came in. -/
structure Pin (w : World) (a0 : Option Addr) (n0 c0 : Nat) (a1 : Option Addr) (n1 c1 : Nat) (a2 : Option Addr) (n2 c2 : Nat) (a3 : Option Addr) (n3 c3 : Nat) (P : Plc) : Prop where
  own : IsSS w a0 n0 c0 P.own
  lanes : IsLanes w a1 n1 c1 P.lanes
  bells : IsPairs w a2 n2 c2 P.bells
  plan : IsPairs w a3 n3 c3 P.plan
theorem Pin.stay {w w' : World} {a0 a1 a2 a3 : Option Addr} {n0 c0 n1 c1 n2 c2 n3 c3 : Nat} {P : Plc} (h : Pin w a0 n0 c0 a1 n1 c1 a2 n2 c2 a3 n3 c3 P) (b : Below w.heap.size w w') : Pin w' a0 n0 c0 a1 n1 c1 a2 n2 c2 a3 n3 c3 P :=
  ⟨h.own.stay b, h.lanes.stay b, h.bells.stay b, h.plan.stay b⟩
/-- How great a policy that came in may be. -/
structure Small (n0 n1 n2 n3 : Nat) (P : Plc) : Prop where
  own : n0 ≤ 1048576
  each : ∀ i, i < n0 → (P.own.getD i []).length ≤ 1048576
  lanes : n1 ≤ 1048576
  bells : n2 ≤ 1048576
  plan : n3 ≤ 1048576

theorem lim {n c : Nat} (h : n ≤ c ∧ c ≤ maxLen) : n ≤ 9223372036854775807 := by have := h; unfold maxLen at this; omega

set_option maxHeartbeats 2000000 in
theorem sz_policy (a0 a1 a2 a3 : Option Addr) (n0 c0 n1 c1 n2 c2 n3 c3 : Nat) (P : Plc) (w : World) (h : Pin w a0 n0 c0 a1 n1 c1 a2 n2 c2 a3 n3 c3 P) :
    Calls Tryz.prog 4 #[.agg #[.slice a0 n0 c0, .slice a1 n1 c1, .slice a2 n2 c2, .slice a3 n3 c3], .int .i64 1048576] w fun e w' => (∃ r : Int, e = .returned (.int .i64 r) ∧ r ≤ 1048576 ∧ (0 ≤ r → Small n0 n1 n2 n3 P)) ∧ Below w.heap.size w w' := by
  have HO : Hid (IsSS (w.alloc (.cells #[.slice a0 n0 c0, .slice a1 n1 c1, .slice a2 n2 c2, .slice a3 n3 c3] 27)) a0 n0 c0 P.own) := h.own.stay (al (Below.refl _ _) _)
  have L1 : Hid (n1 ≤ 9223372036854775807) := lim h.lanes.cap
  have L2 : Hid (n2 ≤ 9223372036854775807) := lim h.bells.cap
  have L3 : Hid (n3 ≤ 9223372036854775807) := lim h.plan.cap
  clear h
  go_enter Tryz.func4, Tryz.ntmps4
  go_wp2_with fail
  refine (sz_ss _ _ _ _ _ _ HO.out (by decide) (by decide)).mono ?_
  rintro e w1 ⟨⟨r0, rfl, hr0, hs0⟩, rfl⟩
  by_cases h0 : r0 < 0
  · go_wp2_with fail
    go_ret
    exact ⟨⟨-1, rfl, by omega, fun h => by omega⟩, al (Below.refl _ _) _⟩
  have SS : Hid _ := hs0 (by omega)
  have E0 : Hid (0 ≤ r0 ∧ r0 ≤ 1048576) := ⟨by omega, hr0⟩
  clear hs0
  by_cases h1 : r0 - n1 < 0
  · have H1 : Hid (r0 - n1 < 0) := h1
    go_wp2_with fail
    refine (sz_lanes _ _ _ _ _ L1.out E0.out.1 E0.out.2).mono ?_
    rintro e w2 ⟨rfl, rfl⟩
    rw [if_pos H1.out]
    go_wp2_with fail
    go_ret
    exact ⟨⟨-1, rfl, by omega, fun h => by omega⟩, al (Below.refl _ _) _⟩
  have H1 : Hid (¬ r0 - n1 < 0) := h1
  have E1 : Hid (0 ≤ r0 - n1 ∧ r0 - n1 ≤ 1048576) := ⟨by omega, by omega⟩
  have e1 : 0 ≤ r0 - n1 := E1.out.1
  by_cases h2 : r0 - n1 - n2 < 0
  · have H2 : Hid (r0 - n1 - n2 < 0) := h2
    go_wp2_with fail
    refine (sz_lanes _ _ _ _ _ L1.out E0.out.1 E0.out.2).mono ?_
    rintro e w2 ⟨rfl, rfl⟩
    rw [if_neg (by have := H1.out; omega)]
    go_wp2_with fail
    refine (sz_bells _ _ _ _ _ L2.out E1.out.1 E1.out.2).mono ?_
    rintro e w2 ⟨rfl, rfl⟩
    rw [if_pos H2.out]
    go_wp2_with fail
    go_ret
    exact ⟨⟨-1, rfl, by omega, fun h => by omega⟩, al (Below.refl _ _) _⟩
  have H2 : Hid (¬ r0 - n1 - n2 < 0) := h2
  have E2 : Hid (0 ≤ r0 - n1 - n2 ∧ r0 - n1 - n2 ≤ 1048576) := ⟨by omega, by omega⟩
  have e2 : 0 ≤ r0 - n1 - n2 := E2.out.1
  by_cases h3 : r0 - n1 - n2 - n3 < 0
  · have H3 : Hid (r0 - n1 - n2 - n3 < 0) := h3
    go_wp2_with fail
    refine (sz_lanes _ _ _ _ _ L1.out E0.out.1 E0.out.2).mono ?_
    rintro e w2 ⟨rfl, rfl⟩
    rw [if_neg (by have := H1.out; omega)]
    go_wp2_with fail
    refine (sz_bells _ _ _ _ _ L2.out E1.out.1 E1.out.2).mono ?_
    rintro e w2 ⟨rfl, rfl⟩
    rw [if_neg (by have := H2.out; omega)]
    go_wp2_with fail
    refine (sz_slots _ _ _ _ _ L3.out E2.out.1 E2.out.2).mono ?_
    rintro e w2 ⟨rfl, rfl⟩
    rw [if_pos H3.out]
    go_wp2_with fail
    go_ret
    exact ⟨⟨-1, rfl, by omega, fun h => by omega⟩, al (Below.refl _ _) _⟩
  have H3 : Hid (¬ r0 - n1 - n2 - n3 < 0) := h3
  have e3 : 0 ≤ r0 - n1 - n2 - n3 := by omega
  have SM : Hid (Small n0 n1 n2 n3 P) := ⟨SS.out.1, SS.out.2, by omega, by omega, by omega⟩
  have hb : Hid (r0 - n1 - n2 - n3 ≤ 1048576) := by show _ ≤ _; omega
  go_wp2_with fail
  refine (sz_lanes _ _ _ _ _ L1.out E0.out.1 E0.out.2).mono ?_
  rintro e w2 ⟨rfl, rfl⟩
  rw [if_neg (by have := H1.out; omega)]
  go_wp2_with fail
  refine (sz_bells _ _ _ _ _ L2.out E1.out.1 E1.out.2).mono ?_
  rintro e w2 ⟨rfl, rfl⟩
  rw [if_neg (by have := H2.out; omega)]
  go_wp2_with fail
  refine (sz_slots _ _ _ _ _ L3.out E2.out.1 E2.out.2).mono ?_
  rintro e w2 ⟨rfl, rfl⟩
  rw [if_neg (by have := H3.out; omega)]
  go_wp2_with fail
  go_ret
  exact ⟨⟨_, rfl, hb.out, fun _ => SM.out⟩, al (Below.refl _ _) _⟩

/-- A policy that was made. -/
structure Mde (w : World) (base g0 g1 g2 g3 n0 n1 n2 n3 : Nat) (P : Plc) : Prop where
  own : SSo w base g0 n0 P.own
  lanes : Ls 82 w base (.slice (some ⟨g1, 0, none⟩) n1 n1) P.lanes
  bells : Prs 117 w base (.slice (some ⟨g2, 0, none⟩) n2 n2) P.bells
  plan : Prs 121 w base (.slice (some ⟨g3, 0, none⟩) n3 n3) P.plan
theorem Mde.keep {w w' : World} {base g0 g1 g2 g3 n0 n1 n2 n3 : Nat} {P : Plc} (h : Mde w base g0 g1 g2 g3 n0 n1 n2 n3 P) (b : Below w.heap.size w w') : Mde w' base g0 g1 g2 g3 n0 n1 n2 n3 P :=
  ⟨h.own.keep b, h.lanes.keep b, h.bells.keep b, h.plan.keep b⟩
theorem Mde.pl {w : World} {base g0 g1 g2 g3 n0 n1 n2 n3 : Nat} {P : Plc} (h : Mde w base g0 g1 g2 g3 n0 n1 n2 n3 P) : Pl w (some ⟨g0, 0, none⟩) n0 n0 (some ⟨g1, 0, none⟩) n1 n1 (some ⟨g2, 0, none⟩) n2 n2 (some ⟨g3, 0, none⟩) n3 n3 P :=
  ⟨h.own.read, h.lanes.read, h.bells.read, h.plan.read⟩
theorem SSo.mono {w : World} {base base' g n : Nat} {oss : List (List Int)} (h : SSo w base g n oss) (hb : base' ≤ base) : SSo w base' g n oss :=
  ⟨h.len, h.small, Nat.le_trans hb h.low, fun i hi => by
    obtain ⟨x, l, c, k1, k2⟩ := h.row i hi
    exact ⟨x, l, c, k1, k2.mono hb⟩⟩
theorem Ls.mono {e : TypeId} {w : World} {base base' : Nat} {v : Value} {rs : List Ln} (h : Ls e w base v rs) (hb : base' ≤ base) : Ls e w base' v rs := by
  obtain ⟨h1, h2 | ⟨g, cap, cur, hv, hg, hr⟩⟩ := h
  · exact ⟨h1, .inl h2⟩
  · exact ⟨h1, .inr ⟨g, cap, cur, hv, Nat.le_trans hb hg, hr⟩⟩
set_option maxHeartbeats 4000000 in
theorem eq_policy (g0 g1 g2 g3 k0 k1 k2 k3 n0 n1 n2 n3 : Nat) (P : Plc) (b c : Nat) (w : World) (h : Mde w b g0 g1 g2 g3 n0 n1 n2 n3 P) (k : Mde w c k0 k1 k2 k3 n0 n1 n2 n3 P) :
    Calls Tryz.prog 11 #[.agg #[.slice (some ⟨g0, 0, none⟩) n0 n0, .slice (some ⟨g1, 0, none⟩) n1 n1, .slice (some ⟨g2, 0, none⟩) n2 n2, .slice (some ⟨g3, 0, none⟩) n3 n3],
      .agg #[.slice (some ⟨k0, 0, none⟩) n0 n0, .slice (some ⟨k1, 0, none⟩) n1 n1, .slice (some ⟨k2, 0, none⟩) n2 n2, .slice (some ⟨k3, 0, none⟩) n3 n3]] w fun e w' => e = .returned (.bool true) ∧ Below w.heap.size w w' := by
  generalize hW : (w.alloc (.cells #[.slice (some ⟨g0, 0, none⟩) n0 n0, .slice (some ⟨g1, 0, none⟩) n1 n1, .slice (some ⟨g2, 0, none⟩) n2 n2, .slice (some ⟨g3, 0, none⟩) n3 n3] 46)).alloc (.cells #[.slice (some ⟨k0, 0, none⟩) n0 n0, .slice (some ⟨k1, 0, none⟩) n1 n1, .slice (some ⟨k2, 0, none⟩) n2 n2, .slice (some ⟨k3, 0, none⟩) n3 n3] 46) = W
  have B0 : Hid (Below w.heap.size w W) := by show Below _ _ _; rw [← hW]; exact al (al (Below.refl _ _) _) _
  have Q : Hid (W.cell? ⟨w.heap.size, 0, none⟩ = some (.slice (some ⟨g0, 0, none⟩) n0 n0) ∧ W.cell? ⟨w.heap.size, 1, none⟩ = some (.slice (some ⟨g1, 0, none⟩) n1 n1) ∧ W.cell? ⟨w.heap.size, 2, none⟩ = some (.slice (some ⟨g2, 0, none⟩) n2 n2) ∧ W.cell? ⟨w.heap.size, 3, none⟩ = some (.slice (some ⟨g3, 0, none⟩) n3 n3)) := by
    show _ ∧ _
    rw [← hW]
    exact ⟨cell_push _ (cell_new rfl), cell_push _ (cell_new rfl), cell_push _ (cell_new rfl), cell_push _ (cell_new rfl)⟩
  have K : Hid (W.cell? ⟨w.heap.size + 1, 0, none⟩ = some (.slice (some ⟨k0, 0, none⟩) n0 n0) ∧ W.cell? ⟨w.heap.size + 1, 1, none⟩ = some (.slice (some ⟨k1, 0, none⟩) n1 n1) ∧ W.cell? ⟨w.heap.size + 1, 2, none⟩ = some (.slice (some ⟨k2, 0, none⟩) n2 n2) ∧ W.cell? ⟨w.heap.size + 1, 3, none⟩ = some (.slice (some ⟨k3, 0, none⟩) n3 n3)) := by
    show _ ∧ _
    rw [← hW]
    simp
  have HM : Hid (Mde W b g0 g1 g2 g3 n0 n1 n2 n3 P) := h.keep B0.out
  have KM : Hid (Mde W c k0 k1 k2 k3 n0 n1 n2 n3 P) := k.keep B0.out
  clear h k
  have q0 := Q.out.1
  have s0 := K.out.1
  go_enter Tryz.func11, Tryz.ntmps11
  go_wp2_with fail
  clear hW
  refine (eq_ss _ _ _ _ _ _ _ HM.out.own KM.out.own).mono ?_
  rintro e w1 ⟨rfl, b1⟩
  have q1 := cell_keep b1 Q.out.2.1
  have s1 := cell_keep b1 K.out.2.1
  go_wp2_with fail
  refine (eq_lanes _ _ _ _ _ _ (HM.out.lanes.keep b1) (KM.out.lanes.keep b1)).mono ?_
  rintro e w2 ⟨rfl, b2⟩
  have b2 := on b1 b2
  have q2 := cell_keep b2 Q.out.2.2.1
  have s2 := cell_keep b2 K.out.2.2.1
  go_wp2_with fail
  refine (eq_bells _ _ _ _ _ _ (HM.out.bells.keep b2) (KM.out.bells.keep b2)).mono ?_
  rintro e w3 ⟨rfl, b3⟩
  have b3 := on b2 b3
  have q3 := cell_keep b3 Q.out.2.2.2
  have s3 := cell_keep b3 K.out.2.2.2
  go_wp2_with fail
  refine (eq_slots _ _ _ _ _ _ (HM.out.plan.keep b3) (KM.out.plan.keep b3)).mono ?_
  rintro e w4 ⟨rfl, b4⟩
  go_wp2_with fail
  go_ret
  exact ⟨rfl, on B0.out (on b3 b4)⟩

/-- From one world to another: blocks from base on stay. -/
structure Hi (base : Nat) (w w' : World) : Prop where
  size : w.heap.size ≤ w'.heap.size
  block : ∀ k, base ≤ k → k < w.heap.size → w'.heap[k]? = w.heap[k]?
theorem Hi.refl (base : Nat) (w : World) : Hi base w w := ⟨Nat.le_refl _, fun _ _ _ => rfl⟩
theorem Hi.trans {base : Nat} {a b c : World} (h : Hi base a b) (k : Hi base b c) : Hi base a c :=
  ⟨Nat.le_trans h.size k.size, fun i hb hi => (k.block i hb (Nat.lt_of_lt_of_le hi h.size)).trans (h.block i hb hi)⟩
theorem Hi.of {base : Nat} {w w' : World} (h : Below w.heap.size w w') : Hi base w w' := ⟨h.size, fun k _ hk => h.block k hk⟩
theorem Hi.set {base : Nat} (w : World) (p : Addr) (u : Value) (h : p.block < base) : Hi base w (w.setCell p u) :=
  ⟨(grown_set w p u).size, fun k hb hk => (grown_set w p u).block k hk (fun e => by cases e; omega)⟩
theorem cell_hi {base : Nat} {w w' : World} (H : Hi base w w') {p : Addr} {v : Value} (hp : base ≤ p.block) (h : w.cell? p = some v) : w'.cell? p = some v := by
  have hb := block_of_cell h
  unfold World.cell? at *
  rw [H.block _ hp hb]
  exact h
theorem row_hi {base e sz n : Nat} {v : Value} {w w' : World} {xs : List Value} (h : w.ownsRow base e sz v n xs) (H : Hi base w w') : w'.ownsRow base e sz v n xs := by
  obtain ⟨h1, h2 | ⟨g, cap, cur, hv, hg, hr, rest⟩⟩ := h
  · exact ⟨h1, .inl h2⟩
  · refine ⟨h1, .inr ⟨g, cap, cur, hv, hg, ?_, rest⟩⟩
    rw [H.block g hg ((Array.getElem?_eq_some_iff.1 hr).1)]
    exact hr
theorem SSo.hi {w w' : World} {base g n : Nat} {oss : List (List Int)} (h : SSo w base g n oss) (H : Hi base w w') : SSo w' base g n oss :=
  ⟨h.len, h.small, h.low, fun i hi => by
    obtain ⟨x, l, c, k1, k2⟩ := h.row i hi
    exact ⟨x, l, c, cell_hi H h.low k1, row_hi k2 H⟩⟩

theorem fz_new (w : World) (cs : Array Value) (t : TypeId) (i : Nat) : (w.alloc (.cells cs t)).frozen? ⟨w.heap.size, i, none⟩ = false := by simp
theorem fz_old (w : World) (o : Obj) (p : Addr) (hp : p.block < w.heap.size) (h : w.frozen? p = false) : (w.alloc o).frozen? p = false := by
  rw [World.frozen?_alloc_old _ _ p (Nat.ne_of_lt hp)]; exact h
/-- What toPolicy has under way: the policy that came in (A), the answer's place, and what is made so far (x). -/
structure Stt (v : World) (s : Nat) (A x : Nat → Value) : Prop where
  A : ∀ i, i < 4 → v.cell? ⟨s, i, none⟩ = some (A i)
  O : ∀ i, i < 4 → v.cell? ⟨s + 1 + 1, i, none⟩ = some (x i) ∧ v.frozen? ⟨s + 1 + 1, i, none⟩ = false
  R : ∀ i, i < 4 → v.cell? ⟨s + 1, i, none⟩ = some (.slice none 0 0) ∧ v.frozen? ⟨s + 1, i, none⟩ = false
  lt : s + 1 + 1 < v.heap.size
theorem Stt.keep {v v' : World} {s : Nat} {A x : Nat → Value} (h : Stt v s A x) (b : Below v.heap.size v v') : Stt v' s A x :=
  ⟨fun i hi => cell_keep b (h.A i hi),
   fun i hi => ⟨cell_keep b (h.O i hi).1, by rw [b.frozen (p := ⟨s + 1 + 1, i, none⟩) h.lt]; exact (h.O i hi).2⟩,
   fun i hi => ⟨cell_keep b (h.R i hi).1, by rw [b.frozen (p := ⟨s + 1, i, none⟩) (by have := h.lt; show s + 1 < _; omega)]; exact (h.R i hi).2⟩,
   Nat.lt_of_lt_of_le h.lt b.size⟩
theorem Stt.put {v : World} {s : Nat} {A x : Nat → Value} (h : Stt v s A x) (j : Nat) (hj : j < 4) (u : Value) : Stt (v.setCell ⟨s + 1 + 1, j, none⟩ u) s A (fun i => if i = j then u else x i) := by
  refine ⟨fun i hi => ?_, fun i hi => ⟨?_, by rw [World.frozen?_setCell]; exact (h.O i hi).2⟩, fun i hi => ⟨?_, by rw [World.frozen?_setCell]; exact (h.R i hi).2⟩, Nat.lt_of_lt_of_le h.lt (grown_set v _ u).size⟩
  · rw [World.cell?_setCell_other _ _ _ _ (by intro e; have := congrArg Addr.block e; simp at this; omega)]
    exact h.A i hi
  · by_cases e : i = j
    · subst e
      rw [if_pos rfl]
      exact World.cell?_setCell_same _ _ _ (h.O i hi).1
    · rw [if_neg e, World.cell?_setCell_other _ _ _ _ (by intro h; cases h; exact e rfl)]
      exact (h.O i hi).1
  · rw [World.cell?_setCell_other _ _ _ _ (by intro e; have := congrArg Addr.block e; simp at this)]
    exact (h.R i hi).1
theorem row_up {base base' e sz n : Nat} {v : Value} {w : World} {xs : List Value} (h : w.ownsRow base e sz v n xs) (hb : base' ≤ base) : w.ownsRow base' e sz v n xs := by
  obtain ⟨h1, h2 | ⟨g, cap, cur, hv, hg, hr⟩⟩ := h
  · exact ⟨h1, .inl h2⟩
  · exact ⟨h1, .inr ⟨g, cap, cur, hv, Nat.le_trans hb hg, hr⟩⟩

set_option maxHeartbeats 4000000 in
theorem to_policy (a0 a1 a2 a3 : Option Addr) (n0 c0 n1 c1 n2 c2 n3 c3 : Nat) (P : Plc) (w : World) (h : Pin w a0 n0 c0 a1 n1 c1 a2 n2 c2 a3 n3 c3 P) (hs : Small n0 n1 n2 n3 P) :
    Calls Tryz.prog 7 #[.agg #[.slice a0 n0 c0, .slice a1 n1 c1, .slice a2 n2 c2, .slice a3 n3 c3]] w fun e w' => ∃ g0 g1 g2 g3, e = .returned (.agg #[.slice (some ⟨g0, 0, none⟩) n0 n0, .slice (some ⟨g1, 0, none⟩) n1 n1, .slice (some ⟨g2, 0, none⟩) n2 n2, .slice (some ⟨g3, 0, none⟩) n3 n3]) ∧
      Mde w' w.heap.size g0 g1 g2 g3 n0 n1 n2 n3 P ∧ Below w.heap.size w w' := by
  have HS : Hid (Small n0 n1 n2 n3 P) := hs
  have HP : Hid (Pin w a0 n0 c0 a1 n1 c1 a2 n2 c2 a3 n3 c3 P) := h
  clear h hs
  generalize hW : ((w.alloc (.cells #[.slice a0 n0 c0, .slice a1 n1 c1, .slice a2 n2 c2, .slice a3 n3 c3] 27)).alloc (.cells #[.slice none 0 0, .slice none 0 0, .slice none 0 0, .slice none 0 0] 46)).alloc (.cells #[.slice none 0 0, .slice none 0 0, .slice none 0 0, .slice none 0 0] 46) = W
  have B0 : Hid (Below w.heap.size w W) := by show Below _ _ _; rw [← hW]; exact al (al (al (Below.refl _ _) _) _) _
  have SZ : Hid (W.heap.size = w.heap.size + 3) := by show _ = _; rw [← hW]; simp
  obtain ⟨s, hS⟩ : ∃ s, w.heap.size = s := ⟨_, rfl⟩
  have HSs : Hid (w.heap.size = s) := hS
  have S0 : Hid (Stt W s (fun i => match i with | 0 => .slice a0 n0 c0 | 1 => .slice a1 n1 c1 | 2 => .slice a2 n2 c2 | _ => .slice a3 n3 c3) (fun _ => .slice none 0 0)) := by
    have z1 : s + 1 = (w.alloc (.cells #[.slice a0 n0 c0, .slice a1 n1 c1, .slice a2 n2 c2, .slice a3 n3 c3] 27)).heap.size := by rw [← hS]; simp
    have z2 : s + 1 + 1 = ((w.alloc (.cells #[.slice a0 n0 c0, .slice a1 n1 c1, .slice a2 n2 c2, .slice a3 n3 c3] 27)).alloc (.cells #[.slice none 0 0, .slice none 0 0, .slice none 0 0, .slice none 0 0] 46)).heap.size := by rw [← hS]; simp
    have four : ∀ i : Nat, i < 4 → i = 0 ∨ i = 1 ∨ i = 2 ∨ i = 3 := fun i hi => by omega
    refine ⟨fun i hi => ?_, fun i hi => ?_, fun i hi => ?_, by rw [SZ.out, hS]; omega⟩
    · rw [← hW, ← hS]
      rcases four i hi with rfl | rfl | rfl | rfl <;> exact cell_push _ (cell_push _ (cell_new rfl))
    · rw [← hW, z2]
      rcases four i hi with rfl | rfl | rfl | rfl <;> exact ⟨cell_new rfl, fz_new _ _ _ _⟩
    · rw [← hW, z1]
      rcases four i hi with rfl | rfl | rfl | rfl <;> exact ⟨cell_push _ (cell_new rfl), fz_old _ _ _ (by simp) (fz_new _ _ _ _)⟩
  have a0' := S0.out.A 0 (by omega)
  go_enter Tryz.func7, Tryz.ntmps7
  go_wp2_with fail
  clear hW a0'
  refine (to_ss _ _ _ _ _ (HP.out.own.stay B0.out) HS.out.own HS.out.each).mono ?_
  rintro e w1 ⟨g0, rfl, m0, b1⟩
  have S1 := S0.out.keep b1
  have S1' := S1.put 0 (by omega) (.slice (some ⟨g0, 0, none⟩) n0 n0)
  have o1 := (S1.O 0 (by omega)).1
  have f1 := (S1.O 0 (by omega)).2
  have t1 := S1'.A 1 (by omega)
  simp only at t1
  have M0 : Hid (SSo w1 (s + 3) g0 n0 P.own) := m0.mono (by have := SZ.out; have := HSs.out; omega)
  have V1 : Hid (Below w.heap.size w (w1.setCell ⟨s + 1 + 1, 0, none⟩ (.slice (some ⟨g0, 0, none⟩) n0 n0))) := (on B0.out b1).setCell (by have := HSs.out; show w.heap.size ≤ s + 1 + 1; omega) _
  have H1 : Hid (Hi (s + 3) w1 (w1.setCell ⟨s + 1 + 1, 0, none⟩ (.slice (some ⟨g0, 0, none⟩) n0 n0))) := Hi.set _ _ _ (by show s + 1 + 1 < s + 3; omega)
  have Z1 : Hid (s + 3 ≤ (w1.setCell ⟨s + 1 + 1, 0, none⟩ (.slice (some ⟨g0, 0, none⟩) n0 n0)).heap.size) := by have := S1'.lt; show _ ≤ _; omega
  have SS1 : Hid (Stt _ s _ _) := S1'
  clear S1 S1' m0 b1
  go_wp2_with fail
  generalize w1.setCell ⟨s + 1 + 1, 0, none⟩ (.slice (some ⟨g0, 0, none⟩) n0 n0) = v1 at *
  clear o1 f1 t1
  refine (to_lanes _ _ _ _ _ (HP.out.lanes.stay V1.out) HS.out.lanes).mono ?_
  rintro e w2 ⟨g1, rfl, m1, b2⟩
  have S2 := SS1.out.keep b2
  have S2' := S2.put 1 (by omega) (.slice (some ⟨g1, 0, none⟩) n1 n1)
  have o1 := (S2.O 1 (by omega)).1
  have f1 := (S2.O 1 (by omega)).2
  have t1 := S2'.A 2 (by omega)
  simp only at t1
  have M1 : Hid (Ls 82 w2 (s + 3) (.slice (some ⟨g1, 0, none⟩) n1 n1) P.lanes) := row_up m1 Z1.out
  have V2 : Hid (Below w.heap.size w (w2.setCell ⟨s + 1 + 1, 1, none⟩ (.slice (some ⟨g1, 0, none⟩) n1 n1))) := (on V1.out b2).setCell (by have := HSs.out; show w.heap.size ≤ s + 1 + 1; omega) _
  have H2 : Hid (Hi (s + 3) w2 (w2.setCell ⟨s + 1 + 1, 1, none⟩ (.slice (some ⟨g1, 0, none⟩) n1 n1))) := Hi.set _ _ _ (by show s + 1 + 1 < s + 3; omega)
  have H12 : Hid (Hi (s + 3) w1 w2) := H1.out.trans (Hi.of b2)
  have Z2 : Hid (s + 3 ≤ (w2.setCell ⟨s + 1 + 1, 1, none⟩ (.slice (some ⟨g1, 0, none⟩) n1 n1)).heap.size) := by have := S2'.lt; show _ ≤ _; omega
  have SS2 : Hid (Stt _ s _ _) := S2'
  clear S2 S2' m1 b2
  go_wp2_with fail
  generalize w2.setCell ⟨s + 1 + 1, 1, none⟩ (.slice (some ⟨g1, 0, none⟩) n1 n1) = v2 at *
  clear o1 f1 t1
  refine (to_bells _ _ _ _ _ (HP.out.bells.stay V2.out) HS.out.bells).mono ?_
  rintro e w3 ⟨g2, rfl, m2, b3⟩
  have S3 := SS2.out.keep b3
  have S3' := S3.put 2 (by omega) (.slice (some ⟨g2, 0, none⟩) n2 n2)
  have o1 := (S3.O 2 (by omega)).1
  have f1 := (S3.O 2 (by omega)).2
  have t1 := S3'.A 3 (by omega)
  simp only at t1
  have M2 : Hid (Prs 117 w3 (s + 3) (.slice (some ⟨g2, 0, none⟩) n2 n2) P.bells) := row_up m2 Z2.out
  have V3 : Hid (Below w.heap.size w (w3.setCell ⟨s + 1 + 1, 2, none⟩ (.slice (some ⟨g2, 0, none⟩) n2 n2))) := (on V2.out b3).setCell (by have := HSs.out; show w.heap.size ≤ s + 1 + 1; omega) _
  have H3 : Hid (Hi (s + 3) w3 (w3.setCell ⟨s + 1 + 1, 2, none⟩ (.slice (some ⟨g2, 0, none⟩) n2 n2))) := Hi.set _ _ _ (by show s + 1 + 1 < s + 3; omega)
  have H23 : Hid (Hi (s + 3) w2 w3) := H2.out.trans (Hi.of b3)
  have Z3 : Hid (s + 3 ≤ (w3.setCell ⟨s + 1 + 1, 2, none⟩ (.slice (some ⟨g2, 0, none⟩) n2 n2)).heap.size) := by have := S3'.lt; show _ ≤ _; omega
  have SS3 : Hid (Stt _ s _ _) := S3'
  clear S3 S3' m2 b3
  go_wp2_with fail
  generalize w3.setCell ⟨s + 1 + 1, 2, none⟩ (.slice (some ⟨g2, 0, none⟩) n2 n2) = v3 at *
  clear o1 f1 t1
  refine (to_slots _ _ _ _ _ (HP.out.plan.stay V3.out) HS.out.plan).mono ?_
  rintro e w4 ⟨g3, rfl, m3, b4⟩
  have S4 := SS3.out.keep b4
  have S4' := S4.put 3 (by omega) (.slice (some ⟨g3, 0, none⟩) n3 n3)
  have o1 := (S4.O 3 (by omega)).1
  have f1 := (S4.O 3 (by omega)).2
  have p0 := (S4'.O 0 (by omega)).1
  have p1 := (S4'.O 1 (by omega)).1
  have p2 := (S4'.O 2 (by omega)).1
  have p3 := (S4'.O 3 (by omega)).1
  simp only [reduceIte, Nat.reduceEqDiff] at p0 p1 p2 p3
  obtain ⟨r0, y0⟩ := S4'.R 0 (by omega)
  obtain ⟨r1, y1⟩ := S4'.R 1 (by omega)
  obtain ⟨r2, y2⟩ := S4'.R 2 (by omega)
  obtain ⟨r3, y3⟩ := S4'.R 3 (by omega)
  have M3 : Hid (Prs 121 w4 (s + 3) (.slice (some ⟨g3, 0, none⟩) n3 n3) P.plan) := row_up m3 Z3.out
  have V4 : Hid (Below w.heap.size w (w4.setCell ⟨s + 1 + 1, 3, none⟩ (.slice (some ⟨g3, 0, none⟩) n3 n3))) := (on V3.out b4).setCell (by have := HSs.out; show w.heap.size ≤ s + 1 + 1; omega) _
  have H4 : Hid (Hi (s + 3) w4 (w4.setCell ⟨s + 1 + 1, 3, none⟩ (.slice (some ⟨g3, 0, none⟩) n3 n3))) := Hi.set _ _ _ (by show s + 1 + 1 < s + 3; omega)
  have H34 : Hid (Hi (s + 3) w3 w4) := H3.out.trans (Hi.of b4)
  clear S4 S4' m3 b4
  go_wp2_with fail
  have F : Hid (Below w.heap.size w _ ∧ Hi (s + 3) w4 _) := ⟨(((V4.out.setCell (p := ⟨s + 1, 0, none⟩) (by have := HSs.out; show w.heap.size ≤ s + 1; omega) (.slice (some ⟨g0, 0, none⟩) n0 n0)).setCell (p := ⟨s + 1, 1, none⟩) (by have := HSs.out; show w.heap.size ≤ s + 1; omega) (.slice (some ⟨g1, 0, none⟩) n1 n1)).setCell (p := ⟨s + 1, 2, none⟩) (by have := HSs.out; show w.heap.size ≤ s + 1; omega) (.slice (some ⟨g2, 0, none⟩) n2 n2)).setCell (p := ⟨s + 1, 3, none⟩) (by have := HSs.out; show w.heap.size ≤ s + 1; omega) (.slice (some ⟨g3, 0, none⟩) n3 n3),
    (((H4.out.trans (Hi.set _ ⟨s + 1, 0, none⟩ (.slice (some ⟨g0, 0, none⟩) n0 n0) (by show s + 1 < s + 3; omega))).trans (Hi.set _ ⟨s + 1, 1, none⟩ (.slice (some ⟨g1, 0, none⟩) n1 n1) (by show s + 1 < s + 3; omega))).trans (Hi.set _ ⟨s + 1, 2, none⟩ (.slice (some ⟨g2, 0, none⟩) n2 n2) (by show s + 1 < s + 3; omega))).trans (Hi.set _ ⟨s + 1, 3, none⟩ (.slice (some ⟨g3, 0, none⟩) n3 n3) (by show s + 1 < s + 3; omega))⟩
  refine bodyPost_ret (v := .agg #[.slice (some ⟨g0, 0, none⟩) n0 n0, .slice (some ⟨g1, 0, none⟩) n1 n1, .slice (some ⟨g2, 0, none⟩) n2 n2, .slice (some ⟨g3, 0, none⟩) n3 n3]) (by simp [results, Tryz.results7, go_sem, r0, r1, r2, r3]) rfl
    ⟨g0, g1, g2, g3, rfl, ⟨(M0.out.hi (H12.out.trans (H23.out.trans (H34.out.trans F.out.2)))).mono (by have := HSs.out; omega), row_up (row_hi M1.out (H23.out.trans (H34.out.trans F.out.2))) (by have := HSs.out; omega), row_up (row_hi M2.out (H34.out.trans F.out.2)) (by have := HSs.out; omega), row_up (row_hi M3.out F.out.2) (by have := HSs.out; omega)⟩, F.out.1⟩
end Go.Proofs.YtadkhognlapckaaGreatDoor
namespace Go.Proofs.YtadkhognlapckaaGreatDoor
open Go.RowKit
set_option linter.unusedVariables false

theorem add_block (x : Addr) (i : Nat) : (x.add i).block = x.block := by unfold Addr.add; split <;> rfl
theorem Rn.mq {S : Nat → Prop} {w w' : World} {a : Option Addr} {len cap : Nat} {zs : List Int} (h : Rn w a len cap zs) (m : Mq S w w') (hn : ∀ x, a = some x → x.block < w.heap.size → ¬ S x.block) : Rn w' a len cap zs := by
  rcases h with h | ⟨x, rfl, h1, h2, h3, h4⟩
  · exact .inl h
  · refine .inr ⟨x, rfl, h1, h2, h3, fun i hi => ?_⟩
    have hc := h4 i hi
    have hl : x.block < w.heap.size := by have := World.block_lt_of_cell? w (x.add i) hc; rwa [add_block] at this
    rw [← hc]
    exact World.cell?_of_block (a := x.add i) (by rw [add_block]; exact m.block x.block hl (hn x rfl hl))
theorem Rv.mq {S : Nat → Prop} {w w' : World} {v : Value} {zs : List Int} (h : Rv w v zs) (m : Mq S w w') (hn : ∀ k, v.ownBlock = some k → k < w.heap.size → ¬ S k) : Rv w' v zs := by
  obtain ⟨a, cap, rfl, h2⟩ := h
  exact ⟨a, cap, rfl, h2.mq m fun x e hl => hn x.block (by rw [e]; rfl) hl⟩
/-- A machine whose four lists are read alone. -/
structure Hr (w : World) (r c i o : Value) (H : Ht) : Prop where
  r : Rv w r H.regs
  c : Rv w c H.csr
  i : Rv w i H.inn
  o : Rv w o H.out
theorem Hr.stay {w w' : World} {r c i o : Value} {H : Ht} (h : Hr w r c i o H) (b : Below w.heap.size w w') : Hr w' r c i o H := ⟨h.r.stay b, h.c.stay b, h.i.stay b, h.o.stay b⟩
theorem Hm.hr {w : World} {base : Nat} {r c i o : Value} {H : Ht} (h : Hm w base r c i o H) : Hr w r c i o H := ⟨h.r.rv, h.c.rv, h.i.rv, h.o.rv⟩
theorem Hr.mq {S : Nat → Prop} {w w' : World} {r c i o : Value} {H : Ht} (h : Hr w r c i o H) (m : Mq S w w') (hn : ∀ k, Own4 r c i o k → k < w.heap.size → ¬ S k) : Hr w' r c i o H :=
  ⟨h.r.mq m fun k e => hn k (.inl e), h.c.mq m fun k e => hn k (.inr (.inl e)), h.i.mq m fun k e => hn k (.inr (.inr (.inl e))), h.o.mq m fun k e => hn k (.inr (.inr (.inr e)))⟩

set_option maxHeartbeats 1000000 in
theorem eq_rn (v u : Value) (zs : List Int) (w : World) (h : Rv w v zs) (k : Rv w u zs) :
    Calls Tryz.prog 50 #[v, u] w fun e w' => e = .returned (.bool true) ∧ Below w.heap.size w w' := by
  obtain ⟨a, cap, rfl, h1⟩ := h
  obtain ⟨a', cap', rfl, k1⟩ := k
  have hl : (zs.length : Int) ≤ 9223372036854775807 := by have := h1.cap; unfold maxLen at this; omega
  have HZ : Hid (Rn w a zs.length cap zs) := h1
  have KZ : Hid (Rn w a' zs.length cap' zs) := k1
  clear h1 k1
  obtain ⟨n, hn⟩ : ∃ n, zs.length = n := ⟨_, rfl⟩
  rw [hn] at HZ KZ hl ⊢
  clear hn
  go_enter Tryz.func50, Tryz.ntmps50
  go_wp2_with fail
  go_loopw [5] (fun i wr => ∃ j : Nat, j ≤ n ∧ i = .int .i64 j ∧ Below w.heap.size w wr) (fun i _ => n - (intOf i).toNat)
  case atStart => exact ⟨0, Nat.zero_le _, rfl, Below.refl _ _⟩
  case round =>
    obtain ⟨j, hj, rfl, hB⟩ := hrel
    have HB : Hid (Below _ _ _) := hB
    by_cases hlt : j < n
    · obtain ⟨x, rfl, c1⟩ := HZ.out.at j hlt
      obtain ⟨y, rfl, c2⟩ := KZ.out.at j hlt
      have c1' := cell_keep hB c1
      have c2' := cell_keep hB c2
      have hI : (j : Int) < (n : Int) := by omega
      have HL : Hid (j < n) := hlt
      clear hB hlt c1 c2
      go_wp2_with fail
      go_quiet (fail)
      go_wp2_with fail
      go_roundw
      case rel => exact ⟨j + 1, by have := HL.out; omega, by go_num, dr HB.out _⟩
      case measure => have := HL.out; simp [intOf]; omega
    · have hI : ¬ (j : Int) < (n : Int) := by omega
      clear hB
      go_wp2_with fail
      go_ret
      exact ⟨rfl, HB.out⟩
end Go.Proofs.YtadkhognlapckaaGreatDoor
namespace Go.Proofs.YtadkhognlapckaaGreatDoor
open Go.RowKit
set_option linter.unusedVariables false

theorem Nums.apt {w w' : World} {base base' : Nat} {v u : Value} {zs ys : List Int} (h : Nums w base v zs) (k : Nums w' base' u ys) (hb : w.heap.size ≤ base') : Apt v u := own_ne h k hb

theorem Mq.refl (S : Nat → Prop) (w : World) : Mq S w w := ⟨rfl, rfl, rfl, Nat.le_refl _, fun _ _ _ => rfl⟩
theorem Mq.set {S : Nat → Prop} {a w : World} (m : Mq S a w) (p : Addr) (u : Value) (hp : S p.block) : Mq S a (w.setCell p u) := m.trans (Mq.of (grown_set w p u) fun k e => by cases e; exact hp)
theorem Mq.ho {S : Nat → Prop} {base : Nat} {w w' : World} (m : Mq S w w') (h : ∀ k, S k → k < base) : Ho base w w' := ⟨m.size, fun k hb hk => m.block k hk fun e => by have := h k e; omega⟩
theorem Mq.under {S : Nat → Prop} {a w w' : World} (b : Below a.heap.size a w) (m : Mq S w w') (h : ∀ k, S k → a.heap.size ≤ k) : Below a.heap.size a w' := Mq.below b m h
/-- A machine, and an answer with one, that is stored whole. -/
theorem nine {v : World} {q : Nat} {t : TypeId} {z0 z1 z2 z3 z4 z5 z6 z7 z8 : Value} (h : Vb v q #[z0, z1, z2, z3, z4, z5, z6, z7, z8] t) (u0 u1 u2 u3 u4 u5 u6 u7 u8 : Value) :
    Vb (((((((((v.setCell ⟨q, 0, none⟩ u0).setCell ⟨q, 1, none⟩ u1).setCell ⟨q, 2, none⟩ u2).setCell ⟨q, 3, none⟩ u3).setCell ⟨q, 4, none⟩ u4).setCell ⟨q, 5, none⟩ u5).setCell ⟨q, 6, none⟩ u6).setCell ⟨q, 7, none⟩ u7).setCell ⟨q, 8, none⟩ u8) q #[u0, u1, u2, u3, u4, u5, u6, u7, u8] t ∧ Mq (fun k => k = q) v (((((((((v.setCell ⟨q, 0, none⟩ u0).setCell ⟨q, 1, none⟩ u1).setCell ⟨q, 2, none⟩ u2).setCell ⟨q, 3, none⟩ u3).setCell ⟨q, 4, none⟩ u4).setCell ⟨q, 5, none⟩ u5).setCell ⟨q, 6, none⟩ u6).setCell ⟨q, 7, none⟩ u7).setCell ⟨q, 8, none⟩ u8) := by
  have h0 : Vb (v.setCell ⟨q, 0, none⟩ u0) q #[u0, z1, z2, z3, z4, z5, z6, z7, z8] t := h.set 0 u0
  have h1 : Vb ((v.setCell ⟨q, 0, none⟩ u0).setCell ⟨q, 1, none⟩ u1) q #[u0, u1, z2, z3, z4, z5, z6, z7, z8] t := h0.set 1 u1
  have h2 : Vb (((v.setCell ⟨q, 0, none⟩ u0).setCell ⟨q, 1, none⟩ u1).setCell ⟨q, 2, none⟩ u2) q #[u0, u1, u2, z3, z4, z5, z6, z7, z8] t := h1.set 2 u2
  have h3 : Vb ((((v.setCell ⟨q, 0, none⟩ u0).setCell ⟨q, 1, none⟩ u1).setCell ⟨q, 2, none⟩ u2).setCell ⟨q, 3, none⟩ u3) q #[u0, u1, u2, u3, z4, z5, z6, z7, z8] t := h2.set 3 u3
  have h4 : Vb (((((v.setCell ⟨q, 0, none⟩ u0).setCell ⟨q, 1, none⟩ u1).setCell ⟨q, 2, none⟩ u2).setCell ⟨q, 3, none⟩ u3).setCell ⟨q, 4, none⟩ u4) q #[u0, u1, u2, u3, u4, z5, z6, z7, z8] t := h3.set 4 u4
  have h5 : Vb ((((((v.setCell ⟨q, 0, none⟩ u0).setCell ⟨q, 1, none⟩ u1).setCell ⟨q, 2, none⟩ u2).setCell ⟨q, 3, none⟩ u3).setCell ⟨q, 4, none⟩ u4).setCell ⟨q, 5, none⟩ u5) q #[u0, u1, u2, u3, u4, u5, z6, z7, z8] t := h4.set 5 u5
  have h6 : Vb (((((((v.setCell ⟨q, 0, none⟩ u0).setCell ⟨q, 1, none⟩ u1).setCell ⟨q, 2, none⟩ u2).setCell ⟨q, 3, none⟩ u3).setCell ⟨q, 4, none⟩ u4).setCell ⟨q, 5, none⟩ u5).setCell ⟨q, 6, none⟩ u6) q #[u0, u1, u2, u3, u4, u5, u6, z7, z8] t := h5.set 6 u6
  have h7 : Vb ((((((((v.setCell ⟨q, 0, none⟩ u0).setCell ⟨q, 1, none⟩ u1).setCell ⟨q, 2, none⟩ u2).setCell ⟨q, 3, none⟩ u3).setCell ⟨q, 4, none⟩ u4).setCell ⟨q, 5, none⟩ u5).setCell ⟨q, 6, none⟩ u6).setCell ⟨q, 7, none⟩ u7) q #[u0, u1, u2, u3, u4, u5, u6, u7, z8] t := h6.set 7 u7
  have h8 : Vb (((((((((v.setCell ⟨q, 0, none⟩ u0).setCell ⟨q, 1, none⟩ u1).setCell ⟨q, 2, none⟩ u2).setCell ⟨q, 3, none⟩ u3).setCell ⟨q, 4, none⟩ u4).setCell ⟨q, 5, none⟩ u5).setCell ⟨q, 6, none⟩ u6).setCell ⟨q, 7, none⟩ u7).setCell ⟨q, 8, none⟩ u8) q #[u0, u1, u2, u3, u4, u5, u6, u7, u8] t := h7.set 8 u8
  exact ⟨h8, (((((((((Mq.refl (fun k => k = q) v).set ⟨q, 0, none⟩ u0 rfl).set ⟨q, 1, none⟩ u1 rfl).set ⟨q, 2, none⟩ u2 rfl).set ⟨q, 3, none⟩ u3 rfl).set ⟨q, 4, none⟩ u4 rfl).set ⟨q, 5, none⟩ u5 rfl).set ⟨q, 6, none⟩ u6 rfl).set ⟨q, 7, none⟩ u7 rfl).set ⟨q, 8, none⟩ u8 rfl⟩
/-- What toHart has under way: the machine that came in (A), the answer's place, and what is made so far (O). -/
structure Tv (w v : World) (s : Nat) (A O : Array Value) : Prop where
  A : Vb v s A 30
  R : Vb v (s + 1) #[.slice none 0 0, .int .i64 0, .slice none 0 0, .bool false, .bool false, .bool false, .int .i64 0, .slice none 0 0, .slice none 0 0] 36
  O : Vb v (s + 1 + 1) O 36
  b : Below w.heap.size w v
  s : w.heap.size = s
theorem Tv.keep {w v v' : World} {s : Nat} {A O : Array Value} (h : Tv w v s A O) (b : Below v.heap.size v v') : Tv w v' s A O := ⟨h.A.keep b, h.R.keep b, h.O.keep b, on h.b b, h.s⟩
theorem Tv.put {w v : World} {s : Nat} {A O : Array Value} (h : Tv w v s A O) (j : Nat) (u : Value) : Tv w (v.setCell ⟨s + 1 + 1, j, none⟩ u) s A (O.setIfInBounds j u) :=
  ⟨h.A.put _ _ (by show s ≠ s + 1 + 1; omega), h.R.put _ _ (by show s + 1 ≠ s + 1 + 1; omega), h.O.set j u, h.b.setCell (by have := h.s; show w.heap.size ≤ s + 1 + 1; omega) _, h.s⟩

set_option maxRecDepth 20000 in
set_option maxHeartbeats 8000000 in
theorem to_hart (a0 a1 a2 a3 : Option Addr) (n0 c0 n1 c1 n2 c2 n3 c3 : Nat) (H : Ht) (w : World) (h : Hin w a0 n0 c0 a1 n1 c1 a2 n2 c2 a3 n3 c3 H) (hs : Hs n0 n1 n2 n3) :
    Calls Tryz.prog 33 #[.agg #[.slice a0 n0 c0, .int .i64 H.pc, .slice a1 n1 c1, .bool H.halted, .bool H.waiting, .bool H.rung, .int .i64 H.done, .slice a2 n2 c2, .slice a3 n3 c3]] w fun e w' => ∃ r c i o, e = .returned (.agg #[r, .int .i64 H.pc, c, .bool H.halted, .bool H.waiting, .bool H.rung, .int .i64 H.done, i, o]) ∧
      Hm w' w.heap.size r c i o H ∧ Ha r c i o ∧ Below w.heap.size w w' := by
  have HS : Hid (Hs n0 n1 n2 n3) := hs
  have HP : Hid (Hin w a0 n0 c0 a1 n1 c1 a2 n2 c2 a3 n3 c3 H) := h
  clear h hs
  generalize hW : ((w.alloc (.cells #[.slice a0 n0 c0, .int .i64 H.pc, .slice a1 n1 c1, .bool H.halted, .bool H.waiting, .bool H.rung, .int .i64 H.done, .slice a2 n2 c2, .slice a3 n3 c3] 30)).alloc (.cells #[.slice none 0 0, .int .i64 0, .slice none 0 0, .bool false, .bool false, .bool false, .int .i64 0, .slice none 0 0, .slice none 0 0] 36)).alloc (.cells #[.slice none 0 0, .int .i64 0, .slice none 0 0, .bool false, .bool false, .bool false, .int .i64 0, .slice none 0 0, .slice none 0 0] 36) = W
  have SZ : Hid (W.heap.size = w.heap.size + 3) := by show _ = _; rw [← hW]; simp
  obtain ⟨s, hS⟩ : ∃ s, w.heap.size = s := ⟨_, rfl⟩
  have HSs : Hid (w.heap.size = s) := hS
  have T0 : Hid (Tv w W s #[.slice a0 n0 c0, .int .i64 H.pc, .slice a1 n1 c1, .bool H.halted, .bool H.waiting, .bool H.rung, .int .i64 H.done, .slice a2 n2 c2, .slice a3 n3 c3] #[.slice none 0 0, .int .i64 0, .slice none 0 0, .bool false, .bool false, .bool false, .int .i64 0, .slice none 0 0, .slice none 0 0]) := by
    have z1 : s + 1 = (w.alloc (.cells #[.slice a0 n0 c0, .int .i64 H.pc, .slice a1 n1 c1, .bool H.halted, .bool H.waiting, .bool H.rung, .int .i64 H.done, .slice a2 n2 c2, .slice a3 n3 c3] 30)).heap.size := by rw [← hS]; simp
    have z2 : s + 1 + 1 = ((w.alloc (.cells #[.slice a0 n0 c0, .int .i64 H.pc, .slice a1 n1 c1, .bool H.halted, .bool H.waiting, .bool H.rung, .int .i64 H.done, .slice a2 n2 c2, .slice a3 n3 c3] 30)).alloc (.cells #[.slice none 0 0, .int .i64 0, .slice none 0 0, .bool false, .bool false, .bool false, .int .i64 0, .slice none 0 0, .slice none 0 0] 36)).heap.size := by rw [← hS]; simp
    refine ⟨?_, ?_, ?_, by rw [← hW]; exact al (al (al (Below.refl _ _) _) _) _, hS⟩
    · rw [← hW, ← hS]; exact ((Vb.new _ _ _).push _).push _
    · rw [← hW, z1]; exact (Vb.new _ _ _).push _
    · rw [← hW, z2]; exact Vb.new _ _ _
  have q0 := T0.out.A.cell 0 rfl
  go_enter Tryz.func33, Tryz.ntmps33
  go_wp2_with fail
  clear hW hS q0
  refine (to_nums _ _ _ _ _ (HP.out.stay T0.out.b).regs HS.out.regs).mono ?_
  rintro e w1 ⟨g0, rfl, m1, b1⟩
  have M0 : Hid (Nums w1 (s + 3) (.slice (some ⟨g0, 0, none⟩) n0 n0) H.regs) := m1.mono (by have := SZ.out; have := HSs.out; omega)
  have MB0 : Hid (Nums w1 W.heap.size (.slice (some ⟨g0, 0, none⟩) n0 n0) H.regs) := m1
  have S1 := T0.out.keep b1
  have o0 := S1.O.cell 0 rfl
  have f0 := S1.O.free 0
  have o1 := S1.O.cell 1 rfl
  have f1 := S1.O.free 1
  have e1 := S1.A.cell 1 rfl
  have e2 := S1.A.cell 2 rfl
  have T1 : Hid (Tv w ((w1.setCell ⟨s + 1 + 1, 0, none⟩ (.slice (some ⟨g0, 0, none⟩) n0 n0)).setCell ⟨s + 1 + 1, 1, none⟩ (.int .i64 H.pc)) s #[.slice a0 n0 c0, .int .i64 H.pc, .slice a1 n1 c1, .bool H.halted, .bool H.waiting, .bool H.rung, .int .i64 H.done, .slice a2 n2 c2, .slice a3 n3 c3] #[.slice (some ⟨g0, 0, none⟩) n0 n0, .int .i64 H.pc, .slice none 0 0, .bool false, .bool false, .bool false, .int .i64 0, .slice none 0 0, .slice none 0 0]) := ((S1.put 0 (.slice (some ⟨g0, 0, none⟩) n0 n0)).put 1 (.int .i64 H.pc))
  have H1 : Hid (Ho (s + 3) w1 ((w1.setCell ⟨s + 1 + 1, 0, none⟩ (.slice (some ⟨g0, 0, none⟩) n0 n0)).setCell ⟨s + 1 + 1, 1, none⟩ (.int .i64 H.pc))) := (Ho.set w1 ⟨s + 1 + 1, 0, none⟩ (.slice (some ⟨g0, 0, none⟩) n0 n0) (by show s + 1 + 1 < s + 3; omega)).trans (Ho.set (w1.setCell ⟨s + 1 + 1, 0, none⟩ (.slice (some ⟨g0, 0, none⟩) n0 n0)) ⟨s + 1 + 1, 1, none⟩ (.int .i64 H.pc) (by show s + 1 + 1 < s + 3; omega))
  have Z1 : Hid (s + 3 ≤ ((w1.setCell ⟨s + 1 + 1, 0, none⟩ (.slice (some ⟨g0, 0, none⟩) n0 n0)).setCell ⟨s + 1 + 1, 1, none⟩ (.int .i64 H.pc)).heap.size) := by have := T1.out.O.lt; show _ ≤ _; omega
  have Y1 : Hid (w1.heap.size ≤ ((w1.setCell ⟨s + 1 + 1, 0, none⟩ (.slice (some ⟨g0, 0, none⟩) n0 n0)).setCell ⟨s + 1 + 1, 1, none⟩ (.int .i64 H.pc)).heap.size) := H1.out.size
  clear S1 m1 b1
  go_wp2_with fail
  generalize ((w1.setCell ⟨s + 1 + 1, 0, none⟩ (.slice (some ⟨g0, 0, none⟩) n0 n0)).setCell ⟨s + 1 + 1, 1, none⟩ (.int .i64 H.pc)) = v1 at *
  clear o0 f0 o1 f1 e1 e2
  refine (to_nums _ _ _ _ _ (HP.out.stay T1.out.b).csr HS.out.csr).mono ?_
  rintro e w2 ⟨g1, rfl, m1, b1⟩
  have M1 : Hid (Nums w2 (s + 3) (.slice (some ⟨g1, 0, none⟩) n1 n1) H.csr) := m1.mono Z1.out
  have H12 : Hid (Ho (s + 3) w1 w2) := H1.out.trans (Ho.of b1)
  have MB1 : Hid (Nums w2 v1.heap.size (.slice (some ⟨g1, 0, none⟩) n1 n1) H.csr) := m1
  have S1 := T1.out.keep b1
  have o2 := S1.O.cell 2 rfl
  have f2 := S1.O.free 2
  have o3 := S1.O.cell 3 rfl
  have f3 := S1.O.free 3
  have o4 := S1.O.cell 4 rfl
  have f4 := S1.O.free 4
  have o5 := S1.O.cell 5 rfl
  have f5 := S1.O.free 5
  have o6 := S1.O.cell 6 rfl
  have f6 := S1.O.free 6
  have e3 := S1.A.cell 3 rfl
  have e4 := S1.A.cell 4 rfl
  have e5 := S1.A.cell 5 rfl
  have e6 := S1.A.cell 6 rfl
  have e7 := S1.A.cell 7 rfl
  have T2 : Hid (Tv w (((((w2.setCell ⟨s + 1 + 1, 2, none⟩ (.slice (some ⟨g1, 0, none⟩) n1 n1)).setCell ⟨s + 1 + 1, 3, none⟩ (.bool H.halted)).setCell ⟨s + 1 + 1, 4, none⟩ (.bool H.waiting)).setCell ⟨s + 1 + 1, 5, none⟩ (.bool H.rung)).setCell ⟨s + 1 + 1, 6, none⟩ (.int .i64 H.done)) s #[.slice a0 n0 c0, .int .i64 H.pc, .slice a1 n1 c1, .bool H.halted, .bool H.waiting, .bool H.rung, .int .i64 H.done, .slice a2 n2 c2, .slice a3 n3 c3] #[.slice (some ⟨g0, 0, none⟩) n0 n0, .int .i64 H.pc, .slice (some ⟨g1, 0, none⟩) n1 n1, .bool H.halted, .bool H.waiting, .bool H.rung, .int .i64 H.done, .slice none 0 0, .slice none 0 0]) := (((((S1.put 2 (.slice (some ⟨g1, 0, none⟩) n1 n1)).put 3 (.bool H.halted)).put 4 (.bool H.waiting)).put 5 (.bool H.rung)).put 6 (.int .i64 H.done))
  have H2 : Hid (Ho (s + 3) w2 (((((w2.setCell ⟨s + 1 + 1, 2, none⟩ (.slice (some ⟨g1, 0, none⟩) n1 n1)).setCell ⟨s + 1 + 1, 3, none⟩ (.bool H.halted)).setCell ⟨s + 1 + 1, 4, none⟩ (.bool H.waiting)).setCell ⟨s + 1 + 1, 5, none⟩ (.bool H.rung)).setCell ⟨s + 1 + 1, 6, none⟩ (.int .i64 H.done))) := ((((Ho.set w2 ⟨s + 1 + 1, 2, none⟩ (.slice (some ⟨g1, 0, none⟩) n1 n1) (by show s + 1 + 1 < s + 3; omega)).trans (Ho.set (w2.setCell ⟨s + 1 + 1, 2, none⟩ (.slice (some ⟨g1, 0, none⟩) n1 n1)) ⟨s + 1 + 1, 3, none⟩ (.bool H.halted) (by show s + 1 + 1 < s + 3; omega))).trans (Ho.set ((w2.setCell ⟨s + 1 + 1, 2, none⟩ (.slice (some ⟨g1, 0, none⟩) n1 n1)).setCell ⟨s + 1 + 1, 3, none⟩ (.bool H.halted)) ⟨s + 1 + 1, 4, none⟩ (.bool H.waiting) (by show s + 1 + 1 < s + 3; omega))).trans (Ho.set (((w2.setCell ⟨s + 1 + 1, 2, none⟩ (.slice (some ⟨g1, 0, none⟩) n1 n1)).setCell ⟨s + 1 + 1, 3, none⟩ (.bool H.halted)).setCell ⟨s + 1 + 1, 4, none⟩ (.bool H.waiting)) ⟨s + 1 + 1, 5, none⟩ (.bool H.rung) (by show s + 1 + 1 < s + 3; omega))).trans (Ho.set ((((w2.setCell ⟨s + 1 + 1, 2, none⟩ (.slice (some ⟨g1, 0, none⟩) n1 n1)).setCell ⟨s + 1 + 1, 3, none⟩ (.bool H.halted)).setCell ⟨s + 1 + 1, 4, none⟩ (.bool H.waiting)).setCell ⟨s + 1 + 1, 5, none⟩ (.bool H.rung)) ⟨s + 1 + 1, 6, none⟩ (.int .i64 H.done) (by show s + 1 + 1 < s + 3; omega))
  have Z2 : Hid (s + 3 ≤ (((((w2.setCell ⟨s + 1 + 1, 2, none⟩ (.slice (some ⟨g1, 0, none⟩) n1 n1)).setCell ⟨s + 1 + 1, 3, none⟩ (.bool H.halted)).setCell ⟨s + 1 + 1, 4, none⟩ (.bool H.waiting)).setCell ⟨s + 1 + 1, 5, none⟩ (.bool H.rung)).setCell ⟨s + 1 + 1, 6, none⟩ (.int .i64 H.done)).heap.size) := by have := T2.out.O.lt; show _ ≤ _; omega
  have Y2 : Hid (w2.heap.size ≤ (((((w2.setCell ⟨s + 1 + 1, 2, none⟩ (.slice (some ⟨g1, 0, none⟩) n1 n1)).setCell ⟨s + 1 + 1, 3, none⟩ (.bool H.halted)).setCell ⟨s + 1 + 1, 4, none⟩ (.bool H.waiting)).setCell ⟨s + 1 + 1, 5, none⟩ (.bool H.rung)).setCell ⟨s + 1 + 1, 6, none⟩ (.int .i64 H.done)).heap.size) := H2.out.size
  clear S1 m1 b1
  go_wp2_with fail
  generalize (((((w2.setCell ⟨s + 1 + 1, 2, none⟩ (.slice (some ⟨g1, 0, none⟩) n1 n1)).setCell ⟨s + 1 + 1, 3, none⟩ (.bool H.halted)).setCell ⟨s + 1 + 1, 4, none⟩ (.bool H.waiting)).setCell ⟨s + 1 + 1, 5, none⟩ (.bool H.rung)).setCell ⟨s + 1 + 1, 6, none⟩ (.int .i64 H.done)) = v2 at *
  clear o2 f2 o3 f3 o4 f4 o5 f5 o6 f6 e3 e4 e5 e6 e7
  refine (to_nums _ _ _ _ _ (HP.out.stay T2.out.b).inn HS.out.inn).mono ?_
  rintro e w3 ⟨g2, rfl, m1, b1⟩
  have M2 : Hid (Nums w3 (s + 3) (.slice (some ⟨g2, 0, none⟩) n2 n2) H.inn) := m1.mono Z2.out
  have H23 : Hid (Ho (s + 3) w2 w3) := H2.out.trans (Ho.of b1)
  have MB2 : Hid (Nums w3 v2.heap.size (.slice (some ⟨g2, 0, none⟩) n2 n2) H.inn) := m1
  have S1 := T2.out.keep b1
  have o7 := S1.O.cell 7 rfl
  have f7 := S1.O.free 7
  have e8 := S1.A.cell 8 rfl
  have T3 : Hid (Tv w (w3.setCell ⟨s + 1 + 1, 7, none⟩ (.slice (some ⟨g2, 0, none⟩) n2 n2)) s #[.slice a0 n0 c0, .int .i64 H.pc, .slice a1 n1 c1, .bool H.halted, .bool H.waiting, .bool H.rung, .int .i64 H.done, .slice a2 n2 c2, .slice a3 n3 c3] #[.slice (some ⟨g0, 0, none⟩) n0 n0, .int .i64 H.pc, .slice (some ⟨g1, 0, none⟩) n1 n1, .bool H.halted, .bool H.waiting, .bool H.rung, .int .i64 H.done, .slice (some ⟨g2, 0, none⟩) n2 n2, .slice none 0 0]) := (S1.put 7 (.slice (some ⟨g2, 0, none⟩) n2 n2))
  have H3 : Hid (Ho (s + 3) w3 (w3.setCell ⟨s + 1 + 1, 7, none⟩ (.slice (some ⟨g2, 0, none⟩) n2 n2))) := Ho.set w3 ⟨s + 1 + 1, 7, none⟩ (.slice (some ⟨g2, 0, none⟩) n2 n2) (by show s + 1 + 1 < s + 3; omega)
  have Z3 : Hid (s + 3 ≤ (w3.setCell ⟨s + 1 + 1, 7, none⟩ (.slice (some ⟨g2, 0, none⟩) n2 n2)).heap.size) := by have := T3.out.O.lt; show _ ≤ _; omega
  have Y3 : Hid (w3.heap.size ≤ (w3.setCell ⟨s + 1 + 1, 7, none⟩ (.slice (some ⟨g2, 0, none⟩) n2 n2)).heap.size) := H3.out.size
  clear S1 m1 b1
  go_wp2_with fail
  generalize (w3.setCell ⟨s + 1 + 1, 7, none⟩ (.slice (some ⟨g2, 0, none⟩) n2 n2)) = v3 at *
  clear o7 f7 e8
  refine (to_nums _ _ _ _ _ (HP.out.stay T3.out.b).out HS.out.out).mono ?_
  rintro e w4 ⟨g3, rfl, m1, b1⟩
  have M3 : Hid (Nums w4 (s + 3) (.slice (some ⟨g3, 0, none⟩) n3 n3) H.out) := m1.mono Z3.out
  have H34 : Hid (Ho (s + 3) w3 w4) := H3.out.trans (Ho.of b1)
  have MB3 : Hid (Nums w4 v3.heap.size (.slice (some ⟨g3, 0, none⟩) n3 n3) H.out) := m1
  have S1 := T3.out.keep b1
  have o8 := S1.O.cell 8 rfl
  have f8 := S1.O.free 8
  have T4 : Hid (Tv w (w4.setCell ⟨s + 1 + 1, 8, none⟩ (.slice (some ⟨g3, 0, none⟩) n3 n3)) s #[.slice a0 n0 c0, .int .i64 H.pc, .slice a1 n1 c1, .bool H.halted, .bool H.waiting, .bool H.rung, .int .i64 H.done, .slice a2 n2 c2, .slice a3 n3 c3] #[.slice (some ⟨g0, 0, none⟩) n0 n0, .int .i64 H.pc, .slice (some ⟨g1, 0, none⟩) n1 n1, .bool H.halted, .bool H.waiting, .bool H.rung, .int .i64 H.done, .slice (some ⟨g2, 0, none⟩) n2 n2, .slice (some ⟨g3, 0, none⟩) n3 n3]) := (S1.put 8 (.slice (some ⟨g3, 0, none⟩) n3 n3))
  have H4 : Hid (Ho (s + 3) w4 (w4.setCell ⟨s + 1 + 1, 8, none⟩ (.slice (some ⟨g3, 0, none⟩) n3 n3))) := Ho.set w4 ⟨s + 1 + 1, 8, none⟩ (.slice (some ⟨g3, 0, none⟩) n3 n3) (by show s + 1 + 1 < s + 3; omega)
  have Z4 : Hid (s + 3 ≤ (w4.setCell ⟨s + 1 + 1, 8, none⟩ (.slice (some ⟨g3, 0, none⟩) n3 n3)).heap.size) := by have := T4.out.O.lt; show _ ≤ _; omega
  have Y4 : Hid (w4.heap.size ≤ (w4.setCell ⟨s + 1 + 1, 8, none⟩ (.slice (some ⟨g3, 0, none⟩) n3 n3)).heap.size) := H4.out.size
  clear S1 m1 b1
  have p0 := T4.out.O.cell 0 rfl
  have r0 := T4.out.R.cell 0 rfl
  have y0 := T4.out.R.free 0
  have p1 := T4.out.O.cell 1 rfl
  have r1 := T4.out.R.cell 1 rfl
  have y1 := T4.out.R.free 1
  have p2 := T4.out.O.cell 2 rfl
  have r2 := T4.out.R.cell 2 rfl
  have y2 := T4.out.R.free 2
  have p3 := T4.out.O.cell 3 rfl
  have r3 := T4.out.R.cell 3 rfl
  have y3 := T4.out.R.free 3
  have p4 := T4.out.O.cell 4 rfl
  have r4 := T4.out.R.cell 4 rfl
  have y4 := T4.out.R.free 4
  have p5 := T4.out.O.cell 5 rfl
  have r5 := T4.out.R.cell 5 rfl
  have y5 := T4.out.R.free 5
  have p6 := T4.out.O.cell 6 rfl
  have r6 := T4.out.R.cell 6 rfl
  have y6 := T4.out.R.free 6
  have p7 := T4.out.O.cell 7 rfl
  have r7 := T4.out.R.cell 7 rfl
  have y7 := T4.out.R.free 7
  have p8 := T4.out.O.cell 8 rfl
  have r8 := T4.out.R.cell 8 rfl
  have y8 := T4.out.R.free 8
  go_wp2_with fail
  generalize (w4.setCell ⟨s + 1 + 1, 8, none⟩ (.slice (some ⟨g3, 0, none⟩) n3 n3)) = v4 at *
  have NN : Hid (_ ∧ _) := nine T4.out.R (.slice (some ⟨g0, 0, none⟩) n0 n0) (.int .i64 H.pc) (.slice (some ⟨g1, 0, none⟩) n1 n1) (.bool H.halted) (.bool H.waiting) (.bool H.rung) (.int .i64 H.done) (.slice (some ⟨g2, 0, none⟩) n2 n2) (.slice (some ⟨g3, 0, none⟩) n3 n3)
  clear p0 r0 y0 p1 r1 y1 p2 r2 y2 p3 r3 y3 p4 r4 y4 p5 r5 y5 p6 r6 y6 p7 r7 y7 p8 r8 y8
  generalize (((((((((v4.setCell ⟨s + 1, 0, none⟩ (.slice (some ⟨g0, 0, none⟩) n0 n0)).setCell ⟨s + 1, 1, none⟩ (.int .i64 H.pc)).setCell ⟨s + 1, 2, none⟩ (.slice (some ⟨g1, 0, none⟩) n1 n1)).setCell ⟨s + 1, 3, none⟩ (.bool H.halted)).setCell ⟨s + 1, 4, none⟩ (.bool H.waiting)).setCell ⟨s + 1, 5, none⟩ (.bool H.rung)).setCell ⟨s + 1, 6, none⟩ (.int .i64 H.done)).setCell ⟨s + 1, 7, none⟩ (.slice (some ⟨g2, 0, none⟩) n2 n2)).setCell ⟨s + 1, 8, none⟩ (.slice (some ⟨g3, 0, none⟩) n3 n3)) = V at *
  have H5 : Hid (Ho (s + 3) w4 V) := H4.out.trans (NN.out.2.ho fun k e => by omega)
  have B5 : Hid (Below w.heap.size w V) := Mq.under T4.out.b NN.out.2 fun k e => by have := HSs.out; omega
  have A01 : Apt (.slice (some ⟨g0, 0, none⟩) n0 n0) (.slice (some ⟨g1, 0, none⟩) n1 n1) := MB0.out.apt MB1.out Y1.out
  have A02 : Apt (.slice (some ⟨g0, 0, none⟩) n0 n0) (.slice (some ⟨g2, 0, none⟩) n2 n2) := MB0.out.apt MB2.out (Nat.le_trans H12.out.size Y2.out)
  have A03 : Apt (.slice (some ⟨g0, 0, none⟩) n0 n0) (.slice (some ⟨g3, 0, none⟩) n3 n3) := MB0.out.apt MB3.out (Nat.le_trans (Nat.le_trans H12.out.size H23.out.size) Y3.out)
  have A12 : Apt (.slice (some ⟨g1, 0, none⟩) n1 n1) (.slice (some ⟨g2, 0, none⟩) n2 n2) := MB1.out.apt MB2.out Y2.out
  have A13 : Apt (.slice (some ⟨g1, 0, none⟩) n1 n1) (.slice (some ⟨g3, 0, none⟩) n3 n3) := MB1.out.apt MB3.out (Nat.le_trans H23.out.size Y3.out)
  have A23 : Apt (.slice (some ⟨g2, 0, none⟩) n2 n2) (.slice (some ⟨g3, 0, none⟩) n3 n3) := MB2.out.apt MB3.out Y3.out
  have R0 : Nums V w.heap.size (.slice (some ⟨g0, 0, none⟩) n0 n0) H.regs := (M0.out.ho (H12.out.trans (H23.out.trans (H34.out.trans H5.out)))).mono (by have := HSs.out; omega)
  have R1 : Nums V w.heap.size (.slice (some ⟨g1, 0, none⟩) n1 n1) H.csr := (M1.out.ho (H23.out.trans (H34.out.trans H5.out))).mono (by have := HSs.out; omega)
  have R2 : Nums V w.heap.size (.slice (some ⟨g2, 0, none⟩) n2 n2) H.inn := (M2.out.ho (H34.out.trans H5.out)).mono (by have := HSs.out; omega)
  have R3 : Nums V w.heap.size (.slice (some ⟨g3, 0, none⟩) n3 n3) H.out := (M3.out.ho H5.out).mono (by have := HSs.out; omega)
  have x0 := NN.out.1.cell 0 rfl
  have x1 := NN.out.1.cell 1 rfl
  have x2 := NN.out.1.cell 2 rfl
  have x3 := NN.out.1.cell 3 rfl
  have x4 := NN.out.1.cell 4 rfl
  have x5 := NN.out.1.cell 5 rfl
  have x6 := NN.out.1.cell 6 rfl
  have x7 := NN.out.1.cell 7 rfl
  have x8 := NN.out.1.cell 8 rfl
  exact bodyPost_ret (v := .agg #[.slice (some ⟨g0, 0, none⟩) n0 n0, .int .i64 H.pc, .slice (some ⟨g1, 0, none⟩) n1 n1, .bool H.halted, .bool H.waiting, .bool H.rung, .int .i64 H.done, .slice (some ⟨g2, 0, none⟩) n2 n2, .slice (some ⟨g3, 0, none⟩) n3 n3]) (by simp [results, Tryz.results33, go_sem, x0, x1, x2, x3, x4, x5, x6, x7, x8]) rfl
    ⟨_, _, _, _, rfl, ⟨R0, R1, R2, R3⟩, ⟨A01, A02, A03, A12, A13, A23⟩, B5.out⟩
end Go.Proofs.YtadkhognlapckaaGreatDoor
namespace Go.Proofs.YtadkhognlapckaaGreatDoor
open Go.RowKit
set_option linter.unusedVariables false

set_option maxRecDepth 20000 in
theorem i_clone (a : Option Addr) (n cap : Nat) (zs : List Int) (w : World) (h : Rn w a n cap zs) (hn : n ≤ 100000000) :
    Calls Tryz.prog 76 #[.slice a n cap] w fun e w' => ∃ v, e = .returned v ∧ Nums w' w.heap.size v zs ∧ Below w.heap.size w w' := by
  cases a with
  | none =>
    obtain ⟨h1, h2, h3⟩ : n = 0 ∧ cap = 0 ∧ zs = [] := by
      rcases h with ⟨_, h1, h2, h3⟩ | ⟨x, e, _⟩
      · exact ⟨h1, h2, h3⟩
      · cases e
    subst h1 h2 h3
    have hnil : ∀ W, (binOp .eql 28 (.slice none 0 0) (.slice none 0 0)).run Tryz.prog W = .ok (.bool true) W := fun W => Lib.run_eql_slice_nil_nil W _ _ Tryz.underlying28
    go_enter Tryz.func76, Tryz.ntmps76
    go_wp2_with fail
    go_ret
    exact ⟨_, rfl, Nums.nil _ _, Below.refl _ _⟩
  | some x =>
    have HR : Hid (Rn w (some x) n cap zs) := h
    have HL : Hid (n ≤ 100000000) := hn
    clear h hn
    have hnil : ∀ W, (binOp .eql 28 (.slice (some x) n cap) (.slice none 0 0)).run Tryz.prog W = .ok (.bool false) W := fun W => Lib.run_eql_slice_some_nil W _ _ _ Tryz.underlying28
    go_enter Tryz.func76, Tryz.ntmps76
    go_wp2_with (at_builtin; refine wp_appx _ rfl _ _ rfl w.heap.size _ [] rfl (nums_none _ _ (Nat.le_refl _)) x n cap zs rfl (HR.out.stay (al (Below.refl _ _) _)) (by have := HL.out; simp; omega) (by simp) ?_; intro v' w' hN' hG')
    have B : Below w.heap.size w w' := below_of_grown (al (Below.refl _ _) _) hG' (nums_none _ _ (Nat.le_refl _)) (Nat.le_refl _)
    go_wp2_with fail
    go_ret
    exact ⟨_, rfl, by simpa using hN', B⟩

/-- A number of a list. -/
def gt (zs : List Int) (j : Nat) : Int := zs.getD j 0
/-- The cells of a machine. -/
def mca (H : Ht) (i o : Value) : Array Value := #[.int .i64 (gt H.regs 0), .int .i64 (gt H.regs 1), .int .i64 (gt H.regs 2), .int .i64 (gt H.regs 3), .int .i64 (gt H.regs 4), .int .i64 (gt H.regs 5), .int .i64 (gt H.regs 6), .int .i64 (gt H.regs 7), .int .i64 (gt H.regs 8), .int .i64 (gt H.regs 9), .int .i64 (gt H.regs 10), .int .i64 (gt H.regs 11), .int .i64 (gt H.regs 12), .int .i64 (gt H.regs 13), .int .i64 (gt H.regs 14), .int .i64 (gt H.regs 15), .int .i64 H.pc, .int .i64 (gt H.csr 0), .int .i64 (gt H.csr 1), .int .i64 (gt H.csr 2), .int .i64 (gt H.csr 3), .int .i64 (gt H.csr 4), .int .i64 (gt H.csr 5), .int .i64 (gt H.csr 6), .int .i64 (gt H.csr 7), .int .i64 (gt H.csr 8), .int .i64 (gt H.csr 9), .int .i64 (gt H.csr 10), .bool H.halted, .bool H.waiting, .bool H.rung, .int .i64 H.done, i, o]
theorem mca_size (H : Ht) (i o : Value) : (mca H i o).size = 34 := rfl
theorem mca_lit (H : Ht) (i o : Value) : #[.int .i64 (gt H.regs 0), .int .i64 (gt H.regs 1), .int .i64 (gt H.regs 2), .int .i64 (gt H.regs 3), .int .i64 (gt H.regs 4), .int .i64 (gt H.regs 5), .int .i64 (gt H.regs 6), .int .i64 (gt H.regs 7), .int .i64 (gt H.regs 8), .int .i64 (gt H.regs 9), .int .i64 (gt H.regs 10), .int .i64 (gt H.regs 11), .int .i64 (gt H.regs 12), .int .i64 (gt H.regs 13), .int .i64 (gt H.regs 14), .int .i64 (gt H.regs 15), .int .i64 H.pc, .int .i64 (gt H.csr 0), .int .i64 (gt H.csr 1), .int .i64 (gt H.csr 2), .int .i64 (gt H.csr 3), .int .i64 (gt H.csr 4), .int .i64 (gt H.csr 5), .int .i64 (gt H.csr 6), .int .i64 (gt H.csr 7), .int .i64 (gt H.csr 8), .int .i64 (gt H.csr 9), .int .i64 (gt H.csr 10), .bool H.halted, .bool H.waiting, .bool H.rung, .int .i64 H.done, i, o] = mca H i o := rfl
theorem mca_one (H : Ht) (i o : Value) (hi : i.oneCell' = true) (ho : o.oneCell' = true) : (mca H i o).all (·.oneCell') = true := by
  have h1 : ∀ z : Int, (Value.int .i64 z).oneCell' = true := fun _ => rfl
  have h2 : ∀ z : Bool, (Value.bool z).oneCell' = true := fun _ => rfl
  simp [mca, h1, h2, hi, ho]
end Go.Proofs.YtadkhognlapckaaGreatDoor
