/- Texts of this seat, joined. -/
import Derived.Test.YtggejbphdadckaaGreatDoorQ10
namespace Go.Proofs.YtggejbphdadckaaGreatDoor
open Go.RowKit
set_option linter.unusedVariables false

/-- A policy that came in. -/
structure Pin (w : World) (a0 : Option Addr) (n0 c0 : Nat) (a1 : Option Addr) (n1 c1 : Nat) (a2 : Option Addr) (n2 c2 : Nat) (a3 : Option Addr) (n3 c3 : Nat) (P : Plc) : Prop where
  own : IsSS w a0 n0 c0 P.own
  lanes : IsLanes w a1 n1 c1 P.lanes
  bells : IsPairs w a2 n2 c2 P.bells
  plan : IsPairs w a3 n3 c3 P.plan
theorem Pin.stay {w w' : World} {a0 a1 a2 a3 : Option Addr} {n0 c0 n1 c1 n2 c2 n3 c3 : Nat} {P : Plc} (h : Pin w a0 n0 c0 a1 n1 c1 a2 n2 c2 a3 n3 c3 P) (b : Below w.heap.size w w') : Pin w' a0 n0 c0 a1 n1 c1 a2 n2 c2 a3 n3 c3 P :=
  ⟨h.own.stay b, h.lanes.stay b, h.bells.stay b, h.plan.stay b⟩
/-- How great a policy that came in may be. -/
structure Small (n0 n1 n2 n3 : Nat) (P : Plc) : Prop where
  own : n0 ≤ 1048576
  each : ∀ i, i < n0 → (P.own.getD i []).length ≤ 1048576
  lanes : n1 ≤ 1048576
  bells : n2 ≤ 1048576
  plan : n3 ≤ 1048576

theorem lim {n c : Nat} (h : n ≤ c ∧ c ≤ maxLen) : n ≤ 9223372036854775807 := by have := h; unfold maxLen at this; omega

set_option maxHeartbeats 2000000 in
theorem sz_policy (a0 a1 a2 a3 : Option Addr) (n0 c0 n1 c1 n2 c2 n3 c3 : Nat) (P : Plc) (w : World) (h : Pin w a0 n0 c0 a1 n1 c1 a2 n2 c2 a3 n3 c3 P) :
    Calls Tryz.prog 16 #[.agg #[.slice a0 n0 c0, .slice a1 n1 c1, .slice a2 n2 c2, .slice a3 n3 c3], .int .i64 1048576] w fun e w' => (∃ r : Int, e = .returned (.int .i64 r) ∧ r ≤ 1048576 ∧ (0 ≤ r → Small n0 n1 n2 n3 P)) ∧ Below w.heap.size w w' := by
  have HO : Hid (IsSS (w.alloc (.cells #[.slice a0 n0 c0, .slice a1 n1 c1, .slice a2 n2 c2, .slice a3 n3 c3] 27)) a0 n0 c0 P.own) := h.own.stay (al (Below.refl _ _) _)
  have L1 : Hid (n1 ≤ 9223372036854775807) := lim h.lanes.cap
  have L2 : Hid (n2 ≤ 9223372036854775807) := lim h.bells.cap
  have L3 : Hid (n3 ≤ 9223372036854775807) := lim h.plan.cap
  clear h
  go_enter Tryz.func16, Tryz.ntmps16
  go_wp2_with fail
  refine (sz_ss _ _ _ _ _ _ HO.out (by decide) (by decide)).mono ?_
  rintro e w1 ⟨⟨r0, rfl, hr0, hs0⟩, rfl⟩
  by_cases h0 : r0 < 0
  · go_wp2_with fail
    go_ret
    exact ⟨⟨-1, rfl, by omega, fun h => by omega⟩, al (Below.refl _ _) _⟩
  have SS : Hid _ := hs0 (by omega)
  have E0 : Hid (0 ≤ r0 ∧ r0 ≤ 1048576) := ⟨by omega, hr0⟩
  clear hs0
  by_cases h1 : r0 - n1 < 0
  · have H1 : Hid (r0 - n1 < 0) := h1
    go_wp2_with fail
    refine (sz_lanes _ _ _ _ _ L1.out E0.out.1 E0.out.2).mono ?_
    rintro e w2 ⟨rfl, rfl⟩
    rw [if_pos H1.out]
    go_wp2_with fail
    go_ret
    exact ⟨⟨-1, rfl, by omega, fun h => by omega⟩, al (Below.refl _ _) _⟩
  have H1 : Hid (¬ r0 - n1 < 0) := h1
  have E1 : Hid (0 ≤ r0 - n1 ∧ r0 - n1 ≤ 1048576) := ⟨by omega, by omega⟩
  have e1 : 0 ≤ r0 - n1 := E1.out.1
  by_cases h2 : r0 - n1 - n2 < 0
  · have H2 : Hid (r0 - n1 - n2 < 0) := h2
    go_wp2_with fail
    refine (sz_lanes _ _ _ _ _ L1.out E0.out.1 E0.out.2).mono ?_
    rintro e w2 ⟨rfl, rfl⟩
    rw [if_neg (by have := H1.out; omega)]
    go_wp2_with fail
    refine (sz_bells _ _ _ _ _ L2.out E1.out.1 E1.out.2).mono ?_
    rintro e w2 ⟨rfl, rfl⟩
    rw [if_pos H2.out]
    go_wp2_with fail
    go_ret
    exact ⟨⟨-1, rfl, by omega, fun h => by omega⟩, al (Below.refl _ _) _⟩
  have H2 : Hid (¬ r0 - n1 - n2 < 0) := h2
  have E2 : Hid (0 ≤ r0 - n1 - n2 ∧ r0 - n1 - n2 ≤ 1048576) := ⟨by omega, by omega⟩
  have e2 : 0 ≤ r0 - n1 - n2 := E2.out.1
  by_cases h3 : r0 - n1 - n2 - n3 < 0
  · have H3 : Hid (r0 - n1 - n2 - n3 < 0) := h3
    go_wp2_with fail
    refine (sz_lanes _ _ _ _ _ L1.out E0.out.1 E0.out.2).mono ?_
    rintro e w2 ⟨rfl, rfl⟩
    rw [if_neg (by have := H1.out; omega)]
    go_wp2_with fail
    refine (sz_bells _ _ _ _ _ L2.out E1.out.1 E1.out.2).mono ?_
    rintro e w2 ⟨rfl, rfl⟩
    rw [if_neg (by have := H2.out; omega)]
    go_wp2_with fail
    refine (sz_slots _ _ _ _ _ L3.out E2.out.1 E2.out.2).mono ?_
    rintro e w2 ⟨rfl, rfl⟩
    rw [if_pos H3.out]
    go_wp2_with fail
    go_ret
    exact ⟨⟨-1, rfl, by omega, fun h => by omega⟩, al (Below.refl _ _) _⟩
  have H3 : Hid (¬ r0 - n1 - n2 - n3 < 0) := h3
  have e3 : 0 ≤ r0 - n1 - n2 - n3 := by omega
  have SM : Hid (Small n0 n1 n2 n3 P) := ⟨SS.out.1, SS.out.2, by omega, by omega, by omega⟩
  have hb : Hid (r0 - n1 - n2 - n3 ≤ 1048576) := by show _ ≤ _; omega
  go_wp2_with fail
  refine (sz_lanes _ _ _ _ _ L1.out E0.out.1 E0.out.2).mono ?_
  rintro e w2 ⟨rfl, rfl⟩
  rw [if_neg (by have := H1.out; omega)]
  go_wp2_with fail
  refine (sz_bells _ _ _ _ _ L2.out E1.out.1 E1.out.2).mono ?_
  rintro e w2 ⟨rfl, rfl⟩
  rw [if_neg (by have := H2.out; omega)]
  go_wp2_with fail
  refine (sz_slots _ _ _ _ _ L3.out E2.out.1 E2.out.2).mono ?_
  rintro e w2 ⟨rfl, rfl⟩
  rw [if_neg (by have := H3.out; omega)]
  go_wp2_with fail
  go_ret
  exact ⟨⟨_, rfl, hb.out, fun _ => SM.out⟩, al (Below.refl _ _) _⟩

/-- A policy that was made. -/
structure Mde (w : World) (base g0 g1 g2 g3 n0 n1 n2 n3 : Nat) (P : Plc) : Prop where
  own : SSo w base g0 n0 P.own
  lanes : Ls 125 w base (.slice (some ⟨g1, 0, none⟩) n1 n1) P.lanes
  bells : Prs 129 w base (.slice (some ⟨g2, 0, none⟩) n2 n2) P.bells
  plan : Prs 123 w base (.slice (some ⟨g3, 0, none⟩) n3 n3) P.plan
theorem Mde.keep {w w' : World} {base g0 g1 g2 g3 n0 n1 n2 n3 : Nat} {P : Plc} (h : Mde w base g0 g1 g2 g3 n0 n1 n2 n3 P) (b : Below w.heap.size w w') : Mde w' base g0 g1 g2 g3 n0 n1 n2 n3 P :=
  ⟨h.own.keep b, h.lanes.keep b, h.bells.keep b, h.plan.keep b⟩
theorem Mde.pl {w : World} {base g0 g1 g2 g3 n0 n1 n2 n3 : Nat} {P : Plc} (h : Mde w base g0 g1 g2 g3 n0 n1 n2 n3 P) : Pl w (some ⟨g0, 0, none⟩) n0 n0 (some ⟨g1, 0, none⟩) n1 n1 (some ⟨g2, 0, none⟩) n2 n2 (some ⟨g3, 0, none⟩) n3 n3 P :=
  ⟨h.own.read, h.lanes.read, h.bells.read, h.plan.read⟩
theorem SSo.mono {w : World} {base base' g n : Nat} {oss : List (List Int)} (h : SSo w base g n oss) (hb : base' ≤ base) : SSo w base' g n oss :=
  ⟨h.len, h.small, Nat.le_trans hb h.low, fun i hi => by
    obtain ⟨x, l, c, k1, k2⟩ := h.row i hi
    exact ⟨x, l, c, k1, k2.mono hb⟩⟩
theorem Ls.mono {e : TypeId} {w : World} {base base' : Nat} {v : Value} {rs : List Ln} (h : Ls e w base v rs) (hb : base' ≤ base) : Ls e w base' v rs := by
  obtain ⟨h1, h2 | ⟨g, cap, cur, hv, hg, hr⟩⟩ := h
  · exact ⟨h1, .inl h2⟩
  · exact ⟨h1, .inr ⟨g, cap, cur, hv, Nat.le_trans hb hg, hr⟩⟩
theorem Prs.mono' {e : TypeId} {w : World} {base base' : Nat} {v : Value} {rs : List (Int × Int)} (h : Prs e w base v rs) (hb : base' ≤ base) : Prs e w base' v rs := by
  obtain ⟨h1, h2 | ⟨g, cap, cur, hv, hg, hr⟩⟩ := h
  · exact ⟨h1, .inl h2⟩
  · exact ⟨h1, .inr ⟨g, cap, cur, hv, Nat.le_trans hb hg, hr⟩⟩

set_option maxHeartbeats 4000000 in
theorem eq_policy (g0 g1 g2 g3 k0 k1 k2 k3 n0 n1 n2 n3 : Nat) (P : Plc) (b c : Nat) (w : World) (h : Mde w b g0 g1 g2 g3 n0 n1 n2 n3 P) (k : Mde w c k0 k1 k2 k3 n0 n1 n2 n3 P) :
    Calls Tryz.prog 29 #[.agg #[.slice (some ⟨g0, 0, none⟩) n0 n0, .slice (some ⟨g1, 0, none⟩) n1 n1, .slice (some ⟨g2, 0, none⟩) n2 n2, .slice (some ⟨g3, 0, none⟩) n3 n3],
      .agg #[.slice (some ⟨k0, 0, none⟩) n0 n0, .slice (some ⟨k1, 0, none⟩) n1 n1, .slice (some ⟨k2, 0, none⟩) n2 n2, .slice (some ⟨k3, 0, none⟩) n3 n3]] w fun e w' => e = .returned (.bool true) ∧ Below w.heap.size w w' := by
  generalize hW : (w.alloc (.cells #[.slice (some ⟨g0, 0, none⟩) n0 n0, .slice (some ⟨g1, 0, none⟩) n1 n1, .slice (some ⟨g2, 0, none⟩) n2 n2, .slice (some ⟨g3, 0, none⟩) n3 n3] 37)).alloc (.cells #[.slice (some ⟨k0, 0, none⟩) n0 n0, .slice (some ⟨k1, 0, none⟩) n1 n1, .slice (some ⟨k2, 0, none⟩) n2 n2, .slice (some ⟨k3, 0, none⟩) n3 n3] 37) = W
  have B0 : Hid (Below w.heap.size w W) := by show Below _ _ _; rw [← hW]; exact al (al (Below.refl _ _) _) _
  have Q : Hid (W.cell? ⟨w.heap.size, 0, none⟩ = some (.slice (some ⟨g0, 0, none⟩) n0 n0) ∧ W.cell? ⟨w.heap.size, 1, none⟩ = some (.slice (some ⟨g1, 0, none⟩) n1 n1) ∧ W.cell? ⟨w.heap.size, 2, none⟩ = some (.slice (some ⟨g2, 0, none⟩) n2 n2) ∧ W.cell? ⟨w.heap.size, 3, none⟩ = some (.slice (some ⟨g3, 0, none⟩) n3 n3)) := by
    show _ ∧ _
    rw [← hW]
    exact ⟨cell_push _ (cell_new rfl), cell_push _ (cell_new rfl), cell_push _ (cell_new rfl), cell_push _ (cell_new rfl)⟩
  have K : Hid (W.cell? ⟨w.heap.size + 1, 0, none⟩ = some (.slice (some ⟨k0, 0, none⟩) n0 n0) ∧ W.cell? ⟨w.heap.size + 1, 1, none⟩ = some (.slice (some ⟨k1, 0, none⟩) n1 n1) ∧ W.cell? ⟨w.heap.size + 1, 2, none⟩ = some (.slice (some ⟨k2, 0, none⟩) n2 n2) ∧ W.cell? ⟨w.heap.size + 1, 3, none⟩ = some (.slice (some ⟨k3, 0, none⟩) n3 n3)) := by
    show _ ∧ _
    rw [← hW]
    simp
  have HM : Hid (Mde W b g0 g1 g2 g3 n0 n1 n2 n3 P) := h.keep B0.out
  have KM : Hid (Mde W c k0 k1 k2 k3 n0 n1 n2 n3 P) := k.keep B0.out
  clear h k
  have q0 := Q.out.1
  have s0 := K.out.1
  go_enter Tryz.func29, Tryz.ntmps29
  go_wp2_with fail
  clear hW
  refine (eq_ss _ _ _ _ _ _ _ HM.out.own KM.out.own).mono ?_
  rintro e w1 ⟨rfl, b1⟩
  have q1 := cell_keep b1 Q.out.2.1
  have s1 := cell_keep b1 K.out.2.1
  go_wp2_with fail
  refine (eq_lanes _ _ _ _ _ _ (HM.out.lanes.keep b1) (KM.out.lanes.keep b1)).mono ?_
  rintro e w2 ⟨rfl, b2⟩
  have b2 := on b1 b2
  have q2 := cell_keep b2 Q.out.2.2.1
  have s2 := cell_keep b2 K.out.2.2.1
  go_wp2_with fail
  refine (eq_bells _ _ _ _ _ _ (HM.out.bells.keep b2) (KM.out.bells.keep b2)).mono ?_
  rintro e w3 ⟨rfl, b3⟩
  have b3 := on b2 b3
  have q3 := cell_keep b3 Q.out.2.2.2
  have s3 := cell_keep b3 K.out.2.2.2
  go_wp2_with fail
  refine (eq_slots _ _ _ _ _ _ (HM.out.plan.keep b3) (KM.out.plan.keep b3)).mono ?_
  rintro e w4 ⟨rfl, b4⟩
  go_wp2_with fail
  go_ret
  exact ⟨rfl, on B0.out (on b3 b4)⟩

/-- From one world to another: blocks from base on stay. -/
structure Hi (base : Nat) (w w' : World) : Prop where
  size : w.heap.size ≤ w'.heap.size
  block : ∀ k, base ≤ k → k < w.heap.size → w'.heap[k]? = w.heap[k]?
theorem Hi.refl (base : Nat) (w : World) : Hi base w w := ⟨Nat.le_refl _, fun _ _ _ => rfl⟩
theorem Hi.trans {base : Nat} {a b c : World} (h : Hi base a b) (k : Hi base b c) : Hi base a c :=
  ⟨Nat.le_trans h.size k.size, fun i hb hi => (k.block i hb (Nat.lt_of_lt_of_le hi h.size)).trans (h.block i hb hi)⟩
theorem Hi.of {base : Nat} {w w' : World} (h : Below w.heap.size w w') : Hi base w w' := ⟨h.size, fun k _ hk => h.block k hk⟩
theorem Hi.set {base : Nat} (w : World) (p : Addr) (u : Value) (h : p.block < base) : Hi base w (w.setCell p u) :=
  ⟨(grown_set w p u).size, fun k hb hk => (grown_set w p u).block k hk (fun e => by cases e; omega)⟩
theorem cell_hi {base : Nat} {w w' : World} (H : Hi base w w') {p : Addr} {v : Value} (hp : base ≤ p.block) (h : w.cell? p = some v) : w'.cell? p = some v := by
  have hb := block_of_cell h
  unfold World.cell? at *
  rw [H.block _ hp hb]
  exact h
theorem row_hi {base e sz n : Nat} {v : Value} {w w' : World} {xs : List Value} (h : w.ownsRow base e sz v n xs) (H : Hi base w w') : w'.ownsRow base e sz v n xs := by
  obtain ⟨h1, h2 | ⟨g, cap, cur, hv, hg, hr, rest⟩⟩ := h
  · exact ⟨h1, .inl h2⟩
  · refine ⟨h1, .inr ⟨g, cap, cur, hv, hg, ?_, rest⟩⟩
    rw [H.block g hg ((Array.getElem?_eq_some_iff.1 hr).1)]
    exact hr
theorem SSo.hi {w w' : World} {base g n : Nat} {oss : List (List Int)} (h : SSo w base g n oss) (H : Hi base w w') : SSo w' base g n oss :=
  ⟨h.len, h.small, h.low, fun i hi => by
    obtain ⟨x, l, c, k1, k2⟩ := h.row i hi
    exact ⟨x, l, c, cell_hi H h.low k1, row_hi k2 H⟩⟩

theorem fz_new (w : World) (cs : Array Value) (t : TypeId) (i : Nat) : (w.alloc (.cells cs t)).frozen? ⟨w.heap.size, i, none⟩ = false := by simp
theorem fz_old (w : World) (o : Obj) (p : Addr) (hp : p.block < w.heap.size) (h : w.frozen? p = false) : (w.alloc o).frozen? p = false := by
  rw [World.frozen?_alloc_old _ _ p (Nat.ne_of_lt hp)]; exact h
/-- What toPolicy has under way: the policy that came in (A), the answer's place, and what is made so far (x). -/
structure Stt (v : World) (s : Nat) (A x : Nat → Value) : Prop where
  A : ∀ i, i < 4 → v.cell? ⟨s, i, none⟩ = some (A i)
  O : ∀ i, i < 4 → v.cell? ⟨s + 1 + 1, i, none⟩ = some (x i) ∧ v.frozen? ⟨s + 1 + 1, i, none⟩ = false
  R : ∀ i, i < 4 → v.cell? ⟨s + 1, i, none⟩ = some (.slice none 0 0) ∧ v.frozen? ⟨s + 1, i, none⟩ = false
  lt : s + 1 + 1 < v.heap.size
theorem Stt.keep {v v' : World} {s : Nat} {A x : Nat → Value} (h : Stt v s A x) (b : Below v.heap.size v v') : Stt v' s A x :=
  ⟨fun i hi => cell_keep b (h.A i hi),
   fun i hi => ⟨cell_keep b (h.O i hi).1, by rw [b.frozen (p := ⟨s + 1 + 1, i, none⟩) h.lt]; exact (h.O i hi).2⟩,
   fun i hi => ⟨cell_keep b (h.R i hi).1, by rw [b.frozen (p := ⟨s + 1, i, none⟩) (by have := h.lt; show s + 1 < _; omega)]; exact (h.R i hi).2⟩,
   Nat.lt_of_lt_of_le h.lt b.size⟩
theorem Stt.put {v : World} {s : Nat} {A x : Nat → Value} (h : Stt v s A x) (j : Nat) (hj : j < 4) (u : Value) : Stt (v.setCell ⟨s + 1 + 1, j, none⟩ u) s A (fun i => if i = j then u else x i) := by
  refine ⟨fun i hi => ?_, fun i hi => ⟨?_, by rw [World.frozen?_setCell]; exact (h.O i hi).2⟩, fun i hi => ⟨?_, by rw [World.frozen?_setCell]; exact (h.R i hi).2⟩, Nat.lt_of_lt_of_le h.lt (grown_set v _ u).size⟩
  · rw [World.cell?_setCell_other _ _ _ _ (by intro e; have := congrArg Addr.block e; simp at this; omega)]
    exact h.A i hi
  · by_cases e : i = j
    · subst e
      rw [if_pos rfl]
      exact World.cell?_setCell_same _ _ _ (h.O i hi).1
    · rw [if_neg e, World.cell?_setCell_other _ _ _ _ (by intro h; cases h; exact e rfl)]
      exact (h.O i hi).1
  · rw [World.cell?_setCell_other _ _ _ _ (by intro e; have := congrArg Addr.block e; simp at this)]
    exact (h.R i hi).1
theorem row_up {base base' e sz n : Nat} {v : Value} {w : World} {xs : List Value} (h : w.ownsRow base e sz v n xs) (hb : base' ≤ base) : w.ownsRow base' e sz v n xs := by
  obtain ⟨h1, h2 | ⟨g, cap, cur, hv, hg, hr⟩⟩ := h
  · exact ⟨h1, .inl h2⟩
  · exact ⟨h1, .inr ⟨g, cap, cur, hv, Nat.le_trans hb hg, hr⟩⟩

set_option maxHeartbeats 4000000 in
theorem to_policy (a0 a1 a2 a3 : Option Addr) (n0 c0 n1 c1 n2 c2 n3 c3 : Nat) (P : Plc) (w : World) (h : Pin w a0 n0 c0 a1 n1 c1 a2 n2 c2 a3 n3 c3 P) (hs : Small n0 n1 n2 n3 P) :
    Calls Tryz.prog 23 #[.agg #[.slice a0 n0 c0, .slice a1 n1 c1, .slice a2 n2 c2, .slice a3 n3 c3]] w fun e w' => ∃ g0 g1 g2 g3, e = .returned (.agg #[.slice (some ⟨g0, 0, none⟩) n0 n0, .slice (some ⟨g1, 0, none⟩) n1 n1, .slice (some ⟨g2, 0, none⟩) n2 n2, .slice (some ⟨g3, 0, none⟩) n3 n3]) ∧
      Mde w' w.heap.size g0 g1 g2 g3 n0 n1 n2 n3 P ∧ Below w.heap.size w w' := by
  have HS : Hid (Small n0 n1 n2 n3 P) := hs
  have HP : Hid (Pin w a0 n0 c0 a1 n1 c1 a2 n2 c2 a3 n3 c3 P) := h
  clear h hs
  generalize hW : ((w.alloc (.cells #[.slice a0 n0 c0, .slice a1 n1 c1, .slice a2 n2 c2, .slice a3 n3 c3] 27)).alloc (.cells #[.slice none 0 0, .slice none 0 0, .slice none 0 0, .slice none 0 0] 37)).alloc (.cells #[.slice none 0 0, .slice none 0 0, .slice none 0 0, .slice none 0 0] 37) = W
  have B0 : Hid (Below w.heap.size w W) := by show Below _ _ _; rw [← hW]; exact al (al (al (Below.refl _ _) _) _) _
  have SZ : Hid (W.heap.size = w.heap.size + 3) := by show _ = _; rw [← hW]; simp
  obtain ⟨s, hS⟩ : ∃ s, w.heap.size = s := ⟨_, rfl⟩
  have HSs : Hid (w.heap.size = s) := hS
  have S0 : Hid (Stt W s (fun i => match i with | 0 => .slice a0 n0 c0 | 1 => .slice a1 n1 c1 | 2 => .slice a2 n2 c2 | _ => .slice a3 n3 c3) (fun _ => .slice none 0 0)) := by
    have z1 : s + 1 = (w.alloc (.cells #[.slice a0 n0 c0, .slice a1 n1 c1, .slice a2 n2 c2, .slice a3 n3 c3] 27)).heap.size := by rw [← hS]; simp
    have z2 : s + 1 + 1 = ((w.alloc (.cells #[.slice a0 n0 c0, .slice a1 n1 c1, .slice a2 n2 c2, .slice a3 n3 c3] 27)).alloc (.cells #[.slice none 0 0, .slice none 0 0, .slice none 0 0, .slice none 0 0] 37)).heap.size := by rw [← hS]; simp
    have four : ∀ i : Nat, i < 4 → i = 0 ∨ i = 1 ∨ i = 2 ∨ i = 3 := fun i hi => by omega
    refine ⟨fun i hi => ?_, fun i hi => ?_, fun i hi => ?_, by rw [SZ.out, hS]; omega⟩
    · rw [← hW, ← hS]
      rcases four i hi with rfl | rfl | rfl | rfl <;> exact cell_push _ (cell_push _ (cell_new rfl))
    · rw [← hW, z2]
      rcases four i hi with rfl | rfl | rfl | rfl <;> exact ⟨cell_new rfl, fz_new _ _ _ _⟩
    · rw [← hW, z1]
      rcases four i hi with rfl | rfl | rfl | rfl <;> exact ⟨cell_push _ (cell_new rfl), fz_old _ _ _ (by simp) (fz_new _ _ _ _)⟩
  have a0' := S0.out.A 0 (by omega)
  go_enter Tryz.func23, Tryz.ntmps23
  go_wp2_with fail
  clear hW a0'
  refine (to_ss _ _ _ _ _ (HP.out.own.stay B0.out) HS.out.own HS.out.each).mono ?_
  rintro e w1 ⟨g0, rfl, m0, b1⟩
  have S1 := S0.out.keep b1
  have S1' := S1.put 0 (by omega) (.slice (some ⟨g0, 0, none⟩) n0 n0)
  have o1 := (S1.O 0 (by omega)).1
  have f1 := (S1.O 0 (by omega)).2
  have t1 := S1'.A 1 (by omega)
  simp only at t1
  have M0 : Hid (SSo w1 (s + 3) g0 n0 P.own) := m0.mono (by have := SZ.out; have := HSs.out; omega)
  have V1 : Hid (Below w.heap.size w (w1.setCell ⟨s + 1 + 1, 0, none⟩ (.slice (some ⟨g0, 0, none⟩) n0 n0))) := (on B0.out b1).setCell (by have := HSs.out; show w.heap.size ≤ s + 1 + 1; omega) _
  have H1 : Hid (Hi (s + 3) w1 (w1.setCell ⟨s + 1 + 1, 0, none⟩ (.slice (some ⟨g0, 0, none⟩) n0 n0))) := Hi.set _ _ _ (by show s + 1 + 1 < s + 3; omega)
  have Z1 : Hid (s + 3 ≤ (w1.setCell ⟨s + 1 + 1, 0, none⟩ (.slice (some ⟨g0, 0, none⟩) n0 n0)).heap.size) := by have := S1'.lt; show _ ≤ _; omega
  have SS1 : Hid (Stt _ s _ _) := S1'
  clear S1 S1' m0 b1
  go_wp2_with fail
  generalize w1.setCell ⟨s + 1 + 1, 0, none⟩ (.slice (some ⟨g0, 0, none⟩) n0 n0) = v1 at *
  clear o1 f1 t1
  refine (to_lanes _ _ _ _ _ (HP.out.lanes.stay V1.out) HS.out.lanes).mono ?_
  rintro e w2 ⟨g1, rfl, m1, b2⟩
  have S2 := SS1.out.keep b2
  have S2' := S2.put 1 (by omega) (.slice (some ⟨g1, 0, none⟩) n1 n1)
  have o1 := (S2.O 1 (by omega)).1
  have f1 := (S2.O 1 (by omega)).2
  have t1 := S2'.A 2 (by omega)
  simp only at t1
  have M1 : Hid (Ls 125 w2 (s + 3) (.slice (some ⟨g1, 0, none⟩) n1 n1) P.lanes) := row_up m1 Z1.out
  have V2 : Hid (Below w.heap.size w (w2.setCell ⟨s + 1 + 1, 1, none⟩ (.slice (some ⟨g1, 0, none⟩) n1 n1))) := (on V1.out b2).setCell (by have := HSs.out; show w.heap.size ≤ s + 1 + 1; omega) _
  have H2 : Hid (Hi (s + 3) w2 (w2.setCell ⟨s + 1 + 1, 1, none⟩ (.slice (some ⟨g1, 0, none⟩) n1 n1))) := Hi.set _ _ _ (by show s + 1 + 1 < s + 3; omega)
  have H12 : Hid (Hi (s + 3) w1 w2) := H1.out.trans (Hi.of b2)
  have Z2 : Hid (s + 3 ≤ (w2.setCell ⟨s + 1 + 1, 1, none⟩ (.slice (some ⟨g1, 0, none⟩) n1 n1)).heap.size) := by have := S2'.lt; show _ ≤ _; omega
  have SS2 : Hid (Stt _ s _ _) := S2'
  clear S2 S2' m1 b2
  go_wp2_with fail
  generalize w2.setCell ⟨s + 1 + 1, 1, none⟩ (.slice (some ⟨g1, 0, none⟩) n1 n1) = v2 at *
  clear o1 f1 t1
  refine (to_bells _ _ _ _ _ (HP.out.bells.stay V2.out) HS.out.bells).mono ?_
  rintro e w3 ⟨g2, rfl, m2, b3⟩
  have S3 := SS2.out.keep b3
  have S3' := S3.put 2 (by omega) (.slice (some ⟨g2, 0, none⟩) n2 n2)
  have o1 := (S3.O 2 (by omega)).1
  have f1 := (S3.O 2 (by omega)).2
  have t1 := S3'.A 3 (by omega)
  simp only at t1
  have M2 : Hid (Prs 129 w3 (s + 3) (.slice (some ⟨g2, 0, none⟩) n2 n2) P.bells) := row_up m2 Z2.out
  have V3 : Hid (Below w.heap.size w (w3.setCell ⟨s + 1 + 1, 2, none⟩ (.slice (some ⟨g2, 0, none⟩) n2 n2))) := (on V2.out b3).setCell (by have := HSs.out; show w.heap.size ≤ s + 1 + 1; omega) _
  have H3 : Hid (Hi (s + 3) w3 (w3.setCell ⟨s + 1 + 1, 2, none⟩ (.slice (some ⟨g2, 0, none⟩) n2 n2))) := Hi.set _ _ _ (by show s + 1 + 1 < s + 3; omega)
  have H23 : Hid (Hi (s + 3) w2 w3) := H2.out.trans (Hi.of b3)
  have Z3 : Hid (s + 3 ≤ (w3.setCell ⟨s + 1 + 1, 2, none⟩ (.slice (some ⟨g2, 0, none⟩) n2 n2)).heap.size) := by have := S3'.lt; show _ ≤ _; omega
  have SS3 : Hid (Stt _ s _ _) := S3'
  clear S3 S3' m2 b3
  go_wp2_with fail
  generalize w3.setCell ⟨s + 1 + 1, 2, none⟩ (.slice (some ⟨g2, 0, none⟩) n2 n2) = v3 at *
  clear o1 f1 t1
  refine (to_slots _ _ _ _ _ (HP.out.plan.stay V3.out) HS.out.plan).mono ?_
  rintro e w4 ⟨g3, rfl, m3, b4⟩
  have S4 := SS3.out.keep b4
  have S4' := S4.put 3 (by omega) (.slice (some ⟨g3, 0, none⟩) n3 n3)
  have o1 := (S4.O 3 (by omega)).1
  have f1 := (S4.O 3 (by omega)).2
  have p0 := (S4'.O 0 (by omega)).1
  have p1 := (S4'.O 1 (by omega)).1
  have p2 := (S4'.O 2 (by omega)).1
  have p3 := (S4'.O 3 (by omega)).1
  simp only [reduceIte, Nat.reduceEqDiff] at p0 p1 p2 p3
  obtain ⟨r0, y0⟩ := S4'.R 0 (by omega)
  obtain ⟨r1, y1⟩ := S4'.R 1 (by omega)
  obtain ⟨r2, y2⟩ := S4'.R 2 (by omega)
  obtain ⟨r3, y3⟩ := S4'.R 3 (by omega)
  have M3 : Hid (Prs 123 w4 (s + 3) (.slice (some ⟨g3, 0, none⟩) n3 n3) P.plan) := row_up m3 Z3.out
  have V4 : Hid (Below w.heap.size w (w4.setCell ⟨s + 1 + 1, 3, none⟩ (.slice (some ⟨g3, 0, none⟩) n3 n3))) := (on V3.out b4).setCell (by have := HSs.out; show w.heap.size ≤ s + 1 + 1; omega) _
  have H4 : Hid (Hi (s + 3) w4 (w4.setCell ⟨s + 1 + 1, 3, none⟩ (.slice (some ⟨g3, 0, none⟩) n3 n3))) := Hi.set _ _ _ (by show s + 1 + 1 < s + 3; omega)
  have H34 : Hid (Hi (s + 3) w3 w4) := H3.out.trans (Hi.of b4)
  clear S4 S4' m3 b4
  go_wp2_with fail
  have F : Hid (Below w.heap.size w _ ∧ Hi (s + 3) w4 _) := ⟨(((V4.out.setCell (p := ⟨s + 1, 0, none⟩) (by have := HSs.out; show w.heap.size ≤ s + 1; omega) (.slice (some ⟨g0, 0, none⟩) n0 n0)).setCell (p := ⟨s + 1, 1, none⟩) (by have := HSs.out; show w.heap.size ≤ s + 1; omega) (.slice (some ⟨g1, 0, none⟩) n1 n1)).setCell (p := ⟨s + 1, 2, none⟩) (by have := HSs.out; show w.heap.size ≤ s + 1; omega) (.slice (some ⟨g2, 0, none⟩) n2 n2)).setCell (p := ⟨s + 1, 3, none⟩) (by have := HSs.out; show w.heap.size ≤ s + 1; omega) (.slice (some ⟨g3, 0, none⟩) n3 n3),
    (((H4.out.trans (Hi.set _ ⟨s + 1, 0, none⟩ (.slice (some ⟨g0, 0, none⟩) n0 n0) (by show s + 1 < s + 3; omega))).trans (Hi.set _ ⟨s + 1, 1, none⟩ (.slice (some ⟨g1, 0, none⟩) n1 n1) (by show s + 1 < s + 3; omega))).trans (Hi.set _ ⟨s + 1, 2, none⟩ (.slice (some ⟨g2, 0, none⟩) n2 n2) (by show s + 1 < s + 3; omega))).trans (Hi.set _ ⟨s + 1, 3, none⟩ (.slice (some ⟨g3, 0, none⟩) n3 n3) (by show s + 1 < s + 3; omega))⟩
  refine bodyPost_ret (v := .agg #[.slice (some ⟨g0, 0, none⟩) n0 n0, .slice (some ⟨g1, 0, none⟩) n1 n1, .slice (some ⟨g2, 0, none⟩) n2 n2, .slice (some ⟨g3, 0, none⟩) n3 n3]) (by simp [results, Tryz.results23, go_sem, r0, r1, r2, r3]) rfl
    ⟨g0, g1, g2, g3, rfl, ⟨(M0.out.hi (H12.out.trans (H23.out.trans (H34.out.trans F.out.2)))).mono (by have := HSs.out; omega), row_up (row_hi M1.out (H23.out.trans (H34.out.trans F.out.2))) (by have := HSs.out; omega), row_up (row_hi M2.out (H34.out.trans F.out.2)) (by have := HSs.out; omega), row_up (row_hi M3.out F.out.2) (by have := HSs.out; omega)⟩, F.out.1⟩
end Go.Proofs.YtggejbphdadckaaGreatDoor
