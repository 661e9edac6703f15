/- Texts of this seat, joined. -/
import Derived.Test.YtggejbphdadckaaGreatDoorQ11
namespace Go.Proofs.YtggejbphdadckaaGreatDoor
open Go.RowKit
set_option linter.unusedVariables false
structure Pin (w : World) (a0 : Option Addr) (n0 c0 : Nat) (a1 : Option Addr) (n1 c1 : Nat) (a2 : Option Addr) (n2 c2 : Nat) (a3 : Option Addr) (n3 c3 : Nat) (P : Plc) : Prop where
  own : IsSS w a0 n0 c0 P.own
  lanes : IsLanes w a1 n1 c1 P.lanes
  bells : IsPairs w a2 n2 c2 P.bells
  plan : IsPairs w a3 n3 c3 P.plan
theorem Pin.stay {w w' : World} {a0 a1 a2 a3 : Option Addr} {n0 c0 n1 c1 n2 c2 n3 c3 : Nat} {P : Plc} (h : Pin w a0 n0 c0 a1 n1 c1 a2 n2 c2 a3 n3 c3 P) (b : Below w.heap.size w w') : Pin w' a0 n0 c0 a1 n1 c1 a2 n2 c2 a3 n3 c3 P :=
  ⟨h.own.stay b, h.lanes.stay b, h.bells.stay b, h.plan.stay b⟩
structure Small (n0 n1 n2 n3 : Nat) (P : Plc) : Prop where
  own : n0 ≤ 1048576
  each : ∀ i, i < n0 → (P.own.getD i []).length ≤ 1048576
  lanes : n1 ≤ 1048576
  bells : n2 ≤ 1048576
  plan : n3 ≤ 1048576
theorem lim {n c : Nat} (h : n ≤ c ∧ c ≤ maxLen) : n ≤ 9223372036854775807 := by have := h; unfold maxLen at this; omega
set_option maxHeartbeats 2000000 in
theorem sz_policy (a0 a1 a2 a3 : Option Addr) (n0 c0 n1 c1 n2 c2 n3 c3 : Nat) (P : Plc) (w : World) (h : Pin w a0 n0 c0 a1 n1 c1 a2 n2 c2 a3 n3 c3 P) :
    Calls Tryz.prog 16 #[.agg #[.slice a0 n0 c0, .slice a1 n1 c1, .slice a2 n2 c2, .slice a3 n3 c3], .int .i64 1048576] w fun e w' => (∃ r : Int, e = .returned (.int .i64 r) ∧ r ≤ 1048576 ∧ (0 ≤ r → Small n0 n1 n2 n3 P)) ∧ Below w.heap.size w w' := by
  have HO : Hid (IsSS (w.alloc (.cells #[.slice a0 n0 c0, .slice a1 n1 c1, .slice a2 n2 c2, .slice a3 n3 c3] 27)) a0 n0 c0 P.own) := h.own.stay (al (Below.refl _ _) _)
  have L1 : Hid (n1 ≤ 9223372036854775807) := lim h.lanes.cap
  have L2 : Hid (n2 ≤ 9223372036854775807) := lim h.bells.cap
  have L3 : Hid (n3 ≤ 9223372036854775807) := lim h.plan.cap
  clear h
  go_enter Tryz.func16, Tryz.ntmps16
  go_wp2_with fail
  refine (sz_ss _ _ _ _ _ _ HO.out (by decide) (by decide)).mono ?_
  rintro e w1 ⟨⟨r0, rfl, hr0, hs0⟩, rfl⟩
  by_cases h0 : r0 < 0
  · go_wp2_with fail
    go_ret
    exact ⟨⟨-1, rfl, by omega, fun h => by omega⟩, al (Below.refl _ _) _⟩
  have SS : Hid _ := hs0 (by omega)
  have E0 : Hid (0 ≤ r0 ∧ r0 ≤ 1048576) := ⟨by omega, hr0⟩
  clear hs0
  by_cases h1 : r0 - n1 < 0
  · have H1 : Hid (r0 - n1 < 0) := h1
    go_wp2_with fail
    refine (sz_lanes _ _ _ _ _ L1.out E0.out.1 E0.out.2).mono ?_
    rintro e w2 ⟨rfl, rfl⟩
    rw [if_pos H1.out]
    go_wp2_with fail
    go_ret
    exact ⟨⟨-1, rfl, by omega, fun h => by omega⟩, al (Below.refl _ _) _⟩
  have H1 : Hid (¬ r0 - n1 < 0) := h1
  have E1 : Hid (0 ≤ r0 - n1 ∧ r0 - n1 ≤ 1048576) := ⟨by omega, by omega⟩
  have e1 : 0 ≤ r0 - n1 := E1.out.1
  by_cases h2 : r0 - n1 - n2 < 0
  · have H2 : Hid (r0 - n1 - n2 < 0) := h2
    go_wp2_with fail
    refine (sz_lanes _ _ _ _ _ L1.out E0.out.1 E0.out.2).mono ?_
    rintro e w2 ⟨rfl, rfl⟩
    rw [if_neg (by have := H1.out; omega)]
    go_wp2_with fail
    refine (sz_bells _ _ _ _ _ L2.out E1.out.1 E1.out.2).mono ?_
    rintro e w2 ⟨rfl, rfl⟩
    rw [if_pos H2.out]
    go_wp2_with fail
    go_ret
    exact ⟨⟨-1, rfl, by omega, fun h => by omega⟩, al (Below.refl _ _) _⟩
  have H2 : Hid (¬ r0 - n1 - n2 < 0) := h2
  have E2 : Hid (0 ≤ r0 - n1 - n2 ∧ r0 - n1 - n2 ≤ 1048576) := ⟨by omega, by omega⟩
  have e2 : 0 ≤ r0 - n1 - n2 := E2.out.1
  by_cases h3 : r0 - n1 - n2 - n3 < 0
  · have H3 : Hid (r0 - n1 - n2 - n3 < 0) := h3
    go_wp2_with fail
    refine (sz_lanes _ _ _ _ _ L1.out E0.out.1 E0.out.2).mono ?_
    rintro e w2 ⟨rfl, rfl⟩
    rw [if_neg (by have := H1.out; omega)]
    go_wp2_with fail
    refine (sz_bells _ _ _ _ _ L2.out E1.out.1 E1.out.2).mono ?_
    rintro e w2 ⟨rfl, rfl⟩
    rw [if_neg (by have := H2.out; omega)]
    go_wp2_with fail
    refine (sz_slots _ _ _ _ _ L3.out E2.out.1 E2.out.2).mono ?_
    rintro e w2 ⟨rfl, rfl⟩
    rw [if_pos H3.out]
    go_wp2_with fail
    go_ret
    exact ⟨⟨-1, rfl, by omega, fun h => by omega⟩, al (Below.refl _ _) _⟩
  have H3 : Hid (¬ r0 - n1 - n2 - n3 < 0) := h3
  have e3 : 0 ≤ r0 - n1 - n2 - n3 := by omega
  have SM : Hid (Small n0 n1 n2 n3 P) := ⟨SS.out.1, SS.out.2, by omega, by omega, by omega⟩
  have hb : Hid (r0 - n1 - n2 - n3 ≤ 1048576) := by show _ ≤ _; omega
  go_wp2_with fail
  refine (sz_lanes _ _ _ _ _ L1.out E0.out.1 E0.out.2).mono ?_
  rintro e w2 ⟨rfl, rfl⟩
  rw [if_neg (by have := H1.out; omega)]
  go_wp2_with fail
  refine (sz_bells _ _ _ _ _ L2.out E1.out.1 E1.out.2).mono ?_
  rintro e w2 ⟨rfl, rfl⟩
  rw [if_neg (by have := H2.out; omega)]
  go_wp2_with fail
  refine (sz_slots _ _ _ _ _ L3.out E2.out.1 E2.out.2).mono ?_
  rintro e w2 ⟨rfl, rfl⟩
  rw [if_neg (by have := H3.out; omega)]
  go_wp2_with fail
  go_ret
  exact ⟨⟨_, rfl, hb.out, fun _ => SM.out⟩, al (Below.refl _ _) _⟩
structure Mde (w : World) (base g0 g1 g2 g3 n0 n1 n2 n3 : Nat) (P : Plc) : Prop where
  own : SSo w base g0 n0 P.own
  lanes : Ls 125 w base (.slice (some ⟨g1, 0, none⟩) n1 n1) P.lanes
  bells : Prs 129 w base (.slice (some ⟨g2, 0, none⟩) n2 n2) P.bells
  plan : Prs 123 w base (.slice (some ⟨g3, 0, none⟩) n3 n3) P.plan
theorem Mde.keep {w w' : World} {base g0 g1 g2 g3 n0 n1 n2 n3 : Nat} {P : Plc} (h : Mde w base g0 g1 g2 g3 n0 n1 n2 n3 P) (b : Below w.heap.size w w') : Mde w' base g0 g1 g2 g3 n0 n1 n2 n3 P :=
  ⟨h.own.keep b, h.lanes.keep b, h.bells.keep b, h.plan.keep b⟩
theorem Mde.pl {w : World} {base g0 g1 g2 g3 n0 n1 n2 n3 : Nat} {P : Plc} (h : Mde w base g0 g1 g2 g3 n0 n1 n2 n3 P) : Pl w (some ⟨g0, 0, none⟩) n0 n0 (some ⟨g1, 0, none⟩) n1 n1 (some ⟨g2, 0, none⟩) n2 n2 (some ⟨g3, 0, none⟩) n3 n3 P :=
  ⟨h.own.read, h.lanes.read, h.bells.read, h.plan.read⟩
theorem SSo.mono {w : World} {base base' g n : Nat} {oss : List (List Int)} (h : SSo w base g n oss) (hb : base' ≤ base) : SSo w base' g n oss :=
  ⟨h.len, h.small, Nat.le_trans hb h.low, fun i hi => by
    obtain ⟨x, l, c, k1, k2⟩ := h.row i hi
    exact ⟨x, l, c, k1, k2.mono hb⟩⟩
theorem Ls.mono {e : TypeId} {w : World} {base base' : Nat} {v : Value} {rs : List Ln} (h : Ls e w base v rs) (hb : base' ≤ base) : Ls e w base' v rs := by
  obtain ⟨h1, h2 | ⟨g, cap, cur, hv, hg, hr⟩⟩ := h
  · exact ⟨h1, .inl h2⟩
  · exact ⟨h1, .inr ⟨g, cap, cur, hv, Nat.le_trans hb hg, hr⟩⟩
theorem Prs.mono' {e : TypeId} {w : World} {base base' : Nat} {v : Value} {rs : List (Int × Int)} (h : Prs e w base v rs) (hb : base' ≤ base) : Prs e w base' v rs := by
  obtain ⟨h1, h2 | ⟨g, cap, cur, hv, hg, hr⟩⟩ := h
  · exact ⟨h1, .inl h2⟩
  · exact ⟨h1, .inr ⟨g, cap, cur, hv, Nat.le_trans hb hg, hr⟩⟩
set_option maxHeartbeats 4000000 in
theorem eq_policy (g0 g1 g2 g3 k0 k1 k2 k3 n0 n1 n2 n3 : Nat) (P : Plc) (b c : Nat) (w : World) (h : Mde w b g0 g1 g2 g3 n0 n1 n2 n3 P) (k : Mde w c k0 k1 k2 k3 n0 n1 n2 n3 P) :
    Calls Tryz.prog 29 #[.agg #[.slice (some ⟨g0, 0, none⟩) n0 n0, .slice (some ⟨g1, 0, none⟩) n1 n1, .slice (some ⟨g2, 0, none⟩) n2 n2, .slice (some ⟨g3, 0, none⟩) n3 n3],
      .agg #[.slice (some ⟨k0, 0, none⟩) n0 n0, .slice (some ⟨k1, 0, none⟩) n1 n1, .slice (some ⟨k2, 0, none⟩) n2 n2, .slice (some ⟨k3, 0, none⟩) n3 n3]] w fun e w' => e = .returned (.bool true) ∧ Below w.heap.size w w' := by
  generalize hW : (w.alloc (.cells #[.slice (some ⟨g0, 0, none⟩) n0 n0, .slice (some ⟨g1, 0, none⟩) n1 n1, .slice (some ⟨g2, 0, none⟩) n2 n2, .slice (some ⟨g3, 0, none⟩) n3 n3] 37)).alloc (.cells #[.slice (some ⟨k0, 0, none⟩) n0 n0, .slice (some ⟨k1, 0, none⟩) n1 n1, .slice (some ⟨k2, 0, none⟩) n2 n2, .slice (some ⟨k3, 0, none⟩) n3 n3] 37) = W
  have B0 : Hid (Below w.heap.size w W) := by show Below _ _ _; rw [← hW]; exact al (al (Below.refl _ _) _) _
  have Q : Hid (W.cell? ⟨w.heap.size, 0, none⟩ = some (.slice (some ⟨g0, 0, none⟩) n0 n0) ∧ W.cell? ⟨w.heap.size, 1, none⟩ = some (.slice (some ⟨g1, 0, none⟩) n1 n1) ∧ W.cell? ⟨w.heap.size, 2, none⟩ = some (.slice (some ⟨g2, 0, none⟩) n2 n2) ∧ W.cell? ⟨w.heap.size, 3, none⟩ = some (.slice (some ⟨g3, 0, none⟩) n3 n3)) := by
    show _ ∧ _
    rw [← hW]
    exact ⟨cell_push _ (cell_new rfl), cell_push _ (cell_new rfl), cell_push _ (cell_new rfl), cell_push _ (cell_new rfl)⟩
  have K : Hid (W.cell? ⟨w.heap.size + 1, 0, none⟩ = some (.slice (some ⟨k0, 0, none⟩) n0 n0) ∧ W.cell? ⟨w.heap.size + 1, 1, none⟩ = some (.slice (some ⟨k1, 0, none⟩) n1 n1) ∧ W.cell? ⟨w.heap.size + 1, 2, none⟩ = some (.slice (some ⟨k2, 0, none⟩) n2 n2) ∧ W.cell? ⟨w.heap.size + 1, 3, none⟩ = some (.slice (some ⟨k3, 0, none⟩) n3 n3)) := by
    show _ ∧ _
    rw [← hW]
    simp
  have HM : Hid (Mde W b g0 g1 g2 g3 n0 n1 n2 n3 P) := h.keep B0.out
  have KM : Hid (Mde W c k0 k1 k2 k3 n0 n1 n2 n3 P) := k.keep B0.out
  clear h k
  have q0 := Q.out.1
  have s0 := K.out.1
  go_enter Tryz.func29, Tryz.ntmps29
  go_wp2_with fail
  clear hW
  refine (eq_ss _ _ _ _ _ _ _ HM.out.own KM.out.own).mono ?_
  rintro e w1 ⟨rfl, b1⟩
  have q1 := cell_keep b1 Q.out.2.1
  have s1 := cell_keep b1 K.out.2.1
  go_wp2_with fail
  refine (eq_lanes _ _ _ _ _ _ (HM.out.lanes.keep b1) (KM.out.lanes.keep b1)).mono ?_
  rintro e w2 ⟨rfl, b2⟩
  have b2 := on b1 b2
  have q2 := cell_keep b2 Q.out.2.2.1
  have s2 := cell_keep b2 K.out.2.2.1
  go_wp2_with fail
  refine (eq_bells _ _ _ _ _ _ (HM.out.bells.keep b2) (KM.out.bells.keep b2)).mono ?_
  rintro e w3 ⟨rfl, b3⟩
  have b3 := on b2 b3
  have q3 := cell_keep b3 Q.out.2.2.2
  have s3 := cell_keep b3 K.out.2.2.2
  go_wp2_with fail
  refine (eq_slots _ _ _ _ _ _ (HM.out.plan.keep b3) (KM.out.plan.keep b3)).mono ?_
  rintro e w4 ⟨rfl, b4⟩
  go_wp2_with fail
  go_ret
  exact ⟨rfl, on B0.out (on b3 b4)⟩
structure Hi (base : Nat) (w w' : World) : Prop where
  size : w.heap.size ≤ w'.heap.size
  block : ∀ k, base ≤ k → k < w.heap.size → w'.heap[k]? = w.heap[k]?
theorem Hi.refl (base : Nat) (w : World) : Hi base w w := ⟨Nat.le_refl _, fun _ _ _ => rfl⟩
theorem Hi.trans {base : Nat} {a b c : World} (h : Hi base a b) (k : Hi base b c) : Hi base a c :=
  ⟨Nat.le_trans h.size k.size, fun i hb hi => (k.block i hb (Nat.lt_of_lt_of_le hi h.size)).trans (h.block i hb hi)⟩
theorem Hi.of {base : Nat} {w w' : World} (h : Below w.heap.size w w') : Hi base w w' := ⟨h.size, fun k _ hk => h.block k hk⟩
theorem Hi.set {base : Nat} (w : World) (p : Addr) (u : Value) (h : p.block < base) : Hi base w (w.setCell p u) :=
  ⟨(grown_set w p u).size, fun k hb hk => (grown_set w p u).block k hk (fun e => by cases e; omega)⟩
theorem cell_hi {base : Nat} {w w' : World} (H : Hi base w w') {p : Addr} {v : Value} (hp : base ≤ p.block) (h : w.cell? p = some v) : w'.cell? p = some v := by
  have hb := block_of_cell h
  unfold World.cell? at *
  rw [H.block _ hp hb]
  exact h
theorem row_hi {base e sz n : Nat} {v : Value} {w w' : World} {xs : List Value} (h : w.ownsRow base e sz v n xs) (H : Hi base w w') : w'.ownsRow base e sz v n xs := by
  obtain ⟨h1, h2 | ⟨g, cap, cur, hv, hg, hr, rest⟩⟩ := h
  · exact ⟨h1, .inl h2⟩
  · refine ⟨h1, .inr ⟨g, cap, cur, hv, hg, ?_, rest⟩⟩
    rw [H.block g hg ((Array.getElem?_eq_some_iff.1 hr).1)]
    exact hr
theorem SSo.hi {w w' : World} {base g n : Nat} {oss : List (List Int)} (h : SSo w base g n oss) (H : Hi base w w') : SSo w' base g n oss :=
  ⟨h.len, h.small, h.low, fun i hi => by
    obtain ⟨x, l, c, k1, k2⟩ := h.row i hi
    exact ⟨x, l, c, cell_hi H h.low k1, row_hi k2 H⟩⟩
theorem fz_new (w : World) (cs : Array Value) (t : TypeId) (i : Nat) : (w.alloc (.cells cs t)).frozen? ⟨w.heap.size, i, none⟩ = false := by simp
theorem fz_old (w : World) (o : Obj) (p : Addr) (hp : p.block < w.heap.size) (h : w.frozen? p = false) : (w.alloc o).frozen? p = false := by
  rw [World.frozen?_alloc_old _ _ p (Nat.ne_of_lt hp)]; exact h
structure Stt (v : World) (s : Nat) (A x : Nat → Value) : Prop where
  A : ∀ i, i < 4 → v.cell? ⟨s, i, none⟩ = some (A i)
  O : ∀ i, i < 4 → v.cell? ⟨s + 1 + 1, i, none⟩ = some (x i) ∧ v.frozen? ⟨s + 1 + 1, i, none⟩ = false
  R : ∀ i, i < 4 → v.cell? ⟨s + 1, i, none⟩ = some (.slice none 0 0) ∧ v.frozen? ⟨s + 1, i, none⟩ = false
  lt : s + 1 + 1 < v.heap.size
theorem Stt.keep {v v' : World} {s : Nat} {A x : Nat → Value} (h : Stt v s A x) (b : Below v.heap.size v v') : Stt v' s A x :=
  ⟨fun i hi => cell_keep b (h.A i hi),
   fun i hi => ⟨cell_keep b (h.O i hi).1, by rw [b.frozen (p := ⟨s + 1 + 1, i, none⟩) h.lt]; exact (h.O i hi).2⟩,
   fun i hi => ⟨cell_keep b (h.R i hi).1, by rw [b.frozen (p := ⟨s + 1, i, none⟩) (by have := h.lt; show s + 1 < _; omega)]; exact (h.R i hi).2⟩,
   Nat.lt_of_lt_of_le h.lt b.size⟩
theorem Stt.put {v : World} {s : Nat} {A x : Nat → Value} (h : Stt v s A x) (j : Nat) (hj : j < 4) (u : Value) : Stt (v.setCell ⟨s + 1 + 1, j, none⟩ u) s A (fun i => if i = j then u else x i) := by
  refine ⟨fun i hi => ?_, fun i hi => ⟨?_, by rw [World.frozen?_setCell]; exact (h.O i hi).2⟩, fun i hi => ⟨?_, by rw [World.frozen?_setCell]; exact (h.R i hi).2⟩, Nat.lt_of_lt_of_le h.lt (grown_set v _ u).size⟩
  · rw [World.cell?_setCell_other _ _ _ _ (by intro e; have := congrArg Addr.block e; simp at this; omega)]
    exact h.A i hi
  · by_cases e : i = j
    · subst e
      rw [if_pos rfl]
      exact World.cell?_setCell_same _ _ _ (h.O i hi).1
    · rw [if_neg e, World.cell?_setCell_other _ _ _ _ (by intro h; cases h; exact e rfl)]
      exact (h.O i hi).1
  · rw [World.cell?_setCell_other _ _ _ _ (by intro e; have := congrArg Addr.block e; simp at this)]
    exact (h.R i hi).1
theorem row_up {base base' e sz n : Nat} {v : Value} {w : World} {xs : List Value} (h : w.ownsRow base e sz v n xs) (hb : base' ≤ base) : w.ownsRow base' e sz v n xs := by
  obtain ⟨h1, h2 | ⟨g, cap, cur, hv, hg, hr⟩⟩ := h
  · exact ⟨h1, .inl h2⟩
  · exact ⟨h1, .inr ⟨g, cap, cur, hv, Nat.le_trans hb hg, hr⟩⟩
set_option maxHeartbeats 4000000 in
theorem to_policy (a0 a1 a2 a3 : Option Addr) (n0 c0 n1 c1 n2 c2 n3 c3 : Nat) (P : Plc) (w : World) (h : Pin w a0 n0 c0 a1 n1 c1 a2 n2 c2 a3 n3 c3 P) (hs : Small n0 n1 n2 n3 P) :
    Calls Tryz.prog 23 #[.agg #[.slice a0 n0 c0, .slice a1 n1 c1, .slice a2 n2 c2, .slice a3 n3 c3]] w fun e w' => ∃ g0 g1 g2 g3, e = .returned (.agg #[.slice (some ⟨g0, 0, none⟩) n0 n0, .slice (some ⟨g1, 0, none⟩) n1 n1, .slice (some ⟨g2, 0, none⟩) n2 n2, .slice (some ⟨g3, 0, none⟩) n3 n3]) ∧
      Mde w' w.heap.size g0 g1 g2 g3 n0 n1 n2 n3 P ∧ Below w.heap.size w w' := by
  have HS : Hid (Small n0 n1 n2 n3 P) := hs
  have HP : Hid (Pin w a0 n0 c0 a1 n1 c1 a2 n2 c2 a3 n3 c3 P) := h
  clear h hs
  generalize hW : ((w.alloc (.cells #[.slice a0 n0 c0, .slice a1 n1 c1, .slice a2 n2 c2, .slice a3 n3 c3] 27)).alloc (.cells #[.slice none 0 0, .slice none 0 0, .slice none 0 0, .slice none 0 0] 37)).alloc (.cells #[.slice none 0 0, .slice none 0 0, .slice none 0 0, .slice none 0 0] 37) = W
  have B0 : Hid (Below w.heap.size w W) := by show Below _ _ _; rw [← hW]; exact al (al (al (Below.refl _ _) _) _) _
  have SZ : Hid (W.heap.size = w.heap.size + 3) := by show _ = _; rw [← hW]; simp
  obtain ⟨s, hS⟩ : ∃ s, w.heap.size = s := ⟨_, rfl⟩
  have HSs : Hid (w.heap.size = s) := hS
  have S0 : Hid (Stt W s (fun i => match i with | 0 => .slice a0 n0 c0 | 1 => .slice a1 n1 c1 | 2 => .slice a2 n2 c2 | _ => .slice a3 n3 c3) (fun _ => .slice none 0 0)) := by
    have z1 : s + 1 = (w.alloc (.cells #[.slice a0 n0 c0, .slice a1 n1 c1, .slice a2 n2 c2, .slice a3 n3 c3] 27)).heap.size := by rw [← hS]; simp
    have z2 : s + 1 + 1 = ((w.alloc (.cells #[.slice a0 n0 c0, .slice a1 n1 c1, .slice a2 n2 c2, .slice a3 n3 c3] 27)).alloc (.cells #[.slice none 0 0, .slice none 0 0, .slice none 0 0, .slice none 0 0] 37)).heap.size := by rw [← hS]; simp
    have four : ∀ i : Nat, i < 4 → i = 0 ∨ i = 1 ∨ i = 2 ∨ i = 3 := fun i hi => by omega
    refine ⟨fun i hi => ?_, fun i hi => ?_, fun i hi => ?_, by rw [SZ.out, hS]; omega⟩
    · rw [← hW, ← hS]
      rcases four i hi with rfl | rfl | rfl | rfl <;> exact cell_push _ (cell_push _ (cell_new rfl))
    · rw [← hW, z2]
      rcases four i hi with rfl | rfl | rfl | rfl <;> exact ⟨cell_new rfl, fz_new _ _ _ _⟩
    · rw [← hW, z1]
      rcases four i hi with rfl | rfl | rfl | rfl <;> exact ⟨cell_push _ (cell_new rfl), fz_old _ _ _ (by simp) (fz_new _ _ _ _)⟩
  have a0' := S0.out.A 0 (by omega)
  go_enter Tryz.func23, Tryz.ntmps23
  go_wp2_with fail
  clear hW a0'
  refine (to_ss _ _ _ _ _ (HP.out.own.stay B0.out) HS.out.own HS.out.each).mono ?_
  rintro e w1 ⟨g0, rfl, m0, b1⟩
  have S1 := S0.out.keep b1
  have S1' := S1.put 0 (by omega) (.slice (some ⟨g0, 0, none⟩) n0 n0)
  have o1 := (S1.O 0 (by omega)).1
  have f1 := (S1.O 0 (by omega)).2
  have t1 := S1'.A 1 (by omega)
  simp only at t1
  have M0 : Hid (SSo w1 (s + 3) g0 n0 P.own) := m0.mono (by have := SZ.out; have := HSs.out; omega)
  have V1 : Hid (Below w.heap.size w (w1.setCell ⟨s + 1 + 1, 0, none⟩ (.slice (some ⟨g0, 0, none⟩) n0 n0))) := (on B0.out b1).setCell (by have := HSs.out; show w.heap.size ≤ s + 1 + 1; omega) _
  have H1 : Hid (Hi (s + 3) w1 (w1.setCell ⟨s + 1 + 1, 0, none⟩ (.slice (some ⟨g0, 0, none⟩) n0 n0))) := Hi.set _ _ _ (by show s + 1 + 1 < s + 3; omega)
  have Z1 : Hid (s + 3 ≤ (w1.setCell ⟨s + 1 + 1, 0, none⟩ (.slice (some ⟨g0, 0, none⟩) n0 n0)).heap.size) := by have := S1'.lt; show _ ≤ _; omega
  have SS1 : Hid (Stt _ s _ _) := S1'
  clear S1 S1' m0 b1
  go_wp2_with fail
  generalize w1.setCell ⟨s + 1 + 1, 0, none⟩ (.slice (some ⟨g0, 0, none⟩) n0 n0) = v1 at *
  clear o1 f1 t1
  refine (to_lanes _ _ _ _ _ (HP.out.lanes.stay V1.out) HS.out.lanes).mono ?_
  rintro e w2 ⟨g1, rfl, m1, b2⟩
  have S2 := SS1.out.keep b2
  have S2' := S2.put 1 (by omega) (.slice (some ⟨g1, 0, none⟩) n1 n1)
  have o1 := (S2.O 1 (by omega)).1
  have f1 := (S2.O 1 (by omega)).2
  have t1 := S2'.A 2 (by omega)
  simp only at t1
  have M1 : Hid (Ls 125 w2 (s + 3) (.slice (some ⟨g1, 0, none⟩) n1 n1) P.lanes) := row_up m1 Z1.out
  have V2 : Hid (Below w.heap.size w (w2.setCell ⟨s + 1 + 1, 1, none⟩ (.slice (some ⟨g1, 0, none⟩) n1 n1))) := (on V1.out b2).setCell (by have := HSs.out; show w.heap.size ≤ s + 1 + 1; omega) _
  have H2 : Hid (Hi (s + 3) w2 (w2.setCell ⟨s + 1 + 1, 1, none⟩ (.slice (some ⟨g1, 0, none⟩) n1 n1))) := Hi.set _ _ _ (by show s + 1 + 1 < s + 3; omega)
  have H12 : Hid (Hi (s + 3) w1 w2) := H1.out.trans (Hi.of b2)
  have Z2 : Hid (s + 3 ≤ (w2.setCell ⟨s + 1 + 1, 1, none⟩ (.slice (some ⟨g1, 0, none⟩) n1 n1)).heap.size) := by have := S2'.lt; show _ ≤ _; omega
  have SS2 : Hid (Stt _ s _ _) := S2'
  clear S2 S2' m1 b2
  go_wp2_with fail
  generalize w2.setCell ⟨s + 1 + 1, 1, none⟩ (.slice (some ⟨g1, 0, none⟩) n1 n1) = v2 at *
  clear o1 f1 t1
  refine (to_bells _ _ _ _ _ (HP.out.bells.stay V2.out) HS.out.bells).mono ?_
  rintro e w3 ⟨g2, rfl, m2, b3⟩
  have S3 := SS2.out.keep b3
  have S3' := S3.put 2 (by omega) (.slice (some ⟨g2, 0, none⟩) n2 n2)
  have o1 := (S3.O 2 (by omega)).1
  have f1 := (S3.O 2 (by omega)).2
  have t1 := S3'.A 3 (by omega)
  simp only at t1
  have M2 : Hid (Prs 129 w3 (s + 3) (.slice (some ⟨g2, 0, none⟩) n2 n2) P.bells) := row_up m2 Z2.out
  have V3 : Hid (Below w.heap.size w (w3.setCell ⟨s + 1 + 1, 2, none⟩ (.slice (some ⟨g2, 0, none⟩) n2 n2))) := (on V2.out b3).setCell (by have := HSs.out; show w.heap.size ≤ s + 1 + 1; omega) _
  have H3 : Hid (Hi (s + 3) w3 (w3.setCell ⟨s + 1 + 1, 2, none⟩ (.slice (some ⟨g2, 0, none⟩) n2 n2))) := Hi.set _ _ _ (by show s + 1 + 1 < s + 3; omega)
  have H23 : Hid (Hi (s + 3) w2 w3) := H2.out.trans (Hi.of b3)
  have Z3 : Hid (s + 3 ≤ (w3.setCell ⟨s + 1 + 1, 2, none⟩ (.slice (some ⟨g2, 0, none⟩) n2 n2)).heap.size) := by have := S3'.lt; show _ ≤ _; omega
  have SS3 : Hid (Stt _ s _ _) := S3'
  clear S3 S3' m2 b3
  go_wp2_with fail
  generalize w3.setCell ⟨s + 1 + 1, 2, none⟩ (.slice (some ⟨g2, 0, none⟩) n2 n2) = v3 at *
  clear o1 f1 t1
  refine (to_slots _ _ _ _ _ (HP.out.plan.stay V3.out) HS.out.plan).mono ?_
  rintro e w4 ⟨g3, rfl, m3, b4⟩
  have S4 := SS3.out.keep b4
  have S4' := S4.put 3 (by omega) (.slice (some ⟨g3, 0, none⟩) n3 n3)
  have o1 := (S4.O 3 (by omega)).1
  have f1 := (S4.O 3 (by omega)).2
  have p0 := (S4'.O 0 (by omega)).1
  have p1 := (S4'.O 1 (by omega)).1
  have p2 := (S4'.O 2 (by omega)).1
  have p3 := (S4'.O 3 (by omega)).1
  simp only [reduceIte, Nat.reduceEqDiff] at p0 p1 p2 p3
  obtain ⟨r0, y0⟩ := S4'.R 0 (by omega)
  obtain ⟨r1, y1⟩ := S4'.R 1 (by omega)
  obtain ⟨r2, y2⟩ := S4'.R 2 (by omega)
  obtain ⟨r3, y3⟩ := S4'.R 3 (by omega)
  have M3 : Hid (Prs 123 w4 (s + 3) (.slice (some ⟨g3, 0, none⟩) n3 n3) P.plan) := row_up m3 Z3.out
  have V4 : Hid (Below w.heap.size w (w4.setCell ⟨s + 1 + 1, 3, none⟩ (.slice (some ⟨g3, 0, none⟩) n3 n3))) := (on V3.out b4).setCell (by have := HSs.out; show w.heap.size ≤ s + 1 + 1; omega) _
  have H4 : Hid (Hi (s + 3) w4 (w4.setCell ⟨s + 1 + 1, 3, none⟩ (.slice (some ⟨g3, 0, none⟩) n3 n3))) := Hi.set _ _ _ (by show s + 1 + 1 < s + 3; omega)
  have H34 : Hid (Hi (s + 3) w3 w4) := H3.out.trans (Hi.of b4)
  clear S4 S4' m3 b4
  go_wp2_with fail
  have F : Hid (Below w.heap.size w _ ∧ Hi (s + 3) w4 _) := ⟨(((V4.out.setCell (p := ⟨s + 1, 0, none⟩) (by have := HSs.out; show w.heap.size ≤ s + 1; omega) (.slice (some ⟨g0, 0, none⟩) n0 n0)).setCell (p := ⟨s + 1, 1, none⟩) (by have := HSs.out; show w.heap.size ≤ s + 1; omega) (.slice (some ⟨g1, 0, none⟩) n1 n1)).setCell (p := ⟨s + 1, 2, none⟩) (by have := HSs.out; show w.heap.size ≤ s + 1; omega) (.slice (some ⟨g2, 0, none⟩) n2 n2)).setCell (p := ⟨s + 1, 3, none⟩) (by have := HSs.out; show w.heap.size ≤ s + 1; omega) (.slice (some ⟨g3, 0, none⟩) n3 n3),
    (((H4.out.trans (Hi.set _ ⟨s + 1, 0, none⟩ (.slice (some ⟨g0, 0, none⟩) n0 n0) (by show s + 1 < s + 3; omega))).trans (Hi.set _ ⟨s + 1, 1, none⟩ (.slice (some ⟨g1, 0, none⟩) n1 n1) (by show s + 1 < s + 3; omega))).trans (Hi.set _ ⟨s + 1, 2, none⟩ (.slice (some ⟨g2, 0, none⟩) n2 n2) (by show s + 1 < s + 3; omega))).trans (Hi.set _ ⟨s + 1, 3, none⟩ (.slice (some ⟨g3, 0, none⟩) n3 n3) (by show s + 1 < s + 3; omega))⟩
  refine bodyPost_ret (v := .agg #[.slice (some ⟨g0, 0, none⟩) n0 n0, .slice (some ⟨g1, 0, none⟩) n1 n1, .slice (some ⟨g2, 0, none⟩) n2 n2, .slice (some ⟨g3, 0, none⟩) n3 n3]) (by simp [results, Tryz.results23, go_sem, r0, r1, r2, r3]) rfl
    ⟨g0, g1, g2, g3, rfl, ⟨(M0.out.hi (H12.out.trans (H23.out.trans (H34.out.trans F.out.2)))).mono (by have := HSs.out; omega), row_up (row_hi M1.out (H23.out.trans (H34.out.trans F.out.2))) (by have := HSs.out; omega), row_up (row_hi M2.out (H34.out.trans F.out.2)) (by have := HSs.out; omega), row_up (row_hi M3.out F.out.2) (by have := HSs.out; omega)⟩, F.out.1⟩
structure Mk (lo hi : Nat) (w w' : World) : Prop where
  os : w'.os = w.os
  tape : w'.tape = w.tape
  output : w'.output = w.output
  size : w.heap.size ≤ w'.heap.size
  block : ∀ k, k < w.heap.size → (k < lo ∨ hi ≤ k) → w'.heap[k]? = w.heap[k]?
  other : ∀ p v, w.cell? p = some v → (∀ z, v ≠ .int .i64 z) → w'.cell? p = some v
  num : ∀ p z, w.cell? p = some (.int .i64 z) → ∃ z', w'.cell? p = some (.int .i64 z')
  free : ∀ p, p.block < w.heap.size → w'.frozen? p = w.frozen? p
theorem Mk.refl (lo hi : Nat) (w : World) : Mk lo hi w w := ⟨rfl, rfl, rfl, Nat.le_refl _, fun _ _ _ => rfl, fun _ _ h _ => h, fun _ z h => ⟨z, h⟩, fun _ _ => rfl⟩
theorem Mk.trans {lo hi : Nat} {a b c : World} (h : Mk lo hi a b) (k : Mk lo hi b c) : Mk lo hi a c :=
  ⟨k.os.trans h.os, k.tape.trans h.tape, k.output.trans h.output, Nat.le_trans h.size k.size,
   fun i hi hn => (k.block i (Nat.lt_of_lt_of_le hi h.size) hn).trans (h.block i hi hn),
   fun p v e n => k.other p v (h.other p v e n) n,
   fun p z e => by obtain ⟨z', e'⟩ := h.num p z e; exact k.num p z' e',
   fun p hp => (k.free p (Nat.lt_of_lt_of_le hp h.size)).trans (h.free p hp)⟩
theorem Mk.alloc {lo hi : Nat} {a w : World} (h : Mk lo hi a w) (o : Obj) : Mk lo hi a (w.alloc o) :=
  h.trans ⟨rfl, rfl, rfl, by simp, fun k hk _ => Below.heap_alloc _ _ _ hk, fun p v e _ => cell_push o e, fun p z e => ⟨z, cell_push o e⟩, fun p hp => World.frozen?_alloc_old _ _ p (Nat.ne_of_lt hp)⟩
theorem Mk.set {lo hi : Nat} {a w : World} (h : Mk lo hi a w) {p : Addr} {z0 : Int} (hc : w.cell? p = some (.int .i64 z0)) (h1 : lo ≤ p.block) (h2 : p.block < hi) (z : Int) : Mk lo hi a (w.setCell p (.int .i64 z)) := by
  refine h.trans ⟨rfl, rfl, rfl, by simp [World.setCell], fun k hk hn => Below.heap_setCell _ _ _ _ (by omega), fun q v e n => ?_, fun q z' e => ?_, fun q _ => World.frozen?_setCell ..⟩
  · rw [World.cell?_setCell_other _ _ _ _ (fun e2 => by subst e2; rw [hc] at e; cases e; exact n _ rfl)]
    exact e
  · by_cases e2 : p = q
    · subst e2
      exact ⟨z, World.cell?_setCell_same _ _ _ hc⟩
    · rw [World.cell?_setCell_other _ _ _ _ e2]
      exact ⟨z', e⟩
theorem Mk.below {lo hi : Nat} {a w w' : World} (h : Below a.heap.size a w) (m : Mk lo hi w w') (hl : a.heap.size ≤ lo) : Below a.heap.size a w' :=
  ⟨m.os.trans h.os, m.tape.trans h.tape, m.output.trans h.output, Nat.le_trans h.size m.size,
   fun k hk => (m.block k (Nat.lt_of_lt_of_le hk h.size) (.inl (by omega))).trans (h.block k hk)⟩
theorem Mk.cell {lo hi : Nat} {w w' : World} (m : Mk lo hi w w') {p : Addr} {v : Value} (h : w.cell? p = some v) (hp : p.block < lo ∨ hi ≤ p.block) : w'.cell? p = some v := by
  have hb := block_of_cell h
  unfold World.cell? at *
  rw [m.block _ hb hp]
  exact h
theorem Mk.row {lo hi base e sz n : Nat} {v : Value} {w w' : World} {xs : List Value} (m : Mk lo hi w w') (h : w.ownsRow base e sz v n xs) (hp : ∀ k, v.ownBlock = some k → k < lo ∨ hi ≤ k) : w'.ownsRow base e sz v n xs := by
  obtain ⟨h1, h2 | ⟨g, cap, cur, hv, hg, hr, rest⟩⟩ := h
  · exact ⟨h1, .inl h2⟩
  · refine ⟨h1, .inr ⟨g, cap, cur, hv, hg, ?_, rest⟩⟩
    rw [m.block g ((Array.getElem?_eq_some_iff.1 hr).1) (hp g (by subst hv; rfl))]
    exact hr
def Mb (w : World) (lo hi sz : Nat) (a : Option Addr) (n : Nat) : Prop := 0 < n → ∃ g, a = some ⟨g, 0, none⟩ ∧ lo ≤ g ∧ g < hi ∧ ∀ i, i < n * sz → (∃ z, w.cell? ⟨g, i, none⟩ = some (.int .i64 z)) ∧ w.frozen? ⟨g, i, none⟩ = false
theorem Mb.mk {w w' : World} {lo hi sz n : Nat} {a : Option Addr} (h : Mb w lo hi sz a n) (m : Mk lo hi w w') : Mb w' lo hi sz a n := by
  intro hn
  obtain ⟨g, e, h1, h2, h3⟩ := h hn
  refine ⟨g, e, h1, h2, fun i hi => ?_⟩
  obtain ⟨⟨z, hz⟩, hf⟩ := h3 i hi
  exact ⟨m.num _ _ hz, by rw [m.free _ (block_of_cell hz)]; exact hf⟩
theorem Mb.stay {w w' : World} {lo hi sz n : Nat} {a : Option Addr} (h : Mb w lo hi sz a n) (b : Below w.heap.size w w') : Mb w' lo hi sz a n := by
  intro hn
  obtain ⟨g, e, h1, h2, h3⟩ := h hn
  refine ⟨g, e, h1, h2, fun i hi => ?_⟩
  obtain ⟨⟨z, hz⟩, hf⟩ := h3 i hi
  exact ⟨⟨z, cell_keep b hz⟩, by rw [b.frozen (p := ⟨g, i, none⟩) (block_of_cell hz)]; exact hf⟩
theorem Mb.wide {w : World} {lo hi lo' hi' sz n : Nat} {a : Option Addr} (h : Mb w lo hi sz a n) (h1 : lo' ≤ lo) (h2 : hi ≤ hi') : Mb w lo' hi' sz a n := by
  intro hn
  obtain ⟨g, e, k1, k2, k3⟩ := h hn
  exact ⟨g, e, Nat.le_trans h1 k1, Nat.lt_of_lt_of_le k2 h2, k3⟩
theorem Nums.mb {w : World} {base n c : Nat} {a : Option Addr} {zs : List Int} (h : Nums w base (.slice a n c) zs) : Mb w base w.heap.size 1 a n := by
  intro hn
  obtain ⟨a', cap', hv, l1, l2, hg⟩ := h.shape
  have hl := h.len
  obtain ⟨g, e⟩ := hg (by omega)
  cases hv
  subst e
  have hb := h.lt g rfl
  exact ⟨g, rfl, hb.1, hb.2, fun i hi => ⟨⟨_, h.cell rfl i (by omega)⟩, h.free rfl i⟩⟩
theorem Prs.mb {e : TypeId} {w : World} {base n c : Nat} {a : Option Addr} {rs : List (Int × Int)} (h : Prs e w base (.slice a n c) rs) : Mb w base w.heap.size 2 a n := by
  intro hn
  obtain ⟨a', cap', hv, l1, l2, hg⟩ := h.shape
  cases hv
  obtain ⟨g, rfl⟩ := hg hn
  have hb := h.lt g rfl
  refine ⟨g, rfl, hb.1, hb.2, fun i hi => ⟨?_, h.free rfl i⟩⟩
  have hc := h.cell rfl (i / 2) (by omega)
  have : i = i / 2 * 2 ∨ i = i / 2 * 2 + 1 := by omega
  rcases this with e | e
  · rw [e]; exact ⟨_, hc.1⟩
  · rw [e]; exact ⟨_, hc.2⟩
theorem Ls.mb {e : TypeId} {w : World} {base n c : Nat} {a : Option Addr} {rs : List Ln} (h : Ls e w base (.slice a n c) rs) : Mb w base w.heap.size 5 a n := by
  intro hn
  obtain ⟨a', cap', hv, l1, l2, hg⟩ := h.shape
  cases hv
  obtain ⟨g, rfl⟩ := hg hn
  have hb := h.lt g rfl
  refine ⟨g, rfl, hb.1, hb.2, fun i hi => ⟨?_, h.free rfl i⟩⟩
  have hc := h.cell rfl (i / 5) (by omega)
  have : i = i / 5 * 5 ∨ i = i / 5 * 5 + 1 ∨ i = i / 5 * 5 + 2 ∨ i = i / 5 * 5 + 3 ∨ i = i / 5 * 5 + 4 := by omega
  rcases this with e | e | e | e | e
  · rw [e]; exact ⟨_, hc.1⟩
  · rw [e]; exact ⟨_, hc.2.1⟩
  · rw [e]; exact ⟨_, hc.2.2.1⟩
  · rw [e]; exact ⟨_, hc.2.2.2.1⟩
  · rw [e]; exact ⟨_, hc.2.2.2.2⟩
set_option maxHeartbeats 1000000 in
theorem mark_mb (a : Option Addr) (n c lo hi : Nat) (k : Int) (w : World) (h : Mb w lo hi 1 a n) (hk : 0 ≤ k) (hz : k + n ≤ 4611686018427387904) :
    Calls Tryz.prog 13 #[.slice a n c, .int .i64 k] w fun e w' => e = .returned (.int .i64 (k + n)) ∧ Mk lo hi w w' := by
  have HZ : Hid (Mb w lo hi 1 a n) := h
  clear h
  go_enter Tryz.func13, Tryz.ntmps13
  go_wp2_with fail
  go_loopw [1, 5] (fun q i wr => ∃ j : Nat, j ≤ n ∧ i = .int .i64 j ∧ q = .int .i64 (k + j) ∧ Mk lo hi w wr) (fun _ i _ => n - (intOf i).toNat)
  case atStart => exact ⟨0, Nat.zero_le _, rfl, by simp, Mk.refl _ _ _⟩
  case round =>
    obtain ⟨j, hj, rfl, rfl, hM⟩ := hrel
    have M0 : Hid (Mk lo hi w wr) := hM
    by_cases hlt : j < n
    · obtain ⟨g, rfl, h1, h2, h3⟩ := (HZ.out.mk hM) (by omega)
      obtain ⟨⟨z, c1⟩, f1⟩ := h3 j (by omega)
      have G1 : Hid (lo ≤ g ∧ g < hi) := ⟨h1, h2⟩
      have C1 : Hid (wr.cell? ⟨g, j, none⟩ = some (.int .i64 z)) := c1
      have hI : (j : Int) < (n : Int) := by omega
      have HL : Hid (j < n) := hlt
      clear hM hlt h1 h2 h3
      go_wp2_with fail
      go_roundw
      case rel => exact ⟨j + 1, by have := HL.out; omega, by go_num, by go_num, M0.out.set C1.out G1.out.1 G1.out.2 _⟩
      case measure => have := HL.out; simp [intOf]; omega
    · have hI : ¬ (j : Int) < (n : Int) := by omega
      obtain rfl : j = n := by omega
      clear hM
      go_wp2_with fail
      go_ret
      exact ⟨rfl, M0.out⟩
set_option maxHeartbeats 2000000 in
theorem mark_lanes (a : Option Addr) (n c lo hi : Nat) (k : Int) (w : World) (h : Mb w lo hi 5 a n) (hk : 0 ≤ k) (hz : k + (5 * n : Nat) ≤ 4611686018427387904) :
    Calls Tryz.prog 71 #[.slice a n c, .int .i64 k] w fun e w' => e = .returned (.int .i64 (k + (5 * n : Nat))) ∧ Mk lo hi w w' := by
  have HZ : Hid (Mb w lo hi 5 a n) := h
  clear h
  go_enter Tryz.func71, Tryz.ntmps71
  go_wp2_with fail
  go_loopw [1, 5] (fun q i wr => ∃ j : Nat, j ≤ n ∧ i = .int .i64 j ∧ q = .int .i64 (k + (5 * j : Nat)) ∧ Mk lo hi w wr) (fun _ i _ => n - (intOf i).toNat)
  case atStart => exact ⟨0, Nat.zero_le _, rfl, by simp, Mk.refl _ _ _⟩
  case round =>
    obtain ⟨j, hj, rfl, rfl, hM⟩ := hrel
    have M0 : Hid (Mk lo hi w wr) := hM
    by_cases hlt : j < n
    · obtain ⟨g, rfl, h1, h2, h3⟩ := (HZ.out.mk hM) (by omega)
      obtain ⟨⟨z0, c0⟩, f0⟩ := h3 (j * 5) (by omega)
      obtain ⟨⟨z1, c1⟩, f1⟩ := h3 (j * 5 + 1) (by omega)
      obtain ⟨⟨z2, c2⟩, f2⟩ := h3 (j * 5 + 2) (by omega)
      obtain ⟨⟨z3, c3⟩, f3⟩ := h3 (j * 5 + 3) (by omega)
      obtain ⟨⟨z4, c4⟩, f4⟩ := h3 (j * 5 + 4) (by omega)
      have G1 : Hid (lo ≤ g ∧ g < hi) := ⟨h1, h2⟩
      have C0 : Hid (wr.cell? ⟨g, j * 5, none⟩ = some (.int .i64 z0)) := c0
      have C1 : Hid (wr.cell? ⟨g, j * 5 + 1, none⟩ = some (.int .i64 z1)) := c1
      have C2 : Hid (wr.cell? ⟨g, j * 5 + 2, none⟩ = some (.int .i64 z2)) := c2
      have C3 : Hid (wr.cell? ⟨g, j * 5 + 3, none⟩ = some (.int .i64 z3)) := c3
      have C4 : Hid (wr.cell? ⟨g, j * 5 + 4, none⟩ = some (.int .i64 z4)) := c4
      have hI : (j : Int) < (n : Int) := by omega
      have HL : Hid (j < n) := hlt
      have HK2 : Hid (k + ((5 * j : Nat) : Int) + 1 + 1 + 1 + 1 + 1 = k + ((5 * (j + 1) : Nat) : Int)) := by show _ = _; omega
      have hb0 : 0 ≤ k + ((5 * j : Nat) : Int) := by omega
      have hb1 : k + ((5 * j : Nat) : Int) ≤ 4611686018427387904 := by omega
      generalize k + ((5 * j : Nat) : Int) = kk at *
      clear hM hlt h1 h2 h3
      go_wp2_with fail
      go_roundw
      case rel =>
        refine ⟨j + 1, by have := HL.out; omega, by go_num, by rw [← HK2.out], ?_⟩
        have m1 := M0.out.set C0.out G1.out.1 G1.out.2 kk
        obtain ⟨y1, d1⟩ := (Mk.refl lo hi wr).set C0.out G1.out.1 G1.out.2 kk |>.num _ _ C1.out
        have m2 := m1.set d1 G1.out.1 G1.out.2 (kk + 1)
        obtain ⟨y2, d2⟩ := ((Mk.refl lo hi wr).set C0.out G1.out.1 G1.out.2 kk |>.set d1 G1.out.1 G1.out.2 (kk + 1)).num _ _ C2.out
        have m3 := m2.set d2 G1.out.1 G1.out.2 (kk + 1 + 1)
        obtain ⟨y3, d3⟩ := (((Mk.refl lo hi wr).set C0.out G1.out.1 G1.out.2 kk |>.set d1 G1.out.1 G1.out.2 (kk + 1)).set d2 G1.out.1 G1.out.2 (kk + 1 + 1)).num _ _ C3.out
        have m4 := m3.set d3 G1.out.1 G1.out.2 (kk + 1 + 1 + 1)
        obtain ⟨y4, d4⟩ := ((((Mk.refl lo hi wr).set C0.out G1.out.1 G1.out.2 kk |>.set d1 G1.out.1 G1.out.2 (kk + 1)).set d2 G1.out.1 G1.out.2 (kk + 1 + 1)).set d3 G1.out.1 G1.out.2 (kk + 1 + 1 + 1)).num _ _ C4.out
        exact m4.set d4 G1.out.1 G1.out.2 (kk + 1 + 1 + 1 + 1)
      case measure => have := HL.out; simp [intOf]; omega
    · have hI : ¬ (j : Int) < (n : Int) := by omega
      obtain rfl : j = n := by omega
      clear hM
      go_wp2_with fail
      go_ret
      exact ⟨rfl, M0.out⟩
set_option maxHeartbeats 2000000 in
theorem mark_bells (a : Option Addr) (n c lo hi : Nat) (k : Int) (w : World) (h : Mb w lo hi 2 a n) (hk : 0 ≤ k) (hz : k + (2 * n : Nat) ≤ 4611686018427387904) :
    Calls Tryz.prog 72 #[.slice a n c, .int .i64 k] w fun e w' => e = .returned (.int .i64 (k + (2 * n : Nat))) ∧ Mk lo hi w w' := by
  have HZ : Hid (Mb w lo hi 2 a n) := h
  clear h
  go_enter Tryz.func72, Tryz.ntmps72
  go_wp2_with fail
  go_loopw [1, 5] (fun q i wr => ∃ j : Nat, j ≤ n ∧ i = .int .i64 j ∧ q = .int .i64 (k + (2 * j : Nat)) ∧ Mk lo hi w wr) (fun _ i _ => n - (intOf i).toNat)
  case atStart => exact ⟨0, Nat.zero_le _, rfl, by simp, Mk.refl _ _ _⟩
  case round =>
    obtain ⟨j, hj, rfl, rfl, hM⟩ := hrel
    have M0 : Hid (Mk lo hi w wr) := hM
    by_cases hlt : j < n
    · obtain ⟨g, rfl, h1, h2, h3⟩ := (HZ.out.mk hM) (by omega)
      obtain ⟨⟨z0, c0⟩, f0⟩ := h3 (j * 2) (by omega)
      obtain ⟨⟨z1, c1⟩, f1⟩ := h3 (j * 2 + 1) (by omega)
      have G1 : Hid (lo ≤ g ∧ g < hi) := ⟨h1, h2⟩
      have C0 : Hid (wr.cell? ⟨g, j * 2, none⟩ = some (.int .i64 z0)) := c0
      have C1 : Hid (wr.cell? ⟨g, j * 2 + 1, none⟩ = some (.int .i64 z1)) := c1
      have hI : (j : Int) < (n : Int) := by omega
      have HL : Hid (j < n) := hlt
      have HK2 : Hid (k + ((2 * j : Nat) : Int) + 1 + 1 = k + ((2 * (j + 1) : Nat) : Int)) := by show _ = _; omega
      have hb0 : 0 ≤ k + ((2 * j : Nat) : Int) := by omega
      have hb1 : k + ((2 * j : Nat) : Int) ≤ 4611686018427387904 := by omega
      generalize k + ((2 * j : Nat) : Int) = kk at *
      clear hM hlt h1 h2 h3
      go_wp2_with fail
      go_roundw
      case rel =>
        refine ⟨j + 1, by have := HL.out; omega, by go_num, by rw [← HK2.out], ?_⟩
        have m1 := M0.out.set C0.out G1.out.1 G1.out.2 kk
        obtain ⟨y1, d1⟩ := (Mk.refl lo hi wr).set C0.out G1.out.1 G1.out.2 kk |>.num _ _ C1.out
        exact m1.set d1 G1.out.1 G1.out.2 (kk + 1)
      case measure => have := HL.out; simp [intOf]; omega
    · have hI : ¬ (j : Int) < (n : Int) := by omega
      obtain rfl : j = n := by omega
      clear hM
      go_wp2_with fail
      go_ret
      exact ⟨rfl, M0.out⟩
set_option maxHeartbeats 2000000 in
theorem mark_slots (a : Option Addr) (n c lo hi : Nat) (k : Int) (w : World) (h : Mb w lo hi 2 a n) (hk : 0 ≤ k) (hz : k + (2 * n : Nat) ≤ 4611686018427387904) :
    Calls Tryz.prog 73 #[.slice a n c, .int .i64 k] w fun e w' => e = .returned (.int .i64 (k + (2 * n : Nat))) ∧ Mk lo hi w w' := by
  have HZ : Hid (Mb w lo hi 2 a n) := h
  clear h
  go_enter Tryz.func73, Tryz.ntmps73
  go_wp2_with fail
  go_loopw [1, 5] (fun q i wr => ∃ j : Nat, j ≤ n ∧ i = .int .i64 j ∧ q = .int .i64 (k + (2 * j : Nat)) ∧ Mk lo hi w wr) (fun _ i _ => n - (intOf i).toNat)
  case atStart => exact ⟨0, Nat.zero_le _, rfl, by simp, Mk.refl _ _ _⟩
  case round =>
    obtain ⟨j, hj, rfl, rfl, hM⟩ := hrel
    have M0 : Hid (Mk lo hi w wr) := hM
    by_cases hlt : j < n
    · obtain ⟨g, rfl, h1, h2, h3⟩ := (HZ.out.mk hM) (by omega)
      obtain ⟨⟨z0, c0⟩, f0⟩ := h3 (j * 2) (by omega)
      obtain ⟨⟨z1, c1⟩, f1⟩ := h3 (j * 2 + 1) (by omega)
      have G1 : Hid (lo ≤ g ∧ g < hi) := ⟨h1, h2⟩
      have C0 : Hid (wr.cell? ⟨g, j * 2, none⟩ = some (.int .i64 z0)) := c0
      have C1 : Hid (wr.cell? ⟨g, j * 2 + 1, none⟩ = some (.int .i64 z1)) := c1
      have hI : (j : Int) < (n : Int) := by omega
      have HL : Hid (j < n) := hlt
      have HK2 : Hid (k + ((2 * j : Nat) : Int) + 1 + 1 = k + ((2 * (j + 1) : Nat) : Int)) := by show _ = _; omega
      have hb0 : 0 ≤ k + ((2 * j : Nat) : Int) := by omega
      have hb1 : k + ((2 * j : Nat) : Int) ≤ 4611686018427387904 := by omega
      generalize k + ((2 * j : Nat) : Int) = kk at *
      clear hM hlt h1 h2 h3
      go_wp2_with fail
      go_roundw
      case rel =>
        refine ⟨j + 1, by have := HL.out; omega, by go_num, by rw [← HK2.out], ?_⟩
        have m1 := M0.out.set C0.out G1.out.1 G1.out.2 kk
        obtain ⟨y1, d1⟩ := (Mk.refl lo hi wr).set C0.out G1.out.1 G1.out.2 kk |>.num _ _ C1.out
        exact m1.set d1 G1.out.1 G1.out.2 (kk + 1)
      case measure => have := HL.out; simp [intOf]; omega
    · have hI : ¬ (j : Int) < (n : Int) := by omega
      obtain rfl : j = n := by omega
      clear hM
      go_wp2_with fail
      go_ret
      exact ⟨rfl, M0.out⟩
structure Sb (w : World) (lo hi g n : Nat) : Prop where
  row : ∀ i, i < n → ∃ b l c, w.cell? ⟨g, i, none⟩ = some (.slice b l c) ∧ Mb w lo hi 1 b l ∧ l ≤ 1048576
theorem Sb.mked {w w' : World} {lo hi g n : Nat} (h : Sb w lo hi g n) (m : Mk lo hi w w') : Sb w' lo hi g n :=
  ⟨fun i hi => by obtain ⟨b, l, c, k1, k2, k3⟩ := h.row i hi; exact ⟨b, l, c, m.other _ _ k1 (fun z e => by cases e), k2.mk m, k3⟩⟩
theorem Sb.wide {w : World} {lo hi lo' hi' g n : Nat} (h : Sb w lo hi g n) (h1 : lo' ≤ lo) (h2 : hi ≤ hi') : Sb w lo' hi' g n :=
  ⟨fun i hi => by obtain ⟨b, l, c, k1, k2, k3⟩ := h.row i hi; exact ⟨b, l, c, k1, k2.wide h1 h2, k3⟩⟩
theorem SSo.sb {w u : World} {base g n : Nat} {oss : List (List Int)} (h : SSo u base g n oss) (b : Below u.heap.size u w) (hs : ∀ i, i < n → (oss.getD i []).length ≤ 1048576) : Sb w base u.heap.size g n :=
  ⟨fun i hi => by
    obtain ⟨x, l, c, k1, k2⟩ := h.row i hi
    exact ⟨x, l, c, cell_keep b k1, k2.mb.stay b, by rw [k2.len]; exact hs i hi⟩⟩
set_option maxHeartbeats 2000000 in
theorem mark_sb (g n c lo hi : Nat) (k : Int) (w : World) (h : Sb w lo hi g n) (hn : n ≤ 1048576) (hk : 0 ≤ k) (hz : k ≤ 2199023255552) :
    Calls Tryz.prog 70 #[.slice (some ⟨g, 0, none⟩) n c, .int .i64 k] w fun e w' => (∃ r : Int, e = .returned (.int .i64 r) ∧ 0 ≤ r ∧ r ≤ k + 1048576 * n) ∧ Mk lo hi w w' := by
  have HZ : Hid (Sb w lo hi g n) := h
  have hn2 : (n : Int) ≤ 1048576 := by omega
  clear h
  go_enter Tryz.func70, Tryz.ntmps70
  go_wp2_with fail
  go_loopw [1, 5] (fun q i wr => ∃ (j : Nat) (r : Int), j ≤ n ∧ i = .int .i64 j ∧ q = .int .i64 r ∧ 0 ≤ r ∧ r ≤ k + 1048576 * j ∧ Mk lo hi w wr) (fun _ i _ => n - (intOf i).toNat)
  case atStart => exact ⟨0, k, Nat.zero_le _, rfl, rfl, hk, by omega, Mk.refl _ _ _⟩
  case round =>
    obtain ⟨j, r, hj, rfl, rfl, hr0, hr1, hM⟩ := hrel
    have M0 : Hid (Mk lo hi w wr) := hM
    have R0 : Hid (0 ≤ r ∧ r ≤ k + 1048576 * j) := ⟨hr0, hr1⟩
    by_cases hlt : j < n
    · obtain ⟨b, l, c, k1, k2, k3⟩ := (HZ.out.mked hM).row j hlt
      have K2 : Hid (Mb wr lo hi 1 b l) := k2
      have K3 : Hid (l ≤ 1048576) := k3
      have hI : (j : Int) < (n : Int) := by omega
      have HL : Hid (j < n) := hlt
      clear hM hlt k2 k3 hr1
      go_wp2_with (go_at_call 13; refine (mark_mb _ _ _ _ _ _ _ K2.out R0.out.1 (by have := R0.out.2; have := K3.out; have := HL.out; omega)).mono ?_; rintro e w1 ⟨rfl, m1⟩; have M1 : Hid (Mk lo hi w w1) := M0.out.trans m1; clear m1)
      go_roundw
      case rel => exact ⟨j + 1, r + l, by have := HL.out; omega, by go_num, rfl, by have := R0.out.1; omega, by have := R0.out.2; have := K3.out; omega, M1.out⟩
      case measure => have := HL.out; simp [intOf]; omega
    · have hI : ¬ (j : Int) < (n : Int) := by omega
      obtain rfl : j = n := by omega
      clear hM
      go_wp2_with fail
      go_ret
      exact ⟨⟨r, rfl, R0.out⟩, M0.out⟩
set_option maxHeartbeats 2000000 in
theorem mark_policy (g0 g1 g2 g3 n0 n1 n2 n3 lo hi : Nat) (P : Plc) (u w : World) (h : Mde u lo g0 g1 g2 g3 n0 n1 n2 n3 P) (b : Below u.heap.size u w) (hs : Small n0 n1 n2 n3 P) (hh : u.heap.size ≤ hi) :
    Calls Tryz.prog 31 #[.agg #[.slice (some ⟨g0, 0, none⟩) n0 n0, .slice (some ⟨g1, 0, none⟩) n1 n1, .slice (some ⟨g2, 0, none⟩) n2 n2, .slice (some ⟨g3, 0, none⟩) n3 n3], .int .i64 1] w fun e w' => (∃ r : Int, e = .returned (.int .i64 r) ∧ 0 ≤ r ∧ r ≤ 1100000000000) ∧ Mk lo hi w w' := by
  generalize hW : (w.alloc (.cells #[.slice (some ⟨g0, 0, none⟩) n0 n0, .slice (some ⟨g1, 0, none⟩) n1 n1, .slice (some ⟨g2, 0, none⟩) n2 n2, .slice (some ⟨g3, 0, none⟩) n3 n3] 37)) = W
  have B0 : Hid (Below u.heap.size u W) := by show Below _ _ _; rw [← hW]; exact al b _
  have MW : Hid (Mk lo hi w W) := by show Mk _ _ _ _; rw [← hW]; exact (Mk.refl _ _ _).alloc _
  obtain ⟨s, hS⟩ : ∃ s, w.heap.size = s := ⟨_, rfl⟩
  have Q : Hid (W.cell? ⟨s, 0, none⟩ = some (.slice (some ⟨g0, 0, none⟩) n0 n0) ∧ W.cell? ⟨s, 1, none⟩ = some (.slice (some ⟨g1, 0, none⟩) n1 n1) ∧ W.cell? ⟨s, 2, none⟩ = some (.slice (some ⟨g2, 0, none⟩) n2 n2) ∧ W.cell? ⟨s, 3, none⟩ = some (.slice (some ⟨g3, 0, none⟩) n3 n3)) := by
    show _ ∧ _
    rw [← hW, ← hS]
    exact ⟨cell_new rfl, cell_new rfl, cell_new rfl, cell_new rfl⟩
  have HM : Hid (Mde u lo g0 g1 g2 g3 n0 n1 n2 n3 P) := h
  have HS : Hid (Small n0 n1 n2 n3 P) := hs
  have HH : Hid (u.heap.size ≤ hi) := hh
  clear h hs b hh
  have q0 := Q.out.1
  go_enter Tryz.func31, Tryz.ntmps31
  go_wp2_with fail
  clear hW hS
  refine (mark_sb _ _ _ _ _ _ _ ((HM.out.own.sb B0.out HS.out.each).wide (Nat.le_refl _) HH.out) HS.out.own (by decide) (by decide)).mono ?_
  rintro e w1 ⟨⟨r0, rfl, r0a, r0b⟩, m1⟩
  have R0 : Hid (0 ≤ r0 ∧ r0 ≤ 1 + 1048576 * n0) := ⟨r0a, r0b⟩
  have q1 := m1.other _ _ Q.out.2.1 (fun z e => by cases e)
  have M1 : Hid (Mk lo hi W w1) := m1
  clear m1 r0b q0
  go_wp2_with fail
  refine (mark_lanes _ _ _ _ _ _ _ ((((HM.out.lanes.mb).stay B0.out).wide (Nat.le_refl _) HH.out).mk M1.out) R0.out.1 (by have := R0.out.2; have := HS.out.own; have := HS.out.lanes; omega)).mono ?_
  rintro e w2 ⟨rfl, m2⟩
  have M2 : Hid (Mk lo hi W w2) := M1.out.trans m2
  have q2 := M2.out.other _ _ Q.out.2.2.1 (fun z e => by cases e)
  have R1 : Hid (0 ≤ r0 + ((5 * n1 : Nat) : Int) ∧ r0 + ((5 * n1 : Nat) : Int) ≤ 1 + 1048576 * n0 + 5 * n1) := ⟨by omega, by have := R0.out.2; omega⟩
  generalize r0 + ((5 * n1 : Nat) : Int) = r1 at *
  clear m2 q1
  go_wp2_with fail
  refine (mark_bells _ _ _ _ _ _ _ ((((HM.out.bells.mb).stay B0.out).wide (Nat.le_refl _) HH.out).mk M2.out) R1.out.1 (by have := R1.out.2; have := HS.out.own; have := HS.out.lanes; have := HS.out.bells; omega)).mono ?_
  rintro e w3 ⟨rfl, m3⟩
  have M3 : Hid (Mk lo hi W w3) := M2.out.trans m3
  have q3 := M3.out.other _ _ Q.out.2.2.2 (fun z e => by cases e)
  have R2 : Hid (0 ≤ r1 + ((2 * n2 : Nat) : Int) ∧ r1 + ((2 * n2 : Nat) : Int) ≤ 1 + 1048576 * n0 + 5 * n1 + 2 * n2) := ⟨by have := R1.out.1; omega, by have := R1.out.2; omega⟩
  generalize r1 + ((2 * n2 : Nat) : Int) = r2 at *
  clear m3 q2
  go_wp2_with fail
  refine (mark_slots _ _ _ _ _ _ _ ((((HM.out.plan.mb).stay B0.out).wide (Nat.le_refl _) HH.out).mk M3.out) R2.out.1 (by have := R2.out.2; have := HS.out.own; have := HS.out.lanes; have := HS.out.bells; have := HS.out.plan; omega)).mono ?_
  rintro e w4 ⟨rfl, m4⟩
  have M4 : Hid (Mk lo hi w w4) := MW.out.trans (M3.out.trans m4)
  have R3 : Hid (0 ≤ r2 + ((2 * n3 : Nat) : Int) ∧ r2 + ((2 * n3 : Nat) : Int) ≤ 1100000000000) := ⟨by have := R2.out.1; omega, by have := R2.out.2; have := HS.out.own; have := HS.out.lanes; have := HS.out.bells; have := HS.out.plan; omega⟩
  generalize r2 + ((2 * n3 : Nat) : Int) = r3 at *
  clear m4 q3
  go_wp2_with fail
  go_ret
  exact ⟨⟨r3, rfl, R3.out⟩, M4.out⟩
def mkV (b : Bool) (k : Int) : Value := if b then .bool (k % 3 == 0) else .int .i64 k
structure Mx (L : List (Addr × Bool)) (k : Int) (w w' : World) : Prop where
  os : w'.os = w.os
  tape : w'.tape = w.tape
  output : w'.output = w.output
  size : w.heap.size ≤ w'.heap.size
  block : ∀ g, g < w.heap.size → (∀ x ∈ L, x.1.block ≠ g) → w'.heap[g]? = w.heap[g]?
  out : ∀ p v, w.cell? p = some v → (∀ x ∈ L, x.1 ≠ p) → w'.cell? p = some v
  at' : ∀ (i : Nat) (x : Addr × Bool), L[i]? = some x → w'.cell? x.1 = some (mkV x.2 (k + i))
  free : ∀ p, p.block < w.heap.size → w'.frozen? p = w.frozen? p
def Hx (L : List (Addr × Bool)) (k : Int) (w : World) : Prop := ∀ (i : Nat) (x : Addr × Bool), L[i]? = some x → w.cell? x.1 = some (mkV x.2 (k + i))
theorem Mx.hx {L : List (Addr × Bool)} {k : Int} {w w' : World} (m : Mx L k w w') : Hx L k w' := m.at'
theorem Mx.refl (k : Int) (w : World) : Mx [] k w w :=
  ⟨rfl, rfl, rfl, Nat.le_refl _, fun _ _ _ => rfl, fun _ _ h _ => h, fun i x h => by simp at h, fun _ _ => rfl⟩
theorem Mx.trans {L M : List (Addr × Bool)} {k : Int} {a b c : World} (h : Mx L k a b) (m : Mx M (k + L.length) b c) (d : ∀ x ∈ L, ∀ y ∈ M, x.1 ≠ y.1) : Mx (L ++ M) k a c := by
  refine ⟨m.os.trans h.os, m.tape.trans h.tape, m.output.trans h.output, Nat.le_trans h.size m.size, fun g hg hn => ?_, fun p v e hn => ?_, fun i x e => ?_, fun p hp => (m.free p (Nat.lt_of_lt_of_le hp h.size)).trans (h.free p hp)⟩
  · exact (m.block g (Nat.lt_of_lt_of_le hg h.size) fun x hx => hn x (List.mem_append_right _ hx)).trans (h.block g hg fun x hx => hn x (List.mem_append_left _ hx))
  · exact m.out p v (h.out p v e fun x hx => hn x (List.mem_append_left _ hx)) fun x hx => hn x (List.mem_append_right _ hx)
  · by_cases hi : i < L.length
    · rw [List.getElem?_append_left hi] at e
      have hm := List.mem_of_getElem? e
      exact m.out _ _ (h.at' i x e) fun y hy e2 => d x hm y hy e2.symm
    · rw [List.getElem?_append_right (by omega)] at e
      have := m.at' _ x e
      rw [show k + (L.length : Int) + ((i - L.length : Nat) : Int) = k + i by omega] at this
      exact this
theorem Mx.alloc {L : List (Addr × Bool)} {k : Int} {a w : World} (h : Mx L k a w) (o : Obj) : Mx L k a (w.alloc o) :=
  ⟨h.os, h.tape, h.output, Nat.le_trans h.size (by simp), fun g hg hn => (Below.heap_alloc _ _ _ (Nat.lt_of_lt_of_le hg h.size)).trans (h.block g hg hn), fun p v e hn => cell_push o (h.out p v e hn), fun i x e => cell_push o (h.at' i x e),
   fun p hp => (World.frozen?_alloc_old _ _ p (Nat.ne_of_lt (Nat.lt_of_lt_of_le hp h.size))).trans (h.free p hp)⟩
theorem Mx.one {k : Int} {w : World} {p : Addr} {v : Value} (b : Bool) (hc : w.cell? p = some v) : Mx [(p, b)] k w (w.setCell p (mkV b k)) := by
  refine ⟨rfl, rfl, rfl, by simp [World.setCell], fun g hg hn => Below.heap_setCell _ _ _ _ ?_, fun q u e hn => ?_, fun i x e => ?_, fun q _ => World.frozen?_setCell ..⟩
  · have := hn (p, b) (by simp); exact fun e => this e.symm
  · have := hn (p, b) (by simp)
    rw [World.cell?_setCell_other _ _ _ _ this]; exact e
  · match i, e with
    | 0, e => cases e; simp; exact World.cell?_setCell_same _ _ _ hc
def cN (g n : Nat) : List (Addr × Bool) := (List.range n).map fun j => (⟨g, j, none⟩, false)
theorem cN_len (g n : Nat) : (cN g n).length = n := by simp [cN]
theorem cN_succ (g n : Nat) : cN g (n + 1) = cN g n ++ [(⟨g, n, none⟩, false)] := by simp [cN, List.range_succ]
theorem cN_block {g n : Nat} {x : Addr × Bool} (h : x ∈ cN g n) : x.1.block = g := by
  simp only [cN, List.mem_map] at h; obtain ⟨j, _, rfl⟩ := h; rfl
theorem cN_ne {g n m : Nat} (hm : n ≤ m) : ∀ x ∈ cN g n, x.1 ≠ ⟨g, m, none⟩ := by
  intro x h e
  simp only [cN, List.mem_map, List.mem_range] at h; obtain ⟨j, hj, rfl⟩ := h
  simp at e; omega
theorem cN_get {g n i : Nat} (h : i < n) : (cN g n)[i]? = some (⟨g, i, none⟩, false) := by simp [cN, h]
theorem Hx.num {g n i : Nat} {k : Int} {w : World} (h : Hx (cN g n) k w) (hi : i < n) : w.cell? ⟨g, i, none⟩ = some (.int .i64 (k + i)) := h i _ (cN_get hi)
theorem Mx.add {g m : Nat} {k z : Int} {w wr : World} {v : Value} (M : Mx (cN g m) k w wr) (hc : w.cell? ⟨g, m, none⟩ = some v) (hz : z = k + m) : Mx (cN g (m + 1)) k w (wr.setCell ⟨g, m, none⟩ (.int .i64 z)) := by
  rw [cN_succ]
  have hc' := M.out _ _ hc (cN_ne (Nat.le_refl m))
  refine M.trans ?_ (fun x hx y hy => ?_)
  · rw [cN_len, hz]; exact Mx.one false hc'
  · simp only [List.mem_singleton] at hy; subst hy; exact cN_ne (Nat.le_refl m) x hx
def Mg (w : World) (g sz : Nat) (a : Option Addr) (n : Nat) : Prop := 0 < n → a = some ⟨g, 0, none⟩ ∧ ∀ i, i < n * sz → (∃ z, w.cell? ⟨g, i, none⟩ = some (.int .i64 z)) ∧ w.frozen? ⟨g, i, none⟩ = false
theorem Mg.mx {w w' : World} {g sz n : Nat} {a : Option Addr} {L : List (Addr × Bool)} {k : Int} (h : Mg w g sz a n) (m : Mx L k w w') (hn' : 0 < n → ∀ x ∈ L, x.1.block ≠ g) : Mg w' g sz a n := by
  intro h0
  have hn := hn' h0
  obtain ⟨e, h3⟩ := h h0
  refine ⟨e, fun i hi => ?_⟩
  obtain ⟨⟨z, hz⟩, hf⟩ := h3 i hi
  exact ⟨⟨z, m.out _ _ hz fun x hx e2 => hn x hx (by rw [e2])⟩, by rw [m.free _ (block_of_cell hz)]; exact hf⟩
set_option maxHeartbeats 1000000 in
theorem mx_nums (a : Option Addr) (n c g : Nat) (k : Int) (w : World) (h : Mg w g 1 a n) (hk : 0 ≤ k) (hz : k + n ≤ 4611686018427387904) :
    Calls Tryz.prog 13 #[.slice a n c, .int .i64 k] w fun e w' => e = .returned (.int .i64 (k + n)) ∧ Mx (cN g n) k w w' := by
  have HZ : Hid (Mg w g 1 a n) := h
  clear h
  go_enter Tryz.func13, Tryz.ntmps13
  go_wp2_with fail
  go_loopw [1, 5] (fun q i wr => ∃ j : Nat, j ≤ n ∧ i = .int .i64 j ∧ q = .int .i64 (k + j) ∧ Mx (cN g j) k w wr) (fun _ i _ => n - (intOf i).toNat)
  case atStart => exact ⟨0, Nat.zero_le _, rfl, by simp, Mx.refl _ _⟩
  case round =>
    obtain ⟨j, hj, rfl, rfl, hM⟩ := hrel
    have M0 : Hid (Mx (cN g j) k w wr) := hM
    by_cases hlt : j < n
    · obtain ⟨rfl, h3⟩ := HZ.out (by omega)
      obtain ⟨⟨z, c1⟩, f1'⟩ := h3 j (by omega)
      have D1 : Hid (w.cell? ⟨g, j, none⟩ = some (.int .i64 z)) := c1
      have d1 : wr.cell? ⟨g, j, none⟩ = some (.int .i64 z) := hM.out _ _ c1 (cN_ne (Nat.le_refl j))
      have f1 : wr.frozen? ⟨g, j, none⟩ = false := by rw [hM.free _ (block_of_cell c1)]; exact f1'
      have hI : (j : Int) < (n : Int) := by omega
      have HL : Hid (j < n) := hlt
      clear hM hlt h3 c1 f1'
      go_wp2_with fail
      go_roundw
      case rel => exact ⟨j + 1, by have := HL.out; omega, by go_num, by go_num, M0.out.add D1.out rfl⟩
      case measure => have := HL.out; simp [intOf]; omega
    · have hI : ¬ (j : Int) < (n : Int) := by omega
      obtain rfl : j = n := by omega
      clear hM
      go_wp2_with fail
      go_ret
      exact ⟨rfl, M0.out⟩
set_option maxHeartbeats 2000000 in
theorem mx_lanes (a : Option Addr) (n c g : Nat) (k : Int) (w : World) (h : Mg w g 5 a n) (hk : 0 ≤ k) (hz : k + (5 * n : Nat) ≤ 4611686018427387904) :
    Calls Tryz.prog 71 #[.slice a n c, .int .i64 k] w fun e w' => e = .returned (.int .i64 (k + (5 * n : Nat))) ∧ Mx (cN g (n * 5)) k w w' := by
  have HZ : Hid (Mg w g 5 a n) := h
  clear h
  go_enter Tryz.func71, Tryz.ntmps71
  go_wp2_with fail
  go_loopw [1, 5] (fun q i wr => ∃ j : Nat, j ≤ n ∧ i = .int .i64 j ∧ q = .int .i64 (k + (5 * j : Nat)) ∧ Mx (cN g (j * 5)) k w wr) (fun _ i _ => n - (intOf i).toNat)
  case atStart => exact ⟨0, Nat.zero_le _, rfl, by simp, by rw [Nat.zero_mul]; exact Mx.refl _ _⟩
  case round =>
    obtain ⟨j, hj, rfl, rfl, hM⟩ := hrel
    have M0 : Hid (Mx (cN g (j * 5)) k w wr) := hM
    by_cases hlt : j < n
    · obtain ⟨rfl, h3⟩ := HZ.out (by omega)
      obtain ⟨⟨z0, c0⟩, e0⟩ := h3 (j * 5) (by omega)
      obtain ⟨⟨z1, c1⟩, e1⟩ := h3 (j * 5 + 1) (by omega)
      obtain ⟨⟨z2, c2⟩, e2⟩ := h3 (j * 5 + 2) (by omega)
      obtain ⟨⟨z3, c3⟩, e3⟩ := h3 (j * 5 + 3) (by omega)
      obtain ⟨⟨z4, c4⟩, e4⟩ := h3 (j * 5 + 4) (by omega)
      have D0 : Hid (w.cell? ⟨g, j * 5, none⟩ = some (.int .i64 z0)) := c0
      have d0 : wr.cell? ⟨g, j * 5, none⟩ = some (.int .i64 z0) := hM.out _ _ c0 (cN_ne (by omega))
      have f0 : wr.frozen? ⟨g, j * 5, none⟩ = false := by rw [hM.free _ (block_of_cell c0)]; exact e0
      have D1 : Hid (w.cell? ⟨g, j * 5 + 1, none⟩ = some (.int .i64 z1)) := c1
      have d1 : wr.cell? ⟨g, j * 5 + 1, none⟩ = some (.int .i64 z1) := hM.out _ _ c1 (cN_ne (by omega))
      have f1 : wr.frozen? ⟨g, j * 5 + 1, none⟩ = false := by rw [hM.free _ (block_of_cell c1)]; exact e1
      have D2 : Hid (w.cell? ⟨g, j * 5 + 2, none⟩ = some (.int .i64 z2)) := c2
      have d2 : wr.cell? ⟨g, j * 5 + 2, none⟩ = some (.int .i64 z2) := hM.out _ _ c2 (cN_ne (by omega))
      have f2 : wr.frozen? ⟨g, j * 5 + 2, none⟩ = false := by rw [hM.free _ (block_of_cell c2)]; exact e2
      have D3 : Hid (w.cell? ⟨g, j * 5 + 3, none⟩ = some (.int .i64 z3)) := c3
      have d3 : wr.cell? ⟨g, j * 5 + 3, none⟩ = some (.int .i64 z3) := hM.out _ _ c3 (cN_ne (by omega))
      have f3 : wr.frozen? ⟨g, j * 5 + 3, none⟩ = false := by rw [hM.free _ (block_of_cell c3)]; exact e3
      have D4 : Hid (w.cell? ⟨g, j * 5 + 4, none⟩ = some (.int .i64 z4)) := c4
      have d4 : wr.cell? ⟨g, j * 5 + 4, none⟩ = some (.int .i64 z4) := hM.out _ _ c4 (cN_ne (by omega))
      have f4 : wr.frozen? ⟨g, j * 5 + 4, none⟩ = false := by rw [hM.free _ (block_of_cell c4)]; exact e4
      have hI : (j : Int) < (n : Int) := by omega
      have HL : Hid (j < n) := hlt
      have HK2 : Hid (k + ((5 * j : Nat) : Int) + 1 + 1 + 1 + 1 + 1 = k + ((5 * (j + 1) : Nat) : Int)) := by show _ = _; omega
      have HK3 : Hid (k + ((5 * j : Nat) : Int) = k + ((j * 5 : Nat) : Int)) := by show _ = _; omega
      have hb0 : 0 ≤ k + ((5 * j : Nat) : Int) := by omega
      have hb1 : k + ((5 * j : Nat) : Int) ≤ 4611686018427387904 := by omega
      generalize k + ((5 * j : Nat) : Int) = kk at *
      clear hM hlt h3 c0 e0 c1 e1 c2 e2 c3 e3 c4 e4
      go_wp2_with fail
      go_roundw
      case rel =>
        refine ⟨j + 1, by have := HL.out; omega, by go_num, by rw [← HK2.out], ?_⟩
        have ek := HK3.out
        rw [show (j + 1) * 5 = j * 5 + 1 + 1 + 1 + 1 + 1 by omega]
        have m0 := M0.out.add (z := kk) D0.out (by omega)
        have m1 := m0.add (z := kk + 1) D1.out (by omega)
        have m2 := m1.add (z := kk + 1 + 1) D2.out (by omega)
        have m3 := m2.add (z := kk + 1 + 1 + 1) D3.out (by omega)
        have m4 := m3.add (z := kk + 1 + 1 + 1 + 1) D4.out (by omega)
        exact m4
      case measure => have := HL.out; simp [intOf]; omega
    · have hI : ¬ (j : Int) < (n : Int) := by omega
      obtain rfl : j = n := by omega
      clear hM
      go_wp2_with fail
      go_ret
      exact ⟨rfl, M0.out⟩
set_option maxHeartbeats 2000000 in
theorem mx_bells (a : Option Addr) (n c g : Nat) (k : Int) (w : World) (h : Mg w g 2 a n) (hk : 0 ≤ k) (hz : k + (2 * n : Nat) ≤ 4611686018427387904) :
    Calls Tryz.prog 72 #[.slice a n c, .int .i64 k] w fun e w' => e = .returned (.int .i64 (k + (2 * n : Nat))) ∧ Mx (cN g (n * 2)) k w w' := by
  have HZ : Hid (Mg w g 2 a n) := h
  clear h
  go_enter Tryz.func72, Tryz.ntmps72
  go_wp2_with fail
  go_loopw [1, 5] (fun q i wr => ∃ j : Nat, j ≤ n ∧ i = .int .i64 j ∧ q = .int .i64 (k + (2 * j : Nat)) ∧ Mx (cN g (j * 2)) k w wr) (fun _ i _ => n - (intOf i).toNat)
  case atStart => exact ⟨0, Nat.zero_le _, rfl, by simp, by rw [Nat.zero_mul]; exact Mx.refl _ _⟩
  case round =>
    obtain ⟨j, hj, rfl, rfl, hM⟩ := hrel
    have M0 : Hid (Mx (cN g (j * 2)) k w wr) := hM
    by_cases hlt : j < n
    · obtain ⟨rfl, h3⟩ := HZ.out (by omega)
      obtain ⟨⟨z0, c0⟩, e0⟩ := h3 (j * 2) (by omega)
      obtain ⟨⟨z1, c1⟩, e1⟩ := h3 (j * 2 + 1) (by omega)
      have D0 : Hid (w.cell? ⟨g, j * 2, none⟩ = some (.int .i64 z0)) := c0
      have d0 : wr.cell? ⟨g, j * 2, none⟩ = some (.int .i64 z0) := hM.out _ _ c0 (cN_ne (by omega))
      have f0 : wr.frozen? ⟨g, j * 2, none⟩ = false := by rw [hM.free _ (block_of_cell c0)]; exact e0
      have D1 : Hid (w.cell? ⟨g, j * 2 + 1, none⟩ = some (.int .i64 z1)) := c1
      have d1 : wr.cell? ⟨g, j * 2 + 1, none⟩ = some (.int .i64 z1) := hM.out _ _ c1 (cN_ne (by omega))
      have f1 : wr.frozen? ⟨g, j * 2 + 1, none⟩ = false := by rw [hM.free _ (block_of_cell c1)]; exact e1
      have hI : (j : Int) < (n : Int) := by omega
      have HL : Hid (j < n) := hlt
      have HK2 : Hid (k + ((2 * j : Nat) : Int) + 1 + 1 = k + ((2 * (j + 1) : Nat) : Int)) := by show _ = _; omega
      have HK3 : Hid (k + ((2 * j : Nat) : Int) = k + ((j * 2 : Nat) : Int)) := by show _ = _; omega
      have hb0 : 0 ≤ k + ((2 * j : Nat) : Int) := by omega
      have hb1 : k + ((2 * j : Nat) : Int) ≤ 4611686018427387904 := by omega
      generalize k + ((2 * j : Nat) : Int) = kk at *
      clear hM hlt h3 c0 e0 c1 e1
      go_wp2_with fail
      go_roundw
      case rel =>
        refine ⟨j + 1, by have := HL.out; omega, by go_num, by rw [← HK2.out], ?_⟩
        have ek := HK3.out
        rw [show (j + 1) * 2 = j * 2 + 1 + 1 by omega]
        have m0 := M0.out.add (z := kk) D0.out (by omega)
        have m1 := m0.add (z := kk + 1) D1.out (by omega)
        exact m1
      case measure => have := HL.out; simp [intOf]; omega
    · have hI : ¬ (j : Int) < (n : Int) := by omega
      obtain rfl : j = n := by omega
      clear hM
      go_wp2_with fail
      go_ret
      exact ⟨rfl, M0.out⟩
set_option maxHeartbeats 2000000 in
theorem mx_slots (a : Option Addr) (n c g : Nat) (k : Int) (w : World) (h : Mg w g 2 a n) (hk : 0 ≤ k) (hz : k + (2 * n : Nat) ≤ 4611686018427387904) :
    Calls Tryz.prog 73 #[.slice a n c, .int .i64 k] w fun e w' => e = .returned (.int .i64 (k + (2 * n : Nat))) ∧ Mx (cN g (n * 2)) k w w' := by
  have HZ : Hid (Mg w g 2 a n) := h
  clear h
  go_enter Tryz.func73, Tryz.ntmps73
  go_wp2_with fail
  go_loopw [1, 5] (fun q i wr => ∃ j : Nat, j ≤ n ∧ i = .int .i64 j ∧ q = .int .i64 (k + (2 * j : Nat)) ∧ Mx (cN g (j * 2)) k w wr) (fun _ i _ => n - (intOf i).toNat)
  case atStart => exact ⟨0, Nat.zero_le _, rfl, by simp, by rw [Nat.zero_mul]; exact Mx.refl _ _⟩
  case round =>
    obtain ⟨j, hj, rfl, rfl, hM⟩ := hrel
    have M0 : Hid (Mx (cN g (j * 2)) k w wr) := hM
    by_cases hlt : j < n
    · obtain ⟨rfl, h3⟩ := HZ.out (by omega)
      obtain ⟨⟨z0, c0⟩, e0⟩ := h3 (j * 2) (by omega)
      obtain ⟨⟨z1, c1⟩, e1⟩ := h3 (j * 2 + 1) (by omega)
      have D0 : Hid (w.cell? ⟨g, j * 2, none⟩ = some (.int .i64 z0)) := c0
      have d0 : wr.cell? ⟨g, j * 2, none⟩ = some (.int .i64 z0) := hM.out _ _ c0 (cN_ne (by omega))
      have f0 : wr.frozen? ⟨g, j * 2, none⟩ = false := by rw [hM.free _ (block_of_cell c0)]; exact e0
      have D1 : Hid (w.cell? ⟨g, j * 2 + 1, none⟩ = some (.int .i64 z1)) := c1
      have d1 : wr.cell? ⟨g, j * 2 + 1, none⟩ = some (.int .i64 z1) := hM.out _ _ c1 (cN_ne (by omega))
      have f1 : wr.frozen? ⟨g, j * 2 + 1, none⟩ = false := by rw [hM.free _ (block_of_cell c1)]; exact e1
      have hI : (j : Int) < (n : Int) := by omega
      have HL : Hid (j < n) := hlt
      have HK2 : Hid (k + ((2 * j : Nat) : Int) + 1 + 1 = k + ((2 * (j + 1) : Nat) : Int)) := by show _ = _; omega
      have HK3 : Hid (k + ((2 * j : Nat) : Int) = k + ((j * 2 : Nat) : Int)) := by show _ = _; omega
      have hb0 : 0 ≤ k + ((2 * j : Nat) : Int) := by omega
      have hb1 : k + ((2 * j : Nat) : Int) ≤ 4611686018427387904 := by omega
      generalize k + ((2 * j : Nat) : Int) = kk at *
      clear hM hlt h3 c0 e0 c1 e1
      go_wp2_with fail
      go_roundw
      case rel =>
        refine ⟨j + 1, by have := HL.out; omega, by go_num, by rw [← HK2.out], ?_⟩
        have ek := HK3.out
        rw [show (j + 1) * 2 = j * 2 + 1 + 1 by omega]
        have m0 := M0.out.add (z := kk) D0.out (by omega)
        have m1 := m0.add (z := kk + 1) D1.out (by omega)
        exact m1
      case measure => have := HL.out; simp [intOf]; omega
    · have hI : ¬ (j : Int) < (n : Int) := by omega
      obtain rfl : j = n := by omega
      clear hM
      go_wp2_with fail
      go_ret
      exact ⟨rfl, M0.out⟩
theorem cN_pos {g n : Nat} {x : Addr × Bool} (h : x ∈ cN g n) : 0 < n := by
  simp only [cN, List.mem_map, List.mem_range] at h; obtain ⟨j, hj, _⟩ := h; omega
def rN (R : List (Nat × Nat)) : List (Addr × Bool) := R.flatMap fun r => cN r.1 r.2
theorem rN_mem {R : List (Nat × Nat)} {x : Addr × Bool} (h : x ∈ rN R) : ∃ r ∈ R, 0 < r.2 ∧ x.1.block = r.1 := by
  simp only [rN, List.mem_flatMap] at h
  obtain ⟨r, hr, hx⟩ := h
  exact ⟨r, hr, cN_pos hx, cN_block hx⟩
theorem rN_succ {R : List (Nat × Nat)} {j : Nat} {r : Nat × Nat} (h : R[j]? = some r) : rN (R.take (j + 1)) = rN (R.take j) ++ cN r.1 r.2 := by
  simp [rN, List.take_add_one, h]
theorem rN_len {R : List (Nat × Nat)} (hs : ∀ r ∈ R, r.2 ≤ 1048576) : (rN R).length ≤ 1048576 * R.length := by
  induction R with
  | nil => simp [rN]
  | cons r R ih =>
    have h1 := hs r (by simp)
    have h2 := ih fun r hr => hs r (by simp [hr])
    have : (rN (r :: R)).length = r.2 + (rN R).length := by simp [rN, cN_len]
    simp only [List.length_cons]
    omega
structure Rg (w : World) (g : Nat) (R : List (Nat × Nat)) : Prop where
  row : ∀ (i : Nat) (r : Nat × Nat), R[i]? = some r → ∃ a c, w.cell? ⟨g, i, none⟩ = some (.slice a r.2 c) ∧ Mg w r.1 1 a r.2
  small : ∀ r ∈ R, r.2 ≤ 1048576
  apart : R.Pairwise fun r s => 0 < r.2 → 0 < s.2 → r.1 ≠ s.1
  off : ∀ r ∈ R, 0 < r.2 → r.1 ≠ g
theorem Rg.mx {w w' : World} {g : Nat} {R : List (Nat × Nat)} {L : List (Addr × Bool)} {k : Int} (h : Rg w g R) (m : Mx L k w w') (hg : ∀ x ∈ L, x.1.block ≠ g) (hr : ∀ r ∈ R, 0 < r.2 → ∀ x ∈ L, x.1.block ≠ r.1) : Rg w' g R := by
  refine ⟨fun i r e => ?_, h.small, h.apart, h.off⟩
  obtain ⟨a, c, k1, k2⟩ := h.row i r e
  exact ⟨a, c, m.out _ _ k1 fun x hx e2 => hg x hx (by rw [e2]), k2.mx m fun h0 => hr r (List.mem_of_getElem? e) h0⟩
theorem Rg.next {w wr : World} {g j : Nat} {R : List (Nat × Nat)} {r : Nat × Nat} {k : Int} (h : Rg w g R) (m : Mx (rN (R.take j)) k w wr) (e : R[j]? = some r) :
    (∃ a c, wr.cell? ⟨g, j, none⟩ = some (.slice a r.2 c) ∧ Mg wr r.1 1 a r.2) ∧ ∀ x ∈ rN (R.take j), ∀ y ∈ cN r.1 r.2, x.1 ≠ y.1 := by
  obtain ⟨a, c, k1, k2⟩ := h.row j r e
  have hd : 0 < r.2 → ∀ x ∈ rN (R.take j), x.1.block ≠ r.1 := by
    intro h0 x hx
    obtain ⟨s, hs, hp, hb⟩ := rN_mem hx
    obtain ⟨i, hi, rfl⟩ := List.mem_take_iff_getElem.1 hs
    obtain ⟨hj, rfl⟩ := List.getElem?_eq_some_iff.1 e
    rw [hb]
    exact List.pairwise_iff_getElem.1 h.apart i j (by omega) hj (by omega) hp h0
  refine ⟨⟨a, c, m.out _ _ k1 fun x hx e2 => ?_, k2.mx m hd⟩, fun x hx y hy e2 => ?_⟩
  · obtain ⟨s, hs, hp, hb⟩ := rN_mem hx
    exact h.off s (List.mem_of_mem_take hs) hp (by rw [← hb, e2])
  · exact hd (cN_pos hy) x hx (by rw [e2, cN_block hy])
set_option maxHeartbeats 2000000 in
theorem mx_rows (a0 : Option Addr) (g n c : Nat) (R : List (Nat × Nat)) (k : Int) (w : World) (h : Rg w g R) (hR : R.length = n) (ha : 0 < n → a0 = some ⟨g, 0, none⟩) (hn : n ≤ 1048576) (hk : 0 ≤ k) (hz : k ≤ 2199023255552) :
    Calls Tryz.prog 70 #[.slice a0 n c, .int .i64 k] w fun e w' => e = .returned (.int .i64 (k + (rN R).length)) ∧ Mx (rN R) k w w' := by
  have HZ : Hid (Rg w g R) := h
  have HR : Hid (R.length = n) := hR
  have HA : Hid (0 < n → a0 = some ⟨g, 0, none⟩) := ha
  have hn2 : (n : Int) ≤ 1048576 := by omega
  clear h hR ha
  go_enter Tryz.func70, Tryz.ntmps70
  go_wp2_with fail
  go_loopw [1, 5] (fun q i wr => ∃ (j : Nat) (r : Int), j ≤ n ∧ i = .int .i64 j ∧ q = .int .i64 r ∧ 0 ≤ r ∧ r ≤ k + 1048576 * j ∧ r = k + (rN (R.take j)).length ∧ Mx (rN (R.take j)) k w wr) (fun _ i _ => n - (intOf i).toNat)
  case atStart => exact ⟨0, k, Nat.zero_le _, rfl, rfl, hk, by omega, by simp [rN], by simp only [List.take_zero]; exact Mx.refl _ _⟩
  case round =>
    obtain ⟨j, r, hj, rfl, rfl, hr0, hr1, hr2, hM⟩ := hrel
    have M0 : Hid (Mx (rN (R.take j)) k w wr) := hM
    have R0 : Hid (0 ≤ r ∧ r ≤ k + 1048576 * j) := ⟨hr0, hr1⟩
    have R2 : Hid (r = k + (rN (R.take j)).length) := hr2
    by_cases hlt : j < n
    · obtain rfl := HA.out (by omega)
      have hjR : j < R.length := by have := HR.out; omega
      obtain ⟨p, hp⟩ : ∃ p, R[j]? = some p := ⟨_, List.getElem?_eq_getElem hjR⟩
      obtain ⟨⟨a, c, k1, k2⟩, k4⟩ := HZ.out.next hM hp
      have HP : Hid (R[j]? = some p) := hp
      have K2 : Hid (Mg wr p.1 1 a p.2) := k2
      have K3 : Hid (p.2 ≤ 1048576) := HZ.out.small p (List.mem_of_getElem? hp)
      have K4 : Hid (∀ x ∈ rN (R.take j), ∀ y ∈ cN p.1 p.2, x.1 ≠ y.1) := k4
      have hI : (j : Int) < (n : Int) := by omega
      have HL : Hid (j < n) := hlt
      clear hM hlt k2 hr1 hr2 k4 hp hjR
      obtain ⟨l, hl⟩ : ∃ l, p.2 = l := ⟨_, rfl⟩
      rw [hl] at k1
      have HLL : Hid (p.2 = l) := hl
      clear hl
      go_wp2_with (go_at_call 13; refine (mx_nums _ _ _ p.1 _ _ (by rw [← HLL.out]; exact K2.out) R0.out.1 (by have := R0.out.2; have := K3.out; have := HLL.out; have := HL.out; omega)).mono ?_; rintro e w1 ⟨rfl, m1⟩; have M1 : Hid (Mx (cN p.1 l) r wr w1) := m1; clear m1)
      go_roundw
      case rel =>
        have hl := HLL.out
        refine ⟨j + 1, r + l, by have := HL.out; omega, by go_num, rfl, by have := R0.out.1; omega, by have := R0.out.2; have := K3.out; omega, ?_, ?_⟩
        · rw [rN_succ HP.out, List.length_append, cN_len, R2.out, hl]; omega
        · rw [rN_succ HP.out]
          refine M0.out.trans ?_ K4.out
          rw [← R2.out, hl]; exact M1.out
      case measure => have := HL.out; simp [intOf]; omega
    · have hI : ¬ (j : Int) < (n : Int) := by omega
      obtain rfl : j = n := by omega
      have ht : R.take j = R := by rw [← HR.out]; exact List.take_length
      rw [ht] at M0 R2
      clear hM hr2
      go_wp2_with fail
      go_ret
      exact ⟨by rw [R2.out]; rfl, M0.out⟩
theorem Hx.left {L M : List (Addr × Bool)} {k : Int} {w : World} (h : Hx (L ++ M) k w) : Hx L k w := fun i x e =>
  h i x (by rw [List.getElem?_append_left (List.getElem?_eq_some_iff.1 e).1]; exact e)
theorem Hx.right {L M : List (Addr × Bool)} {k : Int} {w : World} (h : Hx (L ++ M) k w) : Hx M (k + L.length) w := fun i x e => by
  have := h (L.length + i) x (by rw [List.getElem?_append_right (by omega), Nat.add_sub_cancel_left]; exact e)
  rw [show k + ((L.length + i : Nat) : Int) = k + L.length + i by omega] at this
  exact this
set_option maxHeartbeats 1000000 in
theorem hx_nums (a : Option Addr) (n c g : Nat) (k : Int) (w : World) (h : Hx (cN g n) k w) (ha : 0 < n → a = some ⟨g, 0, none⟩) (hk : 0 ≤ k) (hz : k + n ≤ 4611686018427387904) :
    Calls Tryz.prog 75 #[.slice a n c, .int .i64 k] w fun e w' => e = .returned (.int .i64 (k + n)) ∧ w' = w := by
  have HZ : Hid (Hx (cN g n) k w) := h
  have HA : Hid (0 < n → a = some ⟨g, 0, none⟩) := ha
  clear h ha
  go_enter Tryz.func75, Tryz.ntmps75
  go_wp2_with fail
  go_loop [1, 5] (fun q i => ∃ j : Nat, j ≤ n ∧ i = .int .i64 j ∧ q = .int .i64 (k + j)) (fun _ i => n - (intOf i).toNat)
  case atStart => exact ⟨0, Nat.zero_le _, rfl, by simp⟩
  case round =>
    obtain ⟨j, hj, rfl, rfl⟩ := hrel
    by_cases hlt : j < n
    · obtain rfl := HA.out (by omega)
      have c1 := HZ.out.num hlt
      have hI : (j : Int) < (n : Int) := by omega
      have HL : Hid (j < n) := hlt
      clear hlt
      go_wp2_with fail
      go_round
      case rel => exact ⟨j + 1, by have := HL.out; omega, by go_num, by go_num⟩
      case measure => have := HL.out; simp [intOf]; omega
    · have hI : ¬ (j : Int) < (n : Int) := by omega
      obtain rfl : j = n := by omega
      go_wp2_with fail
      go_ret
      exact ⟨rfl, rfl⟩
set_option maxHeartbeats 2000000 in
theorem hx_lanes (a : Option Addr) (n c g : Nat) (k : Int) (w : World) (h : Hx (cN g (n * 5)) k w) (ha : 0 < n → a = some ⟨g, 0, none⟩) (hk : 0 ≤ k) (hz : k + (5 * n : Nat) ≤ 4611686018427387904) :
    Calls Tryz.prog 102 #[.slice a n c, .int .i64 k] w fun e w' => e = .returned (.int .i64 (k + (5 * n : Nat))) ∧ w' = w := by
  have HZ : Hid (Hx (cN g (n * 5)) k w) := h
  have HA : Hid (0 < n → a = some ⟨g, 0, none⟩) := ha
  clear h ha
  go_enter Tryz.func102, Tryz.ntmps102
  go_wp2_with fail
  go_loop [1, 5] (fun q i => ∃ j : Nat, j ≤ n ∧ i = .int .i64 j ∧ q = .int .i64 (k + (5 * j : Nat))) (fun _ i => n - (intOf i).toNat)
  case atStart => exact ⟨0, Nat.zero_le _, rfl, by simp⟩
  case round =>
    obtain ⟨j, hj, rfl, rfl⟩ := hrel
    by_cases hlt : j < n
    · obtain rfl := HA.out (by omega)
      have c0 := HZ.out.num (i := j * 5) (by omega)
      rw [show k + ((j * 5 : Nat) : Int) = k + ((5 * j : Nat) : Int) by omega] at c0
      have c1 := HZ.out.num (i := j * 5 + 1) (by omega)
      rw [show k + ((j * 5 + 1 : Nat) : Int) = k + ((5 * j : Nat) : Int) + 1 by omega] at c1
      have c2 := HZ.out.num (i := j * 5 + 2) (by omega)
      rw [show k + ((j * 5 + 2 : Nat) : Int) = k + ((5 * j : Nat) : Int) + 1 + 1 by omega] at c2
      have c3 := HZ.out.num (i := j * 5 + 3) (by omega)
      rw [show k + ((j * 5 + 3 : Nat) : Int) = k + ((5 * j : Nat) : Int) + 1 + 1 + 1 by omega] at c3
      have c4 := HZ.out.num (i := j * 5 + 4) (by omega)
      rw [show k + ((j * 5 + 4 : Nat) : Int) = k + ((5 * j : Nat) : Int) + 1 + 1 + 1 + 1 by omega] at c4
      have hI : (j : Int) < (n : Int) := by omega
      have HL : Hid (j < n) := hlt
      have HK2 : Hid (k + ((5 * j : Nat) : Int) + 1 + 1 + 1 + 1 + 1 = k + ((5 * (j + 1) : Nat) : Int)) := by show _ = _; omega
      have hb0 : 0 ≤ k + ((5 * j : Nat) : Int) := by omega
      have hb1 : k + ((5 * j : Nat) : Int) ≤ 4611686018427387904 := by omega
      generalize k + ((5 * j : Nat) : Int) = kk at *
      clear hlt
      go_wp2_with fail
      go_round
      case rel => exact ⟨j + 1, by have := HL.out; omega, by go_num, by rw [← HK2.out]⟩
      case measure => have := HL.out; simp [intOf]; omega
    · have hI : ¬ (j : Int) < (n : Int) := by omega
      obtain rfl : j = n := by omega
      go_wp2_with fail
      go_ret
      exact ⟨rfl, rfl⟩
set_option maxHeartbeats 2000000 in
theorem hx_bells (a : Option Addr) (n c g : Nat) (k : Int) (w : World) (h : Hx (cN g (n * 2)) k w) (ha : 0 < n → a = some ⟨g, 0, none⟩) (hk : 0 ≤ k) (hz : k + (2 * n : Nat) ≤ 4611686018427387904) :
    Calls Tryz.prog 103 #[.slice a n c, .int .i64 k] w fun e w' => e = .returned (.int .i64 (k + (2 * n : Nat))) ∧ w' = w := by
  have HZ : Hid (Hx (cN g (n * 2)) k w) := h
  have HA : Hid (0 < n → a = some ⟨g, 0, none⟩) := ha
  clear h ha
  go_enter Tryz.func103, Tryz.ntmps103
  go_wp2_with fail
  go_loop [1, 5] (fun q i => ∃ j : Nat, j ≤ n ∧ i = .int .i64 j ∧ q = .int .i64 (k + (2 * j : Nat))) (fun _ i => n - (intOf i).toNat)
  case atStart => exact ⟨0, Nat.zero_le _, rfl, by simp⟩
  case round =>
    obtain ⟨j, hj, rfl, rfl⟩ := hrel
    by_cases hlt : j < n
    · obtain rfl := HA.out (by omega)
      have c0 := HZ.out.num (i := j * 2) (by omega)
      rw [show k + ((j * 2 : Nat) : Int) = k + ((2 * j : Nat) : Int) by omega] at c0
      have c1 := HZ.out.num (i := j * 2 + 1) (by omega)
      rw [show k + ((j * 2 + 1 : Nat) : Int) = k + ((2 * j : Nat) : Int) + 1 by omega] at c1
      have hI : (j : Int) < (n : Int) := by omega
      have HL : Hid (j < n) := hlt
      have HK2 : Hid (k + ((2 * j : Nat) : Int) + 1 + 1 = k + ((2 * (j + 1) : Nat) : Int)) := by show _ = _; omega
      have hb0 : 0 ≤ k + ((2 * j : Nat) : Int) := by omega
      have hb1 : k + ((2 * j : Nat) : Int) ≤ 4611686018427387904 := by omega
      generalize k + ((2 * j : Nat) : Int) = kk at *
      clear hlt
      go_wp2_with fail
      go_round
      case rel => exact ⟨j + 1, by have := HL.out; omega, by go_num, by rw [← HK2.out]⟩
      case measure => have := HL.out; simp [intOf]; omega
    · have hI : ¬ (j : Int) < (n : Int) := by omega
      obtain rfl : j = n := by omega
      go_wp2_with fail
      go_ret
      exact ⟨rfl, rfl⟩
set_option maxHeartbeats 2000000 in
theorem hx_slots (a : Option Addr) (n c g : Nat) (k : Int) (w : World) (h : Hx (cN g (n * 2)) k w) (ha : 0 < n → a = some ⟨g, 0, none⟩) (hk : 0 ≤ k) (hz : k + (2 * n : Nat) ≤ 4611686018427387904) :
    Calls Tryz.prog 104 #[.slice a n c, .int .i64 k] w fun e w' => e = .returned (.int .i64 (k + (2 * n : Nat))) ∧ w' = w := by
  have HZ : Hid (Hx (cN g (n * 2)) k w) := h
  have HA : Hid (0 < n → a = some ⟨g, 0, none⟩) := ha
  clear h ha
  go_enter Tryz.func104, Tryz.ntmps104
  go_wp2_with fail
  go_loop [1, 5] (fun q i => ∃ j : Nat, j ≤ n ∧ i = .int .i64 j ∧ q = .int .i64 (k + (2 * j : Nat))) (fun _ i => n - (intOf i).toNat)
  case atStart => exact ⟨0, Nat.zero_le _, rfl, by simp⟩
  case round =>
    obtain ⟨j, hj, rfl, rfl⟩ := hrel
    by_cases hlt : j < n
    · obtain rfl := HA.out (by omega)
      have c0 := HZ.out.num (i := j * 2) (by omega)
      rw [show k + ((j * 2 : Nat) : Int) = k + ((2 * j : Nat) : Int) by omega] at c0
      have c1 := HZ.out.num (i := j * 2 + 1) (by omega)
      rw [show k + ((j * 2 + 1 : Nat) : Int) = k + ((2 * j : Nat) : Int) + 1 by omega] at c1
      have hI : (j : Int) < (n : Int) := by omega
      have HL : Hid (j < n) := hlt
      have HK2 : Hid (k + ((2 * j : Nat) : Int) + 1 + 1 = k + ((2 * (j + 1) : Nat) : Int)) := by show _ = _; omega
      have hb0 : 0 ≤ k + ((2 * j : Nat) : Int) := by omega
      have hb1 : k + ((2 * j : Nat) : Int) ≤ 4611686018427387904 := by omega
      generalize k + ((2 * j : Nat) : Int) = kk at *
      clear hlt
      go_wp2_with fail
      go_round
      case rel => exact ⟨j + 1, by have := HL.out; omega, by go_num, by rw [← HK2.out]⟩
      case measure => have := HL.out; simp [intOf]; omega
    · have hI : ¬ (j : Int) < (n : Int) := by omega
      obtain rfl : j = n := by omega
      go_wp2_with fail
      go_ret
      exact ⟨rfl, rfl⟩
theorem rN_split (R : List (Nat × Nat)) (j : Nat) : rN R = rN (R.take j) ++ rN (R.drop j) := by
  rw [rN, rN, rN, ← List.flatMap_append, List.take_append_drop]
set_option maxHeartbeats 2000000 in
theorem hx_rows (a0 : Option Addr) (g n c : Nat) (R : List (Nat × Nat)) (k : Int) (w : World) (h : Hx (rN R) k w) (hR : R.length = n) (ha : 0 < n → a0 = some ⟨g, 0, none⟩)
    (hd : ∀ (i : Nat) (r : Nat × Nat), R[i]? = some r → ∃ a c, w.cell? ⟨g, i, none⟩ = some (.slice a r.2 c) ∧ (0 < r.2 → a = some ⟨r.1, 0, none⟩)) (hs : ∀ r ∈ R, r.2 ≤ 1048576) (hn : n ≤ 1048576) (hk : 0 ≤ k) (hz : k ≤ 2199023255552) :
    Calls Tryz.prog 101 #[.slice a0 n c, .int .i64 k] w fun e w' => e = .returned (.int .i64 (k + (rN R).length)) ∧ w' = w := by
  have HZ : Hid (Hx (rN R) k w) := h
  have HR : Hid (R.length = n) := hR
  have HA : Hid (0 < n → a0 = some ⟨g, 0, none⟩) := ha
  have HD : Hid (∀ (i : Nat) (r : Nat × Nat), R[i]? = some r → ∃ a c, w.cell? ⟨g, i, none⟩ = some (.slice a r.2 c) ∧ (0 < r.2 → a = some ⟨r.1, 0, none⟩)) := hd
  have HS : Hid (∀ r ∈ R, r.2 ≤ 1048576) := hs
  have hn2 : (n : Int) ≤ 1048576 := by omega
  clear h hR ha hd hs
  go_enter Tryz.func101, Tryz.ntmps101
  go_wp2_with fail
  go_loop [1, 5] (fun q i => ∃ (j : Nat) (r : Int), j ≤ n ∧ i = .int .i64 j ∧ q = .int .i64 r ∧ 0 ≤ r ∧ r ≤ k + 1048576 * j ∧ r = k + (rN (R.take j)).length) (fun _ i => n - (intOf i).toNat)
  case atStart => exact ⟨0, k, Nat.zero_le _, rfl, rfl, hk, by omega, by simp [rN]⟩
  case round =>
    obtain ⟨j, r, hj, rfl, rfl, hr0, hr1, hr2⟩ := hrel
    have R0 : Hid (0 ≤ r ∧ r ≤ k + 1048576 * j) := ⟨hr0, hr1⟩
    have R2 : Hid (r = k + (rN (R.take j)).length) := hr2
    by_cases hlt : j < n
    · obtain rfl := HA.out (by omega)
      have hjR : j < R.length := by have := HR.out; omega
      obtain ⟨p, hp⟩ : ∃ p, R[j]? = some p := ⟨_, List.getElem?_eq_getElem hjR⟩
      obtain ⟨a, c, k1, k2⟩ := HD.out j p hp
      have HP : Hid (R[j]? = some p) := hp
      have K3 : Hid (p.2 ≤ 1048576) := HS.out p (List.mem_of_getElem? hp)
      have hx : Hx (cN p.1 p.2) r w := by
        have h1 := HZ.out
        rw [rN_split R (j + 1), rN_succ hp] at h1
        have h2 := h1.left.right
        rw [← hr2] at h2
        exact h2
      obtain ⟨l, hl⟩ : ∃ l, p.2 = l := ⟨_, rfl⟩
      rw [hl] at k1 k2 hx
      have K2 : Hid (0 < l → a = some ⟨p.1, 0, none⟩) := k2
      have HX : Hid (Hx (cN p.1 l) r w) := hx
      have HLL : Hid (p.2 = l) := hl
      have hI : (j : Int) < (n : Int) := by omega
      have HL : Hid (j < n) := hlt
      have hrl : 0 ≤ r + l := by omega
      clear hlt k2 hr1 hr2 hp hjR hx hl
      go_wp2_with (go_at_call 75; refine (hx_nums _ _ _ p.1 _ _ HX.out K2.out R0.out.1 (by have := R0.out.2; have := K3.out; have := HLL.out; have := HL.out; omega)).mono ?_; rintro e w1 ⟨rfl, rfl⟩)
      go_round
      case rel =>
        have hl := HLL.out
        refine ⟨j + 1, r + l, by have := HL.out; omega, by go_num, rfl, by have := R0.out.1; omega, by have := R0.out.2; have := K3.out; omega, ?_⟩
        rw [rN_succ HP.out, List.length_append, cN_len, R2.out, hl]; omega
      case measure => have := HL.out; simp [intOf]; omega
    · have hI : ¬ (j : Int) < (n : Int) := by omega
      obtain rfl : j = n := by omega
      have ht : R.take j = R := by rw [← HR.out]; exact List.take_length
      rw [ht] at R2
      clear hr2
      go_wp2_with fail
      go_ret
      exact ⟨by rw [R2.out]; rfl, rfl⟩
theorem off2 {L M : List (Addr × Bool)} {s : Nat} (h1 : ∀ x ∈ L, x.1.block ≠ s) (h2 : ∀ x ∈ M, x.1.block ≠ s) : ∀ x ∈ L ++ M, x.1.block ≠ s := fun x hx =>
  (List.mem_append.1 hx).elim (h1 x) (h2 x)
theorem Mx.pre {L : List (Addr × Bool)} {k : Int} {a b c : World} (h : Mx [] k a b) (m : Mx L k b c) : Mx L k a c := by
  have := h.trans (M := L) (by simpa using m) (by simp)
  simpa using this
theorem Mg.lt {w : World} {g sz n : Nat} {a : Option Addr} (h : Mg w g sz a n) (hs : 0 < sz) (hn : 0 < n) : g < w.heap.size := by
  obtain ⟨_, h3⟩ := h hn
  obtain ⟨⟨z, hz⟩, _⟩ := h3 0 (Nat.mul_pos hn hs)
  exact block_of_cell hz
theorem Mg.at {w : World} {g sz n : Nat} {a : Option Addr} (h : Mg w g sz a n) (hn : 0 < n) : a = some ⟨g, 0, none⟩ := (h hn).1
theorem Mg.cells {w : World} {g sz n : Nat} {a : Option Addr} (h : Mg w g sz a n) {x : Addr × Bool} (hx : x ∈ cN g (n * sz)) : x.1.block = g ∧ 0 < n ∧ g < w.heap.size := by
  have hp := cN_pos hx
  have h1 : 0 < n := Nat.pos_of_mul_pos_right hp
  have h2 : 0 < sz := Nat.pos_of_mul_pos_left hp
  exact ⟨cN_block hx, h1, h.lt h2 h1⟩
theorem Rg.cells {w : World} {g : Nat} {R : List (Nat × Nat)} (h : Rg w g R) {x : Addr × Bool} (hx : x ∈ rN R) : ∃ r ∈ R, 0 < r.2 ∧ x.1.block = r.1 ∧ r.1 < w.heap.size := by
  obtain ⟨r, hr, hp, hb⟩ := rN_mem hx
  obtain ⟨i, hi, e⟩ := List.mem_iff_getElem.1 hr
  obtain ⟨a, c, _, k2⟩ := h.row i r (by rw [List.getElem?_eq_getElem hi, e])
  exact ⟨r, hr, hp, hb, k2.lt (by decide) hp⟩
structure Pg (w : World) (a0 a1 a2 a3 : Option Addr) (n0 n1 n2 n3 g0 g1 g2 g3 : Nat) (R : List (Nat × Nat)) : Prop where
  own : Rg w g0 R
  len : R.length = n0
  at0 : 0 < n0 → a0 = some ⟨g0, 0, none⟩
  lanes : Mg w g1 5 a1 n1
  bells : Mg w g2 2 a2 n2
  plan : Mg w g3 2 a3 n3
  s0 : n0 ≤ 1048576
  s1 : n1 ≤ 1048576
  s2 : n2 ≤ 1048576
  s3 : n3 ≤ 1048576
  d1 : 0 < n1 → ∀ r ∈ R, 0 < r.2 → r.1 ≠ g1
  d2 : 0 < n2 → ∀ r ∈ R, 0 < r.2 → r.1 ≠ g2
  d3 : 0 < n3 → ∀ r ∈ R, 0 < r.2 → r.1 ≠ g3
  d12 : 0 < n1 → 0 < n2 → g1 ≠ g2
  d13 : 0 < n1 → 0 < n3 → g1 ≠ g3
  d23 : 0 < n2 → 0 < n3 → g2 ≠ g3
  h1 : 0 < n0 → 0 < n1 → g1 ≠ g0
  h2 : 0 < n0 → 0 < n2 → g2 ≠ g0
  h3 : 0 < n0 → 0 < n3 → g3 ≠ g0
def pN (g1 g2 g3 n1 n2 n3 : Nat) (R : List (Nat × Nat)) : List (Addr × Bool) := ((rN R ++ cN g1 (n1 * 5)) ++ cN g2 (n2 * 2)) ++ cN g3 (n3 * 2)
theorem pN_len (g1 g2 g3 n1 n2 n3 : Nat) (R : List (Nat × Nat)) : ((pN g1 g2 g3 n1 n2 n3 R).length : Int) = (rN R).length + (5 * n1 : Nat) + (2 * n2 : Nat) + (2 * n3 : Nat) := by
  simp only [pN, List.length_append, cN_len]; omega
theorem Rg.alloc {w : World} {g : Nat} {R : List (Nat × Nat)} (h : Rg w g R) (o : Obj) : Rg (w.alloc o) g R := h.mx ((Mx.refl 0 w).alloc o) (by simp) (by simp)
theorem Mg.alloc {w : World} {g sz n : Nat} {a : Option Addr} (h : Mg w g sz a n) (o : Obj) : Mg (w.alloc o) g sz a n := h.mx ((Mx.refl 0 w).alloc o) (by simp)
theorem Pg.alloc {w : World} {a0 a1 a2 a3 : Option Addr} {n0 n1 n2 n3 g0 g1 g2 g3 : Nat} {R : List (Nat × Nat)} (h : Pg w a0 a1 a2 a3 n0 n1 n2 n3 g0 g1 g2 g3 R) (o : Obj) : Pg (w.alloc o) a0 a1 a2 a3 n0 n1 n2 n3 g0 g1 g2 g3 R :=
  { h with own := h.own.alloc o, lanes := h.lanes.alloc o, bells := h.bells.alloc o, plan := h.plan.alloc o }
set_option maxHeartbeats 2000000 in
theorem mx_policy (a0 a1 a2 a3 : Option Addr) (n0 n1 n2 n3 c0 c1 c2 c3 g0 g1 g2 g3 : Nat) (R : List (Nat × Nat)) (k : Int) (w : World) (h : Pg w a0 a1 a2 a3 n0 n1 n2 n3 g0 g1 g2 g3 R) (hk : 0 ≤ k) (hz : k ≤ 1048576) :
    Calls Tryz.prog 31 #[.agg #[.slice a0 n0 c0, .slice a1 n1 c1, .slice a2 n2 c2, .slice a3 n3 c3], .int .i64 k] w fun e w' => e = .returned (.int .i64 (k + (pN g1 g2 g3 n1 n2 n3 R).length)) ∧ Mx (pN g1 g2 g3 n1 n2 n3 R) k w w' := by
  generalize hW : (w.alloc (.cells #[.slice a0 n0 c0, .slice a1 n1 c1, .slice a2 n2 c2, .slice a3 n3 c3] 37)) = W
  have MW : Hid (Mx [] k w W) := by show Mx _ _ _ _; rw [← hW]; exact (Mx.refl _ _).alloc _
  obtain ⟨s, hS⟩ : ∃ s, w.heap.size = s := ⟨_, rfl⟩
  have Q : Hid (W.cell? ⟨s, 0, none⟩ = some (.slice a0 n0 c0) ∧ W.cell? ⟨s, 1, none⟩ = some (.slice a1 n1 c1) ∧ W.cell? ⟨s, 2, none⟩ = some (.slice a2 n2 c2) ∧ W.cell? ⟨s, 3, none⟩ = some (.slice a3 n3 c3)) := by
    show _ ∧ _
    rw [← hW, ← hS]
    exact ⟨cell_new rfl, cell_new rfl, cell_new rfl, cell_new rfl⟩
  have HM : Hid (Pg W a0 a1 a2 a3 n0 n1 n2 n3 g0 g1 g2 g3 R) := by show Pg ..; rw [← hW]; exact h.alloc _
  have L0 : Hid (∀ x ∈ rN R, x.1.block ≠ s) := fun x hx => by obtain ⟨r, _, _, e1, e2⟩ := h.own.cells hx; omega
  have L1 : Hid (∀ x ∈ cN g1 (n1 * 5), x.1.block ≠ s) := fun x hx => by obtain ⟨e1, _, e2⟩ := h.lanes.cells hx; omega
  have L2 : Hid (∀ x ∈ cN g2 (n2 * 2), x.1.block ≠ s) := fun x hx => by obtain ⟨e1, _, e2⟩ := h.bells.cells hx; omega
  have RL : Hid ((rN R).length ≤ 1048576 * n0) := by show _ ≤ _; rw [← h.len]; exact rN_len h.own.small
  have D01 : Hid (∀ x ∈ rN R, ∀ y ∈ cN g1 (n1 * 5), x.1 ≠ y.1) := fun x hx y hy e => by
    obtain ⟨r, hr, hp, e1, _⟩ := h.own.cells hx; obtain ⟨e2, hn, _⟩ := h.lanes.cells hy
    exact h.d1 hn r hr hp (by rw [← e1, ← e2, e])
  have D02 : Hid (∀ x ∈ rN R ++ cN g1 (n1 * 5), ∀ y ∈ cN g2 (n2 * 2), x.1 ≠ y.1) := fun x hx y hy e => by
    obtain ⟨e2, hn, _⟩ := h.bells.cells hy
    rcases List.mem_append.1 hx with hx | hx
    · obtain ⟨r, hr, hp, e1, _⟩ := h.own.cells hx
      exact h.d2 hn r hr hp (by rw [← e1, ← e2, e])
    · obtain ⟨e1, hm, _⟩ := h.lanes.cells hx
      exact h.d12 hm hn (by rw [← e1, ← e2, e])
  have D03 : Hid (∀ x ∈ (rN R ++ cN g1 (n1 * 5)) ++ cN g2 (n2 * 2), ∀ y ∈ cN g3 (n3 * 2), x.1 ≠ y.1) := fun x hx y hy e => by
    obtain ⟨e2, hn, _⟩ := h.plan.cells hy
    rcases List.mem_append.1 hx with hx | hx
    · rcases List.mem_append.1 hx with hx | hx
      · obtain ⟨r, hr, hp, e1, _⟩ := h.own.cells hx
        exact h.d3 hn r hr hp (by rw [← e1, ← e2, e])
      · obtain ⟨e1, hm, _⟩ := h.lanes.cells hx
        exact h.d13 hm hn (by rw [← e1, ← e2, e])
    · obtain ⟨e1, hm, _⟩ := h.bells.cells hx
      exact h.d23 hm hn (by rw [← e1, ← e2, e])
  have SM : Hid (n0 ≤ 1048576 ∧ n1 ≤ 1048576 ∧ n2 ≤ 1048576 ∧ n3 ≤ 1048576) := ⟨h.s0, h.s1, h.s2, h.s3⟩
  clear h
  have q0 := Q.out.1
  have KZ : Hid (0 ≤ k ∧ k ≤ 1048576) := ⟨hk, hz⟩
  go_enter Tryz.func31, Tryz.ntmps31
  go_wp2_with fail
  clear hW hS
  refine (mx_rows _ _ _ _ _ _ _ HM.out.own HM.out.len HM.out.at0 SM.out.1 KZ.out.1 (by have := KZ.out.2; omega)).mono ?_
  rintro e w1 ⟨rfl, m1⟩
  have M1 : Hid (Mx (rN R) k W w1) := m1
  have q1 := m1.out _ _ Q.out.2.1 (fun x hx e => L0.out x hx (by rw [e]))
  obtain ⟨r0, hr0⟩ : ∃ r0, k + ((rN R).length : Int) = r0 := ⟨_, rfl⟩
  have R0 : Hid (k + ((rN R).length : Int) = r0) := hr0
  have B0 : Hid (0 ≤ r0 ∧ r0 ≤ 1048576 + 1048576 * n0) := ⟨by have := KZ.out; omega, by have := KZ.out; have := RL.out; omega⟩
  rw [hr0]
  clear m1 hr0 q0
  go_wp2_with fail
  refine (mx_lanes _ _ _ g1 _ _ (HM.out.lanes.mx M1.out fun hn x hx e => by obtain ⟨r, hr, hp, e1, _⟩ := HM.out.own.cells hx; exact HM.out.d1 hn r hr hp (by rw [← e1, e])) B0.out.1 (by have := B0.out.2; have := SM.out; omega)).mono ?_
  rintro e w2 ⟨rfl, m2⟩
  have M2 : Hid (Mx (rN R ++ cN g1 (n1 * 5)) k W w2) := M1.out.trans (by rw [R0.out]; exact m2) D01.out
  have q2 := M2.out.out _ _ Q.out.2.2.1 (fun x hx e => off2 L0.out L1.out x hx (by rw [e]))
  obtain ⟨r1, hr1⟩ : ∃ r1, r0 + ((5 * n1 : Nat) : Int) = r1 := ⟨_, rfl⟩
  have R1 : Hid (k + ((rN R ++ cN g1 (n1 * 5)).length : Int) = r1) := by show _ = _; have := R0.out; simp only [List.length_append, cN_len]; omega
  have B1 : Hid (0 ≤ r1 ∧ r1 ≤ 1048576 + 1048576 * n0 + 5 * n1) := ⟨by have := B0.out; omega, by have := B0.out; omega⟩
  rw [hr1]
  clear m2 hr1 q1
  go_wp2_with fail
  refine (mx_bells _ _ _ g2 _ _ (HM.out.bells.mx M2.out fun hn x hx e => by
    rcases List.mem_append.1 hx with hx | hx
    · obtain ⟨r, hr, hp, e1, _⟩ := HM.out.own.cells hx; exact HM.out.d2 hn r hr hp (by rw [← e1, e])
    · obtain ⟨e1, hm, _⟩ := HM.out.lanes.cells hx; exact HM.out.d12 hm hn (by rw [← e1, e])) B1.out.1 (by have := B1.out.2; have := SM.out; omega)).mono ?_
  rintro e w3 ⟨rfl, m3⟩
  have M3 : Hid (Mx ((rN R ++ cN g1 (n1 * 5)) ++ cN g2 (n2 * 2)) k W w3) := M2.out.trans (by rw [R1.out]; exact m3) D02.out
  have q3 := M3.out.out _ _ Q.out.2.2.2 (fun x hx e => off2 (off2 L0.out L1.out) L2.out x hx (by rw [e]))
  obtain ⟨r2, hr2⟩ : ∃ r2, r1 + ((2 * n2 : Nat) : Int) = r2 := ⟨_, rfl⟩
  have R2 : Hid (k + (((rN R ++ cN g1 (n1 * 5)) ++ cN g2 (n2 * 2)).length : Int) = r2) := by show _ = _; have := R1.out; rw [List.length_append, cN_len]; omega
  have B2 : Hid (0 ≤ r2 ∧ r2 ≤ 1048576 + 1048576 * n0 + 5 * n1 + 2 * n2) := ⟨by have := B1.out; omega, by have := B1.out; omega⟩
  rw [hr2]
  clear m3 hr2 q2
  go_wp2_with fail
  refine (mx_slots _ _ _ g3 _ _ (HM.out.plan.mx M3.out fun hn x hx e => by
    rcases List.mem_append.1 hx with hx | hx
    · rcases List.mem_append.1 hx with hx | hx
      · obtain ⟨r, hr, hp, e1, _⟩ := HM.out.own.cells hx; exact HM.out.d3 hn r hr hp (by rw [← e1, e])
      · obtain ⟨e1, hm, _⟩ := HM.out.lanes.cells hx; exact HM.out.d13 hm hn (by rw [← e1, e])
    · obtain ⟨e1, hm, _⟩ := HM.out.bells.cells hx; exact HM.out.d23 hm hn (by rw [← e1, e])) B2.out.1 (by have := B2.out.2; have := SM.out; omega)).mono ?_
  rintro e w4 ⟨rfl, m4⟩
  have M4 : Hid (Mx (pN g1 g2 g3 n1 n2 n3 R) k w w4) := MW.out.pre (M3.out.trans (by rw [R2.out]; exact m4) D03.out)
  obtain ⟨r3, hr3⟩ : ∃ r3, r2 + ((2 * n3 : Nat) : Int) = r3 := ⟨_, rfl⟩
  have R3 : Hid (k + ((pN g1 g2 g3 n1 n2 n3 R).length : Int) = r3) := by show _ = _; have := R2.out; rw [pN, List.length_append, cN_len]; omega
  rw [hr3]
  clear m4 hr3 q3
  go_wp2_with fail
  go_ret
  exact ⟨by rw [R3.out]; rfl, M4.out⟩
theorem Hx.keep {L : List (Addr × Bool)} {k : Int} {w w' : World} (h : Hx L k w) (b : Below w.heap.size w w') : Hx L k w' := fun i x e => cell_keep b (h i x e)
structure Ph (w : World) (a0 a1 a2 a3 : Option Addr) (n0 n1 n2 n3 g0 g1 g2 g3 : Nat) (R : List (Nat × Nat)) : Prop where
  heads : ∀ (i : Nat) (r : Nat × Nat), R[i]? = some r → ∃ a c, w.cell? ⟨g0, i, none⟩ = some (.slice a r.2 c) ∧ (0 < r.2 → a = some ⟨r.1, 0, none⟩)
  small : ∀ r ∈ R, r.2 ≤ 1048576
  len : R.length = n0
  at0 : 0 < n0 → a0 = some ⟨g0, 0, none⟩
  at1 : 0 < n1 → a1 = some ⟨g1, 0, none⟩
  at2 : 0 < n2 → a2 = some ⟨g2, 0, none⟩
  at3 : 0 < n3 → a3 = some ⟨g3, 0, none⟩
  s0 : n0 ≤ 1048576
  s1 : n1 ≤ 1048576
  s2 : n2 ≤ 1048576
  s3 : n3 ≤ 1048576
theorem Ph.keep {w w' : World} {a0 a1 a2 a3 : Option Addr} {n0 n1 n2 n3 g0 g1 g2 g3 : Nat} {R : List (Nat × Nat)} (h : Ph w a0 a1 a2 a3 n0 n1 n2 n3 g0 g1 g2 g3 R) (b : Below w.heap.size w w') : Ph w' a0 a1 a2 a3 n0 n1 n2 n3 g0 g1 g2 g3 R :=
  { h with heads := fun i r e => by obtain ⟨a, c, k1, k2⟩ := h.heads i r e; exact ⟨a, c, cell_keep b k1, k2⟩ }
theorem Pg.ph {w w' : World} {a0 a1 a2 a3 : Option Addr} {n0 n1 n2 n3 g0 g1 g2 g3 : Nat} {R : List (Nat × Nat)} {L : List (Addr × Bool)} {k : Int} (h : Pg w a0 a1 a2 a3 n0 n1 n2 n3 g0 g1 g2 g3 R) (m : Mx L k w w') (hL : 0 < n0 → ∀ x ∈ L, x.1.block ≠ g0) : Ph w' a0 a1 a2 a3 n0 n1 n2 n3 g0 g1 g2 g3 R :=
  ⟨fun i r e => by
    obtain ⟨a, c, k1, k2⟩ := h.own.row i r e
    have h0 : 0 < n0 := by rw [← h.len]; exact Nat.lt_of_le_of_lt (Nat.zero_le i) (List.getElem?_eq_some_iff.1 e).1
    exact ⟨a, c, m.out _ _ k1 fun x hx e2 => hL h0 x hx (by rw [e2]), k2.at⟩,
   h.own.small, h.len, h.at0, h.lanes.at, h.bells.at, h.plan.at, h.s0, h.s1, h.s2, h.s3⟩
theorem Pg.heads {w : World} {a0 a1 a2 a3 : Option Addr} {n0 n1 n2 n3 g0 g1 g2 g3 : Nat} {R : List (Nat × Nat)} (h : Pg w a0 a1 a2 a3 n0 n1 n2 n3 g0 g1 g2 g3 R) (h0 : 0 < n0) : ∀ x ∈ pN g1 g2 g3 n1 n2 n3 R, x.1.block ≠ g0 :=
  off2 (off2 (off2 (fun x hx => by obtain ⟨r, hr, hp, e1, _⟩ := h.own.cells hx; rw [e1]; exact h.own.off r hr hp)
    (fun x hx => by obtain ⟨e1, hn, _⟩ := h.lanes.cells hx; rw [e1]; exact h.h1 h0 hn))
    (fun x hx => by obtain ⟨e1, hn, _⟩ := h.bells.cells hx; rw [e1]; exact h.h2 h0 hn))
    (fun x hx => by obtain ⟨e1, hn, _⟩ := h.plan.cells hx; rw [e1]; exact h.h3 h0 hn)
set_option maxHeartbeats 2000000 in
theorem hx_policy (a0 a1 a2 a3 : Option Addr) (n0 n1 n2 n3 c0 c1 c2 c3 g0 g1 g2 g3 : Nat) (R : List (Nat × Nat)) (k : Int) (w : World) (h : Ph w a0 a1 a2 a3 n0 n1 n2 n3 g0 g1 g2 g3 R) (hx : Hx (pN g1 g2 g3 n1 n2 n3 R) k w) (hk : 0 ≤ k) (hz : k ≤ 1048576) :
    Calls Tryz.prog 74 #[.agg #[.slice a0 n0 c0, .slice a1 n1 c1, .slice a2 n2 c2, .slice a3 n3 c3], .int .i64 k] w fun e w' => e = .returned (.int .i64 (k + (pN g1 g2 g3 n1 n2 n3 R).length)) ∧ Below w.heap.size w w' := by
  generalize hW : (w.alloc (.cells #[.slice a0 n0 c0, .slice a1 n1 c1, .slice a2 n2 c2, .slice a3 n3 c3] 37)) = W
  have BW : Hid (Below w.heap.size w W) := by show Below _ _ _; rw [← hW]; exact al (Below.refl _ _) _
  obtain ⟨s, hS⟩ : ∃ s, w.heap.size = s := ⟨_, rfl⟩
  have Q : Hid (W.cell? ⟨s, 0, none⟩ = some (.slice a0 n0 c0) ∧ W.cell? ⟨s, 1, none⟩ = some (.slice a1 n1 c1) ∧ W.cell? ⟨s, 2, none⟩ = some (.slice a2 n2 c2) ∧ W.cell? ⟨s, 3, none⟩ = some (.slice a3 n3 c3)) := by
    show _ ∧ _
    rw [← hW, ← hS]
    exact ⟨cell_new rfl, cell_new rfl, cell_new rfl, cell_new rfl⟩
  have HM : Hid (Ph W a0 a1 a2 a3 n0 n1 n2 n3 g0 g1 g2 g3 R) := h.keep BW.out
  have HX : Hid (Hx (pN g1 g2 g3 n1 n2 n3 R) k W) := hx.keep BW.out
  have RL : Hid ((rN R).length ≤ 1048576 * n0) := by show _ ≤ _; rw [← h.len]; exact rN_len h.small
  have KZ : Hid (0 ≤ k ∧ k ≤ 1048576) := ⟨hk, hz⟩
  have q0 := Q.out.1
  have q1 := Q.out.2.1
  have q2 := Q.out.2.2.1
  have q3 := Q.out.2.2.2
  clear h hx
  obtain ⟨r0, hr0⟩ : ∃ r0, k + ((rN R).length : Int) = r0 := ⟨_, rfl⟩
  obtain ⟨r1, hr1⟩ : ∃ r1, r0 + ((5 * n1 : Nat) : Int) = r1 := ⟨_, rfl⟩
  obtain ⟨r2, hr2⟩ : ∃ r2, r1 + ((2 * n2 : Nat) : Int) = r2 := ⟨_, rfl⟩
  obtain ⟨r3, hr3⟩ : ∃ r3, r2 + ((2 * n3 : Nat) : Int) = r3 := ⟨_, rfl⟩
  have R0 : Hid (k + ((rN R).length : Int) = r0 ∧ r0 + ((5 * n1 : Nat) : Int) = r1 ∧ r1 + ((2 * n2 : Nat) : Int) = r2 ∧ r2 + ((2 * n3 : Nat) : Int) = r3) := ⟨hr0, hr1, hr2, hr3⟩
  have X0 : Hid (Hx (rN R) k W) := HX.out.left.left.left
  have X1 : Hid (Hx (cN g1 (n1 * 5)) r0 W) := by have := HX.out.left.left.right; rw [hr0] at this; exact this
  have X2 : Hid (Hx (cN g2 (n2 * 2)) r1 W) := by
    have := HX.out.left.right
    rw [List.length_append, cN_len, show k + (((rN R).length + n1 * 5 : Nat) : Int) = r1 by omega] at this; exact this
  have X3 : Hid (Hx (cN g3 (n3 * 2)) r2 W) := by
    have := HX.out.right
    rw [List.length_append, List.length_append, cN_len, cN_len, show k + (((rN R).length + n1 * 5 + n2 * 2 : Nat) : Int) = r2 by omega] at this; exact this
  have EL : Hid (k + ((pN g1 g2 g3 n1 n2 n3 R).length : Int) = r3) := by show _ = _; rw [pN_len]; omega
  have B : Hid (0 ≤ r0 ∧ 0 ≤ r1 ∧ 0 ≤ r2 ∧ 0 ≤ r3 ∧ r3 ≤ 2199023255552) := by
    have := RL.out; have := HM.out.s0; have := HM.out.s1; have := HM.out.s2; have := HM.out.s3
    refine ⟨?_, ?_, ?_, ?_, ?_⟩ <;> omega
  have p0 : 0 ≤ r0 := B.out.1
  have p1 : 0 ≤ r1 := B.out.2.1
  have p2 : 0 ≤ r2 := B.out.2.2.1
  have p3 : 0 ≤ r3 := B.out.2.2.2.1
  clear hr0 hr1 hr2 hr3
  go_enter Tryz.func74, Tryz.ntmps74
  go_wp2_with fail
  clear hW hS
  refine (hx_rows _ _ _ _ _ _ _ X0.out HM.out.len HM.out.at0 HM.out.heads HM.out.small HM.out.s0 KZ.out.1 (by have := KZ.out.2; omega)).mono ?_
  rintro e w1 ⟨rfl, rfl⟩
  rw [R0.out.1]
  go_wp2_with fail
  refine (hx_lanes _ _ _ g1 _ _ X1.out HM.out.at1 p0 (by have := R0.out; have := B.out; omega)).mono ?_
  rintro e w2 ⟨rfl, rfl⟩
  rw [R0.out.2.1]
  go_wp2_with fail
  refine (hx_bells _ _ _ g2 _ _ X2.out HM.out.at2 p1 (by have := R0.out; have := B.out; omega)).mono ?_
  rintro e w3 ⟨rfl, rfl⟩
  rw [R0.out.2.2.1]
  go_wp2_with fail
  refine (hx_slots _ _ _ g3 _ _ X3.out HM.out.at3 p2 (by have := R0.out; have := B.out; omega)).mono ?_
  rintro e w4 ⟨rfl, rfl⟩
  rw [R0.out.2.2.2]
  go_wp2_with fail
  go_ret
  exact ⟨by rw [EL.out]; rfl, BW.out⟩
structure Hsx where
  r : Nat × Nat
  c : Nat × Nat
  i : Nat × Nat
  o : Nat × Nat
def Hsx.all (S : Hsx) : List (Nat × Nat) := [S.r, S.c, S.i, S.o]
def Av (L : List (Addr × Bool)) (p : Addr) : Prop := ∀ x ∈ L, x.1 ≠ p
def Ab (L : List (Addr × Bool)) (g : Nat) : Prop := ∀ x ∈ L, x.1.block ≠ g
theorem Av.app {L M : List (Addr × Bool)} {p : Addr} (h : Av L p) (k : Av M p) : Av (L ++ M) p := fun x hx => (List.mem_append.1 hx).elim (h x) (k x)
theorem Ab.app {L M : List (Addr × Bool)} {p : Nat} (h : Ab L p) (k : Ab M p) : Ab (L ++ M) p := fun x hx => (List.mem_append.1 hx).elim (h x) (k x)
theorem Av.one {q p : Addr} {b : Bool} (h : q ≠ p) : Av [(q, b)] p := fun x hx => by simp only [List.mem_singleton] at hx; subst hx; exact h
theorem Ab.one {q : Addr} {p : Nat} {b : Bool} (h : q.block ≠ p) : Ab [(q, b)] p := fun x hx => by simp only [List.mem_singleton] at hx; subst hx; exact h
theorem Ab.cn {g n p : Nat} (h : 0 < n → g ≠ p) : Ab (cN g n) p := fun x hx => by rw [cN_block hx]; exact h (cN_pos hx)
theorem Ab.av {L : List (Addr × Bool)} {p : Addr} (h : Ab L p.block) : Av L p := fun x hx e => h x hx (by rw [e])
theorem Av.cn {g n : Nat} {p : Addr} (h : 0 < n → g ≠ p.block) : Av (cN g n) p := (Ab.cn h).av
theorem Mx.more {L : List (Addr × Bool)} {k z : Int} {a w : World} {p : Addr} {v : Value} (b : Bool) (M : Mx L k a w) (hc : a.cell? p = some v) (hv : Av L p) (hz : z = k + L.length) : Mx (L ++ [(p, b)]) k a (w.setCell p (mkV b z)) := by
  refine M.trans ?_ (fun x hx y hy => ?_)
  · rw [hz]; exact Mx.one b (M.out _ _ hc hv)
  · simp only [List.mem_singleton] at hy; subst hy; exact hv x hx
theorem Mx.moreN {L : List (Addr × Bool)} {k z : Int} {a w : World} {p : Addr} {v : Value} (M : Mx L k a w) (hc : a.cell? p = some v) (hv : Av L p) (hz : z = k + L.length) : Mx (L ++ [(p, false)]) k a (w.setCell p (.int .i64 z)) := M.more false hc hv hz
theorem Mx.moreB {L : List (Addr × Bool)} {k : Int} {a w : World} {p : Addr} {v : Value} {B : Bool} (M : Mx L k a w) (hc : a.cell? p = some v) (hv : Av L p) (hB : B = ((k + L.length) % 3 == 0)) : Mx (L ++ [(p, true)]) k a (w.setCell p (.bool B)) := by
  rw [hB]; exact M.more true hc hv rfl
theorem Mx.nums {L : List (Addr × Bool)} {k z : Int} {a w w' : World} {g n : Nat} (M : Mx L k a w) (m : Mx (cN g n) z w w') (hz : z = k + L.length) (hg : 0 < n → Ab L g) : Mx (L ++ cN g n) k a w' :=
  M.trans (by rw [← hz]; exact m) fun x hx y hy e => hg (cN_pos hy) x hx (by rw [e, cN_block hy])
def hN1 (g j : Nat) (S : Hsx) : List (Addr × Bool) := cN S.r.1 S.r.2 ++ [(⟨g, j * 9 + 1, none⟩, false)]
def hN2 (g j : Nat) (S : Hsx) : List (Addr × Bool) := ((((hN1 g j S ++ cN S.c.1 S.c.2) ++ [(⟨g, j * 9 + 3, none⟩, true)]) ++ [(⟨g, j * 9 + 4, none⟩, true)]) ++ [(⟨g, j * 9 + 5, none⟩, true)]) ++ [(⟨g, j * 9 + 6, none⟩, false)]
def hN (g j : Nat) (S : Hsx) : List (Addr × Bool) := (hN2 g j S ++ cN S.i.1 S.i.2) ++ cN S.o.1 S.o.2
def tN (g : Nat) (S : Nat → Hsx) : Nat → List (Addr × Bool)
  | 0 => []
  | n + 1 => tN g S n ++ hN g n (S n)
def Nxm (w : World) (p : Addr) : Prop := (∃ z, w.cell? p = some (.int .i64 z)) ∧ w.frozen? p = false
def Bxm (w : World) (p : Addr) : Prop := (∃ b, w.cell? p = some (.bool b)) ∧ w.frozen? p = false
def Lxm (w : World) (p : Addr) (l : Nat × Nat) : Prop := ∃ a c, w.cell? p = some (.slice a l.2 c) ∧ Mg w l.1 1 a l.2
theorem Nxm.mx {w w' : World} {p : Addr} {L : List (Addr × Bool)} {k : Int} (h : Nxm w p) (m : Mx L k w w') (hv : Av L p) : Nxm w' p := by
  obtain ⟨⟨z, hz⟩, hf⟩ := h
  exact ⟨⟨z, m.out _ _ hz hv⟩, by rw [m.free _ (block_of_cell hz)]; exact hf⟩
theorem Bxm.mx {w w' : World} {p : Addr} {L : List (Addr × Bool)} {k : Int} (h : Bxm w p) (m : Mx L k w w') (hv : Av L p) : Bxm w' p := by
  obtain ⟨⟨z, hz⟩, hf⟩ := h
  exact ⟨⟨z, m.out _ _ hz hv⟩, by rw [m.free _ (block_of_cell hz)]; exact hf⟩
theorem Lxm.mx {w w' : World} {p : Addr} {l : Nat × Nat} {L : List (Addr × Bool)} {k : Int} (h : Lxm w p l) (m : Mx L k w w') (hv : Av L p) (hb : 0 < l.2 → Ab L l.1) : Lxm w' p l := by
  obtain ⟨a, c, k1, k2⟩ := h
  exact ⟨a, c, m.out _ _ k1 hv, k2.mx m hb⟩
structure Msm (w : World) (g j : Nat) (S : Hsx) : Prop where
  c0 : Lxm w ⟨g, j * 9, none⟩ S.r
  c1 : Nxm w ⟨g, j * 9 + 1, none⟩
  c2 : Lxm w ⟨g, j * 9 + 2, none⟩ S.c
  c3 : Bxm w ⟨g, j * 9 + 3, none⟩
  c4 : Bxm w ⟨g, j * 9 + 4, none⟩
  c5 : Bxm w ⟨g, j * 9 + 5, none⟩
  c6 : Nxm w ⟨g, j * 9 + 6, none⟩
  c7 : Lxm w ⟨g, j * 9 + 7, none⟩ S.i
  c8 : Lxm w ⟨g, j * 9 + 8, none⟩ S.o
  small : ∀ l ∈ S.all, l.2 ≤ 1048576
  off : ∀ l ∈ S.all, 0 < l.2 → l.1 ≠ g
  apart : S.all.Pairwise fun l m => 0 < l.2 → 0 < m.2 → l.1 ≠ m.1
theorem Msm.mx {w w' : World} {g j : Nat} {S : Hsx} {L : List (Addr × Bool)} {k : Int} (h : Msm w g j S) (m : Mx L k w w') (hv : ∀ t, t < 9 → Av L ⟨g, j * 9 + t, none⟩) (hb : ∀ l ∈ S.all, 0 < l.2 → Ab L l.1) : Msm w' g j S :=
  ⟨h.c0.mx m (hv 0 (by decide)) (hb _ (by simp [Hsx.all])), h.c1.mx m (hv 1 (by decide)), h.c2.mx m (hv 2 (by decide)) (hb _ (by simp [Hsx.all])), h.c3.mx m (hv 3 (by decide)), h.c4.mx m (hv 4 (by decide)), h.c5.mx m (hv 5 (by decide)), h.c6.mx m (hv 6 (by decide)),
   h.c7.mx m (hv 7 (by decide)) (hb _ (by simp [Hsx.all])), h.c8.mx m (hv 8 (by decide)) (hb _ (by simp [Hsx.all])), h.small, h.off, h.apart⟩
theorem hN_mem {g j : Nat} {S : Hsx} {x : Addr × Bool} (h : x ∈ hN g j S) : (∃ l ∈ S.all, 0 < l.2 ∧ x.1.block = l.1) ∨ ∃ t, t < 9 ∧ x.1 = ⟨g, j * 9 + t, none⟩ := by
  simp only [hN, hN2, hN1, List.mem_append, List.mem_singleton] at h
  rcases h with (((((((h | h) | h) | h) | h) | h) | h) | h) | h
  · exact .inl ⟨S.r, by simp [Hsx.all], cN_pos h, cN_block h⟩
  · exact .inr ⟨1, by decide, by rw [h]⟩
  · exact .inl ⟨S.c, by simp [Hsx.all], cN_pos h, cN_block h⟩
  · exact .inr ⟨3, by decide, by rw [h]⟩
  · exact .inr ⟨4, by decide, by rw [h]⟩
  · exact .inr ⟨5, by decide, by rw [h]⟩
  · exact .inr ⟨6, by decide, by rw [h]⟩
  · exact .inl ⟨S.i, by simp [Hsx.all], cN_pos h, cN_block h⟩
  · exact .inl ⟨S.o, by simp [Hsx.all], cN_pos h, cN_block h⟩
theorem tN_mem {g n : Nat} {S : Nat → Hsx} {x : Addr × Bool} (h : x ∈ tN g S n) : ∃ i, i < n ∧ x ∈ hN g i (S i) := by
  induction n with
  | zero => simp [tN] at h
  | succ n ih =>
    simp only [tN, List.mem_append] at h
    rcases h with h | h
    · obtain ⟨i, hi, hx⟩ := ih h; exact ⟨i, by omega, hx⟩
    · exact ⟨n, by omega, h⟩
structure Mm (w : World) (g n : Nat) (S : Nat → Hsx) : Prop where
  one : ∀ j, j < n → Msm w g j (S j)
  apart : ∀ i j, i < n → j < n → i ≠ j → ∀ l ∈ (S i).all, ∀ m ∈ (S j).all, 0 < l.2 → 0 < m.2 → l.1 ≠ m.1
theorem Mm.next {w wr : World} {g n j : Nat} {S : Nat → Hsx} {k : Int} (h : Mm w g n S) (m : Mx (tN g S j) k w wr) (hj : j < n) : Msm wr g j (S j) ∧ ∀ x ∈ tN g S j, ∀ y ∈ hN g j (S j), x.1 ≠ y.1 := by
  have hv : ∀ t, t < 9 → Av (tN g S j) ⟨g, j * 9 + t, none⟩ := fun t ht x hx e => by
    obtain ⟨i, hi, hx⟩ := tN_mem hx
    rcases hN_mem hx with ⟨l, hl, hp, hb⟩ | ⟨t2, ht2, e2⟩
    · exact (h.one i (by omega)).off l hl hp (by rw [← hb, e])
    · rw [e2] at e
      have e3 : i * 9 + t2 = j * 9 + t := congrArg Addr.off e
      omega
  have hb : ∀ l ∈ (S j).all, 0 < l.2 → Ab (tN g S j) l.1 := fun l hl hp x hx e => by
    obtain ⟨i, hi, hx⟩ := tN_mem hx
    rcases hN_mem hx with ⟨l2, hl2, hp2, hb2⟩ | ⟨t2, ht2, e2⟩
    · exact h.apart i j (by omega) hj (by omega) l2 hl2 l hl hp2 hp (by rw [← hb2, e])
    · rw [e2] at e; exact (h.one j hj).off l hl hp e.symm
  refine ⟨(h.one j hj).mx m hv hb, fun x hx y hy e => ?_⟩
  rcases hN_mem hy with ⟨l, hl, hp, hb2⟩ | ⟨t, ht, e2⟩
  · exact hb l hl hp x hx (by rw [e, hb2])
  · exact hv t ht x hx (by rw [e, e2])
end Go.Proofs.YtggejbphdadckaaGreatDoor
