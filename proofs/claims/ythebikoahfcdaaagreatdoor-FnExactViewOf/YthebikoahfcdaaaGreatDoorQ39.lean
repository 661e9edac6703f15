/- Texts of this seat, joined. -/
import Derived.Deep.RegionWith
import Derived.Deep.RegionHeld3
import Derived.Deep.Cut
import Derived.Deep.CutRange
import Derived.Test.YthebikoahfcdaaaGreatDoorQ21
import Derived.Test.YthebikoahfcdaaaGreatDoorQ32
import Derived.Test.YthebikoahfcdaaaGreatDoorQ38
namespace Go.Proofs.YthebikoahfcdaaaGreatDoor
open Go.RowKit
set_option linter.unusedVariables false

theorem row_ho {e sz n base : Nat} {v : Value} {w w' : World} {xs : List Value} (h : w.ownsRow base e sz v n xs) (H : Ho base w w') : w'.ownsRow base e sz v n xs := by
  obtain ⟨h1, h2 | ⟨g, cap, cur, hv, hg, hr, rest⟩⟩ := h
  · exact ⟨h1, .inl h2⟩
  · refine ⟨h1, .inr ⟨g, cap, cur, hv, hg, ?_, rest⟩⟩
    rw [H.block g hg ((Array.getElem?_eq_some_iff.1 hr).1)]
    exact hr
theorem SSo.ho {w w' : World} {base g n : Nat} {oss : List (List Int)} (h : SSo w base g n oss) (H : Ho base w w') : SSo w' base g n oss :=
  ⟨h.len, h.small, h.low, fun i hi => by
    obtain ⟨x, l, c, k1, k2⟩ := h.row i hi
    refine ⟨x, l, c, ?_, k2.ho H⟩
    rw [← k1]
    unfold World.cell?
    rw [show w'.heap[(⟨g, i, none⟩ : Addr).block]? = w.heap[(⟨g, i, none⟩ : Addr).block]? from H.block g h.low (block_of_cell k1)]⟩
theorem Mde.ho {w w' : World} {base g0 g1 g2 g3 n0 n1 n2 n3 : Nat} {P : Plc} (h : Mde w base g0 g1 g2 g3 n0 n1 n2 n3 P) (H : Ho base w w') : Mde w' base g0 g1 g2 g3 n0 n1 n2 n3 P :=
  ⟨h.own.ho H, row_ho h.lanes H, row_ho h.bells H, row_ho h.plan H⟩
theorem Mde.mono {w : World} {base base' g0 g1 g2 g3 n0 n1 n2 n3 : Nat} {P : Plc} (h : Mde w base g0 g1 g2 g3 n0 n1 n2 n3 P) (hb : base' ≤ base) : Mde w base' g0 g1 g2 g3 n0 n1 n2 n3 P :=
  ⟨h.own.mono hb, h.lanes.mono hb, h.bells.mono' hb, h.plan.mono' hb⟩
theorem hoSets (w : World) (q lim : Nat) (hq : q < lim) {i0 i1 i2 i3 : Nat} (u0 u1 u2 u3 : Value) : Ho lim w ((((w.setCell ⟨q, i0, none⟩ u0).setCell ⟨q, i1, none⟩ u1).setCell ⟨q, i2, none⟩ u2).setCell ⟨q, i3, none⟩ u3) :=
  (((Ho.set w ⟨q, i0, none⟩ u0 hq).trans (Ho.set _ ⟨q, i1, none⟩ u1 hq)).trans (Ho.set _ ⟨q, i2, none⟩ u2 hq)).trans (Ho.set _ ⟨q, i3, none⟩ u3 hq)
theorem Hl.ho {w w' : World} {base : Nat} {v : Value} {hs : List Ht} (h : Hl w base v hs) (k : Ho base w w') : Hl w' base v hs := by
  rcases h with h | ⟨g, cap, h1, h2, h3, h4, h5⟩
  · exact .inl h
  · refine .inr ⟨g, cap, h1, h2, h3, h4, fun j hj => ?_⟩
    obtain ⟨r, c, i, o, g1, g2, g3⟩ := h5 j hj
    have e : w'.heap[g]? = w.heap[g]? := k.block g h4 (block_of_cell g1.c0)
    have ce : ∀ q : Addr, q.block = g → w'.cell? q = w.cell? q := fun q hq => by
      unfold World.cell?
      rw [hq, e]
    exact ⟨r, c, i, o, ⟨(ce _ rfl).trans g1.c0, (ce _ rfl).trans g1.c1, (ce _ rfl).trans g1.c2, (ce _ rfl).trans g1.c3, (ce _ rfl).trans g1.c4, (ce _ rfl).trans g1.c5, (ce _ rfl).trans g1.c6, (ce _ rfl).trans g1.c7, (ce _ rfl).trans g1.c8⟩, g2.ho k, g3⟩
/-- How great a host that came in may be. -/
structure Osm (n0 n1 n2 n3 n4 n5 : Nat) (X : Hst) : Prop where
  pol : Small n0 n1 n2 n3 X.pol
  mem : n4 ≤ 1048576
  len : n5 ≤ 1048576
  each : ∀ i, i < n5 → Hsm (X.harts.getD i voidH)
theorem thereH {w w' : World} {q o n lo : Nat} (h : w.there q o n) (hq : lo ≤ q) (hl : q < w.heap.size) (H : Ho lo w w') : w'.there q o n := fun j hj => by
  have e := H.block q hq hl
  have t := h j hj
  unfold World.cell? World.frozen? at *
  rw [e]
  exact t
set_option maxHeartbeats 2000000 in
theorem sz_host (a0 a1 a2 a3 a4 a5 : Option Addr) (n0 c0 n1 c1 n2 c2 n3 c3 n4 c4 n5 c5 : Nat) (X : Hst) (w : World) (h : Oi w a0 n0 c0 a1 n1 c1 a2 n2 c2 a3 n3 c3 a4 n4 c4 a5 n5 c5 X) :
    Calls Tryz.prog 4 #[.agg #[.slice a0 n0 c0, .slice a1 n1 c1, .slice a2 n2 c2, .slice a3 n3 c3, .slice a4 n4 c4, .slice a5 n5 c5, .int .i64 X.slot, .int .i64 X.left, .int .i64 X.clock], .int .i64 1048576] w fun e w' => (∃ r : Int, e = .returned (.int .i64 r) ∧ r ≤ 1048576 ∧ (0 ≤ r → Osm n0 n1 n2 n3 n4 n5 X)) ∧ Below w.heap.size w w' := by
  generalize hW : w.alloc (.cells #[.slice a0 n0 c0, .slice a1 n1 c1, .slice a2 n2 c2, .slice a3 n3 c3, .slice a4 n4 c4, .slice a5 n5 c5, .int .i64 X.slot, .int .i64 X.left, .int .i64 X.clock] 31) = W
  have B0 : Hid (Below w.heap.size w W) := by show Below _ _ _; rw [← hW]; exact al (Below.refl _ _) _
  obtain ⟨s, hS⟩ : ∃ s, w.heap.size = s := ⟨_, rfl⟩
  have Q : Hid (Vb W s #[.slice a0 n0 c0, .slice a1 n1 c1, .slice a2 n2 c2, .slice a3 n3 c3, .slice a4 n4 c4, .slice a5 n5 c5, .int .i64 X.slot, .int .i64 X.left, .int .i64 X.clock] 31) := by show Vb _ _ _ _; rw [← hW, ← hS]; exact Vb.new _ _ _
  have HP : Hid (Oi W a0 n0 c0 a1 n1 c1 a2 n2 c2 a3 n3 c3 a4 n4 c4 a5 n5 c5 X) := h.stay B0.out
  have L4 : Hid (n4 ≤ 9223372036854775807) := h.mem.lens.2
  clear h
  have q0 := Q.out.cell 0 rfl
  have q1 := Q.out.cell 1 rfl
  have q2 := Q.out.cell 2 rfl
  have q3 := Q.out.cell 3 rfl
  go_enter Tryz.func4, Tryz.ntmps4
  go_wp2_with fail
  clear hW hS q0 q1 q2 q3
  refine (sz_policy _ _ _ _ _ _ _ _ _ _ _ _ X.pol _ HP.out.pol).mono ?_
  rintro e w1 ⟨⟨r, rfl, hr, hs⟩, b1⟩
  by_cases hneg : r < 0
  · go_wp2_with fail
    go_ret
    exact ⟨⟨-1, rfl, by omega, fun h => by omega⟩, on B0.out b1⟩
  have SM : Hid (Small n0 n1 n2 n3 X.pol) := hs (by omega)
  have R1 : Hid (0 ≤ r ∧ r ≤ 1048576) := ⟨by omega, hr⟩
  have q4 := cell_keep b1 (Q.out.cell 4 rfl)
  have B1 : Hid (Below W.heap.size W w1) := b1
  clear hs b1 hr
  by_cases h4 : r - n4 < 0
  · have H4 : Hid (r - n4 < 0) := h4
    go_wp2_with fail
    refine (szn _ _ _ _ _ L4.out R1.out.1 R1.out.2).mono ?_
    rintro e w2 ⟨rfl, rfl⟩
    rw [if_pos H4.out]
    go_wp2_with fail
    go_ret
    exact ⟨⟨-1, rfl, by omega, fun h => by omega⟩, on B0.out B1.out⟩
  have H4 : Hid (¬ r - n4 < 0) := h4
  obtain ⟨r4, hr4⟩ : ∃ r4 : Int, r - n4 = r4 := ⟨_, rfl⟩
  have K4 : Hid (r - n4 = r4) := hr4
  have R4 : Hid (0 ≤ r4 ∧ r4 ≤ 1048576 ∧ n4 ≤ 1048576) := ⟨by omega, by have := R1.out; omega, by have := R1.out; omega⟩
  have e4 : 0 ≤ r4 := R4.out.1
  have q5 := cell_keep B1.out (Q.out.cell 5 rfl)
  clear h4 hr4
  go_wp2_with fail
  refine (szn _ _ _ _ _ L4.out R1.out.1 R1.out.2).mono ?_
  rintro e w2 ⟨rfl, rfl⟩
  rw [if_neg (by have := H4.out; omega), K4.out]
  go_wp2_with fail
  refine (sz_harts _ _ _ _ X.harts _ (HP.out.harts.stay B1.out) R4.out.1 R4.out.2.1).mono ?_
  rintro e w3 ⟨⟨r5, rfl, hr5, hs5⟩, b3⟩
  have B3 : Hid (Below w.heap.size w w3) := on B0.out (on B1.out b3)
  clear b3 q4 q5
  by_cases h5 : r5 < 0
  · go_wp2_with fail
    go_ret
    exact ⟨⟨-1, rfl, by omega, fun h => by omega⟩, B3.out⟩
  have F5 : Hid (Osm n0 n1 n2 n3 n4 n5 X) := ⟨SM.out, R4.out.2.2, (hs5 (by omega)).1, (hs5 (by omega)).2⟩
  have R5 : Hid (r5 ≤ 1048576) := hr5
  have e5 : 0 ≤ r5 := by omega
  clear hs5 hr5
  go_wp2_with fail
  go_ret
  exact ⟨⟨_, rfl, R5.out, fun _ => F5.out⟩, B3.out⟩
/-- A host that was made: the policy's four lists, the memory, the machines. -/
structure Od (w : World) (base g0 g1 g2 g3 n0 n1 n2 n3 : Nat) (m h : Value) (X : Hst) : Prop where
  pol : Mde w base g0 g1 g2 g3 n0 n1 n2 n3 X.pol
  mem : Nums w base m X.mem
  harts : Hl w base h X.harts
theorem Od.keep {w w' : World} {base g0 g1 g2 g3 n0 n1 n2 n3 : Nat} {m h : Value} {X : Hst} (d : Od w base g0 g1 g2 g3 n0 n1 n2 n3 m h X) (b : Below w.heap.size w w') : Od w' base g0 g1 g2 g3 n0 n1 n2 n3 m h X :=
  ⟨d.pol.keep b, d.mem.keep b, d.harts.keep b⟩
structure Th (w v : World) (s : Nat) (cs os : Array Value) : Prop where
  A : Vb v s cs 31
  R : Vb v (s + 1) #[.slice none 0 0, .slice none 0 0, .slice none 0 0, .slice none 0 0, .slice none 0 0, .slice none 0 0, .int .i64 0, .int .i64 0, .int .i64 0] 47
  O : Vb v (s + 1 + 1) os 47
  b : Below w.heap.size w v
  z : w.heap.size = s
theorem Th.keep {w v v' : World} {s : Nat} {cs os : Array Value} (h : Th w v s cs os) (k : Below v.heap.size v v') : Th w v' s cs os := ⟨h.A.keep k, h.R.keep k, h.O.keep k, on h.b k, h.z⟩
theorem Th.put {w v : World} {s : Nat} {cs os : Array Value} (h : Th w v s cs os) (i : Nat) (u : Value) : Th w (v.setCell ⟨s + 1 + 1, i, none⟩ u) s cs (os.setIfInBounds i u) :=
  ⟨h.A.put _ _ (show s ≠ s + 1 + 1 by omega), h.R.put _ _ (show s + 1 ≠ s + 1 + 1 by omega), h.O.set i u, h.b.setCell (by have := h.z; show w.heap.size ≤ s + 1 + 1; omega) _, h.z⟩
set_option maxRecDepth 20000 in
set_option maxHeartbeats 4000000 in
theorem to_hostT (a0 a1 a2 a3 a4 a5 : Option Addr) (n0 c0 n1 c1 n2 c2 n3 c3 n4 c4 n5 c5 : Nat) (X : Hst) (w : World) (h : Oi w a0 n0 c0 a1 n1 c1 a2 n2 c2 a3 n3 c3 a4 n4 c4 a5 n5 c5 X) (hs : Osm n0 n1 n2 n3 n4 n5 X) :
    Calls Tryz.prog 6 #[.agg #[.slice a0 n0 c0, .slice a1 n1 c1, .slice a2 n2 c2, .slice a3 n3 c3, .slice a4 n4 c4, .slice a5 n5 c5, .int .i64 X.slot, .int .i64 X.left, .int .i64 X.clock]] w fun e w' => ∃ g0 g1 g2 g3 g4 g5, e = .returned (.agg #[.slice (some ⟨g0, 0, none⟩) n0 n0, .slice (some ⟨g1, 0, none⟩) n1 n1, .slice (some ⟨g2, 0, none⟩) n2 n2, .slice (some ⟨g3, 0, none⟩) n3 n3, .slice (some ⟨g4, 0, none⟩) n4 n4, .slice (some ⟨g5, 0, none⟩) n5 n5, .int .i64 X.slot, .int .i64 X.left, .int .i64 X.clock]) ∧ Od w' w.heap.size g0 g1 g2 g3 n0 n1 n2 n3 (.slice (some ⟨g4, 0, none⟩) n4 n4) (.slice (some ⟨g5, 0, none⟩) n5 n5) X ∧ Below w.heap.size w w' ∧ w'.there g5 0 (n5 * 9) ∧ w.heap.size ≤ g5 ∧ g5 < w'.heap.size := by
  have HS : Hid (Osm n0 n1 n2 n3 n4 n5 X) := hs
  have HP : Hid (Oi w a0 n0 c0 a1 n1 c1 a2 n2 c2 a3 n3 c3 a4 n4 c4 a5 n5 c5 X) := h
  clear h hs
  generalize hW : ((w.alloc (.cells #[.slice a0 n0 c0, .slice a1 n1 c1, .slice a2 n2 c2, .slice a3 n3 c3, .slice a4 n4 c4, .slice a5 n5 c5, .int .i64 X.slot, .int .i64 X.left, .int .i64 X.clock] 31)).alloc (.cells #[.slice none 0 0, .slice none 0 0, .slice none 0 0, .slice none 0 0, .slice none 0 0, .slice none 0 0, .int .i64 0, .int .i64 0, .int .i64 0] 47)).alloc (.cells #[.slice none 0 0, .slice none 0 0, .slice none 0 0, .slice none 0 0, .slice none 0 0, .slice none 0 0, .int .i64 0, .int .i64 0, .int .i64 0] 47) = W
  obtain ⟨s, hS⟩ : ∃ s, w.heap.size = s := ⟨_, rfl⟩
  have HSs : Hid (w.heap.size = s) := hS
  have SZ : Hid (W.heap.size = s + 3) := by show _ = _; rw [← hW, ← hS]; simp
  have T0 : Hid (Th w W s #[.slice a0 n0 c0, .slice a1 n1 c1, .slice a2 n2 c2, .slice a3 n3 c3, .slice a4 n4 c4, .slice a5 n5 c5, .int .i64 X.slot, .int .i64 X.left, .int .i64 X.clock] #[.slice none 0 0, .slice none 0 0, .slice none 0 0, .slice none 0 0, .slice none 0 0, .slice none 0 0, .int .i64 0, .int .i64 0, .int .i64 0]) := by
    have z1 : s + 1 = (w.alloc (.cells #[.slice a0 n0 c0, .slice a1 n1 c1, .slice a2 n2 c2, .slice a3 n3 c3, .slice a4 n4 c4, .slice a5 n5 c5, .int .i64 X.slot, .int .i64 X.left, .int .i64 X.clock] 31)).heap.size := by rw [← hS]; simp
    have z2 : s + 1 + 1 = ((w.alloc (.cells #[.slice a0 n0 c0, .slice a1 n1 c1, .slice a2 n2 c2, .slice a3 n3 c3, .slice a4 n4 c4, .slice a5 n5 c5, .int .i64 X.slot, .int .i64 X.left, .int .i64 X.clock] 31)).alloc (.cells #[.slice none 0 0, .slice none 0 0, .slice none 0 0, .slice none 0 0, .slice none 0 0, .slice none 0 0, .int .i64 0, .int .i64 0, .int .i64 0] 47)).heap.size := by rw [← hS]; simp
    refine ⟨?_, ?_, ?_, by rw [← hW]; exact al (al (al (Below.refl _ _) _) _) _, hS⟩
    · rw [← hW, ← hS]; exact ((Vb.new _ _ _).push _).push _
    · rw [← hW, z1]; exact (Vb.new _ _ _).push _
    · rw [← hW, z2]; exact Vb.new _ _ _
  have q0 := T0.out.A.cell 0 rfl
  have q1 := T0.out.A.cell 1 rfl
  have q2 := T0.out.A.cell 2 rfl
  have q3 := T0.out.A.cell 3 rfl
  go_enter Tryz.func6, Tryz.ntmps6
  go_wp2_with fail
  clear hW hS q0 q1 q2 q3
  refine (to_policy _ _ _ _ _ _ _ _ _ _ _ _ X.pol _ (HP.out.stay T0.out.b).pol HS.out.pol).mono ?_
  rintro e w1 ⟨g0, g1, g2, g3, rfl, m1, b1⟩
  have M1 : Hid (Mde w1 (s + 3) g0 g1 g2 g3 n0 n1 n2 n3 X.pol) := by rw [SZ.out] at m1; exact m1
  have S1 := T0.out.keep b1
  have o0 := S1.O.cell 0 rfl
  have o1 := S1.O.cell 1 rfl
  have o2 := S1.O.cell 2 rfl
  have o3 := S1.O.cell 3 rfl
  have f0 := S1.O.free 0
  have f1 := S1.O.free 1
  have f2 := S1.O.free 2
  have f3 := S1.O.free 3
  have e4 := S1.A.cell 4 rfl
  have T1 : Hid (Th w ((((w1.setCell ⟨s + 1 + 1, 0, none⟩ (.slice (some ⟨g0, 0, none⟩) n0 n0)).setCell ⟨s + 1 + 1, 1, none⟩ (.slice (some ⟨g1, 0, none⟩) n1 n1)).setCell ⟨s + 1 + 1, 2, none⟩ (.slice (some ⟨g2, 0, none⟩) n2 n2)).setCell ⟨s + 1 + 1, 3, none⟩ (.slice (some ⟨g3, 0, none⟩) n3 n3)) s #[.slice a0 n0 c0, .slice a1 n1 c1, .slice a2 n2 c2, .slice a3 n3 c3, .slice a4 n4 c4, .slice a5 n5 c5, .int .i64 X.slot, .int .i64 X.left, .int .i64 X.clock] #[.slice (some ⟨g0, 0, none⟩) n0 n0, .slice (some ⟨g1, 0, none⟩) n1 n1, .slice (some ⟨g2, 0, none⟩) n2 n2, .slice (some ⟨g3, 0, none⟩) n3 n3, .slice none 0 0, .slice none 0 0, .int .i64 0, .int .i64 0, .int .i64 0]) := (((S1.put 0 _).put 1 _).put 2 _).put 3 _
  have H1 : Hid (Ho (s + 3) w1 ((((w1.setCell ⟨s + 1 + 1, 0, none⟩ (.slice (some ⟨g0, 0, none⟩) n0 n0)).setCell ⟨s + 1 + 1, 1, none⟩ (.slice (some ⟨g1, 0, none⟩) n1 n1)).setCell ⟨s + 1 + 1, 2, none⟩ (.slice (some ⟨g2, 0, none⟩) n2 n2)).setCell ⟨s + 1 + 1, 3, none⟩ (.slice (some ⟨g3, 0, none⟩) n3 n3))) := hoSets w1 (s + 1 + 1) (s + 3) (by omega) _ _ _ _
  clear S1 m1 b1
  go_wp2_with fail
  generalize ((((w1.setCell ⟨s + 1 + 1, 0, none⟩ (.slice (some ⟨g0, 0, none⟩) n0 n0)).setCell ⟨s + 1 + 1, 1, none⟩ (.slice (some ⟨g1, 0, none⟩) n1 n1)).setCell ⟨s + 1 + 1, 2, none⟩ (.slice (some ⟨g2, 0, none⟩) n2 n2)).setCell ⟨s + 1 + 1, 3, none⟩ (.slice (some ⟨g3, 0, none⟩) n3 n3)) = v1 at *
  clear o0 f0 o1 f1 o2 f2 o3 f3 e4
  refine (to_nums _ _ _ _ _ (HP.out.stay T1.out.b).mem HS.out.mem).mono ?_
  rintro e w2 ⟨g4, rfl, m2, b2⟩
  have Z1 : Hid (s + 3 ≤ v1.heap.size) := by have := T1.out.O.lt; show _ ≤ _; omega
  have M2 : Hid (Nums w2 (s + 3) (.slice (some ⟨g4, 0, none⟩) n4 n4) X.mem) := m2.mono Z1.out
  have H12 : Hid (Ho (s + 3) w1 w2) := H1.out.trans (Ho.of b2)
  have S1 := T1.out.keep b2
  have o4 := S1.O.cell 4 rfl
  have f4 := S1.O.free 4
  have e5 := S1.A.cell 5 rfl
  have T2 : Hid (Th w (w2.setCell ⟨s + 1 + 1, 4, none⟩ (.slice (some ⟨g4, 0, none⟩) n4 n4)) s #[.slice a0 n0 c0, .slice a1 n1 c1, .slice a2 n2 c2, .slice a3 n3 c3, .slice a4 n4 c4, .slice a5 n5 c5, .int .i64 X.slot, .int .i64 X.left, .int .i64 X.clock] #[.slice (some ⟨g0, 0, none⟩) n0 n0, .slice (some ⟨g1, 0, none⟩) n1 n1, .slice (some ⟨g2, 0, none⟩) n2 n2, .slice (some ⟨g3, 0, none⟩) n3 n3, .slice (some ⟨g4, 0, none⟩) n4 n4, .slice none 0 0, .int .i64 0, .int .i64 0, .int .i64 0]) := S1.put 4 _
  have H2 : Hid (Ho (s + 3) w2 (w2.setCell ⟨s + 1 + 1, 4, none⟩ (.slice (some ⟨g4, 0, none⟩) n4 n4))) := Ho.set _ _ _ (by show s + 1 + 1 < s + 3; omega)
  clear S1 m2 b2
  go_wp2_with fail
  generalize (w2.setCell ⟨s + 1 + 1, 4, none⟩ (.slice (some ⟨g4, 0, none⟩) n4 n4)) = v2 at *
  clear o4 f4 e5
  refine (to_hartsT _ _ _ X.harts _ (HP.out.stay T2.out.b).harts HS.out.len HS.out.each).mono ?_
  rintro e w3 ⟨g5, rfl, m3, b3, th3, gl3⟩
  have TH : Hid (w3.there g5 0 (n5 * 9) ∧ g5 < w3.heap.size) := ⟨th3, gl3⟩
  clear th3 gl3
  have Z2 : Hid (s + 3 ≤ v2.heap.size) := by have := T2.out.O.lt; show _ ≤ _; omega
  have M3 : Hid (Hl w3 (s + 3) (.slice (some ⟨g5, 0, none⟩) n5 n5) X.harts) := m3.mono Z2.out
  have H23 : Hid (Ho (s + 3) w2 w3) := H2.out.trans (Ho.of b3)
  have G5 : Hid (s + 3 ≤ g5) := by
    rcases M3.out with h | ⟨g, cap, h1, _, _, h4, _⟩
    · cases h.1
    · cases h1; exact h4
  have S1 := T2.out.keep b3
  have o0 := S1.O.cell 0 rfl
  have o1 := S1.O.cell 1 rfl
  have o2 := S1.O.cell 2 rfl
  have o3 := S1.O.cell 3 rfl
  have o4 := S1.O.cell 4 rfl
  have o5 := S1.O.cell 5 rfl
  have o6 := S1.O.cell 6 rfl
  have o7 := S1.O.cell 7 rfl
  have o8 := S1.O.cell 8 rfl
  have f5 := S1.O.free 5
  have f6 := S1.O.free 6
  have f7 := S1.O.free 7
  have f8 := S1.O.free 8
  have e6 := S1.A.cell 6 rfl
  have e7 := S1.A.cell 7 rfl
  have e8 := S1.A.cell 8 rfl
  have r0 := S1.R.cell 0 rfl
  have r1 := S1.R.cell 1 rfl
  have r2 := S1.R.cell 2 rfl
  have r3 := S1.R.cell 3 rfl
  have r4 := S1.R.cell 4 rfl
  have r5 := S1.R.cell 5 rfl
  have r6 := S1.R.cell 6 rfl
  have r7 := S1.R.cell 7 rfl
  have r8 := S1.R.cell 8 rfl
  have y0 := S1.R.free 0
  have y1 := S1.R.free 1
  have y2 := S1.R.free 2
  have y3 := S1.R.free 3
  have y4 := S1.R.free 4
  have y5 := S1.R.free 5
  have y6 := S1.R.free 6
  have y7 := S1.R.free 7
  have y8 := S1.R.free 8
  have T3 : Hid (Th w ((((w3.setCell ⟨s + 1 + 1, 5, none⟩ (.slice (some ⟨g5, 0, none⟩) n5 n5)).setCell ⟨s + 1 + 1, 6, none⟩ (.int .i64 X.slot)).setCell ⟨s + 1 + 1, 7, none⟩ (.int .i64 X.left)).setCell ⟨s + 1 + 1, 8, none⟩ (.int .i64 X.clock)) s #[.slice a0 n0 c0, .slice a1 n1 c1, .slice a2 n2 c2, .slice a3 n3 c3, .slice a4 n4 c4, .slice a5 n5 c5, .int .i64 X.slot, .int .i64 X.left, .int .i64 X.clock] #[.slice (some ⟨g0, 0, none⟩) n0 n0, .slice (some ⟨g1, 0, none⟩) n1 n1, .slice (some ⟨g2, 0, none⟩) n2 n2, .slice (some ⟨g3, 0, none⟩) n3 n3, .slice (some ⟨g4, 0, none⟩) n4 n4, .slice (some ⟨g5, 0, none⟩) n5 n5, .int .i64 X.slot, .int .i64 X.left, .int .i64 X.clock]) := (((S1.put 5 _).put 6 _).put 7 _).put 8 _
  have H3 : Hid (Ho (s + 3) w3 ((((w3.setCell ⟨s + 1 + 1, 5, none⟩ (.slice (some ⟨g5, 0, none⟩) n5 n5)).setCell ⟨s + 1 + 1, 6, none⟩ (.int .i64 X.slot)).setCell ⟨s + 1 + 1, 7, none⟩ (.int .i64 X.left)).setCell ⟨s + 1 + 1, 8, none⟩ (.int .i64 X.clock))) := hoSets w3 (s + 1 + 1) (s + 3) (by omega) _ _ _ _
  have NN : Hid (_ ∧ _) := nine T3.out.R (.slice (some ⟨g0, 0, none⟩) n0 n0) (.slice (some ⟨g1, 0, none⟩) n1 n1) (.slice (some ⟨g2, 0, none⟩) n2 n2) (.slice (some ⟨g3, 0, none⟩) n3 n3) (.slice (some ⟨g4, 0, none⟩) n4 n4) (.slice (some ⟨g5, 0, none⟩) n5 n5) (.int .i64 X.slot) (.int .i64 X.left) (.int .i64 X.clock)
  clear S1 m3 b3
  go_wp2_with fail
  clear o0 r0 y0 o1 r1 y1 o2 r2 y2 o3 r3 y3 o4 r4 y4 o5 r5 y5 o6 r6 y6 o7 r7 y7 o8 r8 y8 f5 f6 f7 f8 e6 e7 e8
  generalize ((((((((((((((w3.setCell ⟨s + 1 + 1, 5, none⟩ (.slice (some ⟨g5, 0, none⟩) n5 n5)).setCell ⟨s + 1 + 1, 6, none⟩ (.int .i64 X.slot)).setCell ⟨s + 1 + 1, 7, none⟩ (.int .i64 X.left)).setCell ⟨s + 1 + 1, 8, none⟩ (.int .i64 X.clock)).setCell ⟨s + 1, 0, none⟩ (.slice (some ⟨g0, 0, none⟩) n0 n0)).setCell ⟨s + 1, 1, none⟩ (.slice (some ⟨g1, 0, none⟩) n1 n1)).setCell ⟨s + 1, 2, none⟩ (.slice (some ⟨g2, 0, none⟩) n2 n2)).setCell ⟨s + 1, 3, none⟩ (.slice (some ⟨g3, 0, none⟩) n3 n3)).setCell ⟨s + 1, 4, none⟩ (.slice (some ⟨g4, 0, none⟩) n4 n4)).setCell ⟨s + 1, 5, none⟩ (.slice (some ⟨g5, 0, none⟩) n5 n5)).setCell ⟨s + 1, 6, none⟩ (.int .i64 X.slot)).setCell ⟨s + 1, 7, none⟩ (.int .i64 X.left)).setCell ⟨s + 1, 8, none⟩ (.int .i64 X.clock))) = V at *
  generalize ((((w3.setCell ⟨s + 1 + 1, 5, none⟩ (.slice (some ⟨g5, 0, none⟩) n5 n5)).setCell ⟨s + 1 + 1, 6, none⟩ (.int .i64 X.slot)).setCell ⟨s + 1 + 1, 7, none⟩ (.int .i64 X.left)).setCell ⟨s + 1 + 1, 8, none⟩ (.int .i64 X.clock)) = v3 at *
  have H4 : Hid (Ho (s + 3) w3 V) := H3.out.trans (NN.out.2.ho fun k e => by omega)
  have B4 : Hid (Below w.heap.size w V) := Mq.under T3.out.b NN.out.2 fun k e => by have := HSs.out; omega
  have x0 := NN.out.1.cell 0 rfl
  have x1 := NN.out.1.cell 1 rfl
  have x2 := NN.out.1.cell 2 rfl
  have x3 := NN.out.1.cell 3 rfl
  have x4 := NN.out.1.cell 4 rfl
  have x5 := NN.out.1.cell 5 rfl
  have x6 := NN.out.1.cell 6 rfl
  have x7 := NN.out.1.cell 7 rfl
  have x8 := NN.out.1.cell 8 rfl
  have HD : Od V w.heap.size g0 g1 g2 g3 n0 n1 n2 n3 (.slice (some ⟨g4, 0, none⟩) n4 n4) (.slice (some ⟨g5, 0, none⟩) n5 n5) X := by
    have L : w.heap.size ≤ s + 3 := by have := HSs.out; omega
    exact ⟨(M1.out.ho (H12.out.trans (H23.out.trans H4.out))).mono L, (M2.out.ho (H23.out.trans H4.out)).mono L, (M3.out.ho H4.out).mono L⟩
  exact bodyPost_ret (v := .agg #[.slice (some ⟨g0, 0, none⟩) n0 n0, .slice (some ⟨g1, 0, none⟩) n1 n1, .slice (some ⟨g2, 0, none⟩) n2 n2, .slice (some ⟨g3, 0, none⟩) n3 n3, .slice (some ⟨g4, 0, none⟩) n4 n4, .slice (some ⟨g5, 0, none⟩) n5 n5, .int .i64 X.slot, .int .i64 X.left, .int .i64 X.clock]) (by simp [results, Tryz.results6, go_sem, x0, x1, x2, x3, x4, x5, x6, x7, x8]) rfl ⟨_, _, _, _, _, _, rfl, HD, B4.out, thereH TH.out.1 G5.out TH.out.2 H4.out, by have := G5.out; have := HSs.out; omega, Nat.lt_of_lt_of_le TH.out.2 H4.out.size⟩
theorem to_host (a0 a1 a2 a3 a4 a5 : Option Addr) (n0 c0 n1 c1 n2 c2 n3 c3 n4 c4 n5 c5 : Nat) (X : Hst) (w : World) (h : Oi w a0 n0 c0 a1 n1 c1 a2 n2 c2 a3 n3 c3 a4 n4 c4 a5 n5 c5 X) (hs : Osm n0 n1 n2 n3 n4 n5 X) :
    Calls Tryz.prog 6 #[.agg #[.slice a0 n0 c0, .slice a1 n1 c1, .slice a2 n2 c2, .slice a3 n3 c3, .slice a4 n4 c4, .slice a5 n5 c5, .int .i64 X.slot, .int .i64 X.left, .int .i64 X.clock]] w fun e w' => ∃ g0 g1 g2 g3 g4 g5, e = .returned (.agg #[.slice (some ⟨g0, 0, none⟩) n0 n0, .slice (some ⟨g1, 0, none⟩) n1 n1, .slice (some ⟨g2, 0, none⟩) n2 n2, .slice (some ⟨g3, 0, none⟩) n3 n3, .slice (some ⟨g4, 0, none⟩) n4 n4, .slice (some ⟨g5, 0, none⟩) n5 n5, .int .i64 X.slot, .int .i64 X.left, .int .i64 X.clock]) ∧ Od w' w.heap.size g0 g1 g2 g3 n0 n1 n2 n3 (.slice (some ⟨g4, 0, none⟩) n4 n4) (.slice (some ⟨g5, 0, none⟩) n5 n5) X ∧ Below w.heap.size w w' :=
  (to_hostT a0 a1 a2 a3 a4 a5 n0 c0 n1 c1 n2 c2 n3 c3 n4 c4 n5 c5 X w h hs).mono fun e w' ⟨g0, g1, g2, g3, g4, g5, h1, h2, h3, _⟩ => ⟨g0, g1, g2, g3, g4, g5, h1, h2, h3⟩
end Go.Proofs.YthebikoahfcdaaaGreatDoor
namespace Go.Proofs.YthebikoahfcdaaaGreatDoor
open Go.RowKit
set_option linter.unusedVariables false

theorem vb_rangeH {w : World} {q : Nat} {A : Array Value} {t : TypeId} (h : Vb w q A t) : w.rangeAt q 0 A.toList := fun j v hv => by
  rw [Nat.zero_add]
  exact h.cell j (by rw [← Array.getElem?_toList]; exact hv)
set_option maxRecDepth 20000 in
set_option maxHeartbeats 8000000 in
theorem i_hostView (x : Addr) (a1 a2 a3 : Option Addr) (n0 c0 n1 c1 n2' c2 n3' c3 : Nat) (P : Plc) (g : Nat) (xa : Option Addr) (n2 xk : Nat) (ya : Option Addr) (n3 yk : Nat) (H : Ht) (pg mc : Nat) (ms : List Int) (w : World) (h : Pl w (some x) n0 c0 a1 n1 c1 a2 n2' c2 a3 n3' c3 P) (hg : g < n0) (hl4 : P.lanes.length ≤ 4) (hi : Rv w (.slice xa n2 xk) H.inn) (ho : Rv w (.slice ya n3 yk) H.out) (hk : Hok H) (hpc : ∀ k, k < 24 * 8 → w.cell? ⟨pg, k, none⟩ = some (.int .i64 (ms.getD k 0))) (hms : ms.length = 24 * 8) (hpr : ∀ y ∈ (P.own.getD g []), 0 ≤ y ∧ y < (24 : Nat)) (hpl : (P.own.getD g []).length ≤ 5) (hgr : ∀ y ∈ (gvL true (g : Int) P.lanes), 0 ≤ y ∧ y < (24 : Nat)) (hgl : (gvL true (g : Int) P.lanes).length ≤ 5) :
    Calls Tryz.prog 24 #[.agg #[.slice (some x) n0 c0, .slice a1 n1 c1, .slice a2 n2' c2, .slice a3 n3' c3], .int .i64 (g : Int), .agg (mca H (.slice xa n2 xk) (.slice ya n3 yk)), .slice (some ⟨pg, 0, none⟩) 24 mc] w fun e w' => ∃ r' c' i' o' l m, e = .returned (.agg #[r', .int .i64 H.pc, c', .bool H.halted, .bool H.waiting, .bool H.rung, .int .i64 H.done, i', o', l, m]) ∧ Vm w' w.heap.size r' c' i' o' l m H (wordsL ms (P.own.getD g [])) (wordsL ms (gvL true (g : Int) P.lanes)) ∧ Below w.heap.size w w' := by
  have HI : Hid (Rv w (.slice xa n2 xk) H.inn ∧ Rv w (.slice ya n3 yk) H.out ∧ Hok H) := ⟨hi, ho, hk⟩
  have HP : Hid (Pl w (some x) n0 c0 a1 n1 c1 a2 n2' c2 a3 n3' c3 P ∧ P.lanes.length ≤ 4) := ⟨h, hl4⟩
  have PC : Hid ((∀ k, k < 24 * 8 → w.cell? ⟨pg, k, none⟩ = some (.int .i64 (ms.getD k 0))) ∧ ms.length = 24 * 8) := ⟨hpc, hms⟩
  have GP : Hid ((∀ y ∈ (P.own.getD g []), 0 ≤ y ∧ y < (24 : Nat)) ∧ (P.own.getD g []).length ≤ 5 ∧ (∀ y ∈ (gvL true (g : Int) P.lanes), 0 ≤ y ∧ y < (24 : Nat)) ∧ (gvL true (g : Int) P.lanes).length ≤ 5) := ⟨hpr, hpl, hgr, hgl⟩
  have hgI : (g : Int) < (n0 : Int) := by omega
  have hn0 : (n0 : Int) ≤ 9223372036854775807 := by have := h.own.cap; unfold maxLen at this; omega
  obtain ⟨x', ob, ol, oc, hxe, ko1, ko2⟩ := h.own.at g hg
  rw [← Option.some.inj hxe] at ko1
  have KO : Hid (w.cell? (x.add g) = some (.slice ob ol oc) ∧ IsNs w ob ol oc (P.own.getD g [])) := ⟨ko1, ko2⟩
  have LI : Hid ((g : Int) < (n0 : Int) ∧ (n0 : Int) ≤ 9223372036854775807) := ⟨hgI, hn0⟩
  obtain ⟨OW, hOW⟩ : ∃ L, (P.own.getD g []) = L := ⟨_, rfl⟩
  obtain ⟨GW, hGW⟩ : ∃ L, (gvL true (g : Int) P.lanes) = L := ⟨_, rfl⟩
  have HE : Hid ((P.own.getD g []) = OW ∧ (gvL true (g : Int) P.lanes) = GW) := ⟨hOW, hGW⟩
  rw [hOW, hGW] at GP
  rw [hOW] at KO
  rw [hOW, hGW]
  clear h hg hl4 hi ho hk hpc hms hpr hpl hgr hgl hxe ko1 ko2 hgI hn0 hOW hGW
  generalize hW : ((w.alloc (.cells #[.slice (some x) n0 c0, .slice a1 n1 c1, .slice a2 n2' c2, .slice a3 n3' c3] 44)).alloc (.cells (mca H (.slice xa n2 xk) (.slice ya n3 yk)) 73)).alloc (.cells #[.slice none 0 0, .int .i64 0, .slice none 0 0, .bool false, .bool false, .bool false, .int .i64 0, .slice none 0 0, .slice none 0 0, .slice none 0 0, .slice none 0 0] 36) = W
  have B0 : Hid (Below w.heap.size w W) := by show Below _ _ _; rw [← hW]; exact al (al (al (Below.refl _ _) _) _) _
  obtain ⟨s, hS⟩ : ∃ s, w.heap.size = s := ⟨_, rfl⟩
  have HSs : Hid (w.heap.size = s) := hS
  have z1 : s + 1 = (w.alloc (.cells #[.slice (some x) n0 c0, .slice a1 n1 c1, .slice a2 n2' c2, .slice a3 n3' c3] 44)).heap.size := by rw [← hS]; simp
  have z2 : s + 2 = ((w.alloc (.cells #[.slice (some x) n0 c0, .slice a1 n1 c1, .slice a2 n2' c2, .slice a3 n3' c3] 44)).alloc (.cells (mca H (.slice xa n2 xk) (.slice ya n3 yk)) 73)).heap.size := by rw [← hS]; simp
  have Q : Hid (Vb W s #[.slice (some x) n0 c0, .slice a1 n1 c1, .slice a2 n2' c2, .slice a3 n3' c3] 44) := by show Vb _ _ _ _; rw [← hW, ← hS]; exact ((Vb.new _ _ _).push _).push _
  have MV : Hid (Vb W (s + 1) (mca H (.slice xa n2 xk) (.slice ya n3 yk)) 73) := by show Vb _ _ _ _; rw [← hW, z1]; exact (Vb.new _ _ _).push _
  have R : Hid (Vb W (s + 2) #[.slice none 0 0, .int .i64 0, .slice none 0 0, .bool false, .bool false, .bool false, .int .i64 0, .slice none 0 0, .slice none 0 0, .slice none 0 0, .slice none 0 0] 36) := by show Vb _ _ _ _; rw [← hW, z2]; exact Vb.new _ _ _
  clear z1 z2
  have hsz := mca_size H (.slice xa n2 xk) (.slice ya n3 yk)
  have q0 := Q.out.cell 0 rfl
  have q1 := Q.out.cell 1 rfl
  have q2 := Q.out.cell 2 rfl
  have q3 := Q.out.cell 3 rfl
  go_enter Tryz.func24, Tryz.ntmps24
  go_wp2_with fail
  clear hW hS q0 q1 q2 q3 hsz
  refine (i_givenV (some x) a1 a2 a3 n0 c0 n1 c1 n2' c2 n3' c3 P (g : Int) W (HP.out.1.stay B0.out) (by have := HP.out.2; omega)).mono ?_
  rw [HE.out.2]
  rintro e w3 ⟨gv, rfl, gn, b3⟩
  obtain ⟨ga, gc, hgv, _, _, _⟩ := gn.shape
  obtain ⟨gl, hgl⟩ : ∃ n, GW.length = n := ⟨_, rfl⟩
  rw [hgl] at hgv
  subst hgv
  have G3 : Hid (Nums w3 W.heap.size (.slice ga gl gc) GW) := gn
  have B3 : Hid (Below w.heap.size w w3) := on B0.out b3
  have R3 : Hid (Vb w3 (s + 2) #[.slice none 0 0, .int .i64 0, .slice none 0 0, .bool false, .bool false, .bool false, .int .i64 0, .slice none 0 0, .slice none 0 0, .slice none 0 0, .slice none 0 0] 36) := R.out.keep b3
  have Q3 : Hid (Vb w3 s #[.slice (some x) n0 c0, .slice a1 n1 c1, .slice a2 n2' c2, .slice a3 n3' c3] 44) := Q.out.keep b3
  have M3 : Hid (Vb w3 (s + 1) (mca H (.slice xa n2 xk) (.slice ya n3 yk)) 73) := MV.out.keep b3
  have LT : Hid (s + 2 < w3.heap.size) := R3.out.lt
  clear gn hgl b3
  have QS : Hid (∀ w', SvN 11 w3 (s + 2) w' → Vb w' s #[.slice (some x) n0 c0, .slice a1 n1 c1, .slice a2 n2' c2, .slice a3 n3' c3] 44 ∧ w'.rangeAt (s + 1) 0 (mca H (.slice xa n2 xk) (.slice ya n3 yk)).toList) := fun w' hs => ⟨hs.1.vb Q3.out (by omega), vb_rangeH (hs.1.vb M3.out (by omega))⟩
  have BS : Hid (∀ w', SvN 11 w3 (s + 2) w' → Below w.heap.size w w') := fun w' hs => Mq.under B3.out hs.1 fun k e => by have := HSs.out; omega
  have Sv0 : Hid (SvN 11 w3 (s + 2) w3.drew) := SvN.step ⟨Mq.refl _ _, R3.out.there 11 (by decide)⟩ LT.out (Below.refl _ _).drew
  have E0 : Hid (Below w3.heap.size w3 w3.drew) := (Below.refl _ _).drew
  go_upto_region 2 with fail
  refine wp_region_held (S := fun w' => SvN 11 w3 (s + 2) w') (by kernel_rfl) ?_
  change wpAnyH _ _ _ _ _ _ _ _ (World.drew _)
  generalize w3.drew = u0 at *
  refine wpAnyH_take (i := 0) rfl (by kernel_rfl) (by kernel_rfl) (by kernel_rfl) (fun _ _ _ h => h) (yieldsIf_load_mid rfl 73 (.tmp 6) rfl (s + 1) 0 rfl (mca H (.slice xa n2 xk) (.slice ya n3 yk)).toList _ (fun w' hs => (QS.out w' hs).2) Tryz.underlying73 rfl (by kernel_rfl)) Sv0.out ?_
  change wpAnyH _ _ _ _ _ _ _ (Act.put _ (some 13) _) _
  simp only [Act.put, List.setIfInBounds_toArray, List.set_cons_zero, List.set_cons_succ]
  refine wpAnyH_take (i := 1) (v := (.slice (some ⟨pg, 0, none⟩) 24 mc)) rfl (by kernel_rfl) (by kernel_rfl) (by kernel_rfl) (fun _ _ _ h => h) (Or.inl ⟨by rfl, fun w' hs => by go_simp⟩) Sv0.out ?_
  change wpAnyH _ _ _ _ _ _ _ (Act.put _ (some 14) _) _
  simp only [Act.put, List.setIfInBounds_toArray, List.set_cons_zero, List.set_cons_succ]
  refine wpAnyH_take (i := 2) (v := (.pointer (some ⟨s, 0, none⟩))) rfl (by kernel_rfl) (by kernel_rfl) (by kernel_rfl) (fun _ _ _ h => h) (Or.inl ⟨by rfl, fun w' hs => by go_simp⟩) Sv0.out ?_
  change wpAnyH _ _ _ _ _ _ _ (Act.put _ (some 15) _) _
  simp only [Act.put, List.setIfInBounds_toArray, List.set_cons_zero, List.set_cons_succ]
  refine wpAnyH_take (i := 3) (v := (.slice (some x) n0 c0)) rfl (by kernel_rfl) (by kernel_rfl) (by kernel_rfl) (fun _ _ _ h => h) (Or.inl ⟨by rfl, fun w' hs => by have q0 := (QS.out w' hs).1.cell 0 rfl; go_simp⟩) Sv0.out ?_
  change wpAnyH _ _ _ _ _ _ _ (Act.put _ (some 16) _) _
  simp only [Act.put, List.setIfInBounds_toArray, List.set_cons_zero, List.set_cons_succ]
  refine wpAnyH_take (i := 4) (v := (.int .i64 (g : Int))) rfl (by kernel_rfl) (by kernel_rfl) (by kernel_rfl) (fun _ _ _ h => h) (Or.inl ⟨by rfl, fun w' hs => by go_simp⟩) Sv0.out ?_
  change wpAnyH _ _ _ _ _ _ _ (Act.put _ (some 17) _) _
  simp only [Act.put, List.setIfInBounds_toArray, List.set_cons_zero, List.set_cons_succ]
  refine wpAnyH_take (i := 5) (v := (.pointer (some (x.add g)))) rfl (by kernel_rfl) (by kernel_rfl) (by kernel_rfl) (fun _ _ _ h => h) (Or.inl ⟨by rfl, fun w' hs => by have i1 := LI.out.1; have i2 := LI.out.2; have y0 := cell_keep (BS.out w' hs) KO.out.1; go_simp⟩) Sv0.out ?_
  change wpAnyH _ _ _ _ _ _ _ (Act.put _ (some 18) _) _
  simp only [Act.put, List.setIfInBounds_toArray, List.set_cons_zero, List.set_cons_succ]
  refine wpAnyH_take (i := 6) (v := (.slice ob ol oc)) rfl (by kernel_rfl) (by kernel_rfl) (by kernel_rfl) (fun _ _ _ h => h) (Or.inl ⟨by rfl, fun w' hs => by have y0 := cell_keep (BS.out w' hs) KO.out.1; go_simp⟩) Sv0.out ?_
  change wpAnyH _ _ _ _ _ _ _ (Act.put _ (some 19) _) _
  simp only [Act.put, List.setIfInBounds_toArray, List.set_cons_zero, List.set_cons_succ]
  refine wpAnyH_take (i := 7) (v := (.slice ga gl gc)) rfl (by kernel_rfl) (by kernel_rfl) (by kernel_rfl) (fun _ _ _ h => h) (Or.inl ⟨by rfl, fun w' hs => by go_simp⟩) Sv0.out ?_
  change wpAnyH _ _ _ _ _ _ _ (Act.put _ (some 20) _) _
  simp only [Act.put, List.setIfInBounds_toArray, List.set_cons_zero, List.set_cons_succ]
  refine wpAnyH_ready (rs := [8]) (by kernel_rfl) (by simp) ?_
  refine AllReadyH.cons rfl (fun K hK => ?_) AllReadyH.nil
  rw [if_pos (by rfl)]
  go_simp
  refine (i_viewOn xa n2 xk ya n3 yk H 0 pg mc ms ob ol oc OW ga gl gc GW u0 (HI.out.1.stay (on B3.out E0.out)) (HI.out.2.1.stay (on B3.out E0.out)) HI.out.2.2 24 (fun k hk => cell_keep (on B3.out E0.out) (PC.out.1 k hk)) (by decide) (by decide) PC.out.2 (KO.out.2.stay (on B3.out E0.out)) GP.out.1 GP.out.2.1 ((G3.out.keep E0.out).read) GP.out.2.2.1 GP.out.2.2.2).mono ?_
  rintro e u1 ⟨r', c', i', o', l, m, rfl, vm, b4⟩
  obtain ⟨v0, k0, f0, _⟩ := vm.h.r.shape
  obtain ⟨v1, k1, f1, _⟩ := vm.h.c.shape
  obtain ⟨v2, k2, f2, _⟩ := vm.h.i.shape
  obtain ⟨v3, k3, f3, _⟩ := vm.h.o.shape
  obtain ⟨v4, k4, f4, _⟩ := vm.pl.shape
  obtain ⟨v5, k5, f5, _⟩ := vm.mm.shape
  subst f0 f1 f2 f3 f4 f5
  obtain ⟨e0, he0⟩ : ∃ n, H.regs.length = n := ⟨_, rfl⟩
  obtain ⟨e1, he1⟩ : ∃ n, H.csr.length = n := ⟨_, rfl⟩
  obtain ⟨e2, he2⟩ : ∃ n, H.inn.length = n := ⟨_, rfl⟩
  obtain ⟨e3, he3⟩ : ∃ n, H.out.length = n := ⟨_, rfl⟩
  obtain ⟨e4, he4⟩ : ∃ n, (wordsL ms OW).length = n := ⟨_, rfl⟩
  obtain ⟨e5, he5⟩ : ∃ n, (wordsL ms GW).length = n := ⟨_, rfl⟩
  rw [he0, he1, he2, he3, he4, he5] at vm ⊢
  have V1 : Hid (Vm u1 u0.heap.size (.slice v0 e0 k0) (.slice v1 e1 k1) (.slice v2 e2 k2) (.slice v3 e3 k3) (.slice v4 e4 k4) (.slice v5 e5 k5) H (wordsL ms OW) (wordsL ms GW)) := vm
  have Sv1 : Hid (SvN 11 w3 (s + 2) u1) := Sv0.out.step LT.out b4
  have Z0 : Hid (w3.heap.size ≤ u0.heap.size) := E0.out.size
  clear vm b4 he0 he1 he2 he3 he4 he5
  refine hK.out _ _ Sv1.out (fun _ => ?_)
  clear hK K
  refine wpAnyH_ready (rs := [9]) (by kernel_rfl) (by simp) ?_
  refine AllReadyH.cons rfl (fun K hK => ?_) AllReadyH.nil
  rw [if_pos (by rfl)]
  refine wp_store_mid 36 (.tmp 8) (.tmp 21) rfl (s + 2) 0 #[.slice v0 e0 k0, .int .i64 H.pc, .slice v1 e1 k1, .bool H.halted, .bool H.waiting, .bool H.rung, .int .i64 H.done, .slice v2 e2 k2, .slice v3 e3 k3, .slice v4 e4 k4, .slice v5 e5 k5] rfl rfl Sv1.out.2 (by kernel_rfl) (by simp [Value.oneCell']) ?_
  change K (Act.put _ none undef) _
  simp only [Act.put]
  have S6 : Hid (SvN 11 w3 (s + 2) (u1.setCells (s + 2) 0 #[.slice v0 e0 k0, .int .i64 H.pc, .slice v1 e1 k1, .bool H.halted, .bool H.waiting, .bool H.rung, .int .i64 H.done, .slice v2 e2 k2, .slice v3 e3 k3, .slice v4 e4 k4, .slice v5 e5 k5].toList)) := Sv1.out.set _
  have R6 : Hid ((u1.setCells (s + 2) 0 #[.slice v0 e0 k0, .int .i64 H.pc, .slice v1 e1 k1, .bool H.halted, .bool H.waiting, .bool H.rung, .int .i64 H.done, .slice v2 e2 k2, .slice v3 e3 k3, .slice v4 e4 k4, .slice v5 e5 k5].toList).rangeAt (s + 2) 0 #[.slice v0 e0 k0, .int .i64 H.pc, .slice v1 e1 k1, .bool H.halted, .bool H.waiting, .bool H.rung, .int .i64 H.done, .slice v2 e2 k2, .slice v3 e3 k3, .slice v4 e4 k4, .slice v5 e5 k5].toList) := World.rangeAt_setCells_same _ _ _ _ Sv1.out.2
  have Q6 : Hid (Mq (fun k => k = s + 2) u1 (u1.setCells (s + 2) 0 #[.slice v0 e0 k0, .int .i64 H.pc, .slice v1 e1 k1, .bool H.halted, .bool H.waiting, .bool H.rung, .int .i64 H.done, .slice v2 e2 k2, .slice v3 e3 k3, .slice v4 e4 k4, .slice v5 e5 k5].toList)) := mq_cells (s + 2) _ u1 0
  generalize u1.setCells (s + 2) 0 #[.slice v0 e0 k0, .int .i64 H.pc, .slice v1 e1 k1, .bool H.halted, .bool H.waiting, .bool H.rung, .int .i64 H.done, .slice v2 e2 k2, .slice v3 e3 k3, .slice v4 e4 k4, .slice v5 e5 k5].toList = u6 at *
  refine hK.out _ _ S6.out (fun _ => ?_)
  clear hK K
  refine wpAnyH_done (by kernel_rfl) ?_ _
  have z1 : w.heap.size ≤ w3.heap.size := B3.out.size
  have z2 := Z0.out
  have o6 : Ho w3.heap.size u1 u6 := Q6.out.ho fun k e => by have := LT.out; omega
  have F : Hid (Vm u6 w.heap.size (.slice v0 e0 k0) (.slice v1 e1 k1) (.slice v2 e2 k2) (.slice v3 e3 k3) (.slice v4 e4 k4) (.slice v5 e5 k5) H (wordsL ms OW) (wordsL ms GW)) := by
    have v := V1.out
    exact ⟨((v.h.mono z2).ho o6).mono z1, v.a, ((v.pl.mono z2).ho o6).mono z1, ((v.mm.mono z2).ho o6).mono z1, v.rl, v.cl, v.il, v.ol, v.lm, v.rm, v.cm, v.im, v.om⟩
  have B6 : Hid (Below w.heap.size w u6) := BS.out _ S6.out
  have LD := run_loadVar_mid (P := Tryz.prog) u6 (s + 2) 0 36 #[.slice v0 e0 k0, .int .i64 H.pc, .slice v1 e1 k1, .bool H.halted, .bool H.waiting, .bool H.rung, .int .i64 H.done, .slice v2 e2 k2, .slice v3 e3 k3, .slice v4 e4 k4, .slice v5 e5 k5].toList _ R6.out Tryz.underlying36 rfl (by kernel_rfl)
  go_wp2_with fail
  exact bodyPost_ret (v := .agg #[.slice v0 e0 k0, .int .i64 H.pc, .slice v1 e1 k1, .bool H.halted, .bool H.waiting, .bool H.rung, .int .i64 H.done, .slice v2 e2 k2, .slice v3 e3 k3, .slice v4 e4 k4, .slice v5 e5 k5]) (by simp [results, Tryz.results24, asAddr]; rw [LD]) rfl ⟨_, _, _, _, _, _, rfl, F.out, B6.out⟩
end Go.Proofs.YthebikoahfcdaaaGreatDoor
