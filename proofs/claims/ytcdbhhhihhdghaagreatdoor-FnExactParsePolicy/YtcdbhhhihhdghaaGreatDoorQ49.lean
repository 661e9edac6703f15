/- Texts of this seat, joined. -/
import Derived.OpenShut
import Derived.ChangeArms
import Derived.Test.YtcdbhhhihhdghaaGreatDoorQ32
import Derived.Test.YtcdbhhhihhdghaaGreatDoorQ38
import Derived.Test.YtcdbhhhihhdghaaGreatDoorQ44
import Derived.Test.YtcdbhhhihhdghaaGreatDoorQ48
namespace Go.Proofs.YtcdbhhhihhdghaaGreatDoor
open Go.RowKit
set_option linter.unusedVariables false

theorem forms_three {H : Type} {enc : TypeId × Value → H} {P : Program} {w : World} {base : Nat} {sp : Nat → Bool} {held : Bool} {fuel : Nat} {t e : TypeId} {n : Nat} {f0 f1 f2 : Field} {cs : List Value} {ds : List (DataW H)} {p : List MemPlace}
    (ht : P.underlying t = some (.array n e)) (he : P.underlying e = some (.struct #[f0, f1, f2])) (ce : P.cellsOf e = 3) (o0 : f0.offset = 0) (o1 : f1.offset = 1) (o2 : f2.offset = 2) (u0 : P.underlying f0.type = some .string) (c0 : P.cellsOf f0.type = 1)
    (u1 : P.underlying f1.type = some (.int .i64)) (c1 : P.cellsOf f1.type = 1) (u2 : P.underlying f2.type = some (.int .i64)) (c2 : P.cellsOf f2.type = 1)
    (h : DataW.trod enc P w base sp held fuel t cs = some (.agg ds, p)) (i : Nat) (hi : i < n) (s : List UInt8) (x y : Int) (hd : ds[i]? = some (.agg [.lit (.string s), .lit (.int .i64 x), .lit (.int .i64 y)])) :
    cs[i * 3]? = some (.string (bq s)) ∧ cs[i * 3 + 1]? = some (.int .i64 x) ∧ cs[i * 3 + 2]? = some (.int .i64 y) := by
  obtain ⟨xs, m, _, hx, _, hxl, hf⟩ := DataW.trod_array ht h
  have h1 := hf i hi
  rw [ce] at h1
  obtain ⟨y', hy⟩ : ∃ y, xs[i]? = some y := ⟨xs[i]'(by omega), List.getElem?_eq_getElem (by omega)⟩
  rw [hy] at h1
  obtain ⟨zs, k, _, hz, _, hzl, hg⟩ := DataW.trod_struct he h1
  have hds : ds = xs.map (·.1) := by
    have := congrArg Prod.fst hx
    simpa using this
  match zs, hzl with
  | [y0, y1, y2], _ =>
    have g0 := hg 0 f0 rfl
    have g1 := hg 1 f1 rfl
    have g2 := hg 2 f2 rfl
    simp only [o0, c0, List.drop_zero, List.getElem?_cons_zero] at g0
    simp only [o1, c1, List.getElem?_cons_succ, List.getElem?_cons_zero] at g1
    simp only [o2, c2, List.getElem?_cons_succ, List.getElem?_cons_zero] at g2
    obtain ⟨b, hb, rfl, _⟩ := DataW.trod_string u0 g0
    obtain ⟨b1, hb1, rfl, _⟩ := DataW.trod_int u1 g1
    obtain ⟨b2, hb2, rfl, _⟩ := DataW.trod_int u2 g2
    rw [hds, List.getElem?_map, hy, hz] at hd
    simp only [Option.map_some, List.map_cons, List.map_nil, Option.some.injEq, DataW.agg.injEq, List.cons.injEq, DataW.lit.injEq, Lit.string.injEq, Lit.int.injEq, true_and, and_true] at hd
    obtain ⟨rfl, rfl, rfl⟩ := hd
    have e : bq b.data.toList = b := rfl
    rw [e]
    have t0 := congrArg (·[0]?) hb
    have t1 := congrArg (·[0]?) hb1
    have t2 := congrArg (·[0]?) hb2
    refine ⟨?_, ?_, ?_⟩
    · simpa [List.getElem?_take, List.getElem?_drop] using t0
    · simpa [List.getElem?_take, List.getElem?_drop] using t1
    · simpa [List.getElem?_take, List.getElem?_drop] using t2
end Go.Proofs.YtcdbhhhihhdghaaGreatDoor
namespace Go.Proofs.YtcdbhhhihhdghaaGreatDoor
open Go.RowKit
set_option linter.unusedVariables false

theorem Wp.mg {w : World} {base : Nat} {a : Option Addr} {n cap : Nat} {zs : List Int} (h : Nums w base (.slice a n cap) zs) : Mg w (blk (.slice a n cap)) 1 a n := by
  have e := h.vln
  have hn : n = zs.length := e
  subst hn
  exact row_mg h (ints_ints zs)
structure Spq (P : Plc) : Prop where
  s0 : P.own.length ≤ 1048576
  r0 : ∀ i, i < P.own.length → (P.own.getD i []).length ≤ 1048576
  s1 : P.lanes.length ≤ 1048576
  s2 : P.bells.length ≤ 1048576
  s3 : P.plan.length ≤ 1048576
theorem spq_void : Spq vdP := ⟨Nat.zero_le _, fun i hi => absurd hi (Nat.not_lt_zero _), Nat.zero_le _, Nat.zero_le _, Nat.zero_le _⟩
theorem gu_len (own : List (List Int)) (h : guestsV own = 0) : ∀ z ∈ own, z.length ≤ 1048576 := by
  induction own with
  | nil => intro o ho; cases ho
  | cons a t ih =>
    rw [guestsV] at h
    split at h
    · cases h
    · rename_i h1
      split at h
      · cases h
      · intro o ho
        rcases List.mem_cons.1 ho with rfl | ho
        · omega
        · exact ih h o ho
theorem spq_pf {P : Plc} (h : pfV P = 0) : Spq P := by
  have h1 := (or_zero h).1
  have h2 := (or_zero (or_zero h).2).1
  have h3 := (or_zero (or_zero h).2).2
  have h4 := (or_zero h1).1
  have h5 := (or_zero h2).1
  have h8 := (or_zero h3).2
  unfold g1V at h4
  split at h4
  · cases h4
  · unfold g3V at h5
    split at h5
    · cases h5
    · unfold g6V at h8
      split at h8
      · cases h8
      · exact ⟨by omega, fun i hi => gu_len _ h4 _ (by rw [List.getD, List.getElem?_eq_getElem hi]; exact List.getElem_mem hi), by omega, by omega, by omega⟩
theorem spq_pp (tx : Wb) : Spq (ppV tx).2.2 := by
  by_cases h : (ppV tx).1 = 0
  · exact spq_pf (pp_zero tx h)
  · rw [pp_void tx h]; exact spq_void
theorem Mx.lowB {L : List (Addr × Bool)} {k : Int} {B : Nat} {w w' : World} (m : Mx L k w w') (h : ∀ x ∈ L, B ≤ x.1.block) (hB : B ≤ w.heap.size) : Below B w w' :=
  ⟨m.os, m.tape, m.output, m.size, fun j hj => m.block j (by omega) fun x hx e => by have := h x hx; omega⟩
theorem Mx.ofB {k : Int} {w w' : World} (b : Below w.heap.size w w') : Mx [] k w w' := ⟨b.os, b.tape, b.output, b.size, fun g hg _ => b.block g hg, fun p v h _ => cell_keep b h, fun i x e => by simp at e, fun p hp => b.frozen hp⟩
theorem Pg.keepB {w w' : World} {a0 a1 a2 a3 : Option Addr} {n0 n1 n2 n3 g0 g1 g2 g3 : Nat} {R : List (Nat × Nat)} (h : Pg w a0 a1 a2 a3 n0 n1 n2 n3 g0 g1 g2 g3 R) (b : Below w.heap.size w w') : Pg w' a0 a1 a2 a3 n0 n1 n2 n3 g0 g1 g2 g3 R :=
  { h with own := h.own.mx (Mx.ofB (k := 0) b) (by simp) (by simp), lanes := h.lanes.mx (Mx.ofB (k := 0) b) (by simp), bells := h.bells.mx (Mx.ofB (k := 0) b) (by simp), plan := h.plan.mx (Mx.ofB (k := 0) b) (by simp) }
theorem Wp.pg {w : World} {base : Nat} {a0 a1 a2 a3 : Option Addr} {n0 n1 n2 n3 c0 c1 c2 c3 : Nat} {P : Plc} {xs : List Value} (h : Wp w base (.slice a0 n0 c0) (.slice a1 n1 c1) (.slice a2 n2 c2) (.slice a3 n3 c3) P xs) (sm : Spq P) :
    ∃ g0 g1 g2 g3 R, Pg w a0 a1 a2 a3 n0 n1 n2 n3 g0 g1 g2 g3 R ∧ ∀ x ∈ pN g1 g2 g3 n1 n2 n3 R, base ≤ x.1.block ∧ x.1.block < w.heap.size := by
  have N0 : n0 = xs.length := by obtain ⟨_, ⟨e, h2⟩ | ⟨_, _, _, e, _⟩⟩ := h.own <;> simp at e <;> omega
  have N1 : n1 = P.lanes.length := by obtain ⟨_, ⟨e, h2⟩ | ⟨_, _, _, e, _⟩⟩ := h.lanes <;> simp at e <;> omega
  have N2 : n2 = P.bells.length := by obtain ⟨_, ⟨e, h2⟩ | ⟨_, _, _, e, _⟩⟩ := h.bells <;> simp at e <;> omega
  have N3 : n3 = P.plan.length := by obtain ⟨_, ⟨e, h2⟩ | ⟨_, _, _, e, _⟩⟩ := h.plan <;> simp at e <;> omega
  have XL := h.xl
  have b0 : 0 < n0 → Bk4 w base 36 (.slice a0 n0 c0) := fun h0 => (row_bk h.own (by omega)).1
  have b1 : 0 < n1 → Bk4 w base 54 (.slice a1 n1 c1) := fun h0 => (row_bk h.lanes (by omega)).1
  have b2 : 0 < n2 → Bk4 w base 56 (.slice a2 n2 c2) := fun h0 => (row_bk h.bells (by omega)).1
  have b3 : 0 < n3 → Bk4 w base 58 (.slice a3 n3 c3) := fun h0 => (row_bk h.plan (by omega)).1
  have hx : ∀ x ∈ xs, ∃ zs, Nums w base x zs := fun x hx => by
    obtain ⟨i, hi, e⟩ := List.mem_iff_getElem.1 hx
    exact ⟨_, h.rows i x (by rw [List.getElem?_eq_getElem hi, e])⟩
  have PX := pw_ne h.apart hx
  have hxr : ∀ r ∈ rlX xs, 0 < r.2 → ∃ x ∈ xs, r = (blk x, vln x) ∧ Bk4 w base 2 x := fun r hr h0 => by
    obtain ⟨x, hxm, rfl⟩ := List.mem_map.1 hr
    obtain ⟨_, n⟩ := hx x hxm
    exact ⟨x, hxm, rfl, n.bk h0⟩
  have R : Rg w (blk (.slice a0 n0 c0)) (rlX xs) := by
    refine ⟨fun i r e => ?_, fun r hr => ?_, ?_, fun r hr h0 => ?_⟩
    · unfold rlX at e
      rw [List.getElem?_map] at e
      cases ex : xs[i]? with
      | none => rw [ex] at e; cases e
      | some x =>
        rw [ex] at e
        cases e
        have hi : i < xs.length := (List.getElem?_eq_some_iff.1 ex).1
        obtain ⟨bb, cap, ev⟩ := row_bk h.own (by omega)
        have cc := World.ownsRow.cellAt (by rw [← ev]; exact h.own) i (by omega)
        rw [ex] at cc
        have n := h.rows i x ex
        obtain ⟨a, c, rfl, _⟩ := n.shape
        exact ⟨a, c, cc, Wp.mg n⟩
    · obtain ⟨x, hxm, rfl⟩ := List.mem_map.1 hr
      obtain ⟨i, hi, e⟩ := List.mem_iff_getElem.1 hxm
      have n := h.rows i x (by rw [List.getElem?_eq_getElem hi, e])
      show vln x ≤ 1048576
      rw [n.vln]
      exact sm.r0 i (by omega)
    · unfold rlX
      rw [List.pairwise_map]
      exact PX
    · obtain ⟨x, hxm, rfl, bx⟩ := hxr r hr h0
      exact ty_ne bx.ty (b0 (by have := List.length_pos_of_mem hxm; omega)).ty (by decide)
  have dd : ∀ (t : TypeId) (g : Nat), tyOf w g = some t → t ≠ 2 → ∀ r ∈ rlX xs, 0 < r.2 → r.1 ≠ g := fun t g hg ht r hr h0 => by
    obtain ⟨x, hxm, rfl, bx⟩ := hxr r hr h0
    exact ty_ne bx.ty hg (fun e => ht e.symm)
  have PP : Pg w a0 a1 a2 a3 n0 n1 n2 n3 (blk (.slice a0 n0 c0)) (blk (.slice a1 n1 c1)) (blk (.slice a2 n2 c2)) (blk (.slice a3 n3 c3)) (rlX xs) := by
    refine ⟨R, by rw [rlX, List.length_map]; omega, fun h0 => ?_, row_mg (by have := h.lanes; unfold Ls at this; rw [← N1] at this; exact this) (flat5_ints _), row_mg (by have := h.bells; unfold Prs at this; rw [← N2] at this; exact this) (flat_ints _), row_mg (by have := h.plan; unfold Prs at this; rw [← N3] at this; exact this) (flat_ints _), by have := sm.s0; omega, by have := sm.s1; omega, by have := sm.s2; omega, by have := sm.s3; omega, fun h0 => dd _ _ (b1 h0).ty (by decide), fun h0 => dd _ _ (b2 h0).ty (by decide), fun h0 => dd _ _ (b3 h0).ty (by decide), fun h0 h1 => ty_ne (b1 h0).ty (b2 h1).ty (by decide), fun h0 h1 => ty_ne (b1 h0).ty (b3 h1).ty (by decide), fun h0 h1 => ty_ne (b2 h0).ty (b3 h1).ty (by decide), fun h0 h1 => ty_ne (b1 h1).ty (b0 h0).ty (by decide), fun h0 h1 => ty_ne (b2 h1).ty (b0 h0).ty (by decide), fun h0 h1 => ty_ne (b3 h1).ty (b0 h0).ty (by decide)⟩
    obtain ⟨_, cap, ev⟩ := row_bk h.own (by omega)
    simp at ev
    exact ev.1
  refine ⟨_, _, _, _, _, PP, fun x hx' => ?_⟩
  simp only [pN, List.mem_append] at hx'
  rcases hx' with ((hx' | hx') | hx') | hx'
  · obtain ⟨r, hr, h0, e'⟩ := rN_mem hx'
    obtain ⟨x', hxm, rfl, bx⟩ := hxr r hr h0
    rw [e']
    exact ⟨bx.lo, bx.hi⟩
  · have h0 := cN_pos hx'
    have k := b1 (by omega)
    rw [cN_block hx']
    exact ⟨k.lo, k.hi⟩
  · have h0 := cN_pos hx'
    have k := b2 (by omega)
    rw [cN_block hx']
    exact ⟨k.lo, k.hi⟩
  · have h0 := cN_pos hx'
    have k := b3 (by omega)
    rw [cN_block hx']
    exact ⟨k.lo, k.hi⟩
theorem Wp.svr {w : World} {base : Nat} {v0 v1 v2 v3 : Value} {P : Plc} {xs : List Value} (h : Wp w base v0 v1 v2 v3 P xs) : Svr w v0 P.own := row_sv h.own h.xl (fun i x e => h.rows i x e)
set_option maxRecDepth 20000 in
set_option maxHeartbeats 4000000 in
theorem eq_pres (z i : Int) (v0 v1 v2 v3 u0 u1 u2 u3 : Value) (P : Plc) (xs ys : List Value) (b c : Nat) (w : World) (h : Wp w b v0 v1 v2 v3 P xs) (k : Wp w c u0 u1 u2 u3 P ys) :
    Calls Tryz.prog 6 #[.agg #[.int .i64 z, .int .i64 i, v0, v1, v2, v3], .agg #[.int .i64 z, .int .i64 i, u0, u1, u2, u3]] w fun e w' => e = .returned (.bool true) ∧ Below w.heap.size w w' := by
  obtain ⟨xa0, xa1, xa2, xa3, xc0, xc1, xc2, xc3, rfl, rfl, rfl, rfl⟩ := h.shape
  obtain ⟨ya0, ya1, ya2, ya3, yc0, yc1, yc2, yc3, rfl, rfl, rfl, rfl⟩ := k.shape
  have EQ := fun w2 (bb : Below w.heap.size w w2) => eq_policyQ _ _ _ _ _ _ _ _ P b c w2 (h.keep bb).svr (h.keep bb).lanes (h.keep bb).bells (h.keep bb).plan (k.keep bb).svr (k.keep bb).lanes (k.keep bb).bells (k.keep bb).plan
  clear h k
  generalize P.own.length = n0 at *
  generalize P.lanes.length = n1 at *
  generalize P.bells.length = n2 at *
  generalize P.plan.length = n3 at *
  generalize hW : (w.alloc (.cells #[.int .i64 z, .int .i64 i, .slice xa0 n0 xc0, .slice xa1 n1 xc1, .slice xa2 n2 xc2, .slice xa3 n3 xc3] 29)).alloc (.cells #[.int .i64 z, .int .i64 i, .slice ya0 n0 yc0, .slice ya1 n1 yc1, .slice ya2 n2 yc2, .slice ya3 n3 yc3] 29) = W
  have B0 : Hid (Below w.heap.size w W) := by show Below _ _ _; rw [← hW]; exact al (al (Below.refl _ _) _) _
  have Q : Hid (Kb W w.heap.size #[.int .i64 z, .int .i64 i, .slice xa0 n0 xc0, .slice xa1 n1 xc1, .slice xa2 n2 xc2, .slice xa3 n3 xc3] 29) := by show Kb _ _ _ _; rw [← hW]; exact (Kb.new _ _ _).keep (al (Below.refl _ _) _)
  have R : Hid (Kb W (w.heap.size + 1) #[.int .i64 z, .int .i64 i, .slice ya0 n0 yc0, .slice ya1 n1 yc1, .slice ya2 n2 yc2, .slice ya3 n3 yc3] 29) := by
    have e : (w.alloc (.cells #[.int .i64 z, .int .i64 i, .slice xa0 n0 xc0, .slice xa1 n1 xc1, .slice xa2 n2 xc2, .slice xa3 n3 xc3] 29)).heap.size = w.heap.size + 1 := by simp
    have := Kb.new (w.alloc (.cells #[.int .i64 z, .int .i64 i, .slice xa0 n0 xc0, .slice xa1 n1 xc1, .slice xa2 n2 xc2, .slice xa3 n3 xc3] 29)) #[.int .i64 z, .int .i64 i, .slice ya0 n0 yc0, .slice ya1 n1 yc1, .slice ya2 n2 yc2, .slice ya3 n3 yc3] 29
    rw [e, hW] at this
    exact this
  have q0 := Q.out.cell (i := 0) rfl
  have r0 := R.out.cell (i := 0) rfl
  have q1 := Q.out.cell (i := 1) rfl
  have r1 := R.out.cell (i := 1) rfl
  have q2 := Q.out.cell (i := 2) rfl
  have r2 := R.out.cell (i := 2) rfl
  have q3 := Q.out.cell (i := 3) rfl
  have r3 := R.out.cell (i := 3) rfl
  have q4 := Q.out.cell (i := 4) rfl
  have r4 := R.out.cell (i := 4) rfl
  have q5 := Q.out.cell (i := 5) rfl
  have r5 := R.out.cell (i := 5) rfl
  go_enter Tryz.func6, Tryz.ntmps6
  go_wp2_with (go_at_call 17; refine (EQ _ B0.out).mono ?_; rintro e w2 ⟨rfl, b2⟩)
  go_ret
  exact ⟨rfl, on B0.out b2⟩
set_option maxRecDepth 20000 in
set_option maxHeartbeats 4000000 in
theorem mark_pres (z i : Int) (a0 a1 a2 a3 : Option Addr) (n0 n1 n2 n3 c0 c1 c2 c3 g0 g1 g2 g3 : Nat) (R : List (Nat × Nat)) (w : World) (h : Pg w a0 a1 a2 a3 n0 n1 n2 n3 g0 g1 g2 g3 R) :
    Calls Tryz.prog 7 #[.agg #[.int .i64 z, .int .i64 i, .slice a0 n0 c0, .slice a1 n1 c1, .slice a2 n2 c2, .slice a3 n3 c3], .int .i64 1] w fun e w' => e = .returned (.int .i64 (1 + (pN g1 g2 g3 n1 n2 n3 R).length)) ∧ Mx (pN g1 g2 g3 n1 n2 n3 R) 1 w w' := by
  have MK := mx_policy a0 a1 a2 a3 n0 n1 n2 n3 c0 c1 c2 c3 g0 g1 g2 g3 R 1 _ (h.alloc (.cells #[.int .i64 z, .int .i64 i, .slice a0 n0 c0, .slice a1 n1 c1, .slice a2 n2 c2, .slice a3 n3 c3] 29)) (by decide) (by decide)
  clear h
  generalize hW : w.alloc (.cells #[.int .i64 z, .int .i64 i, .slice a0 n0 c0, .slice a1 n1 c1, .slice a2 n2 c2, .slice a3 n3 c3] 29) = W at *
  have MW : Hid (Mx [] 1 w W) := by show Mx _ _ _ _; rw [← hW]; exact (Mx.refl _ _).alloc _
  have Q : Hid (Kb W w.heap.size #[.int .i64 z, .int .i64 i, .slice a0 n0 c0, .slice a1 n1 c1, .slice a2 n2 c2, .slice a3 n3 c3] 29) := by show Kb _ _ _ _; rw [← hW]; exact Kb.new _ _ _
  have q0 := Q.out.cell (i := 0) rfl
  have q1 := Q.out.cell (i := 1) rfl
  have q2 := Q.out.cell (i := 2) rfl
  have q3 := Q.out.cell (i := 3) rfl
  have q4 := Q.out.cell (i := 4) rfl
  have q5 := Q.out.cell (i := 5) rfl
  generalize pN g1 g2 g3 n1 n2 n3 R = L at *
  go_enter Tryz.func7, Tryz.ntmps7
  go_wp2_with (go_at_call 18; refine MK.mono ?_; rintro e w2 ⟨rfl, b2⟩)
  go_ret
  exact ⟨rfl, Mx.pre MW.out b2⟩
set_option maxRecDepth 20000 in
set_option maxHeartbeats 4000000 in
theorem held_pres (z i : Int) (a0 a1 a2 a3 : Option Addr) (n0 n1 n2 n3 c0 c1 c2 c3 g0 g1 g2 g3 : Nat) (R : List (Nat × Nat)) (w : World) (h : Ph w a0 a1 a2 a3 n0 n1 n2 n3 g0 g1 g2 g3 R) (hx : Hx (pN g1 g2 g3 n1 n2 n3 R) 1 w) :
    Calls Tryz.prog 8 #[.agg #[.int .i64 z, .int .i64 i, .slice a0 n0 c0, .slice a1 n1 c1, .slice a2 n2 c2, .slice a3 n3 c3], .int .i64 1] w fun e w' => e = .returned (.int .i64 (1 + (pN g1 g2 g3 n1 n2 n3 R).length)) ∧ Below w.heap.size w w' := by
  have BW : Below w.heap.size w (w.alloc (.cells #[.int .i64 z, .int .i64 i, .slice a0 n0 c0, .slice a1 n1 c1, .slice a2 n2 c2, .slice a3 n3 c3] 29)) := al (Below.refl _ _) _
  have HX := hx_policy a0 a1 a2 a3 n0 n1 n2 n3 c0 c1 c2 c3 g0 g1 g2 g3 R 1 _ (h.keep BW) (fun j x e => cell_keep BW (hx j x e)) (by decide) (by decide)
  clear h hx
  generalize hW : w.alloc (.cells #[.int .i64 z, .int .i64 i, .slice a0 n0 c0, .slice a1 n1 c1, .slice a2 n2 c2, .slice a3 n3 c3] 29) = W at *
  have B0 : Hid (Below w.heap.size w W) := BW
  have Q : Hid (Kb W w.heap.size #[.int .i64 z, .int .i64 i, .slice a0 n0 c0, .slice a1 n1 c1, .slice a2 n2 c2, .slice a3 n3 c3] 29) := by show Kb _ _ _ _; rw [← hW]; exact Kb.new _ _ _
  clear BW
  have q0 := Q.out.cell (i := 0) rfl
  have q1 := Q.out.cell (i := 1) rfl
  have q2 := Q.out.cell (i := 2) rfl
  have q3 := Q.out.cell (i := 3) rfl
  have q4 := Q.out.cell (i := 4) rfl
  have q5 := Q.out.cell (i := 5) rfl
  obtain ⟨l, hl⟩ : ∃ l, (pN g1 g2 g3 n1 n2 n3 R).length = l := ⟨_, rfl⟩
  rw [hl] at HX ⊢
  have hp : (0 : Int) ≤ 1 + (l : Int) := by omega
  clear hl
  go_enter Tryz.func8, Tryz.ntmps8
  go_wp2_with (go_at_call 19; refine HX.mono ?_; rintro e w2 ⟨rfl, b2⟩)
  go_ret
  exact ⟨rfl, on B0.out b2⟩
end Go.Proofs.YtcdbhhhihhdghaaGreatDoor
