/- Texts of this seat, joined. -/
import Derived.Deep.RegionLaw
import Derived.Test.YtgjpfmcokcjegaaQ23
namespace Go.Proofs.Ytgjpfmcokcjegaa
open Go.RowKit
set_option linter.unusedVariables false
theorem step_pair {ops : Array Oper} {o : Oper} {act : Act} {w : World} {K : Act → World → Prop} {Q : Exit → Act → World → Prop} {E : Prop} (t e : TypeId) (he : Try.prog.underlying t = some (.slice e)) (hinfo : (Try.prog.info? e).map (fun i => (i.zero, i.size, i.bytes)) = some (some (.agg #[.int .i64 0, .int .i64 0]), 2, 16))
    (hgd : o.guard = none) (s x : Operand)
    (ho : o.op = .call { callee := .builtin .append, args := #[s, x], argTypes := #[t, t] }) (base : Nat) (v : Value) (rs : List (Int × Int)) (hs : act.eval s = v) (hN : Prs e w base v rs)
    (B : Nat) (a b : Int) (hx : act.eval x = .slice (some ⟨B, 0, none⟩) 1 1) (h0 : w.cell? ⟨B, 0, none⟩ = some (.int .i64 a)) (h1 : w.cell? ⟨B, 1, none⟩ = some (.int .i64 b))
    (hlen : rs.length ≤ 1000000000) (hbase : base ≤ w.heap.size)
    (h : ∀ v' w', Hid (Prs e w' base v' (rs ++ [(a, b)])) → w.grownBy w' v.ownBlock → K (act.put o.dst v') w') :
    if Region.wanted o (yielded ops act.tmps) = true then Oper.wp Try.prog o act w K Q else E := by
  have hw : Region.wanted o (yielded ops act.tmps) = true := by simp [Region.wanted, hgd]
  rw [if_pos hw]
  obtain ⟨i, hi, hz0, hz1, hz2⟩ := info_parts hinfo
  refine wp_append_own w s x t ho base e i _ 2 16 he hi hz0 hz1 hz2 rfl (by decide) v rs.length _ hs hN ⟨B, 0, none⟩ 1 1 (flat [(a, b)]) hx rfl ?_ (flat_one _) (by unfold maxLen; omega) (by omega) hbase ?_
  · intro j u hj
    rw [Addr.add_lit, Nat.zero_add]
    match j, hj with
    | 0, hj => rw [h0]; exact hj
    | 1, hj => rw [h1]; exact hj
    | j + 2, hj => simp [flat] at hj
  · intro v' w' hown hgrow _
    refine h v' w' ?_ hgrow
    show Prs e w' base v' (rs ++ [(a, b)])
    unfold Prs
    rw [List.length_append, flat_append]
    exact hown
theorem cell_new2 {w : World} {a : Obj} {cs : Array Value} {t : TypeId} {i : Nat} {v : Value} (h : cs[i]? = some v) : ((w.alloc a).alloc (.cells cs t)).cell? ⟨w.heap.size + 1, i, none⟩ = some v := by
  have := cell_new (w := w.alloc a) (cs := cs) (t := t) (i := i) h
  rwa [World.size_alloc] at this
theorem frozen_grown {w w' : World} {row : Option Nat} {p : Addr} (g : w.grownBy w' row) (hp : p.block < w.heap.size) (hne : some p.block ≠ row) : w'.frozen? p = w.frozen? p :=
  World.frozen?_of_block (w := w) (g.block p.block hp hne)
def fromC (zs : List Int) : Int := if zs.length = 8 then (if zs.all isW then 0 else 3) else 1
def fromP (zs : List Int) : List (Int × Int) := if zs.length = 8 then (if zs.all isW then zs.map entP else []) else []
theorem from_take (zs : List Int) (j : Nat) (h : j < zs.length) : (zs.take (j + 1)).map entP = (zs.take j).map entP ++ [((entP (zs.getD j 0)).1, (entP (zs.getD j 0)).2)] := by
  rw [List.take_succ_eq_append_getElem h, List.map_append, List.getD, List.getElem?_eq_getElem h]
  rfl
def kindB (k : Int) : Bool := decide (k = 1 ∨ k = 2 ∨ k = 4)
def kindV (k : Int) : Int := if k = 1 then 7 else if k = 2 then 8 else if k = 4 then 9 else 0
theorem kind_cases {k : Int} (h : kindB k = true) : k = 1 ∨ k = 2 ∨ k = 4 := of_decide_eq_true h
theorem kind_not {k : Int} (h : kindB k = false) : (k == 1) = false ∧ (k == 2) = false ∧ (k == 4) = false := by
  have := of_decide_eq_false h
  simp
  omega
theorem band_zero (k : Int) : bits BinOp.and .i64 0 k = 0 := by
  show IntKind.i64.wrap ((BitVec.ofInt 64 0 &&& BitVec.ofInt 64 k).toNat : Int) = 0
  rw [BitVec.toNat_and]
  simp [IntKind.wrap_i64]
theorem impl_kind (k : Int) (w : World) : Calls Try.prog 17 #[.int .i64 k] w fun e w' => e = .returned (.tuple #[.int .i64 (kindV k), .bool (kindB k)]) ∧ w' = w := by
  cases h : kindB k
  · obtain ⟨h1, h2, h4⟩ := kind_not h
    have hv : kindV k = 0 := by simp at h1 h2 h4; simp [kindV, h1, h2, h4]
    rw [hv]
    clear hv h
    go_enter Try.func17, Try.ntmps17
    go_wp2_with fail
    go_ret2
    exact ⟨rfl, rfl⟩
  · rcases kind_cases h with rfl | rfl | rfl
    all_goals
      go_enter Try.func17, Try.ntmps17
      go_wp2_with fail
      go_ret2
      exact ⟨rfl, rfl⟩
theorem spec_kind (k : Int) (w : World) : Calls Try.prog 23 #[.int .i64 k] w fun e w' => e = .returned (.bool (kindB k)) ∧ w' = w := by
  cases h : kindB k
  · obtain ⟨h1, h2, h4⟩ := kind_not h
    clear h
    go_enter Try.func23, Try.ntmps23
    go_wp2_with fail
    go_ret
    exact ⟨rfl, rfl⟩
  · rcases kind_cases h with rfl | rfl | rfl
    all_goals
      go_enter Try.func23, Try.ntmps23
      go_wp2_with fail
      go_ret
      exact ⟨rfl, rfl⟩
theorem spec_kindV (k : Int) (w : World) (h : kindB k = true) : Calls Try.prog 51 #[.int .i64 k] w fun e w' => e = .returned (.int .i64 (kindV k)) ∧ w' = w := by
  rcases kind_cases h with rfl | rfl | rfl
  all_goals
    go_enter Try.func51, Try.ntmps51
    go_wp2_with fail
    go_ret
    exact ⟨rfl, rfl⟩
def goesB (rs : List (Int × Int)) (at_ k : Int) : Bool := decide (0 ≤ at_) && decide (at_ ≤ 63) && !(bits BinOp.and .i64 (rs.getD (at_ / 8).toNat (0, 0)).2 k == 0)
def goesTo (rs : List (Int × Int)) (at_ : Int) : Int := (rs.getD (at_ / 8).toNat (0, 0)).1 * 8 + at_ % 8
def wkC (rs : List (Int × Int)) (at_ k : Int) : Int := if kindB k then (if goesB rs at_ k then 0 else kindV k) else 3
def wkV (rs : List (Int × Int)) (at_ k : Int) : Int := if kindB k then (if goesB rs at_ k then goesTo rs at_ else 0) else 0
theorem okTo_at {rs : List (Int × Int)} {t : Int} (h : okTo t rs 8) {x : Int} (h0 : 0 ≤ x) (h1 : x ≤ 63) : pgC t (rs.getD (x / 8).toNat (0, 0)).1 (rs.getD (x / 8).toNat (0, 0)).2 = 0 := h _ (by omega)
theorem goes_in {rs : List (Int × Int)} {t : Int} (h : okTo t rs 8) {x k : Int} (hg : goesB rs x k = true) : 0 ≤ x ∧ x ≤ 63 ∧ 0 ≤ (rs.getD (x / 8).toNat (0, 0)).1 ∧ (rs.getD (x / 8).toNat (0, 0)).1 ≤ t - 1 := by
  unfold goesB at hg
  simp only [Bool.and_eq_true, decide_eq_true_eq, Bool.not_eq_true', beq_eq_false_iff_ne] at hg
  obtain ⟨⟨h0, h1⟩, h2⟩ := hg
  have hz := pgC_zero (okTo_at h h0 h1)
  refine ⟨h0, h1, ?_, hz.2.1⟩
  apply Classical.byContradiction
  intro hn
  have : (rs.getD (x / 8).toNat (0, 0)).2 = 0 := hz.2.2.2.2 (by omega)
  rw [this, band_zero] at h2
  exact h2 rfl
def atB (x : Int) : Bool := decide (0 ≤ x) && decide (x ≤ 63)
def atN (x : Int) : Int := if atB x then x / 8 else 0
theorem impl_pageOf (x : Int) (w : World) : Calls Try.prog 53 #[.int .i64 x] w fun e w' => e = .returned (.tuple #[.int .i64 (atN x), .bool (atB x)]) ∧ w' = w := by
  by_cases h1 : x < 0
  · have e1 : atB x = false := by simp [atB]; omega
    rw [atN, e1]
    clear e1
    go_enter Try.func53, Try.ntmps53
    go_wp2_with fail
    go_ret2
    exact ⟨rfl, rfl⟩
  by_cases h2 : 64 ≤ x
  · have e1 : atB x = false := by simp [atB]; omega
    rw [atN, e1]
    clear e1
    go_enter Try.func53, Try.ntmps53
    go_wp2_with fail
    go_ret2
    exact ⟨rfl, rfl⟩
  have e1 : atB x = true := by simp [atB]; omega
  have h3 : 0 ≤ x := by omega
  have h4 : x < 64 := by omega
  rw [atN, e1, if_pos rfl]
  clear e1 h1 h2
  go_enter Try.func53, Try.ntmps53
  go_wp2_with fail
  go_ret2
  exact ⟨rfl, rfl⟩
def wpgC (q k : Int) : Int := if kindB k then (if bits BinOp.and .i64 q k == 0 then kindV k else 0) else 3
def wpgV (p q x k : Int) : Int := if kindB k then (if bits BinOp.and .i64 q k == 0 then 0 else p * 8 + x % 8) else 0
set_option maxHeartbeats 1000000 in
theorem impl_walkPage (p q x k : Int) (w : World) (h : (bits BinOp.and .i64 q k == 0) = false → 0 ≤ p ∧ p ≤ 23 ∧ 0 ≤ x ∧ x ≤ 63) :
    Calls Try.prog 54 #[.agg #[.int .i64 p, .int .i64 q], .int .i64 x, .int .i64 k] w fun e w' => e = .returned (.agg #[.int .i64 (wpgC q k), .int .i64 (wpgV p q x k)]) ∧ Below w.heap.size w w' := by
  cases hk : kindB k
  · have e1 : wpgC q k = 3 := by simp [wpgC, hk]
    have e2 : wpgV p q x k = 0 := by simp [wpgV, hk]
    rw [e1, e2]
    clear e1 e2 h
    go_enter Try.func54, Try.ntmps54
    go_wp2_with (go_at_call 17; refine (impl_kind _ _).mono ?_; rintro e w1 ⟨rfl, rfl⟩; rw [hk])
    exact bodyPost_ret (v := .agg #[.int .i64 3, .int .i64 0]) (by simp [results, Try.results54, go_sem]) rfl ⟨rfl, al (al (Below.refl _ _) _) _⟩
  generalize hkv : kindV k = kv at *
  have HKV : Hid (kindV k = kv) := hkv
  cases hq : (bits BinOp.and .i64 q k == 0)
  · obtain ⟨p1, p2, h3, h4⟩ := h hq
    have e1 : wpgC q k = 0 := by unfold wpgC; rw [hk, hq]; rfl
    have e2 : wpgV p q x k = p * 8 + x % 8 := by unfold wpgV; rw [hk, hq]; rfl
    rw [e1, e2]
    clear e1 e2 hkv h
    go_enter Try.func54, Try.ntmps54
    go_wp2_with (go_at_call 17; refine (impl_kind _ _).mono ?_; rintro e w1 ⟨rfl, rfl⟩; rw [hk, HKV.out])
    exact bodyPost_ret (v := .agg #[.int .i64 0, .int .i64 (p * 8 + x % 8)]) (by simp [results, Try.results54, go_sem]) rfl ⟨rfl, al (al (Below.refl _ _) _) _⟩
  · have e1 : wpgC q k = kv := by unfold wpgC; rw [hk, hq, hkv]; rfl
    have e2 : wpgV p q x k = 0 := by unfold wpgV; rw [hk, hq]; rfl
    rw [e1, e2]
    clear e1 e2 hkv h
    go_enter Try.func54, Try.ntmps54
    go_wp2_with (go_at_call 17; refine (impl_kind _ _).mono ?_; rintro e w1 ⟨rfl, rfl⟩; rw [hk, HKV.out])
    exact bodyPost_ret (v := .agg #[.int .i64 kv, .int .i64 0]) (by simp [results, Try.results54, go_sem]) rfl ⟨rfl, al (al (Below.refl _ _) _) _⟩
set_option maxHeartbeats 1000000 in
theorem impl_walk (v : Value) (rs : List (Int × Int)) (x k : Int) (b : Nat) (w : World) (h : Prs 73 w b v rs) (hl : rs.length = 8) (ho : okTo 24 rs 8) :
    Calls Try.prog 27 #[v, .int .i64 x, .int .i64 k] w fun e w' => e = .returned (.agg #[.int .i64 (wkC rs x k), .int .i64 (wkV rs x k)]) ∧ Below w.heap.size w w' := by
  obtain ⟨a, cap, rfl, l1, l2, hg⟩ := h.shape
  obtain ⟨g, rfl⟩ := hg (by omega)
  rw [hl]
  have HZ : Hid (Prs 73 w b (.slice (some ⟨g, 0, none⟩) 8 cap) rs) := by show Prs 73 _ _ _ _; rw [← hl]; exact h
  have HL : Hid (rs.length = 8) := hl
  clear l1 l2 hg h hl
  cases hb : atB x
  · have hgo : goesB rs x k = false := by unfold goesB; unfold atB at hb; rw [hb]; rfl
    have e1 : wkC rs x k = wpgC 0 k := by unfold wkC wpgC; rw [hgo, band_zero]; rfl
    have e2 : wkV rs x k = wpgV (-1) 0 x k := by unfold wkV wpgV; rw [hgo, band_zero]; rfl
    rw [e1, e2]
    have hW := fun u => impl_walkPage (-1) 0 x k u (fun hh => by rw [band_zero] at hh; exact absurd hh (by decide))
    generalize wpgC 0 k = c at *
    generalize wpgV (-1) 0 x k = y at *
    clear e1 e2 hgo
    go_enter Try.func27, Try.ntmps27
    go_wp2_with (first | (go_at_call 53; refine (impl_pageOf _ _).mono ?_; rintro e w1 ⟨rfl, rfl⟩; rw [hb]) | (go_at_call 54; refine (hW _).mono ?_; rintro e w1 ⟨rfl, b1⟩; have k0 := cell_keep b1 (cell_new (i := 0) rfl); have k1 := cell_keep b1 (cell_new (i := 1) rfl); have z0 : w1.frozen? ⟨w.heap.size, 0, none⟩ = false := (by rw [(bcell b1).2 _ _ (by simp)]; simp); have z1 : w1.frozen? ⟨w.heap.size, 1, none⟩ = false := (by rw [(bcell b1).2 _ _ (by simp)]; simp); have B1 : Hid (Below w.heap.size w w1) := on (al (Below.refl _ _) _) b1; clear b1))
    exact bodyPost_ret (v := .agg #[.int .i64 c, .int .i64 y]) (by simp [results, Try.results27, go_sem, k0, k1]) rfl ⟨rfl, (B1.out.setCell (by simp) _).setCell (by simp) _⟩
  have hb2 := hb
  simp only [atB, Bool.and_eq_true, decide_eq_true_eq] at hb2
  obtain ⟨h3, h4⟩ := hb2
  have hz := pgC_zero (okTo_at ho h3 h4)
  have c1 := (HZ.out.cell HL.out.symm (x / 8).toNat (by omega)).1
  have c2 := (HZ.out.cell HL.out.symm (x / 8).toNat (by omega)).2
  have gb : g < w.heap.size := block_of_cell c1
  have q0 : 0 ≤ x / 8 := by omega
  have q1 : x / 8 < 8 := by omega
  have hgo : goesB rs x k = !(bits BinOp.and .i64 (rs.getD (x / 8).toNat (0, 0)).2 k == 0) := by unfold goesB; simp [h3, h4]
  have e1 : wkC rs x k = wpgC (rs.getD (x / 8).toNat (0, 0)).2 k := by
    unfold wkC wpgC; rw [hgo]
    cases kindB k <;> cases (bits BinOp.and .i64 (rs.getD (x / 8).toNat (0, 0)).2 k == 0) <;> rfl
  have e2 : wkV rs x k = wpgV (rs.getD (x / 8).toNat (0, 0)).1 (rs.getD (x / 8).toNat (0, 0)).2 x k := by
    unfold wkV wpgV goesTo; rw [hgo]
    cases kindB k <;> cases (bits BinOp.and .i64 (rs.getD (x / 8).toNat (0, 0)).2 k == 0) <;> rfl
  rw [e1, e2]
  have en : atN x = x / 8 := by rw [atN, hb]; rfl
  clear e1 e2 hgo
  generalize (rs.getD (x / 8).toNat (0, 0)).1 = p at *
  generalize (rs.getD (x / 8).toNat (0, 0)).2 = q at *
  obtain ⟨p1, p2, p3, p4, p5⟩ := hz
  have hW := fun u => impl_walkPage p q x k u (fun hh => ⟨(by
    apply Classical.byContradiction
    intro hn
    rw [p5 (by omega), band_zero] at hh
    exact absurd hh (by decide)), by omega, h3, h4⟩)
  generalize wpgC q k = c at *
  generalize wpgV p q x k = y at *
  clear p1 p2 p3 p4 p5
  go_enter Try.func27, Try.ntmps27
  go_wp2_with (first | (go_at_call 53; refine (impl_pageOf _ _).mono ?_; rintro e w1 ⟨rfl, rfl⟩; rw [hb, en]) | (go_at_call 54; refine (hW _).mono ?_; rintro e w1 ⟨rfl, b1⟩; have k0 := cell_keep b1 (cell_new (i := 0) rfl); have k1 := cell_keep b1 (cell_new (i := 1) rfl); have z0 : w1.frozen? ⟨w.heap.size, 0, none⟩ = false := (by rw [(bcell b1).2 _ _ (by simp)]; simp); have z1 : w1.frozen? ⟨w.heap.size, 1, none⟩ = false := (by rw [(bcell b1).2 _ _ (by simp)]; simp); have B1 : Hid (Below w.heap.size w w1) := on (al (Below.refl _ _) _) b1; clear b1))
  exact bodyPost_ret (v := .agg #[.int .i64 c, .int .i64 y]) (by simp [results, Try.results27, go_sem, k0, k1]) rfl ⟨rfl, (B1.out.setCell (by simp) _).setCell (by simp) _⟩
end Go.Proofs.Ytgjpfmcokcjegaa
