/- FlushCache: the answers of both. -/
import Derived.Test.YtaajaikpkcgalaaFlu
import Derived.Deep.RegionLaw
namespace Go.Proofs.Ytaajaikpkcgalaa
open Go.RowKit
set_option linter.unusedVariables false

/-- append of one hit to a slice of the call's own, as a step of a region. -/
theorem step_quad {ops : Array Oper} {o : Oper} {act : Act} {w : World} {K : Act → World → Prop} {Q : Exit → Act → World → Prop} {E : Prop}
    (hgd : o.guard = none) (s x : Operand)
    (ho : o.op = .call { callee := .builtin .append, args := #[s, x], argTypes := #[24, 24] }) (base : Nat) (v : Value) (rs : List Qd) (hs : act.eval s = v) (hN : Qs 65 w base v rs)
    (B : Nat) (r : Qd) (hx : act.eval x = .slice (some ⟨B, 0, none⟩) 1 1) (h0 : w.cell? ⟨B, 0, none⟩ = some (.int .i64 r.tag)) (h1 : w.cell? ⟨B, 1, none⟩ = some (.int .i64 r.page)) (h2 : w.cell? ⟨B, 2, none⟩ = some (.int .i64 r.to)) (h3 : w.cell? ⟨B, 3, none⟩ = some (.int .i64 r.kinds))
    (hlen : rs.length ≤ 1000000000) (hbase : base ≤ w.heap.size)
    (h : ∀ v' w', Hid (Qs 65 w' base v' (rs ++ [r])) → w.grownBy w' v.ownBlock → K (act.put o.dst v') w') :
    if Region.wanted o (yielded ops act.tmps) = true then Oper.wp Try.prog o act w K Q else E := by
  have hw : Region.wanted o (yielded ops act.tmps) = true := by simp [Region.wanted, hgd]
  rw [if_pos hw]
  obtain ⟨i, hi, hz0, hz1, hz2⟩ := info_parts info_hit
  refine wp_append_own w s x 24 ho base 65 i _ 4 32 Try.underlying24 hi hz0 hz1 hz2 rfl (by decide) v rs.length _ hs hN ⟨B, 0, none⟩ 1 1 (flat4 [r]) hx rfl ?_ (flat4_one _) (by unfold maxLen; omega) (by omega) hbase ?_
  · intro j u hj
    rw [Addr.add_lit, Nat.zero_add]
    match j, hj with
    | 0, hj => rw [h0]; exact hj
    | 1, hj => rw [h1]; exact hj
    | 2, hj => rw [h2]; exact hj
    | 3, hj => rw [h3]; exact hj
    | j + 4, hj => simp [flat4] at hj
  · intro v' w' hown hgrow _
    refine h v' w' ?_ hgrow
    show Qs 65 w' base v' (rs ++ [r])
    unfold Qs
    rw [List.length_append, flat4_append]
    exact hown
theorem Rc.grown {w w' : World} {R : Nat} {c v : Int} {f : Bool} {s : Value} {row : Option Nat} (h : Rc w R c v f s) (hg : w.grownBy w' row) (hn : some R ≠ row) : Rc w' R c v f s := by
  have hh : ∀ i, w'.cell? ⟨R, i, none⟩ = w.cell? ⟨R, i, none⟩ := fun i => World.cell?_of_block (w := w) (hg.block R h.lt hn)
  have hf : ∀ i, w'.frozen? ⟨R, i, none⟩ = w.frozen? ⟨R, i, none⟩ := fun i => World.frozen?_of_block (w := w) (hg.block R h.lt hn)
  exact ⟨(hh 0).trans h.r0, (hh 1).trans h.r1, (hh 2).trans h.r2, (hh 3).trans h.r3, (hf 0).trans h.f0, (hf 1).trans h.f1, (hf 2).trans h.f2, (hf 3).trans h.f3⟩
theorem Rc.set3 {w : World} {R : Nat} {c v : Int} {f : Bool} {s : Value} (h : Rc w R c v f s) (s' : Value) : Rc (w.setCell ⟨R, 3, none⟩ s') R c v f s' :=
  ⟨by rw [World.cell?_setCell_other _ _ _ _ (by simp)]; exact h.r0, by rw [World.cell?_setCell_other _ _ _ _ (by simp)]; exact h.r1, by rw [World.cell?_setCell_other _ _ _ _ (by simp)]; exact h.r2, by rw [World.cell?_setCell_same _ _ _ h.r3],
   by rw [World.frozen?_setCell]; exact h.f0, by rw [World.frozen?_setCell]; exact h.f1, by rw [World.frozen?_setCell]; exact h.f2, by rw [World.frozen?_setCell]; exact h.f3⟩

/-- Code and cache of FlushCache. -/
def flC (rs : List Qd) (t : Int) : Int := if cfV rs = 0 then (if tagB t then 0 else 3) else cfV rs
def flL (rs : List Qd) (t : Int) : List Qd := if flC rs t = 0 then rs.filter (notTag t) else []
theorem flL_len (rs : List Qd) (t : Int) : (flL rs t).length ≤ 12 := by
  unfold flL
  split
  · next h =>
    by_cases hc : cfV rs = 0
    · have h1 := (cfV_apart hc).2
      exact Nat.le_trans (List.length_filter_le _ _) h1
    · unfold flC at h
      rw [if_neg hc] at h
      exact absurd h hc
  · simp

set_option maxRecDepth 100000 in
set_option maxHeartbeats 2000000 in
theorem impl_flushCache (a : Option Addr) (len cap : Nat) (rs : List Qd) (t : Int) (w : World) (h : IsQuads w a len cap rs) :
    Calls Try.prog 7 #[.slice a len cap, .int .i64 t] w fun e w' => ∃ v, e = .returned (.agg #[.int .i64 (flC rs t), .int .i64 0, .bool false, v]) ∧ Qs 65 w' w.heap.size v (flL rs t) ∧ Below w.heap.size w w' := by
  have hF := fun u (z : Below w.heap.size w u) => impl_storeOf a len cap rs u (h.stay z)
  clear h
  obtain ⟨W0, hW0⟩ : ∃ W0, w.alloc (.cells #[.int .i64 0, .int .i64 0, .bool false, .slice none 0 0] 29) = W0 := ⟨_, rfl⟩
  have b0 : Below w.heap.size w W0 := by rw [← hW0]; exact al (Below.refl _ _) _
  have HR0 : Hid (Rc W0 w.heap.size 0 0 false (.slice none 0 0)) := by rw [← hW0]; exact Rc.made w
  have HW0 : Hid (w.alloc (.cells #[.int .i64 0, .int .i64 0, .bool false, .slice none 0 0] 29) = W0) := hW0
  have B0 : Hid (Below w.heap.size w W0) := b0
  have HF := hF W0 b0
  clear hW0 b0 hF
  by_cases hc : cfV rs = 0
  case neg =>
    have e1 : flC rs t = cfV rs := if_neg hc
    have e2 : flL rs t = [] := if_neg (by rw [e1]; exact hc)
    rw [e1, e2]
    have g : (cfV rs != 0) = true := by simpa using hc
    clear e1 e2 hc
    generalize cfV rs = c at *
    go_enter Try.func7, Try.ntmps7
    go_wp2_with fail
    rw [HW0.out]
    refine HF.mono ?_
    rintro e w1 ⟨v, rfl, b1, _, _⟩
    obtain ⟨r0, r1, r2, r3, f0, f1, f2, f3⟩ := HR0.out.keep b1
    have B1 : Hid (Below w.heap.size w w1) := on B0.out b1
    clear b1 HF
    go_wp2_with fail
    exact bodyPost_ret (v := .agg #[.int .i64 c, .int .i64 0, .bool false, .slice none 0 0]) (by simp [results, Try.results7, go_sem, r0, r1, r2, r3]) rfl ⟨_, rfl, Qs.nil _ _ _, (((B1.out.setCell (by simp) _).setCell (by simp) _).setCell (by simp) _).setCell (by simp) _⟩
  have HC : Hid (cfV rs = 0) := hc
  have e1 : flC rs t = if tagB t then 0 else 3 := if_pos hc
  cases hq : tagB t
  · have e2 : flC rs t = 3 := by rw [e1, hq]; rfl
    have e3 : flL rs t = [] := if_neg (by rw [e2]; decide)
    rw [e2, e3]
    clear e1 e2 e3 hc
    go_enter Try.func7, Try.ntmps7
    go_wp2_with fail
    rw [HW0.out]
    refine HF.mono ?_
    rintro e w1 ⟨v, rfl, b1, _, _⟩
    rw [HC.out]
    obtain ⟨r0, r1, r2, r3, f0, f1, f2, f3⟩ := HR0.out.keep b1
    have B1 : Hid (Below w.heap.size w w1) := on B0.out b1
    clear b1 HF
    go_wp2_with (go_at_call 27; refine (impl_isTag _ _).mono ?_; rintro e w2 ⟨rfl, rfl⟩; rw [hq])
    exact bodyPost_ret (v := .agg #[.int .i64 3, .int .i64 0, .bool false, .slice none 0 0]) (by simp [results, Try.results7, go_sem, r0, r1, r2, r3]) rfl ⟨_, rfl, Qs.nil _ _ _, (((B1.out.setCell (by simp) _).setCell (by simp) _).setCell (by simp) _).setCell (by simp) _⟩
  have e2 : flC rs t = 0 := by rw [e1, hq]; rfl
  have e3 : flL rs t = rs.filter (notTag t) := if_pos e2
  rw [e2, e3]
  have wt : wfI t := by simp [tagB] at hq; exact wf_small hq.1 (by omega)
  have hFl := fun u base sb mb (S : St u base sb mb rs.length (trn rs) rs.length) => impl_flush t (trn rs) rs.length base sb mb rs.length u S wt
  have hLs := fun u base sb mb (S : St u base sb mb rs.length (flJ (trn rs) t 8) rs.length) (h12 : (flJ (trn rs) t 8).length ≤ 12) => impl_list base sb mb rs.length (flJ (trn rs) t 8) rs.length u S h12 ((trn_rise rs).filter _)
  have HFl : Hid (∀ u base sb mb, St u base sb mb rs.length (trn rs) rs.length → Calls Try.prog 28 #[.pointer (some ⟨sb, 0, none⟩), .int .i64 t] u fun e w' => e = .returned (.tuple #[]) ∧ St w' base sb mb rs.length (flJ (trn rs) t 8) rs.length ∧ Below base u w') := hFl
  have HLs : Hid (∀ u base sb mb, St u base sb mb rs.length (flJ (trn rs) t 8) rs.length → (flJ (trn rs) t 8).length ≤ 12 → Calls Try.prog 26 #[.pointer (some ⟨sb, 0, none⟩)] u fun e w' => ∃ v, e = .returned v ∧ Qs 65 w' u.heap.size v (hitsOf (flJ (trn rs) t 8)) ∧ Below u.heap.size u w') := hLs
  clear e1 e2 e3 hc hFl hLs wt
  go_enter Try.func7, Try.ntmps7
  go_wp2_with fail
  rw [HW0.out]
  refine HF.mono ?_
  rintro e w1 ⟨v, rfl, b1, _, hM⟩
  obtain ⟨sb, mb, rfl, h12, hS⟩ := hM HC.out
  rw [HC.out]
  have HR1 : Hid (Rc w1 w.heap.size 0 0 false (.slice none 0 0)) := HR0.out.keep b1
  have HS : Hid (St w1 W0.heap.size sb mb rs.length (trn rs) rs.length) := hS
  have B1 : Hid (Below W0.heap.size W0 w1) := b1
  have HH : Hid (hitsOf (flJ (trn rs) t 8) = rs.filter (notTag t) ∧ (flJ (trn rs) t 8).length ≤ 12) := ⟨by rw [flJ_hits _ _ hS.hm.keys, trn_hits], Nat.le_trans (List.length_filter_le _ _) (by rw [trn_length]; exact h12)⟩
  have HF2 := HFl.out w1 W0.heap.size sb mb hS
  clear b1 HF hM hS h12
  go_wp2_with (go_at_call 27; refine (impl_isTag _ _).mono ?_; rintro e w2 ⟨rfl, rfl⟩; rw [hq])
  refine HF2.mono ?_
  rintro e w3 ⟨rfl, s3, b3⟩
  have R3 : Hid (Rc w3 w.heap.size 0 0 false (.slice none 0 0)) := HR1.out.below b3 HR0.out.lt
  have B3 : Hid (Below W0.heap.size W0 w3) := B1.out.trans b3
  have HF3 := HLs.out w3 W0.heap.size sb mb s3 HH.out.2
  clear b3 s3 HF2
  go_wp2_with fail
  refine HF3.mono ?_
  rintro e w4 ⟨v4, rfl, n4, b4⟩
  obtain ⟨r0, r1, r2, r3, f0, f1, f2, f3⟩ := R3.out.keep b4
  rw [HH.out.1] at n4
  have N4 : Hid (Qs 65 w4 w3.heap.size v4 (rs.filter (notTag t))) := n4
  have B4 : Hid (Below w.heap.size w w4) := on B0.out (on B3.out b4)
  have HSZ : Hid (w.heap.size < w3.heap.size) := R3.out.lt
  obtain ⟨qa, qc, rfl, _, _, _⟩ := n4.shape
  clear b4 HF3 n4
  go_wp2_with fail
  refine bodyPost_ret (v := .agg #[.int .i64 0, .int .i64 0, .bool false, .slice qa (rs.filter (notTag t)).length qc]) (by simp [results, Try.results7, go_sem, r0, r1, r2, r3]) rfl ⟨_, rfl, ?_, (((B4.out.setCell (by simp) _).setCell (by simp) _).setCell (by simp) _).setCell (by simp) _⟩
  have hnb : (Value.slice qa (rs.filter (notTag t)).length qc).ownBlock ≠ some w.heap.size := fun e => qown_not N4.out w.heap.size (.inl HSZ.out) e.symm
  exact (((((N4.out.put _ _ hnb).put _ _ hnb).put _ _ hnb).put _ _ hnb).mono (by have := HSZ.out; omega))

end Go.Proofs.Ytaajaikpkcgalaa
