/- FlushCache: the answers of both. -/
import Derived.Test.YtighhjkokjpgfaaFlu
import Derived.Deep.RegionLaw
namespace Go.Proofs.Ytighhjkokjpgfaa
open Go.RowKit
set_option linter.unusedVariables false

/-- append of one hit to a slice of the call's own, as a step of a region. -/
theorem step_quad {ops : Array Oper} {o : Oper} {act : Act} {w : World} {K : Act → World → Prop} {Q : Exit → Act → World → Prop} {E : Prop}
    (hgd : o.guard = none) (s x : Operand)
    (ho : o.op = .call { callee := .builtin .append, args := #[s, x], argTypes := #[35, 35] }) (base : Nat) (v : Value) (rs : List Qd) (hs : act.eval s = v) (hN : Qs 45 w base v rs)
    (B : Nat) (r : Qd) (hx : act.eval x = .slice (some ⟨B, 0, none⟩) 1 1) (h0 : w.cell? ⟨B, 0, none⟩ = some (.int .i64 r.tag)) (h1 : w.cell? ⟨B, 1, none⟩ = some (.int .i64 r.page)) (h2 : w.cell? ⟨B, 2, none⟩ = some (.int .i64 r.to)) (h3 : w.cell? ⟨B, 3, none⟩ = some (.int .i64 r.kinds))
    (hlen : rs.length ≤ 1000000000) (hbase : base ≤ w.heap.size)
    (h : ∀ v' w', Hid (Qs 45 w' base v' (rs ++ [r])) → w.grownBy w' v.ownBlock → K (act.put o.dst v') w') :
    if Region.wanted o (yielded ops act.tmps) = true then Oper.wp Try.prog o act w K Q else E := by
  have hw : Region.wanted o (yielded ops act.tmps) = true := by simp [Region.wanted, hgd]
  rw [if_pos hw]
  obtain ⟨i, hi, hz0, hz1, hz2⟩ := info_parts info_hit
  refine wp_append_own w s x 35 ho base 45 i _ 4 32 Try.underlying35 hi hz0 hz1 hz2 rfl (by decide) v rs.length _ hs hN ⟨B, 0, none⟩ 1 1 (flat4 [r]) hx rfl ?_ (flat4_one _) (by unfold maxLen; omega) (by omega) hbase ?_
  · intro j u hj
    rw [Addr.add_lit, Nat.zero_add]
    match j, hj with
    | 0, hj => rw [h0]; exact hj
    | 1, hj => rw [h1]; exact hj
    | 2, hj => rw [h2]; exact hj
    | 3, hj => rw [h3]; exact hj
    | j + 4, hj => simp [flat4] at hj
  · intro v' w' hown hgrow _
    refine h v' w' ?_ hgrow
    show Qs 45 w' base v' (rs ++ [r])
    unfold Qs
    rw [List.length_append, flat4_append]
    exact hown
theorem Rc.grown {w w' : World} {R : Nat} {c v : Int} {f : Bool} {s : Value} {row : Option Nat} (h : Rc w R c v f s) (hg : w.grownBy w' row) (hn : some R ≠ row) : Rc w' R c v f s := by
  have hh : ∀ i, w'.cell? ⟨R, i, none⟩ = w.cell? ⟨R, i, none⟩ := fun i => World.cell?_of_block (w := w) (hg.block R h.lt hn)
  have hf : ∀ i, w'.frozen? ⟨R, i, none⟩ = w.frozen? ⟨R, i, none⟩ := fun i => World.frozen?_of_block (w := w) (hg.block R h.lt hn)
  exact ⟨(hh 0).trans h.r0, (hh 1).trans h.r1, (hh 2).trans h.r2, (hh 3).trans h.r3, (hf 0).trans h.f0, (hf 1).trans h.f1, (hf 2).trans h.f2, (hf 3).trans h.f3⟩
theorem Rc.set3 {w : World} {R : Nat} {c v : Int} {f : Bool} {s : Value} (h : Rc w R c v f s) (s' : Value) : Rc (w.setCell ⟨R, 3, none⟩ s') R c v f s' :=
  ⟨by rw [World.cell?_setCell_other _ _ _ _ (by simp)]; exact h.r0, by rw [World.cell?_setCell_other _ _ _ _ (by simp)]; exact h.r1, by rw [World.cell?_setCell_other _ _ _ _ (by simp)]; exact h.r2, by rw [World.cell?_setCell_same _ _ _ h.r3],
   by rw [World.frozen?_setCell]; exact h.f0, by rw [World.frozen?_setCell]; exact h.f1, by rw [World.frozen?_setCell]; exact h.f2, by rw [World.frozen?_setCell]; exact h.f3⟩

/-- Code and cache of FlushCache. -/
def flC (rs : List Qd) (t : Int) : Int := if cfV rs = 0 then (if tagB t then 0 else 3) else cfV rs
def flL (rs : List Qd) (t : Int) : List Qd := if flC rs t = 0 then rs.filter (notTag t) else []
theorem flL_len (rs : List Qd) (t : Int) : (flL rs t).length ≤ 12 := by
  unfold flL
  split
  · next h =>
    by_cases hc : cfV rs = 0
    · have h1 := (cfV_apart hc).2
      exact Nat.le_trans (List.length_filter_le _ _) h1
    · unfold flC at h
      rw [if_neg hc] at h
      exact absurd h hc
  · simp

set_option maxRecDepth 100000 in
set_option maxHeartbeats 2000000 in
theorem impl_flushCache (a : Option Addr) (len cap : Nat) (rs : List Qd) (t : Int) (w : World) (h : IsQuads w a len cap rs) :
    Calls Try.prog 24 #[.slice a len cap, .int .i64 t] w fun e w' => ∃ v, e = .returned (.agg #[.int .i64 (flC rs t), .int .i64 0, .bool false, v]) ∧ Qs 45 w' w.heap.size v (flL rs t) ∧ Below w.heap.size w w' := by
  have hF := fun u (z : Below w.heap.size w u) => impl_storeOf a len cap rs u (h.stay z)
  clear h
  obtain ⟨W0, hW0⟩ : ∃ W0, w.alloc (.cells #[.int .i64 0, .int .i64 0, .bool false, .slice none 0 0] 39) = W0 := ⟨_, rfl⟩
  have b0 : Below w.heap.size w W0 := by rw [← hW0]; exact al (Below.refl _ _) _
  have HR0 : Hid (Rc W0 w.heap.size 0 0 false (.slice none 0 0)) := by rw [← hW0]; exact Rc.made w
  have HW0 : Hid (w.alloc (.cells #[.int .i64 0, .int .i64 0, .bool false, .slice none 0 0] 39) = W0) := hW0
  have B0 : Hid (Below w.heap.size w W0) := b0
  have HF := hF W0 b0
  clear hW0 b0 hF
  by_cases hc : cfV rs = 0
  case neg =>
    have e1 : flC rs t = cfV rs := if_neg hc
    have e2 : flL rs t = [] := if_neg (by rw [e1]; exact hc)
    rw [e1, e2]
    have g : (cfV rs != 0) = true := by simpa using hc
    clear e1 e2 hc
    generalize cfV rs = c at *
    go_enter Try.func24, Try.ntmps24
    go_wp2_with fail
    rw [HW0.out]
    refine HF.mono ?_
    rintro e w1 ⟨v, rfl, b1, _, _⟩
    obtain ⟨r0, r1, r2, r3, f0, f1, f2, f3⟩ := HR0.out.keep b1
    have B1 : Hid (Below w.heap.size w w1) := on B0.out b1
    clear b1 HF
    go_wp2_with fail
    exact bodyPost_ret (v := .agg #[.int .i64 c, .int .i64 0, .bool false, .slice none 0 0]) (by simp [results, Try.results24, go_sem, r0, r1, r2, r3]) rfl ⟨_, rfl, Qs.nil _ _ _, (((B1.out.setCell (by simp) _).setCell (by simp) _).setCell (by simp) _).setCell (by simp) _⟩
  have HC : Hid (cfV rs = 0) := hc
  have e1 : flC rs t = if tagB t then 0 else 3 := if_pos hc
  cases hq : tagB t
  · have e2 : flC rs t = 3 := by rw [e1, hq]; rfl
    have e3 : flL rs t = [] := if_neg (by rw [e2]; decide)
    rw [e2, e3]
    clear e1 e2 e3 hc
    go_enter Try.func24, Try.ntmps24
    go_wp2_with fail
    rw [HW0.out]
    refine HF.mono ?_
    rintro e w1 ⟨v, rfl, b1, _, _⟩
    rw [HC.out]
    obtain ⟨r0, r1, r2, r3, f0, f1, f2, f3⟩ := HR0.out.keep b1
    have B1 : Hid (Below w.heap.size w w1) := on B0.out b1
    clear b1 HF
    go_wp2_with (go_at_call 79; refine (impl_isTag _ _).mono ?_; rintro e w2 ⟨rfl, rfl⟩; rw [hq])
    exact bodyPost_ret (v := .agg #[.int .i64 3, .int .i64 0, .bool false, .slice none 0 0]) (by simp [results, Try.results24, go_sem, r0, r1, r2, r3]) rfl ⟨_, rfl, Qs.nil _ _ _, (((B1.out.setCell (by simp) _).setCell (by simp) _).setCell (by simp) _).setCell (by simp) _⟩
  have e2 : flC rs t = 0 := by rw [e1, hq]; rfl
  have e3 : flL rs t = rs.filter (notTag t) := if_pos e2
  rw [e2, e3]
  have wt : wfI t := by simp [tagB] at hq; exact wf_small hq.1 (by omega)
  have hFl := fun u base sb mb (S : St u base sb mb rs.length (trn rs) rs.length) => impl_flush t (trn rs) rs.length base sb mb rs.length u S wt
  have hLs := fun u base sb mb (S : St u base sb mb rs.length (flJ (trn rs) t 8) rs.length) (h12 : (flJ (trn rs) t 8).length ≤ 12) => impl_list base sb mb rs.length (flJ (trn rs) t 8) rs.length u S h12 ((trn_rise rs).filter _)
  have HFl : Hid (∀ u base sb mb, St u base sb mb rs.length (trn rs) rs.length → Calls Try.prog 80 #[.pointer (some ⟨sb, 0, none⟩), .int .i64 t] u fun e w' => e = .returned (.tuple #[]) ∧ St w' base sb mb rs.length (flJ (trn rs) t 8) rs.length ∧ Below base u w') := hFl
  have HLs : Hid (∀ u base sb mb, St u base sb mb rs.length (flJ (trn rs) t 8) rs.length → (flJ (trn rs) t 8).length ≤ 12 → Calls Try.prog 78 #[.pointer (some ⟨sb, 0, none⟩)] u fun e w' => ∃ v, e = .returned v ∧ Qs 45 w' u.heap.size v (hitsOf (flJ (trn rs) t 8)) ∧ Below u.heap.size u w') := hLs
  clear e1 e2 e3 hc hFl hLs wt
  go_enter Try.func24, Try.ntmps24
  go_wp2_with fail
  rw [HW0.out]
  refine HF.mono ?_
  rintro e w1 ⟨v, rfl, b1, _, hM⟩
  obtain ⟨sb, mb, rfl, h12, hS⟩ := hM HC.out
  rw [HC.out]
  have HR1 : Hid (Rc w1 w.heap.size 0 0 false (.slice none 0 0)) := HR0.out.keep b1
  have HS : Hid (St w1 W0.heap.size sb mb rs.length (trn rs) rs.length) := hS
  have B1 : Hid (Below W0.heap.size W0 w1) := b1
  have HH : Hid (hitsOf (flJ (trn rs) t 8) = rs.filter (notTag t) ∧ (flJ (trn rs) t 8).length ≤ 12) := ⟨by rw [flJ_hits _ _ hS.hm.keys, trn_hits], Nat.le_trans (List.length_filter_le _ _) (by rw [trn_length]; exact h12)⟩
  have HF2 := HFl.out w1 W0.heap.size sb mb hS
  clear b1 HF hM hS h12
  go_wp2_with (go_at_call 79; refine (impl_isTag _ _).mono ?_; rintro e w2 ⟨rfl, rfl⟩; rw [hq])
  refine HF2.mono ?_
  rintro e w3 ⟨rfl, s3, b3⟩
  have R3 : Hid (Rc w3 w.heap.size 0 0 false (.slice none 0 0)) := HR1.out.below b3 HR0.out.lt
  have B3 : Hid (Below W0.heap.size W0 w3) := B1.out.trans b3
  have HF3 := HLs.out w3 W0.heap.size sb mb s3 HH.out.2
  clear b3 s3 HF2
  go_wp2_with fail
  refine HF3.mono ?_
  rintro e w4 ⟨v4, rfl, n4, b4⟩
  obtain ⟨r0, r1, r2, r3, f0, f1, f2, f3⟩ := R3.out.keep b4
  rw [HH.out.1] at n4
  have N4 : Hid (Qs 45 w4 w3.heap.size v4 (rs.filter (notTag t))) := n4
  have B4 : Hid (Below w.heap.size w w4) := on B0.out (on B3.out b4)
  have HSZ : Hid (w.heap.size < w3.heap.size) := R3.out.lt
  obtain ⟨qa, qc, rfl, _, _, _⟩ := n4.shape
  clear b4 HF3 n4
  go_wp2_with fail
  refine bodyPost_ret (v := .agg #[.int .i64 0, .int .i64 0, .bool false, .slice qa (rs.filter (notTag t)).length qc]) (by simp [results, Try.results24, go_sem, r0, r1, r2, r3]) rfl ⟨_, rfl, ?_, (((B4.out.setCell (by simp) _).setCell (by simp) _).setCell (by simp) _).setCell (by simp) _⟩
  have hnb : (Value.slice qa (rs.filter (notTag t)).length qc).ownBlock ≠ some w.heap.size := fun e => qown_not N4.out w.heap.size (.inl HSZ.out) e.symm
  exact (((((N4.out.put _ _ hnb).put _ _ hnb).put _ _ hnb).put _ _ hnb).mono (by have := HSZ.out; omega))

set_option maxRecDepth 100000 in
set_option maxHeartbeats 2000000 in
theorem spec_flushCache (a : Option Addr) (len cap : Nat) (rs : List Qd) (t : Int) (w : World) (h : IsQuads w a len cap rs) :
    Calls Try.prog 59 #[.slice a len cap, .int .i64 t] w fun e w' => ∃ v, e = .returned (.agg #[.int .i64 (flC rs t), .int .i64 0, .bool false, v]) ∧ Qs 45 w' w.heap.size v (flL rs t) ∧ Below w.heap.size w w' := by
  have hF := fun u (z : Below w.heap.size w u) => spec_cacheFault a len cap rs u (h.stay z)
  have HQ : Hid (IsQuads w a len cap rs) := h
  have HL : Hid (len = rs.length) := h.len
  have hcap := h.cap
  have hl : (len : Int) ≤ 9223372036854775807 := by unfold maxLen at hcap; omega
  clear h hcap
  obtain ⟨W0, hW0⟩ : ∃ W0, w.alloc (.cells #[.int .i64 0, .int .i64 0, .bool false, .slice none 0 0] 39) = W0 := ⟨_, rfl⟩
  have b0 : Below w.heap.size w W0 := by rw [← hW0]; exact al (Below.refl _ _) _
  have HR0 : Hid (Rc W0 w.heap.size 0 0 false (.slice none 0 0)) := by rw [← hW0]; exact Rc.made w
  have HW0 : Hid (w.alloc (.cells #[.int .i64 0, .int .i64 0, .bool false, .slice none 0 0] 39) = W0) := hW0
  have B0 : Hid (Below w.heap.size w W0) := b0
  have HF := hF W0 b0
  clear hW0 b0 hF
  by_cases hc : cfV rs = 0
  case neg =>
    have e1 : flC rs t = cfV rs := if_neg hc
    have e2 : flL rs t = [] := if_neg (by rw [e1]; exact hc)
    rw [e1, e2]
    have g : (cfV rs != 0) = true := by simpa using hc
    clear e1 e2 hc
    generalize cfV rs = c at *
    go_enter Try.func59, Try.ntmps59
    go_wp2_with fail
    rw [HW0.out]
    refine HF.mono ?_
    rintro e w1 ⟨rfl, b1⟩
    obtain ⟨r0, r1, r2, r3, f0, f1, f2, f3⟩ := HR0.out.keep b1
    have B1 : Hid (Below w.heap.size w w1) := on B0.out b1
    clear b1 HF
    go_wp2_with fail
    exact bodyPost_ret (v := .agg #[.int .i64 c, .int .i64 0, .bool false, .slice none 0 0]) (by simp [results, Try.results59, go_sem, r0, r1, r2, r3]) rfl ⟨_, rfl, Qs.nil _ _ _, (((B1.out.setCell (by simp) _).setCell (by simp) _).setCell (by simp) _).setCell (by simp) _⟩
  have e1 : flC rs t = if tagB t then 0 else 3 := if_pos hc
  have htb : (decide (0 ≤ t) && decide (t ≤ 9)) = tagB t := by simp [tagB]
  have H12 := (cfV_apart hc).2
  rw [hc] at HF
  cases hq : tagB t
  · have e2 : flC rs t = 3 := by rw [e1, hq]; rfl
    have e3 : flL rs t = [] := if_neg (by rw [e2]; decide)
    rw [e2, e3]
    rw [hq] at htb
    clear e1 e2 e3 hc
    go_enter Try.func59, Try.ntmps59
    go_wp2_with fail
    rw [HW0.out]
    refine HF.mono ?_
    rintro e w1 ⟨rfl, b1⟩
    obtain ⟨r0, r1, r2, r3, f0, f1, f2, f3⟩ := HR0.out.keep b1
    have B1 : Hid (Below w.heap.size w w1) := on B0.out b1
    clear b1 HF
    go_wp2_with (go_at_call 81; refine (spec_in _ _ _ _).mono ?_; rintro e w2 ⟨rfl, rfl⟩; rw [htb])
    exact bodyPost_ret (v := .agg #[.int .i64 3, .int .i64 0, .bool false, .slice none 0 0]) (by simp [results, Try.results59, go_sem, r0, r1, r2, r3]) rfl ⟨_, rfl, Qs.nil _ _ _, (((B1.out.setCell (by simp) _).setCell (by simp) _).setCell (by simp) _).setCell (by simp) _⟩
  have e2 : flC rs t = 0 := by rw [e1, hq]; rfl
  have e3 : flL rs t = rs.filter (notTag t) := if_pos e2
  rw [e2, e3]
  rw [hq] at htb
  have H12 : Hid (rs.length ≤ 12) := H12
  clear e1 e2 e3 hc hq
  go_enter Try.func59, Try.ntmps59
  go_wp2_with fail
  rw [HW0.out]
  refine HF.mono ?_
  rintro e w1 ⟨rfl, b1⟩
  have HR1 : Hid (Rc w1 w.heap.size 0 0 false (.slice none 0 0)) := HR0.out.keep b1
  have B1 : Hid (Below w.heap.size w w1) := on B0.out b1
  have s1 : w.heap.size < w1.heap.size := HR1.out.lt
  clear b1 HF
  go_wp2_with (go_at_call 81; refine (spec_in _ _ _ _).mono ?_; rintro e w2 ⟨rfl, rfl⟩; rw [htb])
  go_loopw [7] (fun c wr => ∃ (j : Nat) (cv : Value), j ≤ len ∧ c = .int .i64 j ∧ Rc wr w2.heap.size 0 0 false cv ∧ Rc wr w.heap.size 0 0 false (.slice none 0 0) ∧ Qs 45 wr (w2.heap.size + 1) cv ((rs.take j).filter (notTag t)) ∧ Below w.heap.size w wr) (fun c _ => len - (intOf c).toNat)
  case atStart => exact ⟨0, .slice none 0 0, Nat.zero_le _, rfl, Rc.made w2, HR1.out.keep (al (Below.refl _ _) _), Qs.nil _ _ _, al B1.out _⟩
  case round =>
    obtain ⟨j, cv, hj, rfl, hO, hR, hN, hB⟩ := hrel
    have HO : Hid (Rc wr w2.heap.size 0 0 false cv) := hO
    have HR : Hid (Rc wr w.heap.size 0 0 false (.slice none 0 0)) := hR
    have HN : Hid (Qs 45 wr (w2.heap.size + 1) cv ((rs.take j).filter (notTag t))) := hN
    have HB : Hid (Below w.heap.size w wr) := hB
    have so : w2.heap.size < wr.heap.size := hO.lt
    by_cases hlt : j < len
    case neg =>
      have hI : ¬ (j : Int) < (len : Int) := by omega
      obtain rfl : j = len := by omega
      obtain ⟨o0, o1, o2, o3, g0, g1, g2, g3⟩ := hO
      obtain ⟨r0, r1, r2, r3, f0, f1, f2, f3⟩ := hR
      have HF2 : Hid ((rs.take j).filter (notTag t) = rs.filter (notTag t)) := by show _ = _; rw [List.take_of_length_le (Nat.le_of_eq HL.out.symm)]
      obtain ⟨qa, qc, rfl, _, _, _⟩ := hN.shape
      have hnb : Hid ((Value.slice qa ((rs.take j).filter (notTag t)).length qc).ownBlock ≠ some w.heap.size) := fun e => qown_not HN.out w.heap.size (.inl (by omega)) e.symm
      clear hN hB
      go_wp2_with fail
      refine bodyPost_ret (v := .agg #[.int .i64 0, .int .i64 0, .bool false, .slice qa ((rs.take j).filter (notTag t)).length qc]) (by simp [results, Try.results59, go_sem, r0, r1, r2, r3]) rfl ⟨_, rfl, ?_, (((HB.out.setCell (by simp) _).setCell (by simp) _).setCell (by simp) _).setCell (by simp) _⟩
      rw [← HF2.out]
      exact (((((HN.out.put _ _ hnb.out).put _ _ hnb.out).put _ _ hnb.out).put _ _ hnb.out).mono (by omega))
    rcases HQ.out with ⟨_, h1, _, _⟩ | ⟨x, rfl, h1, h2, h3, h4⟩
    · omega
    have c0 := cell_keep hB (h4 j hlt).1
    have c1 : wr.cell? ⟨(x.add (j * 4)).block, (x.add (j * 4)).off + 1, none⟩ = some (.int .i64 (rs.getD j qz).page) := by
      show wr.cell? ((x.add (j * 4)).add 1) = _
      rw [Go.Deep.add_add]; exact cell_keep hB (h4 j hlt).2.1
    have c2 : wr.cell? ⟨(x.add (j * 4)).block, (x.add (j * 4)).off + 2, none⟩ = some (.int .i64 (rs.getD j qz).to) := by
      show wr.cell? ((x.add (j * 4)).add 2) = _
      rw [Go.Deep.add_add]; exact cell_keep hB (h4 j hlt).2.2.1
    have c3 : wr.cell? ⟨(x.add (j * 4)).block, (x.add (j * 4)).off + 3, none⟩ = some (.int .i64 (rs.getD j qz).kinds) := by
      show wr.cell? ((x.add (j * 4)).add 3) = _
      rw [Go.Deep.add_add]; exact cell_keep hB (h4 j hlt).2.2.2
    have hI : (j : Int) < (len : Int) := by omega
    have HLT : Hid (j < len) := hlt
    have hsn := take_snoc rs j (by have := HL.out; omega)
    have HLQ : Hid (((rs.take j).filter (notTag t)).length ≤ 1000) := by
      show _ ≤ _
      have h5 := List.length_filter_le (notTag t) (rs.take j)
      have h6 := H12.out
      rw [List.length_take] at h5
      omega
    have hfl : (rs.take (j + 1)).filter (notTag t) = (rs.take j).filter (notTag t) ++ (if (rs.getD j qz).tag = t then [] else [rs.getD j qz]) := by
      rw [hsn, List.filter_append]
      congr 1
      generalize rs.getD j qz = q
      by_cases e : q.tag = t
      · simp [notTag, e]
      · simp [notTag, e]
    generalize rs.getD j qz = q at *
    obtain ⟨t', p', o', k'⟩ := q
    simp only at c0 c1 c2 c3 hfl
    have HFL : Hid ((rs.take (j + 1)).filter (notTag t) = (rs.take j).filter (notTag t) ++ (if t' = t then [] else [⟨t', p', o', k'⟩])) := hfl
    clear hsn hfl h1 h2 h3 h4 hlt hR
    by_cases ht : t' = t
    · have HF2 : Hid ((rs.take (j + 1)).filter (notTag t) = (rs.take j).filter (notTag t)) := by show _ = _; rw [HFL.out, if_pos ht, List.append_nil]
      have ht2 : (t' != t) = false := by simpa using ht
      clear ht hO hN hB
      go_wp2_with fail
      go_roundw
      case rel => exact ⟨j + 1, cv, by have := HLT.out; omega, by go_num, HO.out, HR.out, by rw [HF2.out]; exact HN.out, HB.out⟩
      case measure => have := HLT.out; simp [intOf]; omega
    have HF2 : Hid ((rs.take (j + 1)).filter (notTag t) = (rs.take j).filter (notTag t) ++ [⟨t', p', o', k'⟩]) := by show _ = _; rw [HFL.out, if_neg ht]
    have ht2 : (t' != t) = true := by simpa using ht
    obtain ⟨o0, o1, o2, o3, g0, g1, g2, g3⟩ := hO
    obtain ⟨qa, qc, hqv, _, _, _⟩ := hN.shape
    obtain ⟨qn, hqn⟩ : ∃ qn, ((rs.take j).filter (notTag t)).length = qn := ⟨_, rfl⟩
    rw [hqn] at hqv
    subst hqv
    have HNE : Hid (some w2.heap.size ≠ (Value.slice qa qn qc).ownBlock ∧ some w.heap.size ≠ (Value.slice qa qn qc).ownBlock) := ⟨qown_not HN.out _ (.inl (by omega)), qown_not HN.out _ (.inl (by omega))⟩
    clear hN hB hqn ht
    go_wp2_with fail
    obtain ⟨y, hy⟩ : ∃ y, (wr.alloc (.cells #[.int .i64 t', .int .i64 p', .int .i64 o', .int .i64 k'] 45)).drew = y := ⟨_, rfl⟩
    have by1 : Below wr.heap.size wr y := by rw [← hy]; exact (al (Below.refl _ _) _).drew
    have y0 : y.cell? ⟨wr.heap.size, 0, none⟩ = some (.int .i64 t') := by rw [← hy]; exact cell_new rfl
    have y1 : y.cell? ⟨wr.heap.size, 1, none⟩ = some (.int .i64 p') := by rw [← hy]; exact cell_new rfl
    have y2 : y.cell? ⟨wr.heap.size, 2, none⟩ = some (.int .i64 o') := by rw [← hy]; exact cell_new rfl
    have y3 : y.cell? ⟨wr.heap.size, 3, none⟩ = some (.int .i64 k') := by rw [← hy]; exact cell_new rfl
    have HY : Hid (y.cell? ⟨wr.heap.size, 0, none⟩ = some (.int .i64 t') ∧ y.cell? ⟨wr.heap.size, 1, none⟩ = some (.int .i64 p') ∧ y.cell? ⟨wr.heap.size, 2, none⟩ = some (.int .i64 o') ∧ y.cell? ⟨wr.heap.size, 3, none⟩ = some (.int .i64 k')) := ⟨y0, y1, y2, y3⟩
    have NY : Hid (Qs 45 y (w2.heap.size + 1) (.slice qa qn qc) ((rs.take j).filter (notTag t))) := HN.out.keep by1
    have OY : Hid (Rc y w2.heap.size 0 0 false (.slice qa qn qc)) := HO.out.keep by1
    have RY : Hid (Rc y w.heap.size 0 0 false (.slice none 0 0)) := HR.out.keep by1
    have BY : Hid (Below w.heap.size w y) := on HB.out by1
    have SY : Hid (w2.heap.size + 1 ≤ y.heap.size) := OY.out.lt
    have HYY : Hid ((wr.alloc (.cells #[.int .i64 t', .int .i64 p', .int .i64 o', .int .i64 k'] 45)).drew = y) := hy
    clear hy by1 y0 y1 y2 y3
    go_region_law (rw [HYY.out]; refine step_quad rfl (.tmp 33) (.tmp 38) rfl (w2.heap.size + 1) (.slice qa qn qc) ((rs.take j).filter (notTag t)) (by simp [Act.eval]) NY.out wr.heap.size ⟨t', p', o', k'⟩ (by simp [Act.eval]) HY.out.1 HY.out.2.1 HY.out.2.2.1 HY.out.2.2.2 (by have := HLQ.out; omega) SY.out ?_; intro v' w' hN' hG'; obtain ⟨va, vc, hv', _, _, _⟩ := hN'.out.shape; generalize hvn : List.length _ = vn at hv'; clear hvn; subst hv'; have OO : Hid (Rc w' w2.heap.size 0 0 false (.slice qa qn qc)) := OY.out.grown hG' HNE.out.1; have o3 := OO.out.r3; have g3 := OO.out.f3)
    all_goals
      have RR : Hid (Rc w' w.heap.size 0 0 false (.slice none 0 0)) := RY.out.grown hG' HNE.out.2
      have BB : Hid (Below w.heap.size w w') := BY.out.grown hG' (by have := BY.out.size; exact this) (fun k hk => by have := (NY.out.lt k hk).1; omega)
      have hvb : Hid ((Value.slice va vn vc).ownBlock ≠ some w2.heap.size) := fun e => qown_not hN'.out w2.heap.size (.inl (by omega)) e.symm
      have K9 : Hid (Rc (w'.setCell ⟨w2.heap.size, 3, none⟩ (.slice va vn vc)) w2.heap.size 0 0 false (.slice va vn vc) ∧ Rc (w'.setCell ⟨w2.heap.size, 3, none⟩ (.slice va vn vc)) w.heap.size 0 0 false (.slice none 0 0) ∧ Qs 45 (w'.setCell ⟨w2.heap.size, 3, none⟩ (.slice va vn vc)) (w2.heap.size + 1) (.slice va vn vc) ((rs.take (j + 1)).filter (notTag t)) ∧ Below w.heap.size w (w'.setCell ⟨w2.heap.size, 3, none⟩ (.slice va vn vc))) :=
        ⟨OO.out.set3 _, RR.out.grown (grown_set w' ⟨w2.heap.size, 3, none⟩ _) (by simp; omega), by rw [HF2.out]; exact hN'.out.put _ _ hvb.out, BB.out.setCell (by show w.heap.size ≤ w2.heap.size; omega) _⟩
      clear hN' hG' OO RR BB hvb
      go_wp2_with fail
      go_roundw
    all_goals first
      | (show ∃ _, _; exact ⟨j + 1, _, by have := HLT.out; omega, by go_num, K9.out.1, K9.out.2.1, K9.out.2.2.1, K9.out.2.2.2⟩)
      | (have := HLT.out; simp [intOf]; omega)
end Go.Proofs.Ytighhjkokjpgfaa
