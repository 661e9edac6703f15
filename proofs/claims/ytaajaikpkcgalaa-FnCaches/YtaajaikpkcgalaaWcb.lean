/- WalkCached by the program: with a code, by a hit, by a walk. -/
import Derived.Test.YtaajaikpkcgalaaWca
import Derived.Test.YtaajaikpkcgalaaFac
namespace Go.Proofs.Ytaajaikpkcgalaa
open Go.RowKit
set_option linter.unusedVariables false

theorem trn_mem {l : List Qd} {e : Int × Qd} (h : e ∈ trn l) : e.2 ∈ l := by
  have := trn_hits l
  rw [← this]
  exact List.mem_map.2 ⟨e, h, rfl⟩
set_option maxHeartbeats 2000000 in
theorem impl_walkBad (a : Option Addr) (len cap : Nat) (rs : List Qd) (t x k pf : Int) (pa : Option Addr) (pn pc : Nat) (w : World) (h : IsQuads w a len cap rs)
    (hG : ∀ u, Below w.heap.size w u → Calls Try.prog 30 #[.slice pa pn pc, .int .i64 24] u fun e w' => e = .returned (.int .i64 pf) ∧ Below u.heap.size u w') (hx : ¬ wcX rs t pf k = 0) :
    Calls Try.prog 6 #[.slice a len cap, .int .i64 t, .slice pa pn pc, .int .i64 x, .int .i64 k] w fun e w' => e = .returned (.agg #[.int .i64 (wcX rs t pf k), .int .i64 0, .bool false, .slice none 0 0]) ∧ Below w.heap.size w w' := by
  have hF := fun u (z : Below w.heap.size w u) => impl_storeOf a len cap rs u (h.stay z)
  have hW := fun u (z : Below w.heap.size w u) => impl_walkFault t k pf pa pn pc u (hG u z)
  clear h hG
  have V0 : Hid (Vb (w.alloc (.cells #[.int .i64 0, .int .i64 0, .bool false, .slice none 0 0] 29)) w.heap.size #[.int .i64 0, .int .i64 0, .bool false, .slice none 0 0] 29) := Vb.new _ _ _
  have B0 : Hid (Below w.heap.size w (w.alloc (.cells #[.int .i64 0, .int .i64 0, .bool false, .slice none 0 0] 29))) := al (Below.refl _ _) _
  by_cases hc : cfV rs = 0
  case neg =>
    have e1 : wcX rs t pf k = cfV rs := if_neg hc
    rw [e1]
    have g : (cfV rs != 0) = true := by simpa using hc
    clear e1 hc hx hW
    generalize cfV rs = c at *
    go_enter Try.func6, Try.ntmps6
    go_wp2_with fail
    generalize w.alloc (.cells #[.int .i64 0, .int .i64 0, .bool false, .slice none 0 0] 29) = W0 at *
    refine (hF _ B0.out).mono ?_
    rintro e w1 ⟨v, rfl, b1, _, _⟩
    have V1 := V0.out.keep b1
    have B1 : Hid (Below w.heap.size w w1) := on B0.out b1
    have r0 := V1.cell 0 rfl
    have z0 := V1.free 0
    have r1 := V1.cell 1 rfl
    have z1 := V1.free 1
    have r2 := V1.cell 2 rfl
    have z2 := V1.free 2
    have r3 := V1.cell 3 rfl
    have z3 := V1.free 3
    clear b1 hF V1
    go_wp2_with fail
    exact bodyPost_ret (v := .agg #[.int .i64 c, .int .i64 0, .bool false, .slice none 0 0]) (by simp [results, Try.results6, go_sem, r0, r1, r2, r3]) rfl ⟨rfl, (((B1.out.setCell (by simp) _).setCell (by simp) _).setCell (by simp) _).setCell (by simp) _⟩
  have HC : Hid (cfV rs = 0) := hc
  have e1 : wcX rs t pf k = wfX t pf k := if_pos hc
  rw [e1] at hx ⊢
  have g : (wfX t pf k != 0) = true := by simpa using hx
  clear e1 hc hx
  generalize wfX t pf k = c at *
  go_enter Try.func6, Try.ntmps6
  go_wp2_with fail
  generalize w.alloc (.cells #[.int .i64 0, .int .i64 0, .bool false, .slice none 0 0] 29) = W0 at *
  refine (hF _ B0.out).mono ?_
  rintro e w1 ⟨v, rfl, b1, _, hM⟩
  obtain ⟨sb, mb, rfl, h12, hS⟩ := hM HC.out
  rw [HC.out]
  have V1 : Hid (Vb w1 w.heap.size #[.int .i64 0, .int .i64 0, .bool false, .slice none 0 0] 29) := V0.out.keep b1
  have B1 : Hid (Below w.heap.size w w1) := on B0.out b1
  clear b1 hF hM hS V0 B0
  go_wp2_with fail
  refine (hW _ B1.out).mono ?_
  rintro e w2 ⟨rfl, b2⟩
  have V2 := V1.out.keep b2
  have B2 : Hid (Below w.heap.size w w2) := on B1.out b2
  have r0 := V2.cell 0 rfl
  have z0 := V2.free 0
  have r1 := V2.cell 1 rfl
  have z1 := V2.free 1
  have r2 := V2.cell 2 rfl
  have z2 := V2.free 2
  have r3 := V2.cell 3 rfl
  have z3 := V2.free 3
  clear b2 hW V2
  go_wp2_with fail
  exact bodyPost_ret (v := .agg #[.int .i64 c, .int .i64 0, .bool false, .slice none 0 0]) (by simp [results, Try.results6, go_sem, r0, r1, r2, r3]) rfl ⟨rfl, (((B2.out.setCell (by simp) _).setCell (by simp) _).setCell (by simp) _).setCell (by simp) _⟩

set_option maxRecDepth 20000 in
set_option maxHeartbeats 4000000 in
theorem impl_walkHit (a : Option Addr) (len cap : Nat) (rs : List Qd) (t x k pf : Int) (pa : Option Addr) (pn pc : Nat) (w : World) (h : IsQuads w a len cap rs)
    (hG : ∀ u, Below w.heap.size w u → Calls Try.prog 30 #[.slice pa pn pc, .int .i64 24] u fun e w' => e = .returned (.int .i64 pf) ∧ Below u.heap.size u w') (hx : wcX rs t pf k = 0) (hb : atB x = true) (hq : hasQ rs t (x / 8) = true) :
    Calls Try.prog 6 #[.slice a len cap, .int .i64 t, .slice pa pn pc, .int .i64 x, .int .i64 k] w fun e w' => ∃ v, e = .returned (.agg #[.int .i64 (wpgC (fnd (trn rs) t (x / 8)).2.kinds k), .int .i64 (wpgV (fnd (trn rs) t (x / 8)).2.to (fnd (trn rs) t (x / 8)).2.kinds x k), .bool true, v]) ∧ Qs 65 w' w.heap.size v (if wpgC (fnd (trn rs) t (x / 8)).2.kinds k = 0 then rs else []) ∧ Below w.heap.size w w' := by
  have hF := fun u (z : Below w.heap.size w u) => impl_storeOf a len cap rs u (h.stay z)
  have hW := fun u (z : Below w.heap.size w u) => impl_walkFault t k pf pa pn pc u (hG u z)
  clear h hG
  have V0 : Hid (Vb (w.alloc (.cells #[.int .i64 0, .int .i64 0, .bool false, .slice none 0 0] 29)) w.heap.size #[.int .i64 0, .int .i64 0, .bool false, .slice none 0 0] 29) := Vb.new _ _ _
  have B0 : Hid (Below w.heap.size w (w.alloc (.cells #[.int .i64 0, .int .i64 0, .bool false, .slice none 0 0] 29))) := al (Below.refl _ _) _
  have hc : cfV rs = 0 := by
    by_cases hc : cfV rs = 0
    · exact hc
    · rw [wcX, if_neg hc] at hx; exact absurd hx hc
  have HC : Hid (cfV rs = 0) := hc
  rw [wcX, if_pos hc] at hx
  obtain ⟨hT, hpf, hK⟩ := wfX_zero hx
  rw [hx] at hW
  have HT : Hid (tagB t = true ∧ kindB k = true) := ⟨hT, hK⟩
  have wt : wfI t := by unfold tagB at hT; simp at hT; exact wf_small hT.1 (by omega)
  clear hx hc hT hK
  have hx2 : 0 ≤ x ∧ x ≤ 63 := by unfold atB at hb; simpa using hb
  have hAN : atN x = x / 8 := by unfold atN; rw [hb]; rfl
  have wp : wfI (x / 8) := wf_small (by omega) (by omega)
  have hany : (trn rs).any (sel t (x / 8)) = true := by rw [trn_any]; exact hq
  have hok := okQ_iff.1 ((cfV_parts HC.out).2.1 _ (trn_mem (fnd_mem hany).1))
  have hH : ∀ base sb mb u, St u base sb mb rs.length (trn rs) rs.length → rs.length ≤ 12 → _ := fun base sb mb u (S : St u base sb mb rs.length (trn rs) rs.length) (h12 : rs.length ≤ 12) => impl_byHit base sb mb rs.length rs.length rs (fnd (trn rs) t (x / 8)).1 (fnd (trn rs) t (x / 8)).2.to (fnd (trn rs) t (x / 8)).2.kinds x k u S h12 (fun _ => ⟨hok.2.2.2.2.1, hok.2.2.2.2.2.1, hx2.1, hx2.2⟩)
  have hL : ∀ u base sb mb, St u base sb mb rs.length (trn rs) rs.length → _ := fun u base sb mb (S : St u base sb mb rs.length (trn rs) rs.length) => S.hm.lookOk wt wp
  rw [hany] at hL
  generalize (fnd (trn rs) t (x / 8)).1 = f1 at *
  generalize (fnd (trn rs) t (x / 8)).2.to = o at *
  generalize (fnd (trn rs) t (x / 8)).2.kinds = kd at *
  obtain ⟨L, hLL⟩ : ∃ L, (if wpgC kd k = 0 then rs else []) = L := ⟨_, rfl⟩
  rw [hLL] at hH ⊢
  clear hLL
  have HHit : Hid (_) := hH
  have HLook : Hid (_) := hL
  clear hH hL hok hq hany wt wp
  go_enter Try.func6, Try.ntmps6
  go_wp2_with fail
  generalize w.alloc (.cells #[.int .i64 0, .int .i64 0, .bool false, .slice none 0 0] 29) = W0 at *
  have HW0 : Hid (w.heap.size < W0.heap.size) := V0.out.lt
  refine (hF _ B0.out).mono ?_
  rintro e w1 ⟨v, rfl, b1, _, hM⟩
  obtain ⟨sb, mb, rfl, h12, hS⟩ := hM HC.out
  rw [HC.out]
  have H12 : Hid (rs.length ≤ 12) := h12
  have V1 : Hid (Vb w1 w.heap.size #[.int .i64 0, .int .i64 0, .bool false, .slice none 0 0] 29) := V0.out.keep b1
  have B1 : Hid (Below w.heap.size w w1) := on B0.out b1
  have C1 : Hid (Below W0.heap.size W0 w1) := b1
  have S1 : Hid (St w1 W0.heap.size sb mb rs.length (trn rs) rs.length) := hS
  have HB0 : Hid (Below w.heap.size w W0) := B0.out
  clear b1 hF hM hS V0 B0 h12
  go_wp2_with fail
  refine (hW _ B1.out).mono ?_
  rintro e w2 ⟨rfl, b2⟩
  have V2 : Hid (Vb w2 w.heap.size #[.int .i64 0, .int .i64 0, .bool false, .slice none 0 0] 29) := V1.out.keep b2
  have B2 : Hid (Below w.heap.size w w2) := on B1.out b2
  have C2 : Hid (Below W0.heap.size W0 w2) := on C1.out b2
  have S2 : Hid (St w2 W0.heap.size sb mb rs.length (trn rs) rs.length) := S1.out.keep b2
  clear b2 hW V1 B1 C1 S1
  have s0 := S2.out.c0
  have LK := HLook.out w2 _ _ _ S2.out
  have zs : sb < w2.heap.size := block_of_cell s0
  go_wp2_with (go_at_call 22; refine (impl_pageOf _ _).mono ?_; rintro e w3 ⟨rfl, rfl⟩; rw [hAN, hb])
  refine (HHit.out _ _ _ _ (S2.out.keep (al (Below.refl _ _) _)) H12.out).mono ?_
  rintro e w4 ⟨v, rfl, q4, b4⟩
  have V4 := (V2.out.push _).keep b4
  have B4 : Hid (Below w.heap.size w w4) := on (al B2.out _) b4
  have Q4 : Hid (Qs 65 w4 _ v _) := q4
  have ZZ : Hid (w.heap.size < (w3.alloc (.cells #[.int .i64 f1, .int .i64 o, .int .i64 kd] 53)).heap.size) := (V2.out.push _).lt
  obtain ⟨qa, qc, rfl, _⟩ := q4.shape
  have r0 := V4.cell 0 rfl
  have z0 := V4.free 0
  have r1 := V4.cell 1 rfl
  have z1 := V4.free 1
  have r2 := V4.cell 2 rfl
  have z2 := V4.free 2
  have r3 := V4.cell 3 rfl
  have z3 := V4.free 3
  clear b4 q4 LK s0
  go_wp2_with fail
  refine bodyPost_ret (v := .agg #[.int .i64 (wpgC kd k), .int .i64 (wpgV o kd x k), .bool true, .slice qa L.length qc]) (by simp [results, Try.results6, go_sem, r0, r1, r2, r3]) rfl ⟨_, rfl, ?_, (((B4.out.setCell (by simp) _).setCell (by simp) _).setCell (by simp) _).setCell (by simp) _⟩
  have hnb : (Value.slice qa L.length qc).ownBlock ≠ some w.heap.size := fun e => qown_not Q4.out _ (.inl ZZ.out) e.symm
  exact (((((Q4.out.put _ _ hnb).put _ _ hnb).put _ _ hnb).put _ _ hnb).mono (Nat.le_of_lt ZZ.out))

theorem wk_parts {ps : List (Int × Int)} {x k : Int} (hk : kindB k = true) (h : wkC ps x k = 0) : atB x = true := by
  unfold wkC at h
  rw [hk, if_pos rfl] at h
  cases hg : goesB ps x k
  · rw [hg] at h; exact absurd h (by rcases kind_cases hk with rfl | rfl | rfl <;> decide)
  · unfold goesB at hg
    simp only [Bool.and_eq_true] at hg
    unfold atB
    rw [hg.1.1, hg.1.2]
    rfl
theorem wk_no {ps : List (Int × Int)} {x k : Int} (h : ¬ wkC ps x k = 0) : wkV ps x k = 0 := by
  unfold wkC at h
  unfold wkV
  cases hk : kindB k
  · rfl
  · rw [hk] at h
    cases hg : goesB ps x k
    · rfl
    · rw [hg] at h; exact absurd rfl h
set_option maxRecDepth 20000 in
set_option maxHeartbeats 8000000 in
theorem impl_walkMiss (a : Option Addr) (len cap : Nat) (rs : List Qd) (t x k pf : Int) (g pc : Nat) (ps : List (Int × Int)) (b : Nat) (w : World) (h : IsQuads w a len cap rs) (hP : Prs 51 w b (.slice (some ⟨g, 0, none⟩) 8 pc) ps) (hl : ps.length = 8) (ho : okTo 24 ps 8)
    (hG : ∀ u, Below w.heap.size w u → Calls Try.prog 30 #[.slice (some ⟨g, 0, none⟩) 8 pc, .int .i64 24] u fun e w' => e = .returned (.int .i64 pf) ∧ Below u.heap.size u w') (hx : wcX rs t pf k = 0) (hm : (atB x && hasQ rs t (x / 8)) = false) :
    Calls Try.prog 6 #[.slice a len cap, .int .i64 t, .slice (some ⟨g, 0, none⟩) 8 pc, .int .i64 x, .int .i64 k] w fun e w' => ∃ v, e = .returned (.agg #[.int .i64 (wkC ps x k), .int .i64 (wkV ps x k), .bool false, v]) ∧ Qs 65 w' w.heap.size v (if wkC ps x k = 0 then fillQ rs ⟨t, x / 8, (ps.getD (x / 8).toNat (0, 0)).1, (ps.getD (x / 8).toNat (0, 0)).2⟩ else []) ∧ Below w.heap.size w w' := by
  have hWk := fun u (z : Below w.heap.size w u) => impl_walk (.slice (some ⟨g, 0, none⟩) 8 pc) ps x k b u (hP.keep z) hl ho
  have HP : Hid (Prs 51 w b (.slice (some ⟨g, 0, none⟩) 8 pc) ps ∧ ps.length = 8 ∧ okTo 24 ps 8) := ⟨hP, hl, ho⟩
  have HG : Hid (g < w.heap.size) := (hP.lt g rfl).2
  have hF := fun u (z : Below w.heap.size w u) => impl_storeOf a len cap rs u (h.stay z)
  have hW := fun u (z : Below w.heap.size w u) => impl_walkFault t k pf (some ⟨g, 0, none⟩) 8 pc u (hG u z)
  clear h hG
  have V0 : Hid (Vb (w.alloc (.cells #[.int .i64 0, .int .i64 0, .bool false, .slice none 0 0] 29)) w.heap.size #[.int .i64 0, .int .i64 0, .bool false, .slice none 0 0] 29) := Vb.new _ _ _
  have B0 : Hid (Below w.heap.size w (w.alloc (.cells #[.int .i64 0, .int .i64 0, .bool false, .slice none 0 0] 29))) := al (Below.refl _ _) _
  have hc : cfV rs = 0 := by
    by_cases hc : cfV rs = 0
    · exact hc
    · rw [wcX, if_neg hc] at hx; exact absurd hx hc
  have HC : Hid (cfV rs = 0) := hc
  rw [wcX, if_pos hc] at hx
  obtain ⟨hT, hpf, hK⟩ := wfX_zero hx
  rw [hx] at hW
  have HT : Hid (tagB t = true ∧ kindB k = true) := ⟨hT, hK⟩
  have wt : wfI t := by unfold tagB at hT; simp at hT; exact wf_small hT.1 (by omega)
  clear hx hc hT hK
  clear hpf
  have HKB : Hid (kindB k = true) := HT.out.2
  have wn : wfI (atN x) := by
    unfold atN
    cases hb : atB x
    · exact wf_small (by simp) (by simp)
    · have hx2 : 0 ≤ x ∧ x ≤ 63 := by unfold atB at hb; simpa using hb
      exact wf_small (by rw [if_pos rfl]; omega) (by rw [if_pos rfl]; omega)
  have hL : ∀ u base sb mb, St u base sb mb rs.length (trn rs) rs.length → _ := fun u base sb mb (S : St u base sb mb rs.length (trn rs) rs.length) => S.hm.lookOk wt wn
  have HM : Hid ((atB x && (trn rs).any (sel t (atN x))) = false) := by
    show _ = _
    rw [trn_any]
    unfold atN
    cases hb : atB x
    · rfl
    · rw [hb] at hm; exact hm
  generalize (fnd (trn rs) t (atN x)).1 = f1 at *
  generalize (fnd (trn rs) t (atN x)).2.to = f2 at *
  generalize (fnd (trn rs) t (atN x)).2.kinds = f3 at *
  generalize (trn rs).any (sel t (atN x)) = an at *
  have HLook : Hid (_) := hL
  clear hL wt wn hm hP hl ho
  obtain ⟨c, hc⟩ : ∃ c, wkC ps x k = c := ⟨_, rfl⟩
  obtain ⟨y, hy⟩ : ∃ y, wkV ps x k = y := ⟨_, rfl⟩
  have HCC : Hid (wkC ps x k = c) := hc
  have HYY : Hid (wkV ps x k = y) := hy
  rw [hc, hy] at hWk ⊢
  clear hc hy
  obtain ⟨L, hLL⟩ : ∃ L, (if c = 0 then fillQ rs ⟨t, x / 8, (ps.getD (x / 8).toNat (0, 0)).1, (ps.getD (x / 8).toNat (0, 0)).2⟩ else []) = L := ⟨_, rfl⟩
  have HL0 : Hid (c = 0 → fillQ rs ⟨t, x / 8, (ps.getD (x / 8).toNat (0, 0)).1, (ps.getD (x / 8).toNat (0, 0)).2⟩ = L) := fun e => by rw [if_pos e] at hLL; exact hLL
  have HL1 : Hid (¬ c = 0 → [] = L) := fun e => by rw [if_neg e] at hLL; exact hLL
  rw [hLL]
  clear hLL
  go_enter Try.func6, Try.ntmps6
  go_wp2_with fail
  generalize w.alloc (.cells #[.int .i64 0, .int .i64 0, .bool false, .slice none 0 0] 29) = W0 at *
  have HW0 : Hid (w.heap.size < W0.heap.size) := V0.out.lt
  refine (hF _ B0.out).mono ?_
  rintro e w1 ⟨v, rfl, b1, _, hM⟩
  obtain ⟨sb, mb, rfl, h12, hS⟩ := hM HC.out
  rw [HC.out]
  have H12 : Hid (rs.length ≤ 12) := h12
  have V1 : Hid (Vb w1 w.heap.size #[.int .i64 0, .int .i64 0, .bool false, .slice none 0 0] 29) := V0.out.keep b1
  have B1 : Hid (Below w.heap.size w w1) := on B0.out b1
  have C1 : Hid (Below W0.heap.size W0 w1) := b1
  have S1 : Hid (St w1 W0.heap.size sb mb rs.length (trn rs) rs.length) := hS
  have HB0 : Hid (Below w.heap.size w W0) := B0.out
  clear b1 hF hM hS V0 B0 h12
  go_wp2_with fail
  refine (hW _ B1.out).mono ?_
  rintro e w2 ⟨rfl, b2⟩
  have V2 : Hid (Vb w2 w.heap.size #[.int .i64 0, .int .i64 0, .bool false, .slice none 0 0] 29) := V1.out.keep b2
  have B2 : Hid (Below w.heap.size w w2) := on B1.out b2
  have C2 : Hid (Below W0.heap.size W0 w2) := on C1.out b2
  have S2 : Hid (St w2 W0.heap.size sb mb rs.length (trn rs) rs.length) := S1.out.keep b2
  clear b2 hW V1 B1 C1 S1
  have s0 := S2.out.c0
  have LK := HLook.out w2 _ _ _ S2.out
  have zs : sb < w2.heap.size := block_of_cell s0
  have HZ : Hid (w.heap.size ≤ W0.heap.size) := Nat.le_of_lt HW0.out
  have B3 : Hid (Below w.heap.size w (w2.alloc (.cells #[.int .i64 f1, .int .i64 f2, .int .i64 f3] 53))) := al B2.out _
  have C3 : Hid (Below W0.heap.size W0 (w2.alloc (.cells #[.int .i64 f1, .int .i64 f2, .int .i64 f3] 53))) := al C2.out _
  have V3 : Hid (Vb (w2.alloc (.cells #[.int .i64 f1, .int .i64 f2, .int .i64 f3] 53)) w.heap.size #[.int .i64 0, .int .i64 0, .bool false, .slice none 0 0] 29) := V2.out.push _
  have S3 : Hid (St (w2.alloc (.cells #[.int .i64 f1, .int .i64 f2, .int .i64 f3] 53)) W0.heap.size sb mb rs.length (trn rs) rs.length) := S2.out.keep (al (Below.refl _ _) _)
  cases hb : atB x
  · have HN : Hid (¬ c = 0) := fun e => by have := wk_parts HKB.out (HCC.out.trans e); rw [hb] at this; cases this
    have hc2 : (c != 0) = true := by simpa using HN.out
    have hy : y = 0 := by rw [← HYY.out]; exact wk_no (by rw [HCC.out]; exact HN.out)
    subst hy
    obtain rfl := HL1.out HN.out
    clear HL0 HL1
    cases an
    all_goals
      go_wp2_with (go_at_call 22; refine (impl_pageOf _ _).mono ?_; rintro e w3 ⟨rfl, rfl⟩; rw [hb])
      refine (hWk _ B3.out).mono ?_
      rintro e w4 ⟨rfl, b4⟩
      have V4 := (V3.out.keep b4).push (.cells #[.int .i64 c, .int .i64 0] 35)
      have B4 : Hid (Below w.heap.size w (w4.alloc (.cells #[.int .i64 c, .int .i64 0] 35))) := al (on B3.out b4) _
      have r0 := V4.cell 0 rfl
      have z0 := V4.free 0
      have r1 := V4.cell 1 rfl
      have z1 := V4.free 1
      have r2 := V4.cell 2 rfl
      have z2 := V4.free 2
      have r3 := V4.cell 3 rfl
      have z3 := V4.free 3
      clear b4 LK s0
      go_wp2_with fail
      exact bodyPost_ret (v := .agg #[.int .i64 c, .int .i64 0, .bool false, .slice none 0 0]) (by simp [results, Try.results6, go_sem, r0, r1, r2, r3]) rfl ⟨_, rfl, Qs.nil _ _ _, (((B4.out.setCell (by simp) _).setCell (by simp) _).setCell (by simp) _).setCell (by simp) _⟩
  have han : an = false := by have := HM.out; rw [hb] at this; simpa using this
  subst han
  by_cases hc0 : c = 0
  case neg =>
    have hc2 : (c != 0) = true := by simpa using hc0
    have hy : y = 0 := by rw [← HYY.out]; exact wk_no (by rw [HCC.out]; exact hc0)
    subst hy
    obtain rfl := HL1.out hc0
    clear HL0 HL1
    go_wp2_with (go_at_call 22; refine (impl_pageOf _ _).mono ?_; rintro e w3 ⟨rfl, rfl⟩; rw [hb])
    refine (hWk _ B3.out).mono ?_
    rintro e w4 ⟨rfl, b4⟩
    have V4 := (V3.out.keep b4).push (.cells #[.int .i64 c, .int .i64 0] 35)
    have B4 : Hid (Below w.heap.size w (w4.alloc (.cells #[.int .i64 c, .int .i64 0] 35))) := al (on B3.out b4) _
    have r0 := V4.cell 0 rfl
    have z0 := V4.free 0
    have r1 := V4.cell 1 rfl
    have z1 := V4.free 1
    have r2 := V4.cell 2 rfl
    have z2 := V4.free 2
    have r3 := V4.cell 3 rfl
    have z3 := V4.free 3
    clear b4 LK s0
    go_wp2_with fail
    exact bodyPost_ret (v := .agg #[.int .i64 c, .int .i64 0, .bool false, .slice none 0 0]) (by simp [results, Try.results6, go_sem, r0, r1, r2, r3]) rfl ⟨_, rfl, Qs.nil _ _ _, (((B4.out.setCell (by simp) _).setCell (by simp) _).setCell (by simp) _).setCell (by simp) _⟩
  subst hc0
  have HLL : Hid (_ = L) := HL0.out rfl
  clear HL0 HL1
  have hx2 : 0 ≤ x ∧ x ≤ 63 := by unfold atB at hb; simpa using hb
  obtain ⟨i, hi⟩ : ∃ i : Nat, x / 8 = (i : Int) := Int.eq_ofNat_of_zero_le (by omega)
  have hAN : atN x = (i : Int) := by unfold atN; rw [hb]; exact hi
  have hi8 : (i : Int) < 8 := by omega
  have hi8' : i < 8 := by omega
  have hiN : (x / 8).toNat = i := by omega
  rw [hi, show ((i : Int)).toNat = i from rfl] at HLL
  rw [hAN] at LK
  have HOK : Hid (pgC 24 (ps.getD i (0, 0)).1 (ps.getD i (0, 0)).2 = 0) := HP.out.2.2 i hi8'
  have HGO : Hid (goesB ps x k = true) := by
    show _ = _
    have h := HCC.out
    unfold wkC at h
    rw [HKB.out, if_pos rfl] at h
    cases hg : goesB ps x k
    · rw [hg] at h; exact absurd h (by rcases kind_cases HKB.out with rfl | rfl | rfl <;> decide)
    · rfl
  have HQ : Hid (okQ ⟨t, i, (ps.getD i (0, 0)).1, (ps.getD i (0, 0)).2⟩ = true) := by
    have h1 := goes_in HP.out.2.2 HGO.out
    have h2 := pgC_zero HOK.out
    have h3 := HT.out.1
    unfold tagB at h3
    simp at h3
    have h4 : (ps.getD i (0, 0)).2 ≠ 0 := by
      intro e
      have := HGO.out
      unfold goesB at this
      rw [hiN, e, band_zero] at this
      simp at this
    rw [hiN] at h1
    exact okQ_iff.2 ⟨h3.1, h3.2, by show (0 : Int) ≤ (i : Int); omega, by show (i : Int) ≤ 7; omega, h1.2.2.1, by show (ps.getD i (0, 0)).1 ≤ 23; omega, by show 1 ≤ (ps.getD i (0, 0)).2; omega, by show (ps.getD i (0, 0)).2 ≤ 7; omega⟩
  have HCL : Hid (w.cell? ⟨g, i * 2, none⟩ = some (.int .i64 (ps.getD i (0, 0)).1) ∧ w.cell? ⟨g, i * 2 + 1, none⟩ = some (.int .i64 (ps.getD i (0, 0)).2)) := HP.out.1.cell HP.out.2.1.symm i hi8'
  generalize (ps.getD i (0, 0)).1 = pt at *
  generalize (ps.getD i (0, 0)).2 = kd at *
  have HFill : Hid (∀ u base sb mb, St u base sb mb rs.length (trn rs) rs.length → rs.length ≤ 12 → Calls Try.prog 25 #[.pointer (some ⟨sb, 0, none⟩), .agg #[.int .i64 t, .int .i64 (i : Int), .int .i64 pt, .int .i64 kd]] u fun e w' => e = .returned (.tuple #[]) ∧ St w' base sb mb (rs.length + 1) (fillS (trn rs) ⟨t, i, pt, kd⟩ rs.length) (rs.length + 1) ∧ Below base u w' ∧ Asd sb mb u w') :=
    fun u base sb mb S h12 => impl_fill ⟨t, i, pt, kd⟩ (trn rs) rs.length base sb mb rs.length u S HQ.out (by omega) (by omega) (trn_rise rs)
  have HList : Hid (∀ u, St u W0.heap.size sb mb (rs.length + 1) (fillS (trn rs) ⟨t, i, pt, kd⟩ rs.length) (rs.length + 1) → Calls Try.prog 26 #[.pointer (some ⟨sb, 0, none⟩)] u fun e w' => ∃ v, e = .returned v ∧ Qs 65 w' u.heap.size v (fillQ rs ⟨t, i, pt, kd⟩) ∧ Below u.heap.size u w') := fun u S => by
    have h := impl_list W0.heap.size sb mb _ (fillS (trn rs) ⟨t, i, pt, kd⟩ rs.length) _ u S (fill_length rs _ _ S2.out.hm.apart H12.out) (fill_rise rs _)
    rw [hits_fill] at h
    exact h
  go_wp2_with (go_at_call 22; refine (impl_pageOf _ _).mono ?_; rintro e w3 ⟨rfl, rfl⟩; rw [hAN, hb])
  refine (hWk _ B3.out).mono ?_
  rintro e w4 ⟨rfl, b4⟩
  have C4 : Hid (Below W0.heap.size W0 (w4.alloc (.cells #[.int .i64 0, .int .i64 y] 35))) := al (on C3.out b4) _
  have V4 : Hid (Vb (w4.alloc (.cells #[.int .i64 0, .int .i64 y] 35)) w.heap.size #[.int .i64 0, .int .i64 0, .bool false, .slice none 0 0] 29) := (V3.out.keep b4).push _
  have S4 : Hid (St (w4.alloc (.cells #[.int .i64 0, .int .i64 y] 35)) W0.heap.size sb mb rs.length (trn rs) rs.length) := (S3.out.keep b4).keep (al (Below.refl _ _) _)
  obtain ⟨P, hPP⟩ : ∃ P, w4.heap.size = P := ⟨_, rfl⟩
  have V4P : Hid (Vb (w4.alloc (.cells #[.int .i64 0, .int .i64 y] 35)) P #[.int .i64 0, .int .i64 y] 35) := by show Vb _ _ _ _; rw [← hPP]; exact Vb.new _ _ _
  have HPS : Hid (P ≠ sb ∧ P ≠ mb) := by
    have h1 := block_of_cell (S3.out.keep b4).c0
    have h2 := (S3.out.keep b4).hm.lt
    exact ⟨by show P ≠ sb; simp only at h1; omega, by show P ≠ mb; omega⟩
  have HPW : Hid (P ≠ w.heap.size) := by have := (V3.out.keep b4).lt; show P ≠ _; omega
  clear b4 LK s0 B3 C3 V3 S3 S2 V2 B2 C2 hWk
  go_upto_region 14 with fail
  generalize w4.alloc (.cells #[.int .i64 0, .int .i64 y] 35) = W4 at *
  have c0 := cell_keep C4.out (cell_keep HB0.out HCL.out.1)
  have c1 := cell_keep C4.out (cell_keep HB0.out HCL.out.2)
  have SC : Hid (W4.drew.cell? ⟨g, i * 2, none⟩ = some (.int .i64 pt) ∧ W4.drew.cell? ⟨g, i * 2 + 1, none⟩ = some (.int .i64 kd)) := ⟨c0, c1⟩
  have SR : Hid (Below W4.heap.size W4 W4.drew) := (Below.refl _ _).drew
  refine wp_region_held (S := fun w' => w'.cell? ⟨g, i * 2, none⟩ = some (.int .i64 pt) ∧ w'.cell? ⟨g, i * 2 + 1, none⟩ = some (.int .i64 kd)) (by kernel_rfl) ?_
  change wpAnyH _ _ _ _ _ _ _ _ (World.drew _)
  generalize W4.drew = v0 at *
  refine wpAnyH_take (i := 0) (v := .pointer (some ⟨sb, 0, none⟩)) rfl (by kernel_rfl) (by kernel_rfl) (by kernel_rfl) (fun _ _ _ h => h) (Or.inl ⟨by rfl, fun w' hs => by go_simp⟩) SC.out ?_
  change wpAnyH _ _ _ _ _ _ _ (Act.put _ (some 71) _) _
  simp only [Act.put, List.setIfInBounds_toArray, List.set_cons_zero, List.set_cons_succ]
  refine wpAnyH_take (i := 1) (v := .int .i64 t) rfl (by kernel_rfl) (by kernel_rfl) (by kernel_rfl) (fun _ _ _ h => h) (Or.inl ⟨by rfl, fun w' hs => by go_simp⟩) SC.out ?_
  change wpAnyH _ _ _ _ _ _ _ (Act.put _ (some 72) _) _
  simp only [Act.put, List.setIfInBounds_toArray, List.set_cons_zero, List.set_cons_succ]
  refine wpAnyH_take (i := 2) (v := .int .i64 (i : Int)) rfl (by kernel_rfl) (by kernel_rfl) (by kernel_rfl) (fun _ _ _ h => h) (Or.inl ⟨by rfl, fun w' hs => by go_simp⟩) SC.out ?_
  change wpAnyH _ _ _ _ _ _ _ (Act.put _ (some 73) _) _
  simp only [Act.put, List.setIfInBounds_toArray, List.set_cons_zero, List.set_cons_succ]
  refine wpAnyH_take (i := 3) (v := .slice (some ⟨g, 0, none⟩) 8 pc) rfl (by kernel_rfl) (by kernel_rfl) (by kernel_rfl) (fun _ _ _ h => h) (Or.inl ⟨by rfl, fun w' hs => by go_simp⟩) SC.out ?_
  change wpAnyH _ _ _ _ _ _ _ (Act.put _ (some 74) _) _
  simp only [Act.put, List.setIfInBounds_toArray, List.set_cons_zero, List.set_cons_succ]
  refine wpAnyH_take (i := 4) (v := .int .i64 (i : Int)) rfl (by kernel_rfl) (by kernel_rfl) (by kernel_rfl) (fun _ _ _ h => h) (Or.inl ⟨by rfl, fun w' hs => by go_simp⟩) SC.out ?_
  change wpAnyH _ _ _ _ _ _ _ (Act.put _ (some 75) _) _
  simp only [Act.put, List.setIfInBounds_toArray, List.set_cons_zero, List.set_cons_succ]
  refine wpAnyH_take (i := 5) (v := .pointer (some ⟨g, i * 2, none⟩)) rfl (by kernel_rfl) (by kernel_rfl) (by kernel_rfl) (fun _ _ _ h => h) (Or.inl ⟨by rfl, fun w' hs => by have h1 := hi8; have h2 := hi8'; go_simp⟩) SC.out ?_
  change wpAnyH _ _ _ _ _ _ _ (Act.put _ (some 76) _) _
  simp only [Act.put, List.setIfInBounds_toArray, List.set_cons_zero, List.set_cons_succ]
  refine wpAnyH_take (i := 6) (v := .pointer (some ⟨g, i * 2, none⟩)) rfl (by kernel_rfl) (by kernel_rfl) (by kernel_rfl) (fun _ _ _ h => h) (Or.inl ⟨by rfl, fun w' hs => by go_simp⟩) SC.out ?_
  change wpAnyH _ _ _ _ _ _ _ (Act.put _ (some 77) _) _
  simp only [Act.put, List.setIfInBounds_toArray, List.set_cons_zero, List.set_cons_succ]
  refine wpAnyH_take (i := 7) (v := .int .i64 pt) rfl (by kernel_rfl) (by kernel_rfl) (by kernel_rfl) (fun _ _ _ h => h) (Or.inl ⟨by rfl, fun w' hs => by have hc := hs.1; go_simp⟩) SC.out ?_
  change wpAnyH _ _ _ _ _ _ _ (Act.put _ (some 78) _) _
  simp only [Act.put, List.setIfInBounds_toArray, List.set_cons_zero, List.set_cons_succ]
  refine wpAnyH_take (i := 8) (v := .slice (some ⟨g, 0, none⟩) 8 pc) rfl (by kernel_rfl) (by kernel_rfl) (by kernel_rfl) (fun _ _ _ h => h) (Or.inl ⟨by rfl, fun w' hs => by go_simp⟩) SC.out ?_
  change wpAnyH _ _ _ _ _ _ _ (Act.put _ (some 79) _) _
  simp only [Act.put, List.setIfInBounds_toArray, List.set_cons_zero, List.set_cons_succ]
  refine wpAnyH_take (i := 9) (v := .int .i64 (i : Int)) rfl (by kernel_rfl) (by kernel_rfl) (by kernel_rfl) (fun _ _ _ h => h) (Or.inl ⟨by rfl, fun w' hs => by go_simp⟩) SC.out ?_
  change wpAnyH _ _ _ _ _ _ _ (Act.put _ (some 80) _) _
  simp only [Act.put, List.setIfInBounds_toArray, List.set_cons_zero, List.set_cons_succ]
  refine wpAnyH_take (i := 10) (v := .pointer (some ⟨g, i * 2, none⟩)) rfl (by kernel_rfl) (by kernel_rfl) (by kernel_rfl) (fun _ _ _ h => h) (Or.inl ⟨by rfl, fun w' hs => by have h1 := hi8; have h2 := hi8'; go_simp⟩) SC.out ?_
  change wpAnyH _ _ _ _ _ _ _ (Act.put _ (some 81) _) _
  simp only [Act.put, List.setIfInBounds_toArray, List.set_cons_zero, List.set_cons_succ]
  refine wpAnyH_take (i := 11) (v := .pointer (some ⟨g, i * 2 + 1, none⟩)) rfl (by kernel_rfl) (by kernel_rfl) (by kernel_rfl) (fun _ _ _ h => h) (Or.inl ⟨by rfl, fun w' hs => by go_simp⟩) SC.out ?_
  change wpAnyH _ _ _ _ _ _ _ (Act.put _ (some 82) _) _
  simp only [Act.put, List.setIfInBounds_toArray, List.set_cons_zero, List.set_cons_succ]
  refine wpAnyH_take (i := 12) (v := .int .i64 kd) rfl (by kernel_rfl) (by kernel_rfl) (by kernel_rfl) (fun _ _ _ h => h) (Or.inl ⟨by rfl, fun w' hs => by have hc := hs.2; go_simp⟩) SC.out ?_
  change wpAnyH _ _ _ _ _ _ _ (Act.put _ (some 83) _) _
  simp only [Act.put, List.setIfInBounds_toArray, List.set_cons_zero, List.set_cons_succ]
  refine wpAnyH_take (i := 13) (v := .agg #[.int .i64 t, .int .i64 (i : Int), .int .i64 pt, .int .i64 kd]) rfl (by kernel_rfl) (by kernel_rfl) (by kernel_rfl) (fun _ _ _ h => h) (Or.inl ⟨by rfl, fun w' hs => by go_simp⟩) SC.out ?_
  change wpAnyH _ _ _ _ _ _ _ (Act.put _ (some 84) _) _
  simp only [Act.put, List.setIfInBounds_toArray, List.set_cons_zero, List.set_cons_succ]
  refine wpAnyH_ready (rs := [14]) (by kernel_rfl) (by simp) ?_
  refine AllReadyH.cons rfl (fun K hK => ?_) AllReadyH.nil
  rw [if_pos (by rfl)]
  go_simp
  refine (HFill.out v0 _ _ _ (S4.out.keep SR.out) H12.out).mono ?_
  rintro e W5 ⟨rfl, s5, b5, a5⟩
  have C5 : Hid (Below W0.heap.size W0 W5) := (on C4.out SR.out).trans b5
  have SC5 : Hid (W5.cell? ⟨g, i * 2, none⟩ = some (.int .i64 pt) ∧ W5.cell? ⟨g, i * 2 + 1, none⟩ = some (.int .i64 kd)) := ⟨by rw [b5.cell (p := ⟨g, i * 2, none⟩) (Nat.lt_trans HG.out HW0.out)]; exact SC.out.1, by rw [b5.cell (p := ⟨g, i * 2 + 1, none⟩) (Nat.lt_trans HG.out HW0.out)]; exact SC.out.2⟩
  have V5P : Hid (Vb W5 P #[.int .i64 0, .int .i64 y] 35) := by
    have h := V4P.out.keep SR.out
    exact (a5 P h.lt HPS.out.1 HPS.out.2).trans h
  have V5 : Hid (Vb W5 w.heap.size #[.int .i64 0, .int .i64 0, .bool false, .slice none 0 0] 29) := (b5.block w.heap.size HW0.out).trans (V4.out.keep SR.out)
  have S5 : Hid (St W5 W0.heap.size sb mb (rs.length + 1) (fillS (trn rs) ⟨t, i, pt, kd⟩ rs.length) (rs.length + 1)) := s5
  refine hK.out _ _ SC5.out (fun _ => ?_)
  clear hK K b5 a5 s5 SC SR S4 V4 V4P C4
  refine wpAnyH_done (by kernel_rfl) ?_ _
  have B5 : Hid (Below w.heap.size w W5) := HB0.out.trans (C5.out.mono HZ.out)
  have S6 : Hid (Vb W5 P #[.int .i64 0, .int .i64 y] 35 ∧ Vb W5 w.heap.size #[.int .i64 0, .int .i64 0, .bool false, .slice none 0 0] 29 ∧ St W5 W0.heap.size sb mb (rs.length + 1) (fillS (trn rs) ⟨t, i, pt, kd⟩ rs.length) (rs.length + 1)) := ⟨V5P.out, V5.out, S5.out⟩
  clear SC5 V5P V5 S5
  go_upto_region 15 with fail
  have SD : Hid (Vb W5.drew P #[.int .i64 0, .int .i64 y] 35 ∧ W5.drew.there w.heap.size 0 4) := ⟨S6.out.1.keep (Below.refl _ _).drew, thr4 (S6.out.2.1.keep (Below.refl _ _).drew)⟩
  have VR : Hid (Vb W5.drew w.heap.size #[.int .i64 0, .int .i64 0, .bool false, .slice none 0 0] 29) := S6.out.2.1.keep (Below.refl _ _).drew
  have SS : Hid (St W5.drew W0.heap.size sb mb (rs.length + 1) (fillS (trn rs) ⟨t, i, pt, kd⟩ rs.length) (rs.length + 1)) := S6.out.2.2.keep (Below.refl _ _).drew
  have BD : Hid (Below w.heap.size w W5.drew) := B5.out.drew
  refine wp_region_held (S := fun w' => Vb w' P #[.int .i64 0, .int .i64 y] 35 ∧ w'.there w.heap.size 0 4) (by kernel_rfl) ?_
  change wpAnyH _ _ _ _ _ _ _ _ (World.drew _)
  generalize W5.drew = v1 at *
  refine wpAnyH_take (i := 0) (v := .pointer (some ⟨P, 1, none⟩)) rfl (by kernel_rfl) (by kernel_rfl) (by kernel_rfl) (fun _ _ _ h => h) (Or.inl ⟨by rfl, fun w' hs => by go_simp⟩) SD.out ?_
  change wpAnyH _ _ _ _ _ _ _ (Act.put _ (some 86) _) _
  simp only [Act.put, List.setIfInBounds_toArray, List.set_cons_zero, List.set_cons_succ]
  refine wpAnyH_take (i := 1) (v := .int .i64 y) rfl (by kernel_rfl) (by kernel_rfl) (by kernel_rfl) (fun _ _ _ h => h) (Or.inl ⟨by rfl, fun w' hs => by have hc : w'.cell? ⟨P, 1, none⟩ = some (.int .i64 y) := hs.1.cell 1 rfl; go_simp⟩) SD.out ?_
  change wpAnyH _ _ _ _ _ _ _ (Act.put _ (some 87) _) _
  simp only [Act.put, List.setIfInBounds_toArray, List.set_cons_zero, List.set_cons_succ]
  refine wpAnyH_take (i := 2) (v := .pointer (some ⟨sb, 0, none⟩)) rfl (by kernel_rfl) (by kernel_rfl) (by kernel_rfl) (fun _ _ _ h => h) (Or.inl ⟨by rfl, fun w' hs => by go_simp⟩) SD.out ?_
  change wpAnyH _ _ _ _ _ _ _ (Act.put _ (some 88) _) _
  simp only [Act.put, List.setIfInBounds_toArray, List.set_cons_zero, List.set_cons_succ]
  refine wpAnyH_ready (rs := [3]) (by kernel_rfl) (by simp) ?_
  refine AllReadyH.cons rfl (fun K hK => ?_) AllReadyH.nil
  rw [if_pos (by rfl)]
  go_simp
  refine (HList.out v1 SS.out).mono ?_
  rintro e v2 ⟨lv, rfl, q2, b2⟩
  obtain ⟨la, lc, hlv, _⟩ := q2.shape
  obtain ⟨ll, hll⟩ : ∃ ll, (fillQ rs ⟨t, i, pt, kd⟩).length = ll := ⟨_, rfl⟩
  rw [hll] at hlv
  subst hlv
  have S2 : Hid (Vb v2 P #[.int .i64 0, .int .i64 y] 35 ∧ v2.there w.heap.size 0 4) := ⟨SD.out.1.keep b2, thr4 (VR.out.keep b2)⟩
  have V2 : Hid (Vb v2 w.heap.size #[.int .i64 0, .int .i64 0, .bool false, .slice none 0 0] 29) := VR.out.keep b2
  have B2 : Hid (Below w.heap.size w v2) := on BD.out b2
  have Q2 : Hid (Qs 65 v2 v1.heap.size (.slice la ll lc) (fillQ rs ⟨t, i, pt, kd⟩)) := q2
  have RL : Hid (w.heap.size < v1.heap.size ∧ w.heap.size ≤ w.heap.size ∧ w.heap.size ≤ v1.heap.size) := ⟨VR.out.lt, Nat.le_refl _, BD.out.size⟩
  have NE : Hid (P ≠ w.heap.size) := HPW.out
  refine hK.out _ _ S2.out (fun _ => ?_)
  clear hK K b2 q2 hll SD BD VR SS
  refine wpAnyH_take (i := 4) (v := .agg #[.int .i64 0, .int .i64 y, .bool false, .slice la ll lc]) rfl (by kernel_rfl) (by kernel_rfl) (by kernel_rfl) (fun _ _ _ h => h) (Or.inl ⟨by rfl, fun w' hs => by go_simp⟩) S2.out ?_
  change wpAnyH _ _ _ _ _ _ _ (Act.put _ (some 90) _) _
  simp only [Act.put, List.setIfInBounds_toArray, List.set_cons_zero, List.set_cons_succ]
  refine wpAnyH_ready (rs := [5]) (by kernel_rfl) (by simp) ?_
  refine AllReadyH.cons rfl (fun K hK => ?_) AllReadyH.nil
  rw [if_pos (by rfl)]
  refine wp_store_mid 29 (.tmp 10) (.tmp 90) rfl w.heap.size 0 #[.int .i64 0, .int .i64 y, .bool false, .slice la ll lc] rfl rfl S2.out.2 (by kernel_rfl) (by simp [Value.oneCell']) ?_
  change K (Act.put _ none undef) (World.setCells v2 w.heap.size 0 [.int .i64 0, .int .i64 y, .bool false, .slice la ll lc])
  simp only [Act.put]
  have V3 : Hid (Vb (v2.setCells w.heap.size 0 [.int .i64 0, .int .i64 y, .bool false, .slice la ll lc]) w.heap.size #[.int .i64 0, .int .i64 y, .bool false, .slice la ll lc] 29) := (((V2.out.set 0 (.int .i64 0)).set 1 (.int .i64 y)).set 2 (.bool false)).set 3 (.slice la ll lc)
  have OWN : (Value.slice la ll lc).ownBlock ≠ some w.heap.size := fun e => qown_not Q2.out w.heap.size (.inl RL.out.1) e.symm
  have Q3 : Hid (Qs 65 (v2.setCells w.heap.size 0 [.int .i64 0, .int .i64 y, .bool false, .slice la ll lc]) w.heap.size (.slice la ll lc) (fillQ rs ⟨t, i, pt, kd⟩)) := ((((Q2.out.put ⟨w.heap.size, 0, none⟩ (.int .i64 0) OWN).put ⟨w.heap.size, 1, none⟩ (.int .i64 y) OWN).put ⟨w.heap.size, 2, none⟩ (.bool false) OWN).put ⟨w.heap.size, 3, none⟩ (.slice la ll lc) OWN).mono RL.out.2.2
  have B3 : Hid (Below w.heap.size w (v2.setCells w.heap.size 0 [.int .i64 0, .int .i64 y, .bool false, .slice la ll lc])) := (((B2.out.setCell (p := ⟨w.heap.size, 0, none⟩) RL.out.2.1 _).setCell (p := ⟨w.heap.size, 1, none⟩) RL.out.2.1 _).setCell (p := ⟨w.heap.size, 2, none⟩) RL.out.2.1 _).setCell (p := ⟨w.heap.size, 3, none⟩) RL.out.2.1 _
  have S3 : Hid (Vb (v2.setCells w.heap.size 0 [.int .i64 0, .int .i64 y, .bool false, .slice la ll lc]) P #[.int .i64 0, .int .i64 y] 35 ∧ (v2.setCells w.heap.size 0 [.int .i64 0, .int .i64 y, .bool false, .slice la ll lc]).there w.heap.size 0 4) := ⟨(((S2.out.1.put ⟨w.heap.size, 0, none⟩ (.int .i64 0) NE.out).put ⟨w.heap.size, 1, none⟩ (.int .i64 y) NE.out).put ⟨w.heap.size, 2, none⟩ (.bool false) NE.out).put ⟨w.heap.size, 3, none⟩ (.slice la ll lc) NE.out, thr4 V3.out⟩
  generalize v2.setCells w.heap.size 0 [.int .i64 0, .int .i64 y, .bool false, .slice la ll lc] = v3 at *
  have r0 := V3.out.cell 0 rfl
  have r1 := V3.out.cell 1 rfl
  have r2 := V3.out.cell 2 rfl
  have r3 := V3.out.cell 3 rfl
  refine hK.out _ _ S3.out (fun _ => ?_)
  clear hK K
  refine wpAnyH_done (by kernel_rfl) ?_ _
  go_wp2_with fail
  exact bodyPost_ret (v := .agg #[.int .i64 0, .int .i64 y, .bool false, .slice la ll lc]) (by simp [results, Try.results6, go_sem, r0, r1, r2, r3]) rfl ⟨_, rfl, by rw [← HLL.out]; exact Q3.out, B3.out⟩
end Go.Proofs.Ytaajaikpkcgalaa
