/- FillCache and FlushCache by the program. -/
import Derived.Test.YteaccakodaidpaaStg
namespace Go.Proofs.Yteaccakodaidpaa
open Go.RowKit
set_option linter.unusedVariables false

/-- An answer of four cells at the head of a block. -/
structure Rc (w : World) (R : Nat) (c v : Int) (f : Bool) (s : Value) : Prop where
  r0 : w.cell? ⟨R, 0, none⟩ = some (.int .i64 c)
  r1 : w.cell? ⟨R, 1, none⟩ = some (.int .i64 v)
  r2 : w.cell? ⟨R, 2, none⟩ = some (.bool f)
  r3 : w.cell? ⟨R, 3, none⟩ = some s
  f0 : w.frozen? ⟨R, 0, none⟩ = false
  f1 : w.frozen? ⟨R, 1, none⟩ = false
  f2 : w.frozen? ⟨R, 2, none⟩ = false
  f3 : w.frozen? ⟨R, 3, none⟩ = false
theorem Rc.lt {w : World} {R : Nat} {c v : Int} {f : Bool} {s : Value} (h : Rc w R c v f s) : R < w.heap.size := block_of_cell h.r0
theorem Rc.below {w w' : World} {R B : Nat} {c v : Int} {f : Bool} {s : Value} (h : Rc w R c v f s) (hb : Below B w w') (hR : R < B) : Rc w' R c v f s :=
  ⟨by rw [hb.cell (p := ⟨R, 0, none⟩) hR]; exact h.r0, by rw [hb.cell (p := ⟨R, 1, none⟩) hR]; exact h.r1, by rw [hb.cell (p := ⟨R, 2, none⟩) hR]; exact h.r2, by rw [hb.cell (p := ⟨R, 3, none⟩) hR]; exact h.r3,
   by rw [hb.frozen (p := ⟨R, 0, none⟩) hR]; exact h.f0, by rw [hb.frozen (p := ⟨R, 1, none⟩) hR]; exact h.f1, by rw [hb.frozen (p := ⟨R, 2, none⟩) hR]; exact h.f2, by rw [hb.frozen (p := ⟨R, 3, none⟩) hR]; exact h.f3⟩
theorem Rc.keep {w w' : World} {R : Nat} {c v : Int} {f : Bool} {s : Value} (h : Rc w R c v f s) (hb : Below w.heap.size w w') : Rc w' R c v f s := h.below hb h.lt
theorem Rc.made (w : World) : Rc (w.alloc (.cells #[.int .i64 0, .int .i64 0, .bool false, .slice none 0 0] 30)) w.heap.size 0 0 false (.slice none 0 0) := by
  constructor <;> simp

theorem trn_rise (l : List Qd) : (trn l).Pairwise fun a b => a.1 < b.1 := by
  unfold trn
  rw [List.pairwise_map]
  have : ∀ (l : List Qd) (k : Nat), (l.zipIdx k).Pairwise fun a b => (a.2 : Int) < (b.2 : Int) := by
    intro l
    induction l with
    | nil => intro k; simp
    | cons q r ih =>
      intro k
      rw [List.zipIdx_cons, List.pairwise_cons]
      refine ⟨fun x hx => ?_, ih (k + 1)⟩
      have := (List.mem_zipIdx hx).1
      omega
  exact this l 0
theorem trn_hits (l : List Qd) : hitsOf (trn l) = l := by
  unfold hitsOf trn
  rw [List.map_map]
  have : ∀ (l : List Qd) (k : Nat), (l.zipIdx k).map ((fun e : Int × Qd => e.2) ∘ fun x => ((x.2 : Int), x.1)) = l := by
    intro l
    induction l with
    | nil => intro k; rfl
    | cons q r ih => intro k; simp [List.zipIdx_cons] at ih ⊢; exact ih (k + 1)
  exact this l 0
theorem trn_lt (l : List Qd) : ∀ e ∈ trn l, e.1 < l.length := by
  intro e he
  unfold trn at he
  obtain ⟨x, hx, rfl⟩ := List.mem_map.1 he
  have := (List.mem_zipIdx hx).2.1
  simp only
  omega

def notKey (t p : Int) (q : Qd) : Bool := !(q.tag == t && q.page == p)
/-- A cache behind a hit that is filled in. -/
def fillQ (rs : List Qd) (q : Qd) : List Qd := (if hasQ rs q.tag q.page then rs.filter (notKey q.tag q.page) else if rs.length = 12 then rs.tail else rs) ++ [q]
theorem hits_drp (s : List (Int × Qd)) (t p : Int) : hitsOf (drp s t p) = (hitsOf s).filter (notKey t p) := by
  unfold hitsOf drp
  rw [List.filter_map]
  rfl
theorem hits_fill (rs : List Qd) (q : Qd) (nx : Int) : hitsOf (fillS (trn rs) q nx) = fillQ rs q := by
  unfold fillS fillQ
  rw [trn_any, trn_length]
  have e : ∀ a b : List (Int × Qd), hitsOf (a ++ b) = hitsOf a ++ hitsOf b := fun a b => by simp [hitsOf]
  rw [e]
  congr 1
  split
  · rw [hits_drp, trn_hits]
  · split
    · have : hitsOf (trn rs).tail = (hitsOf (trn rs)).tail := by simp [hitsOf]
      rw [this, trn_hits]
    · exact trn_hits rs
theorem fill_rise (rs : List Qd) (q : Qd) : (fillS (trn rs) q rs.length).Pairwise fun a b => a.1 < b.1 := by
  unfold fillS
  have hsub : ∀ l : List (Int × Qd), l.Sublist (trn rs) → (l ++ [((rs.length : Int), q)]).Pairwise fun a b => a.1 < b.1 := fun l hl => by
    rw [List.pairwise_append]
    refine ⟨(trn_rise rs).sublist hl, by simp, fun a ha b hb => ?_⟩
    rw [List.mem_singleton] at hb
    subst hb
    exact trn_lt rs a (hl.subset ha)
  refine hsub _ ?_
  split
  · exact List.filter_sublist
  · split
    · exact List.tail_sublist _
    · exact List.Sublist.refl _
theorem fill_length (rs : List Qd) (q : Qd) (nx : Int) (hap : (trn rs).Pairwise fun a b => ¬ (a.2.tag = b.2.tag ∧ a.2.page = b.2.page)) (h : rs.length ≤ 12) : (fillS (trn rs) q nx).length ≤ 12 := by
  unfold fillS
  rw [List.length_append, List.length_singleton]
  split
  · next ha =>
    have := drp_length (t := q.tag) (p := q.page) hap
    rw [ha, trn_length] at this
    simp at this
    omega
  · split
    · next hl => rw [List.length_tail, hl]; omega
    · next hl => rw [trn_length] at hl ⊢; omega

/-- Code and cache of FillCache. -/
def fcC (rs : List Qd) (q : Qd) : Int := if cfV rs = 0 then hfV q else cfV rs
def fcL (rs : List Qd) (q : Qd) : List Qd := if fcC rs q = 0 then fillQ rs q else []

set_option maxRecDepth 100000 in
set_option maxHeartbeats 2000000 in
theorem impl_fillCache (a : Option Addr) (len cap : Nat) (rs : List Qd) (q : Qd) (w : World) (h : IsQuads w a len cap rs) :
    Calls Try.prog 11 #[.slice a len cap, q.val] w fun e w' => ∃ v, e = .returned (.agg #[.int .i64 (fcC rs q), .int .i64 0, .bool false, v]) ∧ Qs 26 w' w.heap.size v (fcL rs q) ∧ Below w.heap.size w w' := by
  have hF := fun u (z : Below w.heap.size w u) => impl_storeOf a len cap rs u (h.stay z)
  have hH := impl_hitFault q
  clear h
  obtain ⟨W0, hW0⟩ : ∃ W0, (w.alloc (.cells #[.int .i64 q.tag, .int .i64 q.page, .int .i64 q.to, .int .i64 q.kinds] 26)).alloc (.cells #[.int .i64 0, .int .i64 0, .bool false, .slice none 0 0] 30) = W0 := ⟨_, rfl⟩
  have b0 : Below w.heap.size w W0 := by rw [← hW0]; exact al (al (Below.refl _ _) _) _
  have R0 : Rc W0 (w.heap.size + 1) 0 0 false (.slice none 0 0) := by
    have := Rc.made (w.alloc (.cells #[.int .i64 q.tag, .int .i64 q.page, .int .i64 q.to, .int .i64 q.kinds] 26))
    rw [World.size_alloc, hW0] at this
    exact this
  have q0 : W0.cell? ⟨w.heap.size, 0, none⟩ = some (.int .i64 q.tag) := by rw [← hW0]; exact cell_push _ (cell_new rfl)
  have q1 : W0.cell? ⟨w.heap.size, 1, none⟩ = some (.int .i64 q.page) := by rw [← hW0]; exact cell_push _ (cell_new rfl)
  have q2 : W0.cell? ⟨w.heap.size, 2, none⟩ = some (.int .i64 q.to) := by rw [← hW0]; exact cell_push _ (cell_new rfl)
  have q3 : W0.cell? ⟨w.heap.size, 3, none⟩ = some (.int .i64 q.kinds) := by rw [← hW0]; exact cell_push _ (cell_new rfl)
  have HW0 : Hid ((w.alloc (.cells #[.int .i64 q.tag, .int .i64 q.page, .int .i64 q.to, .int .i64 q.kinds] 26)).alloc (.cells #[.int .i64 0, .int .i64 0, .bool false, .slice none 0 0] 30) = W0) := hW0
  have B0 : Hid (Below w.heap.size w W0) := b0
  have HF := hF W0 b0
  have HR0 : Hid (Rc W0 (w.heap.size + 1) 0 0 false (.slice none 0 0)) := R0
  clear hW0 b0 hF R0
  unfold Qd.val at hH ⊢
  by_cases hc : cfV rs = 0
  case neg =>
    have e1 : fcC rs q = cfV rs := if_neg hc
    have e2 : fcL rs q = [] := if_neg (by rw [e1]; exact hc)
    rw [e1, e2]
    have g : (cfV rs != 0) = true := by simpa using hc
    clear e1 e2 hc hH q0 q1 q2 q3
    generalize cfV rs = c at *
    go_enter Try.func11, Try.ntmps11
    go_wp2_with fail
    rw [HW0.out]
    refine HF.mono ?_
    rintro e w1 ⟨v, rfl, b1, _, _⟩
    obtain ⟨r0, r1, r2, r3, f0, f1, f2, f3⟩ := HR0.out.keep b1
    have B1 : Hid (Below w.heap.size w w1) := on B0.out b1
    clear b1 HF
    go_wp2_with fail
    exact bodyPost_ret (v := .agg #[.int .i64 c, .int .i64 0, .bool false, .slice none 0 0]) (by simp [results, Try.results11, go_sem, r0, r1, r2, r3]) rfl ⟨_, rfl, Qs.nil _ _ _, (((B1.out.setCell (by simp) _).setCell (by simp) _).setCell (by simp) _).setCell (by simp) _⟩
  have HC : Hid (cfV rs = 0) := hc
  have e1 : fcC rs q = hfV q := if_pos hc
  cases hq : okQ q
  · have e3 : hfV q = 3 := by simp [hfV, hq]
    have e2 : fcL rs q = [] := if_neg (by rw [e1, e3]; decide)
    rw [e1, e2, e3]
    rw [e3] at hH
    clear e1 e2 e3 hc
    go_enter Try.func11, Try.ntmps11
    go_wp2_with fail
    rw [HW0.out]
    refine HF.mono ?_
    rintro e w1 ⟨v, rfl, b1, _, _⟩
    rw [HC.out]
    have R1 := HR0.out.keep b1
    have q0 := cell_keep b1 q0
    have q1 := cell_keep b1 q1
    have q2 := cell_keep b1 q2
    have q3 := cell_keep b1 q3
    have HR1 : Hid (Rc w1 (w.heap.size + 1) 0 0 false (.slice none 0 0)) := R1
    have B1 : Hid (Below w.heap.size w w1) := on B0.out b1
    clear b1 HF R1
    go_wp2_with fail
    refine (hH _).mono ?_
    rintro e w2 ⟨rfl, b2⟩
    obtain ⟨r0, r1, r2, r3, f0, f1, f2, f3⟩ := HR1.out.keep b2
    have B2 : Hid (Below w.heap.size w w2) := on B1.out b2
    clear b2
    go_wp2_with fail
    exact bodyPost_ret (v := .agg #[.int .i64 3, .int .i64 0, .bool false, .slice none 0 0]) (by simp [results, Try.results11, go_sem, r0, r1, r2, r3]) rfl ⟨_, rfl, Qs.nil _ _ _, (((B2.out.setCell (by simp) _).setCell (by simp) _).setCell (by simp) _).setCell (by simp) _⟩
  have e3 : hfV q = 0 := by simp [hfV, hq]
  have e2 : fcL rs q = fillQ rs q := if_pos (by rw [e1, e3])
  rw [e1, e2, e3]
  rw [e3] at hH
  have HQ : Hid (okQ q = true) := hq
  have hFill := fun u base sb mb (S : St u base sb mb rs.length (trn rs) rs.length) (h12 : rs.length ≤ 12) => impl_fill q (trn rs) rs.length base sb mb rs.length u S HQ.out (by omega) (by omega) (trn_rise rs)
  have hList := fun u base sb mb n nx (S : St u base sb mb n (fillS (trn rs) q rs.length) nx) (h12 : (fillS (trn rs) q rs.length).length ≤ 12) => impl_list base sb mb n (fillS (trn rs) q rs.length) nx u S h12 (fill_rise rs q)
  rw [hits_fill] at hList
  unfold Qd.val at hFill
  have HFill : Hid (∀ u base sb mb, St u base sb mb rs.length (trn rs) rs.length → rs.length ≤ 12 → Calls Try.prog 48 #[.pointer (some ⟨sb, 0, none⟩), .agg #[.int .i64 q.tag, .int .i64 q.page, .int .i64 q.to, .int .i64 q.kinds]] u fun e w' => e = .returned (.tuple #[]) ∧ St w' base sb mb (rs.length + 1) (fillS (trn rs) q rs.length) (rs.length + 1) ∧ Below base u w') := hFill
  have HList : Hid (∀ u base sb mb n nx, St u base sb mb n (fillS (trn rs) q rs.length) nx → (fillS (trn rs) q rs.length).length ≤ 12 → Calls Try.prog 49 #[.pointer (some ⟨sb, 0, none⟩)] u fun e w' => ∃ v, e = .returned v ∧ Qs 26 w' u.heap.size v (fillQ rs q) ∧ Below u.heap.size u w') := hList
  clear e1 e2 e3 hc hq hFill hList
  go_enter Try.func11, Try.ntmps11
  go_wp2_with fail
  rw [HW0.out]
  refine HF.mono ?_
  rintro e w1 ⟨v, rfl, b1, _, hM⟩
  obtain ⟨sb, mb, rfl, h12, hS⟩ := hM HC.out
  rw [HC.out]
  have q0 := cell_keep b1 q0
  have q1 := cell_keep b1 q1
  have q2 := cell_keep b1 q2
  have q3 := cell_keep b1 q3
  have HR1 : Hid (Rc w1 (w.heap.size + 1) 0 0 false (.slice none 0 0)) := HR0.out.keep b1
  have HS : Hid (St w1 W0.heap.size sb mb rs.length (trn rs) rs.length) := hS
  have B1 : Hid (Below W0.heap.size W0 w1) := b1
  have H12 : Hid (rs.length ≤ 12) := h12
  clear b1 HF hM hS h12
  go_wp2_with fail
  refine (hH _).mono ?_
  rintro e w2 ⟨rfl, b2⟩
  have q0 := cell_keep b2 q0
  have q1 := cell_keep b2 q1
  have q2 := cell_keep b2 q2
  have q3 := cell_keep b2 q3
  have HR2 : Hid (Rc w2 (w.heap.size + 1) 0 0 false (.slice none 0 0)) := HR1.out.keep b2
  have HS2 : Hid (St w2 W0.heap.size sb mb rs.length (trn rs) rs.length) := HS.out.keep b2
  have B2 : Hid (Below W0.heap.size W0 w2) := on B1.out b2
  clear b2 HS HR1 B1
  have HF2 := HFill.out w2 W0.heap.size sb mb HS2.out H12.out
  go_wp2_with fail
  refine HF2.mono ?_
  rintro e w3 ⟨rfl, s3, b3⟩
  have R3 : Hid (Rc w3 (w.heap.size + 1) 0 0 false (.slice none 0 0)) := HR2.out.below b3 HR0.out.lt
  have B3 : Hid (Below W0.heap.size W0 w3) := B2.out.trans b3
  have HF3 := HList.out w3 W0.heap.size sb mb _ _ s3 (fill_length rs q _ HS2.out.hm.apart H12.out)
  clear b3 s3 HF2 q0 q1 q2 q3
  go_wp2_with fail
  refine HF3.mono ?_
  rintro e w4 ⟨v4, rfl, n4, b4⟩
  obtain ⟨r0, r1, r2, r3, f0, f1, f2, f3⟩ := R3.out.keep b4
  have N4 : Hid (Qs 26 w4 w3.heap.size v4 (fillQ rs q)) := n4
  have B4 : Hid (Below w.heap.size w w4) := on B0.out (on B3.out b4)
  have HSZ : Hid (w.heap.size + 1 < w3.heap.size) := R3.out.lt
  obtain ⟨qa, qc, rfl, _, _, _⟩ := n4.shape
  clear b4 HF3 n4
  go_wp2_with fail
  refine bodyPost_ret (v := .agg #[.int .i64 0, .int .i64 0, .bool false, .slice qa (fillQ rs q).length qc]) (by simp [results, Try.results11, go_sem, r0, r1, r2, r3]) rfl ⟨_, rfl, ?_, (((B4.out.setCell (by simp) _).setCell (by simp) _).setCell (by simp) _).setCell (by simp) _⟩
  have hnb : (Value.slice qa (fillQ rs q).length qc).ownBlock ≠ some (w.heap.size + 1) := fun e => qown_not N4.out (w.heap.size + 1) (.inl HSZ.out) e.symm
  exact (((((N4.out.put _ _ hnb).put _ _ hnb).put _ _ hnb).put _ _ hnb).mono (by have := HSZ.out; omega))
end Go.Proofs.Yteaccakodaidpaa
