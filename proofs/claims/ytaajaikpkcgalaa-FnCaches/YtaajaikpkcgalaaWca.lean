/- WalkCached by the program: walkFault, byHit, and the two arms of the walk. -/
import Derived.Test.YtaajaikpkcgalaaFil
import Derived.Test.YtaajaikpkcgalaaPgu
import Derived.Test.YtaajaikpkcgalaaHnm
import Derived.Deep.RegionHeld3
namespace Go.Proofs.Ytaajaikpkcgalaa
open Go.RowKit
set_option linter.unusedVariables false

theorem thr4 {w : World} {q : Nat} {a b c d : Value} {t : TypeId} (h : Vb w q #[a, b, c, d] t) : w.there q 0 4 := fun j hj => by
  rw [Nat.zero_add]
  refine ⟨?_, h.free _⟩
  have e : j = 0 ∨ j = 1 ∨ j = 2 ∨ j = 3 := by omega
  rcases e with rfl | rfl | rfl | rfl
  · rw [h.cell 0 rfl]; rfl
  · rw [h.cell 1 rfl]; rfl
  · rw [h.cell 2 rfl]; rfl
  · rw [h.cell 3 rfl]; rfl
/-- What a walk asks of all but the cache; of the cache, too. -/
def wfX (t pf k : Int) : Int := if tagB t then (if pf = 0 then (if kindB k then 0 else 3) else pf) else 3
def wcX (rs : List Qd) (t pf k : Int) : Int := if cfV rs = 0 then wfX t pf k else cfV rs
theorem wfX_zero {t pf k : Int} (h : wfX t pf k = 0) : tagB t = true ∧ pf = 0 ∧ kindB k = true := by
  unfold wfX at h
  cases ht : tagB t <;> rw [ht] at h
  · simp at h
  · by_cases hp : pf = 0
    · cases hk : kindB k
      · rw [hp, hk] at h; simp at h
      · exact ⟨rfl, hp, rfl⟩
    · rw [if_pos rfl, if_neg hp] at h; exact absurd h hp
set_option maxHeartbeats 1000000 in
theorem impl_walkFault (t k pf : Int) (pa : Option Addr) (pn pc : Nat) (w : World)
    (hG : Calls Try.prog 30 #[.slice pa pn pc, .int .i64 24] w fun e w' => e = .returned (.int .i64 pf) ∧ Below w.heap.size w w') :
    Calls Try.prog 21 #[.int .i64 t, .slice pa pn pc, .int .i64 k] w fun e w' => e = .returned (.int .i64 (wfX t pf k)) ∧ Below w.heap.size w w' := by
  cases ht : tagB t
  · have e1 : wfX t pf k = 3 := by simp [wfX, ht]
    rw [e1]
    go_enter Try.func21, Try.ntmps21
    go_wp2_with (go_at_call 27; refine (impl_isTag _ _).mono ?_; rintro e w1 ⟨rfl, rfl⟩; rw [ht])
    go_ret
    exact ⟨rfl, Below.refl _ _⟩
  by_cases hp : pf = 0
  case neg =>
    have e1 : wfX t pf k = pf := by simp [wfX, ht, hp]
    have hp2 : (pf != 0) = true := by simpa using hp
    rw [e1]
    go_enter Try.func21, Try.ntmps21
    go_wp2_with (first | (go_at_call 27; refine (impl_isTag _ _).mono ?_; rintro e w1 ⟨rfl, rfl⟩; rw [ht]) | (go_at_call 30; refine hG.mono ?_; rintro e w2 ⟨rfl, b2⟩))
    go_ret
    exact ⟨rfl, b2⟩
  subst hp
  have e1 : wfX t 0 k = if kindB k then 0 else 3 := by simp [wfX, ht]
  rw [e1]
  cases hk : kindB k
  · go_enter Try.func21, Try.ntmps21
    go_wp2_with (first | (go_at_call 27; refine (impl_isTag _ _).mono ?_; rintro e w1 ⟨rfl, rfl⟩; rw [ht]) | (go_at_call 30; refine hG.mono ?_; rintro e w2 ⟨rfl, b2⟩) | (go_at_call 42; refine (impl_kind _ _).mono ?_; rintro e w3 ⟨rfl, rfl⟩; rw [hk]))
    go_ret
    exact ⟨rfl, b2⟩
  · go_enter Try.func21, Try.ntmps21
    go_wp2_with (first | (go_at_call 27; refine (impl_isTag _ _).mono ?_; rintro e w1 ⟨rfl, rfl⟩; rw [ht]) | (go_at_call 30; refine hG.mono ?_; rintro e w2 ⟨rfl, b2⟩) | (go_at_call 42; refine (impl_kind _ _).mono ?_; rintro e w3 ⟨rfl, rfl⟩; rw [hk]))
    go_ret
    exact ⟨rfl, b2⟩

/-- The store's list, of all its hits. -/
theorem list_trn (rs : List Qd) (base sb mb n : Nat) (nx : Int) (h12 : rs.length ≤ 12) (u : World) (S : St u base sb mb n (trn rs) nx) :
    Calls Try.prog 26 #[.pointer (some ⟨sb, 0, none⟩)] u fun e w' => ∃ v, e = .returned v ∧ Qs 65 w' u.heap.size v rs ∧ Below u.heap.size u w' := by
  have h := impl_list base sb mb n (trn rs) nx u S (by rw [trn_length]; exact h12) (trn_rise rs)
  rw [trn_hits] at h
  exact h
theorem wpg_no {q k : Int} (p x : Int) (h : ¬ wpgC q k = 0) : wpgV p q x k = 0 := by
  unfold wpgC at h
  unfold wpgV
  cases hk : kindB k
  · rfl
  · rw [hk] at h
    cases hq : (bits BinOp.and .i64 q k == 0)
    · rw [hq] at h; exact absurd rfl h
    · rfl

set_option maxRecDepth 20000 in
set_option maxHeartbeats 4000000 in
theorem impl_byHit (base sb mb n : Nat) (nx : Int) (rs : List Qd) (f o q x k : Int) (w : World) (S : St w base sb mb n (trn rs) nx) (h12 : rs.length ≤ 12) (hh : (bits BinOp.and .i64 q k == 0) = false → 0 ≤ o ∧ o ≤ 23 ∧ 0 ≤ x ∧ x ≤ 63) :
    Calls Try.prog 23 #[.pointer (some ⟨sb, 0, none⟩), .agg #[.int .i64 f, .int .i64 o, .int .i64 q], .int .i64 x, .int .i64 k] w fun e w' => ∃ v, e = .returned (.agg #[.int .i64 (wpgC q k), .int .i64 (wpgV o q x k), .bool true, v]) ∧ Qs 65 w' w.heap.size v (if wpgC q k = 0 then rs else []) ∧ Below w.heap.size w w' := by
  have hW := fun u => impl_walkPage o q x k u hh
  have HL : Hid (∀ u, St u base sb mb n (trn rs) nx → Calls Try.prog 26 #[.pointer (some ⟨sb, 0, none⟩)] u fun e w' => ∃ v, e = .returned v ∧ Qs 65 w' u.heap.size v rs ∧ Below u.heap.size u w') := fun u => list_trn rs base sb mb n nx h12 u
  obtain ⟨R, hR⟩ : ∃ R, w.heap.size + 1 = R := ⟨_, rfl⟩
  have b0 : Below w.heap.size w ((w.alloc (.cells #[.int .i64 f, .int .i64 o, .int .i64 q] 53)).alloc (.cells #[.int .i64 0, .int .i64 0, .bool false, .slice none 0 0] 29)) := al (al (Below.refl _ _) _) _
  have S0 : Hid (St ((w.alloc (.cells #[.int .i64 f, .int .i64 o, .int .i64 q] 53)).alloc (.cells #[.int .i64 0, .int .i64 0, .bool false, .slice none 0 0] 29)) base sb mb n (trn rs) nx) := S.keep b0
  have V0 : Hid (Vb ((w.alloc (.cells #[.int .i64 f, .int .i64 o, .int .i64 q] 53)).alloc (.cells #[.int .i64 0, .int .i64 0, .bool false, .slice none 0 0] 29)) R #[.int .i64 0, .int .i64 0, .bool false, .slice none 0 0] 29) := by
    have := Vb.new (w.alloc (.cells #[.int .i64 f, .int .i64 o, .int .i64 q] 53)) #[.int .i64 0, .int .i64 0, .bool false, .slice none 0 0] 29
    rw [World.size_alloc, hR] at this
    exact this
  have B0 : Hid (Below w.heap.size w ((w.alloc (.cells #[.int .i64 f, .int .i64 o, .int .i64 q] 53)).alloc (.cells #[.int .i64 0, .int .i64 0, .bool false, .slice none 0 0] 29))) := b0
  have HR : Hid (w.heap.size ≤ R) := by show _ ≤ _; omega
  clear b0 S hh h12
  generalize hc : wpgC q k = c at *
  have HV : Hid (¬ c = 0 → wpgV o q x k = 0) := fun hn => wpg_no o x (by rw [hc]; exact hn)
  generalize wpgV o q x k = y at *
  obtain ⟨L, hL⟩ : ∃ L, (if c = 0 then rs else []) = L := ⟨_, rfl⟩
  have HL0 : Hid (c = 0 → rs = L) := fun e => by rw [if_pos e] at hL; exact hL
  have HL1 : Hid (¬ c = 0 → [] = L) := fun e => by rw [if_neg e] at hL; exact hL
  rw [hL]
  clear hL
  go_enter Try.func23, Try.ntmps23
  go_wp2_with fail
  generalize (w.alloc (.cells #[.int .i64 f, .int .i64 o, .int .i64 q] 53)).alloc (.cells #[.int .i64 0, .int .i64 0, .bool false, .slice none 0 0] 29) = W0 at *
  refine (hW _).mono ?_
  rintro e w1 ⟨rfl, b1⟩
  have S1 : Hid (St w1 base sb mb n (trn rs) nx) := S0.out.keep b1
  have V1 : Hid (Vb w1 R #[.int .i64 0, .int .i64 0, .bool false, .slice none 0 0] 29) := V0.out.keep b1
  have B1 : Hid (Below w.heap.size w w1) := on B0.out b1
  clear b1 S0 V0 B0 hW hc hR
  obtain ⟨P, hP⟩ : ∃ P, w1.heap.size = P := ⟨_, rfl⟩
  have S2 : Hid (Vb (w1.alloc (.cells #[.int .i64 c, .int .i64 y] 35)) P #[.int .i64 c, .int .i64 y] 35 ∧ Vb (w1.alloc (.cells #[.int .i64 c, .int .i64 y] 35)) R #[.int .i64 0, .int .i64 0, .bool false, .slice none 0 0] 29 ∧ St (w1.alloc (.cells #[.int .i64 c, .int .i64 y] 35)) base sb mb n (trn rs) nx) := ⟨by rw [← hP]; exact Vb.new _ _ _, V1.out.push _, S1.out.keep (al (Below.refl _ _) _)⟩
  have B2 : Hid (Below w.heap.size w (w1.alloc (.cells #[.int .i64 c, .int .i64 y] 35))) := al B1.out _
  have HPR : Hid (P ≠ R) := by show _ ≠ _; have := V1.out.lt; omega
  clear S1 V1 B1
  by_cases hc0 : c = 0
  · subst hc0
    clear HV
    obtain rfl := HL0.out rfl
    clear HL0 HL1
    go_upto_region 4 with fail
    generalize w1.alloc (.cells #[.int .i64 0, .int .i64 y] 35) = W2 at *
    clear hP
    have SD : Hid (Vb W2.drew P #[.int .i64 0, .int .i64 y] 35 ∧ W2.drew.there R 0 4) := ⟨S2.out.1.keep (Below.refl _ _).drew, thr4 (S2.out.2.1.keep (Below.refl _ _).drew)⟩
    have VR : Hid (Vb W2.drew R #[.int .i64 0, .int .i64 0, .bool false, .slice none 0 0] 29) := S2.out.2.1.keep (Below.refl _ _).drew
    have SS : Hid (St W2.drew base sb mb n (trn rs) nx) := S2.out.2.2.keep (Below.refl _ _).drew
    have BD : Hid (Below w.heap.size w W2.drew) := B2.out.drew
    refine wp_region_held (S := fun w' => Vb w' P #[.int .i64 0, .int .i64 y] 35 ∧ w'.there R 0 4) (by kernel_rfl) ?_
    change wpAnyH _ _ _ _ _ _ _ _ (World.drew _)
    generalize W2.drew = v1 at *
    refine wpAnyH_take (i := 0) (v := .pointer (some ⟨P, 1, none⟩)) rfl (by kernel_rfl) (by kernel_rfl) (by kernel_rfl) (fun _ _ _ h => h) (Or.inl ⟨by rfl, fun w' hs => by go_simp⟩) SD.out ?_
    change wpAnyH _ _ _ _ _ _ _ (Act.put _ (some 21) _) _
    simp only [Act.put, List.setIfInBounds_toArray, List.set_cons_zero, List.set_cons_succ]
    refine wpAnyH_take (i := 1) (v := .int .i64 y) rfl (by kernel_rfl) (by kernel_rfl) (by kernel_rfl) (fun _ _ _ h => h) (Or.inl ⟨by rfl, fun w' hs => by have hc : w'.cell? ⟨P, 1, none⟩ = some (.int .i64 y) := hs.1.cell 1 rfl; go_simp⟩) SD.out ?_
    change wpAnyH _ _ _ _ _ _ _ (Act.put _ (some 22) _) _
    simp only [Act.put, List.setIfInBounds_toArray, List.set_cons_zero, List.set_cons_succ]
    refine wpAnyH_take (i := 2) (v := .pointer (some ⟨sb, 0, none⟩)) rfl (by kernel_rfl) (by kernel_rfl) (by kernel_rfl) (fun _ _ _ h => h) (Or.inl ⟨by rfl, fun w' hs => by go_simp⟩) SD.out ?_
    change wpAnyH _ _ _ _ _ _ _ (Act.put _ (some 23) _) _
    simp only [Act.put, List.setIfInBounds_toArray, List.set_cons_zero, List.set_cons_succ]
    refine wpAnyH_ready (rs := [3]) (by kernel_rfl) (by simp) ?_
    refine AllReadyH.cons rfl (fun K hK => ?_) AllReadyH.nil
    rw [if_pos (by rfl)]
    go_simp
    refine (HL.out v1 SS.out).mono ?_
    rintro e v2 ⟨lv, rfl, q2, b2⟩
    obtain ⟨la, lc, hlv, _⟩ := q2.shape
    obtain ⟨ll, hll⟩ : ∃ ll, (rs).length = ll := ⟨_, rfl⟩
    rw [hll] at hlv
    subst hlv
    have S2 : Hid (Vb v2 P #[.int .i64 0, .int .i64 y] 35 ∧ v2.there R 0 4) := ⟨SD.out.1.keep b2, thr4 (VR.out.keep b2)⟩
    have V2 : Hid (Vb v2 R #[.int .i64 0, .int .i64 0, .bool false, .slice none 0 0] 29) := VR.out.keep b2
    have B2 : Hid (Below w.heap.size w v2) := on BD.out b2
    have Q2 : Hid (Qs 65 v2 v1.heap.size (.slice la ll lc) (rs)) := q2
    have RL : Hid (R < v1.heap.size ∧ w.heap.size ≤ R ∧ w.heap.size ≤ v1.heap.size) := ⟨VR.out.lt, HR.out, BD.out.size⟩
    have NE : Hid (P ≠ R) := HPR.out
    refine hK.out _ _ S2.out (fun _ => ?_)
    clear hK K b2 q2 hll SD BD VR SS
    refine wpAnyH_take (i := 4) (v := .agg #[.int .i64 0, .int .i64 y, .bool true, .slice la ll lc]) rfl (by kernel_rfl) (by kernel_rfl) (by kernel_rfl) (fun _ _ _ h => h) (Or.inl ⟨by rfl, fun w' hs => by go_simp⟩) S2.out ?_
    change wpAnyH _ _ _ _ _ _ _ (Act.put _ (some 25) _) _
    simp only [Act.put, List.setIfInBounds_toArray, List.set_cons_zero, List.set_cons_succ]
    refine wpAnyH_ready (rs := [5]) (by kernel_rfl) (by simp) ?_
    refine AllReadyH.cons rfl (fun K hK => ?_) AllReadyH.nil
    rw [if_pos (by rfl)]
    refine wp_store_mid 29 (.tmp 8) (.tmp 25) rfl R 0 #[.int .i64 0, .int .i64 y, .bool true, .slice la ll lc] rfl rfl S2.out.2 (by kernel_rfl) (by simp [Value.oneCell']) ?_
    change K (Act.put _ none undef) (World.setCells v2 R 0 [.int .i64 0, .int .i64 y, .bool true, .slice la ll lc])
    simp only [Act.put]
    have V3 : Hid (Vb (v2.setCells R 0 [.int .i64 0, .int .i64 y, .bool true, .slice la ll lc]) R #[.int .i64 0, .int .i64 y, .bool true, .slice la ll lc] 29) := (((V2.out.set 0 (.int .i64 0)).set 1 (.int .i64 y)).set 2 (.bool true)).set 3 (.slice la ll lc)
    have OWN : (Value.slice la ll lc).ownBlock ≠ some R := fun e => qown_not Q2.out R (.inl RL.out.1) e.symm
    have Q3 : Hid (Qs 65 (v2.setCells R 0 [.int .i64 0, .int .i64 y, .bool true, .slice la ll lc]) w.heap.size (.slice la ll lc) (rs)) := ((((Q2.out.put ⟨R, 0, none⟩ (.int .i64 0) OWN).put ⟨R, 1, none⟩ (.int .i64 y) OWN).put ⟨R, 2, none⟩ (.bool true) OWN).put ⟨R, 3, none⟩ (.slice la ll lc) OWN).mono RL.out.2.2
    have B3 : Hid (Below w.heap.size w (v2.setCells R 0 [.int .i64 0, .int .i64 y, .bool true, .slice la ll lc])) := (((B2.out.setCell (p := ⟨R, 0, none⟩) RL.out.2.1 _).setCell (p := ⟨R, 1, none⟩) RL.out.2.1 _).setCell (p := ⟨R, 2, none⟩) RL.out.2.1 _).setCell (p := ⟨R, 3, none⟩) RL.out.2.1 _
    have S3 : Hid (Vb (v2.setCells R 0 [.int .i64 0, .int .i64 y, .bool true, .slice la ll lc]) P #[.int .i64 0, .int .i64 y] 35 ∧ (v2.setCells R 0 [.int .i64 0, .int .i64 y, .bool true, .slice la ll lc]).there R 0 4) := ⟨(((S2.out.1.put ⟨R, 0, none⟩ (.int .i64 0) NE.out).put ⟨R, 1, none⟩ (.int .i64 y) NE.out).put ⟨R, 2, none⟩ (.bool true) NE.out).put ⟨R, 3, none⟩ (.slice la ll lc) NE.out, thr4 V3.out⟩
    generalize v2.setCells R 0 [.int .i64 0, .int .i64 y, .bool true, .slice la ll lc] = v3 at *
    have r0 := V3.out.cell 0 rfl
    have r1 := V3.out.cell 1 rfl
    have r2 := V3.out.cell 2 rfl
    have r3 := V3.out.cell 3 rfl
    refine hK.out _ _ S3.out (fun _ => ?_)
    clear hK K
    refine wpAnyH_done (by kernel_rfl) ?_ _
    go_wp2_with fail
    exact bodyPost_ret (v := .agg #[.int .i64 0, .int .i64 y, .bool true, .slice la ll lc]) (by simp [results, Try.results23, go_sem, r0, r1, r2, r3]) rfl ⟨_, rfl, Q3.out, B3.out⟩
  · have hc2 : (c != 0) = true := by simpa using hc0
    have hy := HV.out hc0
    subst hy
    obtain rfl := HL1.out hc0
    clear HL0 HL1
    obtain ⟨r0, r1, r2, r3⟩ : _ ∧ _ ∧ _ ∧ _ := ⟨S2.out.2.1.cell 0 rfl, S2.out.2.1.cell 1 rfl, S2.out.2.1.cell 2 rfl, S2.out.2.1.cell 3 rfl⟩
    have z0 := S2.out.2.1.free 0
    have z1 := S2.out.2.1.free 1
    have z2 := S2.out.2.1.free 2
    have z3 := S2.out.2.1.free 3
    go_wp2_with fail
    exact bodyPost_ret (v := .agg #[.int .i64 c, .int .i64 0, .bool true, .slice none 0 0]) (by simp [results, Try.results23, go_sem, r0, r1, r2, r3]) rfl ⟨_, rfl, Qs.nil _ _ _, (((B2.out.setCell (p := ⟨R, 0, none⟩) HR.out _).setCell (p := ⟨R, 1, none⟩) HR.out _).setCell (p := ⟨R, 2, none⟩) HR.out _).setCell (p := ⟨R, 3, none⟩) HR.out _⟩
end Go.Proofs.Ytaajaikpkcgalaa
