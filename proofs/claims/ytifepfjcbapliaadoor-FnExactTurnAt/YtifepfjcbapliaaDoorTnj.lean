/- TurnAt by the program. -/
import Derived.Test.YtifepfjcbapliaaDoorTni
import Derived.Deep.RegionHeld3
import Derived.Deep.WholeRow
import Derived.Deep.Cut
import Derived.Deep.CutRange
namespace Go.Proofs.YtifepfjcbapliaaDoor
open Go.RowKit
set_option linter.unusedVariables false

theorem tS_some (P : Plc) (h : pfV P = 0) (c : Int) : ∃ j : Nat, j < P.plan.length ∧ (tS P c).1 = (j : Int) := by
  have rp := rd_pos P h
  have m0 : 0 ≤ c % rdV P.plan := Int.emod_nonneg _ (by omega)
  have m1 : c % rdV P.plan < rdV P.plan := Int.emod_lt_of_pos _ (by omega)
  obtain ⟨m, hm⟩ : ∃ m, c % rdV P.plan = m := ⟨_, rfl⟩
  rw [hm] at m0 m1
  have key : ∀ k, k ≤ P.plan.length → m < rdV (P.plan.take k) → ∃ j, j < k ∧ rdV (P.plan.take j) ≤ m ∧ m < rdV (P.plan.take (j + 1)) := by
    intro k
    induction k with
    | zero => intro _ h0; simp [rdV] at h0; omega
    | succ k ih =>
      intro hk h0
      by_cases h1 : m < rdV (P.plan.take k)
      · obtain ⟨j, hj, h2⟩ := ih (by omega) h1
        exact ⟨j, by omega, h2⟩
      · exact ⟨k, by omega, by omega, h0⟩
  obtain ⟨j, hj, h0, h1⟩ := key P.plan.length (Nat.le_refl _) (by rw [List.take_length]; exact m1)
  refine ⟨j, hj, ?_⟩
  rw [tS_at P h c j hj (by rw [hm]; exact h0) (by rw [hm]; exact h1)]
/-- What the answer's region reads, and that the answer has its place. -/
def Sg (w : World) (s t j : Nat) (L : Int) (c3 n3 : Nat) (x : Addr) (g : Int) : Prop :=
  w.cell? ⟨t, 0, none⟩ = some (.int .i64 (j : Int)) ∧ w.cell? ⟨t, 1, none⟩ = some (.int .i64 L) ∧ w.cell? ⟨s, 3, none⟩ = some (.slice (some x) n3 c3) ∧ w.cell? (x.add (j * 2)) = some (.int .i64 g) ∧ w.there (s + 1) 0 4
theorem Sg.put {w : World} {s t j : Nat} {L : Int} {c3 n3 : Nat} {x : Addr} {g : Int} (h : Sg w s t j L c3 n3 x g) (vs : List Value) (hn : t ≠ s + 1 ∧ (x.add (j * 2)).block ≠ s + 1) : Sg (w.setCells (s + 1) 0 vs) s t j L c3 n3 x g :=
  ⟨(World.cell?_setCells_out _ _ _ _ _ fun e => absurd e hn.1).trans h.1, (World.cell?_setCells_out _ _ _ _ _ fun e => absurd e hn.1).trans h.2.1, (World.cell?_setCells_out _ _ _ _ _ fun e => absurd e (show s ≠ s + 1 by omega)).trans h.2.2.1, (World.cell?_setCells_out _ _ _ _ _ fun e => absurd e hn.2).trans h.2.2.2.1, World.there_setCells h.2.2.2.2 _ _ _⟩

set_option maxRecDepth 20000 in
set_option maxHeartbeats 8000000 in
theorem i_TurnAt (a0 a1 a2 a3 : Option Addr) (n0 c0 n1 c1 n2 c2 n3 c3 : Nat) (P : Plc) (c : Int) (w : World) (h : Pl w a0 n0 c0 a1 n1 c1 a2 n2 c2 a3 n3 c3 P) (hg : w.cell? ⟨0, 0, none⟩ = some (.iface 124 (.agg #[.pointer (some ⟨1, 96, none⟩)]))) :
    Calls Tryd.prog 8 #[.agg #[.slice a0 n0 c0, .slice a1 n1 c1, .slice a2 n2 c2, .slice a3 n3 c3], .int .i64 c] w fun e w' => e = .returned (.agg #[.int .i64 (tR P c).1, .int .i64 (tR P c).2.1, .int .i64 (tR P c).2.2.1, .int .i64 (tR P c).2.2.2]) ∧ Below w.heap.size w w' := by
  obtain ⟨U, hU⟩ : ∃ U, tR P c = U := ⟨_, rfl⟩
  rw [hU]
  have HU : Hid (tR P c = U) := hU
  have H0 : Hid (Pl w a0 n0 c0 a1 n1 c1 a2 n2 c2 a3 n3 c3 P) := h
  clear hU
  generalize hW : (w.alloc (.cells #[.slice a0 n0 c0, .slice a1 n1 c1, .slice a2 n2 c2, .slice a3 n3 c3] 38)).alloc (.cells #[.int .i64 0, .int .i64 0, .int .i64 0, .int .i64 0] 32) = W
  have B0 : Hid (Below w.heap.size w W) := by show Below _ _ _; rw [← hW]; exact al (al (Below.refl _ _) _) _
  obtain ⟨s, hS⟩ : ∃ s, w.heap.size = s := ⟨_, rfl⟩
  have HSs : Hid (w.heap.size = s) := hS
  have Q : Hid (W.cell? ⟨s, 0, none⟩ = some (.slice a0 n0 c0) ∧ W.cell? ⟨s, 1, none⟩ = some (.slice a1 n1 c1) ∧ W.cell? ⟨s, 2, none⟩ = some (.slice a2 n2 c2) ∧ W.cell? ⟨s, 3, none⟩ = some (.slice a3 n3 c3)) := by
    show _ ∧ _
    rw [← hW, ← hS]
    exact ⟨cell_push _ (cell_new rfl), cell_push _ (cell_new rfl), cell_push _ (cell_new rfl), cell_push _ (cell_new rfl)⟩
  have R : Hid (Vb W (s + 1) #[.int .i64 0, .int .i64 0, .int .i64 0, .int .i64 0] 32) := by
    have z1 : s + 1 = (w.alloc (.cells #[.slice a0 n0 c0, .slice a1 n1 c1, .slice a2 n2 c2, .slice a3 n3 c3] 38)).heap.size := by rw [← hS]; simp
    show Vb _ _ _ _
    rw [← hW, z1]
    exact Vb.new _ _ _
  have HP : Hid (Pl W a0 n0 c0 a1 n1 c1 a2 n2 c2 a3 n3 c3 P) := h.stay B0.out
  have HA : Hid (PolAt W s P) := ⟨_, _, _, _, _, _, _, _, _, _, _, _, Q.out.1, Q.out.2.1, Q.out.2.2.1, Q.out.2.2.2, HP.out⟩
  have HG : Hid (W.cell? ⟨0, 0, none⟩ = some (.iface 124 (.agg #[.pointer (some ⟨1, 96, none⟩)]))) := cell_keep B0.out hg
  clear h hg
  have q0 := Q.out.1
  have q1 := Q.out.2.1
  have q2 := Q.out.2.2.1
  have q3 := Q.out.2.2.2
  have fv := field_value
  go_enter Tryd.func8, Tryd.ntmps8
  go_wp2_with fail
  clear hW hS
  refine (i_clockFault _ _ _ _ _ _ _ _ _ _ _ _ P _ _ HP.out HG.out).mono ?_
  rintro e w1 ⟨rfl, b1⟩
  have B1 : Hid (Below w.heap.size w w1) := on B0.out b1
  have q0 := cell_keep b1 Q.out.1
  have q1 := cell_keep b1 Q.out.2.1
  have q2 := cell_keep b1 Q.out.2.2.1
  have q3 := cell_keep b1 Q.out.2.2.2
  have R1 : Hid (Vb w1 (s + 1) #[.int .i64 0, .int .i64 0, .int .i64 0, .int .i64 0] 32) := R.out.keep b1
  by_cases hz : ckV P c = 0
  · obtain ⟨pz, cl, cu⟩ := ck_pf hz
    rw [hz]
    obtain ⟨j, hj, hs⟩ := tS_some P pz c
    have HU2 : Hid ((0, (j : Int), (P.plan.getD j (0, 0)).1, (tS P c).2) = U) := by
      show _ = _
      rw [← HU.out, tR, if_pos hz, tG, hs]
      simp
    have HJ : Hid (j < P.plan.length) := hj
    have HSJ : Hid ((tS P c).1 = (j : Int)) := hs
    have PZ : Hid (pfV P = 0 ∧ 0 ≤ c ∧ c ≤ 1000000) := ⟨pz, cl, cu⟩
    have HB1 : Hid (Below W.heap.size W w1) := b1
    clear hz pz cl cu hj hs b1
    go_wp2_with fail
    clear q0 q1 q2 q3
    refine (i_turnAt _ _ _ _ _ _ _ _ _ _ _ _ P c _ (HP.out.stay HB1.out) (cell_keep HB1.out HG.out) PZ.out.1 PZ.out.2.1 PZ.out.2.2).mono ?_
    rintro e w2 ⟨rfl, b2⟩
    rw [HSJ.out]
    obtain ⟨L, hL⟩ : ∃ L, (tS P c).2 = L := ⟨_, rfl⟩
    rw [hL] at HU2 ⊢
    clear hL
    have q3 := cell_keep b2 (cell_keep HB1.out Q.out.2.2.2)
    have HQ3 : Hid (_ = _) := q3
    have R2 : Hid (Vb w2 (s + 1) #[.int .i64 0, .int .i64 0, .int .i64 0, .int .i64 0] 32) := R1.out.keep b2
    have B2 : Hid (Below w.heap.size w w2) := on B1.out b2
    have HPw : Hid (Pl w2 a0 n0 c0 a1 n1 c1 a2 n2 c2 a3 n3 c3 P) := (HP.out.stay HB1.out).stay b2
    obtain ⟨x, hx, k0, k1⟩ := HPw.out.plan.at j (by rw [HPw.out.plan.len]; exact HJ.out)
    obtain ⟨x', hx', k0', k1'⟩ := H0.out.plan.at j (by rw [HPw.out.plan.len]; exact HJ.out)
    have XL : Hid ((x.add (j * 2)).block < s) := by
      have e : x = x' := Option.some.inj (hx.symm.trans hx')
      subst e
      show _ < _
      have bk : (x.add (j * 2)).block < w.heap.size := block_of_cell k0'
      rw [← HSs.out]
      exact bk
    clear hx' k0' k1' x' k1
    subst hx
    have JN : (j : Int) < (n3 : Int) := by have := HJ.out; have := HPw.out.plan.len; omega
    have J8 : (j : Int) ≤ 8 := by have := HJ.out; have := (pf_plan P PZ.out.1).1; omega
    obtain ⟨g, hgg⟩ : ∃ g, (P.plan.getD j (0, 0)).1 = g := ⟨_, rfl⟩
    rw [hgg] at HU2 k0
    have HK0 : Hid (w2.cell? (x.add (j * 2)) = some (.int .i64 g)) := k0
    have E := HU2.out
    subst E
    clear hgg b2 k0 q3
    go_upto_region 5 with fail
    have V3 : Hid (Vb (w2.alloc (.cells #[.int .i64 (j : Int), .int .i64 L, .int .i64 c] 62)) w2.heap.size #[.int .i64 (j : Int), .int .i64 L, .int .i64 c] 62) := Vb.new _ _ _
    have b3 : Below w2.heap.size w2 (w2.alloc (.cells #[.int .i64 (j : Int), .int .i64 L, .int .i64 c] 62)) := al (Below.refl _ _) _
    have B3 : Hid (Below w.heap.size w (w2.alloc (.cells #[.int .i64 (j : Int), .int .i64 L, .int .i64 c] 62))) := on B2.out b3
    have R3 : Hid (Vb (w2.alloc (.cells #[.int .i64 (j : Int), .int .i64 L, .int .i64 c] 62)) (s + 1) #[.int .i64 0, .int .i64 0, .int .i64 0, .int .i64 0] 32) := R2.out.keep b3
    have q3 := cell_keep b3 HQ3.out
    have k0 := cell_keep b3 HK0.out
    have NT : Hid (w2.heap.size ≠ s + 1 ∧ (x.add (j * 2)).block ≠ s + 1) := by
      have := R2.out.lt
      have := XL.out
      exact ⟨by omega, by omega⟩
    clear b3
    generalize w2.alloc (.cells #[.int .i64 (j : Int), .int .i64 L, .int .i64 c] 62) = w3 at *
    generalize w2.heap.size = t at *
    have SG : Hid (Sg w3.drew s t j L c3 n3 x g) := ⟨V3.out.cell 0 rfl, V3.out.cell 1 rfl, q3, k0, fun i hi => ⟨by rw [show w3.drew.cell? ⟨s + 1, 0 + i, none⟩ = w3.cell? ⟨s + 1, 0 + i, none⟩ from rfl, R3.out.cell (0 + i) (v := .int .i64 0) (by rcases (show i = 0 ∨ i = 1 ∨ i = 2 ∨ i = 3 by omega) with rfl | rfl | rfl | rfl <;> rfl)]; rfl, R3.out.free _⟩⟩
    refine wp_region_held (S := fun w' => Sg w' s t j L c3 n3 x g) (by kernel_rfl) ?_
    change wpAnyH _ _ _ _ _ _ _ _ (World.drew _)
    have BX : Hid (Below w.heap.size w w3.drew) := B3.out.drew
    generalize w3.drew = x0 at *
    refine wpAnyH_take (i := 0) (v := .pointer (some ⟨t, 0, none⟩)) rfl (by kernel_rfl) (by kernel_rfl) (by kernel_rfl) (fun _ _ _ h => h) (Or.inl ⟨by rfl, fun w' hs => by go_simp⟩) SG.out ?_
    change wpAnyH _ _ _ _ _ _ _ (Act.put _ (some 17) _) _
    simp only [Act.put, List.setIfInBounds_toArray, List.set_cons_zero, List.set_cons_succ]
    refine wpAnyH_take (i := 1) (v := .int .i64 (j : Int)) rfl (by kernel_rfl) (by kernel_rfl) (by kernel_rfl) (fun _ _ _ h => h) (Or.inl ⟨by rfl, fun w' hs => by obtain ⟨y0, y1, y2, y3, _⟩ := hs; go_simp⟩) SG.out ?_
    change wpAnyH _ _ _ _ _ _ _ (Act.put _ (some 18) _) _
    simp only [Act.put, List.setIfInBounds_toArray, List.set_cons_zero, List.set_cons_succ]
    refine wpAnyH_take (i := 2) (v := .pointer (some ⟨s, 3, none⟩)) rfl (by kernel_rfl) (by kernel_rfl) (by kernel_rfl) (fun _ _ _ h => h) (Or.inl ⟨by rfl, fun w' hs => by go_simp⟩) SG.out ?_
    change wpAnyH _ _ _ _ _ _ _ (Act.put _ (some 19) _) _
    simp only [Act.put, List.setIfInBounds_toArray, List.set_cons_zero, List.set_cons_succ]
    refine wpAnyH_take (i := 3) (v := .slice (some x) n3 c3) rfl (by kernel_rfl) (by kernel_rfl) (by kernel_rfl) (fun _ _ _ h => h) (Or.inl ⟨by rfl, fun w' hs => by obtain ⟨y0, y1, y2, y3, _⟩ := hs; go_simp⟩) SG.out ?_
    change wpAnyH _ _ _ _ _ _ _ (Act.put _ (some 20) _) _
    simp only [Act.put, List.setIfInBounds_toArray, List.set_cons_zero, List.set_cons_succ]
    refine wpAnyH_take (i := 4) (v := .pointer (some ⟨t, 0, none⟩)) rfl (by kernel_rfl) (by kernel_rfl) (by kernel_rfl) (fun _ _ _ h => h) (Or.inl ⟨by rfl, fun w' hs => by go_simp⟩) SG.out ?_
    change wpAnyH _ _ _ _ _ _ _ (Act.put _ (some 21) _) _
    simp only [Act.put, List.setIfInBounds_toArray, List.set_cons_zero, List.set_cons_succ]
    refine wpAnyH_take (i := 5) (v := .int .i64 (j : Int)) rfl (by kernel_rfl) (by kernel_rfl) (by kernel_rfl) (fun _ _ _ h => h) (Or.inl ⟨by rfl, fun w' hs => by obtain ⟨y0, y1, y2, y3, _⟩ := hs; go_simp⟩) SG.out ?_
    change wpAnyH _ _ _ _ _ _ _ (Act.put _ (some 22) _) _
    simp only [Act.put, List.setIfInBounds_toArray, List.set_cons_zero, List.set_cons_succ]
    refine wpAnyH_take (i := 6) (v := .pointer (some (x.add (j * 2)))) rfl (by kernel_rfl) (by kernel_rfl) (by kernel_rfl) (fun _ _ _ h => h) (Or.inl ⟨by rfl, fun w' hs => by go_simp⟩) SG.out ?_
    change wpAnyH _ _ _ _ _ _ _ (Act.put _ (some 23) _) _
    simp only [Act.put, List.setIfInBounds_toArray, List.set_cons_zero, List.set_cons_succ]
    refine wpAnyH_take (i := 7) (v := .pointer (some (x.add (j * 2)))) rfl (by kernel_rfl) (by kernel_rfl) (by kernel_rfl) (fun _ _ _ h => h) (Or.inl ⟨by rfl, fun w' hs => by go_simp⟩) SG.out ?_
    change wpAnyH _ _ _ _ _ _ _ (Act.put _ (some 24) _) _
    simp only [Act.put, List.setIfInBounds_toArray, List.set_cons_zero, List.set_cons_succ]
    refine wpAnyH_take (i := 8) (v := .int .i64 g) rfl (by kernel_rfl) (by kernel_rfl) (by kernel_rfl) (fun _ _ _ h => h) (Or.inl ⟨by rfl, fun w' hs => by obtain ⟨y0, y1, y2, y3, _⟩ := hs; go_simp⟩) SG.out ?_
    change wpAnyH _ _ _ _ _ _ _ (Act.put _ (some 25) _) _
    simp only [Act.put, List.setIfInBounds_toArray, List.set_cons_zero, List.set_cons_succ]
    refine wpAnyH_take (i := 9) (v := .pointer (some ⟨t, 1, none⟩)) rfl (by kernel_rfl) (by kernel_rfl) (by kernel_rfl) (fun _ _ _ h => h) (Or.inl ⟨by rfl, fun w' hs => by go_simp⟩) SG.out ?_
    change wpAnyH _ _ _ _ _ _ _ (Act.put _ (some 26) _) _
    simp only [Act.put, List.setIfInBounds_toArray, List.set_cons_zero, List.set_cons_succ]
    refine wpAnyH_take (i := 10) (v := .int .i64 L) rfl (by kernel_rfl) (by kernel_rfl) (by kernel_rfl) (fun _ _ _ h => h) (Or.inl ⟨by rfl, fun w' hs => by obtain ⟨y0, y1, y2, y3, _⟩ := hs; go_simp⟩) SG.out ?_
    change wpAnyH _ _ _ _ _ _ _ (Act.put _ (some 27) _) _
    simp only [Act.put, List.setIfInBounds_toArray, List.set_cons_zero, List.set_cons_succ]
    refine wpAnyH_take (i := 11) (v := .agg #[.int .i64 g, .int .i64 L]) rfl (by kernel_rfl) (by kernel_rfl) (by kernel_rfl) (fun _ _ _ h => h) (Or.inl ⟨by rfl, fun w' hs => by go_simp⟩) SG.out ?_
    change wpAnyH _ _ _ _ _ _ _ (Act.put _ (some 28) _) _
    simp only [Act.put, List.setIfInBounds_toArray, List.set_cons_zero, List.set_cons_succ]
    refine wpAnyH_take (i := 12) (v := .agg #[.int .i64 0, .int .i64 (j : Int), .int .i64 g, .int .i64 L]) rfl (by kernel_rfl) (by kernel_rfl) (by kernel_rfl) (fun _ _ _ h => h) (Or.inl ⟨by rfl, fun w' hs => by go_simp⟩) SG.out ?_
    change wpAnyH _ _ _ _ _ _ _ (Act.put _ (some 29) _) _
    simp only [Act.put, List.setIfInBounds_toArray, List.set_cons_zero, List.set_cons_succ]
    refine wpAnyH_ready (rs := [13]) (by kernel_rfl) (by simp) ?_
    refine AllReadyH.cons rfl (fun K hK => ?_) AllReadyH.nil
    rw [if_pos (by rfl)]
    refine wp_store_mid 32 (.tmp 4) (.tmp 29) rfl (s + 1) 0 #[.int .i64 0, .int .i64 (j : Int), .int .i64 g, .int .i64 L] rfl rfl SG.out.2.2.2.2 (by kernel_rfl) (by simp [Value.oneCell']) ?_
    change K (Act.put _ none undef) _
    simp only [Act.put]
    have R4 : Hid ((x0.setCells (s + 1) 0 [.int .i64 0, .int .i64 (j : Int), .int .i64 g, .int .i64 L]).rangeAt (s + 1) 0 [.int .i64 0, .int .i64 (j : Int), .int .i64 g, .int .i64 L]) := World.rangeAt_setCells_same _ _ _ _ SG.out.2.2.2.2
    have S4 : Hid (Sg (x0.setCells (s + 1) 0 [.int .i64 0, .int .i64 (j : Int), .int .i64 g, .int .i64 L]) s t j L c3 n3 x g) := SG.out.put _ NT.out
    have B4 : Hid (Below w.heap.size w (x0.setCells (s + 1) 0 [.int .i64 0, .int .i64 (j : Int), .int .i64 g, .int .i64 L])) := ((((BX.out.setCell (by have := HSs.out; show w.heap.size ≤ s + 1; omega) _).setCell (by have := HSs.out; show w.heap.size ≤ s + 1; omega) _).setCell (by have := HSs.out; show w.heap.size ≤ s + 1; omega) _).setCell (by have := HSs.out; show w.heap.size ≤ s + 1; omega) _)
    generalize x0.setCells (s + 1) 0 [.int .i64 0, .int .i64 (j : Int), .int .i64 g, .int .i64 L] = x1 at *
    refine hK.out _ _ S4.out (fun _ => ?_)
    clear hK K
    refine wpAnyH_done (by kernel_rfl) ?_ _
    have LD := run_loadVar_mid (P := Tryd.prog) x1 (s + 1) 0 32 [.int .i64 0, .int .i64 (j : Int), .int .i64 g, .int .i64 L] _ R4.out Tryd.underlying32 rfl (by kernel_rfl)
    go_wp2_with fail
    exact bodyPost_ret (v := .agg #[.int .i64 0, .int .i64 (j : Int), .int .i64 g, .int .i64 L]) (by simp [results, Tryd.results8, asAddr]; rw [LD]) rfl ⟨rfl, B4.out⟩
  · have HU2 : Hid ((ckV P c, (0 : Int), (0 : Int), (0 : Int)) = U) := by
      show _ = _
      rw [← HU.out, tR, if_neg hz]
    generalize hv : ckV P c = v at *
    have E := HU2.out
    subst E
    have r0 := R1.out.cell 0 rfl
    have r1 := R1.out.cell 1 rfl
    have r2 := R1.out.cell 2 rfl
    have r3 := R1.out.cell 3 rfl
    have f0 := R1.out.free 0
    have f1 := R1.out.free 1
    have f2 := R1.out.free 2
    have f3 := R1.out.free 3
    go_wp2_with fail
    exact bodyPost_ret (v := .agg #[.int .i64 v, .int .i64 0, .int .i64 0, .int .i64 0]) (by simp [results, Tryd.results8, go_sem, r0, r1, r2, r3]) rfl ⟨rfl, ((((B1.out).setCell (by have := HSs.out; show w.heap.size ≤ s + 1; omega) _).setCell (by have := HSs.out; show w.heap.size ≤ s + 1; omega) _).setCell (by have := HSs.out; show w.heap.size ≤ s + 1; omega) _).setCell (by have := HSs.out; show w.heap.size ≤ s + 1; omega) _⟩
end Go.Proofs.YtifepfjcbapliaaDoor
