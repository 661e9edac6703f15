/- Texts of this seat, joined. -/
import Derived.Test.YtcdbhhhihhdghaaGreatDoorQ43
import Derived.Test.YtcdbhhhihhdghaaGreatDoorQ48
namespace Go.Proofs.YtcdbhhhihhdghaaGreatDoor
open Go.RowKit
set_option linter.unusedVariables false

theorem Gn.low {a b : Nat} {w w' : World} (g : Gn b w w') (h : a ≤ b) : Gn a w w' := fun B x hx hb ha => g B x hx (Nat.le_trans hb h) ha
set_option maxRecDepth 20000 in
set_option maxHeartbeats 8000000 in
theorem s_add0 (base q : Nat) (v0 v1 v2 v3 u : Value) (P : Plc) (xs : List Value) (zs : List Int) (w : World) (h : Wp w base v0 v1 v2 v3 P xs) (kq : Kb w q #[v0, v1, v2, v3] 27) (hu : Nums w base u zs) (ha : ∀ x ∈ xs, Apt x u) (hq : q ≤ base) (hb : base ≤ w.heap.size) (hs : SmP P 1000) :
    Calls Tryz.prog 11 #[.pointer (some ⟨q, 0, none⟩), .int .i64 0, u] w fun e w' => e = .returned (.tuple #[]) ∧ ∃ v0' v1' v2' v3' xs', Wp w' base v0' v1' v2' v3' (adP P 0 zs) xs' ∧ Kb w' q #[v0', v1', v2', v3'] 27 ∧ Gn q w w' := by
  obtain ⟨b0, b1, b2, b3, d0, d1, d2, d3, rfl, rfl, rfl, rfl⟩ := h.shape
  obtain ⟨ua, uc, hv, _, _, hg⟩ := hu.shape
  subst hv
  have HW : Hid (Wp w base _ _ _ _ P xs) := h
  have HUN : Hid (Nums w base _ zs) := hu
  have HQ : Hid (q ≤ base) := hq
  have HA : Hid (∀ x ∈ xs, Apt x _) := ha
  have HB : Hid (base ≤ w.heap.size ∧ xs.length ≤ 1000) := ⟨hb, by rw [h.xl]; exact hs.own⟩
  obtain ⟨n0, hn0⟩ : ∃ n, P.own.length = n := ⟨_, rfl⟩
  obtain ⟨n1, hn1⟩ : ∃ n, P.lanes.length = n := ⟨_, rfl⟩
  obtain ⟨n2, hn2⟩ : ∃ n, P.bells.length = n := ⟨_, rfl⟩
  obtain ⟨n3, hn3⟩ : ∃ n, P.plan.length = n := ⟨_, rfl⟩
  rw [hn0, hn1, hn2, hn3] at HW kq
  obtain ⟨m, hm⟩ : ∃ n, zs.length = n := ⟨_, rfl⟩
  rw [hm] at HUN HA ⊢
  have KB2 : Hid (Kb w q #[.slice b0 n0 d0, .slice b1 n1 d1, .slice b2 n2 d2, .slice b3 n3 d3] 27) := kq
  have HL : Hid (q < w.heap.size) := kq.lt
  clear h hu hb hs hq hn0 hn1 hn2 hn3 kq ha hm hg
  obtain ⟨W3, hW3⟩ : ∃ W3, w.alloc (.cells #[.slice ua m uc] 36) = W3 := ⟨_, rfl⟩
  have B3 : Hid (Below w.heap.size w W3) := by show Below _ _ _; rw [← hW3]; exact al (Below.refl _ _) _
  have XC : Hid (W3.cell? ⟨w.heap.size, 0, none⟩ = some (.slice ua m uc)) := by show _ = _; rw [← hW3]; exact cell_new rfl
  have S3 : Hid (base ≤ W3.heap.size) := Nat.le_trans HB.out.1 B3.out.size
  have q0 := KB2.out.cell (i := 0) rfl
  go_enter Tryz.func11, Tryz.ntmps11
  go_wp2_with (at_builtin; refine wp_rowsX _ rfl _ _ rfl base _ xs rfl (HW.out.keep B3.out).own w.heap.size _ rfl XC.out rfl (by have := HB.out; omega) S3.out ?_; intro v' w' hN' hG'; have PW := (HW.out.keep B3.out).pushOwn (HUN.out.keep B3.out) HA.out hN' hG'; have G1 : Hid (Gn base w w') := Gn.row B3.out hG' (HW.out.keep B3.out).own; have K1 := (KB2.out.keep B3.out).gr hG' (fun e => (KB2.out.keep B3.out).row (HW.out.keep B3.out).own (by decide) e.symm); obtain ⟨e0, f0, hv'⟩ : ∃ e f, v' = .slice e (adP P 0 zs).own.length f := PW.shape0; generalize (adP P 0 zs).own.length = m0 at hv'; subst hv'; have PWH : Hid (Wp w' base _ _ _ _ (adP P 0 zs) _) := PW; have K1H : Hid (Kb w' _ _ _) := K1; have k0 := K1.cell (i := 0) rfl; have s0 := K1.free 0; clear hN' hG' PW K1)
  go_end0
  exact ⟨rfl, _, _, _, _, _, PWH.out.put K1H.out, K1H.out.set 0 (.slice e0 m0 f0), (G1.out.low HQ.out).put q (Nat.le_refl _) _ _⟩
set_option maxRecDepth 20000 in
set_option maxHeartbeats 8000000 in
theorem s_add1 (base q : Nat) (v0 v1 v2 v3 u : Value) (P : Plc) (xs : List Value) (zs : List Int) (w : World) (h : Wp w base v0 v1 v2 v3 P xs) (kq : Kb w q #[v0, v1, v2, v3] 27) (hu : Nums w base u zs) (hc : zs.length = 5) (hq : q ≤ base) (hb : base ≤ w.heap.size) (hs : SmP P 1000) :
    Calls Tryz.prog 11 #[.pointer (some ⟨q, 0, none⟩), .int .i64 1, u] w fun e w' => e = .returned (.tuple #[]) ∧ ∃ v0' v1' v2' v3' xs', Wp w' base v0' v1' v2' v3' (adP P 1 zs) xs' ∧ Kb w' q #[v0', v1', v2', v3'] 27 ∧ Gn q w w' := by
  obtain ⟨b0, b1, b2, b3, d0, d1, d2, d3, rfl, rfl, rfl, rfl⟩ := h.shape
  obtain ⟨ua, uc, hv, _, _, hg⟩ := hu.shape
  subst hv
  rw [hc] at hu hg ⊢
  obtain ⟨g, rfl⟩ := hg (by omega)
  have HW : Hid (Wp w base _ _ _ _ P xs) := h
  have HUN : Hid (Nums w base _ zs) := hu
  have HQ : Hid (q ≤ base) := hq
  have HB : Hid (base ≤ w.heap.size ∧ P.lanes.length ≤ 1000) := ⟨hb, hs.lanes⟩
  obtain ⟨y0, hy0⟩ : ∃ y, zs.getD 0 0 = y := ⟨_, rfl⟩
  obtain ⟨y1, hy1⟩ : ∃ y, zs.getD 1 0 = y := ⟨_, rfl⟩
  obtain ⟨y2, hy2⟩ : ∃ y, zs.getD 2 0 = y := ⟨_, rfl⟩
  obtain ⟨y3, hy3⟩ : ∃ y, zs.getD 3 0 = y := ⟨_, rfl⟩
  obtain ⟨y4, hy4⟩ : ∃ y, zs.getD 4 0 = y := ⟨_, rfl⟩
  have z0 : w.cell? ⟨g, 0, none⟩ = some (.int .i64 y0) := num_cell' hu 0 (by decide) hy0
  have z1 : w.cell? ⟨g, 1, none⟩ = some (.int .i64 y1) := num_cell' hu 1 (by decide) hy1
  have z2 : w.cell? ⟨g, 2, none⟩ = some (.int .i64 y2) := num_cell' hu 2 (by decide) hy2
  have z3 : w.cell? ⟨g, 3, none⟩ = some (.int .i64 y3) := num_cell' hu 3 (by decide) hy3
  have z4 : w.cell? ⟨g, 4, none⟩ = some (.int .i64 y4) := num_cell' hu 4 (by decide) hy4
  have HY : Hid (zs.getD 0 0 = y0 ∧ zs.getD 1 0 = y1 ∧ zs.getD 2 0 = y2 ∧ zs.getD 3 0 = y3 ∧ zs.getD 4 0 = y4) := ⟨hy0, hy1, hy2, hy3, hy4⟩
  have HZ : Hid (w.cell? ⟨g, 0, none⟩ = some (.int .i64 y0) ∧ w.cell? ⟨g, 1, none⟩ = some (.int .i64 y1) ∧ w.cell? ⟨g, 2, none⟩ = some (.int .i64 y2) ∧ w.cell? ⟨g, 3, none⟩ = some (.int .i64 y3) ∧ w.cell? ⟨g, 4, none⟩ = some (.int .i64 y4)) := ⟨z0, z1, z2, z3, z4⟩
  obtain ⟨n0, hn0⟩ : ∃ n, P.own.length = n := ⟨_, rfl⟩
  obtain ⟨n1, hn1⟩ : ∃ n, P.lanes.length = n := ⟨_, rfl⟩
  obtain ⟨n2, hn2⟩ : ∃ n, P.bells.length = n := ⟨_, rfl⟩
  obtain ⟨n3, hn3⟩ : ∃ n, P.plan.length = n := ⟨_, rfl⟩
  rw [hn0, hn1, hn2, hn3] at HW kq
  have KB2 : Hid (Kb w q #[.slice b0 n0 d0, .slice b1 n1 d1, .slice b2 n2 d2, .slice b3 n3 d3] 27) := kq
  have HL : Hid (q < w.heap.size) := kq.lt
  clear h hu hb hs hq hn0 hn1 hn2 hn3 kq hc hg hy0 z0 hy1 z1 hy2 z2 hy3 z3 hy4 z4
  go_enter Tryz.func11, Tryz.ntmps11
  go_wp2_with fail
  refine hz_region (fun w' => w'.cell? ⟨q, 1, none⟩ = some (.slice b1 n1 d1) ∧ w'.cell? ⟨g, 0, none⟩ = some (.int .i64 y0) ∧ w'.cell? ⟨g, 1, none⟩ = some (.int .i64 y1) ∧ w'.cell? ⟨g, 2, none⟩ = some (.int .i64 y2) ∧ w'.cell? ⟨g, 3, none⟩ = some (.int .i64 y3) ∧ w'.cell? ⟨g, 4, none⟩ = some (.int .i64 y4)) 25 (by kernel_rfl) ?_
  have BD : Hid (Below w.heap.size w w.drew) := (Below.refl _ _).drew
  have B0 : Hid (Below w.heap.size w w.drew) := BD.out
  have KB : Hid (Kb w.drew _ _ _) := KB2.out.keep BD.out
  have SS : Hid (w.drew.cell? ⟨q, 1, none⟩ = some (.slice b1 n1 d1) ∧ w.drew.cell? ⟨g, 0, none⟩ = some (.int .i64 y0) ∧ w.drew.cell? ⟨g, 1, none⟩ = some (.int .i64 y1) ∧ w.drew.cell? ⟨g, 2, none⟩ = some (.int .i64 y2) ∧ w.drew.cell? ⟨g, 3, none⟩ = some (.int .i64 y3) ∧ w.drew.cell? ⟨g, 4, none⟩ = some (.int .i64 y4)) := ⟨KB.out.cell (i := 1) rfl, cell_keep B0.out HZ.out.1, cell_keep B0.out HZ.out.2.1, cell_keep B0.out HZ.out.2.2.1, cell_keep B0.out HZ.out.2.2.2.1, cell_keep B0.out HZ.out.2.2.2.2⟩
  clear BD
  generalize w.drew = u0 at *
  refine hz_take (i := 0) (v := (.pointer (some ⟨q, 0, none⟩))) rfl rfl (by kernel_rfl) (by decide) (by kernel_rfl) (by kernel_rfl) (by kernel_rfl) (fun _ _ _ h => h) (Or.inl ⟨by rfl, fun w' hs => by go_simp⟩) SS.out ?_
  change Hz _ _ _ _ _ _ _ _ (Act.put _ (some 21) _) _
  simp only [Act.put, List.setIfInBounds_toArray, List.set_cons_zero, List.set_cons_succ]
  refine hz_take (i := 1) (v := (.pointer (some ⟨q, 0, none⟩))) rfl rfl (by kernel_rfl) (by decide) (by kernel_rfl) (by kernel_rfl) (by kernel_rfl) (fun _ _ _ h => h) (Or.inl ⟨by rfl, fun w' hs => by go_simp⟩) SS.out ?_
  change Hz _ _ _ _ _ _ _ _ (Act.put _ (some 22) _) _
  simp only [Act.put, List.setIfInBounds_toArray, List.set_cons_zero, List.set_cons_succ]
  refine hz_take (i := 2) (v := (.pointer (some ⟨q, 0, none⟩))) rfl rfl (by kernel_rfl) (by decide) (by kernel_rfl) (by kernel_rfl) (by kernel_rfl) (fun _ _ _ h => h) (Or.inl ⟨by rfl, fun w' hs => by go_simp⟩) SS.out ?_
  change Hz _ _ _ _ _ _ _ _ (Act.put _ (some 23) _) _
  simp only [Act.put, List.setIfInBounds_toArray, List.set_cons_zero, List.set_cons_succ]
  refine hz_take (i := 3) (v := (.pointer (some ⟨q, 1, none⟩))) rfl rfl (by kernel_rfl) (by decide) (by kernel_rfl) (by kernel_rfl) (by kernel_rfl) (fun _ _ _ h => h) (Or.inl ⟨by rfl, fun w' hs => by go_simp⟩) SS.out ?_
  change Hz _ _ _ _ _ _ _ _ (Act.put _ (some 24) _) _
  simp only [Act.put, List.setIfInBounds_toArray, List.set_cons_zero, List.set_cons_succ]
  refine hz_take (i := 4) (v := (.slice b1 n1 d1)) rfl rfl (by kernel_rfl) (by decide) (by kernel_rfl) (by kernel_rfl) (by kernel_rfl) (fun _ _ _ h => h) (Or.inl ⟨by rfl, fun w' hs => by have h0 := hs.1; go_simp⟩) SS.out ?_
  change Hz _ _ _ _ _ _ _ _ (Act.put _ (some 25) _) _
  simp only [Act.put, List.setIfInBounds_toArray, List.set_cons_zero, List.set_cons_succ]
  refine hz_take (i := 5) (v := (.slice (some ⟨g, 0, none⟩) 5 uc)) rfl rfl (by kernel_rfl) (by decide) (by kernel_rfl) (by kernel_rfl) (by kernel_rfl) (fun _ _ _ h => h) (Or.inl ⟨by rfl, fun w' hs => by go_simp⟩) SS.out ?_
  change Hz _ _ _ _ _ _ _ _ (Act.put _ (some 26) _) _
  simp only [Act.put, List.setIfInBounds_toArray, List.set_cons_zero, List.set_cons_succ]
  refine hz_take (i := 6) (v := (.pointer (some ⟨g, 0, none⟩))) rfl rfl (by kernel_rfl) (by decide) (by kernel_rfl) (by kernel_rfl) (by kernel_rfl) (fun _ _ _ h => h) (Or.inl ⟨by rfl, fun w' hs => by go_simp⟩) SS.out ?_
  change Hz _ _ _ _ _ _ _ _ (Act.put _ (some 27) _) _
  simp only [Act.put, List.setIfInBounds_toArray, List.set_cons_zero, List.set_cons_succ]
  refine hz_take (i := 7) (v := (.int .i64 y0)) rfl rfl (by kernel_rfl) (by decide) (by kernel_rfl) (by kernel_rfl) (by kernel_rfl) (fun _ _ _ h => h) (Or.inl ⟨by rfl, fun w' hs => by have h0 := hs.2.1; go_simp⟩) SS.out ?_
  change Hz _ _ _ _ _ _ _ _ (Act.put _ (some 28) _) _
  simp only [Act.put, List.setIfInBounds_toArray, List.set_cons_zero, List.set_cons_succ]
  refine hz_take (i := 8) (v := (.slice (some ⟨g, 0, none⟩) 5 uc)) rfl rfl (by kernel_rfl) (by decide) (by kernel_rfl) (by kernel_rfl) (by kernel_rfl) (fun _ _ _ h => h) (Or.inl ⟨by rfl, fun w' hs => by go_simp⟩) SS.out ?_
  change Hz _ _ _ _ _ _ _ _ (Act.put _ (some 29) _) _
  simp only [Act.put, List.setIfInBounds_toArray, List.set_cons_zero, List.set_cons_succ]
  refine hz_take (i := 9) (v := (.pointer (some ⟨g, 1, none⟩))) rfl rfl (by kernel_rfl) (by decide) (by kernel_rfl) (by kernel_rfl) (by kernel_rfl) (fun _ _ _ h => h) (Or.inl ⟨by rfl, fun w' hs => by go_simp⟩) SS.out ?_
  change Hz _ _ _ _ _ _ _ _ (Act.put _ (some 30) _) _
  simp only [Act.put, List.setIfInBounds_toArray, List.set_cons_zero, List.set_cons_succ]
  refine hz_take (i := 10) (v := (.int .i64 y1)) rfl rfl (by kernel_rfl) (by decide) (by kernel_rfl) (by kernel_rfl) (by kernel_rfl) (fun _ _ _ h => h) (Or.inl ⟨by rfl, fun w' hs => by have h0 := hs.2.2.1; go_simp⟩) SS.out ?_
  change Hz _ _ _ _ _ _ _ _ (Act.put _ (some 31) _) _
  simp only [Act.put, List.setIfInBounds_toArray, List.set_cons_zero, List.set_cons_succ]
  refine hz_take (i := 11) (v := (.slice (some ⟨g, 0, none⟩) 5 uc)) rfl rfl (by kernel_rfl) (by decide) (by kernel_rfl) (by kernel_rfl) (by kernel_rfl) (fun _ _ _ h => h) (Or.inl ⟨by rfl, fun w' hs => by go_simp⟩) SS.out ?_
  change Hz _ _ _ _ _ _ _ _ (Act.put _ (some 32) _) _
  simp only [Act.put, List.setIfInBounds_toArray, List.set_cons_zero, List.set_cons_succ]
  refine hz_take (i := 12) (v := (.pointer (some ⟨g, 2, none⟩))) rfl rfl (by kernel_rfl) (by decide) (by kernel_rfl) (by kernel_rfl) (by kernel_rfl) (fun _ _ _ h => h) (Or.inl ⟨by rfl, fun w' hs => by go_simp⟩) SS.out ?_
  change Hz _ _ _ _ _ _ _ _ (Act.put _ (some 33) _) _
  simp only [Act.put, List.setIfInBounds_toArray, List.set_cons_zero, List.set_cons_succ]
  refine hz_take (i := 13) (v := (.int .i64 y2)) rfl rfl (by kernel_rfl) (by decide) (by kernel_rfl) (by kernel_rfl) (by kernel_rfl) (fun _ _ _ h => h) (Or.inl ⟨by rfl, fun w' hs => by have h0 := hs.2.2.2.1; go_simp⟩) SS.out ?_
  change Hz _ _ _ _ _ _ _ _ (Act.put _ (some 34) _) _
  simp only [Act.put, List.setIfInBounds_toArray, List.set_cons_zero, List.set_cons_succ]
  refine hz_take (i := 14) (v := (.slice (some ⟨g, 0, none⟩) 5 uc)) rfl rfl (by kernel_rfl) (by decide) (by kernel_rfl) (by kernel_rfl) (by kernel_rfl) (fun _ _ _ h => h) (Or.inl ⟨by rfl, fun w' hs => by go_simp⟩) SS.out ?_
  change Hz _ _ _ _ _ _ _ _ (Act.put _ (some 35) _) _
  simp only [Act.put, List.setIfInBounds_toArray, List.set_cons_zero, List.set_cons_succ]
  refine hz_take (i := 15) (v := (.pointer (some ⟨g, 3, none⟩))) rfl rfl (by kernel_rfl) (by decide) (by kernel_rfl) (by kernel_rfl) (by kernel_rfl) (fun _ _ _ h => h) (Or.inl ⟨by rfl, fun w' hs => by go_simp⟩) SS.out ?_
  change Hz _ _ _ _ _ _ _ _ (Act.put _ (some 36) _) _
  simp only [Act.put, List.setIfInBounds_toArray, List.set_cons_zero, List.set_cons_succ]
  refine hz_take (i := 16) (v := (.int .i64 y3)) rfl rfl (by kernel_rfl) (by decide) (by kernel_rfl) (by kernel_rfl) (by kernel_rfl) (fun _ _ _ h => h) (Or.inl ⟨by rfl, fun w' hs => by have h0 := hs.2.2.2.2.1; go_simp⟩) SS.out ?_
  change Hz _ _ _ _ _ _ _ _ (Act.put _ (some 37) _) _
  simp only [Act.put, List.setIfInBounds_toArray, List.set_cons_zero, List.set_cons_succ]
  refine hz_take (i := 17) (v := (.slice (some ⟨g, 0, none⟩) 5 uc)) rfl rfl (by kernel_rfl) (by decide) (by kernel_rfl) (by kernel_rfl) (by kernel_rfl) (fun _ _ _ h => h) (Or.inl ⟨by rfl, fun w' hs => by go_simp⟩) SS.out ?_
  change Hz _ _ _ _ _ _ _ _ (Act.put _ (some 38) _) _
  simp only [Act.put, List.setIfInBounds_toArray, List.set_cons_zero, List.set_cons_succ]
  refine hz_take (i := 18) (v := (.pointer (some ⟨g, 4, none⟩))) rfl rfl (by kernel_rfl) (by decide) (by kernel_rfl) (by kernel_rfl) (by kernel_rfl) (fun _ _ _ h => h) (Or.inl ⟨by rfl, fun w' hs => by go_simp⟩) SS.out ?_
  change Hz _ _ _ _ _ _ _ _ (Act.put _ (some 39) _) _
  simp only [Act.put, List.setIfInBounds_toArray, List.set_cons_zero, List.set_cons_succ]
  refine hz_take (i := 19) (v := (.int .i64 y4)) rfl rfl (by kernel_rfl) (by decide) (by kernel_rfl) (by kernel_rfl) (by kernel_rfl) (fun _ _ _ h => h) (Or.inl ⟨by rfl, fun w' hs => by have h0 := hs.2.2.2.2.2; go_simp⟩) SS.out ?_
  change Hz _ _ _ _ _ _ _ _ (Act.put _ (some 40) _) _
  simp only [Act.put, List.setIfInBounds_toArray, List.set_cons_zero, List.set_cons_succ]
  refine hz_take (i := 20) (v := (.agg #[.int .i64 y0, .int .i64 y1, .int .i64 y2, .int .i64 y3, .int .i64 y4])) rfl rfl (by kernel_rfl) (by decide) (by kernel_rfl) (by kernel_rfl) (by kernel_rfl) (fun _ _ _ h => h) (Or.inl ⟨by rfl, fun w' hs => by go_simp⟩) SS.out ?_
  change Hz _ _ _ _ _ _ _ _ (Act.put _ (some 41) _) _
  simp only [Act.put, List.setIfInBounds_toArray, List.set_cons_zero, List.set_cons_succ]
  refine hz_ready (rs := [21]) (by kernel_rfl) (by simp) ?_
  refine hz_cons (hz_next rfl (fun K hK => ?_)) hz_nil
  rw [if_pos (by rfl)]
  go_simp
  have x0 : (u0.alloc (.cells #[.int .i64 y0, .int .i64 y1, .int .i64 y2, .int .i64 y3, .int .i64 y4] 54)).cell? ⟨u0.heap.size, 0, none⟩ = some (.int .i64 y0) := cell_new rfl
  have x1 : (u0.alloc (.cells #[.int .i64 y0, .int .i64 y1, .int .i64 y2, .int .i64 y3, .int .i64 y4] 54)).cell? ⟨u0.heap.size, 1, none⟩ = some (.int .i64 y1) := cell_new rfl
  have x2 : (u0.alloc (.cells #[.int .i64 y0, .int .i64 y1, .int .i64 y2, .int .i64 y3, .int .i64 y4] 54)).cell? ⟨u0.heap.size, 2, none⟩ = some (.int .i64 y2) := cell_new rfl
  have x3 : (u0.alloc (.cells #[.int .i64 y0, .int .i64 y1, .int .i64 y2, .int .i64 y3, .int .i64 y4] 54)).cell? ⟨u0.heap.size, 3, none⟩ = some (.int .i64 y3) := cell_new rfl
  have x4 : (u0.alloc (.cells #[.int .i64 y0, .int .i64 y1, .int .i64 y2, .int .i64 y3, .int .i64 y4] 54)).cell? ⟨u0.heap.size, 4, none⟩ = some (.int .i64 y4) := cell_new rfl
  have BA : Hid (Below u0.heap.size u0 (u0.alloc (.cells #[.int .i64 y0, .int .i64 y1, .int .i64 y2, .int .i64 y3, .int .i64 y4] 54))) := al (Below.refl _ _) _
  have SA : Hid ((u0.alloc (.cells #[.int .i64 y0, .int .i64 y1, .int .i64 y2, .int .i64 y3, .int .i64 y4] 54)).cell? ⟨q, 1, none⟩ = some (.slice b1 n1 d1) ∧ (u0.alloc (.cells #[.int .i64 y0, .int .i64 y1, .int .i64 y2, .int .i64 y3, .int .i64 y4] 54)).cell? ⟨g, 0, none⟩ = some (.int .i64 y0) ∧ (u0.alloc (.cells #[.int .i64 y0, .int .i64 y1, .int .i64 y2, .int .i64 y3, .int .i64 y4] 54)).cell? ⟨g, 1, none⟩ = some (.int .i64 y1) ∧ (u0.alloc (.cells #[.int .i64 y0, .int .i64 y1, .int .i64 y2, .int .i64 y3, .int .i64 y4] 54)).cell? ⟨g, 2, none⟩ = some (.int .i64 y2) ∧ (u0.alloc (.cells #[.int .i64 y0, .int .i64 y1, .int .i64 y2, .int .i64 y3, .int .i64 y4] 54)).cell? ⟨g, 3, none⟩ = some (.int .i64 y3) ∧ (u0.alloc (.cells #[.int .i64 y0, .int .i64 y1, .int .i64 y2, .int .i64 y3, .int .i64 y4] 54)).cell? ⟨g, 4, none⟩ = some (.int .i64 y4)) := ⟨cell_keep BA.out SS.out.1, cell_keep BA.out SS.out.2.1, cell_keep BA.out SS.out.2.2.1, cell_keep BA.out SS.out.2.2.2.1, cell_keep BA.out SS.out.2.2.2.2.1, cell_keep BA.out SS.out.2.2.2.2.2⟩
  refine hK.out _ _ (fun _ => SA.out) ?_
  clear hK K
  have XC : Hid ((u0.alloc (.cells #[.int .i64 y0, .int .i64 y1, .int .i64 y2, .int .i64 y3, .int .i64 y4] 54)).cell? ⟨u0.heap.size, 0, none⟩ = some (.int .i64 y0) ∧ (u0.alloc (.cells #[.int .i64 y0, .int .i64 y1, .int .i64 y2, .int .i64 y3, .int .i64 y4] 54)).cell? ⟨u0.heap.size, 1, none⟩ = some (.int .i64 y1) ∧ (u0.alloc (.cells #[.int .i64 y0, .int .i64 y1, .int .i64 y2, .int .i64 y3, .int .i64 y4] 54)).cell? ⟨u0.heap.size, 2, none⟩ = some (.int .i64 y2) ∧ (u0.alloc (.cells #[.int .i64 y0, .int .i64 y1, .int .i64 y2, .int .i64 y3, .int .i64 y4] 54)).cell? ⟨u0.heap.size, 3, none⟩ = some (.int .i64 y3) ∧ (u0.alloc (.cells #[.int .i64 y0, .int .i64 y1, .int .i64 y2, .int .i64 y3, .int .i64 y4] 54)).cell? ⟨u0.heap.size, 4, none⟩ = some (.int .i64 y4)) := ⟨x0, x1, x2, x3, x4⟩
  clear x0 x1 x2 x3 x4
  have B3 : Hid (Below w.heap.size w (u0.alloc (.cells #[.int .i64 y0, .int .i64 y1, .int .i64 y2, .int .i64 y3, .int .i64 y4] 54))) := on B0.out BA.out
  have S3 : Hid (base ≤ (u0.alloc (.cells #[.int .i64 y0, .int .i64 y1, .int .i64 y2, .int .i64 y3, .int .i64 y4] 54)).heap.size) := Nat.le_trans HB.out.1 B3.out.size
  replace KB : Hid (Kb (u0.alloc (.cells #[.int .i64 y0, .int .i64 y1, .int .i64 y2, .int .i64 y3, .int .i64 y4] 54)) _ _ _) := KB.out.keep BA.out
  generalize (u0.alloc (.cells #[.int .i64 y0, .int .i64 y1, .int .i64 y2, .int .i64 y3, .int .i64 y4] 54)) = u2 at *
  generalize u0.heap.size = s0 at *
  clear BA SS
  refine hz_ready (rs := [22]) (by kernel_rfl) (by simp) ?_
  refine hz_cons (hz_next rfl (fun K hK => ?_)) hz_nil
  refine stepW_lane rfl (.tmp 25) (.tmp 42) rfl base (.slice b1 n1 d1) P.lanes rfl (HW.out.keep B3.out).lanes s0 ⟨y0, y1, y2, y3, y4⟩ rfl XC.out.1 XC.out.2.1 XC.out.2.2.1 XC.out.2.2.2.1 XC.out.2.2.2.2 (by have := HB.out; omega) S3.out ?_
  intro v' w' hN' hG'
  change K (Act.put _ (some 43) _) _
  simp only [Act.put, List.setIfInBounds_toArray, List.set_cons_zero, List.set_cons_succ]
  have PW := (HW.out.keep B3.out).pushLane (zs := zs) (by rw [HY.out.1, HY.out.2.1, HY.out.2.2.1, HY.out.2.2.2.1, HY.out.2.2.2.2]; exact hN'.out) hG'
  have G1 : Hid (Gn base w w') := Gn.row B3.out hG' (HW.out.keep B3.out).lanes
  have K1 := KB.out.gr hG' (fun e => KB.out.row (HW.out.keep B3.out).lanes (by decide) e.symm)
  obtain ⟨e1, f1, hv'⟩ : ∃ e f, v' = .slice e (adP P 1 zs).lanes.length f := PW.shape1
  generalize (adP P 1 zs).lanes.length = m1 at hv'
  subst hv'
  have PWH : Hid (Wp w' base _ _ _ _ (adP P 1 zs) _) := PW
  have K1H : Hid (Kb w' _ _ _) := K1
  have SB : Hid (w'.cell? ⟨q, 1, none⟩ = some (.slice b1 n1 d1) ∧ w'.cell? ⟨g, 0, none⟩ = some (.int .i64 y0) ∧ w'.cell? ⟨g, 1, none⟩ = some (.int .i64 y1) ∧ w'.cell? ⟨g, 2, none⟩ = some (.int .i64 y2) ∧ w'.cell? ⟨g, 3, none⟩ = some (.int .i64 y3) ∧ w'.cell? ⟨g, 4, none⟩ = some (.int .i64 y4)) := ⟨K1.cell (i := 1) rfl, num_cell' (rowW (HUN.out.keep B3.out) (HW.out.keep B3.out).lanes hG' (by decide)) 0 (by decide) HY.out.1, num_cell' (rowW (HUN.out.keep B3.out) (HW.out.keep B3.out).lanes hG' (by decide)) 1 (by decide) HY.out.2.1, num_cell' (rowW (HUN.out.keep B3.out) (HW.out.keep B3.out).lanes hG' (by decide)) 2 (by decide) HY.out.2.2.1, num_cell' (rowW (HUN.out.keep B3.out) (HW.out.keep B3.out).lanes hG' (by decide)) 3 (by decide) HY.out.2.2.2.1, num_cell' (rowW (HUN.out.keep B3.out) (HW.out.keep B3.out).lanes hG' (by decide)) 4 (by decide) HY.out.2.2.2.2⟩
  refine hK.out _ _ (fun _ => SB.out) ?_
  clear hK K hN' hG' PW SA
  refine hz_ready (rs := [23]) (by kernel_rfl) (by simp) ?_
  refine hz_cons (hz_next rfl (fun K hK => ?_)) hz_nil
  rw [if_pos (by rfl)]
  go_simp
  refine hK.out _ _ (fun _ => SB.out) ?_
  clear hK K
  refine hz_take (i := 24) (v := (.pointer (some ⟨q, 1, none⟩))) rfl rfl (by kernel_rfl) (by decide) (by kernel_rfl) (by kernel_rfl) (by kernel_rfl) (fun _ _ _ h => h) (Or.inl ⟨by rfl, fun w' hs => by go_simp⟩) SB.out ?_
  change Hz _ _ _ _ _ _ _ _ (Act.put _ (some 45) _) _
  simp only [Act.put, List.setIfInBounds_toArray, List.set_cons_zero, List.set_cons_succ]
  have s1 := K1H.out.free 1
  have k1 := K1H.out.cell (i := 1) rfl
  refine hz_ready (rs := [25]) (by kernel_rfl) (by simp) ?_
  refine hz_cons (hz_next rfl (fun K hK => ?_)) hz_nil
  rw [if_pos (by rfl)]
  have lq := K1H.out.lt
  go_simp
  clear s1 k1 lq
  refine hK.out _ _ (fun e => absurd rfl e) ?_
  clear hK K
  refine hz_done (by kernel_rfl) ?_
  go_wp2_with fail
  go_end0
  exact ⟨rfl, _, _, _, _, _, PWH.out.put K1H.out, K1H.out.set 1 (.slice e1 m1 f1), (G1.out.low HQ.out).put q (Nat.le_refl _) _ _⟩
set_option maxRecDepth 20000 in
set_option maxHeartbeats 8000000 in
theorem s_add2 (base q : Nat) (v0 v1 v2 v3 u : Value) (P : Plc) (xs : List Value) (zs : List Int) (w : World) (h : Wp w base v0 v1 v2 v3 P xs) (kq : Kb w q #[v0, v1, v2, v3] 27) (hu : Nums w base u zs) (hc : zs.length = 2) (hq : q ≤ base) (hb : base ≤ w.heap.size) (hs : SmP P 1000) :
    Calls Tryz.prog 11 #[.pointer (some ⟨q, 0, none⟩), .int .i64 2, u] w fun e w' => e = .returned (.tuple #[]) ∧ ∃ v0' v1' v2' v3' xs', Wp w' base v0' v1' v2' v3' (adP P 2 zs) xs' ∧ Kb w' q #[v0', v1', v2', v3'] 27 ∧ Gn q w w' := by
  obtain ⟨b0, b1, b2, b3, d0, d1, d2, d3, rfl, rfl, rfl, rfl⟩ := h.shape
  obtain ⟨ua, uc, hv, _, _, hg⟩ := hu.shape
  subst hv
  rw [hc] at hu hg ⊢
  obtain ⟨g, rfl⟩ := hg (by omega)
  have HW : Hid (Wp w base _ _ _ _ P xs) := h
  have HUN : Hid (Nums w base _ zs) := hu
  have HQ : Hid (q ≤ base) := hq
  have HB : Hid (base ≤ w.heap.size ∧ P.bells.length ≤ 1000) := ⟨hb, hs.bells⟩
  obtain ⟨y0, hy0⟩ : ∃ y, zs.getD 0 0 = y := ⟨_, rfl⟩
  obtain ⟨y1, hy1⟩ : ∃ y, zs.getD 1 0 = y := ⟨_, rfl⟩
  have z0 : w.cell? ⟨g, 0, none⟩ = some (.int .i64 y0) := num_cell' hu 0 (by decide) hy0
  have z1 : w.cell? ⟨g, 1, none⟩ = some (.int .i64 y1) := num_cell' hu 1 (by decide) hy1
  have HY : Hid (zs.getD 0 0 = y0 ∧ zs.getD 1 0 = y1) := ⟨hy0, hy1⟩
  have HZ : Hid (w.cell? ⟨g, 0, none⟩ = some (.int .i64 y0) ∧ w.cell? ⟨g, 1, none⟩ = some (.int .i64 y1)) := ⟨z0, z1⟩
  obtain ⟨n0, hn0⟩ : ∃ n, P.own.length = n := ⟨_, rfl⟩
  obtain ⟨n1, hn1⟩ : ∃ n, P.lanes.length = n := ⟨_, rfl⟩
  obtain ⟨n2, hn2⟩ : ∃ n, P.bells.length = n := ⟨_, rfl⟩
  obtain ⟨n3, hn3⟩ : ∃ n, P.plan.length = n := ⟨_, rfl⟩
  rw [hn0, hn1, hn2, hn3] at HW kq
  have KB2 : Hid (Kb w q #[.slice b0 n0 d0, .slice b1 n1 d1, .slice b2 n2 d2, .slice b3 n3 d3] 27) := kq
  have HL : Hid (q < w.heap.size) := kq.lt
  clear h hu hb hs hq hn0 hn1 hn2 hn3 kq hc hg hy0 z0 hy1 z1
  go_enter Tryz.func11, Tryz.ntmps11
  go_wp2_with fail
  refine hz_region (fun w' => w'.cell? ⟨q, 2, none⟩ = some (.slice b2 n2 d2) ∧ w'.cell? ⟨g, 0, none⟩ = some (.int .i64 y0) ∧ w'.cell? ⟨g, 1, none⟩ = some (.int .i64 y1)) 16 (by kernel_rfl) ?_
  have BD : Hid (Below w.heap.size w w.drew) := (Below.refl _ _).drew
  have B0 : Hid (Below w.heap.size w w.drew) := BD.out
  have KB : Hid (Kb w.drew _ _ _) := KB2.out.keep BD.out
  have SS : Hid (w.drew.cell? ⟨q, 2, none⟩ = some (.slice b2 n2 d2) ∧ w.drew.cell? ⟨g, 0, none⟩ = some (.int .i64 y0) ∧ w.drew.cell? ⟨g, 1, none⟩ = some (.int .i64 y1)) := ⟨KB.out.cell (i := 2) rfl, cell_keep B0.out HZ.out.1, cell_keep B0.out HZ.out.2⟩
  clear BD
  generalize w.drew = u0 at *
  refine hz_take (i := 0) (v := (.pointer (some ⟨q, 0, none⟩))) rfl rfl (by kernel_rfl) (by decide) (by kernel_rfl) (by kernel_rfl) (by kernel_rfl) (fun _ _ _ h => h) (Or.inl ⟨by rfl, fun w' hs => by go_simp⟩) SS.out ?_
  change Hz _ _ _ _ _ _ _ _ (Act.put _ (some 48) _) _
  simp only [Act.put, List.setIfInBounds_toArray, List.set_cons_zero, List.set_cons_succ]
  refine hz_take (i := 1) (v := (.pointer (some ⟨q, 0, none⟩))) rfl rfl (by kernel_rfl) (by decide) (by kernel_rfl) (by kernel_rfl) (by kernel_rfl) (fun _ _ _ h => h) (Or.inl ⟨by rfl, fun w' hs => by go_simp⟩) SS.out ?_
  change Hz _ _ _ _ _ _ _ _ (Act.put _ (some 49) _) _
  simp only [Act.put, List.setIfInBounds_toArray, List.set_cons_zero, List.set_cons_succ]
  refine hz_take (i := 2) (v := (.pointer (some ⟨q, 0, none⟩))) rfl rfl (by kernel_rfl) (by decide) (by kernel_rfl) (by kernel_rfl) (by kernel_rfl) (fun _ _ _ h => h) (Or.inl ⟨by rfl, fun w' hs => by go_simp⟩) SS.out ?_
  change Hz _ _ _ _ _ _ _ _ (Act.put _ (some 50) _) _
  simp only [Act.put, List.setIfInBounds_toArray, List.set_cons_zero, List.set_cons_succ]
  refine hz_take (i := 3) (v := (.pointer (some ⟨q, 2, none⟩))) rfl rfl (by kernel_rfl) (by decide) (by kernel_rfl) (by kernel_rfl) (by kernel_rfl) (fun _ _ _ h => h) (Or.inl ⟨by rfl, fun w' hs => by go_simp⟩) SS.out ?_
  change Hz _ _ _ _ _ _ _ _ (Act.put _ (some 51) _) _
  simp only [Act.put, List.setIfInBounds_toArray, List.set_cons_zero, List.set_cons_succ]
  refine hz_take (i := 4) (v := (.slice b2 n2 d2)) rfl rfl (by kernel_rfl) (by decide) (by kernel_rfl) (by kernel_rfl) (by kernel_rfl) (fun _ _ _ h => h) (Or.inl ⟨by rfl, fun w' hs => by have h0 := hs.1; go_simp⟩) SS.out ?_
  change Hz _ _ _ _ _ _ _ _ (Act.put _ (some 52) _) _
  simp only [Act.put, List.setIfInBounds_toArray, List.set_cons_zero, List.set_cons_succ]
  refine hz_take (i := 5) (v := (.slice (some ⟨g, 0, none⟩) 2 uc)) rfl rfl (by kernel_rfl) (by decide) (by kernel_rfl) (by kernel_rfl) (by kernel_rfl) (fun _ _ _ h => h) (Or.inl ⟨by rfl, fun w' hs => by go_simp⟩) SS.out ?_
  change Hz _ _ _ _ _ _ _ _ (Act.put _ (some 53) _) _
  simp only [Act.put, List.setIfInBounds_toArray, List.set_cons_zero, List.set_cons_succ]
  refine hz_take (i := 6) (v := (.pointer (some ⟨g, 0, none⟩))) rfl rfl (by kernel_rfl) (by decide) (by kernel_rfl) (by kernel_rfl) (by kernel_rfl) (fun _ _ _ h => h) (Or.inl ⟨by rfl, fun w' hs => by go_simp⟩) SS.out ?_
  change Hz _ _ _ _ _ _ _ _ (Act.put _ (some 54) _) _
  simp only [Act.put, List.setIfInBounds_toArray, List.set_cons_zero, List.set_cons_succ]
  refine hz_take (i := 7) (v := (.int .i64 y0)) rfl rfl (by kernel_rfl) (by decide) (by kernel_rfl) (by kernel_rfl) (by kernel_rfl) (fun _ _ _ h => h) (Or.inl ⟨by rfl, fun w' hs => by have h0 := hs.2.1; go_simp⟩) SS.out ?_
  change Hz _ _ _ _ _ _ _ _ (Act.put _ (some 55) _) _
  simp only [Act.put, List.setIfInBounds_toArray, List.set_cons_zero, List.set_cons_succ]
  refine hz_take (i := 8) (v := (.slice (some ⟨g, 0, none⟩) 2 uc)) rfl rfl (by kernel_rfl) (by decide) (by kernel_rfl) (by kernel_rfl) (by kernel_rfl) (fun _ _ _ h => h) (Or.inl ⟨by rfl, fun w' hs => by go_simp⟩) SS.out ?_
  change Hz _ _ _ _ _ _ _ _ (Act.put _ (some 56) _) _
  simp only [Act.put, List.setIfInBounds_toArray, List.set_cons_zero, List.set_cons_succ]
  refine hz_take (i := 9) (v := (.pointer (some ⟨g, 1, none⟩))) rfl rfl (by kernel_rfl) (by decide) (by kernel_rfl) (by kernel_rfl) (by kernel_rfl) (fun _ _ _ h => h) (Or.inl ⟨by rfl, fun w' hs => by go_simp⟩) SS.out ?_
  change Hz _ _ _ _ _ _ _ _ (Act.put _ (some 57) _) _
  simp only [Act.put, List.setIfInBounds_toArray, List.set_cons_zero, List.set_cons_succ]
  refine hz_take (i := 10) (v := (.int .i64 y1)) rfl rfl (by kernel_rfl) (by decide) (by kernel_rfl) (by kernel_rfl) (by kernel_rfl) (fun _ _ _ h => h) (Or.inl ⟨by rfl, fun w' hs => by have h0 := hs.2.2; go_simp⟩) SS.out ?_
  change Hz _ _ _ _ _ _ _ _ (Act.put _ (some 58) _) _
  simp only [Act.put, List.setIfInBounds_toArray, List.set_cons_zero, List.set_cons_succ]
  refine hz_take (i := 11) (v := (.agg #[.int .i64 y0, .int .i64 y1])) rfl rfl (by kernel_rfl) (by decide) (by kernel_rfl) (by kernel_rfl) (by kernel_rfl) (fun _ _ _ h => h) (Or.inl ⟨by rfl, fun w' hs => by go_simp⟩) SS.out ?_
  change Hz _ _ _ _ _ _ _ _ (Act.put _ (some 59) _) _
  simp only [Act.put, List.setIfInBounds_toArray, List.set_cons_zero, List.set_cons_succ]
  refine hz_ready (rs := [12]) (by kernel_rfl) (by simp) ?_
  refine hz_cons (hz_next rfl (fun K hK => ?_)) hz_nil
  rw [if_pos (by rfl)]
  go_simp
  have x0 : (u0.alloc (.cells #[.int .i64 y0, .int .i64 y1] 56)).cell? ⟨u0.heap.size, 0, none⟩ = some (.int .i64 y0) := cell_new rfl
  have x1 : (u0.alloc (.cells #[.int .i64 y0, .int .i64 y1] 56)).cell? ⟨u0.heap.size, 1, none⟩ = some (.int .i64 y1) := cell_new rfl
  have BA : Hid (Below u0.heap.size u0 (u0.alloc (.cells #[.int .i64 y0, .int .i64 y1] 56))) := al (Below.refl _ _) _
  have SA : Hid ((u0.alloc (.cells #[.int .i64 y0, .int .i64 y1] 56)).cell? ⟨q, 2, none⟩ = some (.slice b2 n2 d2) ∧ (u0.alloc (.cells #[.int .i64 y0, .int .i64 y1] 56)).cell? ⟨g, 0, none⟩ = some (.int .i64 y0) ∧ (u0.alloc (.cells #[.int .i64 y0, .int .i64 y1] 56)).cell? ⟨g, 1, none⟩ = some (.int .i64 y1)) := ⟨cell_keep BA.out SS.out.1, cell_keep BA.out SS.out.2.1, cell_keep BA.out SS.out.2.2⟩
  refine hK.out _ _ (fun _ => SA.out) ?_
  clear hK K
  have XC : Hid ((u0.alloc (.cells #[.int .i64 y0, .int .i64 y1] 56)).cell? ⟨u0.heap.size, 0, none⟩ = some (.int .i64 y0) ∧ (u0.alloc (.cells #[.int .i64 y0, .int .i64 y1] 56)).cell? ⟨u0.heap.size, 1, none⟩ = some (.int .i64 y1)) := ⟨x0, x1⟩
  clear x0 x1
  have B3 : Hid (Below w.heap.size w (u0.alloc (.cells #[.int .i64 y0, .int .i64 y1] 56))) := on B0.out BA.out
  have S3 : Hid (base ≤ (u0.alloc (.cells #[.int .i64 y0, .int .i64 y1] 56)).heap.size) := Nat.le_trans HB.out.1 B3.out.size
  replace KB : Hid (Kb (u0.alloc (.cells #[.int .i64 y0, .int .i64 y1] 56)) _ _ _) := KB.out.keep BA.out
  generalize (u0.alloc (.cells #[.int .i64 y0, .int .i64 y1] 56)) = u2 at *
  generalize u0.heap.size = s0 at *
  clear BA SS
  refine hz_ready (rs := [13]) (by kernel_rfl) (by simp) ?_
  refine hz_cons (hz_next rfl (fun K hK => ?_)) hz_nil
  refine stepW_pair 24 56 Tryz.underlying24 info_bell rfl (.tmp 52) (.tmp 60) rfl base (.slice b2 n2 d2) P.bells rfl (HW.out.keep B3.out).bells s0 y0 y1 rfl XC.out.1 XC.out.2 (by have := HB.out; omega) S3.out ?_
  intro v' w' hN' hG'
  change K (Act.put _ (some 61) _) _
  simp only [Act.put, List.setIfInBounds_toArray, List.set_cons_zero, List.set_cons_succ]
  have PW := (HW.out.keep B3.out).pushBell (zs := zs) (by rw [HY.out.1, HY.out.2]; exact hN'.out) hG'
  have G1 : Hid (Gn base w w') := Gn.row B3.out hG' (HW.out.keep B3.out).bells
  have K1 := KB.out.gr hG' (fun e => KB.out.row (HW.out.keep B3.out).bells (by decide) e.symm)
  obtain ⟨e2, f2, hv'⟩ : ∃ e f, v' = .slice e (adP P 2 zs).bells.length f := PW.shape2
  generalize (adP P 2 zs).bells.length = m2 at hv'
  subst hv'
  have PWH : Hid (Wp w' base _ _ _ _ (adP P 2 zs) _) := PW
  have K1H : Hid (Kb w' _ _ _) := K1
  have SB : Hid (w'.cell? ⟨q, 2, none⟩ = some (.slice b2 n2 d2) ∧ w'.cell? ⟨g, 0, none⟩ = some (.int .i64 y0) ∧ w'.cell? ⟨g, 1, none⟩ = some (.int .i64 y1)) := ⟨K1.cell (i := 2) rfl, num_cell' (rowW (HUN.out.keep B3.out) (HW.out.keep B3.out).bells hG' (by decide)) 0 (by decide) HY.out.1, num_cell' (rowW (HUN.out.keep B3.out) (HW.out.keep B3.out).bells hG' (by decide)) 1 (by decide) HY.out.2⟩
  refine hK.out _ _ (fun _ => SB.out) ?_
  clear hK K hN' hG' PW SA
  refine hz_ready (rs := [14]) (by kernel_rfl) (by simp) ?_
  refine hz_cons (hz_next rfl (fun K hK => ?_)) hz_nil
  rw [if_pos (by rfl)]
  go_simp
  refine hK.out _ _ (fun _ => SB.out) ?_
  clear hK K
  refine hz_take (i := 15) (v := (.pointer (some ⟨q, 2, none⟩))) rfl rfl (by kernel_rfl) (by decide) (by kernel_rfl) (by kernel_rfl) (by kernel_rfl) (fun _ _ _ h => h) (Or.inl ⟨by rfl, fun w' hs => by go_simp⟩) SB.out ?_
  change Hz _ _ _ _ _ _ _ _ (Act.put _ (some 63) _) _
  simp only [Act.put, List.setIfInBounds_toArray, List.set_cons_zero, List.set_cons_succ]
  have s2 := K1H.out.free 2
  have k2 := K1H.out.cell (i := 2) rfl
  refine hz_ready (rs := [16]) (by kernel_rfl) (by simp) ?_
  refine hz_cons (hz_next rfl (fun K hK => ?_)) hz_nil
  rw [if_pos (by rfl)]
  have lq := K1H.out.lt
  go_simp
  clear s2 k2 lq
  refine hK.out _ _ (fun e => absurd rfl e) ?_
  clear hK K
  refine hz_done (by kernel_rfl) ?_
  go_wp2_with fail
  go_end0
  exact ⟨rfl, _, _, _, _, _, PWH.out.put K1H.out, K1H.out.set 2 (.slice e2 m2 f2), (G1.out.low HQ.out).put q (Nat.le_refl _) _ _⟩
set_option maxRecDepth 20000 in
set_option maxHeartbeats 8000000 in
theorem s_add3 (base q : Nat) (v0 v1 v2 v3 u : Value) (P : Plc) (xs : List Value) (zs : List Int) (w : World) (h : Wp w base v0 v1 v2 v3 P xs) (kq : Kb w q #[v0, v1, v2, v3] 27) (hu : Nums w base u zs) (hc : zs.length = 2) (hq : q ≤ base) (hb : base ≤ w.heap.size) (hs : SmP P 1000) :
    Calls Tryz.prog 11 #[.pointer (some ⟨q, 0, none⟩), .int .i64 3, u] w fun e w' => e = .returned (.tuple #[]) ∧ ∃ v0' v1' v2' v3' xs', Wp w' base v0' v1' v2' v3' (adP P 3 zs) xs' ∧ Kb w' q #[v0', v1', v2', v3'] 27 ∧ Gn q w w' := by
  obtain ⟨b0, b1, b2, b3, d0, d1, d2, d3, rfl, rfl, rfl, rfl⟩ := h.shape
  obtain ⟨ua, uc, hv, _, _, hg⟩ := hu.shape
  subst hv
  rw [hc] at hu hg ⊢
  obtain ⟨g, rfl⟩ := hg (by omega)
  have HW : Hid (Wp w base _ _ _ _ P xs) := h
  have HUN : Hid (Nums w base _ zs) := hu
  have HQ : Hid (q ≤ base) := hq
  have HB : Hid (base ≤ w.heap.size ∧ P.plan.length ≤ 1000) := ⟨hb, hs.plan⟩
  obtain ⟨y0, hy0⟩ : ∃ y, zs.getD 0 0 = y := ⟨_, rfl⟩
  obtain ⟨y1, hy1⟩ : ∃ y, zs.getD 1 0 = y := ⟨_, rfl⟩
  have z0 : w.cell? ⟨g, 0, none⟩ = some (.int .i64 y0) := num_cell' hu 0 (by decide) hy0
  have z1 : w.cell? ⟨g, 1, none⟩ = some (.int .i64 y1) := num_cell' hu 1 (by decide) hy1
  have HY : Hid (zs.getD 0 0 = y0 ∧ zs.getD 1 0 = y1) := ⟨hy0, hy1⟩
  have HZ : Hid (w.cell? ⟨g, 0, none⟩ = some (.int .i64 y0) ∧ w.cell? ⟨g, 1, none⟩ = some (.int .i64 y1)) := ⟨z0, z1⟩
  obtain ⟨n0, hn0⟩ : ∃ n, P.own.length = n := ⟨_, rfl⟩
  obtain ⟨n1, hn1⟩ : ∃ n, P.lanes.length = n := ⟨_, rfl⟩
  obtain ⟨n2, hn2⟩ : ∃ n, P.bells.length = n := ⟨_, rfl⟩
  obtain ⟨n3, hn3⟩ : ∃ n, P.plan.length = n := ⟨_, rfl⟩
  rw [hn0, hn1, hn2, hn3] at HW kq
  have KB2 : Hid (Kb w q #[.slice b0 n0 d0, .slice b1 n1 d1, .slice b2 n2 d2, .slice b3 n3 d3] 27) := kq
  have HL : Hid (q < w.heap.size) := kq.lt
  clear h hu hb hs hq hn0 hn1 hn2 hn3 kq hc hg hy0 z0 hy1 z1
  go_enter Tryz.func11, Tryz.ntmps11
  go_wp2_with fail
  refine hz_region (fun w' => w'.cell? ⟨q, 3, none⟩ = some (.slice b3 n3 d3) ∧ w'.cell? ⟨g, 0, none⟩ = some (.int .i64 y0) ∧ w'.cell? ⟨g, 1, none⟩ = some (.int .i64 y1)) 16 (by kernel_rfl) ?_
  have BD : Hid (Below w.heap.size w w.drew) := (Below.refl _ _).drew
  have B0 : Hid (Below w.heap.size w w.drew) := BD.out
  have KB : Hid (Kb w.drew _ _ _) := KB2.out.keep BD.out
  have SS : Hid (w.drew.cell? ⟨q, 3, none⟩ = some (.slice b3 n3 d3) ∧ w.drew.cell? ⟨g, 0, none⟩ = some (.int .i64 y0) ∧ w.drew.cell? ⟨g, 1, none⟩ = some (.int .i64 y1)) := ⟨KB.out.cell (i := 3) rfl, cell_keep B0.out HZ.out.1, cell_keep B0.out HZ.out.2⟩
  clear BD
  generalize w.drew = u0 at *
  refine hz_take (i := 0) (v := (.pointer (some ⟨q, 0, none⟩))) rfl rfl (by kernel_rfl) (by decide) (by kernel_rfl) (by kernel_rfl) (by kernel_rfl) (fun _ _ _ h => h) (Or.inl ⟨by rfl, fun w' hs => by go_simp⟩) SS.out ?_
  change Hz _ _ _ _ _ _ _ _ (Act.put _ (some 66) _) _
  simp only [Act.put, List.setIfInBounds_toArray, List.set_cons_zero, List.set_cons_succ]
  refine hz_take (i := 1) (v := (.pointer (some ⟨q, 0, none⟩))) rfl rfl (by kernel_rfl) (by decide) (by kernel_rfl) (by kernel_rfl) (by kernel_rfl) (fun _ _ _ h => h) (Or.inl ⟨by rfl, fun w' hs => by go_simp⟩) SS.out ?_
  change Hz _ _ _ _ _ _ _ _ (Act.put _ (some 67) _) _
  simp only [Act.put, List.setIfInBounds_toArray, List.set_cons_zero, List.set_cons_succ]
  refine hz_take (i := 2) (v := (.pointer (some ⟨q, 0, none⟩))) rfl rfl (by kernel_rfl) (by decide) (by kernel_rfl) (by kernel_rfl) (by kernel_rfl) (fun _ _ _ h => h) (Or.inl ⟨by rfl, fun w' hs => by go_simp⟩) SS.out ?_
  change Hz _ _ _ _ _ _ _ _ (Act.put _ (some 68) _) _
  simp only [Act.put, List.setIfInBounds_toArray, List.set_cons_zero, List.set_cons_succ]
  refine hz_take (i := 3) (v := (.pointer (some ⟨q, 3, none⟩))) rfl rfl (by kernel_rfl) (by decide) (by kernel_rfl) (by kernel_rfl) (by kernel_rfl) (fun _ _ _ h => h) (Or.inl ⟨by rfl, fun w' hs => by go_simp⟩) SS.out ?_
  change Hz _ _ _ _ _ _ _ _ (Act.put _ (some 69) _) _
  simp only [Act.put, List.setIfInBounds_toArray, List.set_cons_zero, List.set_cons_succ]
  refine hz_take (i := 4) (v := (.slice b3 n3 d3)) rfl rfl (by kernel_rfl) (by decide) (by kernel_rfl) (by kernel_rfl) (by kernel_rfl) (fun _ _ _ h => h) (Or.inl ⟨by rfl, fun w' hs => by have h0 := hs.1; go_simp⟩) SS.out ?_
  change Hz _ _ _ _ _ _ _ _ (Act.put _ (some 70) _) _
  simp only [Act.put, List.setIfInBounds_toArray, List.set_cons_zero, List.set_cons_succ]
  refine hz_take (i := 5) (v := (.slice (some ⟨g, 0, none⟩) 2 uc)) rfl rfl (by kernel_rfl) (by decide) (by kernel_rfl) (by kernel_rfl) (by kernel_rfl) (fun _ _ _ h => h) (Or.inl ⟨by rfl, fun w' hs => by go_simp⟩) SS.out ?_
  change Hz _ _ _ _ _ _ _ _ (Act.put _ (some 71) _) _
  simp only [Act.put, List.setIfInBounds_toArray, List.set_cons_zero, List.set_cons_succ]
  refine hz_take (i := 6) (v := (.pointer (some ⟨g, 0, none⟩))) rfl rfl (by kernel_rfl) (by decide) (by kernel_rfl) (by kernel_rfl) (by kernel_rfl) (fun _ _ _ h => h) (Or.inl ⟨by rfl, fun w' hs => by go_simp⟩) SS.out ?_
  change Hz _ _ _ _ _ _ _ _ (Act.put _ (some 72) _) _
  simp only [Act.put, List.setIfInBounds_toArray, List.set_cons_zero, List.set_cons_succ]
  refine hz_take (i := 7) (v := (.int .i64 y0)) rfl rfl (by kernel_rfl) (by decide) (by kernel_rfl) (by kernel_rfl) (by kernel_rfl) (fun _ _ _ h => h) (Or.inl ⟨by rfl, fun w' hs => by have h0 := hs.2.1; go_simp⟩) SS.out ?_
  change Hz _ _ _ _ _ _ _ _ (Act.put _ (some 73) _) _
  simp only [Act.put, List.setIfInBounds_toArray, List.set_cons_zero, List.set_cons_succ]
  refine hz_take (i := 8) (v := (.slice (some ⟨g, 0, none⟩) 2 uc)) rfl rfl (by kernel_rfl) (by decide) (by kernel_rfl) (by kernel_rfl) (by kernel_rfl) (fun _ _ _ h => h) (Or.inl ⟨by rfl, fun w' hs => by go_simp⟩) SS.out ?_
  change Hz _ _ _ _ _ _ _ _ (Act.put _ (some 74) _) _
  simp only [Act.put, List.setIfInBounds_toArray, List.set_cons_zero, List.set_cons_succ]
  refine hz_take (i := 9) (v := (.pointer (some ⟨g, 1, none⟩))) rfl rfl (by kernel_rfl) (by decide) (by kernel_rfl) (by kernel_rfl) (by kernel_rfl) (fun _ _ _ h => h) (Or.inl ⟨by rfl, fun w' hs => by go_simp⟩) SS.out ?_
  change Hz _ _ _ _ _ _ _ _ (Act.put _ (some 75) _) _
  simp only [Act.put, List.setIfInBounds_toArray, List.set_cons_zero, List.set_cons_succ]
  refine hz_take (i := 10) (v := (.int .i64 y1)) rfl rfl (by kernel_rfl) (by decide) (by kernel_rfl) (by kernel_rfl) (by kernel_rfl) (fun _ _ _ h => h) (Or.inl ⟨by rfl, fun w' hs => by have h0 := hs.2.2; go_simp⟩) SS.out ?_
  change Hz _ _ _ _ _ _ _ _ (Act.put _ (some 76) _) _
  simp only [Act.put, List.setIfInBounds_toArray, List.set_cons_zero, List.set_cons_succ]
  refine hz_take (i := 11) (v := (.agg #[.int .i64 y0, .int .i64 y1])) rfl rfl (by kernel_rfl) (by decide) (by kernel_rfl) (by kernel_rfl) (by kernel_rfl) (fun _ _ _ h => h) (Or.inl ⟨by rfl, fun w' hs => by go_simp⟩) SS.out ?_
  change Hz _ _ _ _ _ _ _ _ (Act.put _ (some 77) _) _
  simp only [Act.put, List.setIfInBounds_toArray, List.set_cons_zero, List.set_cons_succ]
  refine hz_ready (rs := [12]) (by kernel_rfl) (by simp) ?_
  refine hz_cons (hz_next rfl (fun K hK => ?_)) hz_nil
  rw [if_pos (by rfl)]
  go_simp
  have x0 : (u0.alloc (.cells #[.int .i64 y0, .int .i64 y1] 58)).cell? ⟨u0.heap.size, 0, none⟩ = some (.int .i64 y0) := cell_new rfl
  have x1 : (u0.alloc (.cells #[.int .i64 y0, .int .i64 y1] 58)).cell? ⟨u0.heap.size, 1, none⟩ = some (.int .i64 y1) := cell_new rfl
  have BA : Hid (Below u0.heap.size u0 (u0.alloc (.cells #[.int .i64 y0, .int .i64 y1] 58))) := al (Below.refl _ _) _
  have SA : Hid ((u0.alloc (.cells #[.int .i64 y0, .int .i64 y1] 58)).cell? ⟨q, 3, none⟩ = some (.slice b3 n3 d3) ∧ (u0.alloc (.cells #[.int .i64 y0, .int .i64 y1] 58)).cell? ⟨g, 0, none⟩ = some (.int .i64 y0) ∧ (u0.alloc (.cells #[.int .i64 y0, .int .i64 y1] 58)).cell? ⟨g, 1, none⟩ = some (.int .i64 y1)) := ⟨cell_keep BA.out SS.out.1, cell_keep BA.out SS.out.2.1, cell_keep BA.out SS.out.2.2⟩
  refine hK.out _ _ (fun _ => SA.out) ?_
  clear hK K
  have XC : Hid ((u0.alloc (.cells #[.int .i64 y0, .int .i64 y1] 58)).cell? ⟨u0.heap.size, 0, none⟩ = some (.int .i64 y0) ∧ (u0.alloc (.cells #[.int .i64 y0, .int .i64 y1] 58)).cell? ⟨u0.heap.size, 1, none⟩ = some (.int .i64 y1)) := ⟨x0, x1⟩
  clear x0 x1
  have B3 : Hid (Below w.heap.size w (u0.alloc (.cells #[.int .i64 y0, .int .i64 y1] 58))) := on B0.out BA.out
  have S3 : Hid (base ≤ (u0.alloc (.cells #[.int .i64 y0, .int .i64 y1] 58)).heap.size) := Nat.le_trans HB.out.1 B3.out.size
  replace KB : Hid (Kb (u0.alloc (.cells #[.int .i64 y0, .int .i64 y1] 58)) _ _ _) := KB.out.keep BA.out
  generalize (u0.alloc (.cells #[.int .i64 y0, .int .i64 y1] 58)) = u2 at *
  generalize u0.heap.size = s0 at *
  clear BA SS
  refine hz_ready (rs := [13]) (by kernel_rfl) (by simp) ?_
  refine hz_cons (hz_next rfl (fun K hK => ?_)) hz_nil
  refine stepW_pair 25 58 Tryz.underlying25 info_slot rfl (.tmp 70) (.tmp 78) rfl base (.slice b3 n3 d3) P.plan rfl (HW.out.keep B3.out).plan s0 y0 y1 rfl XC.out.1 XC.out.2 (by have := HB.out; omega) S3.out ?_
  intro v' w' hN' hG'
  change K (Act.put _ (some 79) _) _
  simp only [Act.put, List.setIfInBounds_toArray, List.set_cons_zero, List.set_cons_succ]
  have PW := (HW.out.keep B3.out).pushSlot (zs := zs) (by rw [HY.out.1, HY.out.2]; exact hN'.out) hG'
  have G1 : Hid (Gn base w w') := Gn.row B3.out hG' (HW.out.keep B3.out).plan
  have K1 := KB.out.gr hG' (fun e => KB.out.row (HW.out.keep B3.out).plan (by decide) e.symm)
  obtain ⟨e3, f3, hv'⟩ : ∃ e f, v' = .slice e (adP P 3 zs).plan.length f := PW.shape3
  generalize (adP P 3 zs).plan.length = m3 at hv'
  subst hv'
  have PWH : Hid (Wp w' base _ _ _ _ (adP P 3 zs) _) := PW
  have K1H : Hid (Kb w' _ _ _) := K1
  have SB : Hid (w'.cell? ⟨q, 3, none⟩ = some (.slice b3 n3 d3) ∧ w'.cell? ⟨g, 0, none⟩ = some (.int .i64 y0) ∧ w'.cell? ⟨g, 1, none⟩ = some (.int .i64 y1)) := ⟨K1.cell (i := 3) rfl, num_cell' (rowW (HUN.out.keep B3.out) (HW.out.keep B3.out).plan hG' (by decide)) 0 (by decide) HY.out.1, num_cell' (rowW (HUN.out.keep B3.out) (HW.out.keep B3.out).plan hG' (by decide)) 1 (by decide) HY.out.2⟩
  refine hK.out _ _ (fun _ => SB.out) ?_
  clear hK K hN' hG' PW SA
  refine hz_ready (rs := [14]) (by kernel_rfl) (by simp) ?_
  refine hz_cons (hz_next rfl (fun K hK => ?_)) hz_nil
  rw [if_pos (by rfl)]
  go_simp
  refine hK.out _ _ (fun _ => SB.out) ?_
  clear hK K
  refine hz_take (i := 15) (v := (.pointer (some ⟨q, 3, none⟩))) rfl rfl (by kernel_rfl) (by decide) (by kernel_rfl) (by kernel_rfl) (by kernel_rfl) (fun _ _ _ h => h) (Or.inl ⟨by rfl, fun w' hs => by go_simp⟩) SB.out ?_
  change Hz _ _ _ _ _ _ _ _ (Act.put _ (some 81) _) _
  simp only [Act.put, List.setIfInBounds_toArray, List.set_cons_zero, List.set_cons_succ]
  have s3 := K1H.out.free 3
  have k3 := K1H.out.cell (i := 3) rfl
  refine hz_ready (rs := [16]) (by kernel_rfl) (by simp) ?_
  refine hz_cons (hz_next rfl (fun K hK => ?_)) hz_nil
  rw [if_pos (by rfl)]
  have lq := K1H.out.lt
  go_simp
  clear s3 k3 lq
  refine hK.out _ _ (fun e => absurd rfl e) ?_
  clear hK K
  refine hz_done (by kernel_rfl) ?_
  go_wp2_with fail
  go_end0
  exact ⟨rfl, _, _, _, _, _, PWH.out.put K1H.out, K1H.out.set 3 (.slice e3 m3 f3), (G1.out.low HQ.out).put q (Nat.le_refl _) _ _⟩
theorem s_add (k : Nat) (hk : k < 4) (base q : Nat) (v0 v1 v2 v3 u : Value) (P : Plc) (xs : List Value) (zs : List Int) (w : World) (h : Wp w base v0 v1 v2 v3 P xs) (kq : Kb w q #[v0, v1, v2, v3] 27) (hu : Nums w base u zs) (ha : ∀ x ∈ xs, Apt x u) (hc : (k = 1 → zs.length = 5) ∧ (k = 2 → zs.length = 2) ∧ (k = 3 → zs.length = 2)) (hq : q ≤ base) (hb : base ≤ w.heap.size) (hs : SmP P 1000) :
    Calls Tryz.prog 11 #[.pointer (some ⟨q, 0, none⟩), .int .i64 (k : Int), u] w fun e w' => e = .returned (.tuple #[]) ∧ ∃ v0' v1' v2' v3' xs', Wp w' base v0' v1' v2' v3' (adP P k zs) xs' ∧ Kb w' q #[v0', v1', v2', v3'] 27 ∧ Gn q w w' := by
  match k, hk with
  | 0, _ => exact s_add0 base q v0 v1 v2 v3 u P xs zs w h kq hu ha hq hb hs
  | 1, _ => exact s_add1 base q v0 v1 v2 v3 u P xs zs w h kq hu (hc.1 rfl) hq hb hs
  | 2, _ => exact s_add2 base q v0 v1 v2 v3 u P xs zs w h kq hu (hc.2.1 rfl) hq hb hs
  | 3, _ => exact s_add3 base q v0 v1 v2 v3 u P xs zs w h kq hu (hc.2.2 rfl) hq hb hs
end Go.Proofs.YtcdbhhhihhdghaaGreatDoor
namespace Go.Proofs.YtcdbhhhihhdghaaGreatDoor
open Go.RowKit
set_option linter.unusedVariables false

structure Mp (w w1 wr : World) (R : Int × Nat × Plc) (L : List Wb) (k i : Nat) (P : Plc) (v0 v1 v2 v3 : Value) (xs : List Value) : Prop where
  val : rdP (L.drop i) k i P = R
  sm : SmP P i
  pol : Wp wr (w1.heap.size + 1) v0 v1 v2 v3 P xs
  var : Kb wr w1.heap.size #[v0, v1, v2, v3] 27
  bel : Below w1.heap.size w1 wr
  two : w1.heap.size + 1 ≤ wr.heap.size
set_option maxRecDepth 20000 in
set_option maxHeartbeats 16000000 in
theorem s_parsePolicy (tx : Wb) (hl : tx.length ≤ 1048576) (w : World) : Calls Tryz.prog 4 #[.string (bq tx)] w fun e w' => ppO w w' (ppV tx) e ∧ Below w.heap.size w w' := by
  have hz : (bq tx).size = tx.length := bq_size tx
  obtain ⟨n, hn⟩ : ∃ n, tx.length = n := ⟨_, rfl⟩
  have hnI : (n : Int) ≤ 1048576 := by omega
  by_cases hb : 1000 < n
  · have e : ppV tx = (2, 0, vdP) := by unfold ppV; rw [if_pos (by omega)]
    have hI : (1000 : Int) < (n : Int) := by omega
    rw [e]
    rw [hn] at hz
    clear e hn hl
    generalize bq tx = S at *
    go_enter Tryz.func4, Tryz.ntmps4
    go_wp2_with fail
    exact bodyPost_ret (v := .agg #[.int .i64 2, .int .i64 0, .slice none 0 0, .slice none 0 0, .slice none 0 0, .slice none 0 0]) (by simp [results, Tryz.results4, go_sem]) rfl ⟨⟨_, _, _, _, _, rfl, Wp.void _ _⟩, al (Below.refl _ _) _⟩
  have hI : (n : Int) ≤ 1000 := by omega
  have hpp : ppV tx = if (rdP (spl 10 tx []) 0 0 vdP).1 = 0 then (if pfV (rdP (spl 10 tx []) 0 0 vdP).2.2 = 0 then (0, 0, (rdP (spl 10 tx []) 0 0 vdP).2.2) else (pfV (rdP (spl 10 tx []) 0 0 vdP).2.2, 0, vdP)) else ((rdP (spl 10 tx []) 0 0 vdP).1, (rdP (spl 10 tx []) 0 0 vdP).2.1, vdP) := by unfold ppV; rw [if_neg (by omega)]
  have CUT := s_cut tx 10 (w.alloc (.cells #[.int .i64 0, .int .i64 0, .slice none 0 0, .slice none 0 0, .slice none 0 0, .slice none 0 0] 29)) (by omega)
  have hmany := spl_many 10 tx []
  have hshort := spl_short 10 tx []
  have hne := spl_ne 10 tx []
  obtain ⟨V, hV⟩ : ∃ V, ppV tx = V := ⟨_, rfl⟩
  obtain ⟨L, hL⟩ : ∃ L, spl 10 tx [] = L := ⟨_, rfl⟩
  rw [hL] at hpp CUT hmany hshort hne
  obtain ⟨R, hR⟩ : ∃ R, rdP L 0 0 vdP = R := ⟨_, rfl⟩
  rw [hR, hV] at hpp
  rw [hV]
  have HP : Hid (V = if R.1 = 0 then (if pfV R.2.2 = 0 then (0, 0, R.2.2) else (pfV R.2.2, 0, vdP)) else (R.1, R.2.1, vdP)) := hpp
  have HR : Hid (rdP L 0 0 vdP = R) := hR
  obtain ⟨m, hm⟩ : ∃ m, L.length = m + 1 := ⟨L.length - 1, by have := List.length_pos_iff.2 hne; omega⟩
  have HN : Hid (L.length = m + 1 ∧ m ≤ 1000) := ⟨hm, by omega⟩
  have hmI : (m : Int) ≤ 1000 := by have := HN.out; omega
  have HS : Hid (∀ i, i < m + 1 → (L.getD i []).length ≤ 1000) := fun i hi => by
    have := hshort (L.getD i []) (by rw [List.getD, List.getElem?_eq_getElem (by omega)]; exact List.getElem_mem (by omega))
    rw [List.length_nil, Nat.zero_add] at this
    omega
  rw [hn] at hz
  clear hpp hV hL hR hmany hshort hne hn hl hb
  generalize bq tx = S at *
  go_enter Tryz.func4, Tryz.ntmps4
  go_wp2_with fail
  refine CUT.mono ?_
  clear CUT
  rintro e w1 ⟨v, rfl, hO, b1⟩
  obtain ⟨a, cap, rfl, k1, k2, k3, k4⟩ := hO.shape
  rw [hm] at k1 ⊢
  obtain ⟨p, hp⟩ : ∃ p, a = some p := by
    cases a with
    | none => have := k3 rfl; rw [this] at hm; cases hm
    | some p => exact ⟨p, rfl⟩
  obtain ⟨g, rfl⟩ := k4 p hp
  subst hp
  have hO' : w1.ownsRow (w.alloc (.cells #[.int .i64 0, .int .i64 0, .slice none 0 0, .slice none 0 0, .slice none 0 0, .slice none 0 0] 29)).heap.size 9 1 (.slice (some ⟨g, 0, none⟩) (m + 1) cap) (m + 1) (strs L) := by have h := hO; unfold Os at h; rw [hm] at h; exact h
  have HC : Hid (∀ i, i < m + 1 → w1.cell? ⟨g, i, none⟩ = some (.string (bq (L.getD i [])))) := fun i hi => by
    rw [World.ownsRow.cellAt hO' i (by omega)]
    unfold strs
    rw [List.getElem?_map, List.getD, List.getElem?_eq_getElem (by omega)]
    rfl
  have B1 : Hid (Below w.heap.size w w1) := on (al (Below.refl _ _) _) b1
  have K1 : Hid (Kb w1 w.heap.size #[.int .i64 0, .int .i64 0, .slice none 0 0, .slice none 0 0, .slice none 0 0, .slice none 0 0] 29) := (Kb.new w _ _).keep b1
  have L1 : Hid (w.heap.size < w1.heap.size) := K1.out.lt
  clear hO hO' k1 k2 k3 k4 b1 hm
  go_wp2_with fail
  generalize hW : w1.alloc (.cells #[.slice none 0 0, .slice none 0 0, .slice none 0 0, .slice none 0 0] 27) = W2 at *
  have KV : Hid (Kb W2 w1.heap.size #[.slice none 0 0, .slice none 0 0, .slice none 0 0, .slice none 0 0] 27) := by show Kb _ _ _ _; rw [← hW]; exact Kb.new w1 _ _
  have B2 : Hid (Below w1.heap.size w1 W2) := by show Below _ _ _; rw [← hW]; exact al (Below.refl _ _) _
  have S2 : Hid (w1.heap.size + 1 ≤ W2.heap.size) := by show _ ≤ _; rw [← hW]; simp
  clear hW
  go_loopw [5, 6] (fun ls ii wr => ∃ (k i : Nat) (P : Plc) (v0 v1 v2 v3 : Value) (xs : List Value), i ≤ m ∧ ls = .int .i64 (k : Int) ∧ ii = .int .i64 (i : Int) ∧ Mp w w1 wr R L k i P v0 v1 v2 v3 xs) (fun _ ii _ => m - (intOf ii).toNat)
  case atStart => exact ⟨0, 0, vdP, _, _, _, _, [], Nat.zero_le _, rfl, rfl, HR.out, ⟨Nat.le_refl _, Nat.le_refl _, Nat.le_refl _, Nat.le_refl _⟩, Wp.void _ _, KV.out, B2.out, S2.out⟩
  case round =>
    obtain ⟨k, i, P, v0, v1, v2, v3, xs, hi, rfl, rfl, hp⟩ := hrel
    have MP : Hid (Mp w w1 wr R L k i P v0 v1 v2 v3 xs) := hp
    have K2 : Hid (Kb wr w.heap.size #[.int .i64 0, .int .i64 0, .slice none 0 0, .slice none 0 0, .slice none 0 0, .slice none 0 0] 29) := K1.out.keep hp.bel
    clear hp
    by_cases hlt : i < m
    · have hJ : (i : Int) < (m : Int) := by omega
      have HJ : Hid (i < m) := hlt
      have hv := rd_at L i k P (by have := HN.out; omega)
      rw [MP.out.val] at hv
      have ci := cell_keep MP.out.bel (HC.out i (by omega))
      have SW := fun w2 => s_words (L.getD i []) (HS.out i (by omega)) w2
      obtain ⟨y, hy⟩ : ∃ y, L.getD i [] = y := ⟨_, rfl⟩
      rw [hy] at hv ci SW
      cases hln : lnO y with
      | none =>
        rw [hln] at hv SW
        have e : R = (5, i, P) := hv
        have eV : V = (5, i, vdP) := by have := HP.out; rw [e, if_neg (show ¬ (5 : Int) = 0 by decide)] at this; exact this
        subst eV
        clear hv e hln hy hlt hi
        go_wp2_with (go_at_call 10; refine (SW _).mono ?_; rintro e w2 ⟨rfl, b2⟩; have B3 : Hid (Below wr.heap.size wr w2) := b2; have K3 : Hid (Kb w2 w.heap.size _ _) := K2.out.keep b2; have r0 := K3.out.cell (i := 0) rfl; have r1 := K3.out.cell (i := 1) rfl; have r2 := K3.out.cell (i := 2) rfl; have r3 := K3.out.cell (i := 3) rfl; have r4 := K3.out.cell (i := 4) rfl; have r5 := K3.out.cell (i := 5) rfl; have t0 := K3.out.free 0; have t1 := K3.out.free 1; have t2 := K3.out.free 2; have t3 := K3.out.free 3; have t4 := K3.out.free 4; have t5 := K3.out.free 5; clear b2)
        have K2 := K3
        have KF : Kb _ w.heap.size #[.int .i64 5, .int .i64 (i : Int), .slice none 0 0, .slice none 0 0, .slice none 0 0, .slice none 0 0] 29 := ((((((K2.out.set 0 (.int .i64 5)).set 1 (.int .i64 (i : Int))).set 2 (.slice none 0 0)).set 3 (.slice none 0 0)).set 4 (.slice none 0 0)).set 5 (.slice none 0 0))
        have LD := run_loadVar_mid (P := Tryz.prog) _ w.heap.size 0 29 #[.int .i64 5, .int .i64 (i : Int), .slice none 0 0, .slice none 0 0, .slice none 0 0, .slice none 0 0].toList _ (fun j v hj => by rw [Nat.zero_add]; exact KF.cell (by simpa using hj)) Tryz.underlying29 rfl (by kernel_rfl)
        exact bodyPost_ret (v := .agg #[.int .i64 5, .int .i64 (i : Int), .slice none 0 0, .slice none 0 0, .slice none 0 0, .slice none 0 0]) (by simp [results, Tryz.results4, asAddr]; rw [LD]) rfl ⟨⟨_, _, _, _, [], rfl, Wp.void _ _⟩, (((((((on B1.out (on MP.out.bel B3.out)).setCell (Nat.le_refl _) _).setCell (Nat.le_refl _) _).setCell (Nat.le_refl _) _).setCell (Nat.le_refl _) _).setCell (Nat.le_refl _) _).setCell (Nat.le_refl _) _)⟩
      | some fz =>
        obtain ⟨f, zs⟩ := fz
        rw [hln] at hv SW
        have hv : R = if f < k then (5, i, P) else rdP (L.drop (i + 1)) f (i + 1) (adP P f zs) := hv
        have LC : Hid (f < 4 ∧ (f = 1 → zs.length = 5) ∧ (f = 2 → zs.length = 2) ∧ (f = 3 → zs.length = 2)) := ln_cnt hln
        by_cases hf : f < k
        · rw [if_pos hf] at hv
          have eV : V = (5, i, vdP) := by have := HP.out; rw [hv, if_neg (show ¬ (5 : Int) = 0 by decide)] at this; exact this
          have hI2 : (f : Int) < (k : Int) := by omega
          subst eV
          clear hv hln hy hlt hi hf
          go_wp2_with (go_at_call 10; refine (SW _).mono ?_; rintro e w2 ⟨⟨v, rfl, hNN⟩, b2⟩; have B3 : Hid (Below wr.heap.size wr w2) := b2; have K3 : Hid (Kb w2 w.heap.size _ _) := K2.out.keep b2; have r0 := K3.out.cell (i := 0) rfl; have r1 := K3.out.cell (i := 1) rfl; have r2 := K3.out.cell (i := 2) rfl; have r3 := K3.out.cell (i := 3) rfl; have r4 := K3.out.cell (i := 4) rfl; have r5 := K3.out.cell (i := 5) rfl; have t0 := K3.out.free 0; have t1 := K3.out.free 1; have t2 := K3.out.free 2; have t3 := K3.out.free 3; have t4 := K3.out.free 4; have t5 := K3.out.free 5; clear b2 hNN)
          have K2 := K3
          have KF : Kb _ w.heap.size #[.int .i64 5, .int .i64 (i : Int), .slice none 0 0, .slice none 0 0, .slice none 0 0, .slice none 0 0] 29 := ((((((K2.out.set 0 (.int .i64 5)).set 1 (.int .i64 (i : Int))).set 2 (.slice none 0 0)).set 3 (.slice none 0 0)).set 4 (.slice none 0 0)).set 5 (.slice none 0 0))
          have LD := run_loadVar_mid (P := Tryz.prog) _ w.heap.size 0 29 #[.int .i64 5, .int .i64 (i : Int), .slice none 0 0, .slice none 0 0, .slice none 0 0, .slice none 0 0].toList _ (fun j v hj => by rw [Nat.zero_add]; exact KF.cell (by simpa using hj)) Tryz.underlying29 rfl (by kernel_rfl)
          exact bodyPost_ret (v := .agg #[.int .i64 5, .int .i64 (i : Int), .slice none 0 0, .slice none 0 0, .slice none 0 0, .slice none 0 0]) (by simp [results, Tryz.results4, asAddr]; rw [LD]) rfl ⟨⟨_, _, _, _, [], rfl, Wp.void _ _⟩, (((((((on B1.out (on MP.out.bel B3.out)).setCell (Nat.le_refl _) _).setCell (Nat.le_refl _) _).setCell (Nat.le_refl _) _).setCell (Nat.le_refl _) _).setCell (Nat.le_refl _) _).setCell (Nat.le_refl _) _)⟩
        · rw [if_neg hf] at hv
          have HV : Hid (rdP (L.drop (i + 1)) f (i + 1) (adP P f zs) = R) := hv.symm
          have hI2 : (k : Int) ≤ (f : Int) := by omega
          have wi : IntKind.i64.wrap ((i : Int) + 1) = (i : Int) + 1 := by rw [IntKind.wrap_i64]; have := HN.out; omega
          clear hv hln hy hlt hi hf
          go_wp2_with (first
            | (go_at_call 10; refine (SW _).mono ?_; rintro e w2 ⟨⟨v, rfl, hNN⟩, b2⟩; have B3 : Hid (Below wr.heap.size wr w2) := b2; have PN : Hid (Wp w2 (w1.heap.size + 1) v0 v1 v2 v3 P xs) := MP.out.pol.keep b2; have NU : Hid (Nums w2 (w1.heap.size + 1) v zs) := owns_mono hNN MP.out.two; have AP : Hid (∀ x ∈ xs, Apt x v) := MP.out.pol.apt hNN (Nat.le_refl _); have VV : Hid (Kb w2 w1.heap.size #[v0, v1, v2, v3] 27) := MP.out.var.keep b2; clear b2 hNN)
            | (go_at_call 11; refine (s_add f LC.out.1 (w1.heap.size + 1) w1.heap.size v0 v1 v2 v3 _ P xs zs _ PN.out VV.out NU.out AP.out LC.out.2 (by omega) (by have := MP.out.two; have := B3.out.size; omega) (by have h := MP.out.sm; have := HN.out; have := HJ.out; exact ⟨by have := h.own; omega, by have := h.lanes; omega, by have := h.bells; omega, by have := h.plan; omega⟩)).mono ?_; rintro e w3 ⟨rfl, u0, u1, u2, u3, ys, hW, hK, hG⟩; have WN : Hid (Wp w3 (w1.heap.size + 1) u0 u1 u2 u3 (adP P f zs) ys) := hW; have KN : Hid (Kb w3 w1.heap.size #[u0, u1, u2, u3] 27) := hK; have GN : Hid (Gn w1.heap.size _ w3) := hG; clear hW hK hG))
          go_roundw
          case rel => exact ⟨f, i + 1, adP P f zs, u0, u1, u2, u3, ys, by have := HJ.out; omega, rfl, by go_num, HV.out, MP.out.sm.next f zs, WN.out, KN.out, GN.out _ w1 (on MP.out.bel B3.out) (Nat.le_refl _) (Nat.le_refl _), by have := (GN.out.self (by have := MP.out.two; have := B3.out.size; omega)).size; have := MP.out.two; have := B3.out.size; omega⟩
          case measure => have := HJ.out; simp [intOf]; omega
    · have hJ : ¬ (i : Int) < (m : Int) := by omega
      obtain rfl : i = m := by omega
      have hv := rd_last L i k P (by have := HN.out; omega)
      rw [MP.out.val] at hv
      have ci := cell_keep MP.out.bel (HC.out i (by omega))
      obtain ⟨y, hy⟩ : ∃ y, L.getD i [] = y := ⟨_, rfl⟩
      rw [hy] at hv ci
      by_cases h0 : y = []
      · subst h0
        rw [if_pos rfl] at hv
        have es : (bq ([] : Wb)).toList.isEmpty = true := by rw [bqP_toList]; rfl
        have HV : Hid (V = if pfV P = 0 then (0, 0, P) else (pfV P, 0, vdP)) := by have := HP.out; rw [hv, if_pos rfl] at this; exact this
        obtain ⟨b0, b1, b2, b3, d0, d1, d2, d3, rfl, rfl, rfl, rfl⟩ := MP.out.pol.shape
        have PA : Hid (PolAt wr w1.heap.size P) := ⟨_, _, _, _, _, _, _, _, _, _, _, _, MP.out.var.cell (i := 0) rfl, MP.out.var.cell (i := 1) rfl, MP.out.var.cell (i := 2) rfl, MP.out.var.cell (i := 3) rfl, MP.out.pol.pl⟩
        generalize P.own.length = n0 at *
        generalize P.lanes.length = n1 at *
        generalize P.bells.length = n2 at *
        generalize P.plan.length = n3 at *
        clear hv hy hi hlt
        by_cases hf : pfV P = 0
        · have eV : V = (0, 0, P) := by have := HV.out; rw [if_pos hf] at this; exact this
          subst eV
          go_wp2_with (go_at_call 12; refine (l6_fault _ P _ PA.out).mono ?_; rintro e w5 ⟨rfl, b5⟩; have B5 : Hid (Below w1.heap.size w1 w5) := on MP.out.bel b5; have K3 : Hid (Kb w5 w.heap.size _ _) := K2.out.keep b5; have r0 := K3.out.cell (i := 0) rfl; have r1 := K3.out.cell (i := 1) rfl; have r2 := K3.out.cell (i := 2) rfl; have r3 := K3.out.cell (i := 3) rfl; have r4 := K3.out.cell (i := 4) rfl; have r5 := K3.out.cell (i := 5) rfl; have t0 := K3.out.free 0; have t1 := K3.out.free 1; have t2 := K3.out.free 2; have t3 := K3.out.free 3; have t4 := K3.out.free 4; have t5 := K3.out.free 5; have V5 : Hid (Kb w5 w1.heap.size _ _) := MP.out.var.keep b5; have p0 := V5.out.cell (i := 0) rfl; have p1 := V5.out.cell (i := 1) rfl; have p2 := V5.out.cell (i := 2) rfl; have p3 := V5.out.cell (i := 3) rfl; have W5 : Hid (Wp w5 _ _ _ _ _ P xs) := MP.out.pol.keep b5; clear b5)
          have K2 := K3
          have KF : Kb _ w.heap.size #[.int .i64 0, .int .i64 0, .slice b0 n0 d0, .slice b1 n1 d1, .slice b2 n2 d2, .slice b3 n3 d3] 29 := ((((((K2.out.set 0 (.int .i64 0)).set 1 (.int .i64 0)).set 2 (.slice b0 n0 d0)).set 3 (.slice b1 n1 d1)).set 4 (.slice b2 n2 d2)).set 5 (.slice b3 n3 d3))
          have LD := run_loadVar_mid (P := Tryz.prog) _ w.heap.size 0 29 #[.int .i64 0, .int .i64 0, .slice b0 n0 d0, .slice b1 n1 d1, .slice b2 n2 d2, .slice b3 n3 d3].toList _ (fun j v hj => by rw [Nat.zero_add]; exact KF.cell (by simpa using hj)) Tryz.underlying29 rfl (by kernel_rfl)
          exact bodyPost_ret (v := .agg #[.int .i64 0, .int .i64 0, .slice b0 n0 d0, .slice b1 n1 d1, .slice b2 n2 d2, .slice b3 n3 d3]) (by simp [results, Tryz.results4, asAddr]; rw [LD]) rfl ⟨⟨_, _, _, _, xs, rfl, (W5.out.mono (by have := L1.out; omega)).put6 K2.out⟩, (((((((on B1.out B5.out).setCell (Nat.le_refl _) _).setCell (Nat.le_refl _) _).setCell (Nat.le_refl _) _).setCell (Nat.le_refl _) _).setCell (Nat.le_refl _) _).setCell (Nat.le_refl _) _)⟩
        · have eV : V = (pfV P, 0, vdP) := by have := HV.out; rw [if_neg hf] at this; exact this
          subst eV
          go_wp2_with (go_at_call 12; refine (l6_fault _ P _ PA.out).mono ?_; rintro e w5 ⟨rfl, b5⟩; have B5 : Hid (Below w1.heap.size w1 w5) := on MP.out.bel b5; have K3 : Hid (Kb w5 w.heap.size _ _) := K2.out.keep b5; have r0 := K3.out.cell (i := 0) rfl; have r1 := K3.out.cell (i := 1) rfl; have r2 := K3.out.cell (i := 2) rfl; have r3 := K3.out.cell (i := 3) rfl; have r4 := K3.out.cell (i := 4) rfl; have r5 := K3.out.cell (i := 5) rfl; have t0 := K3.out.free 0; have t1 := K3.out.free 1; have t2 := K3.out.free 2; have t3 := K3.out.free 3; have t4 := K3.out.free 4; have t5 := K3.out.free 5;  clear b5)
          have K2 := K3
          have KF : Kb _ w.heap.size #[.int .i64 (pfV P), .int .i64 0, .slice none 0 0, .slice none 0 0, .slice none 0 0, .slice none 0 0] 29 := ((((((K2.out.set 0 (.int .i64 (pfV P))).set 1 (.int .i64 0)).set 2 (.slice none 0 0)).set 3 (.slice none 0 0)).set 4 (.slice none 0 0)).set 5 (.slice none 0 0))
          have LD := run_loadVar_mid (P := Tryz.prog) _ w.heap.size 0 29 #[.int .i64 (pfV P), .int .i64 0, .slice none 0 0, .slice none 0 0, .slice none 0 0, .slice none 0 0].toList _ (fun j v hj => by rw [Nat.zero_add]; exact KF.cell (by simpa using hj)) Tryz.underlying29 rfl (by kernel_rfl)
          exact bodyPost_ret (v := .agg #[.int .i64 (pfV P), .int .i64 0, .slice none 0 0, .slice none 0 0, .slice none 0 0, .slice none 0 0]) (by simp [results, Tryz.results4, asAddr]; rw [LD]) rfl ⟨⟨_, _, _, _, [], rfl, Wp.void _ _⟩, (((((((on B1.out B5.out).setCell (Nat.le_refl _) _).setCell (Nat.le_refl _) _).setCell (Nat.le_refl _) _).setCell (Nat.le_refl _) _).setCell (Nat.le_refl _) _).setCell (Nat.le_refl _) _)⟩
      · rw [if_neg h0] at hv
        have es : (bq y).toList.isEmpty = false := by rw [bqP_toList]; cases y with | nil => exact absurd rfl h0 | cons c r => rfl
        have eV : V = (5, i, vdP) := by have := HP.out; rw [hv, if_neg (show ¬ (5 : Int) = 0 by decide)] at this; exact this
        subst eV
        clear hv hy h0 hi hlt
        have r0 := K2.out.cell (i := 0) rfl
        have r1 := K2.out.cell (i := 1) rfl
        have r2 := K2.out.cell (i := 2) rfl
        have r3 := K2.out.cell (i := 3) rfl
        have r4 := K2.out.cell (i := 4) rfl
        have r5 := K2.out.cell (i := 5) rfl
        have t0 := K2.out.free 0
        have t1 := K2.out.free 1
        have t2 := K2.out.free 2
        have t3 := K2.out.free 3
        have t4 := K2.out.free 4
        have t5 := K2.out.free 5
        go_wp2_with fail
        have KF : Kb _ w.heap.size #[.int .i64 5, .int .i64 (i : Int), .slice none 0 0, .slice none 0 0, .slice none 0 0, .slice none 0 0] 29 := ((((((K2.out.set 0 (.int .i64 5)).set 1 (.int .i64 (i : Int))).set 2 (.slice none 0 0)).set 3 (.slice none 0 0)).set 4 (.slice none 0 0)).set 5 (.slice none 0 0))
        have LD := run_loadVar_mid (P := Tryz.prog) _ w.heap.size 0 29 #[.int .i64 5, .int .i64 (i : Int), .slice none 0 0, .slice none 0 0, .slice none 0 0, .slice none 0 0].toList _ (fun j v hj => by rw [Nat.zero_add]; exact KF.cell (by simpa using hj)) Tryz.underlying29 rfl (by kernel_rfl)
        exact bodyPost_ret (v := .agg #[.int .i64 5, .int .i64 (i : Int), .slice none 0 0, .slice none 0 0, .slice none 0 0, .slice none 0 0]) (by simp [results, Tryz.results4, asAddr]; rw [LD]) rfl ⟨⟨_, _, _, _, [], rfl, Wp.void _ _⟩, (((((((on B1.out MP.out.bel).setCell (Nat.le_refl _) _).setCell (Nat.le_refl _) _).setCell (Nat.le_refl _) _).setCell (Nat.le_refl _) _).setCell (Nat.le_refl _) _).setCell (Nat.le_refl _) _)⟩
end Go.Proofs.YtcdbhhhihhdghaaGreatDoor
