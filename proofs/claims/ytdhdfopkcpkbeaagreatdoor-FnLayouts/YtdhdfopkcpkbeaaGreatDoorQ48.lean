/- Texts of this seat, joined. -/
import Derived.Deep.RegionLaw
import Derived.Test.YtdhdfopkcpkbeaaGreatDoorQ47
namespace Go.Proofs.YtdhdfopkcpkbeaaGreatDoor
open Go.RowKit
set_option linter.unusedVariables false

/-- How long the lists are of a policy that was bent. -/
def Fo (own : List (List Int)) : Prop := own.length ≤ 4 ∧ ∀ i, (own.getD i []).length ≤ 3
theorem Fo.nil : Fo [] := ⟨by decide, fun i => by simp⟩
theorem Fit.fo {P : Plc} (F : Fit P) : Fo P.own := ⟨by have := F.own.2; omega, fun i => by
  by_cases h : i < P.own.length
  · exact (F.rows i h).2
  · rw [List.getD, List.getElem?_eq_none (by omega)]; exact Nat.zero_le _⟩
theorem Fo.le {a b : List (List Int)} (h : Fo a) (l : b.length = a.length ∧ ∀ i, (b.getD i []).length ≤ (a.getD i []).length) : Fo b := ⟨by have := h.1; omega, fun i => Nat.le_trans (l.2 i) (h.2 i)⟩
theorem Fo.app {a : List (List Int)} (h : Fo a) (l : a.length ≤ 3) : Fo (a ++ [a.getD 0 []]) := ⟨by simp; omega, fun i => by
  by_cases hi : i < a.length
  · have := h.2 i; rw [List.getD, List.getElem?_append_left hi]; exact this
  · by_cases e : i = a.length
    · subst e; have := h.2 0; rw [List.getD, List.getElem?_append_right (Nat.le_refl _)]; simpa using this
    · rw [List.getD, List.getElem?_eq_none (by simp; omega)]; exact Nat.zero_le _⟩
set_option maxRecDepth 100000 in
set_option maxHeartbeats 4000000 in
theorem bentf_any {w : World} {b k : Nat} {a : Option Addr} {len cap : Nat} {zs : List Int} (s : Src w b k a len cap zs) (hk : k ≤ 70000) :
    Calls Tryz.prog 16 #[.pointer (some ⟨b, 0, none⟩)] w fun e w' => ∃ (v0 v1 v2 v3 : Value) (P : Plc) (k' : Nat), e = .returned (.agg #[v0, v1, v2, v3]) ∧ Dv w' w.heap.size v0 v1 v2 v3 P ∧ Fo P.own ∧ k' ≤ k + 200 ∧ Turn b w w' ∧ Src w' b k' a len cap zs := by
  have hb := s.here
  have HS : Hid (Src w b k a len cap zs) := s
  have HK : Hid (k ≤ 70000) := hk
  clear s hk
  go_enter Tryz.func16, Tryz.ntmps16
  go_wp2_with fail
  refine (policy_any (HS.out.alloc _) (by have := HK.out; omega)).mono ?_
  rintro e w1 ⟨v0, v1, v2, v3, P, kk, rfl, F, d1, hkk, t1, s1⟩
  have HF : Hid (Fit P) := F
  have FO : Hid (Fo P.own) := F.fo
  rw [World.size_alloc] at d1
  have P1 : Hid (Pq w (w1.alloc (.cells #[v0, v1, v2, v3] 29)) b kk w1.heap.size a len cap zs v0 v1 v2 v3 P) := by
    have hs := t1.size
    rw [World.size_alloc] at hs
    have r1 : Bk w1 w.heap.size #[.slice none 0 0, .slice none 0 0, .slice none 0 0, .slice none 0 0] 29 := (Bk.new w _ _).turn t1 (by omega)
    exact ⟨s1.alloc _, ((Turn.alloc _ w _).trans t1).trans (Turn.alloc _ _ _), r1.keep (al (Below.refl _ _) _), by omega, Bk.new w1 _ _, (d1.mono (by omega)).keep (al (Below.refl _ _) _)⟩
  have HKK : Hid (kk ≤ k + 100) := hkk
  obtain ⟨a0, c0, a1, c1, a2, c2, a3, c3, rfl, rfl, rfl, rfl⟩ := d1.shape
  clear F d1 hkk t1 s1 HS
  generalize hn0 : P.own.length = n0 at *
  generalize hn1 : P.lanes.length = n1 at *
  generalize hn2 : P.bells.length = n2 at *
  generalize hn3 : P.plan.length = n3 at *
  have HL : Hid (P.own.length = n0 ∧ P.lanes.length = n1 ∧ P.bells.length = n2 ∧ P.plan.length = n3) := ⟨hn0, hn1, hn2, hn3⟩
  clear hn0 hn1 hn2 hn3
  go_wp2_with fail
  refine (next_any P1.out.src (by have := HK.out; have := HKK.out; omega) _).mono ?_
  rintro e w2 ⟨v, rfl, -, -, t2, s2⟩
  have P2 : Hid (Pq w w2 b (kk + 1) w1.heap.size a len cap zs (.slice a0 n0 c0) (.slice a1 n1 c1) (.slice a2 n2 c2) (.slice a3 n3 c3) P) := P1.out.next hb t2 s2
  generalize w1.heap.size = q at *
  clear t2 s2 P1
  by_cases e0 : v = 0
  · subst e0
    obtain ⟨g, x1, x2, rfl, hc, hf, hN⟩ := P2.out.dv.own.first (by have := HF.out.own; omega)
    have hn : 0 < n0 := by have := HF.out.own; have := HL.out; omega
    have hm : 0 < (P.own.getD 0 []).length := by have := HF.out.rows 0 (by have := HF.out.own; omega); omega
    obtain ⟨ga, ca, hs, _, _, hg⟩ := hN.shape
    obtain ⟨g1, rfl⟩ := hg hm
    cases hs
    have HN : Hid (Nums w2 w.heap.size (.slice (some ⟨g1, 0, none⟩) (P.own.getD 0 []).length x2) (P.own.getD 0 [])) := hN
    generalize hml : (P.own.getD 0 []).length = m at *
    have HM : Hid (0 < m ∧ (P.own.getD 0 []).length = m) := ⟨hm, hml⟩
    have hG : g < w2.heap.size := block_of_cell hc
    have HG : Hid (g < w2.heap.size ∧ g ≠ b) := ⟨hG, fun e => by subst e; obtain ⟨xs, _, h1, _⟩ := P2.out.dv.own; have := (World.ownsRow.lt h1 g rfl).1; omega⟩
    have PD : Hid (Pq w w2.drew b (kk + 1) q a len cap zs (.slice (some ⟨g, 0, none⟩) n0 c0) (.slice a1 n1 c1) (.slice a2 n2 c2) (.slice a3 n3 c3) P) := P2.out.below hb (Below.refl _ _).drew
    have p0 := P2.out.var.cell (i := 0) rfl
    have pa : ∀ o, (w2.alloc o).cell? ⟨q, 0, none⟩ = some (.slice (some ⟨g, 0, none⟩) n0 c0) := fun o => (P2.out.alloc hb o).var.cell (i := 0) rfl
    have cx : ∀ o, (w2.alloc o).cell? ⟨g, 0, none⟩ = some (.slice (some ⟨g1, 0, none⟩) m x2) := fun o => cell_keep (al (Below.refl w2.heap.size w2) o) hc
    clear hN hml hG hf
    go_wp2_with fail
    go_region_law (first
      | (go_simp; go_wp2_with (go_at_call 40; refine (pickl PD.out.src (by have := HK.out; have := HKK.out; omega) [-1, 24, 3] 3 rfl (by omega) (by omega)).mono ?_; rintro e x1 ⟨u, rfl, t, s⟩; have PX : Hid (Pq w x1 b (kk + 1 + 1) q a len cap zs (.slice (some ⟨g, 0, none⟩) n0 c0) (.slice a1 n1 c1) (.slice a2 n2 c2) (.slice a3 n3 c3) P) := PD.out.next hb t s; have p0x := PX.out.var.cell (i := 0) rfl; have hcx : x1.cell? ⟨g, 0, none⟩ = some (.slice (some ⟨g1, 0, none⟩) m x2) := (by rw [t.cell (p := ⟨g, 0, none⟩) HG.out.1 HG.out.2]; exact hc); have NX : Hid (Nums x1 w.heap.size (.slice (some ⟨g1, 0, none⟩) m x2) (P.own.getD 0 [])) := (HN.out.keep (Below.refl w2.heap.size w2).drew).turn t hb; have s0 := NX.out.cell HM.out.2.symm 0 HM.out.1; have s1 := NX.out.free HM.out.2.symm 0; clear t s)))
    all_goals (
      obtain ⟨oss, pe, ol⟩ := PX.out.hit hb NX.out u
      replace FO : Hid (Fo oss) := FO.out.le ol
      clear ol
      have PE : Hid (Pq w (x1.setCell ⟨g1, 0, none⟩ (.int .i64 u)) b (kk + 1 + 1) q a len cap zs (.slice (some ⟨g, 0, none⟩) n0 c0) (.slice a1 n1 c1) (.slice a2 n2 c2) (.slice a3 n3 c3) ⟨oss, P.lanes, P.bells, P.plan⟩) := pe
      clear pe p0 pa cx hc p0x hcx
      have q0 := PE.out.var.cell (i := 0) rfl
      have q1 := PE.out.var.cell (i := 1) rfl
      have q2 := PE.out.var.cell (i := 2) rfl
      have q3 := PE.out.var.cell (i := 3) rfl
      have r0 := PE.out.res.cell (i := 0) rfl
      have r1 := PE.out.res.cell (i := 1) rfl
      have r2 := PE.out.res.cell (i := 2) rfl
      have r3 := PE.out.res.cell (i := 3) rfl
      have y0 := PE.out.res.free 0
      have y1 := PE.out.res.free 1
      have y2 := PE.out.res.free 2
      have y3 := PE.out.res.free 3
      go_wp2_with fail
      obtain ⟨d, t, s, bk⟩ := PE.out.done hb
      have z0 := bk.cell (i := 0) rfl
      have z1 := bk.cell (i := 1) rfl
      have z2 := bk.cell (i := 2) rfl
      have z3 := bk.cell (i := 3) rfl
      exact bodyPost_ret (v := .agg #[.slice (some ⟨g, 0, none⟩) n0 c0, .slice a1 n1 c1, .slice a2 n2 c2, .slice a3 n3 c3]) (by simp [results, Tryz.results16, go_sem, z0, z1, z2, z3]) rfl ⟨_, _, _, _, _, _, rfl, d, FO.out, by have := HKK.out; omega, t, s⟩)
    -- whole
  by_cases e1 : v = 1
  · subst e1
    obtain ⟨g, x1, x2, rfl, hc, hf, hN⟩ := P2.out.dv.own.first (by have := HF.out.own; omega)
    have hn : 0 < n0 := by have := HF.out.own; have := HL.out; omega
    have HN : Hid (Nums w2 w.heap.size (.slice x1 (P.own.getD 0 []).length x2) (P.own.getD 0 [])) := hN
    generalize hml : (P.own.getD 0 []).length = m at *
    have PD : Hid (Pq w w2.drew b (kk + 1) q a len cap zs (.slice (some ⟨g, 0, none⟩) n0 c0) (.slice a1 n1 c1) (.slice a2 n2 c2) (.slice a3 n3 c3) P) := P2.out.below hb (Below.refl _ _).drew
    have p0 := P2.out.var.cell (i := 0) rfl
    have pa : ∀ o, (w2.alloc o).cell? ⟨q, 0, none⟩ = some (.slice (some ⟨g, 0, none⟩) n0 c0) := fun o => (P2.out.alloc hb o).var.cell (i := 0) rfl
    have HO : Hid (P.own.length ≤ 3) := HF.out.own.2
    replace FO : Hid (Fo (P.own ++ [P.own.getD 0 []])) := FO.out.app HO.out
    clear hN hml hf
    go_wp2_with fail
    go_region_law (first
      | (refine step_slo rfl (.tmp 21) (.tmp 26) rfl w.heap.size (.slice (some ⟨g, 0, none⟩) n0 c0) P.own (by simp [Act.eval]) (PD.out.alloc hb _).dv.own w2.heap.size x1 m x2 (P.own.getD 0 []) (by simp [Act.eval]) (cell_new rfl) ((HN.out.keep (Below.refl w2.heap.size w2).drew).keep (al (Below.refl _ _) _)) (by have := HO.out; omega) (by have := P2.out.turn.size; simp; omega) ?_; intro v' w' hN' hG'; obtain ⟨va, vc, hv', _, _, _⟩ := hN'.out.shape; generalize hvn : List.length _ = vn at hv'; clear hvn; subst hv'; obtain ⟨bk, pe⟩ := (PD.out.alloc hb _).owned hb hN'.out hG'; have PE : Hid (Pq w (w'.setCell ⟨q, 0, none⟩ (.slice va vn vc)) b (kk + 1) q a len cap zs (.slice va vn vc) (.slice a1 n1 c1) (.slice a2 n2 c2) (.slice a3 n3 c3) _) := pe; have q0' := bk.cell (i := 0) rfl; have f0' := bk.free 0; clear hN' hG' bk pe))
    all_goals (
      clear p0 pa hc
      have q0 := PE.out.var.cell (i := 0) rfl
      have q1 := PE.out.var.cell (i := 1) rfl
      have q2 := PE.out.var.cell (i := 2) rfl
      have q3 := PE.out.var.cell (i := 3) rfl
      have r0 := PE.out.res.cell (i := 0) rfl
      have r1 := PE.out.res.cell (i := 1) rfl
      have r2 := PE.out.res.cell (i := 2) rfl
      have r3 := PE.out.res.cell (i := 3) rfl
      have y0 := PE.out.res.free 0
      have y1 := PE.out.res.free 1
      have y2 := PE.out.res.free 2
      have y3 := PE.out.res.free 3
      go_wp2_with fail
      obtain ⟨d, t, s, bk⟩ := PE.out.done hb
      have z0 := bk.cell (i := 0) rfl
      have z1 := bk.cell (i := 1) rfl
      have z2 := bk.cell (i := 2) rfl
      have z3 := bk.cell (i := 3) rfl
      exact bodyPost_ret (v := .agg #[.slice va vn vc, .slice a1 n1 c1, .slice a2 n2 c2, .slice a3 n3 c3]) (by simp [results, Tryz.results16, go_sem, z0, z1, z2, z3]) rfl ⟨_, _, _, _, _, _, rfl, d, FO.out, by have := HKK.out; omega, t, s⟩)
    -- whole
  by_cases e2 : v = 2
  · subst e2
    replace FO : Hid (Fo []) := Fo.nil
    have p0 := P2.out.var.cell (i := 0) rfl
    have f0 := P2.out.var.free 0
    have PE : Hid (Pq w (w2.setCell ⟨q, 0, none⟩ (.slice none 0 0)) b (kk + 1) q a len cap zs (.slice none 0 0) (.slice a1 n1 c1) (.slice a2 n2 c2) (.slice a3 n3 c3) ⟨[], P.lanes, P.bells, P.plan⟩) := P2.out.set hb ⟨So.nil _ _, P2.out.dv.lanes, P2.out.dv.bells, P2.out.dv.plan⟩ rfl
    have q0 := PE.out.var.cell (i := 0) rfl
    have q1 := PE.out.var.cell (i := 1) rfl
    have q2 := PE.out.var.cell (i := 2) rfl
    have q3 := PE.out.var.cell (i := 3) rfl
    have r0 := PE.out.res.cell (i := 0) rfl
    have r1 := PE.out.res.cell (i := 1) rfl
    have r2 := PE.out.res.cell (i := 2) rfl
    have r3 := PE.out.res.cell (i := 3) rfl
    have y0 := PE.out.res.free 0
    have y1 := PE.out.res.free 1
    have y2 := PE.out.res.free 2
    have y3 := PE.out.res.free 3
    clear HF
    go_wp2_with fail
    obtain ⟨d, t, s, bk⟩ := PE.out.done hb
    have z0 := bk.cell (i := 0) rfl
    have z1 := bk.cell (i := 1) rfl
    have z2 := bk.cell (i := 2) rfl
    have z3 := bk.cell (i := 3) rfl
    exact bodyPost_ret (v := .agg #[.slice none 0 0, .slice a1 n1 c1, .slice a2 n2 c2, .slice a3 n3 c3]) (by simp [results, Tryz.results16, go_sem, z0, z1, z2, z3]) rfl ⟨_, _, _, _, _, _, rfl, d, FO.out, by have := HKK.out; omega, t, s⟩
  by_cases e3 : v = 3
  · subst e3
    have HO : Hid (P.lanes.length ≤ 10) := HF.out.lanes
    go_wp2_with fail
    have PD : Hid (Pq w w2.drew b (kk + 1) q a len cap zs (.slice a0 n0 c0) (.slice a1 n1 c1) (.slice a2 n2 c2) (.slice a3 n3 c3) P) := P2.out.below hb (Below.refl _ _).drew
    refine hz_region (fun w' => w'.cell? ⟨q, 1, none⟩ = some (.slice a1 n1 c1)) 19 (by kernel_rfl) ?_
    generalize w2.drew = u0 at *
    refine hz_take (i := 0) (v := (.pointer (some ⟨q, 1, none⟩))) rfl rfl (by kernel_rfl) (by decide) (by kernel_rfl) (by kernel_rfl) (by kernel_rfl) (fun _ _ _ h => h) (Or.inl ⟨by rfl, fun w' hs => by go_simp⟩) (PD.out.var.cell (i := 1) rfl) ?_
    change Hz _ _ _ _ _ _ _ _ (Act.put _ (some 34) _) _
    simp only [Act.put, List.setIfInBounds_toArray, List.set_cons_zero, List.set_cons_succ]
    refine hz_take (i := 1) (v := (.slice a1 n1 c1)) rfl rfl (by kernel_rfl) (by decide) (by kernel_rfl) (by kernel_rfl) (by kernel_rfl) (fun _ _ _ h => h) (Or.inl ⟨by rfl, fun w' hs => by go_simp⟩) (PD.out.var.cell (i := 1) rfl) ?_
    change Hz _ _ _ _ _ _ _ _ (Act.put _ (some 35) _) _
    simp only [Act.put, List.setIfInBounds_toArray, List.set_cons_zero, List.set_cons_succ]
    refine hz_take (i := 2) (v := (.pointer (some ⟨b, 0, none⟩))) rfl rfl (by kernel_rfl) (by decide) (by kernel_rfl) (by kernel_rfl) (by kernel_rfl) (fun _ _ _ h => h) (Or.inl ⟨by rfl, fun w' hs => by go_simp⟩) (PD.out.var.cell (i := 1) rfl) ?_
    change Hz _ _ _ _ _ _ _ _ (Act.put _ (some 36) _) _
    simp only [Act.put, List.setIfInBounds_toArray, List.set_cons_zero, List.set_cons_succ]
    refine hz_take (i := 4) (v := (.pointer (some ⟨b, 0, none⟩))) rfl rfl (by kernel_rfl) (by decide) (by kernel_rfl) (by kernel_rfl) (by kernel_rfl) (fun _ _ _ h => h) (Or.inl ⟨by rfl, fun w' hs => by go_simp⟩) (PD.out.var.cell (i := 1) rfl) ?_
    change Hz _ _ _ _ _ _ _ _ (Act.put _ (some 38) _) _
    simp only [Act.put, List.setIfInBounds_toArray, List.set_cons_zero, List.set_cons_succ]
    refine hz_take (i := 6) (v := (.pointer (some ⟨b, 0, none⟩))) rfl rfl (by kernel_rfl) (by decide) (by kernel_rfl) (by kernel_rfl) (by kernel_rfl) (fun _ _ _ h => h) (Or.inl ⟨by rfl, fun w' hs => by go_simp⟩) (PD.out.var.cell (i := 1) rfl) ?_
    change Hz _ _ _ _ _ _ _ _ (Act.put _ (some 40) _) _
    simp only [Act.put, List.setIfInBounds_toArray, List.set_cons_zero, List.set_cons_succ]
    refine hz_take (i := 9) (v := (.pointer (some ⟨b, 0, none⟩))) rfl rfl (by kernel_rfl) (by decide) (by kernel_rfl) (by kernel_rfl) (by kernel_rfl) (fun _ _ _ h => h) (Or.inl ⟨by rfl, fun w' hs => by go_simp⟩) (PD.out.var.cell (i := 1) rfl) ?_
    change Hz _ _ _ _ _ _ _ _ (Act.put _ (some 43) _) _
    simp only [Act.put, List.setIfInBounds_toArray, List.set_cons_zero, List.set_cons_succ]
    refine hz_take (i := 12) (v := (.pointer (some ⟨b, 0, none⟩))) rfl rfl (by kernel_rfl) (by decide) (by kernel_rfl) (by kernel_rfl) (by kernel_rfl) (fun _ _ _ h => h) (Or.inl ⟨by rfl, fun w' hs => by go_simp⟩) (PD.out.var.cell (i := 1) rfl) ?_
    change Hz _ _ _ _ _ _ _ _ (Act.put _ (some 46) _) _
    simp only [Act.put, List.setIfInBounds_toArray, List.set_cons_zero, List.set_cons_succ]
    refine hz_name (fun G HG => ?_)
    have st5111 : ∀ (u : World) (x0 : Int) (x1 : Int) (x2 : Int) (x3 : Int) (x4 : Int) (g7 : Nat) (g10 : Nat) (g13 : Nat), (Pq w u b (kk + 1 + 1 + 1 + 1 + 1 + 1) q a len cap zs (.slice a0 n0 c0) (.slice a1 n1 c1) (.slice a2 n2 c2) (.slice a3 n3 c3) P) → G 5 #[true, true, true, true, true, true, true, true, true, true, true, true, true, true, true, false, false, false, false, false] { tmps := #[.pointer (some ⟨b, 0, none⟩), undef, .pointer (some ⟨w.heap.size, 0, none⟩), .pointer (some ⟨q, 0, none⟩), .pointer (some ⟨b, 0, none⟩), .agg #[.slice a0 n0 c0, .slice a1 n1 c1, .slice a2 n2 c2, .slice a3 n3 c3], .pointer (some ⟨b, 0, none⟩), .int .i64 3, .bool false, .bool false, undef, undef, undef, undef, undef, undef, undef, undef, .bool false, .bool false, undef, undef, undef, undef, undef, undef, undef, undef, undef, .bool false, .bool false, undef, .bool true, .bool true, .pointer (some ⟨q, 1, none⟩), .slice a1 n1 c1, .pointer (some ⟨b, 0, none⟩), .int .i64 x0, .pointer (some ⟨b, 0, none⟩), .int .i64 x1, .pointer (some ⟨b, 0, none⟩), .slice (some ⟨g7, 0, none⟩) 3 3, .int .i64 x2, .pointer (some ⟨b, 0, none⟩), .slice (some ⟨g10, 0, none⟩) 2 2, .int .i64 x3, .pointer (some ⟨b, 0, none⟩), .slice (some ⟨g13, 0, none⟩) 3 3, .int .i64 x4, undef, undef, undef, undef, undef, undef, undef, undef, undef, undef, undef, undef, undef, undef, undef, undef, undef, undef, undef, undef, undef, undef, undef, undef, undef, undef, undef, undef, undef, undef, undef, undef, undef, undef, undef, undef, undef, undef, undef, undef, undef, undef, undef], defers := [] } u := by
      intro u x0 x1 x2 x3 x4 g7 g10 g13 hPX
      have PX : Hid (Pq w u b (kk + 1 + 1 + 1 + 1 + 1 + 1) q a len cap zs (.slice a0 n0 c0) (.slice a1 n1 c1) (.slice a2 n2 c2) (.slice a3 n3 c3) P) := hPX
      clear hPX
      rw [HG.out]
      refine hz_take (i := 15) (v := (.agg #[.int .i64 x0, .int .i64 x1, .int .i64 x2, .int .i64 x3, .int .i64 x4])) rfl rfl (by kernel_rfl) (by decide) (by kernel_rfl) (by kernel_rfl) (by kernel_rfl) (fun _ _ _ h => h) (Or.inl ⟨by rfl, fun w' hs => by go_simp⟩) (PX.out.var.cell (i := 1) rfl) ?_
      change Hz _ _ _ _ _ _ _ _ (Act.put _ (some 49) _) _
      simp only [Act.put, List.setIfInBounds_toArray, List.set_cons_zero, List.set_cons_succ]
      refine hz_ready (rs := [16]) (by kernel_rfl) (by simp) ?_
      refine hz_cons (hz_next rfl (fun K hK => ?_)) hz_nil
      rw [if_pos (by rfl)]
      go_simp
      have NP : Hid (Pq w (u.alloc (.cells #[.int .i64 x0, .int .i64 x1, .int .i64 x2, .int .i64 x3, .int .i64 x4] 83)) b (kk + 1 + 1 + 1 + 1 + 1 + 1) q a len cap zs (.slice a0 n0 c0) (.slice a1 n1 c1) (.slice a2 n2 c2) (.slice a3 n3 c3) P) := PX.out.alloc hb _
      have d0 : (u.alloc (.cells #[.int .i64 x0, .int .i64 x1, .int .i64 x2, .int .i64 x3, .int .i64 x4] 83)).cell? ⟨u.heap.size, 0, none⟩ = some (.int .i64 x0) := cell_new rfl
      have d1 : (u.alloc (.cells #[.int .i64 x0, .int .i64 x1, .int .i64 x2, .int .i64 x3, .int .i64 x4] 83)).cell? ⟨u.heap.size, 1, none⟩ = some (.int .i64 x1) := cell_new rfl
      have d2 : (u.alloc (.cells #[.int .i64 x0, .int .i64 x1, .int .i64 x2, .int .i64 x3, .int .i64 x4] 83)).cell? ⟨u.heap.size, 2, none⟩ = some (.int .i64 x2) := cell_new rfl
      have d3 : (u.alloc (.cells #[.int .i64 x0, .int .i64 x1, .int .i64 x2, .int .i64 x3, .int .i64 x4] 83)).cell? ⟨u.heap.size, 3, none⟩ = some (.int .i64 x3) := cell_new rfl
      have d4 : (u.alloc (.cells #[.int .i64 x0, .int .i64 x1, .int .i64 x2, .int .i64 x3, .int .i64 x4] 83)).cell? ⟨u.heap.size, 4, none⟩ = some (.int .i64 x4) := cell_new rfl
      have BW : Hid (w.heap.size ≤ (u.alloc (.cells #[.int .i64 x0, .int .i64 x1, .int .i64 x2, .int .i64 x3, .int .i64 x4] 83)).heap.size) := NP.out.turn.size
      refine hK.out _ _ (fun _ => NP.out.var.cell (i := 1) rfl) ?_
      clear hK K
      generalize (u.alloc (.cells #[.int .i64 x0, .int .i64 x1, .int .i64 x2, .int .i64 x3, .int .i64 x4] 83)) = u2 at *
      refine hz_ready (rs := [17]) (by kernel_rfl) (by simp) ?_
      refine hz_cons (hz_next rfl (fun K hK => ?_)) hz_nil
      refine step_ln1 rfl (.tmp 35) (.tmp 50) rfl w.heap.size (.slice a1 n1 c1) P.lanes rfl NP.out.dv.lanes u.heap.size ⟨x0, x1, x2, x3, x4⟩ rfl d0 d1 d2 d3 d4 (by have := HO.out; omega) BW.out ?_
      intro v' w' hN' hG'
      change K (Act.put _ (some 51) _) _
      simp only [Act.put, List.setIfInBounds_toArray, List.set_cons_zero, List.set_cons_succ]
      obtain ⟨va, vc, hv', _, _, _⟩ := hN'.out.shape
      generalize hvn : List.length _ = vn at hv'
      clear hvn
      subst hv'
      obtain ⟨bk, pe⟩ := NP.out.lanedP hb hN'.out hG'
      have PE : Hid (Pq w (w'.setCell ⟨q, 1, none⟩ (.slice va vn vc)) b (kk + 1 + 1 + 1 + 1 + 1 + 1) q a len cap zs (.slice a0 n0 c0) (.slice va vn vc) (.slice a2 n2 c2) (.slice a3 n3 c3) ⟨P.own, P.lanes ++ [⟨x0, x1, x2, x3, x4⟩], P.bells, P.plan⟩) := pe
      have q1' := bk.cell (i := 1) rfl
      have f1' := bk.free 1
      clear hN' hG' pe d0 d1 d2 d3 d4
      refine hK.out _ _ (fun _ => q1') ?_
      clear hK K
      refine hz_take (i := 18) (v := (.pointer (some ⟨q, 1, none⟩))) rfl rfl (by kernel_rfl) (by decide) (by kernel_rfl) (by kernel_rfl) (by kernel_rfl) (fun _ _ _ h => h) (Or.inl ⟨by rfl, fun w' hs => by go_simp⟩) q1' ?_
      change Hz _ _ _ _ _ _ _ _ (Act.put _ (some 52) _) _
      simp only [Act.put, List.setIfInBounds_toArray, List.set_cons_zero, List.set_cons_succ]
      refine hz_ready (rs := [19]) (by kernel_rfl) (by simp) ?_
      refine hz_cons (hz_next rfl (fun K hK => ?_)) hz_nil
      rw [if_pos (by rfl)]
      have lq := bk.lt
      go_simp
      clear q1' f1' lq bk
      refine hK.out _ _ (fun e => absurd rfl e) ?_
      clear hK K
      refine hz_done (by kernel_rfl) ?_
      have q0 := PE.out.var.cell (i := 0) rfl
      have q1 := PE.out.var.cell (i := 1) rfl
      have q2 := PE.out.var.cell (i := 2) rfl
      have q3 := PE.out.var.cell (i := 3) rfl
      have r0 := PE.out.res.cell (i := 0) rfl
      have r1 := PE.out.res.cell (i := 1) rfl
      have r2 := PE.out.res.cell (i := 2) rfl
      have r3 := PE.out.res.cell (i := 3) rfl
      have y0 := PE.out.res.free 0
      have y1 := PE.out.res.free 1
      have y2 := PE.out.res.free 2
      have y3 := PE.out.res.free 3
      clear HF
      go_wp2_with fail
      obtain ⟨d, t, s, bk⟩ := PE.out.done hb
      have z0 := bk.cell (i := 0) rfl
      have z1 := bk.cell (i := 1) rfl
      have z2 := bk.cell (i := 2) rfl
      have z3 := bk.cell (i := 3) rfl
      exact bodyPost_ret (v := .agg #[.slice a0 n0 c0, .slice va vn vc, .slice a2 n2 c2, .slice a3 n3 c3]) (by simp [results, Tryz.results16, go_sem, z0, z1, z2, z3]) rfl ⟨_, _, _, _, _, _, rfl, d, FO.out, by have := HKK.out; omega, t, s⟩
    have st4111 : ∀ (u : World) (x0 : Int) (x1 : Int) (x2 : Int) (x3 : Int) (g7 : Nat) (g10 : Nat) (g13 : Nat), (Pq w u b (kk + 1 + 1 + 1 + 1 + 1) q a len cap zs (.slice a0 n0 c0) (.slice a1 n1 c1) (.slice a2 n2 c2) (.slice a3 n3 c3) P) → (Ld u b g13 3) → G 6 #[true, true, true, true, true, true, true, true, true, true, true, true, true, true, false, false, false, false, false, false] { tmps := #[.pointer (some ⟨b, 0, none⟩), undef, .pointer (some ⟨w.heap.size, 0, none⟩), .pointer (some ⟨q, 0, none⟩), .pointer (some ⟨b, 0, none⟩), .agg #[.slice a0 n0 c0, .slice a1 n1 c1, .slice a2 n2 c2, .slice a3 n3 c3], .pointer (some ⟨b, 0, none⟩), .int .i64 3, .bool false, .bool false, undef, undef, undef, undef, undef, undef, undef, undef, .bool false, .bool false, undef, undef, undef, undef, undef, undef, undef, undef, undef, .bool false, .bool false, undef, .bool true, .bool true, .pointer (some ⟨q, 1, none⟩), .slice a1 n1 c1, .pointer (some ⟨b, 0, none⟩), .int .i64 x0, .pointer (some ⟨b, 0, none⟩), .int .i64 x1, .pointer (some ⟨b, 0, none⟩), .slice (some ⟨g7, 0, none⟩) 3 3, .int .i64 x2, .pointer (some ⟨b, 0, none⟩), .slice (some ⟨g10, 0, none⟩) 2 2, .int .i64 x3, .pointer (some ⟨b, 0, none⟩), .slice (some ⟨g13, 0, none⟩) 3 3, undef, undef, undef, undef, undef, undef, undef, undef, undef, undef, undef, undef, undef, undef, undef, undef, undef, undef, undef, undef, undef, undef, undef, undef, undef, undef, undef, undef, undef, undef, undef, undef, undef, undef, undef, undef, undef, undef, undef, undef, undef, undef, undef, undef], defers := [] } u := by
      intro u x0 x1 x2 x3 g7 g10 g13 hPX hF13
      have PX : Hid (Pq w u b (kk + 1 + 1 + 1 + 1 + 1) q a len cap zs (.slice a0 n0 c0) (.slice a1 n1 c1) (.slice a2 n2 c2) (.slice a3 n3 c3) P) := hPX
      have F13 : Hid (Ld u b g13 3) := hF13
      clear hPX hF13
      rw [HG.out]
      refine hz_ready (rs := [14]) (by kernel_rfl) (by simp) ?_
      refine hz_cons (hz_next rfl (fun K hK => ?_)) hz_nil
      refine hz_enter 40 #[.pointer (some ⟨b, 0, none⟩), .slice (some ⟨g13, 0, none⟩) 3 3] (by rfl) (fun w => by kernel_rfl) (pick_any PX.out.src (by have := HK.out; have := HKK.out; omega) (fun _ => True) g13 3 (by omega) (by omega) F13.out.2.1 F13.out.1 F13.out.2.2) ?_
      rintro e u' ⟨f, rfl, -, t, s'⟩
      refine ⟨_, rfl, ?_⟩
      have NP : Hid (Pq w u' b (kk + 1 + 1 + 1 + 1 + 1 + 1) q a len cap zs (.slice a0 n0 c0) (.slice a1 n1 c1) (.slice a2 n2 c2) (.slice a3 n3 c3) P) := PX.out.next hb t s'
      refine hK.out _ _ (fun _ => NP.out.var.cell (i := 1) rfl) ?_
      clear hK K
      have NX := st5111 u' x0 x1 x2 x3 f g7 g10 g13 NP.out
      rw [HG.out] at NX
      exact NX
    have st3111 : ∀ (u : World) (x0 : Int) (x1 : Int) (x2 : Int) (g7 : Nat) (g10 : Nat) (g13 : Nat), (Pq w u b (kk + 1 + 1 + 1 + 1) q a len cap zs (.slice a0 n0 c0) (.slice a1 n1 c1) (.slice a2 n2 c2) (.slice a3 n3 c3) P) → (Ld u b g10 2) → (Ld u b g13 3) → G 7 #[true, true, true, true, true, true, true, true, true, true, true, false, true, true, false, false, false, false, false, false] { tmps := #[.pointer (some ⟨b, 0, none⟩), undef, .pointer (some ⟨w.heap.size, 0, none⟩), .pointer (some ⟨q, 0, none⟩), .pointer (some ⟨b, 0, none⟩), .agg #[.slice a0 n0 c0, .slice a1 n1 c1, .slice a2 n2 c2, .slice a3 n3 c3], .pointer (some ⟨b, 0, none⟩), .int .i64 3, .bool false, .bool false, undef, undef, undef, undef, undef, undef, undef, undef, .bool false, .bool false, undef, undef, undef, undef, undef, undef, undef, undef, undef, .bool false, .bool false, undef, .bool true, .bool true, .pointer (some ⟨q, 1, none⟩), .slice a1 n1 c1, .pointer (some ⟨b, 0, none⟩), .int .i64 x0, .pointer (some ⟨b, 0, none⟩), .int .i64 x1, .pointer (some ⟨b, 0, none⟩), .slice (some ⟨g7, 0, none⟩) 3 3, .int .i64 x2, .pointer (some ⟨b, 0, none⟩), .slice (some ⟨g10, 0, none⟩) 2 2, undef, .pointer (some ⟨b, 0, none⟩), .slice (some ⟨g13, 0, none⟩) 3 3, undef, undef, undef, undef, undef, undef, undef, undef, undef, undef, undef, undef, undef, undef, undef, undef, undef, undef, undef, undef, undef, undef, undef, undef, undef, undef, undef, undef, undef, undef, undef, undef, undef, undef, undef, undef, undef, undef, undef, undef, undef, undef, undef, undef], defers := [] } u := by
      intro u x0 x1 x2 g7 g10 g13 hPX hF10 hF13
      have PX : Hid (Pq w u b (kk + 1 + 1 + 1 + 1) q a len cap zs (.slice a0 n0 c0) (.slice a1 n1 c1) (.slice a2 n2 c2) (.slice a3 n3 c3) P) := hPX
      have F10 : Hid (Ld u b g10 2) := hF10
      have F13 : Hid (Ld u b g13 3) := hF13
      clear hPX hF10 hF13
      rw [HG.out]
      refine hz_ready (rs := [11]) (by kernel_rfl) (by simp) ?_
      refine hz_cons (hz_next rfl (fun K hK => ?_)) hz_nil
      refine hz_enter 40 #[.pointer (some ⟨b, 0, none⟩), .slice (some ⟨g10, 0, none⟩) 2 2] (by rfl) (fun w => by kernel_rfl) (pick_any PX.out.src (by have := HK.out; have := HKK.out; omega) (fun _ => True) g10 2 (by omega) (by omega) F10.out.2.1 F10.out.1 F10.out.2.2) ?_
      rintro e u' ⟨f, rfl, -, t, s'⟩
      refine ⟨_, rfl, ?_⟩
      have NP : Hid (Pq w u' b (kk + 1 + 1 + 1 + 1 + 1) q a len cap zs (.slice a0 n0 c0) (.slice a1 n1 c1) (.slice a2 n2 c2) (.slice a3 n3 c3) P) := PX.out.next hb t s'
      refine hK.out _ _ (fun _ => NP.out.var.cell (i := 1) rfl) ?_
      clear hK K
      have NX := st4111 u' x0 x1 x2 f g7 g10 g13 NP.out (F13.out.turn t)
      rw [HG.out] at NX
      exact NX
    have st4110 : ∀ (u : World) (x0 : Int) (x1 : Int) (x2 : Int) (x3 : Int) (g7 : Nat) (g10 : Nat), (Pq w u b (kk + 1 + 1 + 1 + 1 + 1) q a len cap zs (.slice a0 n0 c0) (.slice a1 n1 c1) (.slice a2 n2 c2) (.slice a3 n3 c3) P) → G 7 #[true, true, true, true, true, true, true, true, true, true, true, true, true, false, false, false, false, false, false, false] { tmps := #[.pointer (some ⟨b, 0, none⟩), undef, .pointer (some ⟨w.heap.size, 0, none⟩), .pointer (some ⟨q, 0, none⟩), .pointer (some ⟨b, 0, none⟩), .agg #[.slice a0 n0 c0, .slice a1 n1 c1, .slice a2 n2 c2, .slice a3 n3 c3], .pointer (some ⟨b, 0, none⟩), .int .i64 3, .bool false, .bool false, undef, undef, undef, undef, undef, undef, undef, undef, .bool false, .bool false, undef, undef, undef, undef, undef, undef, undef, undef, undef, .bool false, .bool false, undef, .bool true, .bool true, .pointer (some ⟨q, 1, none⟩), .slice a1 n1 c1, .pointer (some ⟨b, 0, none⟩), .int .i64 x0, .pointer (some ⟨b, 0, none⟩), .int .i64 x1, .pointer (some ⟨b, 0, none⟩), .slice (some ⟨g7, 0, none⟩) 3 3, .int .i64 x2, .pointer (some ⟨b, 0, none⟩), .slice (some ⟨g10, 0, none⟩) 2 2, .int .i64 x3, .pointer (some ⟨b, 0, none⟩), undef, undef, undef, undef, undef, undef, undef, undef, undef, undef, undef, undef, undef, undef, undef, undef, undef, undef, undef, undef, undef, undef, undef, undef, undef, undef, undef, undef, undef, undef, undef, undef, undef, undef, undef, undef, undef, undef, undef, undef, undef, undef, undef, undef, undef], defers := [] } u := by
      intro u x0 x1 x2 x3 g7 g10 hPX
      have PX : Hid (Pq w u b (kk + 1 + 1 + 1 + 1 + 1) q a len cap zs (.slice a0 n0 c0) (.slice a1 n1 c1) (.slice a2 n2 c2) (.slice a3 n3 c3) P) := hPX
      clear hPX
      rw [HG.out]
      refine hz_ready (rs := [13]) (by kernel_rfl) (by simp) ?_
      refine hz_cons (hz_next rfl (fun K hK => ?_)) hz_nil
      refine hz_value (w' := (u.alloc (.cells #[.int .i64 6, .int .i64 7, .int .i64 5] 2))) (.slice (some ⟨u.heap.size, 0, none⟩) 3 3) (by rfl) (by kernel_rfl) ?_
      have NP : Hid (Pq w (u.alloc (.cells #[.int .i64 6, .int .i64 7, .int .i64 5] 2)) b (kk + 1 + 1 + 1 + 1 + 1) q a len cap zs (.slice a0 n0 c0) (.slice a1 n1 c1) (.slice a2 n2 c2) (.slice a3 n3 c3) P) := PX.out.alloc hb _
      have NF : Hid (Ld (u.alloc (.cells #[.int .i64 6, .int .i64 7, .int .i64 5] 2)) b u.heap.size 3) := ⟨by have := PX.out.src.here; omega, by simp, laid_at u [6, 7, 5]⟩
      refine hK.out _ _ (fun _ => NP.out.var.cell (i := 1) rfl) ?_
      clear hK K
      have NX := st4111 (u.alloc (.cells #[.int .i64 6, .int .i64 7, .int .i64 5] 2)) x0 x1 x2 x3 g7 g10 u.heap.size NP.out NF.out
      rw [HG.out] at NX
      exact NX
    have st2111 : ∀ (u : World) (x0 : Int) (x1 : Int) (g7 : Nat) (g10 : Nat) (g13 : Nat), (Pq w u b (kk + 1 + 1 + 1) q a len cap zs (.slice a0 n0 c0) (.slice a1 n1 c1) (.slice a2 n2 c2) (.slice a3 n3 c3) P) → (Ld u b g7 3) → (Ld u b g10 2) → (Ld u b g13 3) → G 8 #[true, true, true, true, true, true, true, true, false, true, true, false, true, true, false, false, false, false, false, false] { tmps := #[.pointer (some ⟨b, 0, none⟩), undef, .pointer (some ⟨w.heap.size, 0, none⟩), .pointer (some ⟨q, 0, none⟩), .pointer (some ⟨b, 0, none⟩), .agg #[.slice a0 n0 c0, .slice a1 n1 c1, .slice a2 n2 c2, .slice a3 n3 c3], .pointer (some ⟨b, 0, none⟩), .int .i64 3, .bool false, .bool false, undef, undef, undef, undef, undef, undef, undef, undef, .bool false, .bool false, undef, undef, undef, undef, undef, undef, undef, undef, undef, .bool false, .bool false, undef, .bool true, .bool true, .pointer (some ⟨q, 1, none⟩), .slice a1 n1 c1, .pointer (some ⟨b, 0, none⟩), .int .i64 x0, .pointer (some ⟨b, 0, none⟩), .int .i64 x1, .pointer (some ⟨b, 0, none⟩), .slice (some ⟨g7, 0, none⟩) 3 3, undef, .pointer (some ⟨b, 0, none⟩), .slice (some ⟨g10, 0, none⟩) 2 2, undef, .pointer (some ⟨b, 0, none⟩), .slice (some ⟨g13, 0, none⟩) 3 3, undef, undef, undef, undef, undef, undef, undef, undef, undef, undef, undef, undef, undef, undef, undef, undef, undef, undef, undef, undef, undef, undef, undef, undef, undef, undef, undef, undef, undef, undef, undef, undef, undef, undef, undef, undef, undef, undef, undef, undef, undef, undef, undef, undef], defers := [] } u := by
      intro u x0 x1 g7 g10 g13 hPX hF7 hF10 hF13
      have PX : Hid (Pq w u b (kk + 1 + 1 + 1) q a len cap zs (.slice a0 n0 c0) (.slice a1 n1 c1) (.slice a2 n2 c2) (.slice a3 n3 c3) P) := hPX
      have F7 : Hid (Ld u b g7 3) := hF7
      have F10 : Hid (Ld u b g10 2) := hF10
      have F13 : Hid (Ld u b g13 3) := hF13
      clear hPX hF7 hF10 hF13
      rw [HG.out]
      refine hz_ready (rs := [8]) (by kernel_rfl) (by simp) ?_
      refine hz_cons (hz_next rfl (fun K hK => ?_)) hz_nil
      refine hz_enter 40 #[.pointer (some ⟨b, 0, none⟩), .slice (some ⟨g7, 0, none⟩) 3 3] (by rfl) (fun w => by kernel_rfl) (pick_any PX.out.src (by have := HK.out; have := HKK.out; omega) (fun _ => True) g7 3 (by omega) (by omega) F7.out.2.1 F7.out.1 F7.out.2.2) ?_
      rintro e u' ⟨f, rfl, -, t, s'⟩
      refine ⟨_, rfl, ?_⟩
      have NP : Hid (Pq w u' b (kk + 1 + 1 + 1 + 1) q a len cap zs (.slice a0 n0 c0) (.slice a1 n1 c1) (.slice a2 n2 c2) (.slice a3 n3 c3) P) := PX.out.next hb t s'
      refine hK.out _ _ (fun _ => NP.out.var.cell (i := 1) rfl) ?_
      clear hK K
      have NX := st3111 u' x0 x1 f g7 g10 g13 NP.out (F10.out.turn t) (F13.out.turn t)
      rw [HG.out] at NX
      exact NX
    have st3101 : ∀ (u : World) (x0 : Int) (x1 : Int) (x2 : Int) (g7 : Nat) (g13 : Nat), (Pq w u b (kk + 1 + 1 + 1 + 1) q a len cap zs (.slice a0 n0 c0) (.slice a1 n1 c1) (.slice a2 n2 c2) (.slice a3 n3 c3) P) → (Ld u b g13 3) → G 8 #[true, true, true, true, true, true, true, true, true, true, false, false, true, true, false, false, false, false, false, false] { tmps := #[.pointer (some ⟨b, 0, none⟩), undef, .pointer (some ⟨w.heap.size, 0, none⟩), .pointer (some ⟨q, 0, none⟩), .pointer (some ⟨b, 0, none⟩), .agg #[.slice a0 n0 c0, .slice a1 n1 c1, .slice a2 n2 c2, .slice a3 n3 c3], .pointer (some ⟨b, 0, none⟩), .int .i64 3, .bool false, .bool false, undef, undef, undef, undef, undef, undef, undef, undef, .bool false, .bool false, undef, undef, undef, undef, undef, undef, undef, undef, undef, .bool false, .bool false, undef, .bool true, .bool true, .pointer (some ⟨q, 1, none⟩), .slice a1 n1 c1, .pointer (some ⟨b, 0, none⟩), .int .i64 x0, .pointer (some ⟨b, 0, none⟩), .int .i64 x1, .pointer (some ⟨b, 0, none⟩), .slice (some ⟨g7, 0, none⟩) 3 3, .int .i64 x2, .pointer (some ⟨b, 0, none⟩), undef, undef, .pointer (some ⟨b, 0, none⟩), .slice (some ⟨g13, 0, none⟩) 3 3, undef, undef, undef, undef, undef, undef, undef, undef, undef, undef, undef, undef, undef, undef, undef, undef, undef, undef, undef, undef, undef, undef, undef, undef, undef, undef, undef, undef, undef, undef, undef, undef, undef, undef, undef, undef, undef, undef, undef, undef, undef, undef, undef, undef], defers := [] } u := by
      intro u x0 x1 x2 g7 g13 hPX hF13
      have PX : Hid (Pq w u b (kk + 1 + 1 + 1 + 1) q a len cap zs (.slice a0 n0 c0) (.slice a1 n1 c1) (.slice a2 n2 c2) (.slice a3 n3 c3) P) := hPX
      have F13 : Hid (Ld u b g13 3) := hF13
      clear hPX hF13
      rw [HG.out]
      refine hz_ready (rs := [10]) (by kernel_rfl) (by simp) ?_
      refine hz_cons (hz_next rfl (fun K hK => ?_)) hz_nil
      refine hz_value (w' := (u.alloc (.cells #[.int .i64 5, .int .i64 4] 2))) (.slice (some ⟨u.heap.size, 0, none⟩) 2 2) (by rfl) (by kernel_rfl) ?_
      have NP : Hid (Pq w (u.alloc (.cells #[.int .i64 5, .int .i64 4] 2)) b (kk + 1 + 1 + 1 + 1) q a len cap zs (.slice a0 n0 c0) (.slice a1 n1 c1) (.slice a2 n2 c2) (.slice a3 n3 c3) P) := PX.out.alloc hb _
      have NF : Hid (Ld (u.alloc (.cells #[.int .i64 5, .int .i64 4] 2)) b u.heap.size 2) := ⟨by have := PX.out.src.here; omega, by simp, laid_at u [5, 4]⟩
      refine hK.out _ _ (fun _ => NP.out.var.cell (i := 1) rfl) ?_
      clear hK K
      have NX := st3111 (u.alloc (.cells #[.int .i64 5, .int .i64 4] 2)) x0 x1 x2 g7 u.heap.size g13 NP.out NF.out (F13.out.keep (al (Below.refl _ _) _))
      rw [HG.out] at NX
      exact NX
    have st3110 : ∀ (u : World) (x0 : Int) (x1 : Int) (x2 : Int) (g7 : Nat) (g10 : Nat), (Pq w u b (kk + 1 + 1 + 1 + 1) q a len cap zs (.slice a0 n0 c0) (.slice a1 n1 c1) (.slice a2 n2 c2) (.slice a3 n3 c3) P) → (Ld u b g10 2) → G 8 #[true, true, true, true, true, true, true, true, true, true, true, false, true, false, false, false, false, false, false, false] { tmps := #[.pointer (some ⟨b, 0, none⟩), undef, .pointer (some ⟨w.heap.size, 0, none⟩), .pointer (some ⟨q, 0, none⟩), .pointer (some ⟨b, 0, none⟩), .agg #[.slice a0 n0 c0, .slice a1 n1 c1, .slice a2 n2 c2, .slice a3 n3 c3], .pointer (some ⟨b, 0, none⟩), .int .i64 3, .bool false, .bool false, undef, undef, undef, undef, undef, undef, undef, undef, .bool false, .bool false, undef, undef, undef, undef, undef, undef, undef, undef, undef, .bool false, .bool false, undef, .bool true, .bool true, .pointer (some ⟨q, 1, none⟩), .slice a1 n1 c1, .pointer (some ⟨b, 0, none⟩), .int .i64 x0, .pointer (some ⟨b, 0, none⟩), .int .i64 x1, .pointer (some ⟨b, 0, none⟩), .slice (some ⟨g7, 0, none⟩) 3 3, .int .i64 x2, .pointer (some ⟨b, 0, none⟩), .slice (some ⟨g10, 0, none⟩) 2 2, undef, .pointer (some ⟨b, 0, none⟩), undef, undef, undef, undef, undef, undef, undef, undef, undef, undef, undef, undef, undef, undef, undef, undef, undef, undef, undef, undef, undef, undef, undef, undef, undef, undef, undef, undef, undef, undef, undef, undef, undef, undef, undef, undef, undef, undef, undef, undef, undef, undef, undef, undef, undef], defers := [] } u := by
      intro u x0 x1 x2 g7 g10 hPX hF10
      have PX : Hid (Pq w u b (kk + 1 + 1 + 1 + 1) q a len cap zs (.slice a0 n0 c0) (.slice a1 n1 c1) (.slice a2 n2 c2) (.slice a3 n3 c3) P) := hPX
      have F10 : Hid (Ld u b g10 2) := hF10
      clear hPX hF10
      rw [HG.out]
      refine hz_ready (rs := [11, 13]) (by kernel_rfl) (by simp) ?_
      refine hz_cons (hz_next rfl (fun K hK => ?_)) (hz_cons (hz_next rfl (fun K hK => ?_)) hz_nil)
      · skip
        refine hz_enter 40 #[.pointer (some ⟨b, 0, none⟩), .slice (some ⟨g10, 0, none⟩) 2 2] (by rfl) (fun w => by kernel_rfl) (pick_any PX.out.src (by have := HK.out; have := HKK.out; omega) (fun _ => True) g10 2 (by omega) (by omega) F10.out.2.1 F10.out.1 F10.out.2.2) ?_
        rintro e u' ⟨f, rfl, -, t, s'⟩
        refine ⟨_, rfl, ?_⟩
        have NP : Hid (Pq w u' b (kk + 1 + 1 + 1 + 1 + 1) q a len cap zs (.slice a0 n0 c0) (.slice a1 n1 c1) (.slice a2 n2 c2) (.slice a3 n3 c3) P) := PX.out.next hb t s'
        refine hK.out _ _ (fun _ => NP.out.var.cell (i := 1) rfl) ?_
        clear hK K
        have NX := st4110 u' x0 x1 x2 f g7 g10 NP.out
        rw [HG.out] at NX
        exact NX
      · skip
        refine hz_value (w' := (u.alloc (.cells #[.int .i64 6, .int .i64 7, .int .i64 5] 2))) (.slice (some ⟨u.heap.size, 0, none⟩) 3 3) (by rfl) (by kernel_rfl) ?_
        have NP : Hid (Pq w (u.alloc (.cells #[.int .i64 6, .int .i64 7, .int .i64 5] 2)) b (kk + 1 + 1 + 1 + 1) q a len cap zs (.slice a0 n0 c0) (.slice a1 n1 c1) (.slice a2 n2 c2) (.slice a3 n3 c3) P) := PX.out.alloc hb _
        have NF : Hid (Ld (u.alloc (.cells #[.int .i64 6, .int .i64 7, .int .i64 5] 2)) b u.heap.size 3) := ⟨by have := PX.out.src.here; omega, by simp, laid_at u [6, 7, 5]⟩
        refine hK.out _ _ (fun _ => NP.out.var.cell (i := 1) rfl) ?_
        clear hK K
        have NX := st3111 (u.alloc (.cells #[.int .i64 6, .int .i64 7, .int .i64 5] 2)) x0 x1 x2 g7 g10 u.heap.size NP.out (F10.out.keep (al (Below.refl _ _) _)) NF.out
        rw [HG.out] at NX
        exact NX
    have st1111 : ∀ (u : World) (x0 : Int) (g7 : Nat) (g10 : Nat) (g13 : Nat), (Pq w u b (kk + 1 + 1) q a len cap zs (.slice a0 n0 c0) (.slice a1 n1 c1) (.slice a2 n2 c2) (.slice a3 n3 c3) P) → (Ld u b g7 3) → (Ld u b g10 2) → (Ld u b g13 3) → G 9 #[true, true, true, true, true, false, true, true, false, true, true, false, true, true, false, false, false, false, false, false] { tmps := #[.pointer (some ⟨b, 0, none⟩), undef, .pointer (some ⟨w.heap.size, 0, none⟩), .pointer (some ⟨q, 0, none⟩), .pointer (some ⟨b, 0, none⟩), .agg #[.slice a0 n0 c0, .slice a1 n1 c1, .slice a2 n2 c2, .slice a3 n3 c3], .pointer (some ⟨b, 0, none⟩), .int .i64 3, .bool false, .bool false, undef, undef, undef, undef, undef, undef, undef, undef, .bool false, .bool false, undef, undef, undef, undef, undef, undef, undef, undef, undef, .bool false, .bool false, undef, .bool true, .bool true, .pointer (some ⟨q, 1, none⟩), .slice a1 n1 c1, .pointer (some ⟨b, 0, none⟩), .int .i64 x0, .pointer (some ⟨b, 0, none⟩), undef, .pointer (some ⟨b, 0, none⟩), .slice (some ⟨g7, 0, none⟩) 3 3, undef, .pointer (some ⟨b, 0, none⟩), .slice (some ⟨g10, 0, none⟩) 2 2, undef, .pointer (some ⟨b, 0, none⟩), .slice (some ⟨g13, 0, none⟩) 3 3, undef, undef, undef, undef, undef, undef, undef, undef, undef, undef, undef, undef, undef, undef, undef, undef, undef, undef, undef, undef, undef, undef, undef, undef, undef, undef, undef, undef, undef, undef, undef, undef, undef, undef, undef, undef, undef, undef, undef, undef, undef, undef, undef, undef], defers := [] } u := by
      intro u x0 g7 g10 g13 hPX hF7 hF10 hF13
      have PX : Hid (Pq w u b (kk + 1 + 1) q a len cap zs (.slice a0 n0 c0) (.slice a1 n1 c1) (.slice a2 n2 c2) (.slice a3 n3 c3) P) := hPX
      have F7 : Hid (Ld u b g7 3) := hF7
      have F10 : Hid (Ld u b g10 2) := hF10
      have F13 : Hid (Ld u b g13 3) := hF13
      clear hPX hF7 hF10 hF13
      rw [HG.out]
      refine hz_ready (rs := [5]) (by kernel_rfl) (by simp) ?_
      refine hz_cons (hz_next rfl (fun K hK => ?_)) hz_nil
      refine hz_enter 18 #[.pointer (some ⟨b, 0, none⟩), .int .i64 4] (by rfl) (fun w => by kernel_rfl) (next_any PX.out.src (by have := HK.out; have := HKK.out; omega) _) ?_
      rintro e u' ⟨f, rfl, -, -, t, s'⟩
      refine ⟨_, rfl, ?_⟩
      have NP : Hid (Pq w u' b (kk + 1 + 1 + 1) q a len cap zs (.slice a0 n0 c0) (.slice a1 n1 c1) (.slice a2 n2 c2) (.slice a3 n3 c3) P) := PX.out.next hb t s'
      refine hK.out _ _ (fun _ => NP.out.var.cell (i := 1) rfl) ?_
      clear hK K
      have NX := st2111 u' x0 f g7 g10 g13 NP.out (F7.out.turn t) (F10.out.turn t) (F13.out.turn t)
      rw [HG.out] at NX
      exact NX
    have st2011 : ∀ (u : World) (x0 : Int) (x1 : Int) (g10 : Nat) (g13 : Nat), (Pq w u b (kk + 1 + 1 + 1) q a len cap zs (.slice a0 n0 c0) (.slice a1 n1 c1) (.slice a2 n2 c2) (.slice a3 n3 c3) P) → (Ld u b g10 2) → (Ld u b g13 3) → G 9 #[true, true, true, true, true, true, true, false, false, true, true, false, true, true, false, false, false, false, false, false] { tmps := #[.pointer (some ⟨b, 0, none⟩), undef, .pointer (some ⟨w.heap.size, 0, none⟩), .pointer (some ⟨q, 0, none⟩), .pointer (some ⟨b, 0, none⟩), .agg #[.slice a0 n0 c0, .slice a1 n1 c1, .slice a2 n2 c2, .slice a3 n3 c3], .pointer (some ⟨b, 0, none⟩), .int .i64 3, .bool false, .bool false, undef, undef, undef, undef, undef, undef, undef, undef, .bool false, .bool false, undef, undef, undef, undef, undef, undef, undef, undef, undef, .bool false, .bool false, undef, .bool true, .bool true, .pointer (some ⟨q, 1, none⟩), .slice a1 n1 c1, .pointer (some ⟨b, 0, none⟩), .int .i64 x0, .pointer (some ⟨b, 0, none⟩), .int .i64 x1, .pointer (some ⟨b, 0, none⟩), undef, undef, .pointer (some ⟨b, 0, none⟩), .slice (some ⟨g10, 0, none⟩) 2 2, undef, .pointer (some ⟨b, 0, none⟩), .slice (some ⟨g13, 0, none⟩) 3 3, undef, undef, undef, undef, undef, undef, undef, undef, undef, undef, undef, undef, undef, undef, undef, undef, undef, undef, undef, undef, undef, undef, undef, undef, undef, undef, undef, undef, undef, undef, undef, undef, undef, undef, undef, undef, undef, undef, undef, undef, undef, undef, undef, undef], defers := [] } u := by
      intro u x0 x1 g10 g13 hPX hF10 hF13
      have PX : Hid (Pq w u b (kk + 1 + 1 + 1) q a len cap zs (.slice a0 n0 c0) (.slice a1 n1 c1) (.slice a2 n2 c2) (.slice a3 n3 c3) P) := hPX
      have F10 : Hid (Ld u b g10 2) := hF10
      have F13 : Hid (Ld u b g13 3) := hF13
      clear hPX hF10 hF13
      rw [HG.out]
      refine hz_ready (rs := [7]) (by kernel_rfl) (by simp) ?_
      refine hz_cons (hz_next rfl (fun K hK => ?_)) hz_nil
      refine hz_value (w' := (u.alloc (.cells #[.int .i64 0, .int .i64 23, .int .i64 24] 2))) (.slice (some ⟨u.heap.size, 0, none⟩) 3 3) (by rfl) (by kernel_rfl) ?_
      have NP : Hid (Pq w (u.alloc (.cells #[.int .i64 0, .int .i64 23, .int .i64 24] 2)) b (kk + 1 + 1 + 1) q a len cap zs (.slice a0 n0 c0) (.slice a1 n1 c1) (.slice a2 n2 c2) (.slice a3 n3 c3) P) := PX.out.alloc hb _
      have NF : Hid (Ld (u.alloc (.cells #[.int .i64 0, .int .i64 23, .int .i64 24] 2)) b u.heap.size 3) := ⟨by have := PX.out.src.here; omega, by simp, laid_at u [0, 23, 24]⟩
      refine hK.out _ _ (fun _ => NP.out.var.cell (i := 1) rfl) ?_
      clear hK K
      have NX := st2111 (u.alloc (.cells #[.int .i64 0, .int .i64 23, .int .i64 24] 2)) x0 x1 u.heap.size g10 g13 NP.out NF.out (F10.out.keep (al (Below.refl _ _) _)) (F13.out.keep (al (Below.refl _ _) _))
      rw [HG.out] at NX
      exact NX
    have st2101 : ∀ (u : World) (x0 : Int) (x1 : Int) (g7 : Nat) (g13 : Nat), (Pq w u b (kk + 1 + 1 + 1) q a len cap zs (.slice a0 n0 c0) (.slice a1 n1 c1) (.slice a2 n2 c2) (.slice a3 n3 c3) P) → (Ld u b g7 3) → (Ld u b g13 3) → G 9 #[true, true, true, true, true, true, true, true, false, true, false, false, true, true, false, false, false, false, false, false] { tmps := #[.pointer (some ⟨b, 0, none⟩), undef, .pointer (some ⟨w.heap.size, 0, none⟩), .pointer (some ⟨q, 0, none⟩), .pointer (some ⟨b, 0, none⟩), .agg #[.slice a0 n0 c0, .slice a1 n1 c1, .slice a2 n2 c2, .slice a3 n3 c3], .pointer (some ⟨b, 0, none⟩), .int .i64 3, .bool false, .bool false, undef, undef, undef, undef, undef, undef, undef, undef, .bool false, .bool false, undef, undef, undef, undef, undef, undef, undef, undef, undef, .bool false, .bool false, undef, .bool true, .bool true, .pointer (some ⟨q, 1, none⟩), .slice a1 n1 c1, .pointer (some ⟨b, 0, none⟩), .int .i64 x0, .pointer (some ⟨b, 0, none⟩), .int .i64 x1, .pointer (some ⟨b, 0, none⟩), .slice (some ⟨g7, 0, none⟩) 3 3, undef, .pointer (some ⟨b, 0, none⟩), undef, undef, .pointer (some ⟨b, 0, none⟩), .slice (some ⟨g13, 0, none⟩) 3 3, undef, undef, undef, undef, undef, undef, undef, undef, undef, undef, undef, undef, undef, undef, undef, undef, undef, undef, undef, undef, undef, undef, undef, undef, undef, undef, undef, undef, undef, undef, undef, undef, undef, undef, undef, undef, undef, undef, undef, undef, undef, undef, undef, undef], defers := [] } u := by
      intro u x0 x1 g7 g13 hPX hF7 hF13
      have PX : Hid (Pq w u b (kk + 1 + 1 + 1) q a len cap zs (.slice a0 n0 c0) (.slice a1 n1 c1) (.slice a2 n2 c2) (.slice a3 n3 c3) P) := hPX
      have F7 : Hid (Ld u b g7 3) := hF7
      have F13 : Hid (Ld u b g13 3) := hF13
      clear hPX hF7 hF13
      rw [HG.out]
      refine hz_ready (rs := [8, 10]) (by kernel_rfl) (by simp) ?_
      refine hz_cons (hz_next rfl (fun K hK => ?_)) (hz_cons (hz_next rfl (fun K hK => ?_)) hz_nil)
      · skip
        refine hz_enter 40 #[.pointer (some ⟨b, 0, none⟩), .slice (some ⟨g7, 0, none⟩) 3 3] (by rfl) (fun w => by kernel_rfl) (pick_any PX.out.src (by have := HK.out; have := HKK.out; omega) (fun _ => True) g7 3 (by omega) (by omega) F7.out.2.1 F7.out.1 F7.out.2.2) ?_
        rintro e u' ⟨f, rfl, -, t, s'⟩
        refine ⟨_, rfl, ?_⟩
        have NP : Hid (Pq w u' b (kk + 1 + 1 + 1 + 1) q a len cap zs (.slice a0 n0 c0) (.slice a1 n1 c1) (.slice a2 n2 c2) (.slice a3 n3 c3) P) := PX.out.next hb t s'
        refine hK.out _ _ (fun _ => NP.out.var.cell (i := 1) rfl) ?_
        clear hK K
        have NX := st3101 u' x0 x1 f g7 g13 NP.out (F13.out.turn t)
        rw [HG.out] at NX
        exact NX
      · skip
        refine hz_value (w' := (u.alloc (.cells #[.int .i64 5, .int .i64 4] 2))) (.slice (some ⟨u.heap.size, 0, none⟩) 2 2) (by rfl) (by kernel_rfl) ?_
        have NP : Hid (Pq w (u.alloc (.cells #[.int .i64 5, .int .i64 4] 2)) b (kk + 1 + 1 + 1) q a len cap zs (.slice a0 n0 c0) (.slice a1 n1 c1) (.slice a2 n2 c2) (.slice a3 n3 c3) P) := PX.out.alloc hb _
        have NF : Hid (Ld (u.alloc (.cells #[.int .i64 5, .int .i64 4] 2)) b u.heap.size 2) := ⟨by have := PX.out.src.here; omega, by simp, laid_at u [5, 4]⟩
        refine hK.out _ _ (fun _ => NP.out.var.cell (i := 1) rfl) ?_
        clear hK K
        have NX := st2111 (u.alloc (.cells #[.int .i64 5, .int .i64 4] 2)) x0 x1 g7 u.heap.size g13 NP.out (F7.out.keep (al (Below.refl _ _) _)) NF.out (F13.out.keep (al (Below.refl _ _) _))
        rw [HG.out] at NX
        exact NX
    have st2110 : ∀ (u : World) (x0 : Int) (x1 : Int) (g7 : Nat) (g10 : Nat), (Pq w u b (kk + 1 + 1 + 1) q a len cap zs (.slice a0 n0 c0) (.slice a1 n1 c1) (.slice a2 n2 c2) (.slice a3 n3 c3) P) → (Ld u b g7 3) → (Ld u b g10 2) → G 9 #[true, true, true, true, true, true, true, true, false, true, true, false, true, false, false, false, false, false, false, false] { tmps := #[.pointer (some ⟨b, 0, none⟩), undef, .pointer (some ⟨w.heap.size, 0, none⟩), .pointer (some ⟨q, 0, none⟩), .pointer (some ⟨b, 0, none⟩), .agg #[.slice a0 n0 c0, .slice a1 n1 c1, .slice a2 n2 c2, .slice a3 n3 c3], .pointer (some ⟨b, 0, none⟩), .int .i64 3, .bool false, .bool false, undef, undef, undef, undef, undef, undef, undef, undef, .bool false, .bool false, undef, undef, undef, undef, undef, undef, undef, undef, undef, .bool false, .bool false, undef, .bool true, .bool true, .pointer (some ⟨q, 1, none⟩), .slice a1 n1 c1, .pointer (some ⟨b, 0, none⟩), .int .i64 x0, .pointer (some ⟨b, 0, none⟩), .int .i64 x1, .pointer (some ⟨b, 0, none⟩), .slice (some ⟨g7, 0, none⟩) 3 3, undef, .pointer (some ⟨b, 0, none⟩), .slice (some ⟨g10, 0, none⟩) 2 2, undef, .pointer (some ⟨b, 0, none⟩), undef, undef, undef, undef, undef, undef, undef, undef, undef, undef, undef, undef, undef, undef, undef, undef, undef, undef, undef, undef, undef, undef, undef, undef, undef, undef, undef, undef, undef, undef, undef, undef, undef, undef, undef, undef, undef, undef, undef, undef, undef, undef, undef, undef, undef], defers := [] } u := by
      intro u x0 x1 g7 g10 hPX hF7 hF10
      have PX : Hid (Pq w u b (kk + 1 + 1 + 1) q a len cap zs (.slice a0 n0 c0) (.slice a1 n1 c1) (.slice a2 n2 c2) (.slice a3 n3 c3) P) := hPX
      have F7 : Hid (Ld u b g7 3) := hF7
      have F10 : Hid (Ld u b g10 2) := hF10
      clear hPX hF7 hF10
      rw [HG.out]
      refine hz_ready (rs := [8, 13]) (by kernel_rfl) (by simp) ?_
      refine hz_cons (hz_next rfl (fun K hK => ?_)) (hz_cons (hz_next rfl (fun K hK => ?_)) hz_nil)
      · skip
        refine hz_enter 40 #[.pointer (some ⟨b, 0, none⟩), .slice (some ⟨g7, 0, none⟩) 3 3] (by rfl) (fun w => by kernel_rfl) (pick_any PX.out.src (by have := HK.out; have := HKK.out; omega) (fun _ => True) g7 3 (by omega) (by omega) F7.out.2.1 F7.out.1 F7.out.2.2) ?_
        rintro e u' ⟨f, rfl, -, t, s'⟩
        refine ⟨_, rfl, ?_⟩
        have NP : Hid (Pq w u' b (kk + 1 + 1 + 1 + 1) q a len cap zs (.slice a0 n0 c0) (.slice a1 n1 c1) (.slice a2 n2 c2) (.slice a3 n3 c3) P) := PX.out.next hb t s'
        refine hK.out _ _ (fun _ => NP.out.var.cell (i := 1) rfl) ?_
        clear hK K
        have NX := st3110 u' x0 x1 f g7 g10 NP.out (F10.out.turn t)
        rw [HG.out] at NX
        exact NX
      · skip
        refine hz_value (w' := (u.alloc (.cells #[.int .i64 6, .int .i64 7, .int .i64 5] 2))) (.slice (some ⟨u.heap.size, 0, none⟩) 3 3) (by rfl) (by kernel_rfl) ?_
        have NP : Hid (Pq w (u.alloc (.cells #[.int .i64 6, .int .i64 7, .int .i64 5] 2)) b (kk + 1 + 1 + 1) q a len cap zs (.slice a0 n0 c0) (.slice a1 n1 c1) (.slice a2 n2 c2) (.slice a3 n3 c3) P) := PX.out.alloc hb _
        have NF : Hid (Ld (u.alloc (.cells #[.int .i64 6, .int .i64 7, .int .i64 5] 2)) b u.heap.size 3) := ⟨by have := PX.out.src.here; omega, by simp, laid_at u [6, 7, 5]⟩
        refine hK.out _ _ (fun _ => NP.out.var.cell (i := 1) rfl) ?_
        clear hK K
        have NX := st2111 (u.alloc (.cells #[.int .i64 6, .int .i64 7, .int .i64 5] 2)) x0 x1 g7 g10 u.heap.size NP.out (F7.out.keep (al (Below.refl _ _) _)) (F10.out.keep (al (Below.refl _ _) _)) NF.out
        rw [HG.out] at NX
        exact NX
    have st3100 : ∀ (u : World) (x0 : Int) (x1 : Int) (x2 : Int) (g7 : Nat), (Pq w u b (kk + 1 + 1 + 1 + 1) q a len cap zs (.slice a0 n0 c0) (.slice a1 n1 c1) (.slice a2 n2 c2) (.slice a3 n3 c3) P) → G 9 #[true, true, true, true, true, true, true, true, true, true, false, false, true, false, false, false, false, false, false, false] { tmps := #[.pointer (some ⟨b, 0, none⟩), undef, .pointer (some ⟨w.heap.size, 0, none⟩), .pointer (some ⟨q, 0, none⟩), .pointer (some ⟨b, 0, none⟩), .agg #[.slice a0 n0 c0, .slice a1 n1 c1, .slice a2 n2 c2, .slice a3 n3 c3], .pointer (some ⟨b, 0, none⟩), .int .i64 3, .bool false, .bool false, undef, undef, undef, undef, undef, undef, undef, undef, .bool false, .bool false, undef, undef, undef, undef, undef, undef, undef, undef, undef, .bool false, .bool false, undef, .bool true, .bool true, .pointer (some ⟨q, 1, none⟩), .slice a1 n1 c1, .pointer (some ⟨b, 0, none⟩), .int .i64 x0, .pointer (some ⟨b, 0, none⟩), .int .i64 x1, .pointer (some ⟨b, 0, none⟩), .slice (some ⟨g7, 0, none⟩) 3 3, .int .i64 x2, .pointer (some ⟨b, 0, none⟩), undef, undef, .pointer (some ⟨b, 0, none⟩), undef, undef, undef, undef, undef, undef, undef, undef, undef, undef, undef, undef, undef, undef, undef, undef, undef, undef, undef, undef, undef, undef, undef, undef, undef, undef, undef, undef, undef, undef, undef, undef, undef, undef, undef, undef, undef, undef, undef, undef, undef, undef, undef, undef, undef], defers := [] } u := by
      intro u x0 x1 x2 g7 hPX
      have PX : Hid (Pq w u b (kk + 1 + 1 + 1 + 1) q a len cap zs (.slice a0 n0 c0) (.slice a1 n1 c1) (.slice a2 n2 c2) (.slice a3 n3 c3) P) := hPX
      clear hPX
      rw [HG.out]
      refine hz_ready (rs := [10, 13]) (by kernel_rfl) (by simp) ?_
      refine hz_cons (hz_next rfl (fun K hK => ?_)) (hz_cons (hz_next rfl (fun K hK => ?_)) hz_nil)
      · skip
        refine hz_value (w' := (u.alloc (.cells #[.int .i64 5, .int .i64 4] 2))) (.slice (some ⟨u.heap.size, 0, none⟩) 2 2) (by rfl) (by kernel_rfl) ?_
        have NP : Hid (Pq w (u.alloc (.cells #[.int .i64 5, .int .i64 4] 2)) b (kk + 1 + 1 + 1 + 1) q a len cap zs (.slice a0 n0 c0) (.slice a1 n1 c1) (.slice a2 n2 c2) (.slice a3 n3 c3) P) := PX.out.alloc hb _
        have NF : Hid (Ld (u.alloc (.cells #[.int .i64 5, .int .i64 4] 2)) b u.heap.size 2) := ⟨by have := PX.out.src.here; omega, by simp, laid_at u [5, 4]⟩
        refine hK.out _ _ (fun _ => NP.out.var.cell (i := 1) rfl) ?_
        clear hK K
        have NX := st3110 (u.alloc (.cells #[.int .i64 5, .int .i64 4] 2)) x0 x1 x2 g7 u.heap.size NP.out NF.out
        rw [HG.out] at NX
        exact NX
      · skip
        refine hz_value (w' := (u.alloc (.cells #[.int .i64 6, .int .i64 7, .int .i64 5] 2))) (.slice (some ⟨u.heap.size, 0, none⟩) 3 3) (by rfl) (by kernel_rfl) ?_
        have NP : Hid (Pq w (u.alloc (.cells #[.int .i64 6, .int .i64 7, .int .i64 5] 2)) b (kk + 1 + 1 + 1 + 1) q a len cap zs (.slice a0 n0 c0) (.slice a1 n1 c1) (.slice a2 n2 c2) (.slice a3 n3 c3) P) := PX.out.alloc hb _
        have NF : Hid (Ld (u.alloc (.cells #[.int .i64 6, .int .i64 7, .int .i64 5] 2)) b u.heap.size 3) := ⟨by have := PX.out.src.here; omega, by simp, laid_at u [6, 7, 5]⟩
        refine hK.out _ _ (fun _ => NP.out.var.cell (i := 1) rfl) ?_
        clear hK K
        have NX := st3101 (u.alloc (.cells #[.int .i64 6, .int .i64 7, .int .i64 5] 2)) x0 x1 x2 g7 u.heap.size NP.out NF.out
        rw [HG.out] at NX
        exact NX
    have st0111 : ∀ (u : World) (g7 : Nat) (g10 : Nat) (g13 : Nat), (Pq w u b (kk + 1) q a len cap zs (.slice a0 n0 c0) (.slice a1 n1 c1) (.slice a2 n2 c2) (.slice a3 n3 c3) P) → (Ld u b g7 3) → (Ld u b g10 2) → (Ld u b g13 3) → G 10 #[true, true, true, false, true, false, true, true, false, true, true, false, true, true, false, false, false, false, false, false] { tmps := #[.pointer (some ⟨b, 0, none⟩), undef, .pointer (some ⟨w.heap.size, 0, none⟩), .pointer (some ⟨q, 0, none⟩), .pointer (some ⟨b, 0, none⟩), .agg #[.slice a0 n0 c0, .slice a1 n1 c1, .slice a2 n2 c2, .slice a3 n3 c3], .pointer (some ⟨b, 0, none⟩), .int .i64 3, .bool false, .bool false, undef, undef, undef, undef, undef, undef, undef, undef, .bool false, .bool false, undef, undef, undef, undef, undef, undef, undef, undef, undef, .bool false, .bool false, undef, .bool true, .bool true, .pointer (some ⟨q, 1, none⟩), .slice a1 n1 c1, .pointer (some ⟨b, 0, none⟩), undef, .pointer (some ⟨b, 0, none⟩), undef, .pointer (some ⟨b, 0, none⟩), .slice (some ⟨g7, 0, none⟩) 3 3, undef, .pointer (some ⟨b, 0, none⟩), .slice (some ⟨g10, 0, none⟩) 2 2, undef, .pointer (some ⟨b, 0, none⟩), .slice (some ⟨g13, 0, none⟩) 3 3, undef, undef, undef, undef, undef, undef, undef, undef, undef, undef, undef, undef, undef, undef, undef, undef, undef, undef, undef, undef, undef, undef, undef, undef, undef, undef, undef, undef, undef, undef, undef, undef, undef, undef, undef, undef, undef, undef, undef, undef, undef, undef, undef, undef], defers := [] } u := by
      intro u g7 g10 g13 hPX hF7 hF10 hF13
      have PX : Hid (Pq w u b (kk + 1) q a len cap zs (.slice a0 n0 c0) (.slice a1 n1 c1) (.slice a2 n2 c2) (.slice a3 n3 c3) P) := hPX
      have F7 : Hid (Ld u b g7 3) := hF7
      have F10 : Hid (Ld u b g10 2) := hF10
      have F13 : Hid (Ld u b g13 3) := hF13
      clear hPX hF7 hF10 hF13
      rw [HG.out]
      refine hz_ready (rs := [3]) (by kernel_rfl) (by simp) ?_
      refine hz_cons (hz_next rfl (fun K hK => ?_)) hz_nil
      refine hz_enter 18 #[.pointer (some ⟨b, 0, none⟩), .int .i64 3] (by rfl) (fun w => by kernel_rfl) (next_any PX.out.src (by have := HK.out; have := HKK.out; omega) _) ?_
      rintro e u' ⟨f, rfl, -, -, t, s'⟩
      refine ⟨_, rfl, ?_⟩
      have NP : Hid (Pq w u' b (kk + 1 + 1) q a len cap zs (.slice a0 n0 c0) (.slice a1 n1 c1) (.slice a2 n2 c2) (.slice a3 n3 c3) P) := PX.out.next hb t s'
      refine hK.out _ _ (fun _ => NP.out.var.cell (i := 1) rfl) ?_
      clear hK K
      have NX := st1111 u' f g7 g10 g13 NP.out (F7.out.turn t) (F10.out.turn t) (F13.out.turn t)
      rw [HG.out] at NX
      exact NX
    have st1011 : ∀ (u : World) (x0 : Int) (g10 : Nat) (g13 : Nat), (Pq w u b (kk + 1 + 1) q a len cap zs (.slice a0 n0 c0) (.slice a1 n1 c1) (.slice a2 n2 c2) (.slice a3 n3 c3) P) → (Ld u b g10 2) → (Ld u b g13 3) → G 10 #[true, true, true, true, true, false, true, false, false, true, true, false, true, true, false, false, false, false, false, false] { tmps := #[.pointer (some ⟨b, 0, none⟩), undef, .pointer (some ⟨w.heap.size, 0, none⟩), .pointer (some ⟨q, 0, none⟩), .pointer (some ⟨b, 0, none⟩), .agg #[.slice a0 n0 c0, .slice a1 n1 c1, .slice a2 n2 c2, .slice a3 n3 c3], .pointer (some ⟨b, 0, none⟩), .int .i64 3, .bool false, .bool false, undef, undef, undef, undef, undef, undef, undef, undef, .bool false, .bool false, undef, undef, undef, undef, undef, undef, undef, undef, undef, .bool false, .bool false, undef, .bool true, .bool true, .pointer (some ⟨q, 1, none⟩), .slice a1 n1 c1, .pointer (some ⟨b, 0, none⟩), .int .i64 x0, .pointer (some ⟨b, 0, none⟩), undef, .pointer (some ⟨b, 0, none⟩), undef, undef, .pointer (some ⟨b, 0, none⟩), .slice (some ⟨g10, 0, none⟩) 2 2, undef, .pointer (some ⟨b, 0, none⟩), .slice (some ⟨g13, 0, none⟩) 3 3, undef, undef, undef, undef, undef, undef, undef, undef, undef, undef, undef, undef, undef, undef, undef, undef, undef, undef, undef, undef, undef, undef, undef, undef, undef, undef, undef, undef, undef, undef, undef, undef, undef, undef, undef, undef, undef, undef, undef, undef, undef, undef, undef, undef], defers := [] } u := by
      intro u x0 g10 g13 hPX hF10 hF13
      have PX : Hid (Pq w u b (kk + 1 + 1) q a len cap zs (.slice a0 n0 c0) (.slice a1 n1 c1) (.slice a2 n2 c2) (.slice a3 n3 c3) P) := hPX
      have F10 : Hid (Ld u b g10 2) := hF10
      have F13 : Hid (Ld u b g13 3) := hF13
      clear hPX hF10 hF13
      rw [HG.out]
      refine hz_ready (rs := [5, 7]) (by kernel_rfl) (by simp) ?_
      refine hz_cons (hz_next rfl (fun K hK => ?_)) (hz_cons (hz_next rfl (fun K hK => ?_)) hz_nil)
      · skip
        refine hz_enter 18 #[.pointer (some ⟨b, 0, none⟩), .int .i64 4] (by rfl) (fun w => by kernel_rfl) (next_any PX.out.src (by have := HK.out; have := HKK.out; omega) _) ?_
        rintro e u' ⟨f, rfl, -, -, t, s'⟩
        refine ⟨_, rfl, ?_⟩
        have NP : Hid (Pq w u' b (kk + 1 + 1 + 1) q a len cap zs (.slice a0 n0 c0) (.slice a1 n1 c1) (.slice a2 n2 c2) (.slice a3 n3 c3) P) := PX.out.next hb t s'
        refine hK.out _ _ (fun _ => NP.out.var.cell (i := 1) rfl) ?_
        clear hK K
        have NX := st2011 u' x0 f g10 g13 NP.out (F10.out.turn t) (F13.out.turn t)
        rw [HG.out] at NX
        exact NX
      · skip
        refine hz_value (w' := (u.alloc (.cells #[.int .i64 0, .int .i64 23, .int .i64 24] 2))) (.slice (some ⟨u.heap.size, 0, none⟩) 3 3) (by rfl) (by kernel_rfl) ?_
        have NP : Hid (Pq w (u.alloc (.cells #[.int .i64 0, .int .i64 23, .int .i64 24] 2)) b (kk + 1 + 1) q a len cap zs (.slice a0 n0 c0) (.slice a1 n1 c1) (.slice a2 n2 c2) (.slice a3 n3 c3) P) := PX.out.alloc hb _
        have NF : Hid (Ld (u.alloc (.cells #[.int .i64 0, .int .i64 23, .int .i64 24] 2)) b u.heap.size 3) := ⟨by have := PX.out.src.here; omega, by simp, laid_at u [0, 23, 24]⟩
        refine hK.out _ _ (fun _ => NP.out.var.cell (i := 1) rfl) ?_
        clear hK K
        have NX := st1111 (u.alloc (.cells #[.int .i64 0, .int .i64 23, .int .i64 24] 2)) x0 u.heap.size g10 g13 NP.out NF.out (F10.out.keep (al (Below.refl _ _) _)) (F13.out.keep (al (Below.refl _ _) _))
        rw [HG.out] at NX
        exact NX
    have st1101 : ∀ (u : World) (x0 : Int) (g7 : Nat) (g13 : Nat), (Pq w u b (kk + 1 + 1) q a len cap zs (.slice a0 n0 c0) (.slice a1 n1 c1) (.slice a2 n2 c2) (.slice a3 n3 c3) P) → (Ld u b g7 3) → (Ld u b g13 3) → G 10 #[true, true, true, true, true, false, true, true, false, true, false, false, true, true, false, false, false, false, false, false] { tmps := #[.pointer (some ⟨b, 0, none⟩), undef, .pointer (some ⟨w.heap.size, 0, none⟩), .pointer (some ⟨q, 0, none⟩), .pointer (some ⟨b, 0, none⟩), .agg #[.slice a0 n0 c0, .slice a1 n1 c1, .slice a2 n2 c2, .slice a3 n3 c3], .pointer (some ⟨b, 0, none⟩), .int .i64 3, .bool false, .bool false, undef, undef, undef, undef, undef, undef, undef, undef, .bool false, .bool false, undef, undef, undef, undef, undef, undef, undef, undef, undef, .bool false, .bool false, undef, .bool true, .bool true, .pointer (some ⟨q, 1, none⟩), .slice a1 n1 c1, .pointer (some ⟨b, 0, none⟩), .int .i64 x0, .pointer (some ⟨b, 0, none⟩), undef, .pointer (some ⟨b, 0, none⟩), .slice (some ⟨g7, 0, none⟩) 3 3, undef, .pointer (some ⟨b, 0, none⟩), undef, undef, .pointer (some ⟨b, 0, none⟩), .slice (some ⟨g13, 0, none⟩) 3 3, undef, undef, undef, undef, undef, undef, undef, undef, undef, undef, undef, undef, undef, undef, undef, undef, undef, undef, undef, undef, undef, undef, undef, undef, undef, undef, undef, undef, undef, undef, undef, undef, undef, undef, undef, undef, undef, undef, undef, undef, undef, undef, undef, undef], defers := [] } u := by
      intro u x0 g7 g13 hPX hF7 hF13
      have PX : Hid (Pq w u b (kk + 1 + 1) q a len cap zs (.slice a0 n0 c0) (.slice a1 n1 c1) (.slice a2 n2 c2) (.slice a3 n3 c3) P) := hPX
      have F7 : Hid (Ld u b g7 3) := hF7
      have F13 : Hid (Ld u b g13 3) := hF13
      clear hPX hF7 hF13
      rw [HG.out]
      refine hz_ready (rs := [5, 10]) (by kernel_rfl) (by simp) ?_
      refine hz_cons (hz_next rfl (fun K hK => ?_)) (hz_cons (hz_next rfl (fun K hK => ?_)) hz_nil)
      · skip
        refine hz_enter 18 #[.pointer (some ⟨b, 0, none⟩), .int .i64 4] (by rfl) (fun w => by kernel_rfl) (next_any PX.out.src (by have := HK.out; have := HKK.out; omega) _) ?_
        rintro e u' ⟨f, rfl, -, -, t, s'⟩
        refine ⟨_, rfl, ?_⟩
        have NP : Hid (Pq w u' b (kk + 1 + 1 + 1) q a len cap zs (.slice a0 n0 c0) (.slice a1 n1 c1) (.slice a2 n2 c2) (.slice a3 n3 c3) P) := PX.out.next hb t s'
        refine hK.out _ _ (fun _ => NP.out.var.cell (i := 1) rfl) ?_
        clear hK K
        have NX := st2101 u' x0 f g7 g13 NP.out (F7.out.turn t) (F13.out.turn t)
        rw [HG.out] at NX
        exact NX
      · skip
        refine hz_value (w' := (u.alloc (.cells #[.int .i64 5, .int .i64 4] 2))) (.slice (some ⟨u.heap.size, 0, none⟩) 2 2) (by rfl) (by kernel_rfl) ?_
        have NP : Hid (Pq w (u.alloc (.cells #[.int .i64 5, .int .i64 4] 2)) b (kk + 1 + 1) q a len cap zs (.slice a0 n0 c0) (.slice a1 n1 c1) (.slice a2 n2 c2) (.slice a3 n3 c3) P) := PX.out.alloc hb _
        have NF : Hid (Ld (u.alloc (.cells #[.int .i64 5, .int .i64 4] 2)) b u.heap.size 2) := ⟨by have := PX.out.src.here; omega, by simp, laid_at u [5, 4]⟩
        refine hK.out _ _ (fun _ => NP.out.var.cell (i := 1) rfl) ?_
        clear hK K
        have NX := st1111 (u.alloc (.cells #[.int .i64 5, .int .i64 4] 2)) x0 g7 u.heap.size g13 NP.out (F7.out.keep (al (Below.refl _ _) _)) NF.out (F13.out.keep (al (Below.refl _ _) _))
        rw [HG.out] at NX
        exact NX
    have st1110 : ∀ (u : World) (x0 : Int) (g7 : Nat) (g10 : Nat), (Pq w u b (kk + 1 + 1) q a len cap zs (.slice a0 n0 c0) (.slice a1 n1 c1) (.slice a2 n2 c2) (.slice a3 n3 c3) P) → (Ld u b g7 3) → (Ld u b g10 2) → G 10 #[true, true, true, true, true, false, true, true, false, true, true, false, true, false, false, false, false, false, false, false] { tmps := #[.pointer (some ⟨b, 0, none⟩), undef, .pointer (some ⟨w.heap.size, 0, none⟩), .pointer (some ⟨q, 0, none⟩), .pointer (some ⟨b, 0, none⟩), .agg #[.slice a0 n0 c0, .slice a1 n1 c1, .slice a2 n2 c2, .slice a3 n3 c3], .pointer (some ⟨b, 0, none⟩), .int .i64 3, .bool false, .bool false, undef, undef, undef, undef, undef, undef, undef, undef, .bool false, .bool false, undef, undef, undef, undef, undef, undef, undef, undef, undef, .bool false, .bool false, undef, .bool true, .bool true, .pointer (some ⟨q, 1, none⟩), .slice a1 n1 c1, .pointer (some ⟨b, 0, none⟩), .int .i64 x0, .pointer (some ⟨b, 0, none⟩), undef, .pointer (some ⟨b, 0, none⟩), .slice (some ⟨g7, 0, none⟩) 3 3, undef, .pointer (some ⟨b, 0, none⟩), .slice (some ⟨g10, 0, none⟩) 2 2, undef, .pointer (some ⟨b, 0, none⟩), undef, undef, undef, undef, undef, undef, undef, undef, undef, undef, undef, undef, undef, undef, undef, undef, undef, undef, undef, undef, undef, undef, undef, undef, undef, undef, undef, undef, undef, undef, undef, undef, undef, undef, undef, undef, undef, undef, undef, undef, undef, undef, undef, undef, undef], defers := [] } u := by
      intro u x0 g7 g10 hPX hF7 hF10
      have PX : Hid (Pq w u b (kk + 1 + 1) q a len cap zs (.slice a0 n0 c0) (.slice a1 n1 c1) (.slice a2 n2 c2) (.slice a3 n3 c3) P) := hPX
      have F7 : Hid (Ld u b g7 3) := hF7
      have F10 : Hid (Ld u b g10 2) := hF10
      clear hPX hF7 hF10
      rw [HG.out]
      refine hz_ready (rs := [5, 13]) (by kernel_rfl) (by simp) ?_
      refine hz_cons (hz_next rfl (fun K hK => ?_)) (hz_cons (hz_next rfl (fun K hK => ?_)) hz_nil)
      · skip
        refine hz_enter 18 #[.pointer (some ⟨b, 0, none⟩), .int .i64 4] (by rfl) (fun w => by kernel_rfl) (next_any PX.out.src (by have := HK.out; have := HKK.out; omega) _) ?_
        rintro e u' ⟨f, rfl, -, -, t, s'⟩
        refine ⟨_, rfl, ?_⟩
        have NP : Hid (Pq w u' b (kk + 1 + 1 + 1) q a len cap zs (.slice a0 n0 c0) (.slice a1 n1 c1) (.slice a2 n2 c2) (.slice a3 n3 c3) P) := PX.out.next hb t s'
        refine hK.out _ _ (fun _ => NP.out.var.cell (i := 1) rfl) ?_
        clear hK K
        have NX := st2110 u' x0 f g7 g10 NP.out (F7.out.turn t) (F10.out.turn t)
        rw [HG.out] at NX
        exact NX
      · skip
        refine hz_value (w' := (u.alloc (.cells #[.int .i64 6, .int .i64 7, .int .i64 5] 2))) (.slice (some ⟨u.heap.size, 0, none⟩) 3 3) (by rfl) (by kernel_rfl) ?_
        have NP : Hid (Pq w (u.alloc (.cells #[.int .i64 6, .int .i64 7, .int .i64 5] 2)) b (kk + 1 + 1) q a len cap zs (.slice a0 n0 c0) (.slice a1 n1 c1) (.slice a2 n2 c2) (.slice a3 n3 c3) P) := PX.out.alloc hb _
        have NF : Hid (Ld (u.alloc (.cells #[.int .i64 6, .int .i64 7, .int .i64 5] 2)) b u.heap.size 3) := ⟨by have := PX.out.src.here; omega, by simp, laid_at u [6, 7, 5]⟩
        refine hK.out _ _ (fun _ => NP.out.var.cell (i := 1) rfl) ?_
        clear hK K
        have NX := st1111 (u.alloc (.cells #[.int .i64 6, .int .i64 7, .int .i64 5] 2)) x0 g7 g10 u.heap.size NP.out (F7.out.keep (al (Below.refl _ _) _)) (F10.out.keep (al (Below.refl _ _) _)) NF.out
        rw [HG.out] at NX
        exact NX
    have st2001 : ∀ (u : World) (x0 : Int) (x1 : Int) (g13 : Nat), (Pq w u b (kk + 1 + 1 + 1) q a len cap zs (.slice a0 n0 c0) (.slice a1 n1 c1) (.slice a2 n2 c2) (.slice a3 n3 c3) P) → (Ld u b g13 3) → G 10 #[true, true, true, true, true, true, true, false, false, true, false, false, true, true, false, false, false, false, false, false] { tmps := #[.pointer (some ⟨b, 0, none⟩), undef, .pointer (some ⟨w.heap.size, 0, none⟩), .pointer (some ⟨q, 0, none⟩), .pointer (some ⟨b, 0, none⟩), .agg #[.slice a0 n0 c0, .slice a1 n1 c1, .slice a2 n2 c2, .slice a3 n3 c3], .pointer (some ⟨b, 0, none⟩), .int .i64 3, .bool false, .bool false, undef, undef, undef, undef, undef, undef, undef, undef, .bool false, .bool false, undef, undef, undef, undef, undef, undef, undef, undef, undef, .bool false, .bool false, undef, .bool true, .bool true, .pointer (some ⟨q, 1, none⟩), .slice a1 n1 c1, .pointer (some ⟨b, 0, none⟩), .int .i64 x0, .pointer (some ⟨b, 0, none⟩), .int .i64 x1, .pointer (some ⟨b, 0, none⟩), undef, undef, .pointer (some ⟨b, 0, none⟩), undef, undef, .pointer (some ⟨b, 0, none⟩), .slice (some ⟨g13, 0, none⟩) 3 3, undef, undef, undef, undef, undef, undef, undef, undef, undef, undef, undef, undef, undef, undef, undef, undef, undef, undef, undef, undef, undef, undef, undef, undef, undef, undef, undef, undef, undef, undef, undef, undef, undef, undef, undef, undef, undef, undef, undef, undef, undef, undef, undef, undef], defers := [] } u := by
      intro u x0 x1 g13 hPX hF13
      have PX : Hid (Pq w u b (kk + 1 + 1 + 1) q a len cap zs (.slice a0 n0 c0) (.slice a1 n1 c1) (.slice a2 n2 c2) (.slice a3 n3 c3) P) := hPX
      have F13 : Hid (Ld u b g13 3) := hF13
      clear hPX hF13
      rw [HG.out]
      refine hz_ready (rs := [7, 10]) (by kernel_rfl) (by simp) ?_
      refine hz_cons (hz_next rfl (fun K hK => ?_)) (hz_cons (hz_next rfl (fun K hK => ?_)) hz_nil)
      · skip
        refine hz_value (w' := (u.alloc (.cells #[.int .i64 0, .int .i64 23, .int .i64 24] 2))) (.slice (some ⟨u.heap.size, 0, none⟩) 3 3) (by rfl) (by kernel_rfl) ?_
        have NP : Hid (Pq w (u.alloc (.cells #[.int .i64 0, .int .i64 23, .int .i64 24] 2)) b (kk + 1 + 1 + 1) q a len cap zs (.slice a0 n0 c0) (.slice a1 n1 c1) (.slice a2 n2 c2) (.slice a3 n3 c3) P) := PX.out.alloc hb _
        have NF : Hid (Ld (u.alloc (.cells #[.int .i64 0, .int .i64 23, .int .i64 24] 2)) b u.heap.size 3) := ⟨by have := PX.out.src.here; omega, by simp, laid_at u [0, 23, 24]⟩
        refine hK.out _ _ (fun _ => NP.out.var.cell (i := 1) rfl) ?_
        clear hK K
        have NX := st2101 (u.alloc (.cells #[.int .i64 0, .int .i64 23, .int .i64 24] 2)) x0 x1 u.heap.size g13 NP.out NF.out (F13.out.keep (al (Below.refl _ _) _))
        rw [HG.out] at NX
        exact NX
      · skip
        refine hz_value (w' := (u.alloc (.cells #[.int .i64 5, .int .i64 4] 2))) (.slice (some ⟨u.heap.size, 0, none⟩) 2 2) (by rfl) (by kernel_rfl) ?_
        have NP : Hid (Pq w (u.alloc (.cells #[.int .i64 5, .int .i64 4] 2)) b (kk + 1 + 1 + 1) q a len cap zs (.slice a0 n0 c0) (.slice a1 n1 c1) (.slice a2 n2 c2) (.slice a3 n3 c3) P) := PX.out.alloc hb _
        have NF : Hid (Ld (u.alloc (.cells #[.int .i64 5, .int .i64 4] 2)) b u.heap.size 2) := ⟨by have := PX.out.src.here; omega, by simp, laid_at u [5, 4]⟩
        refine hK.out _ _ (fun _ => NP.out.var.cell (i := 1) rfl) ?_
        clear hK K
        have NX := st2011 (u.alloc (.cells #[.int .i64 5, .int .i64 4] 2)) x0 x1 u.heap.size g13 NP.out NF.out (F13.out.keep (al (Below.refl _ _) _))
        rw [HG.out] at NX
        exact NX
    have st2010 : ∀ (u : World) (x0 : Int) (x1 : Int) (g10 : Nat), (Pq w u b (kk + 1 + 1 + 1) q a len cap zs (.slice a0 n0 c0) (.slice a1 n1 c1) (.slice a2 n2 c2) (.slice a3 n3 c3) P) → (Ld u b g10 2) → G 10 #[true, true, true, true, true, true, true, false, false, true, true, false, true, false, false, false, false, false, false, false] { tmps := #[.pointer (some ⟨b, 0, none⟩), undef, .pointer (some ⟨w.heap.size, 0, none⟩), .pointer (some ⟨q, 0, none⟩), .pointer (some ⟨b, 0, none⟩), .agg #[.slice a0 n0 c0, .slice a1 n1 c1, .slice a2 n2 c2, .slice a3 n3 c3], .pointer (some ⟨b, 0, none⟩), .int .i64 3, .bool false, .bool false, undef, undef, undef, undef, undef, undef, undef, undef, .bool false, .bool false, undef, undef, undef, undef, undef, undef, undef, undef, undef, .bool false, .bool false, undef, .bool true, .bool true, .pointer (some ⟨q, 1, none⟩), .slice a1 n1 c1, .pointer (some ⟨b, 0, none⟩), .int .i64 x0, .pointer (some ⟨b, 0, none⟩), .int .i64 x1, .pointer (some ⟨b, 0, none⟩), undef, undef, .pointer (some ⟨b, 0, none⟩), .slice (some ⟨g10, 0, none⟩) 2 2, undef, .pointer (some ⟨b, 0, none⟩), undef, undef, undef, undef, undef, undef, undef, undef, undef, undef, undef, undef, undef, undef, undef, undef, undef, undef, undef, undef, undef, undef, undef, undef, undef, undef, undef, undef, undef, undef, undef, undef, undef, undef, undef, undef, undef, undef, undef, undef, undef, undef, undef, undef, undef], defers := [] } u := by
      intro u x0 x1 g10 hPX hF10
      have PX : Hid (Pq w u b (kk + 1 + 1 + 1) q a len cap zs (.slice a0 n0 c0) (.slice a1 n1 c1) (.slice a2 n2 c2) (.slice a3 n3 c3) P) := hPX
      have F10 : Hid (Ld u b g10 2) := hF10
      clear hPX hF10
      rw [HG.out]
      refine hz_ready (rs := [7, 13]) (by kernel_rfl) (by simp) ?_
      refine hz_cons (hz_next rfl (fun K hK => ?_)) (hz_cons (hz_next rfl (fun K hK => ?_)) hz_nil)
      · skip
        refine hz_value (w' := (u.alloc (.cells #[.int .i64 0, .int .i64 23, .int .i64 24] 2))) (.slice (some ⟨u.heap.size, 0, none⟩) 3 3) (by rfl) (by kernel_rfl) ?_
        have NP : Hid (Pq w (u.alloc (.cells #[.int .i64 0, .int .i64 23, .int .i64 24] 2)) b (kk + 1 + 1 + 1) q a len cap zs (.slice a0 n0 c0) (.slice a1 n1 c1) (.slice a2 n2 c2) (.slice a3 n3 c3) P) := PX.out.alloc hb _
        have NF : Hid (Ld (u.alloc (.cells #[.int .i64 0, .int .i64 23, .int .i64 24] 2)) b u.heap.size 3) := ⟨by have := PX.out.src.here; omega, by simp, laid_at u [0, 23, 24]⟩
        refine hK.out _ _ (fun _ => NP.out.var.cell (i := 1) rfl) ?_
        clear hK K
        have NX := st2110 (u.alloc (.cells #[.int .i64 0, .int .i64 23, .int .i64 24] 2)) x0 x1 u.heap.size g10 NP.out NF.out (F10.out.keep (al (Below.refl _ _) _))
        rw [HG.out] at NX
        exact NX
      · skip
        refine hz_value (w' := (u.alloc (.cells #[.int .i64 6, .int .i64 7, .int .i64 5] 2))) (.slice (some ⟨u.heap.size, 0, none⟩) 3 3) (by rfl) (by kernel_rfl) ?_
        have NP : Hid (Pq w (u.alloc (.cells #[.int .i64 6, .int .i64 7, .int .i64 5] 2)) b (kk + 1 + 1 + 1) q a len cap zs (.slice a0 n0 c0) (.slice a1 n1 c1) (.slice a2 n2 c2) (.slice a3 n3 c3) P) := PX.out.alloc hb _
        have NF : Hid (Ld (u.alloc (.cells #[.int .i64 6, .int .i64 7, .int .i64 5] 2)) b u.heap.size 3) := ⟨by have := PX.out.src.here; omega, by simp, laid_at u [6, 7, 5]⟩
        refine hK.out _ _ (fun _ => NP.out.var.cell (i := 1) rfl) ?_
        clear hK K
        have NX := st2011 (u.alloc (.cells #[.int .i64 6, .int .i64 7, .int .i64 5] 2)) x0 x1 g10 u.heap.size NP.out (F10.out.keep (al (Below.refl _ _) _)) NF.out
        rw [HG.out] at NX
        exact NX
    have st2100 : ∀ (u : World) (x0 : Int) (x1 : Int) (g7 : Nat), (Pq w u b (kk + 1 + 1 + 1) q a len cap zs (.slice a0 n0 c0) (.slice a1 n1 c1) (.slice a2 n2 c2) (.slice a3 n3 c3) P) → (Ld u b g7 3) → G 10 #[true, true, true, true, true, true, true, true, false, true, false, false, true, false, false, false, false, false, false, false] { tmps := #[.pointer (some ⟨b, 0, none⟩), undef, .pointer (some ⟨w.heap.size, 0, none⟩), .pointer (some ⟨q, 0, none⟩), .pointer (some ⟨b, 0, none⟩), .agg #[.slice a0 n0 c0, .slice a1 n1 c1, .slice a2 n2 c2, .slice a3 n3 c3], .pointer (some ⟨b, 0, none⟩), .int .i64 3, .bool false, .bool false, undef, undef, undef, undef, undef, undef, undef, undef, .bool false, .bool false, undef, undef, undef, undef, undef, undef, undef, undef, undef, .bool false, .bool false, undef, .bool true, .bool true, .pointer (some ⟨q, 1, none⟩), .slice a1 n1 c1, .pointer (some ⟨b, 0, none⟩), .int .i64 x0, .pointer (some ⟨b, 0, none⟩), .int .i64 x1, .pointer (some ⟨b, 0, none⟩), .slice (some ⟨g7, 0, none⟩) 3 3, undef, .pointer (some ⟨b, 0, none⟩), undef, undef, .pointer (some ⟨b, 0, none⟩), undef, undef, undef, undef, undef, undef, undef, undef, undef, undef, undef, undef, undef, undef, undef, undef, undef, undef, undef, undef, undef, undef, undef, undef, undef, undef, undef, undef, undef, undef, undef, undef, undef, undef, undef, undef, undef, undef, undef, undef, undef, undef, undef, undef, undef], defers := [] } u := by
      intro u x0 x1 g7 hPX hF7
      have PX : Hid (Pq w u b (kk + 1 + 1 + 1) q a len cap zs (.slice a0 n0 c0) (.slice a1 n1 c1) (.slice a2 n2 c2) (.slice a3 n3 c3) P) := hPX
      have F7 : Hid (Ld u b g7 3) := hF7
      clear hPX hF7
      rw [HG.out]
      refine hz_ready (rs := [8, 10, 13]) (by kernel_rfl) (by simp) ?_
      refine hz_cons (hz_next rfl (fun K hK => ?_)) (hz_cons (hz_next rfl (fun K hK => ?_)) (hz_cons (hz_next rfl (fun K hK => ?_)) hz_nil))
      · skip
        refine hz_enter 40 #[.pointer (some ⟨b, 0, none⟩), .slice (some ⟨g7, 0, none⟩) 3 3] (by rfl) (fun w => by kernel_rfl) (pick_any PX.out.src (by have := HK.out; have := HKK.out; omega) (fun _ => True) g7 3 (by omega) (by omega) F7.out.2.1 F7.out.1 F7.out.2.2) ?_
        rintro e u' ⟨f, rfl, -, t, s'⟩
        refine ⟨_, rfl, ?_⟩
        have NP : Hid (Pq w u' b (kk + 1 + 1 + 1 + 1) q a len cap zs (.slice a0 n0 c0) (.slice a1 n1 c1) (.slice a2 n2 c2) (.slice a3 n3 c3) P) := PX.out.next hb t s'
        refine hK.out _ _ (fun _ => NP.out.var.cell (i := 1) rfl) ?_
        clear hK K
        have NX := st3100 u' x0 x1 f g7 NP.out
        rw [HG.out] at NX
        exact NX
      · skip
        refine hz_value (w' := (u.alloc (.cells #[.int .i64 5, .int .i64 4] 2))) (.slice (some ⟨u.heap.size, 0, none⟩) 2 2) (by rfl) (by kernel_rfl) ?_
        have NP : Hid (Pq w (u.alloc (.cells #[.int .i64 5, .int .i64 4] 2)) b (kk + 1 + 1 + 1) q a len cap zs (.slice a0 n0 c0) (.slice a1 n1 c1) (.slice a2 n2 c2) (.slice a3 n3 c3) P) := PX.out.alloc hb _
        have NF : Hid (Ld (u.alloc (.cells #[.int .i64 5, .int .i64 4] 2)) b u.heap.size 2) := ⟨by have := PX.out.src.here; omega, by simp, laid_at u [5, 4]⟩
        refine hK.out _ _ (fun _ => NP.out.var.cell (i := 1) rfl) ?_
        clear hK K
        have NX := st2110 (u.alloc (.cells #[.int .i64 5, .int .i64 4] 2)) x0 x1 g7 u.heap.size NP.out (F7.out.keep (al (Below.refl _ _) _)) NF.out
        rw [HG.out] at NX
        exact NX
      · skip
        refine hz_value (w' := (u.alloc (.cells #[.int .i64 6, .int .i64 7, .int .i64 5] 2))) (.slice (some ⟨u.heap.size, 0, none⟩) 3 3) (by rfl) (by kernel_rfl) ?_
        have NP : Hid (Pq w (u.alloc (.cells #[.int .i64 6, .int .i64 7, .int .i64 5] 2)) b (kk + 1 + 1 + 1) q a len cap zs (.slice a0 n0 c0) (.slice a1 n1 c1) (.slice a2 n2 c2) (.slice a3 n3 c3) P) := PX.out.alloc hb _
        have NF : Hid (Ld (u.alloc (.cells #[.int .i64 6, .int .i64 7, .int .i64 5] 2)) b u.heap.size 3) := ⟨by have := PX.out.src.here; omega, by simp, laid_at u [6, 7, 5]⟩
        refine hK.out _ _ (fun _ => NP.out.var.cell (i := 1) rfl) ?_
        clear hK K
        have NX := st2101 (u.alloc (.cells #[.int .i64 6, .int .i64 7, .int .i64 5] 2)) x0 x1 g7 u.heap.size NP.out (F7.out.keep (al (Below.refl _ _) _)) NF.out
        rw [HG.out] at NX
        exact NX
    have st0011 : ∀ (u : World) (g10 : Nat) (g13 : Nat), (Pq w u b (kk + 1) q a len cap zs (.slice a0 n0 c0) (.slice a1 n1 c1) (.slice a2 n2 c2) (.slice a3 n3 c3) P) → (Ld u b g10 2) → (Ld u b g13 3) → G 11 #[true, true, true, false, true, false, true, false, false, true, true, false, true, true, false, false, false, false, false, false] { tmps := #[.pointer (some ⟨b, 0, none⟩), undef, .pointer (some ⟨w.heap.size, 0, none⟩), .pointer (some ⟨q, 0, none⟩), .pointer (some ⟨b, 0, none⟩), .agg #[.slice a0 n0 c0, .slice a1 n1 c1, .slice a2 n2 c2, .slice a3 n3 c3], .pointer (some ⟨b, 0, none⟩), .int .i64 3, .bool false, .bool false, undef, undef, undef, undef, undef, undef, undef, undef, .bool false, .bool false, undef, undef, undef, undef, undef, undef, undef, undef, undef, .bool false, .bool false, undef, .bool true, .bool true, .pointer (some ⟨q, 1, none⟩), .slice a1 n1 c1, .pointer (some ⟨b, 0, none⟩), undef, .pointer (some ⟨b, 0, none⟩), undef, .pointer (some ⟨b, 0, none⟩), undef, undef, .pointer (some ⟨b, 0, none⟩), .slice (some ⟨g10, 0, none⟩) 2 2, undef, .pointer (some ⟨b, 0, none⟩), .slice (some ⟨g13, 0, none⟩) 3 3, undef, undef, undef, undef, undef, undef, undef, undef, undef, undef, undef, undef, undef, undef, undef, undef, undef, undef, undef, undef, undef, undef, undef, undef, undef, undef, undef, undef, undef, undef, undef, undef, undef, undef, undef, undef, undef, undef, undef, undef, undef, undef, undef, undef], defers := [] } u := by
      intro u g10 g13 hPX hF10 hF13
      have PX : Hid (Pq w u b (kk + 1) q a len cap zs (.slice a0 n0 c0) (.slice a1 n1 c1) (.slice a2 n2 c2) (.slice a3 n3 c3) P) := hPX
      have F10 : Hid (Ld u b g10 2) := hF10
      have F13 : Hid (Ld u b g13 3) := hF13
      clear hPX hF10 hF13
      rw [HG.out]
      refine hz_ready (rs := [3, 7]) (by kernel_rfl) (by simp) ?_
      refine hz_cons (hz_next rfl (fun K hK => ?_)) (hz_cons (hz_next rfl (fun K hK => ?_)) hz_nil)
      · skip
        refine hz_enter 18 #[.pointer (some ⟨b, 0, none⟩), .int .i64 3] (by rfl) (fun w => by kernel_rfl) (next_any PX.out.src (by have := HK.out; have := HKK.out; omega) _) ?_
        rintro e u' ⟨f, rfl, -, -, t, s'⟩
        refine ⟨_, rfl, ?_⟩
        have NP : Hid (Pq w u' b (kk + 1 + 1) q a len cap zs (.slice a0 n0 c0) (.slice a1 n1 c1) (.slice a2 n2 c2) (.slice a3 n3 c3) P) := PX.out.next hb t s'
        refine hK.out _ _ (fun _ => NP.out.var.cell (i := 1) rfl) ?_
        clear hK K
        have NX := st1011 u' f g10 g13 NP.out (F10.out.turn t) (F13.out.turn t)
        rw [HG.out] at NX
        exact NX
      · skip
        refine hz_value (w' := (u.alloc (.cells #[.int .i64 0, .int .i64 23, .int .i64 24] 2))) (.slice (some ⟨u.heap.size, 0, none⟩) 3 3) (by rfl) (by kernel_rfl) ?_
        have NP : Hid (Pq w (u.alloc (.cells #[.int .i64 0, .int .i64 23, .int .i64 24] 2)) b (kk + 1) q a len cap zs (.slice a0 n0 c0) (.slice a1 n1 c1) (.slice a2 n2 c2) (.slice a3 n3 c3) P) := PX.out.alloc hb _
        have NF : Hid (Ld (u.alloc (.cells #[.int .i64 0, .int .i64 23, .int .i64 24] 2)) b u.heap.size 3) := ⟨by have := PX.out.src.here; omega, by simp, laid_at u [0, 23, 24]⟩
        refine hK.out _ _ (fun _ => NP.out.var.cell (i := 1) rfl) ?_
        clear hK K
        have NX := st0111 (u.alloc (.cells #[.int .i64 0, .int .i64 23, .int .i64 24] 2)) u.heap.size g10 g13 NP.out NF.out (F10.out.keep (al (Below.refl _ _) _)) (F13.out.keep (al (Below.refl _ _) _))
        rw [HG.out] at NX
        exact NX
    have st0101 : ∀ (u : World) (g7 : Nat) (g13 : Nat), (Pq w u b (kk + 1) q a len cap zs (.slice a0 n0 c0) (.slice a1 n1 c1) (.slice a2 n2 c2) (.slice a3 n3 c3) P) → (Ld u b g7 3) → (Ld u b g13 3) → G 11 #[true, true, true, false, true, false, true, true, false, true, false, false, true, true, false, false, false, false, false, false] { tmps := #[.pointer (some ⟨b, 0, none⟩), undef, .pointer (some ⟨w.heap.size, 0, none⟩), .pointer (some ⟨q, 0, none⟩), .pointer (some ⟨b, 0, none⟩), .agg #[.slice a0 n0 c0, .slice a1 n1 c1, .slice a2 n2 c2, .slice a3 n3 c3], .pointer (some ⟨b, 0, none⟩), .int .i64 3, .bool false, .bool false, undef, undef, undef, undef, undef, undef, undef, undef, .bool false, .bool false, undef, undef, undef, undef, undef, undef, undef, undef, undef, .bool false, .bool false, undef, .bool true, .bool true, .pointer (some ⟨q, 1, none⟩), .slice a1 n1 c1, .pointer (some ⟨b, 0, none⟩), undef, .pointer (some ⟨b, 0, none⟩), undef, .pointer (some ⟨b, 0, none⟩), .slice (some ⟨g7, 0, none⟩) 3 3, undef, .pointer (some ⟨b, 0, none⟩), undef, undef, .pointer (some ⟨b, 0, none⟩), .slice (some ⟨g13, 0, none⟩) 3 3, undef, undef, undef, undef, undef, undef, undef, undef, undef, undef, undef, undef, undef, undef, undef, undef, undef, undef, undef, undef, undef, undef, undef, undef, undef, undef, undef, undef, undef, undef, undef, undef, undef, undef, undef, undef, undef, undef, undef, undef, undef, undef, undef, undef], defers := [] } u := by
      intro u g7 g13 hPX hF7 hF13
      have PX : Hid (Pq w u b (kk + 1) q a len cap zs (.slice a0 n0 c0) (.slice a1 n1 c1) (.slice a2 n2 c2) (.slice a3 n3 c3) P) := hPX
      have F7 : Hid (Ld u b g7 3) := hF7
      have F13 : Hid (Ld u b g13 3) := hF13
      clear hPX hF7 hF13
      rw [HG.out]
      refine hz_ready (rs := [3, 10]) (by kernel_rfl) (by simp) ?_
      refine hz_cons (hz_next rfl (fun K hK => ?_)) (hz_cons (hz_next rfl (fun K hK => ?_)) hz_nil)
      · skip
        refine hz_enter 18 #[.pointer (some ⟨b, 0, none⟩), .int .i64 3] (by rfl) (fun w => by kernel_rfl) (next_any PX.out.src (by have := HK.out; have := HKK.out; omega) _) ?_
        rintro e u' ⟨f, rfl, -, -, t, s'⟩
        refine ⟨_, rfl, ?_⟩
        have NP : Hid (Pq w u' b (kk + 1 + 1) q a len cap zs (.slice a0 n0 c0) (.slice a1 n1 c1) (.slice a2 n2 c2) (.slice a3 n3 c3) P) := PX.out.next hb t s'
        refine hK.out _ _ (fun _ => NP.out.var.cell (i := 1) rfl) ?_
        clear hK K
        have NX := st1101 u' f g7 g13 NP.out (F7.out.turn t) (F13.out.turn t)
        rw [HG.out] at NX
        exact NX
      · skip
        refine hz_value (w' := (u.alloc (.cells #[.int .i64 5, .int .i64 4] 2))) (.slice (some ⟨u.heap.size, 0, none⟩) 2 2) (by rfl) (by kernel_rfl) ?_
        have NP : Hid (Pq w (u.alloc (.cells #[.int .i64 5, .int .i64 4] 2)) b (kk + 1) q a len cap zs (.slice a0 n0 c0) (.slice a1 n1 c1) (.slice a2 n2 c2) (.slice a3 n3 c3) P) := PX.out.alloc hb _
        have NF : Hid (Ld (u.alloc (.cells #[.int .i64 5, .int .i64 4] 2)) b u.heap.size 2) := ⟨by have := PX.out.src.here; omega, by simp, laid_at u [5, 4]⟩
        refine hK.out _ _ (fun _ => NP.out.var.cell (i := 1) rfl) ?_
        clear hK K
        have NX := st0111 (u.alloc (.cells #[.int .i64 5, .int .i64 4] 2)) g7 u.heap.size g13 NP.out (F7.out.keep (al (Below.refl _ _) _)) NF.out (F13.out.keep (al (Below.refl _ _) _))
        rw [HG.out] at NX
        exact NX
    have st0110 : ∀ (u : World) (g7 : Nat) (g10 : Nat), (Pq w u b (kk + 1) q a len cap zs (.slice a0 n0 c0) (.slice a1 n1 c1) (.slice a2 n2 c2) (.slice a3 n3 c3) P) → (Ld u b g7 3) → (Ld u b g10 2) → G 11 #[true, true, true, false, true, false, true, true, false, true, true, false, true, false, false, false, false, false, false, false] { tmps := #[.pointer (some ⟨b, 0, none⟩), undef, .pointer (some ⟨w.heap.size, 0, none⟩), .pointer (some ⟨q, 0, none⟩), .pointer (some ⟨b, 0, none⟩), .agg #[.slice a0 n0 c0, .slice a1 n1 c1, .slice a2 n2 c2, .slice a3 n3 c3], .pointer (some ⟨b, 0, none⟩), .int .i64 3, .bool false, .bool false, undef, undef, undef, undef, undef, undef, undef, undef, .bool false, .bool false, undef, undef, undef, undef, undef, undef, undef, undef, undef, .bool false, .bool false, undef, .bool true, .bool true, .pointer (some ⟨q, 1, none⟩), .slice a1 n1 c1, .pointer (some ⟨b, 0, none⟩), undef, .pointer (some ⟨b, 0, none⟩), undef, .pointer (some ⟨b, 0, none⟩), .slice (some ⟨g7, 0, none⟩) 3 3, undef, .pointer (some ⟨b, 0, none⟩), .slice (some ⟨g10, 0, none⟩) 2 2, undef, .pointer (some ⟨b, 0, none⟩), undef, undef, undef, undef, undef, undef, undef, undef, undef, undef, undef, undef, undef, undef, undef, undef, undef, undef, undef, undef, undef, undef, undef, undef, undef, undef, undef, undef, undef, undef, undef, undef, undef, undef, undef, undef, undef, undef, undef, undef, undef, undef, undef, undef, undef], defers := [] } u := by
      intro u g7 g10 hPX hF7 hF10
      have PX : Hid (Pq w u b (kk + 1) q a len cap zs (.slice a0 n0 c0) (.slice a1 n1 c1) (.slice a2 n2 c2) (.slice a3 n3 c3) P) := hPX
      have F7 : Hid (Ld u b g7 3) := hF7
      have F10 : Hid (Ld u b g10 2) := hF10
      clear hPX hF7 hF10
      rw [HG.out]
      refine hz_ready (rs := [3, 13]) (by kernel_rfl) (by simp) ?_
      refine hz_cons (hz_next rfl (fun K hK => ?_)) (hz_cons (hz_next rfl (fun K hK => ?_)) hz_nil)
      · skip
        refine hz_enter 18 #[.pointer (some ⟨b, 0, none⟩), .int .i64 3] (by rfl) (fun w => by kernel_rfl) (next_any PX.out.src (by have := HK.out; have := HKK.out; omega) _) ?_
        rintro e u' ⟨f, rfl, -, -, t, s'⟩
        refine ⟨_, rfl, ?_⟩
        have NP : Hid (Pq w u' b (kk + 1 + 1) q a len cap zs (.slice a0 n0 c0) (.slice a1 n1 c1) (.slice a2 n2 c2) (.slice a3 n3 c3) P) := PX.out.next hb t s'
        refine hK.out _ _ (fun _ => NP.out.var.cell (i := 1) rfl) ?_
        clear hK K
        have NX := st1110 u' f g7 g10 NP.out (F7.out.turn t) (F10.out.turn t)
        rw [HG.out] at NX
        exact NX
      · skip
        refine hz_value (w' := (u.alloc (.cells #[.int .i64 6, .int .i64 7, .int .i64 5] 2))) (.slice (some ⟨u.heap.size, 0, none⟩) 3 3) (by rfl) (by kernel_rfl) ?_
        have NP : Hid (Pq w (u.alloc (.cells #[.int .i64 6, .int .i64 7, .int .i64 5] 2)) b (kk + 1) q a len cap zs (.slice a0 n0 c0) (.slice a1 n1 c1) (.slice a2 n2 c2) (.slice a3 n3 c3) P) := PX.out.alloc hb _
        have NF : Hid (Ld (u.alloc (.cells #[.int .i64 6, .int .i64 7, .int .i64 5] 2)) b u.heap.size 3) := ⟨by have := PX.out.src.here; omega, by simp, laid_at u [6, 7, 5]⟩
        refine hK.out _ _ (fun _ => NP.out.var.cell (i := 1) rfl) ?_
        clear hK K
        have NX := st0111 (u.alloc (.cells #[.int .i64 6, .int .i64 7, .int .i64 5] 2)) g7 g10 u.heap.size NP.out (F7.out.keep (al (Below.refl _ _) _)) (F10.out.keep (al (Below.refl _ _) _)) NF.out
        rw [HG.out] at NX
        exact NX
    have st1001 : ∀ (u : World) (x0 : Int) (g13 : Nat), (Pq w u b (kk + 1 + 1) q a len cap zs (.slice a0 n0 c0) (.slice a1 n1 c1) (.slice a2 n2 c2) (.slice a3 n3 c3) P) → (Ld u b g13 3) → G 11 #[true, true, true, true, true, false, true, false, false, true, false, false, true, true, false, false, false, false, false, false] { tmps := #[.pointer (some ⟨b, 0, none⟩), undef, .pointer (some ⟨w.heap.size, 0, none⟩), .pointer (some ⟨q, 0, none⟩), .pointer (some ⟨b, 0, none⟩), .agg #[.slice a0 n0 c0, .slice a1 n1 c1, .slice a2 n2 c2, .slice a3 n3 c3], .pointer (some ⟨b, 0, none⟩), .int .i64 3, .bool false, .bool false, undef, undef, undef, undef, undef, undef, undef, undef, .bool false, .bool false, undef, undef, undef, undef, undef, undef, undef, undef, undef, .bool false, .bool false, undef, .bool true, .bool true, .pointer (some ⟨q, 1, none⟩), .slice a1 n1 c1, .pointer (some ⟨b, 0, none⟩), .int .i64 x0, .pointer (some ⟨b, 0, none⟩), undef, .pointer (some ⟨b, 0, none⟩), undef, undef, .pointer (some ⟨b, 0, none⟩), undef, undef, .pointer (some ⟨b, 0, none⟩), .slice (some ⟨g13, 0, none⟩) 3 3, undef, undef, undef, undef, undef, undef, undef, undef, undef, undef, undef, undef, undef, undef, undef, undef, undef, undef, undef, undef, undef, undef, undef, undef, undef, undef, undef, undef, undef, undef, undef, undef, undef, undef, undef, undef, undef, undef, undef, undef, undef, undef, undef, undef], defers := [] } u := by
      intro u x0 g13 hPX hF13
      have PX : Hid (Pq w u b (kk + 1 + 1) q a len cap zs (.slice a0 n0 c0) (.slice a1 n1 c1) (.slice a2 n2 c2) (.slice a3 n3 c3) P) := hPX
      have F13 : Hid (Ld u b g13 3) := hF13
      clear hPX hF13
      rw [HG.out]
      refine hz_ready (rs := [5, 7, 10]) (by kernel_rfl) (by simp) ?_
      refine hz_cons (hz_next rfl (fun K hK => ?_)) (hz_cons (hz_next rfl (fun K hK => ?_)) (hz_cons (hz_next rfl (fun K hK => ?_)) hz_nil))
      · skip
        refine hz_enter 18 #[.pointer (some ⟨b, 0, none⟩), .int .i64 4] (by rfl) (fun w => by kernel_rfl) (next_any PX.out.src (by have := HK.out; have := HKK.out; omega) _) ?_
        rintro e u' ⟨f, rfl, -, -, t, s'⟩
        refine ⟨_, rfl, ?_⟩
        have NP : Hid (Pq w u' b (kk + 1 + 1 + 1) q a len cap zs (.slice a0 n0 c0) (.slice a1 n1 c1) (.slice a2 n2 c2) (.slice a3 n3 c3) P) := PX.out.next hb t s'
        refine hK.out _ _ (fun _ => NP.out.var.cell (i := 1) rfl) ?_
        clear hK K
        have NX := st2001 u' x0 f g13 NP.out (F13.out.turn t)
        rw [HG.out] at NX
        exact NX
      · skip
        refine hz_value (w' := (u.alloc (.cells #[.int .i64 0, .int .i64 23, .int .i64 24] 2))) (.slice (some ⟨u.heap.size, 0, none⟩) 3 3) (by rfl) (by kernel_rfl) ?_
        have NP : Hid (Pq w (u.alloc (.cells #[.int .i64 0, .int .i64 23, .int .i64 24] 2)) b (kk + 1 + 1) q a len cap zs (.slice a0 n0 c0) (.slice a1 n1 c1) (.slice a2 n2 c2) (.slice a3 n3 c3) P) := PX.out.alloc hb _
        have NF : Hid (Ld (u.alloc (.cells #[.int .i64 0, .int .i64 23, .int .i64 24] 2)) b u.heap.size 3) := ⟨by have := PX.out.src.here; omega, by simp, laid_at u [0, 23, 24]⟩
        refine hK.out _ _ (fun _ => NP.out.var.cell (i := 1) rfl) ?_
        clear hK K
        have NX := st1101 (u.alloc (.cells #[.int .i64 0, .int .i64 23, .int .i64 24] 2)) x0 u.heap.size g13 NP.out NF.out (F13.out.keep (al (Below.refl _ _) _))
        rw [HG.out] at NX
        exact NX
      · skip
        refine hz_value (w' := (u.alloc (.cells #[.int .i64 5, .int .i64 4] 2))) (.slice (some ⟨u.heap.size, 0, none⟩) 2 2) (by rfl) (by kernel_rfl) ?_
        have NP : Hid (Pq w (u.alloc (.cells #[.int .i64 5, .int .i64 4] 2)) b (kk + 1 + 1) q a len cap zs (.slice a0 n0 c0) (.slice a1 n1 c1) (.slice a2 n2 c2) (.slice a3 n3 c3) P) := PX.out.alloc hb _
        have NF : Hid (Ld (u.alloc (.cells #[.int .i64 5, .int .i64 4] 2)) b u.heap.size 2) := ⟨by have := PX.out.src.here; omega, by simp, laid_at u [5, 4]⟩
        refine hK.out _ _ (fun _ => NP.out.var.cell (i := 1) rfl) ?_
        clear hK K
        have NX := st1011 (u.alloc (.cells #[.int .i64 5, .int .i64 4] 2)) x0 u.heap.size g13 NP.out NF.out (F13.out.keep (al (Below.refl _ _) _))
        rw [HG.out] at NX
        exact NX
    have st1010 : ∀ (u : World) (x0 : Int) (g10 : Nat), (Pq w u b (kk + 1 + 1) q a len cap zs (.slice a0 n0 c0) (.slice a1 n1 c1) (.slice a2 n2 c2) (.slice a3 n3 c3) P) → (Ld u b g10 2) → G 11 #[true, true, true, true, true, false, true, false, false, true, true, false, true, false, false, false, false, false, false, false] { tmps := #[.pointer (some ⟨b, 0, none⟩), undef, .pointer (some ⟨w.heap.size, 0, none⟩), .pointer (some ⟨q, 0, none⟩), .pointer (some ⟨b, 0, none⟩), .agg #[.slice a0 n0 c0, .slice a1 n1 c1, .slice a2 n2 c2, .slice a3 n3 c3], .pointer (some ⟨b, 0, none⟩), .int .i64 3, .bool false, .bool false, undef, undef, undef, undef, undef, undef, undef, undef, .bool false, .bool false, undef, undef, undef, undef, undef, undef, undef, undef, undef, .bool false, .bool false, undef, .bool true, .bool true, .pointer (some ⟨q, 1, none⟩), .slice a1 n1 c1, .pointer (some ⟨b, 0, none⟩), .int .i64 x0, .pointer (some ⟨b, 0, none⟩), undef, .pointer (some ⟨b, 0, none⟩), undef, undef, .pointer (some ⟨b, 0, none⟩), .slice (some ⟨g10, 0, none⟩) 2 2, undef, .pointer (some ⟨b, 0, none⟩), undef, undef, undef, undef, undef, undef, undef, undef, undef, undef, undef, undef, undef, undef, undef, undef, undef, undef, undef, undef, undef, undef, undef, undef, undef, undef, undef, undef, undef, undef, undef, undef, undef, undef, undef, undef, undef, undef, undef, undef, undef, undef, undef, undef, undef], defers := [] } u := by
      intro u x0 g10 hPX hF10
      have PX : Hid (Pq w u b (kk + 1 + 1) q a len cap zs (.slice a0 n0 c0) (.slice a1 n1 c1) (.slice a2 n2 c2) (.slice a3 n3 c3) P) := hPX
      have F10 : Hid (Ld u b g10 2) := hF10
      clear hPX hF10
      rw [HG.out]
      refine hz_ready (rs := [5, 7, 13]) (by kernel_rfl) (by simp) ?_
      refine hz_cons (hz_next rfl (fun K hK => ?_)) (hz_cons (hz_next rfl (fun K hK => ?_)) (hz_cons (hz_next rfl (fun K hK => ?_)) hz_nil))
      · skip
        refine hz_enter 18 #[.pointer (some ⟨b, 0, none⟩), .int .i64 4] (by rfl) (fun w => by kernel_rfl) (next_any PX.out.src (by have := HK.out; have := HKK.out; omega) _) ?_
        rintro e u' ⟨f, rfl, -, -, t, s'⟩
        refine ⟨_, rfl, ?_⟩
        have NP : Hid (Pq w u' b (kk + 1 + 1 + 1) q a len cap zs (.slice a0 n0 c0) (.slice a1 n1 c1) (.slice a2 n2 c2) (.slice a3 n3 c3) P) := PX.out.next hb t s'
        refine hK.out _ _ (fun _ => NP.out.var.cell (i := 1) rfl) ?_
        clear hK K
        have NX := st2010 u' x0 f g10 NP.out (F10.out.turn t)
        rw [HG.out] at NX
        exact NX
      · skip
        refine hz_value (w' := (u.alloc (.cells #[.int .i64 0, .int .i64 23, .int .i64 24] 2))) (.slice (some ⟨u.heap.size, 0, none⟩) 3 3) (by rfl) (by kernel_rfl) ?_
        have NP : Hid (Pq w (u.alloc (.cells #[.int .i64 0, .int .i64 23, .int .i64 24] 2)) b (kk + 1 + 1) q a len cap zs (.slice a0 n0 c0) (.slice a1 n1 c1) (.slice a2 n2 c2) (.slice a3 n3 c3) P) := PX.out.alloc hb _
        have NF : Hid (Ld (u.alloc (.cells #[.int .i64 0, .int .i64 23, .int .i64 24] 2)) b u.heap.size 3) := ⟨by have := PX.out.src.here; omega, by simp, laid_at u [0, 23, 24]⟩
        refine hK.out _ _ (fun _ => NP.out.var.cell (i := 1) rfl) ?_
        clear hK K
        have NX := st1110 (u.alloc (.cells #[.int .i64 0, .int .i64 23, .int .i64 24] 2)) x0 u.heap.size g10 NP.out NF.out (F10.out.keep (al (Below.refl _ _) _))
        rw [HG.out] at NX
        exact NX
      · skip
        refine hz_value (w' := (u.alloc (.cells #[.int .i64 6, .int .i64 7, .int .i64 5] 2))) (.slice (some ⟨u.heap.size, 0, none⟩) 3 3) (by rfl) (by kernel_rfl) ?_
        have NP : Hid (Pq w (u.alloc (.cells #[.int .i64 6, .int .i64 7, .int .i64 5] 2)) b (kk + 1 + 1) q a len cap zs (.slice a0 n0 c0) (.slice a1 n1 c1) (.slice a2 n2 c2) (.slice a3 n3 c3) P) := PX.out.alloc hb _
        have NF : Hid (Ld (u.alloc (.cells #[.int .i64 6, .int .i64 7, .int .i64 5] 2)) b u.heap.size 3) := ⟨by have := PX.out.src.here; omega, by simp, laid_at u [6, 7, 5]⟩
        refine hK.out _ _ (fun _ => NP.out.var.cell (i := 1) rfl) ?_
        clear hK K
        have NX := st1011 (u.alloc (.cells #[.int .i64 6, .int .i64 7, .int .i64 5] 2)) x0 g10 u.heap.size NP.out (F10.out.keep (al (Below.refl _ _) _)) NF.out
        rw [HG.out] at NX
        exact NX
    have st1100 : ∀ (u : World) (x0 : Int) (g7 : Nat), (Pq w u b (kk + 1 + 1) q a len cap zs (.slice a0 n0 c0) (.slice a1 n1 c1) (.slice a2 n2 c2) (.slice a3 n3 c3) P) → (Ld u b g7 3) → G 11 #[true, true, true, true, true, false, true, true, false, true, false, false, true, false, false, false, false, false, false, false] { tmps := #[.pointer (some ⟨b, 0, none⟩), undef, .pointer (some ⟨w.heap.size, 0, none⟩), .pointer (some ⟨q, 0, none⟩), .pointer (some ⟨b, 0, none⟩), .agg #[.slice a0 n0 c0, .slice a1 n1 c1, .slice a2 n2 c2, .slice a3 n3 c3], .pointer (some ⟨b, 0, none⟩), .int .i64 3, .bool false, .bool false, undef, undef, undef, undef, undef, undef, undef, undef, .bool false, .bool false, undef, undef, undef, undef, undef, undef, undef, undef, undef, .bool false, .bool false, undef, .bool true, .bool true, .pointer (some ⟨q, 1, none⟩), .slice a1 n1 c1, .pointer (some ⟨b, 0, none⟩), .int .i64 x0, .pointer (some ⟨b, 0, none⟩), undef, .pointer (some ⟨b, 0, none⟩), .slice (some ⟨g7, 0, none⟩) 3 3, undef, .pointer (some ⟨b, 0, none⟩), undef, undef, .pointer (some ⟨b, 0, none⟩), undef, undef, undef, undef, undef, undef, undef, undef, undef, undef, undef, undef, undef, undef, undef, undef, undef, undef, undef, undef, undef, undef, undef, undef, undef, undef, undef, undef, undef, undef, undef, undef, undef, undef, undef, undef, undef, undef, undef, undef, undef, undef, undef, undef, undef], defers := [] } u := by
      intro u x0 g7 hPX hF7
      have PX : Hid (Pq w u b (kk + 1 + 1) q a len cap zs (.slice a0 n0 c0) (.slice a1 n1 c1) (.slice a2 n2 c2) (.slice a3 n3 c3) P) := hPX
      have F7 : Hid (Ld u b g7 3) := hF7
      clear hPX hF7
      rw [HG.out]
      refine hz_ready (rs := [5, 10, 13]) (by kernel_rfl) (by simp) ?_
      refine hz_cons (hz_next rfl (fun K hK => ?_)) (hz_cons (hz_next rfl (fun K hK => ?_)) (hz_cons (hz_next rfl (fun K hK => ?_)) hz_nil))
      · skip
        refine hz_enter 18 #[.pointer (some ⟨b, 0, none⟩), .int .i64 4] (by rfl) (fun w => by kernel_rfl) (next_any PX.out.src (by have := HK.out; have := HKK.out; omega) _) ?_
        rintro e u' ⟨f, rfl, -, -, t, s'⟩
        refine ⟨_, rfl, ?_⟩
        have NP : Hid (Pq w u' b (kk + 1 + 1 + 1) q a len cap zs (.slice a0 n0 c0) (.slice a1 n1 c1) (.slice a2 n2 c2) (.slice a3 n3 c3) P) := PX.out.next hb t s'
        refine hK.out _ _ (fun _ => NP.out.var.cell (i := 1) rfl) ?_
        clear hK K
        have NX := st2100 u' x0 f g7 NP.out (F7.out.turn t)
        rw [HG.out] at NX
        exact NX
      · skip
        refine hz_value (w' := (u.alloc (.cells #[.int .i64 5, .int .i64 4] 2))) (.slice (some ⟨u.heap.size, 0, none⟩) 2 2) (by rfl) (by kernel_rfl) ?_
        have NP : Hid (Pq w (u.alloc (.cells #[.int .i64 5, .int .i64 4] 2)) b (kk + 1 + 1) q a len cap zs (.slice a0 n0 c0) (.slice a1 n1 c1) (.slice a2 n2 c2) (.slice a3 n3 c3) P) := PX.out.alloc hb _
        have NF : Hid (Ld (u.alloc (.cells #[.int .i64 5, .int .i64 4] 2)) b u.heap.size 2) := ⟨by have := PX.out.src.here; omega, by simp, laid_at u [5, 4]⟩
        refine hK.out _ _ (fun _ => NP.out.var.cell (i := 1) rfl) ?_
        clear hK K
        have NX := st1110 (u.alloc (.cells #[.int .i64 5, .int .i64 4] 2)) x0 g7 u.heap.size NP.out (F7.out.keep (al (Below.refl _ _) _)) NF.out
        rw [HG.out] at NX
        exact NX
      · skip
        refine hz_value (w' := (u.alloc (.cells #[.int .i64 6, .int .i64 7, .int .i64 5] 2))) (.slice (some ⟨u.heap.size, 0, none⟩) 3 3) (by rfl) (by kernel_rfl) ?_
        have NP : Hid (Pq w (u.alloc (.cells #[.int .i64 6, .int .i64 7, .int .i64 5] 2)) b (kk + 1 + 1) q a len cap zs (.slice a0 n0 c0) (.slice a1 n1 c1) (.slice a2 n2 c2) (.slice a3 n3 c3) P) := PX.out.alloc hb _
        have NF : Hid (Ld (u.alloc (.cells #[.int .i64 6, .int .i64 7, .int .i64 5] 2)) b u.heap.size 3) := ⟨by have := PX.out.src.here; omega, by simp, laid_at u [6, 7, 5]⟩
        refine hK.out _ _ (fun _ => NP.out.var.cell (i := 1) rfl) ?_
        clear hK K
        have NX := st1101 (u.alloc (.cells #[.int .i64 6, .int .i64 7, .int .i64 5] 2)) x0 g7 u.heap.size NP.out (F7.out.keep (al (Below.refl _ _) _)) NF.out
        rw [HG.out] at NX
        exact NX
    have st2000 : ∀ (u : World) (x0 : Int) (x1 : Int), (Pq w u b (kk + 1 + 1 + 1) q a len cap zs (.slice a0 n0 c0) (.slice a1 n1 c1) (.slice a2 n2 c2) (.slice a3 n3 c3) P) → G 11 #[true, true, true, true, true, true, true, false, false, true, false, false, true, false, false, false, false, false, false, false] { tmps := #[.pointer (some ⟨b, 0, none⟩), undef, .pointer (some ⟨w.heap.size, 0, none⟩), .pointer (some ⟨q, 0, none⟩), .pointer (some ⟨b, 0, none⟩), .agg #[.slice a0 n0 c0, .slice a1 n1 c1, .slice a2 n2 c2, .slice a3 n3 c3], .pointer (some ⟨b, 0, none⟩), .int .i64 3, .bool false, .bool false, undef, undef, undef, undef, undef, undef, undef, undef, .bool false, .bool false, undef, undef, undef, undef, undef, undef, undef, undef, undef, .bool false, .bool false, undef, .bool true, .bool true, .pointer (some ⟨q, 1, none⟩), .slice a1 n1 c1, .pointer (some ⟨b, 0, none⟩), .int .i64 x0, .pointer (some ⟨b, 0, none⟩), .int .i64 x1, .pointer (some ⟨b, 0, none⟩), undef, undef, .pointer (some ⟨b, 0, none⟩), undef, undef, .pointer (some ⟨b, 0, none⟩), undef, undef, undef, undef, undef, undef, undef, undef, undef, undef, undef, undef, undef, undef, undef, undef, undef, undef, undef, undef, undef, undef, undef, undef, undef, undef, undef, undef, undef, undef, undef, undef, undef, undef, undef, undef, undef, undef, undef, undef, undef, undef, undef, undef, undef], defers := [] } u := by
      intro u x0 x1 hPX
      have PX : Hid (Pq w u b (kk + 1 + 1 + 1) q a len cap zs (.slice a0 n0 c0) (.slice a1 n1 c1) (.slice a2 n2 c2) (.slice a3 n3 c3) P) := hPX
      clear hPX
      rw [HG.out]
      refine hz_ready (rs := [7, 10, 13]) (by kernel_rfl) (by simp) ?_
      refine hz_cons (hz_next rfl (fun K hK => ?_)) (hz_cons (hz_next rfl (fun K hK => ?_)) (hz_cons (hz_next rfl (fun K hK => ?_)) hz_nil))
      · skip
        refine hz_value (w' := (u.alloc (.cells #[.int .i64 0, .int .i64 23, .int .i64 24] 2))) (.slice (some ⟨u.heap.size, 0, none⟩) 3 3) (by rfl) (by kernel_rfl) ?_
        have NP : Hid (Pq w (u.alloc (.cells #[.int .i64 0, .int .i64 23, .int .i64 24] 2)) b (kk + 1 + 1 + 1) q a len cap zs (.slice a0 n0 c0) (.slice a1 n1 c1) (.slice a2 n2 c2) (.slice a3 n3 c3) P) := PX.out.alloc hb _
        have NF : Hid (Ld (u.alloc (.cells #[.int .i64 0, .int .i64 23, .int .i64 24] 2)) b u.heap.size 3) := ⟨by have := PX.out.src.here; omega, by simp, laid_at u [0, 23, 24]⟩
        refine hK.out _ _ (fun _ => NP.out.var.cell (i := 1) rfl) ?_
        clear hK K
        have NX := st2100 (u.alloc (.cells #[.int .i64 0, .int .i64 23, .int .i64 24] 2)) x0 x1 u.heap.size NP.out NF.out
        rw [HG.out] at NX
        exact NX
      · skip
        refine hz_value (w' := (u.alloc (.cells #[.int .i64 5, .int .i64 4] 2))) (.slice (some ⟨u.heap.size, 0, none⟩) 2 2) (by rfl) (by kernel_rfl) ?_
        have NP : Hid (Pq w (u.alloc (.cells #[.int .i64 5, .int .i64 4] 2)) b (kk + 1 + 1 + 1) q a len cap zs (.slice a0 n0 c0) (.slice a1 n1 c1) (.slice a2 n2 c2) (.slice a3 n3 c3) P) := PX.out.alloc hb _
        have NF : Hid (Ld (u.alloc (.cells #[.int .i64 5, .int .i64 4] 2)) b u.heap.size 2) := ⟨by have := PX.out.src.here; omega, by simp, laid_at u [5, 4]⟩
        refine hK.out _ _ (fun _ => NP.out.var.cell (i := 1) rfl) ?_
        clear hK K
        have NX := st2010 (u.alloc (.cells #[.int .i64 5, .int .i64 4] 2)) x0 x1 u.heap.size NP.out NF.out
        rw [HG.out] at NX
        exact NX
      · skip
        refine hz_value (w' := (u.alloc (.cells #[.int .i64 6, .int .i64 7, .int .i64 5] 2))) (.slice (some ⟨u.heap.size, 0, none⟩) 3 3) (by rfl) (by kernel_rfl) ?_
        have NP : Hid (Pq w (u.alloc (.cells #[.int .i64 6, .int .i64 7, .int .i64 5] 2)) b (kk + 1 + 1 + 1) q a len cap zs (.slice a0 n0 c0) (.slice a1 n1 c1) (.slice a2 n2 c2) (.slice a3 n3 c3) P) := PX.out.alloc hb _
        have NF : Hid (Ld (u.alloc (.cells #[.int .i64 6, .int .i64 7, .int .i64 5] 2)) b u.heap.size 3) := ⟨by have := PX.out.src.here; omega, by simp, laid_at u [6, 7, 5]⟩
        refine hK.out _ _ (fun _ => NP.out.var.cell (i := 1) rfl) ?_
        clear hK K
        have NX := st2001 (u.alloc (.cells #[.int .i64 6, .int .i64 7, .int .i64 5] 2)) x0 x1 u.heap.size NP.out NF.out
        rw [HG.out] at NX
        exact NX
    have st0001 : ∀ (u : World) (g13 : Nat), (Pq w u b (kk + 1) q a len cap zs (.slice a0 n0 c0) (.slice a1 n1 c1) (.slice a2 n2 c2) (.slice a3 n3 c3) P) → (Ld u b g13 3) → G 12 #[true, true, true, false, true, false, true, false, false, true, false, false, true, true, false, false, false, false, false, false] { tmps := #[.pointer (some ⟨b, 0, none⟩), undef, .pointer (some ⟨w.heap.size, 0, none⟩), .pointer (some ⟨q, 0, none⟩), .pointer (some ⟨b, 0, none⟩), .agg #[.slice a0 n0 c0, .slice a1 n1 c1, .slice a2 n2 c2, .slice a3 n3 c3], .pointer (some ⟨b, 0, none⟩), .int .i64 3, .bool false, .bool false, undef, undef, undef, undef, undef, undef, undef, undef, .bool false, .bool false, undef, undef, undef, undef, undef, undef, undef, undef, undef, .bool false, .bool false, undef, .bool true, .bool true, .pointer (some ⟨q, 1, none⟩), .slice a1 n1 c1, .pointer (some ⟨b, 0, none⟩), undef, .pointer (some ⟨b, 0, none⟩), undef, .pointer (some ⟨b, 0, none⟩), undef, undef, .pointer (some ⟨b, 0, none⟩), undef, undef, .pointer (some ⟨b, 0, none⟩), .slice (some ⟨g13, 0, none⟩) 3 3, undef, undef, undef, undef, undef, undef, undef, undef, undef, undef, undef, undef, undef, undef, undef, undef, undef, undef, undef, undef, undef, undef, undef, undef, undef, undef, undef, undef, undef, undef, undef, undef, undef, undef, undef, undef, undef, undef, undef, undef, undef, undef, undef, undef], defers := [] } u := by
      intro u g13 hPX hF13
      have PX : Hid (Pq w u b (kk + 1) q a len cap zs (.slice a0 n0 c0) (.slice a1 n1 c1) (.slice a2 n2 c2) (.slice a3 n3 c3) P) := hPX
      have F13 : Hid (Ld u b g13 3) := hF13
      clear hPX hF13
      rw [HG.out]
      refine hz_ready (rs := [3, 7, 10]) (by kernel_rfl) (by simp) ?_
      refine hz_cons (hz_next rfl (fun K hK => ?_)) (hz_cons (hz_next rfl (fun K hK => ?_)) (hz_cons (hz_next rfl (fun K hK => ?_)) hz_nil))
      · skip
        refine hz_enter 18 #[.pointer (some ⟨b, 0, none⟩), .int .i64 3] (by rfl) (fun w => by kernel_rfl) (next_any PX.out.src (by have := HK.out; have := HKK.out; omega) _) ?_
        rintro e u' ⟨f, rfl, -, -, t, s'⟩
        refine ⟨_, rfl, ?_⟩
        have NP : Hid (Pq w u' b (kk + 1 + 1) q a len cap zs (.slice a0 n0 c0) (.slice a1 n1 c1) (.slice a2 n2 c2) (.slice a3 n3 c3) P) := PX.out.next hb t s'
        refine hK.out _ _ (fun _ => NP.out.var.cell (i := 1) rfl) ?_
        clear hK K
        have NX := st1001 u' f g13 NP.out (F13.out.turn t)
        rw [HG.out] at NX
        exact NX
      · skip
        refine hz_value (w' := (u.alloc (.cells #[.int .i64 0, .int .i64 23, .int .i64 24] 2))) (.slice (some ⟨u.heap.size, 0, none⟩) 3 3) (by rfl) (by kernel_rfl) ?_
        have NP : Hid (Pq w (u.alloc (.cells #[.int .i64 0, .int .i64 23, .int .i64 24] 2)) b (kk + 1) q a len cap zs (.slice a0 n0 c0) (.slice a1 n1 c1) (.slice a2 n2 c2) (.slice a3 n3 c3) P) := PX.out.alloc hb _
        have NF : Hid (Ld (u.alloc (.cells #[.int .i64 0, .int .i64 23, .int .i64 24] 2)) b u.heap.size 3) := ⟨by have := PX.out.src.here; omega, by simp, laid_at u [0, 23, 24]⟩
        refine hK.out _ _ (fun _ => NP.out.var.cell (i := 1) rfl) ?_
        clear hK K
        have NX := st0101 (u.alloc (.cells #[.int .i64 0, .int .i64 23, .int .i64 24] 2)) u.heap.size g13 NP.out NF.out (F13.out.keep (al (Below.refl _ _) _))
        rw [HG.out] at NX
        exact NX
      · skip
        refine hz_value (w' := (u.alloc (.cells #[.int .i64 5, .int .i64 4] 2))) (.slice (some ⟨u.heap.size, 0, none⟩) 2 2) (by rfl) (by kernel_rfl) ?_
        have NP : Hid (Pq w (u.alloc (.cells #[.int .i64 5, .int .i64 4] 2)) b (kk + 1) q a len cap zs (.slice a0 n0 c0) (.slice a1 n1 c1) (.slice a2 n2 c2) (.slice a3 n3 c3) P) := PX.out.alloc hb _
        have NF : Hid (Ld (u.alloc (.cells #[.int .i64 5, .int .i64 4] 2)) b u.heap.size 2) := ⟨by have := PX.out.src.here; omega, by simp, laid_at u [5, 4]⟩
        refine hK.out _ _ (fun _ => NP.out.var.cell (i := 1) rfl) ?_
        clear hK K
        have NX := st0011 (u.alloc (.cells #[.int .i64 5, .int .i64 4] 2)) u.heap.size g13 NP.out NF.out (F13.out.keep (al (Below.refl _ _) _))
        rw [HG.out] at NX
        exact NX
    have st0010 : ∀ (u : World) (g10 : Nat), (Pq w u b (kk + 1) q a len cap zs (.slice a0 n0 c0) (.slice a1 n1 c1) (.slice a2 n2 c2) (.slice a3 n3 c3) P) → (Ld u b g10 2) → G 12 #[true, true, true, false, true, false, true, false, false, true, true, false, true, false, false, false, false, false, false, false] { tmps := #[.pointer (some ⟨b, 0, none⟩), undef, .pointer (some ⟨w.heap.size, 0, none⟩), .pointer (some ⟨q, 0, none⟩), .pointer (some ⟨b, 0, none⟩), .agg #[.slice a0 n0 c0, .slice a1 n1 c1, .slice a2 n2 c2, .slice a3 n3 c3], .pointer (some ⟨b, 0, none⟩), .int .i64 3, .bool false, .bool false, undef, undef, undef, undef, undef, undef, undef, undef, .bool false, .bool false, undef, undef, undef, undef, undef, undef, undef, undef, undef, .bool false, .bool false, undef, .bool true, .bool true, .pointer (some ⟨q, 1, none⟩), .slice a1 n1 c1, .pointer (some ⟨b, 0, none⟩), undef, .pointer (some ⟨b, 0, none⟩), undef, .pointer (some ⟨b, 0, none⟩), undef, undef, .pointer (some ⟨b, 0, none⟩), .slice (some ⟨g10, 0, none⟩) 2 2, undef, .pointer (some ⟨b, 0, none⟩), undef, undef, undef, undef, undef, undef, undef, undef, undef, undef, undef, undef, undef, undef, undef, undef, undef, undef, undef, undef, undef, undef, undef, undef, undef, undef, undef, undef, undef, undef, undef, undef, undef, undef, undef, undef, undef, undef, undef, undef, undef, undef, undef, undef, undef], defers := [] } u := by
      intro u g10 hPX hF10
      have PX : Hid (Pq w u b (kk + 1) q a len cap zs (.slice a0 n0 c0) (.slice a1 n1 c1) (.slice a2 n2 c2) (.slice a3 n3 c3) P) := hPX
      have F10 : Hid (Ld u b g10 2) := hF10
      clear hPX hF10
      rw [HG.out]
      refine hz_ready (rs := [3, 7, 13]) (by kernel_rfl) (by simp) ?_
      refine hz_cons (hz_next rfl (fun K hK => ?_)) (hz_cons (hz_next rfl (fun K hK => ?_)) (hz_cons (hz_next rfl (fun K hK => ?_)) hz_nil))
      · skip
        refine hz_enter 18 #[.pointer (some ⟨b, 0, none⟩), .int .i64 3] (by rfl) (fun w => by kernel_rfl) (next_any PX.out.src (by have := HK.out; have := HKK.out; omega) _) ?_
        rintro e u' ⟨f, rfl, -, -, t, s'⟩
        refine ⟨_, rfl, ?_⟩
        have NP : Hid (Pq w u' b (kk + 1 + 1) q a len cap zs (.slice a0 n0 c0) (.slice a1 n1 c1) (.slice a2 n2 c2) (.slice a3 n3 c3) P) := PX.out.next hb t s'
        refine hK.out _ _ (fun _ => NP.out.var.cell (i := 1) rfl) ?_
        clear hK K
        have NX := st1010 u' f g10 NP.out (F10.out.turn t)
        rw [HG.out] at NX
        exact NX
      · skip
        refine hz_value (w' := (u.alloc (.cells #[.int .i64 0, .int .i64 23, .int .i64 24] 2))) (.slice (some ⟨u.heap.size, 0, none⟩) 3 3) (by rfl) (by kernel_rfl) ?_
        have NP : Hid (Pq w (u.alloc (.cells #[.int .i64 0, .int .i64 23, .int .i64 24] 2)) b (kk + 1) q a len cap zs (.slice a0 n0 c0) (.slice a1 n1 c1) (.slice a2 n2 c2) (.slice a3 n3 c3) P) := PX.out.alloc hb _
        have NF : Hid (Ld (u.alloc (.cells #[.int .i64 0, .int .i64 23, .int .i64 24] 2)) b u.heap.size 3) := ⟨by have := PX.out.src.here; omega, by simp, laid_at u [0, 23, 24]⟩
        refine hK.out _ _ (fun _ => NP.out.var.cell (i := 1) rfl) ?_
        clear hK K
        have NX := st0110 (u.alloc (.cells #[.int .i64 0, .int .i64 23, .int .i64 24] 2)) u.heap.size g10 NP.out NF.out (F10.out.keep (al (Below.refl _ _) _))
        rw [HG.out] at NX
        exact NX
      · skip
        refine hz_value (w' := (u.alloc (.cells #[.int .i64 6, .int .i64 7, .int .i64 5] 2))) (.slice (some ⟨u.heap.size, 0, none⟩) 3 3) (by rfl) (by kernel_rfl) ?_
        have NP : Hid (Pq w (u.alloc (.cells #[.int .i64 6, .int .i64 7, .int .i64 5] 2)) b (kk + 1) q a len cap zs (.slice a0 n0 c0) (.slice a1 n1 c1) (.slice a2 n2 c2) (.slice a3 n3 c3) P) := PX.out.alloc hb _
        have NF : Hid (Ld (u.alloc (.cells #[.int .i64 6, .int .i64 7, .int .i64 5] 2)) b u.heap.size 3) := ⟨by have := PX.out.src.here; omega, by simp, laid_at u [6, 7, 5]⟩
        refine hK.out _ _ (fun _ => NP.out.var.cell (i := 1) rfl) ?_
        clear hK K
        have NX := st0011 (u.alloc (.cells #[.int .i64 6, .int .i64 7, .int .i64 5] 2)) g10 u.heap.size NP.out (F10.out.keep (al (Below.refl _ _) _)) NF.out
        rw [HG.out] at NX
        exact NX
    have st0100 : ∀ (u : World) (g7 : Nat), (Pq w u b (kk + 1) q a len cap zs (.slice a0 n0 c0) (.slice a1 n1 c1) (.slice a2 n2 c2) (.slice a3 n3 c3) P) → (Ld u b g7 3) → G 12 #[true, true, true, false, true, false, true, true, false, true, false, false, true, false, false, false, false, false, false, false] { tmps := #[.pointer (some ⟨b, 0, none⟩), undef, .pointer (some ⟨w.heap.size, 0, none⟩), .pointer (some ⟨q, 0, none⟩), .pointer (some ⟨b, 0, none⟩), .agg #[.slice a0 n0 c0, .slice a1 n1 c1, .slice a2 n2 c2, .slice a3 n3 c3], .pointer (some ⟨b, 0, none⟩), .int .i64 3, .bool false, .bool false, undef, undef, undef, undef, undef, undef, undef, undef, .bool false, .bool false, undef, undef, undef, undef, undef, undef, undef, undef, undef, .bool false, .bool false, undef, .bool true, .bool true, .pointer (some ⟨q, 1, none⟩), .slice a1 n1 c1, .pointer (some ⟨b, 0, none⟩), undef, .pointer (some ⟨b, 0, none⟩), undef, .pointer (some ⟨b, 0, none⟩), .slice (some ⟨g7, 0, none⟩) 3 3, undef, .pointer (some ⟨b, 0, none⟩), undef, undef, .pointer (some ⟨b, 0, none⟩), undef, undef, undef, undef, undef, undef, undef, undef, undef, undef, undef, undef, undef, undef, undef, undef, undef, undef, undef, undef, undef, undef, undef, undef, undef, undef, undef, undef, undef, undef, undef, undef, undef, undef, undef, undef, undef, undef, undef, undef, undef, undef, undef, undef, undef], defers := [] } u := by
      intro u g7 hPX hF7
      have PX : Hid (Pq w u b (kk + 1) q a len cap zs (.slice a0 n0 c0) (.slice a1 n1 c1) (.slice a2 n2 c2) (.slice a3 n3 c3) P) := hPX
      have F7 : Hid (Ld u b g7 3) := hF7
      clear hPX hF7
      rw [HG.out]
      refine hz_ready (rs := [3, 10, 13]) (by kernel_rfl) (by simp) ?_
      refine hz_cons (hz_next rfl (fun K hK => ?_)) (hz_cons (hz_next rfl (fun K hK => ?_)) (hz_cons (hz_next rfl (fun K hK => ?_)) hz_nil))
      · skip
        refine hz_enter 18 #[.pointer (some ⟨b, 0, none⟩), .int .i64 3] (by rfl) (fun w => by kernel_rfl) (next_any PX.out.src (by have := HK.out; have := HKK.out; omega) _) ?_
        rintro e u' ⟨f, rfl, -, -, t, s'⟩
        refine ⟨_, rfl, ?_⟩
        have NP : Hid (Pq w u' b (kk + 1 + 1) q a len cap zs (.slice a0 n0 c0) (.slice a1 n1 c1) (.slice a2 n2 c2) (.slice a3 n3 c3) P) := PX.out.next hb t s'
        refine hK.out _ _ (fun _ => NP.out.var.cell (i := 1) rfl) ?_
        clear hK K
        have NX := st1100 u' f g7 NP.out (F7.out.turn t)
        rw [HG.out] at NX
        exact NX
      · skip
        refine hz_value (w' := (u.alloc (.cells #[.int .i64 5, .int .i64 4] 2))) (.slice (some ⟨u.heap.size, 0, none⟩) 2 2) (by rfl) (by kernel_rfl) ?_
        have NP : Hid (Pq w (u.alloc (.cells #[.int .i64 5, .int .i64 4] 2)) b (kk + 1) q a len cap zs (.slice a0 n0 c0) (.slice a1 n1 c1) (.slice a2 n2 c2) (.slice a3 n3 c3) P) := PX.out.alloc hb _
        have NF : Hid (Ld (u.alloc (.cells #[.int .i64 5, .int .i64 4] 2)) b u.heap.size 2) := ⟨by have := PX.out.src.here; omega, by simp, laid_at u [5, 4]⟩
        refine hK.out _ _ (fun _ => NP.out.var.cell (i := 1) rfl) ?_
        clear hK K
        have NX := st0110 (u.alloc (.cells #[.int .i64 5, .int .i64 4] 2)) g7 u.heap.size NP.out (F7.out.keep (al (Below.refl _ _) _)) NF.out
        rw [HG.out] at NX
        exact NX
      · skip
        refine hz_value (w' := (u.alloc (.cells #[.int .i64 6, .int .i64 7, .int .i64 5] 2))) (.slice (some ⟨u.heap.size, 0, none⟩) 3 3) (by rfl) (by kernel_rfl) ?_
        have NP : Hid (Pq w (u.alloc (.cells #[.int .i64 6, .int .i64 7, .int .i64 5] 2)) b (kk + 1) q a len cap zs (.slice a0 n0 c0) (.slice a1 n1 c1) (.slice a2 n2 c2) (.slice a3 n3 c3) P) := PX.out.alloc hb _
        have NF : Hid (Ld (u.alloc (.cells #[.int .i64 6, .int .i64 7, .int .i64 5] 2)) b u.heap.size 3) := ⟨by have := PX.out.src.here; omega, by simp, laid_at u [6, 7, 5]⟩
        refine hK.out _ _ (fun _ => NP.out.var.cell (i := 1) rfl) ?_
        clear hK K
        have NX := st0101 (u.alloc (.cells #[.int .i64 6, .int .i64 7, .int .i64 5] 2)) g7 u.heap.size NP.out (F7.out.keep (al (Below.refl _ _) _)) NF.out
        rw [HG.out] at NX
        exact NX
    have st1000 : ∀ (u : World) (x0 : Int), (Pq w u b (kk + 1 + 1) q a len cap zs (.slice a0 n0 c0) (.slice a1 n1 c1) (.slice a2 n2 c2) (.slice a3 n3 c3) P) → G 12 #[true, true, true, true, true, false, true, false, false, true, false, false, true, false, false, false, false, false, false, false] { tmps := #[.pointer (some ⟨b, 0, none⟩), undef, .pointer (some ⟨w.heap.size, 0, none⟩), .pointer (some ⟨q, 0, none⟩), .pointer (some ⟨b, 0, none⟩), .agg #[.slice a0 n0 c0, .slice a1 n1 c1, .slice a2 n2 c2, .slice a3 n3 c3], .pointer (some ⟨b, 0, none⟩), .int .i64 3, .bool false, .bool false, undef, undef, undef, undef, undef, undef, undef, undef, .bool false, .bool false, undef, undef, undef, undef, undef, undef, undef, undef, undef, .bool false, .bool false, undef, .bool true, .bool true, .pointer (some ⟨q, 1, none⟩), .slice a1 n1 c1, .pointer (some ⟨b, 0, none⟩), .int .i64 x0, .pointer (some ⟨b, 0, none⟩), undef, .pointer (some ⟨b, 0, none⟩), undef, undef, .pointer (some ⟨b, 0, none⟩), undef, undef, .pointer (some ⟨b, 0, none⟩), undef, undef, undef, undef, undef, undef, undef, undef, undef, undef, undef, undef, undef, undef, undef, undef, undef, undef, undef, undef, undef, undef, undef, undef, undef, undef, undef, undef, undef, undef, undef, undef, undef, undef, undef, undef, undef, undef, undef, undef, undef, undef, undef, undef, undef], defers := [] } u := by
      intro u x0 hPX
      have PX : Hid (Pq w u b (kk + 1 + 1) q a len cap zs (.slice a0 n0 c0) (.slice a1 n1 c1) (.slice a2 n2 c2) (.slice a3 n3 c3) P) := hPX
      clear hPX
      rw [HG.out]
      refine hz_ready (rs := [5, 7, 10, 13]) (by kernel_rfl) (by simp) ?_
      refine hz_cons (hz_next rfl (fun K hK => ?_)) (hz_cons (hz_next rfl (fun K hK => ?_)) (hz_cons (hz_next rfl (fun K hK => ?_)) (hz_cons (hz_next rfl (fun K hK => ?_)) hz_nil)))
      · skip
        refine hz_enter 18 #[.pointer (some ⟨b, 0, none⟩), .int .i64 4] (by rfl) (fun w => by kernel_rfl) (next_any PX.out.src (by have := HK.out; have := HKK.out; omega) _) ?_
        rintro e u' ⟨f, rfl, -, -, t, s'⟩
        refine ⟨_, rfl, ?_⟩
        have NP : Hid (Pq w u' b (kk + 1 + 1 + 1) q a len cap zs (.slice a0 n0 c0) (.slice a1 n1 c1) (.slice a2 n2 c2) (.slice a3 n3 c3) P) := PX.out.next hb t s'
        refine hK.out _ _ (fun _ => NP.out.var.cell (i := 1) rfl) ?_
        clear hK K
        have NX := st2000 u' x0 f NP.out
        rw [HG.out] at NX
        exact NX
      · skip
        refine hz_value (w' := (u.alloc (.cells #[.int .i64 0, .int .i64 23, .int .i64 24] 2))) (.slice (some ⟨u.heap.size, 0, none⟩) 3 3) (by rfl) (by kernel_rfl) ?_
        have NP : Hid (Pq w (u.alloc (.cells #[.int .i64 0, .int .i64 23, .int .i64 24] 2)) b (kk + 1 + 1) q a len cap zs (.slice a0 n0 c0) (.slice a1 n1 c1) (.slice a2 n2 c2) (.slice a3 n3 c3) P) := PX.out.alloc hb _
        have NF : Hid (Ld (u.alloc (.cells #[.int .i64 0, .int .i64 23, .int .i64 24] 2)) b u.heap.size 3) := ⟨by have := PX.out.src.here; omega, by simp, laid_at u [0, 23, 24]⟩
        refine hK.out _ _ (fun _ => NP.out.var.cell (i := 1) rfl) ?_
        clear hK K
        have NX := st1100 (u.alloc (.cells #[.int .i64 0, .int .i64 23, .int .i64 24] 2)) x0 u.heap.size NP.out NF.out
        rw [HG.out] at NX
        exact NX
      · skip
        refine hz_value (w' := (u.alloc (.cells #[.int .i64 5, .int .i64 4] 2))) (.slice (some ⟨u.heap.size, 0, none⟩) 2 2) (by rfl) (by kernel_rfl) ?_
        have NP : Hid (Pq w (u.alloc (.cells #[.int .i64 5, .int .i64 4] 2)) b (kk + 1 + 1) q a len cap zs (.slice a0 n0 c0) (.slice a1 n1 c1) (.slice a2 n2 c2) (.slice a3 n3 c3) P) := PX.out.alloc hb _
        have NF : Hid (Ld (u.alloc (.cells #[.int .i64 5, .int .i64 4] 2)) b u.heap.size 2) := ⟨by have := PX.out.src.here; omega, by simp, laid_at u [5, 4]⟩
        refine hK.out _ _ (fun _ => NP.out.var.cell (i := 1) rfl) ?_
        clear hK K
        have NX := st1010 (u.alloc (.cells #[.int .i64 5, .int .i64 4] 2)) x0 u.heap.size NP.out NF.out
        rw [HG.out] at NX
        exact NX
      · skip
        refine hz_value (w' := (u.alloc (.cells #[.int .i64 6, .int .i64 7, .int .i64 5] 2))) (.slice (some ⟨u.heap.size, 0, none⟩) 3 3) (by rfl) (by kernel_rfl) ?_
        have NP : Hid (Pq w (u.alloc (.cells #[.int .i64 6, .int .i64 7, .int .i64 5] 2)) b (kk + 1 + 1) q a len cap zs (.slice a0 n0 c0) (.slice a1 n1 c1) (.slice a2 n2 c2) (.slice a3 n3 c3) P) := PX.out.alloc hb _
        have NF : Hid (Ld (u.alloc (.cells #[.int .i64 6, .int .i64 7, .int .i64 5] 2)) b u.heap.size 3) := ⟨by have := PX.out.src.here; omega, by simp, laid_at u [6, 7, 5]⟩
        refine hK.out _ _ (fun _ => NP.out.var.cell (i := 1) rfl) ?_
        clear hK K
        have NX := st1001 (u.alloc (.cells #[.int .i64 6, .int .i64 7, .int .i64 5] 2)) x0 u.heap.size NP.out NF.out
        rw [HG.out] at NX
        exact NX
    have st0000 : ∀ (u : World), (Pq w u b (kk + 1) q a len cap zs (.slice a0 n0 c0) (.slice a1 n1 c1) (.slice a2 n2 c2) (.slice a3 n3 c3) P) → G 13 #[true, true, true, false, true, false, true, false, false, true, false, false, true, false, false, false, false, false, false, false] { tmps := #[.pointer (some ⟨b, 0, none⟩), undef, .pointer (some ⟨w.heap.size, 0, none⟩), .pointer (some ⟨q, 0, none⟩), .pointer (some ⟨b, 0, none⟩), .agg #[.slice a0 n0 c0, .slice a1 n1 c1, .slice a2 n2 c2, .slice a3 n3 c3], .pointer (some ⟨b, 0, none⟩), .int .i64 3, .bool false, .bool false, undef, undef, undef, undef, undef, undef, undef, undef, .bool false, .bool false, undef, undef, undef, undef, undef, undef, undef, undef, undef, .bool false, .bool false, undef, .bool true, .bool true, .pointer (some ⟨q, 1, none⟩), .slice a1 n1 c1, .pointer (some ⟨b, 0, none⟩), undef, .pointer (some ⟨b, 0, none⟩), undef, .pointer (some ⟨b, 0, none⟩), undef, undef, .pointer (some ⟨b, 0, none⟩), undef, undef, .pointer (some ⟨b, 0, none⟩), undef, undef, undef, undef, undef, undef, undef, undef, undef, undef, undef, undef, undef, undef, undef, undef, undef, undef, undef, undef, undef, undef, undef, undef, undef, undef, undef, undef, undef, undef, undef, undef, undef, undef, undef, undef, undef, undef, undef, undef, undef, undef, undef, undef, undef], defers := [] } u := by
      intro u  hPX
      have PX : Hid (Pq w u b (kk + 1) q a len cap zs (.slice a0 n0 c0) (.slice a1 n1 c1) (.slice a2 n2 c2) (.slice a3 n3 c3) P) := hPX
      clear hPX
      rw [HG.out]
      refine hz_ready (rs := [3, 7, 10, 13]) (by kernel_rfl) (by simp) ?_
      refine hz_cons (hz_next rfl (fun K hK => ?_)) (hz_cons (hz_next rfl (fun K hK => ?_)) (hz_cons (hz_next rfl (fun K hK => ?_)) (hz_cons (hz_next rfl (fun K hK => ?_)) hz_nil)))
      · skip
        refine hz_enter 18 #[.pointer (some ⟨b, 0, none⟩), .int .i64 3] (by rfl) (fun w => by kernel_rfl) (next_any PX.out.src (by have := HK.out; have := HKK.out; omega) _) ?_
        rintro e u' ⟨f, rfl, -, -, t, s'⟩
        refine ⟨_, rfl, ?_⟩
        have NP : Hid (Pq w u' b (kk + 1 + 1) q a len cap zs (.slice a0 n0 c0) (.slice a1 n1 c1) (.slice a2 n2 c2) (.slice a3 n3 c3) P) := PX.out.next hb t s'
        refine hK.out _ _ (fun _ => NP.out.var.cell (i := 1) rfl) ?_
        clear hK K
        have NX := st1000 u' f NP.out
        rw [HG.out] at NX
        exact NX
      · skip
        refine hz_value (w' := (u.alloc (.cells #[.int .i64 0, .int .i64 23, .int .i64 24] 2))) (.slice (some ⟨u.heap.size, 0, none⟩) 3 3) (by rfl) (by kernel_rfl) ?_
        have NP : Hid (Pq w (u.alloc (.cells #[.int .i64 0, .int .i64 23, .int .i64 24] 2)) b (kk + 1) q a len cap zs (.slice a0 n0 c0) (.slice a1 n1 c1) (.slice a2 n2 c2) (.slice a3 n3 c3) P) := PX.out.alloc hb _
        have NF : Hid (Ld (u.alloc (.cells #[.int .i64 0, .int .i64 23, .int .i64 24] 2)) b u.heap.size 3) := ⟨by have := PX.out.src.here; omega, by simp, laid_at u [0, 23, 24]⟩
        refine hK.out _ _ (fun _ => NP.out.var.cell (i := 1) rfl) ?_
        clear hK K
        have NX := st0100 (u.alloc (.cells #[.int .i64 0, .int .i64 23, .int .i64 24] 2)) u.heap.size NP.out NF.out
        rw [HG.out] at NX
        exact NX
      · skip
        refine hz_value (w' := (u.alloc (.cells #[.int .i64 5, .int .i64 4] 2))) (.slice (some ⟨u.heap.size, 0, none⟩) 2 2) (by rfl) (by kernel_rfl) ?_
        have NP : Hid (Pq w (u.alloc (.cells #[.int .i64 5, .int .i64 4] 2)) b (kk + 1) q a len cap zs (.slice a0 n0 c0) (.slice a1 n1 c1) (.slice a2 n2 c2) (.slice a3 n3 c3) P) := PX.out.alloc hb _
        have NF : Hid (Ld (u.alloc (.cells #[.int .i64 5, .int .i64 4] 2)) b u.heap.size 2) := ⟨by have := PX.out.src.here; omega, by simp, laid_at u [5, 4]⟩
        refine hK.out _ _ (fun _ => NP.out.var.cell (i := 1) rfl) ?_
        clear hK K
        have NX := st0010 (u.alloc (.cells #[.int .i64 5, .int .i64 4] 2)) u.heap.size NP.out NF.out
        rw [HG.out] at NX
        exact NX
      · skip
        refine hz_value (w' := (u.alloc (.cells #[.int .i64 6, .int .i64 7, .int .i64 5] 2))) (.slice (some ⟨u.heap.size, 0, none⟩) 3 3) (by rfl) (by kernel_rfl) ?_
        have NP : Hid (Pq w (u.alloc (.cells #[.int .i64 6, .int .i64 7, .int .i64 5] 2)) b (kk + 1) q a len cap zs (.slice a0 n0 c0) (.slice a1 n1 c1) (.slice a2 n2 c2) (.slice a3 n3 c3) P) := PX.out.alloc hb _
        have NF : Hid (Ld (u.alloc (.cells #[.int .i64 6, .int .i64 7, .int .i64 5] 2)) b u.heap.size 3) := ⟨by have := PX.out.src.here; omega, by simp, laid_at u [6, 7, 5]⟩
        refine hK.out _ _ (fun _ => NP.out.var.cell (i := 1) rfl) ?_
        clear hK K
        have NX := st0001 (u.alloc (.cells #[.int .i64 6, .int .i64 7, .int .i64 5] 2)) u.heap.size NP.out NF.out
        rw [HG.out] at NX
        exact NX
    exact st0000 u0 PD.out -- whole
  by_cases e4 : v = 4
  · subst e4
    have PD : Hid (Pq w w2.drew b (kk + 1) q a len cap zs (.slice a0 n0 c0) (.slice a1 n1 c1) (.slice a2 n2 c2) (.slice a3 n3 c3) P) := P2.out.below hb (Below.refl _ _).drew
    have p2 := P2.out.var.cell (i := 2) rfl
    have HO : Hid (P.bells.length ≤ 10) := HF.out.bells
    go_wp2_with fail
    go_region_law (first
      | (refine step_two 26 85 Tryz.underlying26 info_bell rfl (.tmp 56) (.tmp 63) rfl w.heap.size (.slice a2 n2 c2) P.bells (by simp [Act.eval]) (PY.out.alloc hb _).dv.bells x2.heap.size f1 f2 0 1 (by simp [Act.eval]) (cell_new rfl) (cell_new rfl) (cell_new rfl) (cell_new rfl) (by have := HO.out; omega) (by have := PY.out.turn.size; simp; omega) ?_; intro v' w' hN' hG'; obtain ⟨va, vc, hv', _, _, _⟩ := hN'.out.shape; generalize hvn : List.length _ = vn at hv'; clear hvn; subst hv'; obtain ⟨bk, pe⟩ := (PY.out.alloc hb _).belled hb hN'.out hG'; have PE : Hid (Pq w (w'.setCell ⟨q, 2, none⟩ (.slice va vn vc)) b (kk + 1 + 1 + 1) q a len cap zs (.slice a0 n0 c0) (.slice a1 n1 c1) (.slice va vn vc) (.slice a3 n3 c3) _) := pe; have q2' := bk.cell (i := 2) rfl; have f2' := bk.free 2; clear hN' hG' bk pe)
      | (go_simp; go_wp2_with (first
          | (go_at_call 18; refine (next_any PX.out.src (by have := HK.out; have := HKK.out; omega) _).mono ?_; rintro e x2 ⟨f2, rfl, -, -, t2, s2⟩; have PY : Hid (Pq w x2 b (kk + 1 + 1 + 1) q a len cap zs (.slice a0 n0 c0) (.slice a1 n1 c1) (.slice a2 n2 c2) (.slice a3 n3 c3) P) := PX.out.next hb t2 s2; have p2y := PY.out.var.cell (i := 2) rfl; have p2a : ∀ o, (x2.alloc o).cell? ⟨q, 2, none⟩ = some (.slice a2 n2 c2) := (fun o => (PY.out.alloc hb o).var.cell (i := 2) rfl); clear t2 s2)
          | (go_at_call 18; refine (next_any PD.out.src (by have := HK.out; have := HKK.out; omega) _).mono ?_; rintro e x1 ⟨f1, rfl, -, -, t1, s1⟩; have PX : Hid (Pq w x1 b (kk + 1 + 1) q a len cap zs (.slice a0 n0 c0) (.slice a1 n1 c1) (.slice a2 n2 c2) (.slice a3 n3 c3) P) := PD.out.next hb t1 s1; have p2x := PX.out.var.cell (i := 2) rfl; clear t1 s1))))
    all_goals (
      clear p2 p2x p2y p2a
      have q0 := PE.out.var.cell (i := 0) rfl
      have q1 := PE.out.var.cell (i := 1) rfl
      have q2 := PE.out.var.cell (i := 2) rfl
      have q3 := PE.out.var.cell (i := 3) rfl
      have r0 := PE.out.res.cell (i := 0) rfl
      have r1 := PE.out.res.cell (i := 1) rfl
      have r2 := PE.out.res.cell (i := 2) rfl
      have r3 := PE.out.res.cell (i := 3) rfl
      have y0 := PE.out.res.free 0
      have y1 := PE.out.res.free 1
      have y2 := PE.out.res.free 2
      have y3 := PE.out.res.free 3
      go_wp2_with fail
      obtain ⟨d, t, s, bk⟩ := PE.out.done hb
      have z0 := bk.cell (i := 0) rfl
      have z1 := bk.cell (i := 1) rfl
      have z2 := bk.cell (i := 2) rfl
      have z3 := bk.cell (i := 3) rfl
      exact bodyPost_ret (v := .agg #[.slice a0 n0 c0, .slice a1 n1 c1, .slice va vn vc, .slice a3 n3 c3]) (by simp [results, Tryz.results16, go_sem, z0, z1, z2, z3]) rfl ⟨_, _, _, _, _, _, rfl, d, FO.out, by have := HKK.out; omega, t, s⟩)
    -- whole
  by_cases e5 : v = 5
  · subst e5
    have hn : 0 < n3 := by have := HF.out.plan; have := HL.out; omega
    obtain ⟨ax, cx, hs, _, _, hg⟩ := P2.out.dv.plan.shape
    obtain ⟨g, hga⟩ := hg (by have := HF.out.plan; omega)
    subst hga
    simp only [Value.slice.injEq] at hs
    obtain ⟨rfl, -, rfl⟩ := hs
    have hb2 : b < w2.heap.size := P2.out.src.here
    have p3 := P2.out.var.cell (i := 3) rfl
    have pa : ∀ o, (w2.alloc o).cell? ⟨q, 3, none⟩ = some (.slice (some ⟨g, 0, none⟩) n3 c3) := fun o => (P2.out.alloc hb o).var.cell (i := 3) rfl
    have pb : ∀ o o', ((w2.alloc o).alloc o').cell? ⟨q, 3, none⟩ = some (.slice (some ⟨g, 0, none⟩) n3 c3) := fun o o' => ((P2.out.alloc hb o).alloc hb o').var.cell (i := 3) rfl
    have A1 : Hid (∀ i, i < 3 → ∃ v : Int, (w2.alloc (.cells #[.int .i64 0, .int .i64 (-1), .int .i64 3] 2)).drew.cell? ⟨w2.heap.size, i, none⟩ = some (.int .i64 v) ∧ True) := laid_at w2 [0, -1, 3]
    have AD : Hid (∀ i, i < 3 → ∃ v : Int, ((w2.alloc (.cells #[.int .i64 0, .int .i64 (-1), .int .i64 3] 2)).alloc (.cells #[.int .i64 0, .int .i64 1, .int .i64 50, .int .i64 51] 2)).drew.cell? ⟨w2.heap.size, i, none⟩ = some (.int .i64 v) ∧ True) := laid_under w2 [0, -1, 3] _
    have DA : Hid (∀ i, i < 3 → ∃ v : Int, ((w2.alloc (.cells #[.int .i64 0, .int .i64 1, .int .i64 50, .int .i64 51] 2)).alloc (.cells #[.int .i64 0, .int .i64 (-1), .int .i64 3] 2)).drew.cell? ⟨w2.heap.size + 1, i, none⟩ = some (.int .i64 v) ∧ True) := laid_over w2 [0, -1, 3] _
    have AD' : Hid (∀ i, i < 4 → ∃ v : Int, ((w2.alloc (.cells #[.int .i64 0, .int .i64 (-1), .int .i64 3] 2)).alloc (.cells #[.int .i64 0, .int .i64 1, .int .i64 50, .int .i64 51] 2)).drew.cell? ⟨w2.heap.size + 1, i, none⟩ = some (.int .i64 v) ∧ True) := laid_over w2 [0, 1, 50, 51] _
    have DA' : Hid (∀ i, i < 4 → ∃ v : Int, ((w2.alloc (.cells #[.int .i64 0, .int .i64 1, .int .i64 50, .int .i64 51] 2)).alloc (.cells #[.int .i64 0, .int .i64 (-1), .int .i64 3] 2)).drew.cell? ⟨w2.heap.size, i, none⟩ = some (.int .i64 v) ∧ True) := laid_under w2 [0, 1, 50, 51] _
    have HN3 : Hid (n3 = P.plan.length ∧ 0 < n3) := ⟨HL.out.2.2.2.symm, hn⟩
    go_wp2_with fail
    go_region_law (go_simp; go_wp2_with (first
      | (go_at_call 40; refine (pick_any PX.out.src (by have := HK.out; have := HKK.out; omega) (fun _ => True) _ 4 (by omega) (by omega) (by obtain ⟨v, h, _⟩ := DX.out 0 (by omega); exact block_of_cell h) (by omega) DX.out).mono ?_; rintro e x2 ⟨y, rfl, -, t2, s2⟩; have PY : Hid (Pq w x2 b (kk + 1 + 1 + 1) q a len cap zs (.slice a0 n0 c0) (.slice a1 n1 c1) (.slice a2 n2 c2) (.slice (some ⟨g, 0, none⟩) n3 c3) P) := PX.out.next hb t2 s2; have p3y := PY.out.var.cell (i := 3) rfl; have k0 := (PY.out.dv.plan.cell HN3.out.1 0 HN3.out.2).1; have k1 := (PY.out.dv.plan.cell HN3.out.1 0 HN3.out.2).2; have l0 := PY.out.dv.plan.free HN3.out.1 0; have l1 := PY.out.dv.plan.free HN3.out.1 1; clear t2 s2)
      | (go_at_call 40; refine (pickl PX.out.src (by have := HK.out; have := HKK.out; omega) [0, 1, 50, 51] 4 rfl (by omega) (by omega)).mono ?_; rintro e x2 ⟨y, rfl, t2, s2⟩; have PY : Hid (Pq w x2 b (kk + 1 + 1 + 1) q a len cap zs (.slice a0 n0 c0) (.slice a1 n1 c1) (.slice a2 n2 c2) (.slice (some ⟨g, 0, none⟩) n3 c3) P) := PX.out.next hb t2 s2; have p3y := PY.out.var.cell (i := 3) rfl; have k0 := (PY.out.dv.plan.cell HN3.out.1 0 HN3.out.2).1; have k1 := (PY.out.dv.plan.cell HN3.out.1 0 HN3.out.2).2; have l0 := PY.out.dv.plan.free HN3.out.1 0; have l1 := PY.out.dv.plan.free HN3.out.1 1; clear t2 s2)
      | (go_at_call 40; refine (pick_any (by first | exact (P2.out.alloc hb _).src.drewed | exact ((P2.out.alloc hb _).alloc hb _).src.drewed) (by have := HK.out; have := HKK.out; omega) (fun _ => True) _ 3 (by omega) (by omega) (by simp <;> omega) (by omega) (by first | exact A1.out | exact AD.out | exact DA.out)).mono ?_; rintro e x1 ⟨x, rfl, -, t1, s1⟩; have PX : Hid (Pq w x1 b (kk + 1 + 1) q a len cap zs (.slice a0 n0 c0) (.slice a1 n1 c1) (.slice a2 n2 c2) (.slice (some ⟨g, 0, none⟩) n3 c3) P) := P2.out.next hb (by first | exact (Turn.of_below (al (Below.refl _ _) _).drew).trans t1 | exact (Turn.of_below (al (al (Below.refl _ _) _) _).drew).trans t1) s1; have p3x := PX.out.var.cell (i := 3) rfl; have p3z : ∀ o, (x1.alloc o).cell? ⟨q, 3, none⟩ = some (.slice (some ⟨g, 0, none⟩) n3 c3) := (fun o => (PX.out.alloc hb o).var.cell (i := 3) rfl); (first | have DX : Hid (∀ i, i < 4 → ∃ v : Int, x1.cell? ⟨w2.heap.size + 1, i, none⟩ = some (.int .i64 v) ∧ True) := laid_turn AD'.out t1 (by omega) | have DX : Hid (∀ i, i < 4 → ∃ v : Int, x1.cell? ⟨w2.heap.size, i, none⟩ = some (.int .i64 v) ∧ True) := laid_turn DA'.out t1 (by omega) | skip); clear t1 s1)))
    all_goals (
      have PE : Hid (Pq w ((x2.setCell ⟨g, 0, none⟩ (.int .i64 x)).setCell ⟨g, 1, none⟩ (.int .i64 y)) b (kk + 1 + 1 + 1) q a len cap zs (.slice a0 n0 c0) (.slice a1 n1 c1) (.slice a2 n2 c2) (.slice (some ⟨g, 0, none⟩) n3 c3) _) := PY.out.slot0 hb HN3.out.1 HN3.out.2 x y
      clear p3 pa pb p3x p3y p3z
      have q0 := PE.out.var.cell (i := 0) rfl
      have q1 := PE.out.var.cell (i := 1) rfl
      have q2 := PE.out.var.cell (i := 2) rfl
      have q3 := PE.out.var.cell (i := 3) rfl
      have r0 := PE.out.res.cell (i := 0) rfl
      have r1 := PE.out.res.cell (i := 1) rfl
      have r2 := PE.out.res.cell (i := 2) rfl
      have r3 := PE.out.res.cell (i := 3) rfl
      have y0 := PE.out.res.free 0
      have y1 := PE.out.res.free 1
      have y2 := PE.out.res.free 2
      have y3 := PE.out.res.free 3
      go_wp2_with fail
      obtain ⟨d, t, s, bk⟩ := PE.out.done hb
      have z0 := bk.cell (i := 0) rfl
      have z1 := bk.cell (i := 1) rfl
      have z2 := bk.cell (i := 2) rfl
      have z3 := bk.cell (i := 3) rfl
      exact bodyPost_ret (v := .agg #[.slice a0 n0 c0, .slice a1 n1 c1, .slice a2 n2 c2, .slice (some ⟨g, 0, none⟩) n3 c3]) (by simp [results, Tryz.results16, go_sem, z0, z1, z2, z3]) rfl ⟨_, _, _, _, _, _, rfl, d, FO.out, by have := HKK.out; omega, t, s⟩)
    -- whole
  by_cases e6 : v = 6
  · subst e6
    obtain ⟨i, hi, hz0, hz1, hz2⟩ := info_parts info_slot
    go_wp2_with (at_make; refine wpList_make_full _ rfl _ _ 27 rfl w.heap.size 87 i _ 2 Tryz.underlying27 hi hz0 hz1 _ _ _ _ 9 rfl rfl rfl rfl (by rw [hz2]; omega) (by unfold maxLen; omega) P2.out.turn.size ?_; intro w4 hown hgrow; have N4 : Prs 87 w4 w.heap.size (.slice (some ⟨w2.heap.size, 0, none⟩) 9 9) (List.replicate 9 (0, 0)) := (by show w4.ownsRow _ _ _ _ _ _; rw [show (Value.agg #[.int .i64 0, .int .i64 0]).cells = #[.int .i64 0, .int .i64 0] from rfl, made_slots] at hown; rw [flat_replicate, List.length_replicate]; exact hown); have B4 : Below w2.heap.size w2 w4 := (Below.refl _ _).grown hgrow (Nat.le_refl _) (by simp); have P4 := P2.out.below hb B4; have PE : Hid (Pq w (w4.setCell ⟨q, 3, none⟩ (.slice (some ⟨w2.heap.size, 0, none⟩) 9 9)) b (kk + 1) q a len cap zs (.slice a0 n0 c0) (.slice a1 n1 c1) (.slice a2 n2 c2) (.slice (some ⟨w2.heap.size, 0, none⟩) 9 9) ⟨P.own, P.lanes, P.bells, List.replicate 9 (0, 0)⟩) := P4.set hb ⟨P4.dv.own, P4.dv.lanes, P4.dv.bells, N4⟩ rfl; have p0 := P4.var.cell (i := 3) rfl; have f0 := P4.var.free 3; clear hown hgrow B4 P4 hi hz0 hz1 hz2; have q0 := PE.out.var.cell (i := 0) rfl; have q1 := PE.out.var.cell (i := 1) rfl; have q2 := PE.out.var.cell (i := 2) rfl; have q3 := PE.out.var.cell (i := 3) rfl; have r0 := PE.out.res.cell (i := 0) rfl; have r1 := PE.out.res.cell (i := 1) rfl; have r2 := PE.out.res.cell (i := 2) rfl; have r3 := PE.out.res.cell (i := 3) rfl; have y0 := PE.out.res.free 0; have y1 := PE.out.res.free 1; have y2 := PE.out.res.free 2; have y3 := PE.out.res.free 3)
    obtain ⟨d, t, s, bk⟩ := PE.out.done hb
    have z0 := bk.cell (i := 0) rfl
    have z1 := bk.cell (i := 1) rfl
    have z2 := bk.cell (i := 2) rfl
    have z3 := bk.cell (i := 3) rfl
    exact bodyPost_ret (v := .agg #[.slice a0 n0 c0, .slice a1 n1 c1, .slice a2 n2 c2, .slice (some ⟨w2.heap.size, 0, none⟩) 9 9]) (by simp [results, Tryz.results16, go_sem, z0, z1, z2, z3]) rfl ⟨_, _, _, _, _, _, rfl, d, FO.out, by have := HKK.out; omega, t, s⟩ -- whole
  by_cases e7 : v = 7
  · subst e7
    obtain ⟨g, x1, x2, rfl, hc, hf, hN⟩ := P2.out.dv.own.first (by have := HF.out.own; omega)
    have p0 := P2.out.var.cell (i := 0) rfl
    have hn : 0 < n0 := by have := HF.out.own; have := HL.out; omega
    obtain ⟨oss, pe, ol⟩ := P2.out.nil0 hb
    replace FO : Hid (Fo oss) := FO.out.le ol
    clear ol
    have PE : Hid (Pq w (w2.setCell ⟨g, 0, none⟩ (.slice none 0 0)) b (kk + 1) q a len cap zs (.slice (some ⟨g, 0, none⟩) n0 c0) (.slice a1 n1 c1) (.slice a2 n2 c2) (.slice a3 n3 c3) ⟨oss, P.lanes, P.bells, P.plan⟩) := pe
    clear pe hN
    have q0 := PE.out.var.cell (i := 0) rfl
    have q1 := PE.out.var.cell (i := 1) rfl
    have q2 := PE.out.var.cell (i := 2) rfl
    have q3 := PE.out.var.cell (i := 3) rfl
    have r0 := PE.out.res.cell (i := 0) rfl
    have r1 := PE.out.res.cell (i := 1) rfl
    have r2 := PE.out.res.cell (i := 2) rfl
    have r3 := PE.out.res.cell (i := 3) rfl
    have y0 := PE.out.res.free 0
    have y1 := PE.out.res.free 1
    have y2 := PE.out.res.free 2
    have y3 := PE.out.res.free 3
    clear HF
    go_wp2_with fail
    obtain ⟨d, t, s, bk⟩ := PE.out.done hb
    have z0 := bk.cell (i := 0) rfl
    have z1 := bk.cell (i := 1) rfl
    have z2 := bk.cell (i := 2) rfl
    have z3 := bk.cell (i := 3) rfl
    exact bodyPost_ret (v := .agg #[.slice (some ⟨g, 0, none⟩) n0 c0, .slice a1 n1 c1, .slice a2 n2 c2, .slice a3 n3 c3]) (by simp [results, Tryz.results16, go_sem, z0, z1, z2, z3]) rfl ⟨_, _, _, _, _, _, rfl, d, FO.out, by have := HKK.out; omega, t, s⟩
  by_cases e8 : v = 8
  · subst e8
    obtain ⟨i, hi, hz0, hz1, hz2⟩ := info_parts info_lane
    go_wp2_with (at_make; refine wpList_make_full _ rfl _ _ 25 rfl w.heap.size 83 i _ 5 Tryz.underlying25 hi hz0 hz1 _ _ _ _ 5 rfl rfl rfl rfl (by rw [hz2]; omega) (by unfold maxLen; omega) P2.out.turn.size ?_; intro w4 hown hgrow; have N4 : Ls 83 w4 w.heap.size (.slice (some ⟨w2.heap.size, 0, none⟩) 5 5) (List.replicate 5 lz) := (by show w4.ownsRow _ _ _ _ _ _; rw [show lz.val.cells = #[.int .i64 0, .int .i64 0, .int .i64 0, .int .i64 0, .int .i64 0] from rfl, made_lanes] at hown; rw [flat5_replicate, List.length_replicate]; exact hown); have B4 : Below w2.heap.size w2 w4 := (Below.refl _ _).grown hgrow (Nat.le_refl _) (by simp); have P4 := P2.out.below hb B4; have PE : Hid (Pq w (w4.setCell ⟨q, 1, none⟩ (.slice (some ⟨w2.heap.size, 0, none⟩) 5 5)) b (kk + 1) q a len cap zs (.slice a0 n0 c0) (.slice (some ⟨w2.heap.size, 0, none⟩) 5 5) (.slice a2 n2 c2) (.slice a3 n3 c3) ⟨P.own, List.replicate 5 lz, P.bells, P.plan⟩) := P4.set hb ⟨P4.dv.own, N4, P4.dv.bells, P4.dv.plan⟩ rfl; have p0 := P4.var.cell (i := 1) rfl; have f0 := P4.var.free 1; clear hown hgrow B4 P4 hi hz0 hz1 hz2; have q0 := PE.out.var.cell (i := 0) rfl; have q1 := PE.out.var.cell (i := 1) rfl; have q2 := PE.out.var.cell (i := 2) rfl; have q3 := PE.out.var.cell (i := 3) rfl; have r0 := PE.out.res.cell (i := 0) rfl; have r1 := PE.out.res.cell (i := 1) rfl; have r2 := PE.out.res.cell (i := 2) rfl; have r3 := PE.out.res.cell (i := 3) rfl; have y0 := PE.out.res.free 0; have y1 := PE.out.res.free 1; have y2 := PE.out.res.free 2; have y3 := PE.out.res.free 3)
    obtain ⟨d, t, s, bk⟩ := PE.out.done hb
    have z0 := bk.cell (i := 0) rfl
    have z1 := bk.cell (i := 1) rfl
    have z2 := bk.cell (i := 2) rfl
    have z3 := bk.cell (i := 3) rfl
    exact bodyPost_ret (v := .agg #[.slice a0 n0 c0, .slice (some ⟨w2.heap.size, 0, none⟩) 5 5, .slice a2 n2 c2, .slice a3 n3 c3]) (by simp [results, Tryz.results16, go_sem, z0, z1, z2, z3]) rfl ⟨_, _, _, _, _, _, rfl, d, FO.out, by have := HKK.out; omega, t, s⟩ -- whole
  have g0 : (v == 0) = false := beq_eq_false_iff_ne.2 e0
  have g1 : (v == 1) = false := beq_eq_false_iff_ne.2 e1
  have g2 : (v == 2) = false := beq_eq_false_iff_ne.2 e2
  have g3 : (v == 3) = false := beq_eq_false_iff_ne.2 e3
  have g4 : (v == 4) = false := beq_eq_false_iff_ne.2 e4
  have g5 : (v == 5) = false := beq_eq_false_iff_ne.2 e5
  have g6 : (v == 6) = false := beq_eq_false_iff_ne.2 e6
  have g7 : (v == 7) = false := beq_eq_false_iff_ne.2 e7
  have g8 : (v == 8) = false := beq_eq_false_iff_ne.2 e8
  have PE : Hid (Pq w w2 b (kk + 1) q a len cap zs (.slice a0 n0 c0) (.slice a1 n1 c1) (.slice a2 n2 c2) (.slice a3 n3 c3) P) := P2.out
  have q0 := PE.out.var.cell (i := 0) rfl
  have q1 := PE.out.var.cell (i := 1) rfl
  have q2 := PE.out.var.cell (i := 2) rfl
  have q3 := PE.out.var.cell (i := 3) rfl
  have r0 := PE.out.res.cell (i := 0) rfl
  have r1 := PE.out.res.cell (i := 1) rfl
  have r2 := PE.out.res.cell (i := 2) rfl
  have r3 := PE.out.res.cell (i := 3) rfl
  have y0 := PE.out.res.free 0
  have y1 := PE.out.res.free 1
  have y2 := PE.out.res.free 2
  have y3 := PE.out.res.free 3
  clear HF
  go_wp2_with fail
  obtain ⟨d, t, s, bk⟩ := PE.out.done hb
  have z0 := bk.cell (i := 0) rfl
  have z1 := bk.cell (i := 1) rfl
  have z2 := bk.cell (i := 2) rfl
  have z3 := bk.cell (i := 3) rfl
  exact bodyPost_ret (v := .agg #[.slice a0 n0 c0, .slice a1 n1 c1, .slice a2 n2 c2, .slice a3 n3 c3]) (by simp [results, Tryz.results16, go_sem, z0, z1, z2, z3]) rfl ⟨_, _, _, _, _, _, rfl, d, FO.out, by have := HKK.out; omega, t, s⟩
end Go.Proofs.YtdhdfopkcpkbeaaGreatDoor
