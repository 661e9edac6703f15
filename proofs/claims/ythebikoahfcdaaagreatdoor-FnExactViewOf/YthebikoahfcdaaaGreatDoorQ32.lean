/- Texts of this seat, joined. -/
import Derived.Deep.RegionHeld3
import Derived.Test.YthebikoahfcdaaaGreatDoorQ20
import Derived.Test.YthebikoahfcdaaaGreatDoorQ27
import Derived.Test.YthebikoahfcdaaaGreatDoorQ31
namespace Go.Proofs.YthebikoahfcdaaaGreatDoor
open Go.RowKit
set_option linter.unusedVariables false

def SvN (n : Nat) (W : World) (q : Nat) (w' : World) : Prop := Mq (fun k => k = q) W w' ∧ w'.there q 0 n
theorem SvN.step {n : Nat} {W w w' : World} {q : Nat} (h : SvN n W q w) (hq : q < W.heap.size) (b : Below w.heap.size w w') : SvN n W q w' :=
  ⟨h.1.trans (Mq.of (below_grown b none) fun k e => by cases e), there_below h.2 (Nat.lt_of_lt_of_le hq h.1.size) b⟩
theorem SvN.set {n : Nat} {W w : World} {q : Nat} (h : SvN n W q w) (vs : List Value) : SvN n W q (w.setCells q 0 vs) := ⟨h.1.trans (mq_cells q vs w 0), World.there_setCells h.2 _ _ _⟩
end Go.Proofs.YthebikoahfcdaaaGreatDoor
namespace Go.Proofs.YthebikoahfcdaaaGreatDoor
open Go.RowKit
set_option linter.unusedVariables false

set_option maxRecDepth 20000 in
set_option maxHeartbeats 4000000 in
theorem eq_harts (u v : Value) (hs : List Ht) (b b' : Nat) (w : World) (h : Hl w b u hs) (k : Hl w b' v hs) :
    Calls Tryz.prog 30 #[u, v] w fun e w' => e = .returned (.bool true) ∧ Below w.heap.size w w' := by
  obtain ⟨a1, q1, hu, _, l1, g1⟩ := h.shape
  obtain ⟨a2, q2, hv, _, l2, g2⟩ := k.shape
  subst hu hv
  obtain ⟨n, hn⟩ : ∃ n, hs.length = n := ⟨_, rfl⟩
  rw [hn] at h k g1 g2 ⊢
  have HH : Hid (Hl w b (.slice a1 n q1) hs) := h
  have HK : Hid (Hl w b' (.slice a2 n q2) hs) := k
  have HN : Hid (hs.length = n) := hn
  have G1 : Hid (0 < n → ∃ g, a1 = some ⟨g, 0, none⟩) := g1
  have G2 : Hid (0 < n → ∃ g, a2 = some ⟨g, 0, none⟩) := g2
  have hmax : (n : Int) ≤ 9223372036854775807 := by have hc := h.shape; obtain ⟨_, _, _, h1, h2, _⟩ := hc; rw [hn] at h1; unfold maxLen at h2; omega
  clear h k hn g1 g2 l1 l2
  go_enter Tryz.func30, Tryz.ntmps30
  go_wp2_with fail
  go_loopw [5] (fun c wr => ∃ j : Nat, j ≤ n ∧ c = .int .i64 j ∧ Below w.heap.size w wr) (fun c _ => n - (intOf c).toNat)
  case atStart => exact ⟨0, Nat.zero_le _, rfl, Below.refl _ _⟩
  case round =>
    obtain ⟨j, hj, rfl, hB⟩ := hrel
    have HB : Hid (Below w.heap.size w wr) := hB
    by_cases hlt : j < n
    · obtain ⟨x1, e1⟩ := G1.out (by omega)
      obtain ⟨x2, e2⟩ := G2.out (by omega)
      subst e1 e2
      obtain ⟨r, c, i, o, y1, y2, _⟩ := (HH.out.keep hB).at j (by rw [HN.out]; exact hlt)
      obtain ⟨r', c', i', o', z1, z2, _⟩ := (HK.out.keep hB).at j (by rw [HN.out]; exact hlt)
      obtain ⟨H, hH⟩ : ∃ H, hs.getD j voidH = H := ⟨_, rfl⟩
      rw [hH] at y1 y2 z1 z2
      obtain ⟨xr, lr, rfl, _⟩ := y2.r.shape
      obtain ⟨xc, lc, rfl, _⟩ := y2.c.shape
      obtain ⟨xi, li, rfl, _⟩ := y2.i.shape
      obtain ⟨xo, lo, rfl, _⟩ := y2.o.shape
      obtain ⟨zr, qr, rfl, _⟩ := z2.r.shape
      obtain ⟨zc, qc, rfl, _⟩ := z2.c.shape
      obtain ⟨zi, qi, rfl, _⟩ := z2.i.shape
      obtain ⟨zo, qo, rfl, _⟩ := z2.o.shape
      have Y2 : Hid (Hm wr b _ _ _ _ H) := y2
      have Z2 : Hid (Hm wr b' _ _ _ _ H) := z2
      generalize H.regs.length = m0 at *
      generalize H.csr.length = m1 at *
      generalize H.inn.length = mi at *
      generalize H.out.length = mo at *
      have Y1 : Hid (Hc wr ⟨x1, j * 9, none⟩ _ _ _ _ H) := y1
      have Z1 : Hid (Hc wr ⟨x2, j * 9, none⟩ _ _ _ _ H) := z1
      have hI : (j : Int) < (n : Int) := by omega
      have HL : Hid (j < n) := hlt
      clear y1 y2 z1 z2 hB hH hlt
      go_wp2_with fail
      refine wp_region_held (S := fun w' => Below wr.heap.size wr w') (by kernel_rfl) ?_
      change wpAnyH _ _ _ _ _ _ _ _ (World.drew _)
      have SD : Hid (Below wr.heap.size wr wr.drew) := (Below.refl _ _).drew
      generalize wr.drew = x0 at *
      refine wpAnyH_take (i := 0) (v := .slice (some ⟨x1, 0, none⟩) n q1) rfl (by kernel_rfl) (by kernel_rfl) (by kernel_rfl) (fun _ _ _ h => h) (Or.inl ⟨by rfl, fun w' hs => by go_simp⟩) SD.out ?_
      change wpAnyH _ _ _ _ _ _ _ (Act.put _ (some 17) _) _
      simp only [Act.put, List.setIfInBounds_toArray, List.set_cons_zero, List.set_cons_succ]
      refine wpAnyH_take (i := 1) (v := .int .i64 (j : Int)) rfl (by kernel_rfl) (by kernel_rfl) (by kernel_rfl) (fun _ _ _ h => h) (Or.inl ⟨by rfl, fun w' hs => by go_simp⟩) SD.out ?_
      change wpAnyH _ _ _ _ _ _ _ (Act.put _ (some 18) _) _
      simp only [Act.put, List.setIfInBounds_toArray, List.set_cons_zero, List.set_cons_succ]
      refine wpAnyH_take (i := 2) (v := .pointer (some ⟨x1, j * 9, none⟩)) rfl (by kernel_rfl) (by kernel_rfl) (by kernel_rfl) (fun _ _ _ h => h) (Or.inl ⟨by rfl, fun w' hs => by go_simp⟩) SD.out ?_
      change wpAnyH _ _ _ _ _ _ _ (Act.put _ (some 19) _) _
      simp only [Act.put, List.setIfInBounds_toArray, List.set_cons_zero, List.set_cons_succ]
      refine wpAnyH_take (i := 3) (v := .agg #[.slice xr m0 lr, .int .i64 H.pc, .slice xc m1 lc, .bool H.halted, .bool H.waiting, .bool H.rung, .int .i64 H.done, .slice xi mi li, .slice xo mo lo]) rfl (by kernel_rfl) (by kernel_rfl) (by kernel_rfl) (fun _ _ _ h => h) (Or.inl ⟨by rfl, fun w' hs => by have hc := Y1.out.stay hs; have y0 := hc.c0; have y1 := hc.c1; have y2 := hc.c2; have y3 := hc.c3; have y4 := hc.c4; have y5 := hc.c5; have y6 := hc.c6; have y7 := hc.c7; have y8 := hc.c8; go_simp⟩) SD.out ?_
      change wpAnyH _ _ _ _ _ _ _ (Act.put _ (some 20) _) _
      simp only [Act.put, List.setIfInBounds_toArray, List.set_cons_zero, List.set_cons_succ]
      refine wpAnyH_take (i := 4) (v := .slice (some ⟨x2, 0, none⟩) n q2) rfl (by kernel_rfl) (by kernel_rfl) (by kernel_rfl) (fun _ _ _ h => h) (Or.inl ⟨by rfl, fun w' hs => by go_simp⟩) SD.out ?_
      change wpAnyH _ _ _ _ _ _ _ (Act.put _ (some 21) _) _
      simp only [Act.put, List.setIfInBounds_toArray, List.set_cons_zero, List.set_cons_succ]
      refine wpAnyH_take (i := 5) (v := .int .i64 (j : Int)) rfl (by kernel_rfl) (by kernel_rfl) (by kernel_rfl) (fun _ _ _ h => h) (Or.inl ⟨by rfl, fun w' hs => by go_simp⟩) SD.out ?_
      change wpAnyH _ _ _ _ _ _ _ (Act.put _ (some 22) _) _
      simp only [Act.put, List.setIfInBounds_toArray, List.set_cons_zero, List.set_cons_succ]
      refine wpAnyH_take (i := 6) (v := .pointer (some ⟨x2, j * 9, none⟩)) rfl (by kernel_rfl) (by kernel_rfl) (by kernel_rfl) (fun _ _ _ h => h) (Or.inl ⟨by rfl, fun w' hs => by go_simp⟩) SD.out ?_
      change wpAnyH _ _ _ _ _ _ _ (Act.put _ (some 23) _) _
      simp only [Act.put, List.setIfInBounds_toArray, List.set_cons_zero, List.set_cons_succ]
      refine wpAnyH_take (i := 7) (v := .agg #[.slice zr m0 qr, .int .i64 H.pc, .slice zc m1 qc, .bool H.halted, .bool H.waiting, .bool H.rung, .int .i64 H.done, .slice zi mi qi, .slice zo mo qo]) rfl (by kernel_rfl) (by kernel_rfl) (by kernel_rfl) (fun _ _ _ h => h) (Or.inl ⟨by rfl, fun w' hs => by have hc := Z1.out.stay hs; have y0 := hc.c0; have y1 := hc.c1; have y2 := hc.c2; have y3 := hc.c3; have y4 := hc.c4; have y5 := hc.c5; have y6 := hc.c6; have y7 := hc.c7; have y8 := hc.c8; go_simp⟩) SD.out ?_
      change wpAnyH _ _ _ _ _ _ _ (Act.put _ (some 24) _) _
      simp only [Act.put, List.setIfInBounds_toArray, List.set_cons_zero, List.set_cons_succ]
      refine wpAnyH_ready (rs := [8]) (by kernel_rfl) (by simp) ?_
      refine AllReadyH.cons rfl (fun K hK => ?_) AllReadyH.nil
      rw [if_pos (by rfl)]
      go_simp
      refine (eq_hart _ _ _ _ _ _ _ _ H b b' _ (Y2.out.keep SD.out) (Z2.out.keep SD.out)).mono ?_
      rintro e w2 ⟨rfl, b2⟩
      have S2 : Hid (Below wr.heap.size wr w2) := on SD.out b2
      clear b2
      refine hK.out _ _ S2.out (fun _ => ?_)
      clear hK K
      refine wpAnyH_take (i := 9) (v := .bool false) rfl (by kernel_rfl) (by kernel_rfl) (by kernel_rfl) (fun _ _ _ h => h) (Or.inl ⟨by rfl, fun w' hs => by go_simp⟩) S2.out ?_
      change wpAnyH _ _ _ _ _ _ _ (Act.put _ (some 26) _) _
      simp only [Act.put, List.setIfInBounds_toArray, List.set_cons_zero, List.set_cons_succ]
      refine wpAnyH_done (by kernel_rfl) ?_ _
      have B2 : Hid (Below w.heap.size w w2) := on HB.out S2.out
      clear SD S2 Y1 Y2 Z1 Z2
      go_wp2_with fail
      go_roundw
      case rel => exact ⟨j + 1, by have := HL.out; omega, by go_num, B2.out⟩
      case measure => have := HL.out; simp [intOf]; omega
    · have hJ : ¬ (j : Int) < (n : Int) := by omega
      clear hlt
      go_wp2_with fail
      go_ret
      exact ⟨rfl, hB⟩
end Go.Proofs.YthebikoahfcdaaaGreatDoor
namespace Go.Proofs.YthebikoahfcdaaaGreatDoor
open Go.RowKit
set_option linter.unusedVariables false

set_option maxRecDepth 20000 in
set_option maxHeartbeats 8000000 in
theorem i_viewOn (xa : Option Addr) (n2 xk : Nat) (ya : Option Addr) (n3 yk : Nat) (H : Ht) (b : Nat) (pg mc : Nat) (ms : List Int) (ao : Option Addr) (lo co : Nat) (ps : List Int) (ag : Option Addr) (lg cg : Nat) (gs : List Int) (w : World) (hi : Rv w (.slice xa n2 xk) H.inn) (ho : Rv w (.slice ya n3 yk) H.out) (hk : Hok H) (mp : Nat) (hpc : ∀ k, k < mp * 8 → w.cell? ⟨pg, k, none⟩ = some (.int .i64 (ms.getD k 0))) (h1 : 1 ≤ mp) (h24 : mp ≤ 24) (hms : ms.length = mp * 8) (hp : IsNs w ao lo co ps) (hpr : ∀ x ∈ ps, 0 ≤ x ∧ x < mp) (hpl : ps.length ≤ 5) (hg : IsNs w ag lg cg gs) (hgr : ∀ x ∈ gs, 0 ≤ x ∧ x < mp) (hgl : gs.length ≤ 5) :
    Calls Tryz.prog 62 #[.agg (mca H (.slice xa n2 xk) (.slice ya n3 yk)), .slice (some ⟨pg, 0, none⟩) mp mc, .slice ao lo co, .slice ag lg cg] w fun e w' => ∃ r' c' i' o' l m, e = .returned (.agg #[r', .int .i64 H.pc, c', .bool H.halted, .bool H.waiting, .bool H.rung, .int .i64 H.done, i', o', l, m]) ∧ Vm w' w.heap.size r' c' i' o' l m H (wordsL ms ps) (wordsL ms gs) ∧ Below w.heap.size w w' := by
  have KO : Hid (Hok H) := hk
  have HI : Hid (Rv w (.slice xa n2 xk) H.inn ∧ Rv w (.slice ya n3 yk) H.out) := ⟨hi, ho⟩
  have HP : Hid (IsNs w ao lo co ps ∧ IsNs w ag lg cg gs) := ⟨hp, hg⟩
  have PC : Hid (∀ k, k < mp * 8 → w.cell? ⟨pg, k, none⟩ = some (.int .i64 (ms.getD k 0))) := hpc
  have WO : Hid (∀ u, Below w.heap.size w u → Calls Tryz.prog 92 #[.slice (some ⟨pg, 0, none⟩) mp mc, .slice ao lo co] u fun e w' => ∃ v, e = .returned v ∧ Nums w' u.heap.size v (wordsL ms ps) ∧ Below u.heap.size u w') := fun u hu => i_among pg mc ms ao lo co ps u mp (fun k hk => cell_keep hu (PC.out k hk)) h1 h24 hms (HP.out.1.stay hu) hpr hpl
  have WG : Hid (∀ u, Below w.heap.size w u → Calls Tryz.prog 92 #[.slice (some ⟨pg, 0, none⟩) mp mc, .slice ag lg cg] u fun e w' => ∃ v, e = .returned v ∧ Nums w' u.heap.size v (wordsL ms gs) ∧ Below u.heap.size u w') := fun u hu => i_among pg mc ms ag lg cg gs u mp (fun k hk => cell_keep hu (PC.out k hk)) h1 h24 hms (HP.out.2.stay hu) hgr hgl
  clear hi ho hk hpc h1 h24 hms hp hpr hpl hg hgr hgl
  generalize hW : (w.alloc (.cells (mca H (.slice xa n2 xk) (.slice ya n3 yk)) 73)).alloc (.cells #[.slice none 0 0, .int .i64 0, .slice none 0 0, .bool false, .bool false, .bool false, .int .i64 0, .slice none 0 0, .slice none 0 0, .slice none 0 0, .slice none 0 0] 36) = W3
  have B3 : Hid (Below w.heap.size w W3) := by show Below _ _ _; rw [← hW]; exact al (al (Below.refl _ _) _) _
  obtain ⟨s, hS⟩ : ∃ s, w.heap.size = s := ⟨_, rfl⟩
  have HSs : Hid (w.heap.size = s) := hS
  have z1 : s + 1 = (w.alloc (.cells (mca H (.slice xa n2 xk) (.slice ya n3 yk)) 73)).heap.size := by rw [← hS]; simp
  have V3 : Hid (Vb W3 s (mca H (.slice xa n2 xk) (.slice ya n3 yk)) 73) := by show Vb _ _ _ _; rw [← hW, ← hS]; exact (Vb.new _ _ _).push _
  have R3 : Hid (Vb W3 (s + 1) #[.slice none 0 0, .int .i64 0, .slice none 0 0, .bool false, .bool false, .bool false, .int .i64 0, .slice none 0 0, .slice none 0 0, .slice none 0 0, .slice none 0 0] 36) := by show Vb _ _ _ _; rw [← hW, z1]; exact Vb.new _ _ _
  have hsz := mca_size H (.slice xa n2 xk) (.slice ya n3 yk)
  clear z1
  go_enter Tryz.func62, Tryz.ntmps62
  go_wp2_with fail
  clear hW hS hsz
  refine (i_hartr s _ _ H W3 V3.out (HI.out.1.stay B3.out) (HI.out.2.stay B3.out) KO.out.r16 KO.out.c11 (by have := KO.out.i40; omega) (by have := KO.out.o40; omega)).mono ?_
  rintro e w4 ⟨r4, c4, i4, o4, rfl, m4, ha4, b4⟩
  obtain ⟨xa0, xk0, x0e, _⟩ := m4.r.shape
  obtain ⟨xa1, xk1, x1e, _⟩ := m4.c.shape
  obtain ⟨xa2, xk2, x2e, _⟩ := m4.i.shape
  obtain ⟨xa3, xk3, x3e, _⟩ := m4.o.shape
  subst x0e x1e x2e x3e
  obtain ⟨x0, hx0⟩ : ∃ n, H.regs.length = n := ⟨_, rfl⟩
  obtain ⟨x1, hx1⟩ : ∃ n, H.csr.length = n := ⟨_, rfl⟩
  obtain ⟨x2, hx2⟩ : ∃ n, H.inn.length = n := ⟨_, rfl⟩
  obtain ⟨x3, hx3⟩ : ∃ n, H.out.length = n := ⟨_, rfl⟩
  rw [hx0, hx1, hx2, hx3] at m4 ha4 ⊢
  have M4 : Hid (Hm w4 W3.heap.size (.slice xa0 x0 xk0) (.slice xa1 x1 xk1) (.slice xa2 x2 xk2) (.slice xa3 x3 xk3) H) := m4
  have A4 : Hid (Ha (.slice xa0 x0 xk0) (.slice xa1 x1 xk1) (.slice xa2 x2 xk2) (.slice xa3 x3 xk3)) := ha4
  have B4 : Hid (Below w.heap.size w w4) := on B3.out b4
  have R4 : Hid (Vb w4 (s + 1) #[.slice none 0 0, .int .i64 0, .slice none 0 0, .bool false, .bool false, .bool false, .int .i64 0, .slice none 0 0, .slice none 0 0, .slice none 0 0, .slice none 0 0] 36) := R3.out.keep b4
  have L4 : Hid (s + 1 < W3.heap.size) := R3.out.lt
  clear m4 ha4 b4 hx0 hx1 hx2 hx3
  go_wp2_with fail
  refine (WO.out w4 B4.out).mono ?_
  rintro e w5 ⟨v5, rfl, n5, b5⟩
  obtain ⟨xa4, xk4, x4e, _⟩ := n5.shape
  obtain ⟨x4, hx4⟩ : ∃ n, (wordsL ms ps).length = n := ⟨_, rfl⟩
  rw [hx4] at x4e
  subst x4e
  have M5 : Hid (Hm w5 W3.heap.size (.slice xa0 x0 xk0) (.slice xa1 x1 xk1) (.slice xa2 x2 xk2) (.slice xa3 x3 xk3) H) := M4.out.keep b5
  have N5 : Hid (Nums w5 w4.heap.size (.slice xa4 x4 xk4) (wordsL ms ps)) := n5
  have AL : Hid (Apt (.slice xa0 x0 xk0) (.slice xa4 x4 xk4) ∧ Apt (.slice xa1 x1 xk1) (.slice xa4 x4 xk4) ∧ Apt (.slice xa2 x2 xk2) (.slice xa4 x4 xk4) ∧ Apt (.slice xa3 x3 xk3) (.slice xa4 x4 xk4)) := ⟨M4.out.r.apt n5 (Nat.le_refl _), M4.out.c.apt n5 (Nat.le_refl _), M4.out.i.apt n5 (Nat.le_refl _), M4.out.o.apt n5 (Nat.le_refl _)⟩
  have B5 : Hid (Below w.heap.size w w5) := on B4.out b5
  have R5 : Hid (Vb w5 (s + 1) #[.slice none 0 0, .int .i64 0, .slice none 0 0, .bool false, .bool false, .bool false, .int .i64 0, .slice none 0 0, .slice none 0 0, .slice none 0 0, .slice none 0 0] 36) := R4.out.keep b5
  clear n5 b5 hx4
  go_wp2_with fail
  refine (WG.out w5 B5.out).mono ?_
  rintro e w6 ⟨v6, rfl, n6, b6⟩
  obtain ⟨xa5, xk5, x5e, _⟩ := n6.shape
  obtain ⟨x5, hx5⟩ : ∃ n, (wordsL ms gs).length = n := ⟨_, rfl⟩
  rw [hx5] at x5e
  subst x5e
  have M6 : Hid (Hm w6 W3.heap.size (.slice xa0 x0 xk0) (.slice xa1 x1 xk1) (.slice xa2 x2 xk2) (.slice xa3 x3 xk3) H) := M5.out.keep b6
  have N6 : Hid (Nums w6 w4.heap.size (.slice xa4 x4 xk4) (wordsL ms ps) ∧ Nums w6 w5.heap.size (.slice xa5 x5 xk5) (wordsL ms gs)) := ⟨N5.out.keep b6, n6⟩
  have AM : Hid ((Apt (.slice xa0 x0 xk0) (.slice xa5 x5 xk5) ∧ Apt (.slice xa1 x1 xk1) (.slice xa5 x5 xk5) ∧ Apt (.slice xa2 x2 xk2) (.slice xa5 x5 xk5) ∧ Apt (.slice xa3 x3 xk3) (.slice xa5 x5 xk5)) ∧ Apt (.slice xa4 x4 xk4) (.slice xa5 x5 xk5)) := ⟨⟨M5.out.r.apt n6 (Nat.le_refl _), M5.out.c.apt n6 (Nat.le_refl _), M5.out.i.apt n6 (Nat.le_refl _), M5.out.o.apt n6 (Nat.le_refl _)⟩, N5.out.apt n6 (Nat.le_refl _)⟩
  have B6 : Hid (Below w.heap.size w w6) := on B5.out b6
  have R6 : Hid (Vb w6 (s + 1) #[.slice none 0 0, .int .i64 0, .slice none 0 0, .bool false, .bool false, .bool false, .int .i64 0, .slice none 0 0, .slice none 0 0, .slice none 0 0, .slice none 0 0] 36) := R5.out.keep b6
  have L6 : Hid (s + 1 < w4.heap.size ∧ s + 1 < w5.heap.size) := ⟨R4.out.lt, R5.out.lt⟩
  clear n6 b6 hx5
  have p0 := R6.out.cell 0 rfl
  have f0 := R6.out.free 0
  have p1 := R6.out.cell 1 rfl
  have f1 := R6.out.free 1
  have p2 := R6.out.cell 2 rfl
  have f2 := R6.out.free 2
  have p3 := R6.out.cell 3 rfl
  have f3 := R6.out.free 3
  have p4 := R6.out.cell 4 rfl
  have f4 := R6.out.free 4
  have p5 := R6.out.cell 5 rfl
  have f5 := R6.out.free 5
  have p6 := R6.out.cell 6 rfl
  have f6 := R6.out.free 6
  have p7 := R6.out.cell 7 rfl
  have f7 := R6.out.free 7
  have p8 := R6.out.cell 8 rfl
  have f8 := R6.out.free 8
  have p9 := R6.out.cell 9 rfl
  have f9 := R6.out.free 9
  have p10 := R6.out.cell 10 rfl
  have f10 := R6.out.free 10
  have NR : Hid (_ ∧ _) := elevenX R6.out (.slice xa0 x0 xk0) (.int .i64 H.pc) (.slice xa1 x1 xk1) (.bool H.halted) (.bool H.waiting) (.bool H.rung) (.int .i64 H.done) (.slice xa2 x2 xk2) (.slice xa3 x3 xk3) (.slice xa4 x4 xk4) (.slice xa5 x5 xk5)
  go_wp2_with fail
  clear p0 f0 p1 f1 p2 f2 p3 f3 p4 f4 p5 f5 p6 f6 p7 f7 p8 f8 p9 f9 p10 f10
  generalize (((((((((((w6.setCell ⟨s + 1, 0, none⟩ (.slice xa0 x0 xk0)).setCell ⟨s + 1, 1, none⟩ (.int .i64 H.pc)).setCell ⟨s + 1, 2, none⟩ (.slice xa1 x1 xk1)).setCell ⟨s + 1, 3, none⟩ (.bool H.halted)).setCell ⟨s + 1, 4, none⟩ (.bool H.waiting)).setCell ⟨s + 1, 5, none⟩ (.bool H.rung)).setCell ⟨s + 1, 6, none⟩ (.int .i64 H.done)).setCell ⟨s + 1, 7, none⟩ (.slice xa2 x2 xk2)).setCell ⟨s + 1, 8, none⟩ (.slice xa3 x3 xk3)).setCell ⟨s + 1, 9, none⟩ (.slice xa4 x4 xk4)).setCell ⟨s + 1, 10, none⟩ (.slice xa5 x5 xk5)) = V at *
  have O6 : Ho (s + 2) w6 V := NR.out.2.ho fun k e => by omega
  have B7 : Hid (Below w.heap.size w V) := Mq.under B6.out NR.out.2 fun k e => by have := HSs.out; omega
  have SS : Hid (Vm V w.heap.size (.slice xa0 x0 xk0) (.slice xa1 x1 xk1) (.slice xa2 x2 xk2) (.slice xa3 x3 xk3) (.slice xa4 x4 xk4) (.slice xa5 x5 xk5) H (wordsL ms ps) (wordsL ms gs)) := ⟨((M6.out.mono (by have := L4.out; omega)).ho O6).mono (by have := HSs.out; omega), A4.out, ((N6.out.1.mono (by have := L6.out; omega)).ho O6).mono (by have := HSs.out; omega), ((N6.out.2.mono (by have := L6.out; omega)).ho O6).mono (by have := HSs.out; omega), AL.out.1, AL.out.2.1, AL.out.2.2.1, AL.out.2.2.2, AM.out.2, AM.out.1.1, AM.out.1.2.1, AM.out.1.2.2.1, AM.out.1.2.2.2⟩
  have x0' := NR.out.1.cell 0 rfl
  have x1' := NR.out.1.cell 1 rfl
  have x2' := NR.out.1.cell 2 rfl
  have x3' := NR.out.1.cell 3 rfl
  have x4' := NR.out.1.cell 4 rfl
  have x5' := NR.out.1.cell 5 rfl
  have x6' := NR.out.1.cell 6 rfl
  have x7' := NR.out.1.cell 7 rfl
  have x8' := NR.out.1.cell 8 rfl
  have x9' := NR.out.1.cell 9 rfl
  have x10' := NR.out.1.cell 10 rfl
  exact bodyPost_ret (v := .agg #[.slice xa0 x0 xk0, .int .i64 H.pc, .slice xa1 x1 xk1, .bool H.halted, .bool H.waiting, .bool H.rung, .int .i64 H.done, .slice xa2 x2 xk2, .slice xa3 x3 xk3, .slice xa4 x4 xk4, .slice xa5 x5 xk5]) (by simp [results, Tryz.results62, go_sem, x0', x1', x2', x3', x4', x5', x6', x7', x8', x9', x10']) rfl ⟨_, _, _, _, _, _, rfl, SS.out, B7.out⟩
end Go.Proofs.YthebikoahfcdaaaGreatDoor
