/- Texts of this seat, joined. -/
import Derived.Deep.RegionWith
import Derived.Deep.RegionHeld3
import Derived.Deep.Cut
import Derived.Deep.CutRange
import Derived.Test.YthnaggeilbcioaaGreatDoorQ23
import Derived.Test.YthnaggeilbcioaaGreatDoorQ25
import Derived.Test.YthnaggeilbcioaaGreatDoorQ38
import Derived.Test.YthnaggeilbcioaaGreatDoorQ46
import Derived.Test.YthnaggeilbcioaaGreatDoorQ47
namespace Go.Proofs.YthnaggeilbcioaaGreatDoor
open Go.RowKit
set_option linter.unusedVariables false

theorem sv_someG {w : World} {base n cap : Nat} {a : Option Addr} {zs : List Int} (h : Nums w base (.slice a n cap) zs) (hz : 0 < zs.length) : ∃ gm, a = some ⟨gm, 0, none⟩ := by
  obtain ⟨a', cap', e, _, _, hg⟩ := h.shape
  cases e
  exact hg hz
theorem own4_ne {w : World} {b t : Nat} {r c i o : Value} {H : Ht} {cs : Array Value} {ty : TypeId} (h : Hm w b r c i o H) (hv : Vb w t cs ty) (ht : ty ≠ 2) : ∀ k, Own4 r c i o k → k = t → False := fun k e f => by
  subst f
  rcases e with e | e | e | e
  · exact h.r.ne_vb hv ht e
  · exact h.c.ne_vb hv ht e
  · exact h.i.ne_vb hv ht e
  · exact h.o.ne_vb hv ht e
theorem prs_ne_vb {w : World} {b t : Nat} {v : Value} {rs : List (Int × Int)} {cs : Array Value} {ty : TypeId} (h : Prs 77 w b v rs) (hv : Vb w t cs ty) (ht : ty ≠ 77) (e : v.ownBlock = some t) : False := by
  obtain ⟨_, ⟨rfl, _⟩ | ⟨g, cap, cur, rfl, _, hg, _⟩⟩ := h
  · cases e
  · have e : g = t := by simpa [Value.ownBlock] using e
    subst e
    unfold Vb at hv
    rw [hv] at hg
    simp at hg
    exact ht hg.2
theorem mk64 (w : World) : ∃ w', (Instr.makeSlice 28 (.int .i64 64) (.int .i64 64)).run Tryz.prog w = .ok (.slice (some ⟨w.heap.size, 0, none⟩) 64 64) w' ∧ Nums w' w.heap.size (.slice (some ⟨w.heap.size, 0, none⟩) 64 64) (List.replicate 64 0) ∧ w.grownBy w' none := by
  obtain ⟨i, hi, hz0, hz1, hz2⟩ := info_parts info_i64
  obtain ⟨w', h1, h2, h3⟩ := run_makeSlice_full (P := Tryz.prog) (w := w) w.heap.size 28 2 i _ 1 Tryz.underlying28 hi hz0 hz1 .i64 .i64 64 (by decide) (by rw [hz2]; decide) (by unfold maxLen; decide) (Nat.le_refl _)
  refine ⟨w', h1, ?_, h3⟩
  unfold Nums
  rw [List.length_replicate]
  have e : (madeCells (Value.int .i64 0).cells (64 * 1)).toList = (List.replicate 64 (0 : Int)).map (Value.int .i64) := by kernel_rfl
  rw [← e]
  exact h2
set_option maxRecDepth 20000 in
set_option maxHeartbeats 8000000 in
theorem s_solo16 (q : Nat) (a0 a1 a2 a3 : Option Addr) (n0 c0 n1 c1 n2 c2 n3 c3 : Nat) (m h : Value) (X : Hst) (g : Nat) (b : Nat) (w : World) (d : Oj w b a0 n0 c0 a1 n1 c1 a2 n2 c2 a3 n3 c3 m h X) (hv : Vb w q #[.slice a0 n0 c0, .slice a1 n1 c1, .slice a2 n2 c2, .slice a3 n3 c3, m, h, .int .i64 X.slot, .int .i64 X.left, .int .i64 X.clock] 48) (ok : Fok X g) :
    Calls Tryz.prog 18 #[.pointer (some ⟨q, 0, none⟩), .int .i64 (g : Int)] w fun e w' => ∃ r' c' i' o' l' m', e = .returned (.agg #[r', .int .i64 (X.harts.getD g voidH).pc, c', .bool (X.harts.getD g voidH).halted, .bool (X.harts.getD g voidH).waiting, .bool (X.harts.getD g voidH).rung, .int .i64 (X.harts.getD g voidH).done, i', o', l', m']) ∧ Sm w' w.heap.size r' c' i' o' l' m' (X.harts.getD g voidH) (aloL (pforL (X.pol.own.getD g []) X.pol.lanes (g : Int) 8)) (seeS (pforL (X.pol.own.getD g []) X.pol.lanes (g : Int) 8) X.mem 8) ∧ Below w.heap.size w w' := by
  obtain ⟨PS, hPS⟩ : ∃ PS, (pforL (X.pol.own.getD g []) X.pol.lanes (g : Int) 8) = PS := ⟨_, rfl⟩
  have HPS : Hid ((pforL (X.pol.own.getD g []) X.pol.lanes (g : Int) 8) = PS) := hPS
  rw [hPS]
  clear hPS
  have OK : Hid (Fok X g) := ok
  clear ok
  obtain ⟨am, cm, rfl, _⟩ := d.mem.shape
  obtain ⟨ah, ch, rfl, hlc1, hlc2, gh⟩ := d.harts.shape
  obtain ⟨gm, hgm⟩ := sv_someG d.mem (by have := OK.out.ml; omega)
  subst hgm
  obtain ⟨hb, hhb⟩ := gh (by have := OK.out.g0; have := OK.out.hl; omega)
  subst hhb
  clear gh
  have GN : Hid (g < n0 ∧ g < X.harts.length) := by have := d.pol.own.len; have := OK.out.g0; have := OK.out.hl; exact ⟨by omega, by omega⟩
  obtain ⟨x, ob, ol, oc, rfl, ko1, ko2⟩ := d.pol.own.at g GN.out.1
  obtain ⟨r, c, i, o, z1, z2, z3⟩ := d.harts.at g GN.out.2
  obtain ⟨H, hH⟩ : ∃ H, X.harts.getD g voidH = H := ⟨_, rfl⟩
  rw [hH] at z1 z2 ⊢
  have HK : Hid (Hok H) := by show Hok H; rw [← hH]; exact OK.out.hk
  clear hH z3
  obtain ⟨d0, k0, e0, _⟩ := z2.r.shape
  obtain ⟨d1, k1, e1, _⟩ := z2.c.shape
  obtain ⟨d2, k2, e2, _⟩ := z2.i.shape
  obtain ⟨d3, k3, e3, _⟩ := z2.o.shape
  subst e0 e1 e2 e3
  obtain ⟨m0, hm0⟩ : ∃ n, H.regs.length = n := ⟨_, rfl⟩
  obtain ⟨m1, hm1⟩ : ∃ n, H.csr.length = n := ⟨_, rfl⟩
  obtain ⟨m2, hm2⟩ : ∃ n, H.inn.length = n := ⟨_, rfl⟩
  obtain ⟨m3, hm3⟩ : ∃ n, H.out.length = n := ⟨_, rfl⟩
  obtain ⟨lm, hlm⟩ : ∃ n, X.mem.length = n := ⟨_, rfl⟩
  obtain ⟨lh, hlh⟩ : ∃ n, X.harts.length = n := ⟨_, rfl⟩
  rw [hm0, hm1, hm2, hm3] at z1 z2
  rw [hlm, hlh] at d hv
  have hgI : (g : Int) < (n0 : Int) := by have := GN.out.1; omega
  have hgL : (g : Int) < (lh : Int) := by have := GN.out.2; omega
  have hn0 : (n0 : Int) ≤ 9223372036854775807 := by have := d.pol.own.cap; unfold maxLen at this; omega
  have hnl : (lh : Int) ≤ 9223372036854775807 := by rw [hlh] at hlc1; unfold maxLen at hlc2; omega
  have LI : Hid (((g : Int) < (n0 : Int) ∧ (g : Int) < (lh : Int)) ∧ (n0 : Int) ≤ 9223372036854775807 ∧ (lh : Int) ≤ 9223372036854775807) := ⟨⟨hgI, hgL⟩, hn0, hnl⟩
  have ML : Hid (X.mem.length = lm) := hlm
  have D0 : Hid (Oj w b (some x) n0 c0 a1 n1 c1 a2 n2 c2 a3 n3 c3 (.slice (some ⟨gm, 0, none⟩) lm cm) (.slice (some ⟨hb, 0, none⟩) lh ch) X) := d
  have KO : Hid (w.cell? (x.add g) = some (.slice ob ol oc) ∧ IsNs w ob ol oc (X.pol.own.getD g [])) := ⟨ko1, ko2⟩
  have HC : Hid (Hc w ⟨hb, g * 9, none⟩ (.slice d0 m0 k0) (.slice d1 m1 k1) (.slice d2 m2 k2) (.slice d3 m3 k3) H) := z1
  have HM : Hid (Hm w b (.slice d0 m0 k0) (.slice d1 m1 k1) (.slice d2 m2 k2) (.slice d3 m3 k3) H) := z2
  clear hm0 hm1 hm2 hm3 hlm hlh ko1 ko2 z1 z2 hgI hgL hn0 hnl hlc1 hlc2 d
  have QH : Hid (Vb w q #[.slice (some x) n0 c0, .slice a1 n1 c1, .slice a2 n2 c2, .slice a3 n3 c3, .slice (some ⟨gm, 0, none⟩) lm cm, .slice (some ⟨hb, 0, none⟩) lh ch, .int .i64 X.slot, .int .i64 X.left, .int .i64 X.clock] 48) := hv
  clear hv
  generalize hW : w.alloc (.cells #[.slice none 0 0, .int .i64 0, .slice none 0 0, .bool false, .bool false, .bool false, .int .i64 0, .slice none 0 0, .slice none 0 0, .slice none 0 0, .slice none 0 0] 37) = W
  have B0 : Hid (Below w.heap.size w W) := by show Below _ _ _; rw [← hW]; exact al (Below.refl _ _) _
  obtain ⟨s, hS⟩ : ∃ s, w.heap.size = s := ⟨_, rfl⟩
  have HSs : Hid (w.heap.size = s) := hS
  have R : Hid (Vb W s #[.slice none 0 0, .int .i64 0, .slice none 0 0, .bool false, .bool false, .bool false, .int .i64 0, .slice none 0 0, .slice none 0 0, .slice none 0 0, .slice none 0 0] 37) := by show Vb _ _ _ _; rw [← hW, ← hS]; exact Vb.new _ _ _
  have LT : Hid (s < W.heap.size) := R.out.lt
  have PA : Hid (∀ u, Below W.heap.size W u → PolAt u q X.pol) := fun u hu => ⟨_, _, _, _, _, _, _, _, _, _, _, _, ((QH.out.keep B0.out).keep hu).cell 0 rfl, ((QH.out.keep B0.out).keep hu).cell 1 rfl, ((QH.out.keep B0.out).keep hu).cell 2 rfl, ((QH.out.keep B0.out).keep hu).cell 3 rfl, D0.out.pol.stay (on B0.out hu)⟩
  have QS : Hid (∀ u, Below W.heap.size W u → Vb u q #[.slice (some x) n0 c0, .slice a1 n1 c1, .slice a2 n2 c2, .slice a3 n3 c3, .slice (some ⟨gm, 0, none⟩) lm cm, .slice (some ⟨hb, 0, none⟩) lh ch, .int .i64 X.slot, .int .i64 X.left, .int .i64 X.clock] 48) := fun u hu => (QH.out.keep B0.out).keep hu
  have QL : Hid (q < W.heap.size) := (QH.out.keep B0.out).lt
  go_enter Tryz.func18, Tryz.ntmps18
  go_upto_region 1 with fail
  clear hW hS
  go_cut [5] from 8 to 22 (fun c wx => ∃ (t om : Nat) (r0 r1 r2 r3 l0 : Option Addr) (n0' k0' n1' k1' n2' k2' n3' k3' lk : Nat), c = .pointer (some ⟨t, 0, none⟩) ∧ Below W.heap.size W wx ∧ Vb wx t #[.slice r0 n0' k0', .int .i64 H.pc, .slice r1 n1' k1', .bool H.halted, .bool H.waiting, .bool H.rung, .int .i64 H.done, .slice r2 n2' k2', .slice r3 n3' k3', .slice l0 8 lk, .slice (some ⟨om, 0, none⟩) 64 64] 37 ∧ Hm wx W.heap.size (.slice r0 n0' k0') (.slice r1 n1' k1') (.slice r2 n2' k2') (.slice r3 n3' k3') H ∧ Ha (.slice r0 n0' k0') (.slice r1 n1' k1') (.slice r2 n2' k2') (.slice r3 n3' k3') ∧ Prs 77 wx W.heap.size (.slice l0 8 lk) (aloL PS) ∧ Nums wx W.heap.size (.slice (some ⟨om, 0, none⟩) 64 64) (List.replicate 64 0) ∧ (∀ k, Own4 (.slice r0 n0' k0') (.slice r1 n1' k1') (.slice r2 n2' k2') (.slice r3 n3' k3') k → k ≠ om) ∧ W.heap.size ≤ t ∧ W.heap.size ≤ om ∧ t ≠ om)
  case first =>
    have Sx0 : Hid (Below W.heap.size W W.drew) := (Below.refl _ _).drew
    refine wp_region_held (S := fun w' => Below W.heap.size W w') (by kernel_rfl) ?_
    change wpAnyH _ _ _ _ _ _ _ _ (World.drew _)
    generalize W.drew = v0 at *
    refine wpAnyH_take (i := 0) (v := (.pointer (some ⟨q, 0, none⟩))) rfl (by kernel_rfl) (by kernel_rfl) (by kernel_rfl) (fun _ _ _ h => h) (Or.inl ⟨by rfl, fun w' hs => by go_simp⟩) Sx0.out ?_
    change wpAnyH _ _ _ _ _ _ _ (Act.put _ (some 8) _) _
    simp only [Act.put, List.setIfInBounds_toArray, List.set_cons_zero, List.set_cons_succ]
    refine wpAnyH_take (i := 1) (v := (.pointer (some ⟨q, 0, none⟩))) rfl (by kernel_rfl) (by kernel_rfl) (by kernel_rfl) (fun _ _ _ h => h) (Or.inl ⟨by rfl, fun w' hs => by go_simp⟩) Sx0.out ?_
    change wpAnyH _ _ _ _ _ _ _ (Act.put _ (some 9) _) _
    simp only [Act.put, List.setIfInBounds_toArray, List.set_cons_zero, List.set_cons_succ]
    refine wpAnyH_take (i := 2) (v := (.pointer (some ⟨q, 5, none⟩))) rfl (by kernel_rfl) (by kernel_rfl) (by kernel_rfl) (fun _ _ _ h => h) (Or.inl ⟨by rfl, fun w' hs => by go_simp⟩) Sx0.out ?_
    change wpAnyH _ _ _ _ _ _ _ (Act.put _ (some 10) _) _
    simp only [Act.put, List.setIfInBounds_toArray, List.set_cons_zero, List.set_cons_succ]
    refine wpAnyH_take (i := 3) (v := (.slice (some ⟨hb, 0, none⟩) lh ch)) rfl (by kernel_rfl) (by kernel_rfl) (by kernel_rfl) (fun _ _ _ h => h) (Or.inl ⟨by rfl, fun w' hs => by have q5 := (QS.out w' hs).cell 5 rfl; go_simp⟩) Sx0.out ?_
    change wpAnyH _ _ _ _ _ _ _ (Act.put _ (some 11) _) _
    simp only [Act.put, List.setIfInBounds_toArray, List.set_cons_zero, List.set_cons_succ]
    refine wpAnyH_take (i := 4) (v := (.int .i64 (g : Int))) rfl (by kernel_rfl) (by kernel_rfl) (by kernel_rfl) (fun _ _ _ h => h) (Or.inl ⟨by rfl, fun w' hs => by go_simp⟩) Sx0.out ?_
    change wpAnyH _ _ _ _ _ _ _ (Act.put _ (some 12) _) _
    simp only [Act.put, List.setIfInBounds_toArray, List.set_cons_zero, List.set_cons_succ]
    refine wpAnyH_take (i := 5) (v := (.pointer (some ⟨hb, g * 9, none⟩))) rfl (by kernel_rfl) (by kernel_rfl) (by kernel_rfl) (fun _ _ _ h => h) (Or.inl ⟨by rfl, fun w' hs => by have i1 := LI.out.1.1; have i2 := LI.out.1.2; have i3 := LI.out.2.1; have i4 := LI.out.2.2; have y0 := (HC.out.stay (on B0.out hs)).c0; go_simp⟩) Sx0.out ?_
    change wpAnyH _ _ _ _ _ _ _ (Act.put _ (some 13) _) _
    simp only [Act.put, List.setIfInBounds_toArray, List.set_cons_zero, List.set_cons_succ]
    refine wpAnyH_take (i := 6) (v := (.agg #[.slice d0 m0 k0, .int .i64 H.pc, .slice d1 m1 k1, .bool H.halted, .bool H.waiting, .bool H.rung, .int .i64 H.done, .slice d2 m2 k2, .slice d3 m3 k3])) rfl (by kernel_rfl) (by kernel_rfl) (by kernel_rfl) (fun _ _ _ h => h) (Or.inl ⟨by rfl, fun w' hs => by have hq := HC.out.stay (on B0.out hs); have y0 := hq.c0; have y1 := hq.c1; have y2 := hq.c2; have y3 := hq.c3; have y4 := hq.c4; have y5 := hq.c5; have y6 := hq.c6; have y7 := hq.c7; have y8 := hq.c8; go_simp⟩) Sx0.out ?_
    change wpAnyH _ _ _ _ _ _ _ (Act.put _ (some 14) _) _
    simp only [Act.put, List.setIfInBounds_toArray, List.set_cons_zero, List.set_cons_succ]
    refine wpAnyH_take (i := 8) (v := (.pointer (some ⟨q, 0, none⟩))) rfl (by kernel_rfl) (by kernel_rfl) (by kernel_rfl) (fun _ _ _ h => h) (Or.inl ⟨by rfl, fun w' hs => by go_simp⟩) Sx0.out ?_
    change wpAnyH _ _ _ _ _ _ _ (Act.put _ (some 16) _) _
    simp only [Act.put, List.setIfInBounds_toArray, List.set_cons_zero, List.set_cons_succ]
    refine wpAnyH_take (i := 9) (v := (.pointer (some ⟨q, 0, none⟩))) rfl (by kernel_rfl) (by kernel_rfl) (by kernel_rfl) (fun _ _ _ h => h) (Or.inl ⟨by rfl, fun w' hs => by go_simp⟩) Sx0.out ?_
    change wpAnyH _ _ _ _ _ _ _ (Act.put _ (some 17) _) _
    simp only [Act.put, List.setIfInBounds_toArray, List.set_cons_zero, List.set_cons_succ]
    refine wpAnyH_take (i := 10) (v := (.pointer (some ⟨q, 0, none⟩))) rfl (by kernel_rfl) (by kernel_rfl) (by kernel_rfl) (fun _ _ _ h => h) (Or.inl ⟨by rfl, fun w' hs => by go_simp⟩) Sx0.out ?_
    change wpAnyH _ _ _ _ _ _ _ (Act.put _ (some 18) _) _
    simp only [Act.put, List.setIfInBounds_toArray, List.set_cons_zero, List.set_cons_succ]
    refine wpAnyH_take (i := 11) (v := (.int .i64 (g : Int))) rfl (by kernel_rfl) (by kernel_rfl) (by kernel_rfl) (fun _ _ _ h => h) (Or.inl ⟨by rfl, fun w' hs => by go_simp⟩) Sx0.out ?_
    change wpAnyH _ _ _ _ _ _ _ (Act.put _ (some 19) _) _
    simp only [Act.put, List.setIfInBounds_toArray, List.set_cons_zero, List.set_cons_succ]
    refine wpAnyH_ready (rs := [7, 13, 15]) (by kernel_rfl) (by simp) ?_
    refine AllReadyH.cons rfl (fun K hK => ?_) (AllReadyH.cons rfl (fun K hK => ?_) (AllReadyH.cons rfl (fun K hK => ?_) AllReadyH.nil))
    · skip
      rw [if_pos (by rfl)]
      go_simp
      refine (s_copy _ _ _ _ H 0 v0 (((HM.out.keep B0.out).keep Sx0.out).mono (Nat.zero_le _)) (by have := HK.out.r16; omega) (by have := HK.out.c11; omega) (by have := HK.out.i40; omega) (by have := HK.out.o40; omega)).mono ?_
      rintro e v1 ⟨r', c', i', o', rfl, hm', ha', bq⟩
      obtain ⟨r0, k0', f0, _⟩ := hm'.r.shape
      obtain ⟨r1, k1', f1, _⟩ := hm'.c.shape
      obtain ⟨r2, k2', f2, _⟩ := hm'.i.shape
      obtain ⟨r3, k3', f3, _⟩ := hm'.o.shape
      subst f0 f1 f2 f3
      obtain ⟨n0', he0⟩ : ∃ n, H.regs.length = n := ⟨_, rfl⟩
      obtain ⟨n1', he1⟩ : ∃ n, H.csr.length = n := ⟨_, rfl⟩
      obtain ⟨n2', he2⟩ : ∃ n, H.inn.length = n := ⟨_, rfl⟩
      obtain ⟨n3', he3⟩ : ∃ n, H.out.length = n := ⟨_, rfl⟩
      rw [he0, he1, he2, he3] at hm' ha' ⊢
      have H1 : Hid (Hm v1 W.heap.size (.slice r0 n0' k0') (.slice r1 n1' k1') (.slice r2 n2' k2') (.slice r3 n3' k3') H) := hm'.mono Sx0.out.size
      have HA' : Hid (Ha (.slice r0 n0' k0') (.slice r1 n1' k1') (.slice r2 n2' k2') (.slice r3 n3' k3')) := ha'
      have HX : Hid (∀ k, Own4 (.slice r0 n0' k0') (.slice r1 n1' k1') (.slice r2 n2' k2') (.slice r3 n3' k3') k → v0.heap.size ≤ k ∧ k < v1.heap.size) := fun k e => hm'.own k e
      have Sx1 : Hid (Below W.heap.size W v1) := on Sx0.out bq
      clear hm' ha' bq he0 he1 he2 he3
      refine hK.out _ _ Sx1.out (fun _ => ?_)
      clear hK K
      refine wpAnyH_ready (rs := [12, 13, 15]) (by kernel_rfl) (by simp) ?_
      refine AllReadyH.cons rfl (fun K hK => ?_) (AllReadyH.cons rfl (fun K hK => ?_) (AllReadyH.cons rfl (fun K hK => ?_) AllReadyH.nil))
      · skip
        rw [if_pos (by rfl)]
        go_simp
        have PF := s_pages11 q (g : Int) X.pol v1 (PA.out v1 Sx1.out) ⟨by omega, by have := OK.out.g0; omega⟩ OK.out.pp (by rw [Int.toNat_natCast]; exact OK.out.pg)
        rw [Int.toNat_natCast, HPS.out] at PF
        refine PF.mono ?_
        clear PF
        rintro e v2 ⟨lv, rfl, pr, bq⟩
        obtain ⟨l0, lk, hle, _⟩ := pr.shape
        rw [aloL_len] at hle
        subst hle
        have L2 : Hid (Prs 77 v2 W.heap.size (.slice l0 8 lk) (aloL PS)) := prs_mono pr Sx1.out.size
        have Sx2 : Hid (Below W.heap.size W v2) := on Sx1.out bq
        have H2 : Hid (Hm v2 W.heap.size (.slice r0 n0' k0') (.slice r1 n1' k1') (.slice r2 n2' k2') (.slice r3 n3' k3') H) := H1.out.keep bq
        clear pr bq
        refine hK.out _ _ Sx2.out (fun _ => ?_)
        clear hK K
        refine wpAnyH_ready (rs := [13, 15]) (by kernel_rfl) (by simp) ?_
        refine AllReadyH.cons rfl (fun K hK => ?_) (AllReadyH.cons rfl (fun K hK => ?_) AllReadyH.nil)
        · skip
          obtain ⟨v3, hrun, hown, hgrow⟩ := mk64 v2
          have bq : Below v2.heap.size v2 v3 := (Below.refl _ _).grown hgrow (Nat.le_refl _) (by simp)
          rw [if_pos (by rfl)]
          go_simp
          clear hrun
          obtain ⟨om, hom⟩ : ∃ o, v2.heap.size = o := ⟨_, rfl⟩
          rw [hom] at hown ⊢
          have M3 : Hid (Nums v3 W.heap.size (.slice (some ⟨om, 0, none⟩) 64 64) (List.replicate 64 0)) := hown.mono (by have := Sx2.out.size; omega)
          have OL : Hid (∀ k, Own4 (.slice r0 n0' k0') (.slice r1 n1' k1') (.slice r2 n2' k2') (.slice r3 n3' k3') k → k ≠ om) := fun k e f => by have := (H2.out.own k e).2; omega
          have Sx3 : Hid (Below W.heap.size W v3) := on Sx2.out bq
          have H3 : Hid (Hm v3 W.heap.size (.slice r0 n0' k0') (.slice r1 n1' k1') (.slice r2 n2' k2') (.slice r3 n3' k3') H) := H2.out.keep bq
          have L3 : Hid (Prs 77 v3 W.heap.size (.slice l0 8 lk) (aloL PS)) := L2.out.keep bq
          clear hown hgrow bq hom
          refine hK.out _ _ Sx3.out (fun _ => ?_)
          clear hK K
          refine wpAnyH_take (i := 14) (v := (.agg #[.slice r0 n0' k0', .int .i64 H.pc, .slice r1 n1' k1', .bool H.halted, .bool H.waiting, .bool H.rung, .int .i64 H.done, .slice r2 n2' k2', .slice r3 n3' k3', .slice l0 8 lk, .slice (some ⟨om, 0, none⟩) 64 64])) rfl (by kernel_rfl) (by kernel_rfl) (by kernel_rfl) (fun _ _ _ h => h) (Or.inl ⟨by rfl, fun w' hs => by go_simp⟩) Sx3.out ?_
          change wpAnyH _ _ _ _ _ _ _ (Act.put _ (some 22) _) _
          simp only [Act.put, List.setIfInBounds_toArray, List.set_cons_zero, List.set_cons_succ]
          refine wpAnyH_ready (rs := [15]) (by kernel_rfl) (by simp) ?_
          refine AllReadyH.cons rfl (fun K hK => ?_) AllReadyH.nil
          rw [if_pos (by rfl)]
          go_simp
          have bq : Below v3.heap.size v3 (v3.alloc (.cells #[.slice none 0 0, .int .i64 0, .slice none 0 0, .bool false, .bool false, .bool false, .int .i64 0, .slice none 0 0, .slice none 0 0, .slice none 0 0, .slice none 0 0] 37)) := al (Below.refl _ _) _
          have T4' : Hid (Vb (v3.alloc (.cells #[.slice none 0 0, .int .i64 0, .slice none 0 0, .bool false, .bool false, .bool false, .int .i64 0, .slice none 0 0, .slice none 0 0, .slice none 0 0, .slice none 0 0] 37)) v3.heap.size #[.slice none 0 0, .int .i64 0, .slice none 0 0, .bool false, .bool false, .bool false, .int .i64 0, .slice none 0 0, .slice none 0 0, .slice none 0 0, .slice none 0 0] 37) := Vb.new _ _ _
          obtain ⟨t, ht⟩ : ∃ t, v3.heap.size = t := ⟨_, rfl⟩
          have TB : Hid (W.heap.size ≤ t) := by have := Sx3.out.size; show _ ≤ _; omega
          rw [ht] at T4' ⊢
          generalize v3.alloc (.cells #[.slice none 0 0, .int .i64 0, .slice none 0 0, .bool false, .bool false, .bool false, .int .i64 0, .slice none 0 0, .slice none 0 0, .slice none 0 0, .slice none 0 0] 37) = v4 at *
          have T4 : Hid (Vb v4 t #[.slice none 0 0, .int .i64 0, .slice none 0 0, .bool false, .bool false, .bool false, .int .i64 0, .slice none 0 0, .slice none 0 0, .slice none 0 0, .slice none 0 0] 37) := T4'.out
          have Sx4 : Hid (Below W.heap.size W v4) := on Sx3.out bq
          have H4 : Hid (Hm v4 W.heap.size (.slice r0 n0' k0') (.slice r1 n1' k1') (.slice r2 n2' k2') (.slice r3 n3' k3') H) := H3.out.keep bq
          have L4 : Hid (Prs 77 v4 W.heap.size (.slice l0 8 lk) (aloL PS)) := L3.out.keep bq
          have M4 : Hid (Nums v4 W.heap.size (.slice (some ⟨om, 0, none⟩) 64 64) (List.replicate 64 0)) := M3.out.keep bq
          clear bq ht
          refine hK.out _ _ Sx4.out (fun _ => ?_)
          clear hK K
          refine wpAnyH_ready (rs := [16]) (by kernel_rfl) (by simp) ?_
          refine AllReadyH.cons rfl (fun K hK => ?_) AllReadyH.nil
          rw [if_pos (by rfl)]
          refine wp_store_mid 37 (.tmp 5) (.tmp 22) rfl t 0 #[.slice r0 n0' k0', .int .i64 H.pc, .slice r1 n1' k1', .bool H.halted, .bool H.waiting, .bool H.rung, .int .i64 H.done, .slice r2 n2' k2', .slice r3 n3' k3', .slice l0 8 lk, .slice (some ⟨om, 0, none⟩) 64 64] rfl rfl (T4.out.there 11 (by decide)) (by kernel_rfl) (by simp [Value.oneCell']) ?_
          change K (Act.put _ none undef) _
          simp only [Act.put]
          have NR : Hid (Vb (v4.setCells t 0 #[.slice r0 n0' k0', .int .i64 H.pc, .slice r1 n1' k1', .bool H.halted, .bool H.waiting, .bool H.rung, .int .i64 H.done, .slice r2 n2' k2', .slice r3 n3' k3', .slice l0 8 lk, .slice (some ⟨om, 0, none⟩) 64 64].toList) t #[.slice r0 n0' k0', .int .i64 H.pc, .slice r1 n1' k1', .bool H.halted, .bool H.waiting, .bool H.rung, .int .i64 H.done, .slice r2 n2' k2', .slice r3 n3' k3', .slice l0 8 lk, .slice (some ⟨om, 0, none⟩) 64 64] 37 ∧ Mq (fun k => k = t) v4 (v4.setCells t 0 #[.slice r0 n0' k0', .int .i64 H.pc, .slice r1 n1' k1', .bool H.halted, .bool H.waiting, .bool H.rung, .int .i64 H.done, .slice r2 n2' k2', .slice r3 n3' k3', .slice l0 8 lk, .slice (some ⟨om, 0, none⟩) 64 64].toList)) := elevenX T4.out (.slice r0 n0' k0') (.int .i64 H.pc) (.slice r1 n1' k1') (.bool H.halted) (.bool H.waiting) (.bool H.rung) (.int .i64 H.done) (.slice r2 n2' k2') (.slice r3 n3' k3') (.slice l0 8 lk) (.slice (some ⟨om, 0, none⟩) 64 64)
          have NH : Hid (∀ k, Own4 (.slice r0 n0' k0') (.slice r1 n1' k1') (.slice r2 n2' k2') (.slice r3 n3' k3') k → ¬ k = t) := fun k e f => by subst f; exact own4_ne H4.out T4.out (by decide) k e rfl
          have NM : Hid (t ≠ om) := fun f => M4.out.ne_vb T4.out (by decide) (by rw [f]; rfl)
          have NL : Hid (∀ k, (Value.slice l0 8 lk).ownBlock = some k → ¬ k = t) := fun k e f => by subst f; exact prs_ne_vb L4.out T4.out (by decide) e
          generalize (v4.setCells t 0 #[.slice r0 n0' k0', .int .i64 H.pc, .slice r1 n1' k1', .bool H.halted, .bool H.waiting, .bool H.rung, .int .i64 H.done, .slice r2 n2' k2', .slice r3 n3' k3', .slice l0 8 lk, .slice (some ⟨om, 0, none⟩) 64 64].toList) = V at *
          have VB : Hid (Below W.heap.size W V) := Mq.under Sx4.out NR.out.2 fun k e => by have := TB.out; omega
          have VH : Hid (Hm V W.heap.size (.slice r0 n0' k0') (.slice r1 n1' k1') (.slice r2 n2' k2') (.slice r3 n3' k3') H) := NR.out.2.hm H4.out fun k e f => NH.out k e f
          have VL : Hid (Prs 77 V W.heap.size (.slice l0 8 lk) (aloL PS)) := prs_mq L4.out NR.out.2 NL.out
          have VM : Hid (Nums V W.heap.size (.slice (some ⟨om, 0, none⟩) 64 64) (List.replicate 64 0)) := NR.out.2.nums M4.out fun k e f => by have e' : om = k := (by simpa [Value.ownBlock] using e); have := NM.out; omega
          refine hK.out _ _ VB.out (fun _ => ?_)
          clear hK K
          refine wpAnyH_done (by kernel_rfl) ?_ _
          go_wp2_with fail
          go_meet
          exact ⟨t, om, r0, r1, r2, r3, l0, n0', k0', n1', k1', n2', k2', n3', k3', lk, rfl, VB.out, NR.out.1, VH.out, HA'.out, VL.out, VM.out, OL.out, TB.out, (VM.out.lt om rfl).1, NM.out⟩
        · skip
          rw [if_pos (by rfl)]
          go_simp
          have bq : Below v2.heap.size v2 (v2.alloc (.cells #[.slice none 0 0, .int .i64 0, .slice none 0 0, .bool false, .bool false, .bool false, .int .i64 0, .slice none 0 0, .slice none 0 0, .slice none 0 0, .slice none 0 0] 37)) := al (Below.refl _ _) _
          have T3' : Hid (Vb (v2.alloc (.cells #[.slice none 0 0, .int .i64 0, .slice none 0 0, .bool false, .bool false, .bool false, .int .i64 0, .slice none 0 0, .slice none 0 0, .slice none 0 0, .slice none 0 0] 37)) v2.heap.size #[.slice none 0 0, .int .i64 0, .slice none 0 0, .bool false, .bool false, .bool false, .int .i64 0, .slice none 0 0, .slice none 0 0, .slice none 0 0, .slice none 0 0] 37) := Vb.new _ _ _
          obtain ⟨t, ht⟩ : ∃ t, v2.heap.size = t := ⟨_, rfl⟩
          have TB : Hid (W.heap.size ≤ t) := by have := Sx2.out.size; show _ ≤ _; omega
          rw [ht] at T3' ⊢
          generalize v2.alloc (.cells #[.slice none 0 0, .int .i64 0, .slice none 0 0, .bool false, .bool false, .bool false, .int .i64 0, .slice none 0 0, .slice none 0 0, .slice none 0 0, .slice none 0 0] 37) = v3 at *
          have T3 : Hid (Vb v3 t #[.slice none 0 0, .int .i64 0, .slice none 0 0, .bool false, .bool false, .bool false, .int .i64 0, .slice none 0 0, .slice none 0 0, .slice none 0 0, .slice none 0 0] 37) := T3'.out
          have Sx3 : Hid (Below W.heap.size W v3) := on Sx2.out bq
          have H3 : Hid (Hm v3 W.heap.size (.slice r0 n0' k0') (.slice r1 n1' k1') (.slice r2 n2' k2') (.slice r3 n3' k3') H) := H2.out.keep bq
          have L3 : Hid (Prs 77 v3 W.heap.size (.slice l0 8 lk) (aloL PS)) := L2.out.keep bq
          clear bq ht
          refine hK.out _ _ Sx3.out (fun _ => ?_)
          clear hK K
          refine wpAnyH_ready (rs := [13]) (by kernel_rfl) (by simp) ?_
          refine AllReadyH.cons rfl (fun K hK => ?_) AllReadyH.nil
          obtain ⟨v4, hrun, hown, hgrow⟩ := mk64 v3
          have bq : Below v3.heap.size v3 v4 := (Below.refl _ _).grown hgrow (Nat.le_refl _) (by simp)
          rw [if_pos (by rfl)]
          go_simp
          clear hrun
          obtain ⟨om, hom⟩ : ∃ o, v3.heap.size = o := ⟨_, rfl⟩
          rw [hom] at hown ⊢
          have M4 : Hid (Nums v4 W.heap.size (.slice (some ⟨om, 0, none⟩) 64 64) (List.replicate 64 0)) := hown.mono (by have := Sx3.out.size; omega)
          have OL : Hid (∀ k, Own4 (.slice r0 n0' k0') (.slice r1 n1' k1') (.slice r2 n2' k2') (.slice r3 n3' k3') k → k ≠ om) := fun k e f => by have := (H3.out.own k e).2; omega
          have Sx4 : Hid (Below W.heap.size W v4) := on Sx3.out bq
          have H4 : Hid (Hm v4 W.heap.size (.slice r0 n0' k0') (.slice r1 n1' k1') (.slice r2 n2' k2') (.slice r3 n3' k3') H) := H3.out.keep bq
          have L4 : Hid (Prs 77 v4 W.heap.size (.slice l0 8 lk) (aloL PS)) := L3.out.keep bq
          have T4 : Hid (Vb v4 t #[.slice none 0 0, .int .i64 0, .slice none 0 0, .bool false, .bool false, .bool false, .int .i64 0, .slice none 0 0, .slice none 0 0, .slice none 0 0, .slice none 0 0] 37) := T3.out.keep bq
          clear hown hgrow bq hom
          refine hK.out _ _ Sx4.out (fun _ => ?_)
          clear hK K
          refine wpAnyH_take (i := 14) (v := (.agg #[.slice r0 n0' k0', .int .i64 H.pc, .slice r1 n1' k1', .bool H.halted, .bool H.waiting, .bool H.rung, .int .i64 H.done, .slice r2 n2' k2', .slice r3 n3' k3', .slice l0 8 lk, .slice (some ⟨om, 0, none⟩) 64 64])) rfl (by kernel_rfl) (by kernel_rfl) (by kernel_rfl) (fun _ _ _ h => h) (Or.inl ⟨by rfl, fun w' hs => by go_simp⟩) Sx4.out ?_
          change wpAnyH _ _ _ _ _ _ _ (Act.put _ (some 22) _) _
          simp only [Act.put, List.setIfInBounds_toArray, List.set_cons_zero, List.set_cons_succ]
          refine wpAnyH_ready (rs := [16]) (by kernel_rfl) (by simp) ?_
          refine AllReadyH.cons rfl (fun K hK => ?_) AllReadyH.nil
          rw [if_pos (by rfl)]
          refine wp_store_mid 37 (.tmp 5) (.tmp 22) rfl t 0 #[.slice r0 n0' k0', .int .i64 H.pc, .slice r1 n1' k1', .bool H.halted, .bool H.waiting, .bool H.rung, .int .i64 H.done, .slice r2 n2' k2', .slice r3 n3' k3', .slice l0 8 lk, .slice (some ⟨om, 0, none⟩) 64 64] rfl rfl (T4.out.there 11 (by decide)) (by kernel_rfl) (by simp [Value.oneCell']) ?_
          change K (Act.put _ none undef) _
          simp only [Act.put]
          have NR : Hid (Vb (v4.setCells t 0 #[.slice r0 n0' k0', .int .i64 H.pc, .slice r1 n1' k1', .bool H.halted, .bool H.waiting, .bool H.rung, .int .i64 H.done, .slice r2 n2' k2', .slice r3 n3' k3', .slice l0 8 lk, .slice (some ⟨om, 0, none⟩) 64 64].toList) t #[.slice r0 n0' k0', .int .i64 H.pc, .slice r1 n1' k1', .bool H.halted, .bool H.waiting, .bool H.rung, .int .i64 H.done, .slice r2 n2' k2', .slice r3 n3' k3', .slice l0 8 lk, .slice (some ⟨om, 0, none⟩) 64 64] 37 ∧ Mq (fun k => k = t) v4 (v4.setCells t 0 #[.slice r0 n0' k0', .int .i64 H.pc, .slice r1 n1' k1', .bool H.halted, .bool H.waiting, .bool H.rung, .int .i64 H.done, .slice r2 n2' k2', .slice r3 n3' k3', .slice l0 8 lk, .slice (some ⟨om, 0, none⟩) 64 64].toList)) := elevenX T4.out (.slice r0 n0' k0') (.int .i64 H.pc) (.slice r1 n1' k1') (.bool H.halted) (.bool H.waiting) (.bool H.rung) (.int .i64 H.done) (.slice r2 n2' k2') (.slice r3 n3' k3') (.slice l0 8 lk) (.slice (some ⟨om, 0, none⟩) 64 64)
          have NH : Hid (∀ k, Own4 (.slice r0 n0' k0') (.slice r1 n1' k1') (.slice r2 n2' k2') (.slice r3 n3' k3') k → ¬ k = t) := fun k e f => by subst f; exact own4_ne H4.out T4.out (by decide) k e rfl
          have NM : Hid (t ≠ om) := fun f => M4.out.ne_vb T4.out (by decide) (by rw [f]; rfl)
          have NL : Hid (∀ k, (Value.slice l0 8 lk).ownBlock = some k → ¬ k = t) := fun k e f => by subst f; exact prs_ne_vb L4.out T4.out (by decide) e
          generalize (v4.setCells t 0 #[.slice r0 n0' k0', .int .i64 H.pc, .slice r1 n1' k1', .bool H.halted, .bool H.waiting, .bool H.rung, .int .i64 H.done, .slice r2 n2' k2', .slice r3 n3' k3', .slice l0 8 lk, .slice (some ⟨om, 0, none⟩) 64 64].toList) = V at *
          have VB : Hid (Below W.heap.size W V) := Mq.under Sx4.out NR.out.2 fun k e => by have := TB.out; omega
          have VH : Hid (Hm V W.heap.size (.slice r0 n0' k0') (.slice r1 n1' k1') (.slice r2 n2' k2') (.slice r3 n3' k3') H) := NR.out.2.hm H4.out fun k e f => NH.out k e f
          have VL : Hid (Prs 77 V W.heap.size (.slice l0 8 lk) (aloL PS)) := prs_mq L4.out NR.out.2 NL.out
          have VM : Hid (Nums V W.heap.size (.slice (some ⟨om, 0, none⟩) 64 64) (List.replicate 64 0)) := NR.out.2.nums M4.out fun k e f => by have e' : om = k := (by simpa [Value.ownBlock] using e); have := NM.out; omega
          refine hK.out _ _ VB.out (fun _ => ?_)
          clear hK K
          refine wpAnyH_done (by kernel_rfl) ?_ _
          go_wp2_with fail
          go_meet
          exact ⟨t, om, r0, r1, r2, r3, l0, n0', k0', n1', k1', n2', k2', n3', k3', lk, rfl, VB.out, NR.out.1, VH.out, HA'.out, VL.out, VM.out, OL.out, TB.out, (VM.out.lt om rfl).1, NM.out⟩
      · skip
        obtain ⟨v2, hrun, hown, hgrow⟩ := mk64 v1
        have bq : Below v1.heap.size v1 v2 := (Below.refl _ _).grown hgrow (Nat.le_refl _) (by simp)
        rw [if_pos (by rfl)]
        go_simp
        clear hrun
        obtain ⟨om, hom⟩ : ∃ o, v1.heap.size = o := ⟨_, rfl⟩
        rw [hom] at hown ⊢
        have M2 : Hid (Nums v2 W.heap.size (.slice (some ⟨om, 0, none⟩) 64 64) (List.replicate 64 0)) := hown.mono (by have := Sx1.out.size; omega)
        have OL : Hid (∀ k, Own4 (.slice r0 n0' k0') (.slice r1 n1' k1') (.slice r2 n2' k2') (.slice r3 n3' k3') k → k ≠ om) := fun k e f => by have := (H1.out.own k e).2; omega
        have Sx2 : Hid (Below W.heap.size W v2) := on Sx1.out bq
        have H2 : Hid (Hm v2 W.heap.size (.slice r0 n0' k0') (.slice r1 n1' k1') (.slice r2 n2' k2') (.slice r3 n3' k3') H) := H1.out.keep bq
        clear hown hgrow bq hom
        refine hK.out _ _ Sx2.out (fun _ => ?_)
        clear hK K
        refine wpAnyH_ready (rs := [12, 15]) (by kernel_rfl) (by simp) ?_
        refine AllReadyH.cons rfl (fun K hK => ?_) (AllReadyH.cons rfl (fun K hK => ?_) AllReadyH.nil)
        · skip
          rw [if_pos (by rfl)]
          go_simp
          have PF := s_pages11 q (g : Int) X.pol v2 (PA.out v2 Sx2.out) ⟨by omega, by have := OK.out.g0; omega⟩ OK.out.pp (by rw [Int.toNat_natCast]; exact OK.out.pg)
          rw [Int.toNat_natCast, HPS.out] at PF
          refine PF.mono ?_
          clear PF
          rintro e v3 ⟨lv, rfl, pr, bq⟩
          obtain ⟨l0, lk, hle, _⟩ := pr.shape
          rw [aloL_len] at hle
          subst hle
          have L3 : Hid (Prs 77 v3 W.heap.size (.slice l0 8 lk) (aloL PS)) := prs_mono pr Sx2.out.size
          have Sx3 : Hid (Below W.heap.size W v3) := on Sx2.out bq
          have H3 : Hid (Hm v3 W.heap.size (.slice r0 n0' k0') (.slice r1 n1' k1') (.slice r2 n2' k2') (.slice r3 n3' k3') H) := H2.out.keep bq
          have M3 : Hid (Nums v3 W.heap.size (.slice (some ⟨om, 0, none⟩) 64 64) (List.replicate 64 0)) := M2.out.keep bq
          clear pr bq
          refine hK.out _ _ Sx3.out (fun _ => ?_)
          clear hK K
          refine wpAnyH_take (i := 14) (v := (.agg #[.slice r0 n0' k0', .int .i64 H.pc, .slice r1 n1' k1', .bool H.halted, .bool H.waiting, .bool H.rung, .int .i64 H.done, .slice r2 n2' k2', .slice r3 n3' k3', .slice l0 8 lk, .slice (some ⟨om, 0, none⟩) 64 64])) rfl (by kernel_rfl) (by kernel_rfl) (by kernel_rfl) (fun _ _ _ h => h) (Or.inl ⟨by rfl, fun w' hs => by go_simp⟩) Sx3.out ?_
          change wpAnyH _ _ _ _ _ _ _ (Act.put _ (some 22) _) _
          simp only [Act.put, List.setIfInBounds_toArray, List.set_cons_zero, List.set_cons_succ]
          refine wpAnyH_ready (rs := [15]) (by kernel_rfl) (by simp) ?_
          refine AllReadyH.cons rfl (fun K hK => ?_) AllReadyH.nil
          rw [if_pos (by rfl)]
          go_simp
          have bq : Below v3.heap.size v3 (v3.alloc (.cells #[.slice none 0 0, .int .i64 0, .slice none 0 0, .bool false, .bool false, .bool false, .int .i64 0, .slice none 0 0, .slice none 0 0, .slice none 0 0, .slice none 0 0] 37)) := al (Below.refl _ _) _
          have T4' : Hid (Vb (v3.alloc (.cells #[.slice none 0 0, .int .i64 0, .slice none 0 0, .bool false, .bool false, .bool false, .int .i64 0, .slice none 0 0, .slice none 0 0, .slice none 0 0, .slice none 0 0] 37)) v3.heap.size #[.slice none 0 0, .int .i64 0, .slice none 0 0, .bool false, .bool false, .bool false, .int .i64 0, .slice none 0 0, .slice none 0 0, .slice none 0 0, .slice none 0 0] 37) := Vb.new _ _ _
          obtain ⟨t, ht⟩ : ∃ t, v3.heap.size = t := ⟨_, rfl⟩
          have TB : Hid (W.heap.size ≤ t) := by have := Sx3.out.size; show _ ≤ _; omega
          rw [ht] at T4' ⊢
          generalize v3.alloc (.cells #[.slice none 0 0, .int .i64 0, .slice none 0 0, .bool false, .bool false, .bool false, .int .i64 0, .slice none 0 0, .slice none 0 0, .slice none 0 0, .slice none 0 0] 37) = v4 at *
          have T4 : Hid (Vb v4 t #[.slice none 0 0, .int .i64 0, .slice none 0 0, .bool false, .bool false, .bool false, .int .i64 0, .slice none 0 0, .slice none 0 0, .slice none 0 0, .slice none 0 0] 37) := T4'.out
          have Sx4 : Hid (Below W.heap.size W v4) := on Sx3.out bq
          have H4 : Hid (Hm v4 W.heap.size (.slice r0 n0' k0') (.slice r1 n1' k1') (.slice r2 n2' k2') (.slice r3 n3' k3') H) := H3.out.keep bq
          have L4 : Hid (Prs 77 v4 W.heap.size (.slice l0 8 lk) (aloL PS)) := L3.out.keep bq
          have M4 : Hid (Nums v4 W.heap.size (.slice (some ⟨om, 0, none⟩) 64 64) (List.replicate 64 0)) := M3.out.keep bq
          clear bq ht
          refine hK.out _ _ Sx4.out (fun _ => ?_)
          clear hK K
          refine wpAnyH_ready (rs := [16]) (by kernel_rfl) (by simp) ?_
          refine AllReadyH.cons rfl (fun K hK => ?_) AllReadyH.nil
          rw [if_pos (by rfl)]
          refine wp_store_mid 37 (.tmp 5) (.tmp 22) rfl t 0 #[.slice r0 n0' k0', .int .i64 H.pc, .slice r1 n1' k1', .bool H.halted, .bool H.waiting, .bool H.rung, .int .i64 H.done, .slice r2 n2' k2', .slice r3 n3' k3', .slice l0 8 lk, .slice (some ⟨om, 0, none⟩) 64 64] rfl rfl (T4.out.there 11 (by decide)) (by kernel_rfl) (by simp [Value.oneCell']) ?_
          change K (Act.put _ none undef) _
          simp only [Act.put]
          have NR : Hid (Vb (v4.setCells t 0 #[.slice r0 n0' k0', .int .i64 H.pc, .slice r1 n1' k1', .bool H.halted, .bool H.waiting, .bool H.rung, .int .i64 H.done, .slice r2 n2' k2', .slice r3 n3' k3', .slice l0 8 lk, .slice (some ⟨om, 0, none⟩) 64 64].toList) t #[.slice r0 n0' k0', .int .i64 H.pc, .slice r1 n1' k1', .bool H.halted, .bool H.waiting, .bool H.rung, .int .i64 H.done, .slice r2 n2' k2', .slice r3 n3' k3', .slice l0 8 lk, .slice (some ⟨om, 0, none⟩) 64 64] 37 ∧ Mq (fun k => k = t) v4 (v4.setCells t 0 #[.slice r0 n0' k0', .int .i64 H.pc, .slice r1 n1' k1', .bool H.halted, .bool H.waiting, .bool H.rung, .int .i64 H.done, .slice r2 n2' k2', .slice r3 n3' k3', .slice l0 8 lk, .slice (some ⟨om, 0, none⟩) 64 64].toList)) := elevenX T4.out (.slice r0 n0' k0') (.int .i64 H.pc) (.slice r1 n1' k1') (.bool H.halted) (.bool H.waiting) (.bool H.rung) (.int .i64 H.done) (.slice r2 n2' k2') (.slice r3 n3' k3') (.slice l0 8 lk) (.slice (some ⟨om, 0, none⟩) 64 64)
          have NH : Hid (∀ k, Own4 (.slice r0 n0' k0') (.slice r1 n1' k1') (.slice r2 n2' k2') (.slice r3 n3' k3') k → ¬ k = t) := fun k e f => by subst f; exact own4_ne H4.out T4.out (by decide) k e rfl
          have NM : Hid (t ≠ om) := fun f => M4.out.ne_vb T4.out (by decide) (by rw [f]; rfl)
          have NL : Hid (∀ k, (Value.slice l0 8 lk).ownBlock = some k → ¬ k = t) := fun k e f => by subst f; exact prs_ne_vb L4.out T4.out (by decide) e
          generalize (v4.setCells t 0 #[.slice r0 n0' k0', .int .i64 H.pc, .slice r1 n1' k1', .bool H.halted, .bool H.waiting, .bool H.rung, .int .i64 H.done, .slice r2 n2' k2', .slice r3 n3' k3', .slice l0 8 lk, .slice (some ⟨om, 0, none⟩) 64 64].toList) = V at *
          have VB : Hid (Below W.heap.size W V) := Mq.under Sx4.out NR.out.2 fun k e => by have := TB.out; omega
          have VH : Hid (Hm V W.heap.size (.slice r0 n0' k0') (.slice r1 n1' k1') (.slice r2 n2' k2') (.slice r3 n3' k3') H) := NR.out.2.hm H4.out fun k e f => NH.out k e f
          have VL : Hid (Prs 77 V W.heap.size (.slice l0 8 lk) (aloL PS)) := prs_mq L4.out NR.out.2 NL.out
          have VM : Hid (Nums V W.heap.size (.slice (some ⟨om, 0, none⟩) 64 64) (List.replicate 64 0)) := NR.out.2.nums M4.out fun k e f => by have e' : om = k := (by simpa [Value.ownBlock] using e); have := NM.out; omega
          refine hK.out _ _ VB.out (fun _ => ?_)
          clear hK K
          refine wpAnyH_done (by kernel_rfl) ?_ _
          go_wp2_with fail
          go_meet
          exact ⟨t, om, r0, r1, r2, r3, l0, n0', k0', n1', k1', n2', k2', n3', k3', lk, rfl, VB.out, NR.out.1, VH.out, HA'.out, VL.out, VM.out, OL.out, TB.out, (VM.out.lt om rfl).1, NM.out⟩
        · skip
          rw [if_pos (by rfl)]
          go_simp
          have bq : Below v2.heap.size v2 (v2.alloc (.cells #[.slice none 0 0, .int .i64 0, .slice none 0 0, .bool false, .bool false, .bool false, .int .i64 0, .slice none 0 0, .slice none 0 0, .slice none 0 0, .slice none 0 0] 37)) := al (Below.refl _ _) _
          have T3' : Hid (Vb (v2.alloc (.cells #[.slice none 0 0, .int .i64 0, .slice none 0 0, .bool false, .bool false, .bool false, .int .i64 0, .slice none 0 0, .slice none 0 0, .slice none 0 0, .slice none 0 0] 37)) v2.heap.size #[.slice none 0 0, .int .i64 0, .slice none 0 0, .bool false, .bool false, .bool false, .int .i64 0, .slice none 0 0, .slice none 0 0, .slice none 0 0, .slice none 0 0] 37) := Vb.new _ _ _
          obtain ⟨t, ht⟩ : ∃ t, v2.heap.size = t := ⟨_, rfl⟩
          have TB : Hid (W.heap.size ≤ t) := by have := Sx2.out.size; show _ ≤ _; omega
          rw [ht] at T3' ⊢
          generalize v2.alloc (.cells #[.slice none 0 0, .int .i64 0, .slice none 0 0, .bool false, .bool false, .bool false, .int .i64 0, .slice none 0 0, .slice none 0 0, .slice none 0 0, .slice none 0 0] 37) = v3 at *
          have T3 : Hid (Vb v3 t #[.slice none 0 0, .int .i64 0, .slice none 0 0, .bool false, .bool false, .bool false, .int .i64 0, .slice none 0 0, .slice none 0 0, .slice none 0 0, .slice none 0 0] 37) := T3'.out
          have Sx3 : Hid (Below W.heap.size W v3) := on Sx2.out bq
          have H3 : Hid (Hm v3 W.heap.size (.slice r0 n0' k0') (.slice r1 n1' k1') (.slice r2 n2' k2') (.slice r3 n3' k3') H) := H2.out.keep bq
          have M3 : Hid (Nums v3 W.heap.size (.slice (some ⟨om, 0, none⟩) 64 64) (List.replicate 64 0)) := M2.out.keep bq
          clear bq ht
          refine hK.out _ _ Sx3.out (fun _ => ?_)
          clear hK K
          refine wpAnyH_ready (rs := [12]) (by kernel_rfl) (by simp) ?_
          refine AllReadyH.cons rfl (fun K hK => ?_) AllReadyH.nil
          rw [if_pos (by rfl)]
          go_simp
          have PF := s_pages11 q (g : Int) X.pol v3 (PA.out v3 Sx3.out) ⟨by omega, by have := OK.out.g0; omega⟩ OK.out.pp (by rw [Int.toNat_natCast]; exact OK.out.pg)
          rw [Int.toNat_natCast, HPS.out] at PF
          refine PF.mono ?_
          clear PF
          rintro e v4 ⟨lv, rfl, pr, bq⟩
          obtain ⟨l0, lk, hle, _⟩ := pr.shape
          rw [aloL_len] at hle
          subst hle
          have L4 : Hid (Prs 77 v4 W.heap.size (.slice l0 8 lk) (aloL PS)) := prs_mono pr Sx3.out.size
          have Sx4 : Hid (Below W.heap.size W v4) := on Sx3.out bq
          have H4 : Hid (Hm v4 W.heap.size (.slice r0 n0' k0') (.slice r1 n1' k1') (.slice r2 n2' k2') (.slice r3 n3' k3') H) := H3.out.keep bq
          have M4 : Hid (Nums v4 W.heap.size (.slice (some ⟨om, 0, none⟩) 64 64) (List.replicate 64 0)) := M3.out.keep bq
          have T4 : Hid (Vb v4 t #[.slice none 0 0, .int .i64 0, .slice none 0 0, .bool false, .bool false, .bool false, .int .i64 0, .slice none 0 0, .slice none 0 0, .slice none 0 0, .slice none 0 0] 37) := T3.out.keep bq
          clear pr bq
          refine hK.out _ _ Sx4.out (fun _ => ?_)
          clear hK K
          refine wpAnyH_take (i := 14) (v := (.agg #[.slice r0 n0' k0', .int .i64 H.pc, .slice r1 n1' k1', .bool H.halted, .bool H.waiting, .bool H.rung, .int .i64 H.done, .slice r2 n2' k2', .slice r3 n3' k3', .slice l0 8 lk, .slice (some ⟨om, 0, none⟩) 64 64])) rfl (by kernel_rfl) (by kernel_rfl) (by kernel_rfl) (fun _ _ _ h => h) (Or.inl ⟨by rfl, fun w' hs => by go_simp⟩) Sx4.out ?_
          change wpAnyH _ _ _ _ _ _ _ (Act.put _ (some 22) _) _
          simp only [Act.put, List.setIfInBounds_toArray, List.set_cons_zero, List.set_cons_succ]
          refine wpAnyH_ready (rs := [16]) (by kernel_rfl) (by simp) ?_
          refine AllReadyH.cons rfl (fun K hK => ?_) AllReadyH.nil
          rw [if_pos (by rfl)]
          refine wp_store_mid 37 (.tmp 5) (.tmp 22) rfl t 0 #[.slice r0 n0' k0', .int .i64 H.pc, .slice r1 n1' k1', .bool H.halted, .bool H.waiting, .bool H.rung, .int .i64 H.done, .slice r2 n2' k2', .slice r3 n3' k3', .slice l0 8 lk, .slice (some ⟨om, 0, none⟩) 64 64] rfl rfl (T4.out.there 11 (by decide)) (by kernel_rfl) (by simp [Value.oneCell']) ?_
          change K (Act.put _ none undef) _
          simp only [Act.put]
          have NR : Hid (Vb (v4.setCells t 0 #[.slice r0 n0' k0', .int .i64 H.pc, .slice r1 n1' k1', .bool H.halted, .bool H.waiting, .bool H.rung, .int .i64 H.done, .slice r2 n2' k2', .slice r3 n3' k3', .slice l0 8 lk, .slice (some ⟨om, 0, none⟩) 64 64].toList) t #[.slice r0 n0' k0', .int .i64 H.pc, .slice r1 n1' k1', .bool H.halted, .bool H.waiting, .bool H.rung, .int .i64 H.done, .slice r2 n2' k2', .slice r3 n3' k3', .slice l0 8 lk, .slice (some ⟨om, 0, none⟩) 64 64] 37 ∧ Mq (fun k => k = t) v4 (v4.setCells t 0 #[.slice r0 n0' k0', .int .i64 H.pc, .slice r1 n1' k1', .bool H.halted, .bool H.waiting, .bool H.rung, .int .i64 H.done, .slice r2 n2' k2', .slice r3 n3' k3', .slice l0 8 lk, .slice (some ⟨om, 0, none⟩) 64 64].toList)) := elevenX T4.out (.slice r0 n0' k0') (.int .i64 H.pc) (.slice r1 n1' k1') (.bool H.halted) (.bool H.waiting) (.bool H.rung) (.int .i64 H.done) (.slice r2 n2' k2') (.slice r3 n3' k3') (.slice l0 8 lk) (.slice (some ⟨om, 0, none⟩) 64 64)
          have NH : Hid (∀ k, Own4 (.slice r0 n0' k0') (.slice r1 n1' k1') (.slice r2 n2' k2') (.slice r3 n3' k3') k → ¬ k = t) := fun k e f => by subst f; exact own4_ne H4.out T4.out (by decide) k e rfl
          have NM : Hid (t ≠ om) := fun f => M4.out.ne_vb T4.out (by decide) (by rw [f]; rfl)
          have NL : Hid (∀ k, (Value.slice l0 8 lk).ownBlock = some k → ¬ k = t) := fun k e f => by subst f; exact prs_ne_vb L4.out T4.out (by decide) e
          generalize (v4.setCells t 0 #[.slice r0 n0' k0', .int .i64 H.pc, .slice r1 n1' k1', .bool H.halted, .bool H.waiting, .bool H.rung, .int .i64 H.done, .slice r2 n2' k2', .slice r3 n3' k3', .slice l0 8 lk, .slice (some ⟨om, 0, none⟩) 64 64].toList) = V at *
          have VB : Hid (Below W.heap.size W V) := Mq.under Sx4.out NR.out.2 fun k e => by have := TB.out; omega
          have VH : Hid (Hm V W.heap.size (.slice r0 n0' k0') (.slice r1 n1' k1') (.slice r2 n2' k2') (.slice r3 n3' k3') H) := NR.out.2.hm H4.out fun k e f => NH.out k e f
          have VL : Hid (Prs 77 V W.heap.size (.slice l0 8 lk) (aloL PS)) := prs_mq L4.out NR.out.2 NL.out
          have VM : Hid (Nums V W.heap.size (.slice (some ⟨om, 0, none⟩) 64 64) (List.replicate 64 0)) := NR.out.2.nums M4.out fun k e f => by have e' : om = k := (by simpa [Value.ownBlock] using e); have := NM.out; omega
          refine hK.out _ _ VB.out (fun _ => ?_)
          clear hK K
          refine wpAnyH_done (by kernel_rfl) ?_ _
          go_wp2_with fail
          go_meet
          exact ⟨t, om, r0, r1, r2, r3, l0, n0', k0', n1', k1', n2', k2', n3', k3', lk, rfl, VB.out, NR.out.1, VH.out, HA'.out, VL.out, VM.out, OL.out, TB.out, (VM.out.lt om rfl).1, NM.out⟩
      · skip
        rw [if_pos (by rfl)]
        go_simp
        have bq : Below v1.heap.size v1 (v1.alloc (.cells #[.slice none 0 0, .int .i64 0, .slice none 0 0, .bool false, .bool false, .bool false, .int .i64 0, .slice none 0 0, .slice none 0 0, .slice none 0 0, .slice none 0 0] 37)) := al (Below.refl _ _) _
        have T2' : Hid (Vb (v1.alloc (.cells #[.slice none 0 0, .int .i64 0, .slice none 0 0, .bool false, .bool false, .bool false, .int .i64 0, .slice none 0 0, .slice none 0 0, .slice none 0 0, .slice none 0 0] 37)) v1.heap.size #[.slice none 0 0, .int .i64 0, .slice none 0 0, .bool false, .bool false, .bool false, .int .i64 0, .slice none 0 0, .slice none 0 0, .slice none 0 0, .slice none 0 0] 37) := Vb.new _ _ _
        obtain ⟨t, ht⟩ : ∃ t, v1.heap.size = t := ⟨_, rfl⟩
        have TB : Hid (W.heap.size ≤ t) := by have := Sx1.out.size; show _ ≤ _; omega
        rw [ht] at T2' ⊢
        generalize v1.alloc (.cells #[.slice none 0 0, .int .i64 0, .slice none 0 0, .bool false, .bool false, .bool false, .int .i64 0, .slice none 0 0, .slice none 0 0, .slice none 0 0, .slice none 0 0] 37) = v2 at *
        have T2 : Hid (Vb v2 t #[.slice none 0 0, .int .i64 0, .slice none 0 0, .bool false, .bool false, .bool false, .int .i64 0, .slice none 0 0, .slice none 0 0, .slice none 0 0, .slice none 0 0] 37) := T2'.out
        have Sx2 : Hid (Below W.heap.size W v2) := on Sx1.out bq
        have H2 : Hid (Hm v2 W.heap.size (.slice r0 n0' k0') (.slice r1 n1' k1') (.slice r2 n2' k2') (.slice r3 n3' k3') H) := H1.out.keep bq
        clear bq ht
        refine hK.out _ _ Sx2.out (fun _ => ?_)
        clear hK K
        refine wpAnyH_ready (rs := [12, 13]) (by kernel_rfl) (by simp) ?_
        refine AllReadyH.cons rfl (fun K hK => ?_) (AllReadyH.cons rfl (fun K hK => ?_) AllReadyH.nil)
        · skip
          rw [if_pos (by rfl)]
          go_simp
          have PF := s_pages11 q (g : Int) X.pol v2 (PA.out v2 Sx2.out) ⟨by omega, by have := OK.out.g0; omega⟩ OK.out.pp (by rw [Int.toNat_natCast]; exact OK.out.pg)
          rw [Int.toNat_natCast, HPS.out] at PF
          refine PF.mono ?_
          clear PF
          rintro e v3 ⟨lv, rfl, pr, bq⟩
          obtain ⟨l0, lk, hle, _⟩ := pr.shape
          rw [aloL_len] at hle
          subst hle
          have L3 : Hid (Prs 77 v3 W.heap.size (.slice l0 8 lk) (aloL PS)) := prs_mono pr Sx2.out.size
          have Sx3 : Hid (Below W.heap.size W v3) := on Sx2.out bq
          have H3 : Hid (Hm v3 W.heap.size (.slice r0 n0' k0') (.slice r1 n1' k1') (.slice r2 n2' k2') (.slice r3 n3' k3') H) := H2.out.keep bq
          have T3 : Hid (Vb v3 t #[.slice none 0 0, .int .i64 0, .slice none 0 0, .bool false, .bool false, .bool false, .int .i64 0, .slice none 0 0, .slice none 0 0, .slice none 0 0, .slice none 0 0] 37) := T2.out.keep bq
          clear pr bq
          refine hK.out _ _ Sx3.out (fun _ => ?_)
          clear hK K
          refine wpAnyH_ready (rs := [13]) (by kernel_rfl) (by simp) ?_
          refine AllReadyH.cons rfl (fun K hK => ?_) AllReadyH.nil
          obtain ⟨v4, hrun, hown, hgrow⟩ := mk64 v3
          have bq : Below v3.heap.size v3 v4 := (Below.refl _ _).grown hgrow (Nat.le_refl _) (by simp)
          rw [if_pos (by rfl)]
          go_simp
          clear hrun
          obtain ⟨om, hom⟩ : ∃ o, v3.heap.size = o := ⟨_, rfl⟩
          rw [hom] at hown ⊢
          have M4 : Hid (Nums v4 W.heap.size (.slice (some ⟨om, 0, none⟩) 64 64) (List.replicate 64 0)) := hown.mono (by have := Sx3.out.size; omega)
          have OL : Hid (∀ k, Own4 (.slice r0 n0' k0') (.slice r1 n1' k1') (.slice r2 n2' k2') (.slice r3 n3' k3') k → k ≠ om) := fun k e f => by have := (H3.out.own k e).2; omega
          have Sx4 : Hid (Below W.heap.size W v4) := on Sx3.out bq
          have H4 : Hid (Hm v4 W.heap.size (.slice r0 n0' k0') (.slice r1 n1' k1') (.slice r2 n2' k2') (.slice r3 n3' k3') H) := H3.out.keep bq
          have L4 : Hid (Prs 77 v4 W.heap.size (.slice l0 8 lk) (aloL PS)) := L3.out.keep bq
          have T4 : Hid (Vb v4 t #[.slice none 0 0, .int .i64 0, .slice none 0 0, .bool false, .bool false, .bool false, .int .i64 0, .slice none 0 0, .slice none 0 0, .slice none 0 0, .slice none 0 0] 37) := T3.out.keep bq
          clear hown hgrow bq hom
          refine hK.out _ _ Sx4.out (fun _ => ?_)
          clear hK K
          refine wpAnyH_take (i := 14) (v := (.agg #[.slice r0 n0' k0', .int .i64 H.pc, .slice r1 n1' k1', .bool H.halted, .bool H.waiting, .bool H.rung, .int .i64 H.done, .slice r2 n2' k2', .slice r3 n3' k3', .slice l0 8 lk, .slice (some ⟨om, 0, none⟩) 64 64])) rfl (by kernel_rfl) (by kernel_rfl) (by kernel_rfl) (fun _ _ _ h => h) (Or.inl ⟨by rfl, fun w' hs => by go_simp⟩) Sx4.out ?_
          change wpAnyH _ _ _ _ _ _ _ (Act.put _ (some 22) _) _
          simp only [Act.put, List.setIfInBounds_toArray, List.set_cons_zero, List.set_cons_succ]
          refine wpAnyH_ready (rs := [16]) (by kernel_rfl) (by simp) ?_
          refine AllReadyH.cons rfl (fun K hK => ?_) AllReadyH.nil
          rw [if_pos (by rfl)]
          refine wp_store_mid 37 (.tmp 5) (.tmp 22) rfl t 0 #[.slice r0 n0' k0', .int .i64 H.pc, .slice r1 n1' k1', .bool H.halted, .bool H.waiting, .bool H.rung, .int .i64 H.done, .slice r2 n2' k2', .slice r3 n3' k3', .slice l0 8 lk, .slice (some ⟨om, 0, none⟩) 64 64] rfl rfl (T4.out.there 11 (by decide)) (by kernel_rfl) (by simp [Value.oneCell']) ?_
          change K (Act.put _ none undef) _
          simp only [Act.put]
          have NR : Hid (Vb (v4.setCells t 0 #[.slice r0 n0' k0', .int .i64 H.pc, .slice r1 n1' k1', .bool H.halted, .bool H.waiting, .bool H.rung, .int .i64 H.done, .slice r2 n2' k2', .slice r3 n3' k3', .slice l0 8 lk, .slice (some ⟨om, 0, none⟩) 64 64].toList) t #[.slice r0 n0' k0', .int .i64 H.pc, .slice r1 n1' k1', .bool H.halted, .bool H.waiting, .bool H.rung, .int .i64 H.done, .slice r2 n2' k2', .slice r3 n3' k3', .slice l0 8 lk, .slice (some ⟨om, 0, none⟩) 64 64] 37 ∧ Mq (fun k => k = t) v4 (v4.setCells t 0 #[.slice r0 n0' k0', .int .i64 H.pc, .slice r1 n1' k1', .bool H.halted, .bool H.waiting, .bool H.rung, .int .i64 H.done, .slice r2 n2' k2', .slice r3 n3' k3', .slice l0 8 lk, .slice (some ⟨om, 0, none⟩) 64 64].toList)) := elevenX T4.out (.slice r0 n0' k0') (.int .i64 H.pc) (.slice r1 n1' k1') (.bool H.halted) (.bool H.waiting) (.bool H.rung) (.int .i64 H.done) (.slice r2 n2' k2') (.slice r3 n3' k3') (.slice l0 8 lk) (.slice (some ⟨om, 0, none⟩) 64 64)
          have NH : Hid (∀ k, Own4 (.slice r0 n0' k0') (.slice r1 n1' k1') (.slice r2 n2' k2') (.slice r3 n3' k3') k → ¬ k = t) := fun k e f => by subst f; exact own4_ne H4.out T4.out (by decide) k e rfl
          have NM : Hid (t ≠ om) := fun f => M4.out.ne_vb T4.out (by decide) (by rw [f]; rfl)
          have NL : Hid (∀ k, (Value.slice l0 8 lk).ownBlock = some k → ¬ k = t) := fun k e f => by subst f; exact prs_ne_vb L4.out T4.out (by decide) e
          generalize (v4.setCells t 0 #[.slice r0 n0' k0', .int .i64 H.pc, .slice r1 n1' k1', .bool H.halted, .bool H.waiting, .bool H.rung, .int .i64 H.done, .slice r2 n2' k2', .slice r3 n3' k3', .slice l0 8 lk, .slice (some ⟨om, 0, none⟩) 64 64].toList) = V at *
          have VB : Hid (Below W.heap.size W V) := Mq.under Sx4.out NR.out.2 fun k e => by have := TB.out; omega
          have VH : Hid (Hm V W.heap.size (.slice r0 n0' k0') (.slice r1 n1' k1') (.slice r2 n2' k2') (.slice r3 n3' k3') H) := NR.out.2.hm H4.out fun k e f => NH.out k e f
          have VL : Hid (Prs 77 V W.heap.size (.slice l0 8 lk) (aloL PS)) := prs_mq L4.out NR.out.2 NL.out
          have VM : Hid (Nums V W.heap.size (.slice (some ⟨om, 0, none⟩) 64 64) (List.replicate 64 0)) := NR.out.2.nums M4.out fun k e f => by have e' : om = k := (by simpa [Value.ownBlock] using e); have := NM.out; omega
          refine hK.out _ _ VB.out (fun _ => ?_)
          clear hK K
          refine wpAnyH_done (by kernel_rfl) ?_ _
          go_wp2_with fail
          go_meet
          exact ⟨t, om, r0, r1, r2, r3, l0, n0', k0', n1', k1', n2', k2', n3', k3', lk, rfl, VB.out, NR.out.1, VH.out, HA'.out, VL.out, VM.out, OL.out, TB.out, (VM.out.lt om rfl).1, NM.out⟩
        · skip
          obtain ⟨v3, hrun, hown, hgrow⟩ := mk64 v2
          have bq : Below v2.heap.size v2 v3 := (Below.refl _ _).grown hgrow (Nat.le_refl _) (by simp)
          rw [if_pos (by rfl)]
          go_simp
          clear hrun
          obtain ⟨om, hom⟩ : ∃ o, v2.heap.size = o := ⟨_, rfl⟩
          rw [hom] at hown ⊢
          have M3 : Hid (Nums v3 W.heap.size (.slice (some ⟨om, 0, none⟩) 64 64) (List.replicate 64 0)) := hown.mono (by have := Sx2.out.size; omega)
          have OL : Hid (∀ k, Own4 (.slice r0 n0' k0') (.slice r1 n1' k1') (.slice r2 n2' k2') (.slice r3 n3' k3') k → k ≠ om) := fun k e f => by have := (H2.out.own k e).2; omega
          have Sx3 : Hid (Below W.heap.size W v3) := on Sx2.out bq
          have H3 : Hid (Hm v3 W.heap.size (.slice r0 n0' k0') (.slice r1 n1' k1') (.slice r2 n2' k2') (.slice r3 n3' k3') H) := H2.out.keep bq
          have T3 : Hid (Vb v3 t #[.slice none 0 0, .int .i64 0, .slice none 0 0, .bool false, .bool false, .bool false, .int .i64 0, .slice none 0 0, .slice none 0 0, .slice none 0 0, .slice none 0 0] 37) := T2.out.keep bq
          clear hown hgrow bq hom
          refine hK.out _ _ Sx3.out (fun _ => ?_)
          clear hK K
          refine wpAnyH_ready (rs := [12]) (by kernel_rfl) (by simp) ?_
          refine AllReadyH.cons rfl (fun K hK => ?_) AllReadyH.nil
          rw [if_pos (by rfl)]
          go_simp
          have PF := s_pages11 q (g : Int) X.pol v3 (PA.out v3 Sx3.out) ⟨by omega, by have := OK.out.g0; omega⟩ OK.out.pp (by rw [Int.toNat_natCast]; exact OK.out.pg)
          rw [Int.toNat_natCast, HPS.out] at PF
          refine PF.mono ?_
          clear PF
          rintro e v4 ⟨lv, rfl, pr, bq⟩
          obtain ⟨l0, lk, hle, _⟩ := pr.shape
          rw [aloL_len] at hle
          subst hle
          have L4 : Hid (Prs 77 v4 W.heap.size (.slice l0 8 lk) (aloL PS)) := prs_mono pr Sx3.out.size
          have Sx4 : Hid (Below W.heap.size W v4) := on Sx3.out bq
          have H4 : Hid (Hm v4 W.heap.size (.slice r0 n0' k0') (.slice r1 n1' k1') (.slice r2 n2' k2') (.slice r3 n3' k3') H) := H3.out.keep bq
          have M4 : Hid (Nums v4 W.heap.size (.slice (some ⟨om, 0, none⟩) 64 64) (List.replicate 64 0)) := M3.out.keep bq
          have T4 : Hid (Vb v4 t #[.slice none 0 0, .int .i64 0, .slice none 0 0, .bool false, .bool false, .bool false, .int .i64 0, .slice none 0 0, .slice none 0 0, .slice none 0 0, .slice none 0 0] 37) := T3.out.keep bq
          clear pr bq
          refine hK.out _ _ Sx4.out (fun _ => ?_)
          clear hK K
          refine wpAnyH_take (i := 14) (v := (.agg #[.slice r0 n0' k0', .int .i64 H.pc, .slice r1 n1' k1', .bool H.halted, .bool H.waiting, .bool H.rung, .int .i64 H.done, .slice r2 n2' k2', .slice r3 n3' k3', .slice l0 8 lk, .slice (some ⟨om, 0, none⟩) 64 64])) rfl (by kernel_rfl) (by kernel_rfl) (by kernel_rfl) (fun _ _ _ h => h) (Or.inl ⟨by rfl, fun w' hs => by go_simp⟩) Sx4.out ?_
          change wpAnyH _ _ _ _ _ _ _ (Act.put _ (some 22) _) _
          simp only [Act.put, List.setIfInBounds_toArray, List.set_cons_zero, List.set_cons_succ]
          refine wpAnyH_ready (rs := [16]) (by kernel_rfl) (by simp) ?_
          refine AllReadyH.cons rfl (fun K hK => ?_) AllReadyH.nil
          rw [if_pos (by rfl)]
          refine wp_store_mid 37 (.tmp 5) (.tmp 22) rfl t 0 #[.slice r0 n0' k0', .int .i64 H.pc, .slice r1 n1' k1', .bool H.halted, .bool H.waiting, .bool H.rung, .int .i64 H.done, .slice r2 n2' k2', .slice r3 n3' k3', .slice l0 8 lk, .slice (some ⟨om, 0, none⟩) 64 64] rfl rfl (T4.out.there 11 (by decide)) (by kernel_rfl) (by simp [Value.oneCell']) ?_
          change K (Act.put _ none undef) _
          simp only [Act.put]
          have NR : Hid (Vb (v4.setCells t 0 #[.slice r0 n0' k0', .int .i64 H.pc, .slice r1 n1' k1', .bool H.halted, .bool H.waiting, .bool H.rung, .int .i64 H.done, .slice r2 n2' k2', .slice r3 n3' k3', .slice l0 8 lk, .slice (some ⟨om, 0, none⟩) 64 64].toList) t #[.slice r0 n0' k0', .int .i64 H.pc, .slice r1 n1' k1', .bool H.halted, .bool H.waiting, .bool H.rung, .int .i64 H.done, .slice r2 n2' k2', .slice r3 n3' k3', .slice l0 8 lk, .slice (some ⟨om, 0, none⟩) 64 64] 37 ∧ Mq (fun k => k = t) v4 (v4.setCells t 0 #[.slice r0 n0' k0', .int .i64 H.pc, .slice r1 n1' k1', .bool H.halted, .bool H.waiting, .bool H.rung, .int .i64 H.done, .slice r2 n2' k2', .slice r3 n3' k3', .slice l0 8 lk, .slice (some ⟨om, 0, none⟩) 64 64].toList)) := elevenX T4.out (.slice r0 n0' k0') (.int .i64 H.pc) (.slice r1 n1' k1') (.bool H.halted) (.bool H.waiting) (.bool H.rung) (.int .i64 H.done) (.slice r2 n2' k2') (.slice r3 n3' k3') (.slice l0 8 lk) (.slice (some ⟨om, 0, none⟩) 64 64)
          have NH : Hid (∀ k, Own4 (.slice r0 n0' k0') (.slice r1 n1' k1') (.slice r2 n2' k2') (.slice r3 n3' k3') k → ¬ k = t) := fun k e f => by subst f; exact own4_ne H4.out T4.out (by decide) k e rfl
          have NM : Hid (t ≠ om) := fun f => M4.out.ne_vb T4.out (by decide) (by rw [f]; rfl)
          have NL : Hid (∀ k, (Value.slice l0 8 lk).ownBlock = some k → ¬ k = t) := fun k e f => by subst f; exact prs_ne_vb L4.out T4.out (by decide) e
          generalize (v4.setCells t 0 #[.slice r0 n0' k0', .int .i64 H.pc, .slice r1 n1' k1', .bool H.halted, .bool H.waiting, .bool H.rung, .int .i64 H.done, .slice r2 n2' k2', .slice r3 n3' k3', .slice l0 8 lk, .slice (some ⟨om, 0, none⟩) 64 64].toList) = V at *
          have VB : Hid (Below W.heap.size W V) := Mq.under Sx4.out NR.out.2 fun k e => by have := TB.out; omega
          have VH : Hid (Hm V W.heap.size (.slice r0 n0' k0') (.slice r1 n1' k1') (.slice r2 n2' k2') (.slice r3 n3' k3') H) := NR.out.2.hm H4.out fun k e f => NH.out k e f
          have VL : Hid (Prs 77 V W.heap.size (.slice l0 8 lk) (aloL PS)) := prs_mq L4.out NR.out.2 NL.out
          have VM : Hid (Nums V W.heap.size (.slice (some ⟨om, 0, none⟩) 64 64) (List.replicate 64 0)) := NR.out.2.nums M4.out fun k e f => by have e' : om = k := (by simpa [Value.ownBlock] using e); have := NM.out; omega
          refine hK.out _ _ VB.out (fun _ => ?_)
          clear hK K
          refine wpAnyH_done (by kernel_rfl) ?_ _
          go_wp2_with fail
          go_meet
          exact ⟨t, om, r0, r1, r2, r3, l0, n0', k0', n1', k1', n2', k2', n3', k3', lk, rfl, VB.out, NR.out.1, VH.out, HA'.out, VL.out, VM.out, OL.out, TB.out, (VM.out.lt om rfl).1, NM.out⟩
    · skip
      obtain ⟨v1, hrun, hown, hgrow⟩ := mk64 v0
      have bq : Below v0.heap.size v0 v1 := (Below.refl _ _).grown hgrow (Nat.le_refl _) (by simp)
      rw [if_pos (by rfl)]
      go_simp
      clear hrun
      obtain ⟨om, hom⟩ : ∃ o, v0.heap.size = o := ⟨_, rfl⟩
      rw [hom] at hown ⊢
      have M1 : Hid (Nums v1 W.heap.size (.slice (some ⟨om, 0, none⟩) 64 64) (List.replicate 64 0)) := hown.mono (by have := Sx0.out.size; omega)
      have Sx1 : Hid (Below W.heap.size W v1) := on Sx0.out bq
      clear hown hgrow bq hom
      refine hK.out _ _ Sx1.out (fun _ => ?_)
      clear hK K
      refine wpAnyH_ready (rs := [7, 15]) (by kernel_rfl) (by simp) ?_
      refine AllReadyH.cons rfl (fun K hK => ?_) (AllReadyH.cons rfl (fun K hK => ?_) AllReadyH.nil)
      · skip
        rw [if_pos (by rfl)]
        go_simp
        refine (s_copy _ _ _ _ H 0 v1 (((HM.out.keep B0.out).keep Sx1.out).mono (Nat.zero_le _)) (by have := HK.out.r16; omega) (by have := HK.out.c11; omega) (by have := HK.out.i40; omega) (by have := HK.out.o40; omega)).mono ?_
        rintro e v2 ⟨r', c', i', o', rfl, hm', ha', bq⟩
        obtain ⟨r0, k0', f0, _⟩ := hm'.r.shape
        obtain ⟨r1, k1', f1, _⟩ := hm'.c.shape
        obtain ⟨r2, k2', f2, _⟩ := hm'.i.shape
        obtain ⟨r3, k3', f3, _⟩ := hm'.o.shape
        subst f0 f1 f2 f3
        obtain ⟨n0', he0⟩ : ∃ n, H.regs.length = n := ⟨_, rfl⟩
        obtain ⟨n1', he1⟩ : ∃ n, H.csr.length = n := ⟨_, rfl⟩
        obtain ⟨n2', he2⟩ : ∃ n, H.inn.length = n := ⟨_, rfl⟩
        obtain ⟨n3', he3⟩ : ∃ n, H.out.length = n := ⟨_, rfl⟩
        rw [he0, he1, he2, he3] at hm' ha' ⊢
        have H2 : Hid (Hm v2 W.heap.size (.slice r0 n0' k0') (.slice r1 n1' k1') (.slice r2 n2' k2') (.slice r3 n3' k3') H) := hm'.mono Sx1.out.size
        have HA' : Hid (Ha (.slice r0 n0' k0') (.slice r1 n1' k1') (.slice r2 n2' k2') (.slice r3 n3' k3')) := ha'
        have HX : Hid (∀ k, Own4 (.slice r0 n0' k0') (.slice r1 n1' k1') (.slice r2 n2' k2') (.slice r3 n3' k3') k → v1.heap.size ≤ k ∧ k < v2.heap.size) := fun k e => hm'.own k e
        have OL : Hid (∀ k, Own4 (.slice r0 n0' k0') (.slice r1 n1' k1') (.slice r2 n2' k2') (.slice r3 n3' k3') k → k ≠ om) := fun k e f => by have := (hm'.own k e).1; have := (M1.out.lt om rfl).2; omega
        have Sx2 : Hid (Below W.heap.size W v2) := on Sx1.out bq
        have M2 : Hid (Nums v2 W.heap.size (.slice (some ⟨om, 0, none⟩) 64 64) (List.replicate 64 0)) := M1.out.keep bq
        clear hm' ha' bq he0 he1 he2 he3
        refine hK.out _ _ Sx2.out (fun _ => ?_)
        clear hK K
        refine wpAnyH_ready (rs := [12, 15]) (by kernel_rfl) (by simp) ?_
        refine AllReadyH.cons rfl (fun K hK => ?_) (AllReadyH.cons rfl (fun K hK => ?_) AllReadyH.nil)
        · skip
          rw [if_pos (by rfl)]
          go_simp
          have PF := s_pages11 q (g : Int) X.pol v2 (PA.out v2 Sx2.out) ⟨by omega, by have := OK.out.g0; omega⟩ OK.out.pp (by rw [Int.toNat_natCast]; exact OK.out.pg)
          rw [Int.toNat_natCast, HPS.out] at PF
          refine PF.mono ?_
          clear PF
          rintro e v3 ⟨lv, rfl, pr, bq⟩
          obtain ⟨l0, lk, hle, _⟩ := pr.shape
          rw [aloL_len] at hle
          subst hle
          have L3 : Hid (Prs 77 v3 W.heap.size (.slice l0 8 lk) (aloL PS)) := prs_mono pr Sx2.out.size
          have Sx3 : Hid (Below W.heap.size W v3) := on Sx2.out bq
          have H3 : Hid (Hm v3 W.heap.size (.slice r0 n0' k0') (.slice r1 n1' k1') (.slice r2 n2' k2') (.slice r3 n3' k3') H) := H2.out.keep bq
          have M3 : Hid (Nums v3 W.heap.size (.slice (some ⟨om, 0, none⟩) 64 64) (List.replicate 64 0)) := M2.out.keep bq
          clear pr bq
          refine hK.out _ _ Sx3.out (fun _ => ?_)
          clear hK K
          refine wpAnyH_take (i := 14) (v := (.agg #[.slice r0 n0' k0', .int .i64 H.pc, .slice r1 n1' k1', .bool H.halted, .bool H.waiting, .bool H.rung, .int .i64 H.done, .slice r2 n2' k2', .slice r3 n3' k3', .slice l0 8 lk, .slice (some ⟨om, 0, none⟩) 64 64])) rfl (by kernel_rfl) (by kernel_rfl) (by kernel_rfl) (fun _ _ _ h => h) (Or.inl ⟨by rfl, fun w' hs => by go_simp⟩) Sx3.out ?_
          change wpAnyH _ _ _ _ _ _ _ (Act.put _ (some 22) _) _
          simp only [Act.put, List.setIfInBounds_toArray, List.set_cons_zero, List.set_cons_succ]
          refine wpAnyH_ready (rs := [15]) (by kernel_rfl) (by simp) ?_
          refine AllReadyH.cons rfl (fun K hK => ?_) AllReadyH.nil
          rw [if_pos (by rfl)]
          go_simp
          have bq : Below v3.heap.size v3 (v3.alloc (.cells #[.slice none 0 0, .int .i64 0, .slice none 0 0, .bool false, .bool false, .bool false, .int .i64 0, .slice none 0 0, .slice none 0 0, .slice none 0 0, .slice none 0 0] 37)) := al (Below.refl _ _) _
          have T4' : Hid (Vb (v3.alloc (.cells #[.slice none 0 0, .int .i64 0, .slice none 0 0, .bool false, .bool false, .bool false, .int .i64 0, .slice none 0 0, .slice none 0 0, .slice none 0 0, .slice none 0 0] 37)) v3.heap.size #[.slice none 0 0, .int .i64 0, .slice none 0 0, .bool false, .bool false, .bool false, .int .i64 0, .slice none 0 0, .slice none 0 0, .slice none 0 0, .slice none 0 0] 37) := Vb.new _ _ _
          obtain ⟨t, ht⟩ : ∃ t, v3.heap.size = t := ⟨_, rfl⟩
          have TB : Hid (W.heap.size ≤ t) := by have := Sx3.out.size; show _ ≤ _; omega
          rw [ht] at T4' ⊢
          generalize v3.alloc (.cells #[.slice none 0 0, .int .i64 0, .slice none 0 0, .bool false, .bool false, .bool false, .int .i64 0, .slice none 0 0, .slice none 0 0, .slice none 0 0, .slice none 0 0] 37) = v4 at *
          have T4 : Hid (Vb v4 t #[.slice none 0 0, .int .i64 0, .slice none 0 0, .bool false, .bool false, .bool false, .int .i64 0, .slice none 0 0, .slice none 0 0, .slice none 0 0, .slice none 0 0] 37) := T4'.out
          have Sx4 : Hid (Below W.heap.size W v4) := on Sx3.out bq
          have H4 : Hid (Hm v4 W.heap.size (.slice r0 n0' k0') (.slice r1 n1' k1') (.slice r2 n2' k2') (.slice r3 n3' k3') H) := H3.out.keep bq
          have L4 : Hid (Prs 77 v4 W.heap.size (.slice l0 8 lk) (aloL PS)) := L3.out.keep bq
          have M4 : Hid (Nums v4 W.heap.size (.slice (some ⟨om, 0, none⟩) 64 64) (List.replicate 64 0)) := M3.out.keep bq
          clear bq ht
          refine hK.out _ _ Sx4.out (fun _ => ?_)
          clear hK K
          refine wpAnyH_ready (rs := [16]) (by kernel_rfl) (by simp) ?_
          refine AllReadyH.cons rfl (fun K hK => ?_) AllReadyH.nil
          rw [if_pos (by rfl)]
          refine wp_store_mid 37 (.tmp 5) (.tmp 22) rfl t 0 #[.slice r0 n0' k0', .int .i64 H.pc, .slice r1 n1' k1', .bool H.halted, .bool H.waiting, .bool H.rung, .int .i64 H.done, .slice r2 n2' k2', .slice r3 n3' k3', .slice l0 8 lk, .slice (some ⟨om, 0, none⟩) 64 64] rfl rfl (T4.out.there 11 (by decide)) (by kernel_rfl) (by simp [Value.oneCell']) ?_
          change K (Act.put _ none undef) _
          simp only [Act.put]
          have NR : Hid (Vb (v4.setCells t 0 #[.slice r0 n0' k0', .int .i64 H.pc, .slice r1 n1' k1', .bool H.halted, .bool H.waiting, .bool H.rung, .int .i64 H.done, .slice r2 n2' k2', .slice r3 n3' k3', .slice l0 8 lk, .slice (some ⟨om, 0, none⟩) 64 64].toList) t #[.slice r0 n0' k0', .int .i64 H.pc, .slice r1 n1' k1', .bool H.halted, .bool H.waiting, .bool H.rung, .int .i64 H.done, .slice r2 n2' k2', .slice r3 n3' k3', .slice l0 8 lk, .slice (some ⟨om, 0, none⟩) 64 64] 37 ∧ Mq (fun k => k = t) v4 (v4.setCells t 0 #[.slice r0 n0' k0', .int .i64 H.pc, .slice r1 n1' k1', .bool H.halted, .bool H.waiting, .bool H.rung, .int .i64 H.done, .slice r2 n2' k2', .slice r3 n3' k3', .slice l0 8 lk, .slice (some ⟨om, 0, none⟩) 64 64].toList)) := elevenX T4.out (.slice r0 n0' k0') (.int .i64 H.pc) (.slice r1 n1' k1') (.bool H.halted) (.bool H.waiting) (.bool H.rung) (.int .i64 H.done) (.slice r2 n2' k2') (.slice r3 n3' k3') (.slice l0 8 lk) (.slice (some ⟨om, 0, none⟩) 64 64)
          have NH : Hid (∀ k, Own4 (.slice r0 n0' k0') (.slice r1 n1' k1') (.slice r2 n2' k2') (.slice r3 n3' k3') k → ¬ k = t) := fun k e f => by subst f; exact own4_ne H4.out T4.out (by decide) k e rfl
          have NM : Hid (t ≠ om) := fun f => M4.out.ne_vb T4.out (by decide) (by rw [f]; rfl)
          have NL : Hid (∀ k, (Value.slice l0 8 lk).ownBlock = some k → ¬ k = t) := fun k e f => by subst f; exact prs_ne_vb L4.out T4.out (by decide) e
          generalize (v4.setCells t 0 #[.slice r0 n0' k0', .int .i64 H.pc, .slice r1 n1' k1', .bool H.halted, .bool H.waiting, .bool H.rung, .int .i64 H.done, .slice r2 n2' k2', .slice r3 n3' k3', .slice l0 8 lk, .slice (some ⟨om, 0, none⟩) 64 64].toList) = V at *
          have VB : Hid (Below W.heap.size W V) := Mq.under Sx4.out NR.out.2 fun k e => by have := TB.out; omega
          have VH : Hid (Hm V W.heap.size (.slice r0 n0' k0') (.slice r1 n1' k1') (.slice r2 n2' k2') (.slice r3 n3' k3') H) := NR.out.2.hm H4.out fun k e f => NH.out k e f
          have VL : Hid (Prs 77 V W.heap.size (.slice l0 8 lk) (aloL PS)) := prs_mq L4.out NR.out.2 NL.out
          have VM : Hid (Nums V W.heap.size (.slice (some ⟨om, 0, none⟩) 64 64) (List.replicate 64 0)) := NR.out.2.nums M4.out fun k e f => by have e' : om = k := (by simpa [Value.ownBlock] using e); have := NM.out; omega
          refine hK.out _ _ VB.out (fun _ => ?_)
          clear hK K
          refine wpAnyH_done (by kernel_rfl) ?_ _
          go_wp2_with fail
          go_meet
          exact ⟨t, om, r0, r1, r2, r3, l0, n0', k0', n1', k1', n2', k2', n3', k3', lk, rfl, VB.out, NR.out.1, VH.out, HA'.out, VL.out, VM.out, OL.out, TB.out, (VM.out.lt om rfl).1, NM.out⟩
        · skip
          rw [if_pos (by rfl)]
          go_simp
          have bq : Below v2.heap.size v2 (v2.alloc (.cells #[.slice none 0 0, .int .i64 0, .slice none 0 0, .bool false, .bool false, .bool false, .int .i64 0, .slice none 0 0, .slice none 0 0, .slice none 0 0, .slice none 0 0] 37)) := al (Below.refl _ _) _
          have T3' : Hid (Vb (v2.alloc (.cells #[.slice none 0 0, .int .i64 0, .slice none 0 0, .bool false, .bool false, .bool false, .int .i64 0, .slice none 0 0, .slice none 0 0, .slice none 0 0, .slice none 0 0] 37)) v2.heap.size #[.slice none 0 0, .int .i64 0, .slice none 0 0, .bool false, .bool false, .bool false, .int .i64 0, .slice none 0 0, .slice none 0 0, .slice none 0 0, .slice none 0 0] 37) := Vb.new _ _ _
          obtain ⟨t, ht⟩ : ∃ t, v2.heap.size = t := ⟨_, rfl⟩
          have TB : Hid (W.heap.size ≤ t) := by have := Sx2.out.size; show _ ≤ _; omega
          rw [ht] at T3' ⊢
          generalize v2.alloc (.cells #[.slice none 0 0, .int .i64 0, .slice none 0 0, .bool false, .bool false, .bool false, .int .i64 0, .slice none 0 0, .slice none 0 0, .slice none 0 0, .slice none 0 0] 37) = v3 at *
          have T3 : Hid (Vb v3 t #[.slice none 0 0, .int .i64 0, .slice none 0 0, .bool false, .bool false, .bool false, .int .i64 0, .slice none 0 0, .slice none 0 0, .slice none 0 0, .slice none 0 0] 37) := T3'.out
          have Sx3 : Hid (Below W.heap.size W v3) := on Sx2.out bq
          have H3 : Hid (Hm v3 W.heap.size (.slice r0 n0' k0') (.slice r1 n1' k1') (.slice r2 n2' k2') (.slice r3 n3' k3') H) := H2.out.keep bq
          have M3 : Hid (Nums v3 W.heap.size (.slice (some ⟨om, 0, none⟩) 64 64) (List.replicate 64 0)) := M2.out.keep bq
          clear bq ht
          refine hK.out _ _ Sx3.out (fun _ => ?_)
          clear hK K
          refine wpAnyH_ready (rs := [12]) (by kernel_rfl) (by simp) ?_
          refine AllReadyH.cons rfl (fun K hK => ?_) AllReadyH.nil
          rw [if_pos (by rfl)]
          go_simp
          have PF := s_pages11 q (g : Int) X.pol v3 (PA.out v3 Sx3.out) ⟨by omega, by have := OK.out.g0; omega⟩ OK.out.pp (by rw [Int.toNat_natCast]; exact OK.out.pg)
          rw [Int.toNat_natCast, HPS.out] at PF
          refine PF.mono ?_
          clear PF
          rintro e v4 ⟨lv, rfl, pr, bq⟩
          obtain ⟨l0, lk, hle, _⟩ := pr.shape
          rw [aloL_len] at hle
          subst hle
          have L4 : Hid (Prs 77 v4 W.heap.size (.slice l0 8 lk) (aloL PS)) := prs_mono pr Sx3.out.size
          have Sx4 : Hid (Below W.heap.size W v4) := on Sx3.out bq
          have H4 : Hid (Hm v4 W.heap.size (.slice r0 n0' k0') (.slice r1 n1' k1') (.slice r2 n2' k2') (.slice r3 n3' k3') H) := H3.out.keep bq
          have M4 : Hid (Nums v4 W.heap.size (.slice (some ⟨om, 0, none⟩) 64 64) (List.replicate 64 0)) := M3.out.keep bq
          have T4 : Hid (Vb v4 t #[.slice none 0 0, .int .i64 0, .slice none 0 0, .bool false, .bool false, .bool false, .int .i64 0, .slice none 0 0, .slice none 0 0, .slice none 0 0, .slice none 0 0] 37) := T3.out.keep bq
          clear pr bq
          refine hK.out _ _ Sx4.out (fun _ => ?_)
          clear hK K
          refine wpAnyH_take (i := 14) (v := (.agg #[.slice r0 n0' k0', .int .i64 H.pc, .slice r1 n1' k1', .bool H.halted, .bool H.waiting, .bool H.rung, .int .i64 H.done, .slice r2 n2' k2', .slice r3 n3' k3', .slice l0 8 lk, .slice (some ⟨om, 0, none⟩) 64 64])) rfl (by kernel_rfl) (by kernel_rfl) (by kernel_rfl) (fun _ _ _ h => h) (Or.inl ⟨by rfl, fun w' hs => by go_simp⟩) Sx4.out ?_
          change wpAnyH _ _ _ _ _ _ _ (Act.put _ (some 22) _) _
          simp only [Act.put, List.setIfInBounds_toArray, List.set_cons_zero, List.set_cons_succ]
          refine wpAnyH_ready (rs := [16]) (by kernel_rfl) (by simp) ?_
          refine AllReadyH.cons rfl (fun K hK => ?_) AllReadyH.nil
          rw [if_pos (by rfl)]
          refine wp_store_mid 37 (.tmp 5) (.tmp 22) rfl t 0 #[.slice r0 n0' k0', .int .i64 H.pc, .slice r1 n1' k1', .bool H.halted, .bool H.waiting, .bool H.rung, .int .i64 H.done, .slice r2 n2' k2', .slice r3 n3' k3', .slice l0 8 lk, .slice (some ⟨om, 0, none⟩) 64 64] rfl rfl (T4.out.there 11 (by decide)) (by kernel_rfl) (by simp [Value.oneCell']) ?_
          change K (Act.put _ none undef) _
          simp only [Act.put]
          have NR : Hid (Vb (v4.setCells t 0 #[.slice r0 n0' k0', .int .i64 H.pc, .slice r1 n1' k1', .bool H.halted, .bool H.waiting, .bool H.rung, .int .i64 H.done, .slice r2 n2' k2', .slice r3 n3' k3', .slice l0 8 lk, .slice (some ⟨om, 0, none⟩) 64 64].toList) t #[.slice r0 n0' k0', .int .i64 H.pc, .slice r1 n1' k1', .bool H.halted, .bool H.waiting, .bool H.rung, .int .i64 H.done, .slice r2 n2' k2', .slice r3 n3' k3', .slice l0 8 lk, .slice (some ⟨om, 0, none⟩) 64 64] 37 ∧ Mq (fun k => k = t) v4 (v4.setCells t 0 #[.slice r0 n0' k0', .int .i64 H.pc, .slice r1 n1' k1', .bool H.halted, .bool H.waiting, .bool H.rung, .int .i64 H.done, .slice r2 n2' k2', .slice r3 n3' k3', .slice l0 8 lk, .slice (some ⟨om, 0, none⟩) 64 64].toList)) := elevenX T4.out (.slice r0 n0' k0') (.int .i64 H.pc) (.slice r1 n1' k1') (.bool H.halted) (.bool H.waiting) (.bool H.rung) (.int .i64 H.done) (.slice r2 n2' k2') (.slice r3 n3' k3') (.slice l0 8 lk) (.slice (some ⟨om, 0, none⟩) 64 64)
          have NH : Hid (∀ k, Own4 (.slice r0 n0' k0') (.slice r1 n1' k1') (.slice r2 n2' k2') (.slice r3 n3' k3') k → ¬ k = t) := fun k e f => by subst f; exact own4_ne H4.out T4.out (by decide) k e rfl
          have NM : Hid (t ≠ om) := fun f => M4.out.ne_vb T4.out (by decide) (by rw [f]; rfl)
          have NL : Hid (∀ k, (Value.slice l0 8 lk).ownBlock = some k → ¬ k = t) := fun k e f => by subst f; exact prs_ne_vb L4.out T4.out (by decide) e
          generalize (v4.setCells t 0 #[.slice r0 n0' k0', .int .i64 H.pc, .slice r1 n1' k1', .bool H.halted, .bool H.waiting, .bool H.rung, .int .i64 H.done, .slice r2 n2' k2', .slice r3 n3' k3', .slice l0 8 lk, .slice (some ⟨om, 0, none⟩) 64 64].toList) = V at *
          have VB : Hid (Below W.heap.size W V) := Mq.under Sx4.out NR.out.2 fun k e => by have := TB.out; omega
          have VH : Hid (Hm V W.heap.size (.slice r0 n0' k0') (.slice r1 n1' k1') (.slice r2 n2' k2') (.slice r3 n3' k3') H) := NR.out.2.hm H4.out fun k e f => NH.out k e f
          have VL : Hid (Prs 77 V W.heap.size (.slice l0 8 lk) (aloL PS)) := prs_mq L4.out NR.out.2 NL.out
          have VM : Hid (Nums V W.heap.size (.slice (some ⟨om, 0, none⟩) 64 64) (List.replicate 64 0)) := NR.out.2.nums M4.out fun k e f => by have e' : om = k := (by simpa [Value.ownBlock] using e); have := NM.out; omega
          refine hK.out _ _ VB.out (fun _ => ?_)
          clear hK K
          refine wpAnyH_done (by kernel_rfl) ?_ _
          go_wp2_with fail
          go_meet
          exact ⟨t, om, r0, r1, r2, r3, l0, n0', k0', n1', k1', n2', k2', n3', k3', lk, rfl, VB.out, NR.out.1, VH.out, HA'.out, VL.out, VM.out, OL.out, TB.out, (VM.out.lt om rfl).1, NM.out⟩
      · skip
        rw [if_pos (by rfl)]
        go_simp
        have bq : Below v1.heap.size v1 (v1.alloc (.cells #[.slice none 0 0, .int .i64 0, .slice none 0 0, .bool false, .bool false, .bool false, .int .i64 0, .slice none 0 0, .slice none 0 0, .slice none 0 0, .slice none 0 0] 37)) := al (Below.refl _ _) _
        have T2' : Hid (Vb (v1.alloc (.cells #[.slice none 0 0, .int .i64 0, .slice none 0 0, .bool false, .bool false, .bool false, .int .i64 0, .slice none 0 0, .slice none 0 0, .slice none 0 0, .slice none 0 0] 37)) v1.heap.size #[.slice none 0 0, .int .i64 0, .slice none 0 0, .bool false, .bool false, .bool false, .int .i64 0, .slice none 0 0, .slice none 0 0, .slice none 0 0, .slice none 0 0] 37) := Vb.new _ _ _
        obtain ⟨t, ht⟩ : ∃ t, v1.heap.size = t := ⟨_, rfl⟩
        have TB : Hid (W.heap.size ≤ t) := by have := Sx1.out.size; show _ ≤ _; omega
        rw [ht] at T2' ⊢
        generalize v1.alloc (.cells #[.slice none 0 0, .int .i64 0, .slice none 0 0, .bool false, .bool false, .bool false, .int .i64 0, .slice none 0 0, .slice none 0 0, .slice none 0 0, .slice none 0 0] 37) = v2 at *
        have T2 : Hid (Vb v2 t #[.slice none 0 0, .int .i64 0, .slice none 0 0, .bool false, .bool false, .bool false, .int .i64 0, .slice none 0 0, .slice none 0 0, .slice none 0 0, .slice none 0 0] 37) := T2'.out
        have Sx2 : Hid (Below W.heap.size W v2) := on Sx1.out bq
        have M2 : Hid (Nums v2 W.heap.size (.slice (some ⟨om, 0, none⟩) 64 64) (List.replicate 64 0)) := M1.out.keep bq
        clear bq ht
        refine hK.out _ _ Sx2.out (fun _ => ?_)
        clear hK K
        refine wpAnyH_ready (rs := [7]) (by kernel_rfl) (by simp) ?_
        refine AllReadyH.cons rfl (fun K hK => ?_) AllReadyH.nil
        rw [if_pos (by rfl)]
        go_simp
        refine (s_copy _ _ _ _ H 0 v2 (((HM.out.keep B0.out).keep Sx2.out).mono (Nat.zero_le _)) (by have := HK.out.r16; omega) (by have := HK.out.c11; omega) (by have := HK.out.i40; omega) (by have := HK.out.o40; omega)).mono ?_
        rintro e v3 ⟨r', c', i', o', rfl, hm', ha', bq⟩
        obtain ⟨r0, k0', f0, _⟩ := hm'.r.shape
        obtain ⟨r1, k1', f1, _⟩ := hm'.c.shape
        obtain ⟨r2, k2', f2, _⟩ := hm'.i.shape
        obtain ⟨r3, k3', f3, _⟩ := hm'.o.shape
        subst f0 f1 f2 f3
        obtain ⟨n0', he0⟩ : ∃ n, H.regs.length = n := ⟨_, rfl⟩
        obtain ⟨n1', he1⟩ : ∃ n, H.csr.length = n := ⟨_, rfl⟩
        obtain ⟨n2', he2⟩ : ∃ n, H.inn.length = n := ⟨_, rfl⟩
        obtain ⟨n3', he3⟩ : ∃ n, H.out.length = n := ⟨_, rfl⟩
        rw [he0, he1, he2, he3] at hm' ha' ⊢
        have H3 : Hid (Hm v3 W.heap.size (.slice r0 n0' k0') (.slice r1 n1' k1') (.slice r2 n2' k2') (.slice r3 n3' k3') H) := hm'.mono Sx2.out.size
        have HA' : Hid (Ha (.slice r0 n0' k0') (.slice r1 n1' k1') (.slice r2 n2' k2') (.slice r3 n3' k3')) := ha'
        have HX : Hid (∀ k, Own4 (.slice r0 n0' k0') (.slice r1 n1' k1') (.slice r2 n2' k2') (.slice r3 n3' k3') k → v2.heap.size ≤ k ∧ k < v3.heap.size) := fun k e => hm'.own k e
        have OL : Hid (∀ k, Own4 (.slice r0 n0' k0') (.slice r1 n1' k1') (.slice r2 n2' k2') (.slice r3 n3' k3') k → k ≠ om) := fun k e f => by have := (hm'.own k e).1; have := (M2.out.lt om rfl).2; omega
        have Sx3 : Hid (Below W.heap.size W v3) := on Sx2.out bq
        have M3 : Hid (Nums v3 W.heap.size (.slice (some ⟨om, 0, none⟩) 64 64) (List.replicate 64 0)) := M2.out.keep bq
        have T3 : Hid (Vb v3 t #[.slice none 0 0, .int .i64 0, .slice none 0 0, .bool false, .bool false, .bool false, .int .i64 0, .slice none 0 0, .slice none 0 0, .slice none 0 0, .slice none 0 0] 37) := T2.out.keep bq
        clear hm' ha' bq he0 he1 he2 he3
        refine hK.out _ _ Sx3.out (fun _ => ?_)
        clear hK K
        refine wpAnyH_ready (rs := [12]) (by kernel_rfl) (by simp) ?_
        refine AllReadyH.cons rfl (fun K hK => ?_) AllReadyH.nil
        rw [if_pos (by rfl)]
        go_simp
        have PF := s_pages11 q (g : Int) X.pol v3 (PA.out v3 Sx3.out) ⟨by omega, by have := OK.out.g0; omega⟩ OK.out.pp (by rw [Int.toNat_natCast]; exact OK.out.pg)
        rw [Int.toNat_natCast, HPS.out] at PF
        refine PF.mono ?_
        clear PF
        rintro e v4 ⟨lv, rfl, pr, bq⟩
        obtain ⟨l0, lk, hle, _⟩ := pr.shape
        rw [aloL_len] at hle
        subst hle
        have L4 : Hid (Prs 77 v4 W.heap.size (.slice l0 8 lk) (aloL PS)) := prs_mono pr Sx3.out.size
        have Sx4 : Hid (Below W.heap.size W v4) := on Sx3.out bq
        have H4 : Hid (Hm v4 W.heap.size (.slice r0 n0' k0') (.slice r1 n1' k1') (.slice r2 n2' k2') (.slice r3 n3' k3') H) := H3.out.keep bq
        have M4 : Hid (Nums v4 W.heap.size (.slice (some ⟨om, 0, none⟩) 64 64) (List.replicate 64 0)) := M3.out.keep bq
        have T4 : Hid (Vb v4 t #[.slice none 0 0, .int .i64 0, .slice none 0 0, .bool false, .bool false, .bool false, .int .i64 0, .slice none 0 0, .slice none 0 0, .slice none 0 0, .slice none 0 0] 37) := T3.out.keep bq
        clear pr bq
        refine hK.out _ _ Sx4.out (fun _ => ?_)
        clear hK K
        refine wpAnyH_take (i := 14) (v := (.agg #[.slice r0 n0' k0', .int .i64 H.pc, .slice r1 n1' k1', .bool H.halted, .bool H.waiting, .bool H.rung, .int .i64 H.done, .slice r2 n2' k2', .slice r3 n3' k3', .slice l0 8 lk, .slice (some ⟨om, 0, none⟩) 64 64])) rfl (by kernel_rfl) (by kernel_rfl) (by kernel_rfl) (fun _ _ _ h => h) (Or.inl ⟨by rfl, fun w' hs => by go_simp⟩) Sx4.out ?_
        change wpAnyH _ _ _ _ _ _ _ (Act.put _ (some 22) _) _
        simp only [Act.put, List.setIfInBounds_toArray, List.set_cons_zero, List.set_cons_succ]
        refine wpAnyH_ready (rs := [16]) (by kernel_rfl) (by simp) ?_
        refine AllReadyH.cons rfl (fun K hK => ?_) AllReadyH.nil
        rw [if_pos (by rfl)]
        refine wp_store_mid 37 (.tmp 5) (.tmp 22) rfl t 0 #[.slice r0 n0' k0', .int .i64 H.pc, .slice r1 n1' k1', .bool H.halted, .bool H.waiting, .bool H.rung, .int .i64 H.done, .slice r2 n2' k2', .slice r3 n3' k3', .slice l0 8 lk, .slice (some ⟨om, 0, none⟩) 64 64] rfl rfl (T4.out.there 11 (by decide)) (by kernel_rfl) (by simp [Value.oneCell']) ?_
        change K (Act.put _ none undef) _
        simp only [Act.put]
        have NR : Hid (Vb (v4.setCells t 0 #[.slice r0 n0' k0', .int .i64 H.pc, .slice r1 n1' k1', .bool H.halted, .bool H.waiting, .bool H.rung, .int .i64 H.done, .slice r2 n2' k2', .slice r3 n3' k3', .slice l0 8 lk, .slice (some ⟨om, 0, none⟩) 64 64].toList) t #[.slice r0 n0' k0', .int .i64 H.pc, .slice r1 n1' k1', .bool H.halted, .bool H.waiting, .bool H.rung, .int .i64 H.done, .slice r2 n2' k2', .slice r3 n3' k3', .slice l0 8 lk, .slice (some ⟨om, 0, none⟩) 64 64] 37 ∧ Mq (fun k => k = t) v4 (v4.setCells t 0 #[.slice r0 n0' k0', .int .i64 H.pc, .slice r1 n1' k1', .bool H.halted, .bool H.waiting, .bool H.rung, .int .i64 H.done, .slice r2 n2' k2', .slice r3 n3' k3', .slice l0 8 lk, .slice (some ⟨om, 0, none⟩) 64 64].toList)) := elevenX T4.out (.slice r0 n0' k0') (.int .i64 H.pc) (.slice r1 n1' k1') (.bool H.halted) (.bool H.waiting) (.bool H.rung) (.int .i64 H.done) (.slice r2 n2' k2') (.slice r3 n3' k3') (.slice l0 8 lk) (.slice (some ⟨om, 0, none⟩) 64 64)
        have NH : Hid (∀ k, Own4 (.slice r0 n0' k0') (.slice r1 n1' k1') (.slice r2 n2' k2') (.slice r3 n3' k3') k → ¬ k = t) := fun k e f => by subst f; exact own4_ne H4.out T4.out (by decide) k e rfl
        have NM : Hid (t ≠ om) := fun f => M4.out.ne_vb T4.out (by decide) (by rw [f]; rfl)
        have NL : Hid (∀ k, (Value.slice l0 8 lk).ownBlock = some k → ¬ k = t) := fun k e f => by subst f; exact prs_ne_vb L4.out T4.out (by decide) e
        generalize (v4.setCells t 0 #[.slice r0 n0' k0', .int .i64 H.pc, .slice r1 n1' k1', .bool H.halted, .bool H.waiting, .bool H.rung, .int .i64 H.done, .slice r2 n2' k2', .slice r3 n3' k3', .slice l0 8 lk, .slice (some ⟨om, 0, none⟩) 64 64].toList) = V at *
        have VB : Hid (Below W.heap.size W V) := Mq.under Sx4.out NR.out.2 fun k e => by have := TB.out; omega
        have VH : Hid (Hm V W.heap.size (.slice r0 n0' k0') (.slice r1 n1' k1') (.slice r2 n2' k2') (.slice r3 n3' k3') H) := NR.out.2.hm H4.out fun k e f => NH.out k e f
        have VL : Hid (Prs 77 V W.heap.size (.slice l0 8 lk) (aloL PS)) := prs_mq L4.out NR.out.2 NL.out
        have VM : Hid (Nums V W.heap.size (.slice (some ⟨om, 0, none⟩) 64 64) (List.replicate 64 0)) := NR.out.2.nums M4.out fun k e f => by have e' : om = k := (by simpa [Value.ownBlock] using e); have := NM.out; omega
        refine hK.out _ _ VB.out (fun _ => ?_)
        clear hK K
        refine wpAnyH_done (by kernel_rfl) ?_ _
        go_wp2_with fail
        go_meet
        exact ⟨t, om, r0, r1, r2, r3, l0, n0', k0', n1', k1', n2', k2', n3', k3', lk, rfl, VB.out, NR.out.1, VH.out, HA'.out, VL.out, VM.out, OL.out, TB.out, (VM.out.lt om rfl).1, NM.out⟩
    · skip
      rw [if_pos (by rfl)]
      go_simp
      have bq : Below v0.heap.size v0 (v0.alloc (.cells #[.slice none 0 0, .int .i64 0, .slice none 0 0, .bool false, .bool false, .bool false, .int .i64 0, .slice none 0 0, .slice none 0 0, .slice none 0 0, .slice none 0 0] 37)) := al (Below.refl _ _) _
      have T1' : Hid (Vb (v0.alloc (.cells #[.slice none 0 0, .int .i64 0, .slice none 0 0, .bool false, .bool false, .bool false, .int .i64 0, .slice none 0 0, .slice none 0 0, .slice none 0 0, .slice none 0 0] 37)) v0.heap.size #[.slice none 0 0, .int .i64 0, .slice none 0 0, .bool false, .bool false, .bool false, .int .i64 0, .slice none 0 0, .slice none 0 0, .slice none 0 0, .slice none 0 0] 37) := Vb.new _ _ _
      obtain ⟨t, ht⟩ : ∃ t, v0.heap.size = t := ⟨_, rfl⟩
      have TB : Hid (W.heap.size ≤ t) := by have := Sx0.out.size; show _ ≤ _; omega
      rw [ht] at T1' ⊢
      generalize v0.alloc (.cells #[.slice none 0 0, .int .i64 0, .slice none 0 0, .bool false, .bool false, .bool false, .int .i64 0, .slice none 0 0, .slice none 0 0, .slice none 0 0, .slice none 0 0] 37) = v1 at *
      have T1 : Hid (Vb v1 t #[.slice none 0 0, .int .i64 0, .slice none 0 0, .bool false, .bool false, .bool false, .int .i64 0, .slice none 0 0, .slice none 0 0, .slice none 0 0, .slice none 0 0] 37) := T1'.out
      have Sx1 : Hid (Below W.heap.size W v1) := on Sx0.out bq
      clear bq ht
      refine hK.out _ _ Sx1.out (fun _ => ?_)
      clear hK K
      refine wpAnyH_ready (rs := [7, 13]) (by kernel_rfl) (by simp) ?_
      refine AllReadyH.cons rfl (fun K hK => ?_) (AllReadyH.cons rfl (fun K hK => ?_) AllReadyH.nil)
      · skip
        rw [if_pos (by rfl)]
        go_simp
        refine (s_copy _ _ _ _ H 0 v1 (((HM.out.keep B0.out).keep Sx1.out).mono (Nat.zero_le _)) (by have := HK.out.r16; omega) (by have := HK.out.c11; omega) (by have := HK.out.i40; omega) (by have := HK.out.o40; omega)).mono ?_
        rintro e v2 ⟨r', c', i', o', rfl, hm', ha', bq⟩
        obtain ⟨r0, k0', f0, _⟩ := hm'.r.shape
        obtain ⟨r1, k1', f1, _⟩ := hm'.c.shape
        obtain ⟨r2, k2', f2, _⟩ := hm'.i.shape
        obtain ⟨r3, k3', f3, _⟩ := hm'.o.shape
        subst f0 f1 f2 f3
        obtain ⟨n0', he0⟩ : ∃ n, H.regs.length = n := ⟨_, rfl⟩
        obtain ⟨n1', he1⟩ : ∃ n, H.csr.length = n := ⟨_, rfl⟩
        obtain ⟨n2', he2⟩ : ∃ n, H.inn.length = n := ⟨_, rfl⟩
        obtain ⟨n3', he3⟩ : ∃ n, H.out.length = n := ⟨_, rfl⟩
        rw [he0, he1, he2, he3] at hm' ha' ⊢
        have H2 : Hid (Hm v2 W.heap.size (.slice r0 n0' k0') (.slice r1 n1' k1') (.slice r2 n2' k2') (.slice r3 n3' k3') H) := hm'.mono Sx1.out.size
        have HA' : Hid (Ha (.slice r0 n0' k0') (.slice r1 n1' k1') (.slice r2 n2' k2') (.slice r3 n3' k3')) := ha'
        have HX : Hid (∀ k, Own4 (.slice r0 n0' k0') (.slice r1 n1' k1') (.slice r2 n2' k2') (.slice r3 n3' k3') k → v1.heap.size ≤ k ∧ k < v2.heap.size) := fun k e => hm'.own k e
        have Sx2 : Hid (Below W.heap.size W v2) := on Sx1.out bq
        have T2 : Hid (Vb v2 t #[.slice none 0 0, .int .i64 0, .slice none 0 0, .bool false, .bool false, .bool false, .int .i64 0, .slice none 0 0, .slice none 0 0, .slice none 0 0, .slice none 0 0] 37) := T1.out.keep bq
        clear hm' ha' bq he0 he1 he2 he3
        refine hK.out _ _ Sx2.out (fun _ => ?_)
        clear hK K
        refine wpAnyH_ready (rs := [12, 13]) (by kernel_rfl) (by simp) ?_
        refine AllReadyH.cons rfl (fun K hK => ?_) (AllReadyH.cons rfl (fun K hK => ?_) AllReadyH.nil)
        · skip
          rw [if_pos (by rfl)]
          go_simp
          have PF := s_pages11 q (g : Int) X.pol v2 (PA.out v2 Sx2.out) ⟨by omega, by have := OK.out.g0; omega⟩ OK.out.pp (by rw [Int.toNat_natCast]; exact OK.out.pg)
          rw [Int.toNat_natCast, HPS.out] at PF
          refine PF.mono ?_
          clear PF
          rintro e v3 ⟨lv, rfl, pr, bq⟩
          obtain ⟨l0, lk, hle, _⟩ := pr.shape
          rw [aloL_len] at hle
          subst hle
          have L3 : Hid (Prs 77 v3 W.heap.size (.slice l0 8 lk) (aloL PS)) := prs_mono pr Sx2.out.size
          have Sx3 : Hid (Below W.heap.size W v3) := on Sx2.out bq
          have H3 : Hid (Hm v3 W.heap.size (.slice r0 n0' k0') (.slice r1 n1' k1') (.slice r2 n2' k2') (.slice r3 n3' k3') H) := H2.out.keep bq
          have T3 : Hid (Vb v3 t #[.slice none 0 0, .int .i64 0, .slice none 0 0, .bool false, .bool false, .bool false, .int .i64 0, .slice none 0 0, .slice none 0 0, .slice none 0 0, .slice none 0 0] 37) := T2.out.keep bq
          clear pr bq
          refine hK.out _ _ Sx3.out (fun _ => ?_)
          clear hK K
          refine wpAnyH_ready (rs := [13]) (by kernel_rfl) (by simp) ?_
          refine AllReadyH.cons rfl (fun K hK => ?_) AllReadyH.nil
          obtain ⟨v4, hrun, hown, hgrow⟩ := mk64 v3
          have bq : Below v3.heap.size v3 v4 := (Below.refl _ _).grown hgrow (Nat.le_refl _) (by simp)
          rw [if_pos (by rfl)]
          go_simp
          clear hrun
          obtain ⟨om, hom⟩ : ∃ o, v3.heap.size = o := ⟨_, rfl⟩
          rw [hom] at hown ⊢
          have M4 : Hid (Nums v4 W.heap.size (.slice (some ⟨om, 0, none⟩) 64 64) (List.replicate 64 0)) := hown.mono (by have := Sx3.out.size; omega)
          have OL : Hid (∀ k, Own4 (.slice r0 n0' k0') (.slice r1 n1' k1') (.slice r2 n2' k2') (.slice r3 n3' k3') k → k ≠ om) := fun k e f => by have := (H3.out.own k e).2; omega
          have Sx4 : Hid (Below W.heap.size W v4) := on Sx3.out bq
          have H4 : Hid (Hm v4 W.heap.size (.slice r0 n0' k0') (.slice r1 n1' k1') (.slice r2 n2' k2') (.slice r3 n3' k3') H) := H3.out.keep bq
          have L4 : Hid (Prs 77 v4 W.heap.size (.slice l0 8 lk) (aloL PS)) := L3.out.keep bq
          have T4 : Hid (Vb v4 t #[.slice none 0 0, .int .i64 0, .slice none 0 0, .bool false, .bool false, .bool false, .int .i64 0, .slice none 0 0, .slice none 0 0, .slice none 0 0, .slice none 0 0] 37) := T3.out.keep bq
          clear hown hgrow bq hom
          refine hK.out _ _ Sx4.out (fun _ => ?_)
          clear hK K
          refine wpAnyH_take (i := 14) (v := (.agg #[.slice r0 n0' k0', .int .i64 H.pc, .slice r1 n1' k1', .bool H.halted, .bool H.waiting, .bool H.rung, .int .i64 H.done, .slice r2 n2' k2', .slice r3 n3' k3', .slice l0 8 lk, .slice (some ⟨om, 0, none⟩) 64 64])) rfl (by kernel_rfl) (by kernel_rfl) (by kernel_rfl) (fun _ _ _ h => h) (Or.inl ⟨by rfl, fun w' hs => by go_simp⟩) Sx4.out ?_
          change wpAnyH _ _ _ _ _ _ _ (Act.put _ (some 22) _) _
          simp only [Act.put, List.setIfInBounds_toArray, List.set_cons_zero, List.set_cons_succ]
          refine wpAnyH_ready (rs := [16]) (by kernel_rfl) (by simp) ?_
          refine AllReadyH.cons rfl (fun K hK => ?_) AllReadyH.nil
          rw [if_pos (by rfl)]
          refine wp_store_mid 37 (.tmp 5) (.tmp 22) rfl t 0 #[.slice r0 n0' k0', .int .i64 H.pc, .slice r1 n1' k1', .bool H.halted, .bool H.waiting, .bool H.rung, .int .i64 H.done, .slice r2 n2' k2', .slice r3 n3' k3', .slice l0 8 lk, .slice (some ⟨om, 0, none⟩) 64 64] rfl rfl (T4.out.there 11 (by decide)) (by kernel_rfl) (by simp [Value.oneCell']) ?_
          change K (Act.put _ none undef) _
          simp only [Act.put]
          have NR : Hid (Vb (v4.setCells t 0 #[.slice r0 n0' k0', .int .i64 H.pc, .slice r1 n1' k1', .bool H.halted, .bool H.waiting, .bool H.rung, .int .i64 H.done, .slice r2 n2' k2', .slice r3 n3' k3', .slice l0 8 lk, .slice (some ⟨om, 0, none⟩) 64 64].toList) t #[.slice r0 n0' k0', .int .i64 H.pc, .slice r1 n1' k1', .bool H.halted, .bool H.waiting, .bool H.rung, .int .i64 H.done, .slice r2 n2' k2', .slice r3 n3' k3', .slice l0 8 lk, .slice (some ⟨om, 0, none⟩) 64 64] 37 ∧ Mq (fun k => k = t) v4 (v4.setCells t 0 #[.slice r0 n0' k0', .int .i64 H.pc, .slice r1 n1' k1', .bool H.halted, .bool H.waiting, .bool H.rung, .int .i64 H.done, .slice r2 n2' k2', .slice r3 n3' k3', .slice l0 8 lk, .slice (some ⟨om, 0, none⟩) 64 64].toList)) := elevenX T4.out (.slice r0 n0' k0') (.int .i64 H.pc) (.slice r1 n1' k1') (.bool H.halted) (.bool H.waiting) (.bool H.rung) (.int .i64 H.done) (.slice r2 n2' k2') (.slice r3 n3' k3') (.slice l0 8 lk) (.slice (some ⟨om, 0, none⟩) 64 64)
          have NH : Hid (∀ k, Own4 (.slice r0 n0' k0') (.slice r1 n1' k1') (.slice r2 n2' k2') (.slice r3 n3' k3') k → ¬ k = t) := fun k e f => by subst f; exact own4_ne H4.out T4.out (by decide) k e rfl
          have NM : Hid (t ≠ om) := fun f => M4.out.ne_vb T4.out (by decide) (by rw [f]; rfl)
          have NL : Hid (∀ k, (Value.slice l0 8 lk).ownBlock = some k → ¬ k = t) := fun k e f => by subst f; exact prs_ne_vb L4.out T4.out (by decide) e
          generalize (v4.setCells t 0 #[.slice r0 n0' k0', .int .i64 H.pc, .slice r1 n1' k1', .bool H.halted, .bool H.waiting, .bool H.rung, .int .i64 H.done, .slice r2 n2' k2', .slice r3 n3' k3', .slice l0 8 lk, .slice (some ⟨om, 0, none⟩) 64 64].toList) = V at *
          have VB : Hid (Below W.heap.size W V) := Mq.under Sx4.out NR.out.2 fun k e => by have := TB.out; omega
          have VH : Hid (Hm V W.heap.size (.slice r0 n0' k0') (.slice r1 n1' k1') (.slice r2 n2' k2') (.slice r3 n3' k3') H) := NR.out.2.hm H4.out fun k e f => NH.out k e f
          have VL : Hid (Prs 77 V W.heap.size (.slice l0 8 lk) (aloL PS)) := prs_mq L4.out NR.out.2 NL.out
          have VM : Hid (Nums V W.heap.size (.slice (some ⟨om, 0, none⟩) 64 64) (List.replicate 64 0)) := NR.out.2.nums M4.out fun k e f => by have e' : om = k := (by simpa [Value.ownBlock] using e); have := NM.out; omega
          refine hK.out _ _ VB.out (fun _ => ?_)
          clear hK K
          refine wpAnyH_done (by kernel_rfl) ?_ _
          go_wp2_with fail
          go_meet
          exact ⟨t, om, r0, r1, r2, r3, l0, n0', k0', n1', k1', n2', k2', n3', k3', lk, rfl, VB.out, NR.out.1, VH.out, HA'.out, VL.out, VM.out, OL.out, TB.out, (VM.out.lt om rfl).1, NM.out⟩
        · skip
          obtain ⟨v3, hrun, hown, hgrow⟩ := mk64 v2
          have bq : Below v2.heap.size v2 v3 := (Below.refl _ _).grown hgrow (Nat.le_refl _) (by simp)
          rw [if_pos (by rfl)]
          go_simp
          clear hrun
          obtain ⟨om, hom⟩ : ∃ o, v2.heap.size = o := ⟨_, rfl⟩
          rw [hom] at hown ⊢
          have M3 : Hid (Nums v3 W.heap.size (.slice (some ⟨om, 0, none⟩) 64 64) (List.replicate 64 0)) := hown.mono (by have := Sx2.out.size; omega)
          have OL : Hid (∀ k, Own4 (.slice r0 n0' k0') (.slice r1 n1' k1') (.slice r2 n2' k2') (.slice r3 n3' k3') k → k ≠ om) := fun k e f => by have := (H2.out.own k e).2; omega
          have Sx3 : Hid (Below W.heap.size W v3) := on Sx2.out bq
          have H3 : Hid (Hm v3 W.heap.size (.slice r0 n0' k0') (.slice r1 n1' k1') (.slice r2 n2' k2') (.slice r3 n3' k3') H) := H2.out.keep bq
          have T3 : Hid (Vb v3 t #[.slice none 0 0, .int .i64 0, .slice none 0 0, .bool false, .bool false, .bool false, .int .i64 0, .slice none 0 0, .slice none 0 0, .slice none 0 0, .slice none 0 0] 37) := T2.out.keep bq
          clear hown hgrow bq hom
          refine hK.out _ _ Sx3.out (fun _ => ?_)
          clear hK K
          refine wpAnyH_ready (rs := [12]) (by kernel_rfl) (by simp) ?_
          refine AllReadyH.cons rfl (fun K hK => ?_) AllReadyH.nil
          rw [if_pos (by rfl)]
          go_simp
          have PF := s_pages11 q (g : Int) X.pol v3 (PA.out v3 Sx3.out) ⟨by omega, by have := OK.out.g0; omega⟩ OK.out.pp (by rw [Int.toNat_natCast]; exact OK.out.pg)
          rw [Int.toNat_natCast, HPS.out] at PF
          refine PF.mono ?_
          clear PF
          rintro e v4 ⟨lv, rfl, pr, bq⟩
          obtain ⟨l0, lk, hle, _⟩ := pr.shape
          rw [aloL_len] at hle
          subst hle
          have L4 : Hid (Prs 77 v4 W.heap.size (.slice l0 8 lk) (aloL PS)) := prs_mono pr Sx3.out.size
          have Sx4 : Hid (Below W.heap.size W v4) := on Sx3.out bq
          have H4 : Hid (Hm v4 W.heap.size (.slice r0 n0' k0') (.slice r1 n1' k1') (.slice r2 n2' k2') (.slice r3 n3' k3') H) := H3.out.keep bq
          have M4 : Hid (Nums v4 W.heap.size (.slice (some ⟨om, 0, none⟩) 64 64) (List.replicate 64 0)) := M3.out.keep bq
          have T4 : Hid (Vb v4 t #[.slice none 0 0, .int .i64 0, .slice none 0 0, .bool false, .bool false, .bool false, .int .i64 0, .slice none 0 0, .slice none 0 0, .slice none 0 0, .slice none 0 0] 37) := T3.out.keep bq
          clear pr bq
          refine hK.out _ _ Sx4.out (fun _ => ?_)
          clear hK K
          refine wpAnyH_take (i := 14) (v := (.agg #[.slice r0 n0' k0', .int .i64 H.pc, .slice r1 n1' k1', .bool H.halted, .bool H.waiting, .bool H.rung, .int .i64 H.done, .slice r2 n2' k2', .slice r3 n3' k3', .slice l0 8 lk, .slice (some ⟨om, 0, none⟩) 64 64])) rfl (by kernel_rfl) (by kernel_rfl) (by kernel_rfl) (fun _ _ _ h => h) (Or.inl ⟨by rfl, fun w' hs => by go_simp⟩) Sx4.out ?_
          change wpAnyH _ _ _ _ _ _ _ (Act.put _ (some 22) _) _
          simp only [Act.put, List.setIfInBounds_toArray, List.set_cons_zero, List.set_cons_succ]
          refine wpAnyH_ready (rs := [16]) (by kernel_rfl) (by simp) ?_
          refine AllReadyH.cons rfl (fun K hK => ?_) AllReadyH.nil
          rw [if_pos (by rfl)]
          refine wp_store_mid 37 (.tmp 5) (.tmp 22) rfl t 0 #[.slice r0 n0' k0', .int .i64 H.pc, .slice r1 n1' k1', .bool H.halted, .bool H.waiting, .bool H.rung, .int .i64 H.done, .slice r2 n2' k2', .slice r3 n3' k3', .slice l0 8 lk, .slice (some ⟨om, 0, none⟩) 64 64] rfl rfl (T4.out.there 11 (by decide)) (by kernel_rfl) (by simp [Value.oneCell']) ?_
          change K (Act.put _ none undef) _
          simp only [Act.put]
          have NR : Hid (Vb (v4.setCells t 0 #[.slice r0 n0' k0', .int .i64 H.pc, .slice r1 n1' k1', .bool H.halted, .bool H.waiting, .bool H.rung, .int .i64 H.done, .slice r2 n2' k2', .slice r3 n3' k3', .slice l0 8 lk, .slice (some ⟨om, 0, none⟩) 64 64].toList) t #[.slice r0 n0' k0', .int .i64 H.pc, .slice r1 n1' k1', .bool H.halted, .bool H.waiting, .bool H.rung, .int .i64 H.done, .slice r2 n2' k2', .slice r3 n3' k3', .slice l0 8 lk, .slice (some ⟨om, 0, none⟩) 64 64] 37 ∧ Mq (fun k => k = t) v4 (v4.setCells t 0 #[.slice r0 n0' k0', .int .i64 H.pc, .slice r1 n1' k1', .bool H.halted, .bool H.waiting, .bool H.rung, .int .i64 H.done, .slice r2 n2' k2', .slice r3 n3' k3', .slice l0 8 lk, .slice (some ⟨om, 0, none⟩) 64 64].toList)) := elevenX T4.out (.slice r0 n0' k0') (.int .i64 H.pc) (.slice r1 n1' k1') (.bool H.halted) (.bool H.waiting) (.bool H.rung) (.int .i64 H.done) (.slice r2 n2' k2') (.slice r3 n3' k3') (.slice l0 8 lk) (.slice (some ⟨om, 0, none⟩) 64 64)
          have NH : Hid (∀ k, Own4 (.slice r0 n0' k0') (.slice r1 n1' k1') (.slice r2 n2' k2') (.slice r3 n3' k3') k → ¬ k = t) := fun k e f => by subst f; exact own4_ne H4.out T4.out (by decide) k e rfl
          have NM : Hid (t ≠ om) := fun f => M4.out.ne_vb T4.out (by decide) (by rw [f]; rfl)
          have NL : Hid (∀ k, (Value.slice l0 8 lk).ownBlock = some k → ¬ k = t) := fun k e f => by subst f; exact prs_ne_vb L4.out T4.out (by decide) e
          generalize (v4.setCells t 0 #[.slice r0 n0' k0', .int .i64 H.pc, .slice r1 n1' k1', .bool H.halted, .bool H.waiting, .bool H.rung, .int .i64 H.done, .slice r2 n2' k2', .slice r3 n3' k3', .slice l0 8 lk, .slice (some ⟨om, 0, none⟩) 64 64].toList) = V at *
          have VB : Hid (Below W.heap.size W V) := Mq.under Sx4.out NR.out.2 fun k e => by have := TB.out; omega
          have VH : Hid (Hm V W.heap.size (.slice r0 n0' k0') (.slice r1 n1' k1') (.slice r2 n2' k2') (.slice r3 n3' k3') H) := NR.out.2.hm H4.out fun k e f => NH.out k e f
          have VL : Hid (Prs 77 V W.heap.size (.slice l0 8 lk) (aloL PS)) := prs_mq L4.out NR.out.2 NL.out
          have VM : Hid (Nums V W.heap.size (.slice (some ⟨om, 0, none⟩) 64 64) (List.replicate 64 0)) := NR.out.2.nums M4.out fun k e f => by have e' : om = k := (by simpa [Value.ownBlock] using e); have := NM.out; omega
          refine hK.out _ _ VB.out (fun _ => ?_)
          clear hK K
          refine wpAnyH_done (by kernel_rfl) ?_ _
          go_wp2_with fail
          go_meet
          exact ⟨t, om, r0, r1, r2, r3, l0, n0', k0', n1', k1', n2', k2', n3', k3', lk, rfl, VB.out, NR.out.1, VH.out, HA'.out, VL.out, VM.out, OL.out, TB.out, (VM.out.lt om rfl).1, NM.out⟩
      · skip
        obtain ⟨v2, hrun, hown, hgrow⟩ := mk64 v1
        have bq : Below v1.heap.size v1 v2 := (Below.refl _ _).grown hgrow (Nat.le_refl _) (by simp)
        rw [if_pos (by rfl)]
        go_simp
        clear hrun
        obtain ⟨om, hom⟩ : ∃ o, v1.heap.size = o := ⟨_, rfl⟩
        rw [hom] at hown ⊢
        have M2 : Hid (Nums v2 W.heap.size (.slice (some ⟨om, 0, none⟩) 64 64) (List.replicate 64 0)) := hown.mono (by have := Sx1.out.size; omega)
        have Sx2 : Hid (Below W.heap.size W v2) := on Sx1.out bq
        have T2 : Hid (Vb v2 t #[.slice none 0 0, .int .i64 0, .slice none 0 0, .bool false, .bool false, .bool false, .int .i64 0, .slice none 0 0, .slice none 0 0, .slice none 0 0, .slice none 0 0] 37) := T1.out.keep bq
        clear hown hgrow bq hom
        refine hK.out _ _ Sx2.out (fun _ => ?_)
        clear hK K
        refine wpAnyH_ready (rs := [7]) (by kernel_rfl) (by simp) ?_
        refine AllReadyH.cons rfl (fun K hK => ?_) AllReadyH.nil
        rw [if_pos (by rfl)]
        go_simp
        refine (s_copy _ _ _ _ H 0 v2 (((HM.out.keep B0.out).keep Sx2.out).mono (Nat.zero_le _)) (by have := HK.out.r16; omega) (by have := HK.out.c11; omega) (by have := HK.out.i40; omega) (by have := HK.out.o40; omega)).mono ?_
        rintro e v3 ⟨r', c', i', o', rfl, hm', ha', bq⟩
        obtain ⟨r0, k0', f0, _⟩ := hm'.r.shape
        obtain ⟨r1, k1', f1, _⟩ := hm'.c.shape
        obtain ⟨r2, k2', f2, _⟩ := hm'.i.shape
        obtain ⟨r3, k3', f3, _⟩ := hm'.o.shape
        subst f0 f1 f2 f3
        obtain ⟨n0', he0⟩ : ∃ n, H.regs.length = n := ⟨_, rfl⟩
        obtain ⟨n1', he1⟩ : ∃ n, H.csr.length = n := ⟨_, rfl⟩
        obtain ⟨n2', he2⟩ : ∃ n, H.inn.length = n := ⟨_, rfl⟩
        obtain ⟨n3', he3⟩ : ∃ n, H.out.length = n := ⟨_, rfl⟩
        rw [he0, he1, he2, he3] at hm' ha' ⊢
        have H3 : Hid (Hm v3 W.heap.size (.slice r0 n0' k0') (.slice r1 n1' k1') (.slice r2 n2' k2') (.slice r3 n3' k3') H) := hm'.mono Sx2.out.size
        have HA' : Hid (Ha (.slice r0 n0' k0') (.slice r1 n1' k1') (.slice r2 n2' k2') (.slice r3 n3' k3')) := ha'
        have HX : Hid (∀ k, Own4 (.slice r0 n0' k0') (.slice r1 n1' k1') (.slice r2 n2' k2') (.slice r3 n3' k3') k → v2.heap.size ≤ k ∧ k < v3.heap.size) := fun k e => hm'.own k e
        have OL : Hid (∀ k, Own4 (.slice r0 n0' k0') (.slice r1 n1' k1') (.slice r2 n2' k2') (.slice r3 n3' k3') k → k ≠ om) := fun k e f => by have := (hm'.own k e).1; have := (M2.out.lt om rfl).2; omega
        have Sx3 : Hid (Below W.heap.size W v3) := on Sx2.out bq
        have M3 : Hid (Nums v3 W.heap.size (.slice (some ⟨om, 0, none⟩) 64 64) (List.replicate 64 0)) := M2.out.keep bq
        have T3 : Hid (Vb v3 t #[.slice none 0 0, .int .i64 0, .slice none 0 0, .bool false, .bool false, .bool false, .int .i64 0, .slice none 0 0, .slice none 0 0, .slice none 0 0, .slice none 0 0] 37) := T2.out.keep bq
        clear hm' ha' bq he0 he1 he2 he3
        refine hK.out _ _ Sx3.out (fun _ => ?_)
        clear hK K
        refine wpAnyH_ready (rs := [12]) (by kernel_rfl) (by simp) ?_
        refine AllReadyH.cons rfl (fun K hK => ?_) AllReadyH.nil
        rw [if_pos (by rfl)]
        go_simp
        have PF := s_pages11 q (g : Int) X.pol v3 (PA.out v3 Sx3.out) ⟨by omega, by have := OK.out.g0; omega⟩ OK.out.pp (by rw [Int.toNat_natCast]; exact OK.out.pg)
        rw [Int.toNat_natCast, HPS.out] at PF
        refine PF.mono ?_
        clear PF
        rintro e v4 ⟨lv, rfl, pr, bq⟩
        obtain ⟨l0, lk, hle, _⟩ := pr.shape
        rw [aloL_len] at hle
        subst hle
        have L4 : Hid (Prs 77 v4 W.heap.size (.slice l0 8 lk) (aloL PS)) := prs_mono pr Sx3.out.size
        have Sx4 : Hid (Below W.heap.size W v4) := on Sx3.out bq
        have H4 : Hid (Hm v4 W.heap.size (.slice r0 n0' k0') (.slice r1 n1' k1') (.slice r2 n2' k2') (.slice r3 n3' k3') H) := H3.out.keep bq
        have M4 : Hid (Nums v4 W.heap.size (.slice (some ⟨om, 0, none⟩) 64 64) (List.replicate 64 0)) := M3.out.keep bq
        have T4 : Hid (Vb v4 t #[.slice none 0 0, .int .i64 0, .slice none 0 0, .bool false, .bool false, .bool false, .int .i64 0, .slice none 0 0, .slice none 0 0, .slice none 0 0, .slice none 0 0] 37) := T3.out.keep bq
        clear pr bq
        refine hK.out _ _ Sx4.out (fun _ => ?_)
        clear hK K
        refine wpAnyH_take (i := 14) (v := (.agg #[.slice r0 n0' k0', .int .i64 H.pc, .slice r1 n1' k1', .bool H.halted, .bool H.waiting, .bool H.rung, .int .i64 H.done, .slice r2 n2' k2', .slice r3 n3' k3', .slice l0 8 lk, .slice (some ⟨om, 0, none⟩) 64 64])) rfl (by kernel_rfl) (by kernel_rfl) (by kernel_rfl) (fun _ _ _ h => h) (Or.inl ⟨by rfl, fun w' hs => by go_simp⟩) Sx4.out ?_
        change wpAnyH _ _ _ _ _ _ _ (Act.put _ (some 22) _) _
        simp only [Act.put, List.setIfInBounds_toArray, List.set_cons_zero, List.set_cons_succ]
        refine wpAnyH_ready (rs := [16]) (by kernel_rfl) (by simp) ?_
        refine AllReadyH.cons rfl (fun K hK => ?_) AllReadyH.nil
        rw [if_pos (by rfl)]
        refine wp_store_mid 37 (.tmp 5) (.tmp 22) rfl t 0 #[.slice r0 n0' k0', .int .i64 H.pc, .slice r1 n1' k1', .bool H.halted, .bool H.waiting, .bool H.rung, .int .i64 H.done, .slice r2 n2' k2', .slice r3 n3' k3', .slice l0 8 lk, .slice (some ⟨om, 0, none⟩) 64 64] rfl rfl (T4.out.there 11 (by decide)) (by kernel_rfl) (by simp [Value.oneCell']) ?_
        change K (Act.put _ none undef) _
        simp only [Act.put]
        have NR : Hid (Vb (v4.setCells t 0 #[.slice r0 n0' k0', .int .i64 H.pc, .slice r1 n1' k1', .bool H.halted, .bool H.waiting, .bool H.rung, .int .i64 H.done, .slice r2 n2' k2', .slice r3 n3' k3', .slice l0 8 lk, .slice (some ⟨om, 0, none⟩) 64 64].toList) t #[.slice r0 n0' k0', .int .i64 H.pc, .slice r1 n1' k1', .bool H.halted, .bool H.waiting, .bool H.rung, .int .i64 H.done, .slice r2 n2' k2', .slice r3 n3' k3', .slice l0 8 lk, .slice (some ⟨om, 0, none⟩) 64 64] 37 ∧ Mq (fun k => k = t) v4 (v4.setCells t 0 #[.slice r0 n0' k0', .int .i64 H.pc, .slice r1 n1' k1', .bool H.halted, .bool H.waiting, .bool H.rung, .int .i64 H.done, .slice r2 n2' k2', .slice r3 n3' k3', .slice l0 8 lk, .slice (some ⟨om, 0, none⟩) 64 64].toList)) := elevenX T4.out (.slice r0 n0' k0') (.int .i64 H.pc) (.slice r1 n1' k1') (.bool H.halted) (.bool H.waiting) (.bool H.rung) (.int .i64 H.done) (.slice r2 n2' k2') (.slice r3 n3' k3') (.slice l0 8 lk) (.slice (some ⟨om, 0, none⟩) 64 64)
        have NH : Hid (∀ k, Own4 (.slice r0 n0' k0') (.slice r1 n1' k1') (.slice r2 n2' k2') (.slice r3 n3' k3') k → ¬ k = t) := fun k e f => by subst f; exact own4_ne H4.out T4.out (by decide) k e rfl
        have NM : Hid (t ≠ om) := fun f => M4.out.ne_vb T4.out (by decide) (by rw [f]; rfl)
        have NL : Hid (∀ k, (Value.slice l0 8 lk).ownBlock = some k → ¬ k = t) := fun k e f => by subst f; exact prs_ne_vb L4.out T4.out (by decide) e
        generalize (v4.setCells t 0 #[.slice r0 n0' k0', .int .i64 H.pc, .slice r1 n1' k1', .bool H.halted, .bool H.waiting, .bool H.rung, .int .i64 H.done, .slice r2 n2' k2', .slice r3 n3' k3', .slice l0 8 lk, .slice (some ⟨om, 0, none⟩) 64 64].toList) = V at *
        have VB : Hid (Below W.heap.size W V) := Mq.under Sx4.out NR.out.2 fun k e => by have := TB.out; omega
        have VH : Hid (Hm V W.heap.size (.slice r0 n0' k0') (.slice r1 n1' k1') (.slice r2 n2' k2') (.slice r3 n3' k3') H) := NR.out.2.hm H4.out fun k e f => NH.out k e f
        have VL : Hid (Prs 77 V W.heap.size (.slice l0 8 lk) (aloL PS)) := prs_mq L4.out NR.out.2 NL.out
        have VM : Hid (Nums V W.heap.size (.slice (some ⟨om, 0, none⟩) 64 64) (List.replicate 64 0)) := NR.out.2.nums M4.out fun k e f => by have e' : om = k := (by simpa [Value.ownBlock] using e); have := NM.out; omega
        refine hK.out _ _ VB.out (fun _ => ?_)
        clear hK K
        refine wpAnyH_done (by kernel_rfl) ?_ _
        go_wp2_with fail
        go_meet
        exact ⟨t, om, r0, r1, r2, r3, l0, n0', k0', n1', k1', n2', k2', n3', k3', lk, rfl, VB.out, NR.out.1, VH.out, HA'.out, VL.out, VM.out, OL.out, TB.out, (VM.out.lt om rfl).1, NM.out⟩
  case rest =>
  obtain ⟨t, om, r0, r1, r2, r3, l0, n0', k0', n1', k1', n2', k2', n3', k3', lk, rfl, x1, x2, x3, x4, x5, x6, x7, x8, x9, x10⟩ := hcut
  have XB : Hid (Below W.heap.size W wc) := x1
  have XT : Hid (Vb wc t #[.slice r0 n0' k0', .int .i64 H.pc, .slice r1 n1' k1', .bool H.halted, .bool H.waiting, .bool H.rung, .int .i64 H.done, .slice r2 n2' k2', .slice r3 n3' k3', .slice l0 8 lk, .slice (some ⟨om, 0, none⟩) 64 64] 37) := x2
  have XH : Hid (Hm wc W.heap.size (.slice r0 n0' k0') (.slice r1 n1' k1') (.slice r2 n2' k2') (.slice r3 n3' k3') H) := x3
  have XA : Hid (Ha (.slice r0 n0' k0') (.slice r1 n1' k1') (.slice r2 n2' k2') (.slice r3 n3' k3')) := x4
  have XL : Hid (Prs 77 wc W.heap.size (.slice l0 8 lk) (aloL PS)) := x5
  have XM : Hid (Nums wc W.heap.size (.slice (some ⟨om, 0, none⟩) 64 64) (seeS PS X.mem 0)) := x6
  have XO : Hid ((∀ k, Own4 (.slice r0 n0' k0') (.slice r1 n1' k1') (.slice r2 n2' k2') (.slice r3 n3' k3') k → k ≠ om) ∧ W.heap.size ≤ t ∧ W.heap.size ≤ om ∧ t ≠ om) := ⟨x7, x8, x9, x10⟩
  clear x1 x2 x3 x4 x5 x6 x7 x8 x9 x10
  have PE := pfor_eq (X.pol.own.getD g []) X.pol.lanes (g : Int) (pf_own X.pol OK.out.pp g OK.out.g0).2.1 (pf_lanes X.pol OK.out.pp)
  have L7 := l7_pages q (g : Int) X.pol wc (PA.out wc XB.out) ⟨by omega, by have := OK.out.g0; omega⟩ OK.out.pp
  rw [Int.toNat_natCast, PE, HPS.out] at L7
  have PLen : Hid (PS.length = 8) := by show _ = _; rw [← HPS.out]; exact pforL_len _ _ _ _
  have PT : Hid (∀ k, k < 8 → (PS.getD k (0, 0)).1 = -1 ∨ (0 ≤ (PS.getD k (0, 0)).1 ∧ (PS.getD k (0, 0)).1 ≤ 23)) := by have h := OK.out.to_; rw [HPS.out] at h; exact h
  have SL : Hid (∀ k, k ≤ 8 → (seeS PS X.mem k).length = 64) := seeS_len PS X.mem OK.out.ml PT.out
  clear PE
  go_wp2_with fail
  refine L7.mono ?_
  clear L7
  rintro e w2 ⟨lv, rfl, pr, b2⟩
  obtain ⟨la, lc, hle, _, _, hls⟩ := pr.shape
  rw [PLen.out] at hle hls
  obtain ⟨pb, hpb⟩ := hls (by decide)
  subst hpb
  subst hle
  have B2 : Hid (Below W.heap.size W w2) := on XB.out b2
  have T2 : Hid (Vb w2 t #[.slice r0 n0' k0', .int .i64 H.pc, .slice r1 n1' k1', .bool H.halted, .bool H.waiting, .bool H.rung, .int .i64 H.done, .slice r2 n2' k2', .slice r3 n3' k3', .slice l0 8 lk, .slice (some ⟨om, 0, none⟩) 64 64] 37) := XT.out.keep b2
  have H2 : Hid (Hm w2 W.heap.size (.slice r0 n0' k0') (.slice r1 n1' k1') (.slice r2 n2' k2') (.slice r3 n3' k3') H) := XH.out.keep b2
  have L2 : Hid (Prs 77 w2 W.heap.size (.slice l0 8 lk) (aloL PS)) := XL.out.keep b2
  have M2 : Hid (Nums w2 W.heap.size (.slice (some ⟨om, 0, none⟩) 64 64) (seeS PS X.mem 0)) := XM.out.keep b2
  have P2 : Hid (Prs 77 w2 wc.heap.size (.slice (some ⟨pb, 0, none⟩) 8 lc) PS) := pr
  have NP : Hid (pb ≠ om) := fun f => by
    rcases row_apart pr M2.out (by decide) with h | h
    · cases h
    · exact h (by rw [f]; rfl)
  have NL : Hid (∀ k, (Value.slice l0 8 lk).ownBlock = some k → k ≠ om) := fun k e f => by
    rcases row_apart L2.out M2.out (by decide) with h | h
    · rw [h] at e; cases e
    · exact h (by rw [e, f]; rfl)
  clear pr b2 hls XB XT XH XL XM
  go_wp2_with fail
  go_loopw [7] (fun c wr => ∃ k : Nat, k ≤ 8 ∧ c = .int .i64 (k : Int) ∧ Nums wr W.heap.size (.slice (some ⟨om, 0, none⟩) 64 64) (seeS PS X.mem k) ∧ Mq (fun j => j = om) w2 wr) (fun c _ => 8 - (intOf c).toNat)
  case atStart => exact ⟨0, by decide, rfl, M2.out, Mq.refl _ _⟩
  case round =>
    obtain ⟨k, hk, rfl, hN, hM⟩ := hrel
    have HN : Hid (Nums wr W.heap.size (.slice (some ⟨om, 0, none⟩) 64 64) (seeS PS X.mem k)) := hN
    have HM' : Hid (Mq (fun j => j = om) w2 wr) := hM
    have BW : Hid (Below W.heap.size W wr) := Mq.under B2.out hM fun j e => by have := XO.out.2.2.1; omega
    have PW : Hid (Prs 77 wr wc.heap.size (.slice (some ⟨pb, 0, none⟩) 8 lc) PS) := prs_mq P2.out hM fun j e f => NP.out (by have e' : pb = j := (by simpa [Value.ownBlock] using e); omega)
    have TW : Hid (Vb wr t #[.slice r0 n0' k0', .int .i64 H.pc, .slice r1 n1' k1', .bool H.halted, .bool H.waiting, .bool H.rung, .int .i64 H.done, .slice r2 n2' k2', .slice r3 n3' k3', .slice l0 8 lk, .slice (some ⟨om, 0, none⟩) 64 64] 37) := hM.vb T2.out XO.out.2.2.2
    clear hN hM
    by_cases hlt : k < 8
    · have hI : (k : Int) < 8 := by omega
      have HLT : Hid (k < 8) := hlt
      have cc := (PW.out.cell PLen.out.symm k hlt).1
      have KP := PT.out k hlt
      have SS : Hid (seeS PS X.mem (k + 1) = if 0 ≤ (PS.getD k (0, 0)).1 then fzL (seeS PS X.mem k) k (eight X.mem (PS.getD k (0, 0)).1.toNat) 8 else seeS PS X.mem k) := by show _ = _; rw [seeS]
      obtain ⟨tk, htk⟩ : ∃ z, (PS.getD k (0, 0)).1 = z := ⟨_, rfl⟩
      rw [htk] at cc KP SS
      have CC : Hid (wr.cell? ⟨pb, k * 2, none⟩ = some (.int .i64 tk)) := cc
      clear hlt htk
      rcases KP with rfl | ht
      · have SE : Hid (seeS PS X.mem (k + 1) = seeS PS X.mem k) := by show _ = _; rw [SS.out, if_neg (by decide)]
        go_wp2_with fail
        go_roundw
        case rel => exact ⟨k + 1, by have := HLT.out; omega, by go_num, by rw [SE.out]; exact HN.out, HM'.out⟩
        case measure => have := HLT.out; simp [intOf]; omega
      · obtain ⟨m, rfl⟩ := Int.eq_ofNat_of_zero_le ht.1
        have SE : Hid (seeS PS X.mem (k + 1) = fzL (seeS PS X.mem k) k (eight X.mem m) 8) := by show _ = _; rw [SS.out, if_pos ht.1, Int.toNat_natCast]
        have M24 : Hid (m < 24) := by show _ < _; omega
        have E8 : Hid ((eight X.mem m).length = 8) := eight_length X.mem 24 m (by rw [OK.out.ml]) M24.out
        have hge : (0 : Int) ≤ (m : Int) := by omega
        clear ht
        go_upto_region 7 with fail
        clear cc hge
        have Sx0 : Hid (Mq (fun j => j = om) wr wr.drew) := ⟨rfl, rfl, rfl, Nat.le_refl _, fun _ _ _ => rfl⟩
        have D0' : Hid (Below wr.heap.size wr wr.drew) := (Below.refl _ _).drew
        have RD : Hid (∀ u, Mq (fun j => j = om) wr u → u.cell? ⟨q, 4, none⟩ = some (.slice (some ⟨gm, 0, none⟩) lm cm) ∧ u.cell? ⟨pb, k * 2, none⟩ = some (.int .i64 (m : Int))) := fun u hu => ⟨(hu.vb (QS.out wr BW.out) (fun e => by have := QL.out; have := XO.out.2.2.1; omega)).cell 4 rfl, mq_cell hu CC.out (fun e => NP.out e)⟩
        refine wp_region_held (S := fun w' => Mq (fun j => j = om) wr w') (by kernel_rfl) ?_
        change wpAnyH _ _ _ _ _ _ _ _ (World.drew _)
        generalize wr.drew = v0 at *
        refine wpAnyH_take (i := 0) (v := (.int .i64 (k : Int))) rfl (by kernel_rfl) (by kernel_rfl) (by kernel_rfl) (fun _ _ _ h => h) (Or.inl ⟨by rfl, fun w' hs => by go_simp⟩) Sx0.out ?_
        change wpAnyH _ _ _ _ _ _ _ (Act.put _ (some 38) _) _
        simp only [Act.put, List.setIfInBounds_toArray, List.set_cons_zero, List.set_cons_succ]
        refine wpAnyH_take (i := 1) (v := (.pointer (some ⟨q, 0, none⟩))) rfl (by kernel_rfl) (by kernel_rfl) (by kernel_rfl) (fun _ _ _ h => h) (Or.inl ⟨by rfl, fun w' hs => by go_simp⟩) Sx0.out ?_
        change wpAnyH _ _ _ _ _ _ _ (Act.put _ (some 39) _) _
        simp only [Act.put, List.setIfInBounds_toArray, List.set_cons_zero, List.set_cons_succ]
        refine wpAnyH_take (i := 2) (v := (.pointer (some ⟨q, 0, none⟩))) rfl (by kernel_rfl) (by kernel_rfl) (by kernel_rfl) (fun _ _ _ h => h) (Or.inl ⟨by rfl, fun w' hs => by go_simp⟩) Sx0.out ?_
        change wpAnyH _ _ _ _ _ _ _ (Act.put _ (some 40) _) _
        simp only [Act.put, List.setIfInBounds_toArray, List.set_cons_zero, List.set_cons_succ]
        refine wpAnyH_take (i := 3) (v := (.pointer (some ⟨q, 4, none⟩))) rfl (by kernel_rfl) (by kernel_rfl) (by kernel_rfl) (fun _ _ _ h => h) (Or.inl ⟨by rfl, fun w' hs => by go_simp⟩) Sx0.out ?_
        change wpAnyH _ _ _ _ _ _ _ (Act.put _ (some 41) _) _
        simp only [Act.put, List.setIfInBounds_toArray, List.set_cons_zero, List.set_cons_succ]
        refine wpAnyH_take (i := 4) (v := (.slice (some ⟨gm, 0, none⟩) lm cm)) rfl (by kernel_rfl) (by kernel_rfl) (by kernel_rfl) (fun _ _ _ h => h) (Or.inl ⟨by rfl, fun w' hs => by have y0 := (RD.out w' hs).1; go_simp⟩) Sx0.out ?_
        change wpAnyH _ _ _ _ _ _ _ (Act.put _ (some 42) _) _
        simp only [Act.put, List.setIfInBounds_toArray, List.set_cons_zero, List.set_cons_succ]
        refine wpAnyH_take (i := 5) (v := (.slice (some ⟨pb, 0, none⟩) 8 lc)) rfl (by kernel_rfl) (by kernel_rfl) (by kernel_rfl) (fun _ _ _ h => h) (Or.inl ⟨by rfl, fun w' hs => by go_simp⟩) Sx0.out ?_
        change wpAnyH _ _ _ _ _ _ _ (Act.put _ (some 43) _) _
        simp only [Act.put, List.setIfInBounds_toArray, List.set_cons_zero, List.set_cons_succ]
        refine wpAnyH_take (i := 6) (v := (.int .i64 (k : Int))) rfl (by kernel_rfl) (by kernel_rfl) (by kernel_rfl) (fun _ _ _ h => h) (Or.inl ⟨by rfl, fun w' hs => by go_simp⟩) Sx0.out ?_
        change wpAnyH _ _ _ _ _ _ _ (Act.put _ (some 44) _) _
        simp only [Act.put, List.setIfInBounds_toArray, List.set_cons_zero, List.set_cons_succ]
        refine wpAnyH_take (i := 7) (v := (.pointer (some ⟨pb, k * 2, none⟩))) rfl (by kernel_rfl) (by kernel_rfl) (by kernel_rfl) (fun _ _ _ h => h) (Or.inl ⟨by rfl, fun w' hs => by have y0 := (RD.out w' hs).2; go_simp⟩) Sx0.out ?_
        change wpAnyH _ _ _ _ _ _ _ (Act.put _ (some 45) _) _
        simp only [Act.put, List.setIfInBounds_toArray, List.set_cons_zero, List.set_cons_succ]
        refine wpAnyH_take (i := 8) (v := (.pointer (some ⟨pb, k * 2, none⟩))) rfl (by kernel_rfl) (by kernel_rfl) (by kernel_rfl) (fun _ _ _ h => h) (Or.inl ⟨by rfl, fun w' hs => by go_simp⟩) Sx0.out ?_
        change wpAnyH _ _ _ _ _ _ _ (Act.put _ (some 46) _) _
        simp only [Act.put, List.setIfInBounds_toArray, List.set_cons_zero, List.set_cons_succ]
        refine wpAnyH_take (i := 9) (v := (.int .i64 (m : Int))) rfl (by kernel_rfl) (by kernel_rfl) (by kernel_rfl) (fun _ _ _ h => h) (Or.inl ⟨by rfl, fun w' hs => by have y0 := (RD.out w' hs).2; go_simp⟩) Sx0.out ?_
        change wpAnyH _ _ _ _ _ _ _ (Act.put _ (some 47) _) _
        simp only [Act.put, List.setIfInBounds_toArray, List.set_cons_zero, List.set_cons_succ]
        refine wpAnyH_ready (rs := [10]) (by kernel_rfl) (by simp) ?_
        refine AllReadyH.cons rfl (fun K hK => ?_) AllReadyH.nil
        rw [if_pos (by rfl)]
        go_simp
        have Sx1 : Hid (Mq (fun j => j = om) wr (v0.alloc (.cells #[.int .i64 (m : Int)] 2))) := Sx0.out.trans (Mq.of (World.grownBy_alloc v0 _ none) fun k e => by cases e)
        have D1 : Hid (Below wr.heap.size wr (v0.alloc (.cells #[.int .i64 (m : Int)] 2))) := al D0'.out _
        have NS : Hid (IsNs (v0.alloc (.cells #[.int .i64 (m : Int)] 2)) (some ⟨v0.heap.size, 0, none⟩) 1 1 [(m : Int)]) := ns_one _ _ _
        refine hK.out _ _ Sx1.out (fun _ => ?_)
        clear hK K
        generalize v0.alloc (.cells #[.int .i64 (m : Int)] 2) = v1 at *
        generalize v0.heap.size = ns at *
        refine wpAnyH_ready (rs := [11]) (by kernel_rfl) (by simp) ?_
        refine AllReadyH.cons rfl (fun K hK => ?_) AllReadyH.nil
        rw [if_pos (by rfl)]
        go_simp
        refine (l7_wordsN gm lm cm b X.mem (some ⟨ns, 0, none⟩) 1 1 [(m : Int)] v1 (D0.out.mem.keep (on (on B0.out BW.out) D1.out)) 24 (by decide) (by decide) (by rw [OK.out.ml]) NS.out (by intro y hy; rw [List.mem_singleton] at hy; subst hy; have := M24.out; omega) (by simp)).mono ?_
        have WE : wordsL X.mem [(m : Int)] = eight X.mem m := by rw [wordsL, wordsL, List.append_nil, Int.toNat_natCast]
        rw [WE]
        rintro e v2 ⟨wv, rfl, nw, b5⟩
        obtain ⟨wa, wk, hwe, _, _, hwg⟩ := nw.shape
        rw [E8.out] at hwe hwg
        obtain ⟨gw, hgw⟩ := hwg (by decide)
        subst hgw
        subst hwe
        have Sx2 : Hid (Mq (fun j => j = om) wr v2) := Sx1.out.trans (Mq.of (below_grown b5 none) fun k e => by cases e)
        have D2 : Hid (Below wr.heap.size wr v2) := on D1.out b5
        have NW : Hid (Nums v2 v1.heap.size (.slice (some ⟨gw, 0, none⟩) 8 wk) (eight X.mem m) ∧ gw ≠ om) := ⟨nw, by have := (nw.lt gw rfl).1; have := (HN.out.lt om rfl).2; have := D1.out.size; omega⟩
        clear nw b5 WE hwg
        refine hK.out _ _ Sx2.out (fun _ => ?_)
        clear hK K
        refine wpAnyH_ready (rs := [12]) (by kernel_rfl) (by simp) ?_
        refine AllReadyH.cons rfl (fun K hK => ?_) AllReadyH.nil
        rw [if_pos (by rfl)]
        go_simp
        refine (s_feed16 t om 64 k gw wk (seeS PS X.mem k) (eight X.mem m) W.heap.size v1.heap.size v2 ((TW.out.keep D2.out).cell 10 rfl) XO.out.2.2.2 (HN.out.keep D2.out) (SL.out k (by have := HLT.out; omega)) (by have := HLT.out; omega) NW.out.1 E8.out NW.out.2).mono ?_
        rintro e v3 ⟨rfl, n3, m3'⟩
        have N3 : Hid (Nums v3 W.heap.size (.slice (some ⟨om, 0, none⟩) 64 64) (seeS PS X.mem (k + 1))) := by show Nums _ _ _ _; rw [SE.out]; exact n3
        have Sx3 : Hid (Mq (fun j => j = om) wr v3) := Sx2.out.trans m3'
        have M3 : Hid (Mq (fun j => j = om) w2 v3) := HM'.out.trans Sx3.out
        clear n3 m3'
        refine hK.out _ _ Sx3.out (fun _ => ?_)
        clear hK K
        refine wpAnyH_done (by kernel_rfl) ?_ _
        go_wp2_with fail
        go_roundw
        case rel => exact ⟨k + 1, by have := HLT.out; omega, by go_num, N3.out, M3.out⟩
        case measure => have := HLT.out; simp [intOf]; omega
    · have hJ : ¬ (k : Int) < 8 := by omega
      obtain rfl : k = 8 := by omega
      clear hlt
      have RW : Hid (Vb wr s #[.slice none 0 0, .int .i64 0, .slice none 0 0, .bool false, .bool false, .bool false, .int .i64 0, .slice none 0 0, .slice none 0 0, .slice none 0 0, .slice none 0 0] 37) := HM'.out.vb (R.out.keep B2.out) (fun e => by have := LT.out; have := XO.out.2.2.1; omega)
      have HW : Hid (Hm wr W.heap.size (.slice r0 n0' k0') (.slice r1 n1' k1') (.slice r2 n2' k2') (.slice r3 n3' k3') H) := HM'.out.hm H2.out fun j e f => XO.out.1 j e f
      have LW : Hid (Prs 77 wr W.heap.size (.slice l0 8 lk) (aloL PS)) := prs_mq L2.out HM'.out fun j e f => NL.out j e f
      have NR : Hid (_ ∧ _) := elevenX RW.out (.slice r0 n0' k0') (.int .i64 H.pc) (.slice r1 n1' k1') (.bool H.halted) (.bool H.waiting) (.bool H.rung) (.int .i64 H.done) (.slice r2 n2' k2') (.slice r3 n3' k3') (.slice l0 8 lk) (.slice (some ⟨om, 0, none⟩) 64 64)
      have y0 := TW.out.cell 0 rfl
      have p0 := RW.out.cell 0 rfl
      have f0 := RW.out.free 0
      have y1 := TW.out.cell 1 rfl
      have p1 := RW.out.cell 1 rfl
      have f1 := RW.out.free 1
      have y2 := TW.out.cell 2 rfl
      have p2 := RW.out.cell 2 rfl
      have f2 := RW.out.free 2
      have y3 := TW.out.cell 3 rfl
      have p3 := RW.out.cell 3 rfl
      have f3 := RW.out.free 3
      have y4 := TW.out.cell 4 rfl
      have p4 := RW.out.cell 4 rfl
      have f4 := RW.out.free 4
      have y5 := TW.out.cell 5 rfl
      have p5 := RW.out.cell 5 rfl
      have f5 := RW.out.free 5
      have y6 := TW.out.cell 6 rfl
      have p6 := RW.out.cell 6 rfl
      have f6 := RW.out.free 6
      have y7 := TW.out.cell 7 rfl
      have p7 := RW.out.cell 7 rfl
      have f7 := RW.out.free 7
      have y8 := TW.out.cell 8 rfl
      have p8 := RW.out.cell 8 rfl
      have f8 := RW.out.free 8
      have y9 := TW.out.cell 9 rfl
      have p9 := RW.out.cell 9 rfl
      have f9 := RW.out.free 9
      have y10 := TW.out.cell 10 rfl
      have p10 := RW.out.cell 10 rfl
      have f10 := RW.out.free 10
      have lt := RW.out.lt
      go_wp2_with fail
      clear lt y0 p0 f0 y1 p1 f1 y2 p2 f2 y3 p3 f3 y4 p4 f4 y5 p5 f5 y6 p6 f6 y7 p7 f7 y8 p8 f8 y9 p9 f9 y10 p10 f10
      generalize (((((((((((wr.setCell ⟨s, 0, none⟩ (.slice r0 n0' k0')).setCell ⟨s, 1, none⟩ (.int .i64 H.pc)).setCell ⟨s, 2, none⟩ (.slice r1 n1' k1')).setCell ⟨s, 3, none⟩ (.bool H.halted)).setCell ⟨s, 4, none⟩ (.bool H.waiting)).setCell ⟨s, 5, none⟩ (.bool H.rung)).setCell ⟨s, 6, none⟩ (.int .i64 H.done)).setCell ⟨s, 7, none⟩ (.slice r2 n2' k2')).setCell ⟨s, 8, none⟩ (.slice r3 n3' k3')).setCell ⟨s, 9, none⟩ (.slice l0 8 lk)).setCell ⟨s, 10, none⟩ (.slice (some ⟨om, 0, none⟩) 64 64)) = V at *
      have O9 : Ho (s + 1) wr V := NR.out.2.ho fun j e => by omega
      have zz : s + 1 ≤ W.heap.size ∧ w.heap.size ≤ s + 1 := ⟨LT.out, by have := HSs.out; omega⟩
      have NE : ∀ j, (Value.slice l0 8 lk).ownBlock = some j → ¬ j = s := fun j e f => by have := (LW.out.lt j e).1; omega
      have ap4 : ∀ v : Value, (∀ j, v.ownBlock = some j → j ≠ om) → Apt v (.slice (some ⟨om, 0, none⟩) 64 64) := fun v h => by
        cases hv : v.ownBlock with
        | none => exact .inl hv
        | some j => exact .inr (by rw [hv]; intro f; exact h j hv (by simpa [Value.ownBlock] using f))
      have F : Hid (Sm V w.heap.size (.slice r0 n0' k0') (.slice r1 n1' k1') (.slice r2 n2' k2') (.slice r3 n3' k3') (.slice l0 8 lk) (.slice (some ⟨om, 0, none⟩) 64 64) H (aloL PS) (seeS PS X.mem 8)) := ⟨((HW.out.mono zz.1).ho O9).mono zz.2, XA.out, prs_mono (prs_mq LW.out NR.out.2 NE) (by have := B0.out.size; omega), ((HN.out.mono zz.1).ho O9).mono zz.2, ap4 _ fun j e => XO.out.1 j (.inl e), ap4 _ fun j e => XO.out.1 j (.inr (.inl e)), ap4 _ fun j e => XO.out.1 j (.inr (.inr (.inl e))), ap4 _ fun j e => XO.out.1 j (.inr (.inr (.inr e)))⟩
      have x0' := NR.out.1.cell 0 rfl
      have x1' := NR.out.1.cell 1 rfl
      have x2' := NR.out.1.cell 2 rfl
      have x3' := NR.out.1.cell 3 rfl
      have x4' := NR.out.1.cell 4 rfl
      have x5' := NR.out.1.cell 5 rfl
      have x6' := NR.out.1.cell 6 rfl
      have x7' := NR.out.1.cell 7 rfl
      have x8' := NR.out.1.cell 8 rfl
      have x9' := NR.out.1.cell 9 rfl
      have x10' := NR.out.1.cell 10 rfl
      exact bodyPost_ret (v := .agg #[.slice r0 n0' k0', .int .i64 H.pc, .slice r1 n1' k1', .bool H.halted, .bool H.waiting, .bool H.rung, .int .i64 H.done, .slice r2 n2' k2', .slice r3 n3' k3', .slice l0 8 lk, .slice (some ⟨om, 0, none⟩) 64 64]) (by simp [results, Tryz.results18, go_sem, x0', x1', x2', x3', x4', x5', x6', x7', x8', x9', x10']) rfl ⟨_, _, _, _, _, _, rfl, F.out, Mq.under (on B0.out BW.out) NR.out.2 fun j e => by have := HSs.out; omega⟩
end Go.Proofs.YthnaggeilbcioaaGreatDoor
