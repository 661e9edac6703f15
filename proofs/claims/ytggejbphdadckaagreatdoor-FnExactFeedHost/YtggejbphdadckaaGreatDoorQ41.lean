/- Texts of this seat, joined. -/
import Derived.Deep.RegionWith
import Derived.Deep.RegionHeld3
import Derived.Deep.Cut
import Derived.Deep.CutRange
import Derived.Test.YtggejbphdadckaaGreatDoorQ19
import Derived.Test.YtggejbphdadckaaGreatDoorQ40
namespace Go.Proofs.YtggejbphdadckaaGreatDoor
open Go.RowKit
set_option linter.unusedVariables false
theorem row_shape {w : World} {base sz n : Nat} {e : TypeId} {v : Value} {xs : List Value} (h : w.ownsRow base e sz v n xs) : ∃ a cap, v = .slice a n cap := by
  obtain ⟨_, ⟨rfl, rfl⟩ | ⟨g, cap, cur, rfl, _⟩⟩ := h
  · exact ⟨_, _, rfl⟩
  · exact ⟨_, _, rfl⟩
set_option maxRecDepth 20000 in
set_option maxHeartbeats 8000000 in
theorem i_copyPolicy (a0 a1 a2 a3 : Option Addr) (n0 c0 n1 c1 n2 c2 n3 c3 : Nat) (P : Plc) (w : World) (h : Pl w a0 n0 c0 a1 n1 c1 a2 n2 c2 a3 n3 c3 P) (sm : Small n0 n1 n2 n3 P) :
    Calls Tryz.prog 119 #[.agg #[.slice a0 n0 c0, .slice a1 n1 c1, .slice a2 n2 c2, .slice a3 n3 c3]] w fun e w' => ∃ v0 v1 v2 v3, e = .returned (.agg #[v0, v1, v2, v3]) ∧ WpE w' w.heap.size v0 v1 v2 v3 P ∧ Below w.heap.size w w' := by
  generalize hW : (w.alloc (.cells #[.slice a0 n0 c0, .slice a1 n1 c1, .slice a2 n2 c2, .slice a3 n3 c3] 37)).alloc (.cells #[.slice none 0 0, .slice none 0 0, .slice none 0 0, .slice none 0 0] 37) = W
  have B0 : Hid (Below w.heap.size w W) := by show Below _ _ _; rw [← hW]; exact al (al (Below.refl _ _) _) _
  obtain ⟨s, hS⟩ : ∃ s, w.heap.size = s := ⟨_, rfl⟩
  have HSs : Hid (w.heap.size = s) := hS
  have z1 : s + 1 = (w.alloc (.cells #[.slice a0 n0 c0, .slice a1 n1 c1, .slice a2 n2 c2, .slice a3 n3 c3] 37)).heap.size := by rw [← hS]; simp
  have Q : Hid (Vb W s #[.slice a0 n0 c0, .slice a1 n1 c1, .slice a2 n2 c2, .slice a3 n3 c3] 37) := by show Vb _ _ _ _; rw [← hW, ← hS]; exact (Vb.new _ _ _).push _
  have R : Hid (Vb W (s + 1) #[.slice none 0 0, .slice none 0 0, .slice none 0 0, .slice none 0 0] 37) := by show Vb _ _ _ _; rw [← hW, z1]; exact Vb.new _ _ _
  have ZW : Hid (s + 2 = W.heap.size) := by show _ = _; rw [← hW, ← hS]; simp
  clear z1
  have D : Hid (Pl W a0 n0 c0 a1 n1 c1 a2 n2 c2 a3 n3 c3 P) := h.stay B0.out
  have SMP : Hid (Small n0 n1 n2 n3 P) := sm
  have HN0 : Hid (n0 = P.own.length) := h.own.len
  have n0I : (n0 : Int) ≤ 1048576 := by have := sm.own; omega
  clear h sm
  have q0 := Q.out.cell 0 rfl
  go_enter Tryz.func119, Tryz.ntmps119
  go_wp2_with fail
  clear hW hS q0
  go_loopw [3, 5, 9] (fun v _ c wr => ∃ (j : Nat) (xs : List Value), j ≤ n0 ∧ c = .int .i64 (j : Int) ∧ xs.length = j ∧ wr.ownsRow W.heap.size 28 1 v xs.length xs ∧ (∀ (i : Nat) (x : Value), xs[i]? = some x → Nums wr W.heap.size x (P.own.getD i [])) ∧ xs.Pairwise Apt ∧ Below W.heap.size W wr) (fun _ _ c _ => n0 - (intOf c).toNat)
  case atStart => exact ⟨0, [], Nat.zero_le _, rfl, rfl, World.ownsRow_nil _ _ _ _, fun i x e => by simp at e, List.Pairwise.nil, Below.refl _ _⟩
  case round =>
    obtain ⟨j, xs, hj, rfl, hx, hO, hR, hA, hB⟩ := hrel
    obtain ⟨va, vc, hv⟩ := row_shape hO
    rw [hx] at hv
    subst hv
    have HO : Hid (wr.ownsRow W.heap.size 28 1 (.slice va j vc) xs.length xs) := hO
    have HR : Hid ((∀ (i : Nat) (x : Value), xs[i]? = some x → Nums wr W.heap.size x (P.own.getD i [])) ∧ xs.Pairwise Apt ∧ xs.length = j) := ⟨hR, hA, hx⟩
    have HB : Hid (Below W.heap.size W wr) := hB
    clear hO hR hA hx
    by_cases hlt : j < n0
    · have hI : (j : Int) < (n0 : Int) := by omega
      have HLT : Hid (j < n0) := hlt
      obtain ⟨x, rb, rl, rc, e0, k1, k2⟩ := (D.out.own.stay hB).at j hlt
      subst e0
      have KN : Hid (IsNs wr rb rl rc (P.own.getD j [])) := k2
      have KL : Hid (rl ≤ 1048576) := by show _ ≤ _; rw [k2.len]; exact SMP.out.each j hlt
      clear hlt hB k2
      go_wp2_with fail
      refine (i_clone rb rl rc (P.own.getD j []) _ KN.out (by have := KL.out; omega)).mono ?_
      rintro e w1 ⟨u, rfl, nu, b1⟩
      obtain ⟨ua, uc, hu, _⟩ := nu.shape
      obtain ⟨ul, hul⟩ : ∃ n, (P.own.getD j []).length = n := ⟨_, rfl⟩
      rw [hul] at hu
      subst hu
      clear hul
      have NU : Hid (Nums w1 wr.heap.size (.slice ua ul uc) (P.own.getD j [])) := nu
      have B1 : Hid (Below wr.heap.size wr w1) := b1
      have U1 : Hid ((Value.slice ua ul uc).oneCell' = true) := by rfl
      clear nu b1 k1
      have WL : Hid (W.heap.size ≤ w1.heap.size) := (on HB.out B1.out).size
      go_wp2_with (at_builtin; refine wp_rowsX _ rfl _ _ rfl W.heap.size (.slice va j vc) xs rfl ((row_keepX HO.out B1.out).alloc _) w1.heap.size (.slice ua ul uc) rfl (cell_new rfl) U1.out (by have := HR.out.2.2; have := HLT.out; have := SMP.out.own; omega) (by have := WL.out; simp; omega) ?_; intro v' w' hN' hG')
      have NK : Hid (∀ (u' : Value) (zs : List Int), Nums w1 W.heap.size u' zs → Nums w' W.heap.size u' zs) := fun u' zs hu => (hu.keep (al (Below.refl _ _) _)).kept hG' (row_typesX (hu.keep (al (Below.refl _ _) _ : Below w1.heap.size w1 (w1.alloc (.cells #[.slice ua ul uc] 28)))) ((row_keepX HO.out B1.out).alloc _) (by decide))
      have O' : Hid (w'.ownsRow W.heap.size 28 1 v' (xs ++ [Value.slice ua ul uc]).length (xs ++ [Value.slice ua ul uc])) := hN'
      have B' : Hid (Below W.heap.size W w') := (al (on HB.out B1.out) _ : Below W.heap.size W (w1.alloc (.cells #[.slice ua ul uc] 28))).grown hG' (by have := WL.out; simp; omega) (fun k e => (HO.out.lt k e).1)
      have LR : Hid (∀ (i : Nat) (x : Value), xs[i]? = some x → ∀ k, x.ownBlock = some k → k < wr.heap.size) := fun i x e k hk => ((HR.out.1 i x e).lt k hk).2
      clear hN' hG'
      go_wp2_with fail
      go_roundw
      case rel =>
        refine ⟨j + 1, xs ++ [Value.slice ua ul uc], by have := HLT.out; omega, by go_num, by rw [List.length_append, HR.out.2.2]; rfl, O'.out, fun i x e => ?_, ?_, B'.out⟩
        · by_cases hi : i < xs.length
          · rw [List.getElem?_append_left hi] at e
            exact NK.out _ _ ((HR.out.1 i x e).keep B1.out)
          · rw [List.getElem?_append_right (by omega)] at e
            have hi0 : i - xs.length = 0 := by
              rcases Nat.eq_zero_or_pos (i - xs.length) with h0 | h0
              · exact h0
              · rw [List.getElem?_eq_none (by simp; omega)] at e; cases e
            have hij : i = j := by have := HR.out.2.2; omega
            rw [hi0] at e
            cases e
            rw [hij]
            exact NK.out _ _ (NU.out.mono HB.out.size)
        · rw [List.pairwise_append]
          refine ⟨HR.out.2.1, List.pairwise_singleton _ _, fun a ha b hb => ?_⟩
          rw [List.mem_singleton] at hb
          subst hb
          obtain ⟨i, hi, e⟩ := List.mem_iff_getElem.1 ha
          have ea : xs[i]? = some a := by rw [List.getElem?_eq_getElem hi, e]
          cases eo : a.ownBlock with
          | none => exact .inl eo
          | some k =>
            refine .inr fun e2 => ?_
            rw [eo] at e2
            have h1 := LR.out i a ea k eo
            have h2 := (NU.out.lt k e2.symm).1
            omega
      case measure => have := HLT.out; simp [intOf]; omega
    · have hJ : ¬ (j : Int) < (n0 : Int) := by omega
      have JN : Hid (j = n0) := by show _ = _; omega
      clear hlt hB hj
      have QL : Hid (∀ w', SvN 4 wr (s + 1) w' → Vb w' s #[.slice a0 n0 c0, .slice a1 n1 c1, .slice a2 n2 c2, .slice a3 n3 c3] 37) := fun w' hs => hs.1.vb (Q.out.keep HB.out) (by omega)
      have BS : Hid (∀ w', SvN 4 wr (s + 1) w' → Below w.heap.size w w') := fun w' hs => Mq.under (on B0.out HB.out) hs.1 fun k e => by have := HSs.out; omega
      have LT : Hid (s + 1 < wr.heap.size) := (R.out.keep HB.out).lt
      have Sv0 : Hid (SvN 4 wr (s + 1) wr.drew) := SvN.step ⟨Mq.refl _ _, (R.out.keep HB.out).there 4 (by decide)⟩ LT.out (Below.refl _ _).drew
      have E0 : Hid (Below wr.heap.size wr wr.drew) := (Below.refl _ _).drew
      go_upto_region 7 with fail
      refine wp_region_held (S := fun w' => SvN 4 wr (s + 1) w') (by kernel_rfl) ?_
      change wpAnyH _ _ _ _ _ _ _ _ (World.drew _)
      generalize wr.drew = u0 at *
      refine wpTk (i := 0) (v := (.slice va j vc)) rfl (Or.inl ⟨by rfl, fun w' hs => by go_simp⟩) Sv0.out ?_
      change wpAnyH _ _ _ _ _ _ _ (Act.put _ (some 19) _) _
      simp only [Act.put, zT, zZ, zS]
      refine wpTk (i := 1) (v := (.pointer (some ⟨s, 1, none⟩))) rfl (Or.inl ⟨by rfl, fun w' hs => by go_simp⟩) Sv0.out ?_
      change wpAnyH _ _ _ _ _ _ _ (Act.put _ (some 20) _) _
      simp only [Act.put, zT, zZ, zS]
      refine wpTk (i := 2) (v := (.slice a1 n1 c1)) rfl (Or.inl ⟨by rfl, fun w' hs => by have y := (QL.out w' hs).cell 1 rfl; go_simp⟩) Sv0.out ?_
      change wpAnyH _ _ _ _ _ _ _ (Act.put _ (some 21) _) _
      simp only [Act.put, zT, zZ, zS]
      refine wpTk (i := 4) (v := (.pointer (some ⟨s, 2, none⟩))) rfl (Or.inl ⟨by rfl, fun w' hs => by go_simp⟩) Sv0.out ?_
      change wpAnyH _ _ _ _ _ _ _ (Act.put _ (some 23) _) _
      simp only [Act.put, zT, zZ, zS]
      refine wpTk (i := 5) (v := (.slice a2 n2 c2)) rfl (Or.inl ⟨by rfl, fun w' hs => by have y := (QL.out w' hs).cell 2 rfl; go_simp⟩) Sv0.out ?_
      change wpAnyH _ _ _ _ _ _ _ (Act.put _ (some 24) _) _
      simp only [Act.put, zT, zZ, zS]
      refine wpTk (i := 7) (v := (.pointer (some ⟨s, 3, none⟩))) rfl (Or.inl ⟨by rfl, fun w' hs => by go_simp⟩) Sv0.out ?_
      change wpAnyH _ _ _ _ _ _ _ (Act.put _ (some 26) _) _
      simp only [Act.put, zT, zZ, zS]
      refine wpTk (i := 8) (v := (.slice a3 n3 c3)) rfl (Or.inl ⟨by rfl, fun w' hs => by have y := (QL.out w' hs).cell 3 rfl; go_simp⟩) Sv0.out ?_
      change wpAnyH _ _ _ _ _ _ _ (Act.put _ (some 27) _) _
      simp only [Act.put, zT, zZ, zS]
      refine zR 3 rfl fun K hK => ?_
      rw [if_pos (by rfl)]
      go_simp
      refine (i_cloneL _ _ _ P.lanes _ (((D.out.lanes.stay HB.out).stay E0.out)) (by have := SMP.out.lanes; omega)).mono ?_
      rintro e u1 ⟨l1, rfl, p1, b1⟩
      obtain ⟨b1a, d1, f1, _⟩ := p1.shape
      subst f1
      obtain ⟨m1, hm1⟩ : ∃ n, P.lanes.length = n := ⟨_, rfl⟩
      rw [hm1] at p1 ⊢
      have P1 : Hid (Ls 125 u1 u0.heap.size (.slice b1a m1 d1) P.lanes) := p1
      have E1 : Hid (Below wr.heap.size wr u1) := on E0.out b1
      have Sv1 : Hid (SvN 4 wr (s + 1) u1) := Sv0.out.step LT.out b1
      have C1 : Hid (Below u0.heap.size u0 u1) := b1
      clear p1 b1 hm1
      refine hK.out _ _ Sv1.out (fun _ => ?_)
      clear hK K
      refine zR 6 rfl fun K hK => ?_
      rw [if_pos (by rfl)]
      go_simp
      refine (i_cloneB _ _ _ P.bells _ (((D.out.bells.stay HB.out).stay E1.out)) (by have := SMP.out.bells; omega)).mono ?_
      rintro e u2 ⟨l2, rfl, p2, b2⟩
      obtain ⟨b2a, d2, f2, _⟩ := p2.shape
      subst f2
      obtain ⟨m2, hm2⟩ : ∃ n, P.bells.length = n := ⟨_, rfl⟩
      rw [hm2] at p2 ⊢
      have P2 : Hid (Prs 129 u2 u1.heap.size (.slice b2a m2 d2) P.bells) := p2
      have E2 : Hid (Below wr.heap.size wr u2) := on E1.out b2
      have Sv2 : Hid (SvN 4 wr (s + 1) u2) := Sv1.out.step LT.out b2
      have C2 : Hid (Below u1.heap.size u1 u2) := b2
      clear p2 b2 hm2
      refine hK.out _ _ Sv2.out (fun _ => ?_)
      clear hK K
      refine zR 9 rfl fun K hK => ?_
      rw [if_pos (by rfl)]
      go_simp
      refine (i_cloneS _ _ _ P.plan _ (((D.out.plan.stay HB.out).stay E2.out)) (by have := SMP.out.plan; omega)).mono ?_
      rintro e u3 ⟨l3, rfl, p3, b3⟩
      obtain ⟨b3a, d3, f3, _⟩ := p3.shape
      subst f3
      obtain ⟨m3, hm3⟩ : ∃ n, P.plan.length = n := ⟨_, rfl⟩
      rw [hm3] at p3 ⊢
      have P3 : Hid (Prs 123 u3 u2.heap.size (.slice b3a m3 d3) P.plan) := p3
      have E3 : Hid (Below wr.heap.size wr u3) := on E2.out b3
      have Sv3 : Hid (SvN 4 wr (s + 1) u3) := Sv2.out.step LT.out b3
      have C3 : Hid (Below u2.heap.size u2 u3) := b3
      clear p3 b3 hm3
      refine hK.out _ _ Sv3.out (fun _ => ?_)
      clear hK K
      refine wpTk (i := 10) (v := (.agg #[.slice va j vc, .slice b1a m1 d1, .slice b2a m2 d2, .slice b3a m3 d3])) rfl (Or.inl ⟨by rfl, fun w' hs => by go_simp⟩) Sv3.out ?_
      change wpAnyH _ _ _ _ _ _ _ (Act.put _ (some 29) _) _
      simp only [Act.put, zT, zZ, zS]
      refine zR 11 rfl fun K hK => ?_
      rw [if_pos (by rfl)]
      refine wp_store_mid 37 (.tmp 2) (.tmp 29) rfl (s + 1) 0 #[.slice va j vc, .slice b1a m1 d1, .slice b2a m2 d2, .slice b3a m3 d3] rfl rfl Sv3.out.2 (by kernel_rfl) (by simp [Value.oneCell']) ?_
      change K (Act.put _ none undef) _
      simp only [Act.put]
      have S6 : Hid (SvN 4 wr (s + 1) (u3.setCells (s + 1) 0 #[.slice va j vc, .slice b1a m1 d1, .slice b2a m2 d2, .slice b3a m3 d3].toList)) := Sv3.out.set _
      have R6 : Hid ((u3.setCells (s + 1) 0 #[.slice va j vc, .slice b1a m1 d1, .slice b2a m2 d2, .slice b3a m3 d3].toList).rangeAt (s + 1) 0 #[.slice va j vc, .slice b1a m1 d1, .slice b2a m2 d2, .slice b3a m3 d3].toList) := World.rangeAt_setCells_same _ _ _ _ Sv3.out.2
      have Q6 : Hid (Mq (fun k => k = s + 1) u3 (u3.setCells (s + 1) 0 #[.slice va j vc, .slice b1a m1 d1, .slice b2a m2 d2, .slice b3a m3 d3].toList)) := mq_cells (s + 1) _ u3 0
      generalize u3.setCells (s + 1) 0 #[.slice va j vc, .slice b1a m1 d1, .slice b2a m2 d2, .slice b3a m3 d3].toList = u6 at *
      refine hK.out _ _ S6.out (fun _ => ?_)
      clear hK K
      refine wpAnyH_done (by kernel_rfl) ?_ _
      have O6 : Ho (s + 2) u3 u6 := Q6.out.ho fun k e => by omega
      have WL3 : s + 2 ≤ u0.heap.size ∧ s + 2 ≤ u1.heap.size ∧ s + 2 ≤ u2.heap.size := by
        have := ZW.out; have := HB.out.size; have := E0.out.size; have := C1.out.size; have := C2.out.size
        exact ⟨by omega, by omega, by omega⟩
      have F : Hid (Wp u6 w.heap.size (.slice va j vc) (.slice b1a m1 d1) (.slice b2a m2 d2) (.slice b3a m3 d3) P xs) :=
        Wp.mono (Wp.ho (base := s + 2) ⟨row_monoX (row_keepX HO.out E3.out) (by have := ZW.out; omega), by rw [HR.out.2.2, JN.out]; exact HN0.out, fun i x e => ((HR.out.1 i x e).keep E3.out).mono (by have := ZW.out; omega), HR.out.2.1, row_monoX (row_keepX (row_keepX P1.out C2.out) C3.out) WL3.1, row_monoX (row_keepX P2.out C3.out) WL3.2.1, row_monoX P3.out WL3.2.2⟩ O6) (by have := HSs.out; omega)
      have B6 : Hid (Below w.heap.size w u6) := BS.out _ S6.out
      have LD := run_loadVar_mid (P := Tryz.prog) u6 (s + 1) 0 37 #[.slice va j vc, .slice b1a m1 d1, .slice b2a m2 d2, .slice b3a m3 d3].toList _ R6.out Tryz.underlying37 rfl (by kernel_rfl)
      go_wp2_with fail
      exact bodyPost_ret (v := .agg #[.slice va j vc, .slice b1a m1 d1, .slice b2a m2 d2, .slice b3a m3 d3]) (by simp [results, Tryz.results119, asAddr]; rw [LD]) rfl ⟨_, _, _, _, rfl, ⟨_, F.out⟩, B6.out⟩
end Go.Proofs.YtggejbphdadckaaGreatDoor
