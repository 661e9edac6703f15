/- ComposePages by the model. -/
import Derived.Test.YtighhjkokjpgfaaPco
namespace Go.Proofs.Ytighhjkokjpgfaa
open Go.RowKit
set_option linter.unusedVariables false

/-- What one round leaves: the list that grew stands in the answer under way. -/
structure Grew (w : World) (S : Nat) (z : Value) (L : List (Int × Int)) (w' : World) : Prop where
  prs : Prs 86 w' (S + 2) z L
  r0 : w'.cell? ⟨S, 0, none⟩ = some (.int .i64 0)
  r1 : w'.cell? ⟨S, 1, none⟩ = some (.slice none 0 0)
  f0 : w'.frozen? ⟨S, 0, none⟩ = false
  f1 : w'.frozen? ⟨S, 1, none⟩ = false
  o0 : w'.cell? ⟨S + 1, 0, none⟩ = some (.int .i64 0)
  o1 : w'.cell? ⟨S + 1, 1, none⟩ = some z
  g1 : w'.frozen? ⟨S + 1, 1, none⟩ = false
  below : Below w.heap.size w w'

theorem Grew.keep {w w1 w2 : World} {S : Nat} {z : Value} {L : List (Int × Int)} (h : Grew w S z L w1) (b : Below w1.heap.size w1 w2) : Grew w S z L w2 := by
  have s1 : S + 1 < w1.heap.size := block_of_cell h.o0
  exact ⟨h.prs.keep b, cell_keep b h.r0, cell_keep b h.r1, by rw [b.frozen (p := ⟨S, 0, none⟩) (by show S < _; omega)]; exact h.f0, by rw [b.frozen (p := ⟨S, 1, none⟩) (by show S < _; omega)]; exact h.f1,
    cell_keep b h.o0, cell_keep b h.o1, by rw [b.frozen (p := ⟨S + 1, 1, none⟩) s1]; exact h.g1, on h.below b⟩

/-- append has grown the list; it is not yet stored. -/
theorem Grew.grown {w w1 w2 : World} {S : Nat} {z z' : Value} {L : List (Int × Int)} {r : Int × Int} (h : Grew w S z L w1) (hp : Prs 86 w2 (S + 2) z' (L ++ [r])) (g : w1.grownBy w2 z.ownBlock) (hS : w.heap.size ≤ S) :
    Grew w S z' (L ++ [r]) (w2.setCell ⟨S + 1, 1, none⟩ z') ∧ w2.cell? ⟨S + 1, 1, none⟩ = some z ∧ w2.frozen? ⟨S + 1, 1, none⟩ = false := by
  have s1 : S + 1 < w1.heap.size := block_of_cell h.o0
  have n0 : some S ≠ z.ownBlock := pown_not h.prs _ (.inl (by omega))
  have n1 : some (S + 1) ≠ z.ownBlock := pown_not h.prs _ (.inl (by omega))
  have r0 := cell_grown g h.r0 n0
  have r1 := cell_grown g h.r1 n0
  have o0 := cell_grown g h.o0 n1
  have o1 := cell_grown g h.o1 n1
  have f0 : w2.frozen? ⟨S, 0, none⟩ = false := by rw [frozen_grown (p := ⟨S, 0, none⟩) g (by show S < _; omega) n0]; exact h.f0
  have f1 : w2.frozen? ⟨S, 1, none⟩ = false := by rw [frozen_grown (p := ⟨S, 1, none⟩) g (by show S < _; omega) n0]; exact h.f1
  have g1 : w2.frozen? ⟨S + 1, 1, none⟩ = false := by rw [frozen_grown (p := ⟨S + 1, 1, none⟩) g s1 n1]; exact h.g1
  have b2 : Below w.heap.size w w2 := h.below.grown g h.below.size (fun k hk => by have := (h.prs.lt k hk).1; omega)
  refine ⟨⟨hp.put _ _ (fun e => pown_not hp (S + 1) (.inl (by omega)) e.symm), by simp [go_sem, r0], by simp [go_sem, r1], by rw [World.frozen?_setCell]; exact f0, by rw [World.frozen?_setCell]; exact f1, by simp [go_sem, o0], by rw [World.cell?_setCell_same _ _ _ o1], by rw [World.frozen?_setCell]; exact g1, b2.setCell (by show w.heap.size ≤ S + 1; omega) _⟩, o1, g1⟩

theorem cell_newAt {w : World} {cs : Array Value} {t : TypeId} {i n : Nat} {v : Value} (hn : w.heap.size = n) (h : cs[i]? = some v) : (w.alloc (.cells cs t)).cell? ⟨n, i, none⟩ = some v := by
  subst hn
  exact cell_new h

set_option maxHeartbeats 4000000 in
theorem spec_compose (v u : Value) (rs qs : List (Int × Int)) (b b' : Nat) (w : World) (h : Prs 86 w b v rs) (k : Prs 86 w b' u qs) (hm : rs.length ≤ 1048576) (km : qs.length ≤ 1048576) :
    Calls Try.prog 18 #[v, u] w fun e w' => ∃ y, e = .returned (.agg #[.int .i64 (twoV rs 8 qs), y]) ∧ Prs 86 w' w.heap.size y (cmpL rs qs) ∧ Below w.heap.size w w' := by
  have hF := fun w1 (q : Below w.heap.size w w1) => spec_two v u rs qs b b' w1 (h.keep q) (k.keep q) hm km
  by_cases hc : twoV rs 8 qs = 0
  case neg =>
    have e2 : cmpL rs qs = [] := if_neg hc
    rw [e2]
    have g : (twoV rs 8 qs != 0) = true := by simpa using hc
    clear e2 hc
    generalize twoV rs 8 qs = c at *
    obtain ⟨a, cap, rfl, _, _, _⟩ := h.shape
    obtain ⟨a', cap', rfl, _, _, _⟩ := k.shape
    clear h k
    go_enter Try.func18, Try.ntmps18
    go_wp2_with fail
    refine (hF _ (al (Below.refl _ _) _)).mono ?_
    rintro e w1 ⟨rfl, rfl⟩
    clear hF
    go_wp2_with fail
    exact bodyPost_ret (v := .agg #[.int .i64 c, .slice none 0 0]) (by simp [results, Try.results18, go_sem]) rfl ⟨_, rfl, Prs.nil _ _ _, al (Below.refl _ _) _⟩
  have e2 : cmpL rs qs = rs.map (cmpP qs) := if_pos hc
  rw [e2]
  rw [hc] at hF ⊢
  obtain ⟨z1, z2⟩ := twoV_zero hc
  obtain ⟨_, _, hl8, hok⟩ := pgsV_zero z1
  obtain ⟨_, _, kl8, kok⟩ := pgsV_zero z2
  obtain ⟨a, cap, rfl, _, _, hg⟩ := h.shape
  obtain ⟨a', cap', rfl, _, _, kg⟩ := k.shape
  rw [hl8] at hg hF ⊢
  rw [kl8] at kg hF ⊢
  obtain ⟨g, rfl⟩ := hg (by omega)
  obtain ⟨g', rfl⟩ := kg (by omega)
  have HZ : Hid (Prs 86 w b (.slice (some ⟨g, 0, none⟩) 8 cap) rs) := by show Prs 86 _ _ _ _; rw [← hl8]; exact h
  have KZ : Hid (Prs 86 w b' (.slice (some ⟨g', 0, none⟩) 8 cap') qs) := by show Prs 86 _ _ _ _; rw [← kl8]; exact k
  have HO : Hid ((rs.length = 8 ∧ okTo 8 rs 8) ∧ qs.length = 8 ∧ okTo 24 qs 8) := ⟨⟨hl8, hok⟩, kl8, kok⟩
  clear h k hc e2 z1 z2 hl8 hok kl8 kok hg kg hm km
  go_enter Try.func18, Try.ntmps18
  go_wp2_with fail
  refine (hF _ (al (Below.refl _ _) _)).mono ?_
  rintro e w1 ⟨rfl, rfl⟩
  clear hF
  go_wp2_with fail
  go_loopw [7, 8, 9, 10] (fun c _ _ _ wr => ∃ (j : Nat) (z : Value), j ≤ 8 ∧ c = .int .i64 j ∧ Grew w w.heap.size z ((rs.take j).map (cmpP qs)) wr) (fun c _ _ _ _ => 8 - (intOf c).toNat)
  case atStart => exact ⟨0, .slice none 0 0, Nat.zero_le _, rfl, ⟨Prs.nil _ _ _, by simp, by simp, by simp, by simp, by simp, by simp, by simp, al (al (Below.refl _ _) _) _⟩⟩
  case round =>
    obtain ⟨j, z, hj, rfl, hG⟩ := hrel
    have GR : Hid (Grew w w.heap.size z ((rs.take j).map (cmpP qs)) wr) := hG
    obtain ⟨ya, yc, hz, _, _, _⟩ := hG.prs.shape
    have HLN : Hid (((rs.take j).map (cmpP qs)).length ≤ 8 ∧ ((rs.take j).map (cmpP qs)).length ≤ 8) := ⟨by simp; omega, by simp; omega⟩
    generalize hun : ((rs.take j).map (cmpP qs)).length = un at *
    subst hz
    by_cases hlt : j < 8
    · have BW : Below w.heap.size w wr := hG.below
      have c1 := cell_keep BW (HZ.out.cell HO.out.1.1.symm j hlt).1
      have c2 := cell_keep BW (HZ.out.cell HO.out.1.1.symm j hlt).2
      have hI : (j : Int) < 8 := by omega
      have HL : Hid (j < 8) := hlt
      have hpg := pgC_zero (HO.out.1.2 j hlt)
      have HM : Hid (_ = _) := map_take (cmpP qs) rs j (by have := HO.out.1.1; omega)
      generalize hx : (cmpP qs ((rs.getD j (0, 0)).1, (rs.getD j (0, 0)).2)).1 = x at *
      generalize hy : (cmpP qs ((rs.getD j (0, 0)).1, (rs.getD j (0, 0)).2)).2 = y at *
      generalize (rs.getD j (0, 0)).1 = p at *
      generalize (rs.getD j (0, 0)).2 = q at *
      obtain ⟨p1, p2, p3, p4, p5⟩ := hpg
      clear hG hlt
      by_cases hp : p < 0
      · have ep : cmpP qs (p, q) = (-1, 0) := if_pos (by show p = -1; omega)
        rw [ep] at hx hy
        obtain rfl : -1 = x := hx
        obtain rfl : 0 = y := hy
        have hp2 : ¬ 0 ≤ p := by omega
        have HBW : Hid (Below w.heap.size w wr) := BW
        clear ep p1 p2 p3 p4 p5 BW
        go_wp2_with fail
        refine (spec_none _).mono ?_
        rintro e w5 ⟨rfl, b5⟩
        have c1 := cell_keep b5 c1
        have gb : g < w5.heap.size := block_of_cell c1
        have G5 : Hid (Grew w w.heap.size (.slice ya un yc) ((rs.take j).map (cmpP qs)) w5) := GR.out.keep b5
        have o1 := G5.out.o1
        have s1 : w.heap.size + 1 < w5.heap.size := block_of_cell o1
        clear b5
        go_wp2_with (at_builtin; refine wp_pair 24 86 Try.underlying24 info_page _ rfl _ _ rfl (w.heap.size + 2) (.slice ya un yc) _ rfl (G5.out.keep (al (al (Below.refl _ _) _) _)).prs _ (-1) 0 rfl (cell_new2 rfl) (cell_new2 rfl) (by rw [hun]; have := HLN.out; omega) (by simp; omega) ?_; intro v' w' hP' hG'; obtain ⟨va, vc, hv', _, _, _⟩ := hP'.shape; generalize hvn : List.length _ = vn at hv'; clear hvn; subst hv'; have GG := (G5.out.keep (al (al (Below.refl _ _) _) _)).grown hP' hG' (Nat.le_refl _); have GF : Hid _ := GG.1; have o1 := GG.2.1; have g1 := GG.2.2; clear GG hP' hG')
        go_roundw
        case rel => exact ⟨j + 1, _, by have := HL.out; omega, by go_num, by rw [HM.out]; exact GF.out⟩
        case measure => have := HL.out; simp [intOf]; omega
      · obtain ⟨P, rfl⟩ : ∃ P : Nat, p = P := ⟨p.toNat, by omega⟩
        have hP8 : P < 8 := by omega
        have hPI : (P : Int) < 8 := by omega
        have e1 := cell_keep BW (KZ.out.cell HO.out.2.1.symm P hP8).1
        have e2 := cell_keep BW (KZ.out.cell HO.out.2.1.symm P hP8).2
        have kpg := pgC_zero (HO.out.2.2 P hP8)
        have ep : cmpP qs (P, q) = forP (qs.getD P (0, 0)).1 (bits BinOp.and .i64 q (qs.getD P (0, 0)).2) := by rw [cmpP, if_neg (by show ¬ (P : Int) = -1; omega)]; rfl
        rw [ep] at hx hy
        generalize (qs.getD P (0, 0)).1 = t at *
        generalize (qs.getD P (0, 0)).2 = s at *
        obtain ⟨t1, t2, t3, t4, t5⟩ := kpg
        cases hk : (bits BinOp.and .i64 q s == 0)
        · have hk0 : ¬ bits BinOp.and .i64 q s = 0 := by simpa using hk
          rw [forP, if_neg hk0] at hx hy
          have ht : 0 ≤ t := by
            apply Classical.byContradiction
            intro hn
            have hs0 : s = 0 := t5 (by omega)
            rw [hs0, band_zeroR] at hk0
            exact hk0 rfl
          have hk2 : (bits BinOp.and .i64 q s != 0) = true := by simpa using hk
          obtain rfl : t = x := hx
          subst hy
          clear ep p1 p2 p3 p4 p5 t1 t2 t3 t4 t5 BW hk0 hp
          go_wp2_with fail
          refine (spec_none _).mono ?_
          rintro e w5 ⟨rfl, b5⟩
          have c1 := cell_keep b5 c1
          have c2 := cell_keep b5 c2
          have e1 := cell_keep b5 e1
          have e2 := cell_keep b5 e2
          have gb : g < w5.heap.size := block_of_cell c1
          have kb : g' < w5.heap.size := block_of_cell e1
          have G5 : Hid (Grew w w.heap.size (.slice ya un yc) ((rs.take j).map (cmpP qs)) w5) := GR.out.keep b5
          have o1 := G5.out.o1
          have s1 : w.heap.size + 1 < w5.heap.size := block_of_cell o1
          have ne1 : ¬ w5.heap.size = w.heap.size + 1 := by omega
          have ne2 : ¬ w.heap.size + 1 = w5.heap.size := by omega
          clear b5
          go_wp2_with fail
          go_quiet (fail)
          clear c1 c2 e1 e2
          have b6 : Below w5.heap.size w5 (((w5.alloc (.cells #[.int .i64 (-1), .int .i64 0] 86)).alloc (.cells #[.int .i64 t, .int .i64 s] 86)).drewN nq) := dr (al (al (Below.refl _ _) _) _) _
          have q0 : (((w5.alloc (.cells #[.int .i64 (-1), .int .i64 0] 86)).alloc (.cells #[.int .i64 t, .int .i64 s] 86)).drewN nq).cell? ⟨w5.heap.size, 0, none⟩ = some (.int .i64 (-1)) := by rw [World.cell?_drewN]; exact cell_push _ (cell_new rfl)
          have q1 : (((w5.alloc (.cells #[.int .i64 (-1), .int .i64 0] 86)).alloc (.cells #[.int .i64 t, .int .i64 s] 86)).drewN nq).cell? ⟨w5.heap.size, 1, none⟩ = some (.int .i64 0) := by rw [World.cell?_drewN]; exact cell_push _ (cell_new rfl)
          have t0 : (((w5.alloc (.cells #[.int .i64 (-1), .int .i64 0] 86)).alloc (.cells #[.int .i64 t, .int .i64 s] 86)).drewN nq).cell? ⟨w5.heap.size + 1, 0, none⟩ = some (.int .i64 t) := by rw [World.cell?_drewN]; exact cell_new2 rfl
          have t1 : (((w5.alloc (.cells #[.int .i64 (-1), .int .i64 0] 86)).alloc (.cells #[.int .i64 t, .int .i64 s] 86)).drewN nq).cell? ⟨w5.heap.size + 1, 1, none⟩ = some (.int .i64 s) := by rw [World.cell?_drewN]; exact cell_new2 rfl
          have z0 : (((w5.alloc (.cells #[.int .i64 (-1), .int .i64 0] 86)).alloc (.cells #[.int .i64 t, .int .i64 s] 86)).drewN nq).frozen? ⟨w5.heap.size, 0, none⟩ = false := by simp [go_sem]
          have z1 : (((w5.alloc (.cells #[.int .i64 (-1), .int .i64 0] 86)).alloc (.cells #[.int .i64 t, .int .i64 s] 86)).drewN nq).frozen? ⟨w5.heap.size, 1, none⟩ = false := by simp [go_sem]
          have G6 : Hid (Grew w w.heap.size (.slice ya un yc) ((rs.take j).map (cmpP qs)) _) := G5.out.keep b6
          generalize hw6 : (((w5.alloc (.cells #[.int .i64 (-1), .int .i64 0] 86)).alloc (.cells #[.int .i64 t, .int .i64 s] 86)).drewN nq) = w6 at *
          have o1 := G6.out.o1
          have s6 : w5.heap.size + 1 < w6.heap.size := block_of_cell t0
          have B6 : Hid (Below w5.heap.size w5 w6) := b6
          clear hw6 b6
          go_wp2_with (at_builtin; refine wp_pair 24 86 Try.underlying24 info_page _ rfl _ _ rfl (w.heap.size + 2) (.slice ya un yc) _ rfl (G5.out.keep (al ((B6.out.setCell (Nat.le_refl _) _).setCell (Nat.le_refl _) _) _)).prs _ t (bits BinOp.and .i64 q s) rfl (cell_newAt (by simp) rfl) (cell_newAt (by simp) rfl) (by rw [hun]; have := HLN.out; omega) (by simp; omega) ?_; intro v' w' hP' hG'; obtain ⟨va, vc, hv', _, _, _⟩ := hP'.shape; generalize hvn : List.length _ = vn at hv'; clear hvn; subst hv'; have GG := (G5.out.keep (al ((B6.out.setCell (Nat.le_refl _) _).setCell (Nat.le_refl _) _) _)).grown hP' hG' (Nat.le_refl _); have GF : Hid _ := GG.1; have o1 := GG.2.1; have g1 := GG.2.2; clear GG hP' hG')
          go_roundw
          case rel => exact ⟨j + 1, _, by have := HL.out; omega, by go_num, by rw [HM.out]; exact GF.out⟩
          case measure => have := HL.out; simp [intOf]; omega
        · have hk0 : bits BinOp.and .i64 q s = 0 := by simpa using hk
          rw [forP, if_pos hk0] at hx hy
          obtain rfl : -1 = x := hx
          obtain rfl : 0 = y := hy
          have hk2 : (bits BinOp.and .i64 q s != 0) = false := by simp [hk0]
          by_cases ht : 0 ≤ t
          · clear ep p1 p2 p3 p4 p5 t1 t2 t3 t4 t5 BW hp hk0
            go_wp2_with fail
            refine (spec_none _).mono ?_
            rintro e w5 ⟨rfl, b5⟩
            have c1 := cell_keep b5 c1
            have c2 := cell_keep b5 c2
            have e1 := cell_keep b5 e1
            have e2 := cell_keep b5 e2
            have gb : g < w5.heap.size := block_of_cell c1
            have kb : g' < w5.heap.size := block_of_cell e1
            have G5 : Hid (Grew w w.heap.size (.slice ya un yc) ((rs.take j).map (cmpP qs)) w5) := GR.out.keep b5
            have o1 := G5.out.o1
            have s1 : w.heap.size + 1 < w5.heap.size := block_of_cell o1
            have ne1 : ¬ w5.heap.size = w.heap.size + 1 := by omega
            have ne2 : ¬ w.heap.size + 1 = w5.heap.size := by omega
            clear b5
            go_wp2_with fail
            go_quiet (fail)
            clear c1 c2 e1 e2
            have b6 : Below w5.heap.size w5 (((w5.alloc (.cells #[.int .i64 (-1), .int .i64 0] 86)).alloc (.cells #[.int .i64 t, .int .i64 s] 86)).drewN nq) := dr (al (al (Below.refl _ _) _) _) _
            have q0 : (((w5.alloc (.cells #[.int .i64 (-1), .int .i64 0] 86)).alloc (.cells #[.int .i64 t, .int .i64 s] 86)).drewN nq).cell? ⟨w5.heap.size, 0, none⟩ = some (.int .i64 (-1)) := by rw [World.cell?_drewN]; exact cell_push _ (cell_new rfl)
            have q1 : (((w5.alloc (.cells #[.int .i64 (-1), .int .i64 0] 86)).alloc (.cells #[.int .i64 t, .int .i64 s] 86)).drewN nq).cell? ⟨w5.heap.size, 1, none⟩ = some (.int .i64 0) := by rw [World.cell?_drewN]; exact cell_push _ (cell_new rfl)
            have t0 : (((w5.alloc (.cells #[.int .i64 (-1), .int .i64 0] 86)).alloc (.cells #[.int .i64 t, .int .i64 s] 86)).drewN nq).cell? ⟨w5.heap.size + 1, 0, none⟩ = some (.int .i64 t) := by rw [World.cell?_drewN]; exact cell_new2 rfl
            have t1 : (((w5.alloc (.cells #[.int .i64 (-1), .int .i64 0] 86)).alloc (.cells #[.int .i64 t, .int .i64 s] 86)).drewN nq).cell? ⟨w5.heap.size + 1, 1, none⟩ = some (.int .i64 s) := by rw [World.cell?_drewN]; exact cell_new2 rfl
            have z0 : (((w5.alloc (.cells #[.int .i64 (-1), .int .i64 0] 86)).alloc (.cells #[.int .i64 t, .int .i64 s] 86)).drewN nq).frozen? ⟨w5.heap.size, 0, none⟩ = false := by simp [go_sem]
            have z1 : (((w5.alloc (.cells #[.int .i64 (-1), .int .i64 0] 86)).alloc (.cells #[.int .i64 t, .int .i64 s] 86)).drewN nq).frozen? ⟨w5.heap.size, 1, none⟩ = false := by simp [go_sem]
            have G6 : Hid (Grew w w.heap.size (.slice ya un yc) ((rs.take j).map (cmpP qs)) _) := G5.out.keep b6
            generalize hw6 : (((w5.alloc (.cells #[.int .i64 (-1), .int .i64 0] 86)).alloc (.cells #[.int .i64 t, .int .i64 s] 86)).drewN nq) = w6 at *
            have o1 := G6.out.o1
            have s6 : w5.heap.size + 1 < w6.heap.size := block_of_cell t0
            have B6 : Hid (Below w5.heap.size w5 w6) := b6
            clear hw6 b6
            go_wp2_with (at_builtin; refine wp_pair 24 86 Try.underlying24 info_page _ rfl _ _ rfl (w.heap.size + 2) (.slice ya un yc) _ rfl (G5.out.keep (al B6.out _)).prs _ (-1) 0 rfl (cell_new rfl) (cell_new rfl) (by rw [hun]; have := HLN.out; omega) (by simp; omega) ?_; intro v' w' hP' hG'; obtain ⟨va, vc, hv', _, _, _⟩ := hP'.shape; generalize hvn : List.length _ = vn at hv'; clear hvn; subst hv'; have GG := (G5.out.keep (al B6.out _)).grown hP' hG' (Nat.le_refl _); have GF : Hid _ := GG.1; have o1 := GG.2.1; have g1 := GG.2.2; clear GG hP' hG')
            go_roundw
            case rel => exact ⟨j + 1, _, by have := HL.out; omega, by go_num, by rw [HM.out]; exact GF.out⟩
            case measure => have := HL.out; simp [intOf]; omega
          · clear ep p1 p2 p3 p4 p5 t1 t2 t3 t4 t5 BW hp hk0
            go_wp2_with fail
            refine (spec_none _).mono ?_
            rintro e w5 ⟨rfl, b5⟩
            have c1 := cell_keep b5 c1
            have c2 := cell_keep b5 c2
            have e1 := cell_keep b5 e1
            have e2 := cell_keep b5 e2
            have gb : g < w5.heap.size := block_of_cell c1
            have kb : g' < w5.heap.size := block_of_cell e1
            have G5 : Hid (Grew w w.heap.size (.slice ya un yc) ((rs.take j).map (cmpP qs)) w5) := GR.out.keep b5
            have o1 := G5.out.o1
            have s1 : w.heap.size + 1 < w5.heap.size := block_of_cell o1
            have ne1 : ¬ w5.heap.size = w.heap.size + 1 := by omega
            have ne2 : ¬ w.heap.size + 1 = w5.heap.size := by omega
            clear b5
            go_wp2_with fail
            go_quiet (fail)
            clear c1 c2 e1 e2
            have b6 : Below w5.heap.size w5 (((w5.alloc (.cells #[.int .i64 (-1), .int .i64 0] 86)).alloc (.cells #[.int .i64 t, .int .i64 s] 86)).drewN nq) := dr (al (al (Below.refl _ _) _) _) _
            have q0 : (((w5.alloc (.cells #[.int .i64 (-1), .int .i64 0] 86)).alloc (.cells #[.int .i64 t, .int .i64 s] 86)).drewN nq).cell? ⟨w5.heap.size, 0, none⟩ = some (.int .i64 (-1)) := by rw [World.cell?_drewN]; exact cell_push _ (cell_new rfl)
            have q1 : (((w5.alloc (.cells #[.int .i64 (-1), .int .i64 0] 86)).alloc (.cells #[.int .i64 t, .int .i64 s] 86)).drewN nq).cell? ⟨w5.heap.size, 1, none⟩ = some (.int .i64 0) := by rw [World.cell?_drewN]; exact cell_push _ (cell_new rfl)
            have t0 : (((w5.alloc (.cells #[.int .i64 (-1), .int .i64 0] 86)).alloc (.cells #[.int .i64 t, .int .i64 s] 86)).drewN nq).cell? ⟨w5.heap.size + 1, 0, none⟩ = some (.int .i64 t) := by rw [World.cell?_drewN]; exact cell_new2 rfl
            have t1 : (((w5.alloc (.cells #[.int .i64 (-1), .int .i64 0] 86)).alloc (.cells #[.int .i64 t, .int .i64 s] 86)).drewN nq).cell? ⟨w5.heap.size + 1, 1, none⟩ = some (.int .i64 s) := by rw [World.cell?_drewN]; exact cell_new2 rfl
            have z0 : (((w5.alloc (.cells #[.int .i64 (-1), .int .i64 0] 86)).alloc (.cells #[.int .i64 t, .int .i64 s] 86)).drewN nq).frozen? ⟨w5.heap.size, 0, none⟩ = false := by simp [go_sem]
            have z1 : (((w5.alloc (.cells #[.int .i64 (-1), .int .i64 0] 86)).alloc (.cells #[.int .i64 t, .int .i64 s] 86)).drewN nq).frozen? ⟨w5.heap.size, 1, none⟩ = false := by simp [go_sem]
            have G6 : Hid (Grew w w.heap.size (.slice ya un yc) ((rs.take j).map (cmpP qs)) _) := G5.out.keep b6
            generalize hw6 : (((w5.alloc (.cells #[.int .i64 (-1), .int .i64 0] 86)).alloc (.cells #[.int .i64 t, .int .i64 s] 86)).drewN nq) = w6 at *
            have o1 := G6.out.o1
            have s6 : w5.heap.size + 1 < w6.heap.size := block_of_cell t0
            have B6 : Hid (Below w5.heap.size w5 w6) := b6
            clear hw6 b6
            go_wp2_with (at_builtin; refine wp_pair 24 86 Try.underlying24 info_page _ rfl _ _ rfl (w.heap.size + 2) (.slice ya un yc) _ rfl (G5.out.keep (al B6.out _)).prs _ (-1) 0 rfl (cell_new rfl) (cell_new rfl) (by rw [hun]; have := HLN.out; omega) (by simp; omega) ?_; intro v' w' hP' hG'; obtain ⟨va, vc, hv', _, _, _⟩ := hP'.shape; generalize hvn : List.length _ = vn at hv'; clear hvn; subst hv'; have GG := (G5.out.keep (al B6.out _)).grown hP' hG' (Nat.le_refl _); have GF : Hid _ := GG.1; have o1 := GG.2.1; have g1 := GG.2.2; clear GG hP' hG')
            go_roundw
            case rel => exact ⟨j + 1, _, by have := HL.out; omega, by go_num, by rw [HM.out]; exact GF.out⟩
            case measure => have := HL.out; simp [intOf]; omega
    · have hI : ¬ (j : Int) < 8 := by omega
      obtain rfl : j = 8 := by omega
      have hz8 : rs.take 8 = rs := List.take_of_length_le (Nat.le_of_eq HO.out.1.1)
      rw [hz8] at GR
      have hv : Hid (some w.heap.size ≠ (Value.slice ya un yc).ownBlock) := pown_not GR.out.prs _ (.inl (by omega))
      obtain ⟨_, r0, r1, f0, f1, o0, o1, g1, _⟩ := GR.out
      clear hG
      go_wp2_with fail
      exact bodyPost_ret (v := .agg #[.int .i64 0, .slice ya un yc]) (by simp [results, Try.results18, go_sem, r0, r1]) rfl ⟨_, rfl, ((GR.out.prs.put _ _ (fun e => hv.out e.symm)).put _ _ (fun e => hv.out e.symm)).mono (by omega), (GR.out.below.setCell (by simp) _).setCell (by simp) _⟩
end Go.Proofs.Ytighhjkokjpgfaa
