/- Texts of this seat, joined. -/
import Derived.Test.YtgjpfmcokcjegaaQ26
namespace Go.Proofs.Ytgjpfmcokcjegaa
open Go.RowKit
set_option linter.unusedVariables false
set_option maxHeartbeats 2000000 in
theorem impl_fromR (g o cap : Nat) (zs : List Int) (w : World) (hl : zs.length = 8) (h : ∀ j, j < 8 → w.cell? ⟨g, o + j, none⟩ = some (.int .i64 (zs.getD j 0))) :
    Calls Try.prog 45 #[.slice (some ⟨g, o, none⟩) 8 cap] w fun e w' => ∃ u, e = .returned (.agg #[.int .i64 (fromC zs), u]) ∧ Prs 73 w' w.heap.size u (fromP zs) ∧ Below w.heap.size w w' := by
  have HZ : Hid (∀ j, j < 8 → w.cell? ⟨g, o + j, none⟩ = some (.int .i64 (zs.getD j 0))) := h
  have HN : Hid (zs.length = 8) := hl
  have HC : Hid (fromC zs = if zs.all isW then 0 else 3) := if_pos hl
  have HP : Hid (fromP zs = if zs.all isW then zs.map entP else []) := if_pos hl
  generalize fromC zs = cz at *
  generalize fromP zs = pz at *
  clear h hl
  go_enter Try.func45, Try.ntmps45
  go_wp2_with fail
  go_loopw [3, 5, 6, 13] (fun u _ _ c wr => ∃ j : Nat, j ≤ 8 ∧ c = .int .i64 j ∧ (zs.take j).all isW = true ∧ Prs 73 wr (w.heap.size + 1) u ((zs.take j).map entP) ∧ wr.cell? ⟨w.heap.size, 0, none⟩ = some (.int .i64 0) ∧ wr.cell? ⟨w.heap.size, 1, none⟩ = some (.slice none 0 0) ∧ wr.frozen? ⟨w.heap.size, 0, none⟩ = false ∧ wr.frozen? ⟨w.heap.size, 1, none⟩ = false ∧ Below w.heap.size w wr) (fun _ _ _ c _ => 8 - (intOf c).toNat)
  case atStart => exact ⟨0, Nat.zero_le _, rfl, rfl, Prs.nil _ _ _, by simp, by simp, by simp, by simp, al (Below.refl _ _) _⟩
  case round =>
    obtain ⟨j, hj, rfl, hA, hP, r0, r1, f0, f1, hB⟩ := hrel
    have PB : Hid (Prs 73 wr (w.heap.size + 1) _ ((zs.take j).map entP)) := hP
    have HB : Hid (Below w.heap.size w wr) := hB
    have HA : Hid ((zs.take j).all isW = true) := hA
    have s0 : w.heap.size < wr.heap.size := block_of_cell r0
    obtain ⟨ua, uc, rfl, _, _, _⟩ := hP.shape
    have HLN : Hid (((zs.take j).map entP).length ≤ 8 ∧ ((zs.take j).map entP).length ≤ 8) := ⟨by simp; omega, by simp; omega⟩
    generalize hun : ((zs.take j).map entP).length = un at *
    clear hP
    by_cases hlt : j < 8
    · have c1 := cell_keep hB (HZ.out j hlt)
      have gb : g < wr.heap.size := block_of_cell c1
      have hI : (j : Int) < 8 := by omega
      have HL : Hid (j < 8) := hlt
      have hE := fun w => impl_entryOf (zs.getD j 0) w
      have HT := all_take zs j (by have := HN.out; omega)
      rw [hA] at HT
      have HX := all_not zs j (by have := HN.out; omega)
      have HM := from_take zs j (by have := HN.out; omega)
      cases hw : isW (zs.getD j 0)
      · rw [show entC (zs.getD j 0) = 3 by rw [entC, hw]; rfl, show entE (zs.getD j 0) = (0, 0) by rw [entE, hw]; rfl] at hE
        have HXX : Hid (cz = 3 ∧ pz = []) := ⟨by rw [HC.out, HX hw]; rfl, by rw [HP.out, HX hw]; rfl⟩
        generalize zs.getD j 0 = z at *
        clear hB hlt hA HT HX HM hw
        go_wp2_with fail
        refine (hE _).mono ?_
        rintro e w5 ⟨rfl, b5⟩
        have r0 := cell_keep b5 r0
        have r1 := cell_keep b5 r1
        have f0 : w5.frozen? ⟨w.heap.size, 0, none⟩ = false := by rw [b5.frozen (p := ⟨w.heap.size, 0, none⟩) s0]; exact f0
        have f1 : w5.frozen? ⟨w.heap.size, 1, none⟩ = false := by rw [b5.frozen (p := ⟨w.heap.size, 1, none⟩) s0]; exact f1
        have B5 : Hid (Below w.heap.size w w5) := on HB.out b5
        have s5 : w.heap.size < w5.heap.size := block_of_cell r0
        clear b5
        go_wp2_with fail
        exact bodyPost_ret (v := .agg #[.int .i64 3, .slice none 0 0]) (by simp [results, Try.results45, go_sem, r0, r1, s5]) rfl ⟨_, by rw [HXX.out.1], by rw [HXX.out.2]; exact Prs.nil _ _ _, al ((B5.out.setCell (by simp) _).setCell (by simp) _) _⟩
      · rw [show entC (zs.getD j 0) = 0 by rw [entC, hw]; rfl, show entE (zs.getD j 0) = entP (zs.getD j 0) by rw [entE, hw]; rfl] at hE
        rw [hw] at HT
        have HTT : Hid ((zs.take (j + 1)).all isW = true) := HT
        have HMM : Hid ((zs.take (j + 1)).map entP = (zs.take j).map entP ++ [((entP (zs.getD j 0)).1, (entP (zs.getD j 0)).2)]) := HM
        generalize (entP (zs.getD j 0)).1 = p at *
        generalize (entP (zs.getD j 0)).2 = q at *
        generalize zs.getD j 0 = z at *
        clear hB hlt hA HT HX HM hw
        go_wp2_with fail
        refine (hE _).mono ?_
        rintro e w5 ⟨rfl, b5⟩
        have r0 := cell_keep b5 r0
        have r1 := cell_keep b5 r1
        have f0 : w5.frozen? ⟨w.heap.size, 0, none⟩ = false := by rw [b5.frozen (p := ⟨w.heap.size, 0, none⟩) s0]; exact f0
        have f1 : w5.frozen? ⟨w.heap.size, 1, none⟩ = false := by rw [b5.frozen (p := ⟨w.heap.size, 1, none⟩) s0]; exact f1
        have B5 : Hid (Below w.heap.size w w5) := on HB.out b5
        have P5 : Hid (Prs 73 w5 (w.heap.size + 1) (.slice ua un uc) ((zs.take j).map entP)) := PB.out.keep b5
        have s5 : w.heap.size < w5.heap.size := block_of_cell r0
        have S5 : Hid (w.heap.size < w5.heap.size) := s5
        clear b5 hE
        go_wp2_with (at_builtin; refine wp_pair 27 73 Try.underlying27 info_page _ rfl _ _ rfl (w.heap.size + 1) _ _ rfl (P5.out.keep (al (al (Below.refl _ _) _) _)) _ p q rfl (cell_new2 rfl) (cell_new2 rfl) (by rw [hun]; have := HLN.out; omega) (by have := S5.out; simp; omega) ?_; intro v' w' hP' hG')
        have PP : Hid (Prs 73 w' (w.heap.size + 1) v' _) := hP'
        have BP : Hid (Below w.heap.size w w') := (al (al B5.out _) _).grown hG' (by have := S5.out; simp; omega) (fun k hk => by have := (P5.out.lt k hk).1; omega)
        have hne : some w.heap.size ≠ (Value.slice ua un uc).ownBlock := pown_not P5.out _ (.inl (by omega))
        have r0 := cell_grown hG' (cell_push _ (cell_push _ r0)) hne
        have r1 := cell_grown hG' (cell_push _ (cell_push _ r1)) hne
        have f0 : w'.frozen? ⟨w.heap.size, 0, none⟩ = false := by rw [frozen_grown (p := ⟨w.heap.size, 0, none⟩) hG' (by simp; omega) hne, (al (al (Below.refl w5.heap.size w5) _) _).frozen (p := ⟨w.heap.size, 0, none⟩) s5]; exact f0
        have f1 : w'.frozen? ⟨w.heap.size, 1, none⟩ = false := by rw [frozen_grown (p := ⟨w.heap.size, 1, none⟩) hG' (by simp; omega) hne, (al (al (Below.refl w5.heap.size w5) _) _).frozen (p := ⟨w.heap.size, 1, none⟩) s5]; exact f1
        clear hP' hG' hne
        go_wp2_with fail
        go_roundw
        case rel => exact ⟨j + 1, by have := HL.out; omega, by go_num, HTT.out, by rw [HMM.out]; exact PP.out, r0, r1, f0, f1, BP.out⟩
        case measure => have := HL.out; simp [intOf]; omega
    · have hI : ¬ (j : Int) < 8 := by omega
      obtain rfl : j = 8 := by omega
      have hz8 : zs.take 8 = zs := List.take_of_length_le (Nat.le_of_eq HN.out)
      rw [hz8] at PB HA
      have HXX : Hid (cz = 0 ∧ pz = zs.map entP) := ⟨by rw [HC.out, HA.out]; rfl, by rw [HP.out, HA.out]; rfl⟩
      have hv : Hid (some w.heap.size ≠ (Value.slice ua un uc).ownBlock) := pown_not PB.out _ (.inl (by omega))
      clear hB hA
      go_wp2_with fail
      exact bodyPost_ret (v := .agg #[.int .i64 0, .slice ua un uc]) (by simp [results, Try.results45, go_sem, r0, r1]) rfl ⟨_, by rw [HXX.out.1], by rw [HXX.out.2]; exact ((PB.out.put _ _ (fun e => hv.out e.symm)).put _ _ (fun e => hv.out e.symm)).mono (by omega), (HB.out.setCell (by simp) _).setCell (by simp) _⟩
set_option maxRecDepth 20000 in
set_option maxHeartbeats 4000000 in
theorem spec_fromR (g o cap : Nat) (zs : List Int) (w : World) (hl : zs.length = 8) (h : ∀ j, j < 8 → w.cell? ⟨g, o + j, none⟩ = some (.int .i64 (zs.getD j 0))) :
    Calls Try.prog 50 #[.slice (some ⟨g, o, none⟩) 8 cap] w fun e w' => ∃ u, e = .returned (.agg #[.int .i64 (fromC zs), u]) ∧ Prs 73 w' w.heap.size u (fromP zs) ∧ Below w.heap.size w w' := by
  have HZ : Hid (∀ j, j < 8 → w.cell? ⟨g, o + j, none⟩ = some (.int .i64 (zs.getD j 0))) := h
  have HN : Hid (zs.length = 8) := hl
  have HC : Hid (fromC zs = if zs.all isW then 0 else 3) := if_pos hl
  have HP : Hid (fromP zs = if zs.all isW then zs.map entP else []) := if_pos hl
  generalize fromC zs = cz at *
  generalize fromP zs = pz at *
  clear h hl
  go_enter Try.func50, Try.ntmps50
  go_wp2_with fail
  go_loopw [4] (fun c wr => ∃ (j : Nat) (u : Value), j ≤ 8 ∧ c = .int .i64 j ∧ (zs.take j).all isW = true ∧ Prs 73 wr (w.heap.size + 2) u ((zs.take j).map entP) ∧ (wr.cell? ⟨w.heap.size, 0, none⟩ = some (.int .i64 0) ∧ wr.cell? ⟨w.heap.size, 1, none⟩ = some (.slice none 0 0) ∧ wr.frozen? ⟨w.heap.size, 0, none⟩ = false ∧ wr.frozen? ⟨w.heap.size, 1, none⟩ = false) ∧ (wr.cell? ⟨w.heap.size + 1, 0, none⟩ = some (.int .i64 0) ∧ wr.cell? ⟨w.heap.size + 1, 1, none⟩ = some u ∧ wr.frozen? ⟨w.heap.size + 1, 1, none⟩ = false) ∧ Below w.heap.size w wr) (fun c _ => 8 - (intOf c).toNat)
  case atStart => exact ⟨0, _, Nat.zero_le _, rfl, rfl, Prs.nil _ _ _, ⟨by simp, by simp, by simp, by simp⟩, ⟨by simp, by simp, by simp⟩, al (al (Below.refl _ _) _) _⟩
  case round =>
    obtain ⟨j, u, hj, rfl, hA, hP, ⟨r0, r1, f0, f1⟩, ⟨o0, o1, g1⟩, hB⟩ := hrel
    have PB : Hid (Prs 73 wr (w.heap.size + 2) u ((zs.take j).map entP)) := hP
    have HB : Hid (Below w.heap.size w wr) := hB
    have HA : Hid ((zs.take j).all isW = true) := hA
    have s1 : w.heap.size + 1 < wr.heap.size := block_of_cell o0
    have s0 : w.heap.size < wr.heap.size := by omega
    obtain ⟨ua, uc, hu, _, _, _⟩ := hP.shape
    have HLN : Hid (((zs.take j).map entP).length ≤ 8 ∧ ((zs.take j).map entP).length ≤ 8) := ⟨by simp; omega, by simp; omega⟩
    generalize hun : ((zs.take j).map entP).length = un at *
    subst hu
    clear hP
    by_cases hlt : j < 8
    · have c1 := cell_keep hB (HZ.out j hlt)
      have gb : g < wr.heap.size := block_of_cell c1
      have hI : (j : Int) < 8 := by omega
      have HL : Hid (j < 8) := hlt
      have HT := all_take zs j (by have := HN.out; omega)
      rw [hA] at HT
      have HX := all_not zs j (by have := HN.out; omega)
      have HM := from_take zs j (by have := HN.out; omega)
      cases hw : isW (zs.getD j 0)
      · have HXX : Hid (cz = 3 ∧ pz = []) := ⟨by rw [HC.out, HX hw]; rfl, by rw [HP.out, HX hw]; rfl⟩
        generalize zs.getD j 0 = z at *
        unfold isW at hw
        clear hB hlt hA HT HX HM
        go_wp2_with (go_at_call 58; refine (spec_in _ _ _ _).mono ?_; rintro e wr ⟨rfl, rfl⟩; rw [hw])
        exact bodyPost_ret (v := .agg #[.int .i64 3, .slice none 0 0]) (by simp [results, Try.results50, go_sem, r0, r1]) rfl ⟨_, by rw [HXX.out.1], by rw [HXX.out.2]; exact Prs.nil _ _ _, (HB.out.setCell (by simp) _).setCell (by simp) _⟩
      · obtain ⟨w0, w1⟩ := isW_true hw
        have hE := fun w => spec_entry (zs.getD j 0) w w0 w1
        rw [hw] at HT
        have HTT : Hid ((zs.take (j + 1)).all isW = true) := HT
        have HMM : Hid ((zs.take (j + 1)).map entP = (zs.take j).map entP ++ [((entP (zs.getD j 0)).1, (entP (zs.getD j 0)).2)]) := HM
        generalize (entP (zs.getD j 0)).1 = p at *
        generalize (entP (zs.getD j 0)).2 = q at *
        generalize zs.getD j 0 = z at *
        unfold isW at hw
        clear hB hlt hA HT HX HM w0 w1
        go_wp2_with (go_at_call 58; refine (spec_in _ _ _ _).mono ?_; rintro e wr ⟨rfl, rfl⟩; rw [hw])
        have HBd : Hid (Below w.heap.size w wr.drew) := HB.out.drew
        have PBd : Hid (Prs 73 wr.drew (w.heap.size + 2) (.slice ua un uc) ((zs.take j).map entP)) := PB.out
        have FF : Hid (wr.drew.frozen? ⟨w.heap.size, 0, none⟩ = false ∧ wr.drew.frozen? ⟨w.heap.size, 1, none⟩ = false ∧ wr.drew.frozen? ⟨w.heap.size + 1, 1, none⟩ = false) := ⟨f0, f1, g1⟩
        have RR : Hid (wr.drew.cell? ⟨w.heap.size, 0, none⟩ = some (.int .i64 0) ∧ wr.drew.cell? ⟨w.heap.size, 1, none⟩ = some (.slice none 0 0) ∧ wr.drew.cell? ⟨w.heap.size + 1, 0, none⟩ = some (.int .i64 0)) := ⟨r0, r1, o0⟩
        have SS : Hid (w.heap.size + 1 < wr.drew.heap.size) := s1
        have hne : some (w.heap.size + 1) ≠ (Value.slice ua un uc).ownBlock := pown_not PB.out _ (.inl (by omega))
        have hne0 : some w.heap.size ≠ (Value.slice ua un uc).ownBlock := pown_not PB.out _ (.inl (by omega))
        have HNE : Hid (some (w.heap.size + 1) ≠ (Value.slice ua un uc).ownBlock ∧ some w.heap.size ≠ (Value.slice ua un uc).ownBlock) := ⟨hne, hne0⟩
        clear hne hne0 r0 r1 f0 f1 o0 g1
        go_region_law (first
          | (refine step_pair 27 73 Try.underlying27 info_page rfl (.tmp 24) (.tmp 30) rfl (w.heap.size + 2) (.slice ua un uc) _ (by simp [Act.eval]) (P5.out.keep (al (Below.refl _ _) _)) w5.heap.size p q (by simp [Act.eval]) (cell_new rfl) (cell_new rfl) (by rw [hun]; have := HLN.out; omega) (by have := S5.out; simp; omega) ?_; intro v' w' hP' hG'; obtain ⟨va, vc, hv', _, _, _⟩ := hP'.out.shape; generalize hvn : List.length _ = vn at hv'; clear hvn; subst hv'; have o1 := cell_grown hG' (cell_push _ o1) HNE.out.1; have g1 : w'.frozen? ⟨w.heap.size + 1, 1, none⟩ = false := (by rw [frozen_grown (p := ⟨w.heap.size + 1, 1, none⟩) hG' (by have := S5.out; simp; omega) HNE.out.1, (al (Below.refl w5.heap.size w5) _).frozen (p := ⟨w.heap.size + 1, 1, none⟩) S5.out]; exact F5.out.2.2))
          | (go_simp; go_wp2_with (go_at_call 69; refine (hE _).mono ?_; rintro e w5 ⟨rfl, b5⟩; have o1 : w5.cell? ⟨w.heap.size + 1, 1, none⟩ = some (.slice ua un uc) := cell_keep b5 o1; have B5 : Hid (Below w.heap.size w w5) := on HBd.out b5; have P5 : Hid (Prs 73 w5 (w.heap.size + 2) (.slice ua un uc) ((zs.take j).map entP)) := PBd.out.keep b5; have R5 : Hid (w5.cell? ⟨w.heap.size, 0, none⟩ = some (.int .i64 0) ∧ w5.cell? ⟨w.heap.size, 1, none⟩ = some (.slice none 0 0) ∧ w5.cell? ⟨w.heap.size + 1, 0, none⟩ = some (.int .i64 0)) := ⟨cell_keep b5 RR.out.1, cell_keep b5 RR.out.2.1, cell_keep b5 RR.out.2.2⟩; have S5 : Hid (w.heap.size + 1 < w5.heap.size) := Nat.lt_of_lt_of_le SS.out b5.size; have s5 := S5.out; have F5 : Hid (w5.frozen? ⟨w.heap.size, 0, none⟩ = false ∧ w5.frozen? ⟨w.heap.size, 1, none⟩ = false ∧ w5.frozen? ⟨w.heap.size + 1, 1, none⟩ = false) := ⟨(by rw [b5.frozen (p := ⟨w.heap.size, 0, none⟩) (by have := SS.out; show w.heap.size < _; omega)]; exact FF.out.1), (by rw [b5.frozen (p := ⟨w.heap.size, 1, none⟩) (by have := SS.out; show w.heap.size < _; omega)]; exact FF.out.2.1), (by rw [b5.frozen (p := ⟨w.heap.size + 1, 1, none⟩) SS.out]; exact FF.out.2.2)⟩)))
        all_goals have PP : Hid (Prs 73 w' (w.heap.size + 2) (.slice va vn vc) ((zs.take j).map entP ++ [(p, q)])) := hP'
        all_goals have BP : Hid (Below w.heap.size w w') := (al B5.out _).grown hG' (by have := S5.out; simp; omega) (fun k hk => by have := (P5.out.lt k hk).1; omega)
        all_goals have r0 := cell_grown hG' (cell_push _ R5.out.1) HNE.out.2
        all_goals have r1 := cell_grown hG' (cell_push _ R5.out.2.1) HNE.out.2
        all_goals have o0 := cell_grown hG' (cell_push _ R5.out.2.2) HNE.out.1
        all_goals have f0 : w'.frozen? ⟨w.heap.size, 0, none⟩ = false := by rw [frozen_grown (p := ⟨w.heap.size, 0, none⟩) hG' (by have := S5.out; simp; omega) HNE.out.2, (al (Below.refl w5.heap.size w5) _).frozen (p := ⟨w.heap.size, 0, none⟩) (by show w.heap.size < _; omega)]; exact F5.out.1
        all_goals have f1 : w'.frozen? ⟨w.heap.size, 1, none⟩ = false := by rw [frozen_grown (p := ⟨w.heap.size, 1, none⟩) hG' (by have := S5.out; simp; omega) HNE.out.2, (al (Below.refl w5.heap.size w5) _).frozen (p := ⟨w.heap.size, 1, none⟩) (by show w.heap.size < _; omega)]; exact F5.out.2.1
        all_goals have hvn : Hid ((Value.slice va vn vc).ownBlock ≠ some (w.heap.size + 1)) := fun e => pown_not PP.out _ (.inl (by omega)) e.symm
        all_goals have K9 : Hid (∃ (j' : Nat) (u : Value), j' ≤ 8 ∧ (Value.int .i64 ((j : Int) + 1)) = .int .i64 j' ∧ (zs.take j').all isW = true ∧ Prs 73 (w'.setCell ⟨w.heap.size + 1, 1, none⟩ (.slice va vn vc)) (w.heap.size + 2) u ((zs.take j').map entP) ∧ ((w'.setCell ⟨w.heap.size + 1, 1, none⟩ (.slice va vn vc)).cell? ⟨w.heap.size, 0, none⟩ = some (.int .i64 0) ∧ (w'.setCell ⟨w.heap.size + 1, 1, none⟩ (.slice va vn vc)).cell? ⟨w.heap.size, 1, none⟩ = some (.slice none 0 0) ∧ (w'.setCell ⟨w.heap.size + 1, 1, none⟩ (.slice va vn vc)).frozen? ⟨w.heap.size, 0, none⟩ = false ∧ (w'.setCell ⟨w.heap.size + 1, 1, none⟩ (.slice va vn vc)).frozen? ⟨w.heap.size, 1, none⟩ = false) ∧ ((w'.setCell ⟨w.heap.size + 1, 1, none⟩ (.slice va vn vc)).cell? ⟨w.heap.size + 1, 0, none⟩ = some (.int .i64 0) ∧ (w'.setCell ⟨w.heap.size + 1, 1, none⟩ (.slice va vn vc)).cell? ⟨w.heap.size + 1, 1, none⟩ = some u ∧ (w'.setCell ⟨w.heap.size + 1, 1, none⟩ (.slice va vn vc)).frozen? ⟨w.heap.size + 1, 1, none⟩ = false) ∧ Below w.heap.size w (w'.setCell ⟨w.heap.size + 1, 1, none⟩ (.slice va vn vc))) :=
          ⟨j + 1, .slice va vn vc, by have := HL.out; omega, by go_num, HTT.out, by rw [HMM.out]; exact PP.out.put _ _ hvn.out, ⟨by simp [go_sem, r0], by simp [go_sem, r1], by rw [World.frozen?_setCell]; exact f0, by rw [World.frozen?_setCell]; exact f1⟩, ⟨by simp [go_sem, o0], by rw [World.cell?_setCell_same _ _ _ o1], by rw [World.frozen?_setCell]; exact g1⟩, BP.out.setCell (by simp) _⟩
        all_goals clear hP' hG' R5 F5 P5 B5 PP BP hvn HMM HTT
        all_goals go_wp2_with fail
        all_goals go_roundw
        all_goals first
          | (show ∃ _, _; exact K9.out)
          | (have := HL.out; simp [intOf]; omega)
    · have hI : ¬ (j : Int) < 8 := by omega
      obtain rfl : j = 8 := by omega
      have hz8 : zs.take 8 = zs := List.take_of_length_le (Nat.le_of_eq HN.out)
      rw [hz8] at PB HA
      have HXX : Hid (cz = 0 ∧ pz = zs.map entP) := ⟨by rw [HC.out, HA.out]; rfl, by rw [HP.out, HA.out]; rfl⟩
      have hv : Hid (some w.heap.size ≠ (Value.slice ua un uc).ownBlock) := pown_not PB.out _ (.inl (by omega))
      clear hB hA
      go_wp2_with fail
      exact bodyPost_ret (v := .agg #[.int .i64 0, .slice ua un uc]) (by simp [results, Try.results50, go_sem, r0, r1]) rfl ⟨_, by rw [HXX.out.1], by rw [HXX.out.2]; exact ((PB.out.put _ _ (fun e => hv.out e.symm)).put _ _ (fun e => hv.out e.symm)).mono (by omega), (HB.out.setCell (by simp) _).setCell (by simp) _⟩
end Go.Proofs.Ytgjpfmcokcjegaa
