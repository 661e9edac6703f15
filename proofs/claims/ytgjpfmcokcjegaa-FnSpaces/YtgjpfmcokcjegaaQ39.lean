/- Texts of this seat, joined. -/
import Derived.Deep.Cut
import Derived.Deep.CutRange
import Derived.Test.YtgjpfmcokcjegaaQ30
import Derived.Test.YtgjpfmcokcjegaaQ37
namespace Go.Proofs.Ytgjpfmcokcjegaa
open Go.RowKit
set_option linter.unusedVariables false
theorem twoX {v : World} {q : Nat} {t : TypeId} {z0 z1 : Value} (h : Vb v q #[z0, z1] t) (u0 u1 : Value) :
    Vb ((v.setCell ⟨q, 0, none⟩ u0).setCell ⟨q, 1, none⟩ u1) q #[u0, u1] t ∧ Mq (fun k => k = q) v ((v.setCell ⟨q, 0, none⟩ u0).setCell ⟨q, 1, none⟩ u1) := by
  have h0 : Vb (v.setCell ⟨q, 0, none⟩ u0) q #[u0, z1] t := h.set 0 u0
  exact ⟨h0.set 1 u1, ((Mq.refl (fun k => k = q) v).set ⟨q, 0, none⟩ u0 rfl).set ⟨q, 1, none⟩ u1 rfl⟩
theorem Mq.prs {S : Nat → Prop} {w w' : World} {base : Nat} {e : TypeId} {v : Value} {rs : List (Int × Int)} (m : Mq S w w') (h : Prs e w base v rs) (hn : ∀ k, v.ownBlock = some k → ¬ S k) : Prs e w' base v rs := by
  obtain ⟨h1, h2 | ⟨g, cap, cur, hv, hg, hr, rest⟩⟩ := h
  · exact ⟨h1, .inl h2⟩
  · refine ⟨h1, .inr ⟨g, cap, cur, hv, hg, ?_, rest⟩⟩
    rw [m.block g ((Array.getElem?_eq_some_iff.1 hr).1) (hn g (by rw [hv]; rfl))]
    exact hr
theorem str_take (j : Nat) (h : j < 8) : strL.take (j + 1) = strL.take j ++ [((j : Int), 7)] := by
  have e : j = 0 ∨ j = 1 ∨ j = 2 ∨ j = 3 ∨ j = 4 ∨ j = 5 ∨ j = 6 ∨ j = 7 := by omega
  rcases e with rfl | rfl | rfl | rfl | rfl | rfl | rfl | rfl <;> rfl
set_option maxHeartbeats 2000000 in
theorem i_straight (w : World) : Calls Try.prog 44 #[] w fun e w' => ∃ u, e = .returned u ∧ Prs 73 w' w.heap.size u strL ∧ Below w.heap.size w w' := by
  go_enter Try.func44, Try.ntmps44
  go_wp2_with fail
  go_loopw [1, 2, 3] (fun u _ c wr => ∃ j : Nat, j ≤ 8 ∧ c = .int .i64 j ∧ Prs 73 wr w.heap.size u (strL.take j) ∧ Below w.heap.size w wr) (fun _ _ c _ => 8 - (intOf c).toNat)
  case atStart => exact ⟨0, Nat.zero_le _, rfl, Prs.nil _ _ _, Below.refl _ _⟩
  case round =>
    obtain ⟨j, hj, rfl, hP, hB⟩ := hrel
    have PB : Hid (Prs 73 wr w.heap.size _ (strL.take j)) := hP
    have HB : Hid (Below w.heap.size w wr) := hB
    obtain ⟨ua, uc, rfl, _, _, _⟩ := hP.shape
    have HLN : Hid ((strL.take j).length ≤ 8) := by show _ ≤ _; simp; omega
    generalize hun : (strL.take j).length = un at *
    clear hP hB
    by_cases hlt : j < 8
    · have hI : (j : Int) < 8 := by omega
      have HL : Hid (j < 8) := hlt
      have HT : Hid (strL.take (j + 1) = strL.take j ++ [((j : Int), 7)]) := str_take j hlt
      clear hlt
      go_wp2_with fail
      refine (impl_pageFor (j : Int) 7 wr).mono ?_
      rintro e w5 ⟨rfl, b5⟩
      have e1 : (forP (j : Int) 7).1 = j := rfl
      have e2 : (forP (j : Int) 7).2 = 7 := rfl
      rw [e1, e2]
      have B5 : Hid (Below w.heap.size w w5) := on HB.out b5
      have P5 : Hid (Prs 73 w5 w.heap.size (.slice ua un uc) (strL.take j)) := PB.out.keep b5
      clear b5 e1 e2
      go_wp2_with (at_builtin; refine wp_pair 27 73 Try.underlying27 info_page _ rfl _ _ rfl w.heap.size _ _ rfl (P5.out.keep (al (Below.refl _ _) _)) _ (j : Int) 7 rfl (cell_new rfl) (cell_new rfl) (by rw [hun]; have := HLN.out; omega) (by have := B5.out.size; simp; omega) ?_; intro v' w' hP' hG')
      have BP : Hid (Below w.heap.size w w') := (al B5.out _).grown hG' (by have := B5.out.size; simp; omega) (fun k hk => by have := (P5.out.lt k hk).1; omega)
      have PP : Hid (Prs 73 w' w.heap.size v' (strL.take (j + 1))) := by show Prs _ _ _ _ _; rw [HT.out]; exact hP'
      clear hP' hG'
      go_wp2_with fail
      go_roundw
      case rel => exact ⟨j + 1, by have := HL.out; omega, by go_num, PP.out, BP.out⟩
      case measure => have := HL.out; simp [intOf]; omega
    · have hI : ¬ (j : Int) < 8 := by omega
      obtain rfl : j = 8 := by omega
      go_wp2_with fail
      go_ret
      exact ⟨_, rfl, PB.out, HB.out⟩
theorem eight_at {zs : List Int} {p k : Nat} (hz : zs.length = p * 8) (hk : k < p) {w : World} {base g : Nat} (h : Pags w base (.slice (some ⟨g, 0, none⟩) p p) p zs) : w.rangeAt g (k * 8) [.int .i64 ((eight zs k).getD 0 0), .int .i64 ((eight zs k).getD 1 0), .int .i64 ((eight zs k).getD 2 0), .int .i64 ((eight zs k).getD 3 0), .int .i64 ((eight zs k).getD 4 0), .int .i64 ((eight zs k).getD 5 0), .int .i64 ((eight zs k).getD 6 0), .int .i64 ((eight zs k).getD 7 0)] := fun j v hv => by
  have hj : j < 8 := by have := (List.getElem?_eq_some_iff.1 hv).1; simpa using this
  rw [h.cell (k * 8 + j) (by omega)]
  have e : zs.getD (k * 8 + j) 0 = (eight zs k).getD j 0 := by
    simp only [eight, List.getD, List.getElem?_take, hj, if_true, List.getElem?_drop]
  rw [e]
  have ej : j = 0 ∨ j = 1 ∨ j = 2 ∨ j = 3 ∨ j = 4 ∨ j = 5 ∨ j = 6 ∨ j = 7 := by omega
  rcases ej with rfl | rfl | rfl | rfl | rfl | rfl | rfl | rfl <;> (cases hv; rfl)
theorem lit8 {zs : List Int} (j : Nat) (hj : j < 8) : (#[.int .i64 (zs.getD 0 0), .int .i64 (zs.getD 1 0), .int .i64 (zs.getD 2 0), .int .i64 (zs.getD 3 0), .int .i64 (zs.getD 4 0), .int .i64 (zs.getD 5 0), .int .i64 (zs.getD 6 0), .int .i64 (zs.getD 7 0)] : Array Value)[j]? = some (.int .i64 (zs.getD j 0)) := by
  have ej : j = 0 ∨ j = 1 ∨ j = 2 ∨ j = 3 ∨ j = 4 ∨ j = 5 ∨ j = 6 ∨ j = 7 := by omega
  rcases ej with rfl | rfl | rfl | rfl | rfl | rfl | rfl | rfl <;> rfl
theorem there8 {w : World} {q : Nat} {t : TypeId} (h : Vb w q #[.int .i64 0, .int .i64 0, .int .i64 0, .int .i64 0, .int .i64 0, .int .i64 0, .int .i64 0, .int .i64 0] t) : w.there q 0 8 := mrz_there h
set_option maxRecDepth 20000 in
set_option maxHeartbeats 8000000 in
theorem i_space (q : Nat) (i o : Value) (H : Ht) (pg pc : Nat) (ps : List (Int × Int)) (g p : Nat) (zs : List Int) (ca ri : Int) (b : Nat) (w : World) (hv : Vb w q (mcr H i o (.slice (some ⟨pg, 0, none⟩) 8 pc) (.slice (some ⟨g, 0, none⟩) p p) ca ri) 55) (hP : Prs 73 w b (.slice (some ⟨pg, 0, none⟩) 8 pc) ps) (hG : Pags w b (.slice (some ⟨g, 0, none⟩) p p) p zs) (sn : Sn H ps zs p) :
    Calls Try.prog 20 #[.pointer (some ⟨q, 0, none⟩)] w fun e w' => ∃ u, e = .returned (.agg #[.int .i64 (spC H ps), u]) ∧ Prs 73 w' w.heap.size u (spP H ps zs) ∧ Below w.heap.size w w' := by
  have SN : Hid (Sn H ps zs p) := sn
  have HV : Hid (Vb w q (mcr H i o (.slice (some ⟨pg, 0, none⟩) 8 pc) (.slice (some ⟨g, 0, none⟩) p p) ca ri) 55) := hv
  have HP : Hid (Prs 73 w b (.slice (some ⟨pg, 0, none⟩) 8 pc) ps) := hP
  have HG : Hid (Pags w b (.slice (some ⟨g, 0, none⟩) p p) p zs) := hG
  clear sn hv hP hG
  generalize hW : w.alloc (.cells #[.int .i64 0, .slice none 0 0] 34) = W
  have B0 : Hid (Below w.heap.size w W) := by show Below _ _ _; rw [← hW]; exact al (Below.refl _ _) _
  obtain ⟨s, hS⟩ : ∃ s, w.heap.size = s := ⟨_, rfl⟩
  have HS : Hid (w.heap.size = s) := hS
  have VR : Hid (Vb W s #[.int .i64 0, .slice none 0 0] 34) := by show Vb _ _ _ _; rw [← hW, ← hS]; exact Vb.new _ _ _
  have V0 : Hid (Vb W q (mcr H i o (.slice (some ⟨pg, 0, none⟩) 8 pc) (.slice (some ⟨g, 0, none⟩) p p) ca ri) 55) := HV.out.keep B0.out
  obtain ⟨T, hT⟩ : ∃ T, tabV H = T := ⟨_, rfl⟩
  have HT : Hid (tabV H = T) := hT
  have c27 : W.cell? ⟨q, 27, none⟩ = some (.int .i64 T) := by rw [← hT]; exact V0.out.cell 27 rfl
  have c34 : W.cell? ⟨q, 34, none⟩ = some (.slice (some ⟨pg, 0, none⟩) 8 pc) := V0.out.cell 34 rfl
  have hT0 : 0 ≤ T := by rw [← hT]; exact SN.out.t0
  have hT8 : T ≤ 8 := by rw [← hT]; exact SN.out.t8
  clear hT
  go_enter Try.func20, Try.ntmps20
  by_cases ht : T = 0
  · subst ht
    have E1 : Hid (spC H ps = 0 ∧ spP H ps zs = strL) := ⟨if_pos HT.out, if_pos HT.out⟩
    go_wp2_with fail
    clear hW hS
    refine (i_straight W).mono ?_
    rintro e w1 ⟨u, rfl, pu, b1⟩
    obtain ⟨ua, uc, rfl, _⟩ := pu.shape
    have PU : Hid (Prs 73 w1 W.heap.size (.slice ua strL.length uc) strL) := pu
    have B1 : Hid (Below w.heap.size w w1) := on B0.out b1
    have VR1 : Hid (Vb w1 s #[.int .i64 0, .slice none 0 0] 34) := VR.out.keep b1
    have LS : Hid (s < W.heap.size) := VR.out.lt
    have p0 := VR1.out.cell 0 rfl
    have f0 := VR1.out.free 0
    have p1 := VR1.out.cell 1 rfl
    have f1 := VR1.out.free 1
    clear pu b1
    go_wp2_with fail
    have NN : Hid (_ ∧ _) := twoX VR1.out (.int .i64 0) (.slice ua strL.length uc)
    have P2 : Hid (Prs 73 ((w1.setCell ⟨s, 0, none⟩ (.int .i64 0)).setCell ⟨s, 1, none⟩ (.slice ua strL.length uc)) W.heap.size (.slice ua strL.length uc) strL) := NN.out.2.prs PU.out fun k e f => by have := (PU.out.lt k e).1; have := LS.out; omega
    clear p0 f0 p1 f1
    generalize ((w1.setCell ⟨s, 0, none⟩ (.int .i64 0)).setCell ⟨s, 1, none⟩ (.slice ua strL.length uc)) = V at *
    have x0 := NN.out.1.cell 0 rfl
    have x1 := NN.out.1.cell 1 rfl
    exact bodyPost_ret (v := .agg #[.int .i64 0, .slice ua strL.length uc]) (by simp [results, Try.results20, go_sem, x0, x1]) rfl
      ⟨_, by rw [E1.out.1], by rw [E1.out.2]; exact P2.out.mono B0.out.size, Mq.under B1.out NN.out.2 fun k e => by have := HS.out; omega⟩
  obtain ⟨j, hj⟩ : ∃ j : Nat, T - 1 = (j : Int) := ⟨(T - 1).toNat, by omega⟩
  have hj7 : j < 8 := by omega
  have HJ : Hid (j < 8) := hj7
  have hji : (j : Int) < 8 := by omega
  have TZ : Hid (¬ tabV H = 0) := by show ¬ _; rw [HT.out]; exact ht
  have TP : Hid (tpg H ps = ps.getD j (0, 0)) := by
    show _ = _
    unfold tpg
    rw [HT.out, hj]
    rfl
  have d0 := cell_keep B0.out (HP.out.cell SN.out.l8.symm j hj7).1
  have d1 := cell_keep B0.out (HP.out.cell SN.out.l8.symm j hj7).2
  rw [← TP.out] at d0 d1
  obtain ⟨x, hx⟩ : ∃ x, (tpg H ps).1 = x := ⟨_, rfl⟩
  obtain ⟨y, hy⟩ : ∃ y, (tpg H ps).2 = y := ⟨_, rfl⟩
  have HX : Hid ((tpg H ps).1 = x) := hx
  have HY : Hid ((tpg H ps).2 = y) := hy
  rw [hx] at d0
  rw [hy] at d1
  have gb : pg < W.heap.size := block_of_cell d0
  have ht1 : (T == 0) = false := by simpa using ht
  have NB : Hid (noB H ps = (decide (T = 8) || (bits BinOp.and .i64 y 1 == 0))) := by show _ = _; unfold noB; rw [HT.out, HY.out]
  have SC : Hid (spC H ps = if noB H ps then 7 else 0) := if_neg TZ.out
  have SP : Hid (spP H ps zs = if noB H ps then [] else (eight zs x.toNat).map entP) := by show _ = _; rw [← HX.out]; exact if_neg TZ.out
  clear hx hy ht hj7
  go_upto_region 5 with fail
  generalize hW1 : W.alloc (.cells #[.int .i64 x, .int .i64 y] 73) = W1
  obtain ⟨n, hn⟩ : ∃ n, W.heap.size = n := ⟨_, rfl⟩
  rw [hn]
  have VN : Hid (Vb W1 n #[.int .i64 x, .int .i64 y] 73) := by show Vb _ _ _ _; rw [← hW1, ← hn]; exact Vb.new _ _ _
  have b1 : Below W.heap.size W W1 := by rw [← hW1]; exact al (Below.refl _ _) _
  have B1 : Hid (Below w.heap.size w W1) := on B0.out b1
  have VR1 : Hid (Vb W1 s #[.int .i64 0, .slice none 0 0] 34) := VR.out.keep b1
  have V1 : Hid (Vb W1 q (mcr H i o (.slice (some ⟨pg, 0, none⟩) 8 pc) (.slice (some ⟨g, 0, none⟩) p p) ca ri) 55) := V0.out.keep b1
  have G1 : Hid (Pags W1 b (.slice (some ⟨g, 0, none⟩) p p) p zs) := HG.out.keep B1.out
  clear hW hS hW1 hn b1 d0 d1 gb c27 c34 VR V0
  have n0 := VN.out.cell 0 rfl
  have n1 := VN.out.cell 1 rfl
  cases hnb : noB H ps
  case true =>
    have E1 : Hid (spC H ps = 7 ∧ spP H ps zs = []) := ⟨by rw [SC.out, hnb]; rfl, by rw [SP.out, hnb]; rfl⟩
    have p0 := VR1.out.cell 0 rfl
    have f0 := VR1.out.free 0
    have p1 := VR1.out.cell 1 rfl
    have f1 := VR1.out.free 1
    have NB2 := NB.out
    rw [hnb] at NB2
    have FIN : ∀ V, Vb V s #[.int .i64 7, .slice none 0 0] 34 → Below w.heap.size w V → (∃ u, Ending.returned (Value.agg #[.int .i64 7, .slice none 0 0]) = .returned (.agg #[.int .i64 (spC H ps), u]) ∧ Prs 73 V w.heap.size u (spP H ps zs) ∧ Below w.heap.size w V) := fun V _ hB => ⟨_, by rw [E1.out.1], by rw [E1.out.2]; exact Prs.nil _ _ _, hB⟩
    have FF : Hid (∀ V, Vb V s #[.int .i64 7, .slice none 0 0] 34 → Below w.heap.size w V → (∃ u, Ending.returned (Value.agg #[.int .i64 7, .slice none 0 0]) = .returned (.agg #[.int .i64 (spC H ps), u]) ∧ Prs 73 V w.heap.size u (spP H ps zs) ∧ Below w.heap.size w V)) := FIN
    clear FIN
    by_cases h7 : j = 7
    · subst h7
      clear hnb NB2
      go_wp2_with fail
      have NN : Hid (_ ∧ _) := twoX VR1.out (.int .i64 7) (.slice none 0 0)
      clear p0 f0 p1 f1 n0 n1
      generalize ((W1.setCell ⟨s, 0, none⟩ (.int .i64 7)).setCell ⟨s, 1, none⟩ (.slice none 0 0)) = V at *
      have x0 := NN.out.1.cell 0 rfl
      have x1 := NN.out.1.cell 1 rfl
      exact bodyPost_ret (v := .agg #[.int .i64 7, .slice none 0 0]) (by simp [results, Try.results20, go_sem, x0, x1]) rfl
        (FF.out _ NN.out.1 (Mq.under B1.out NN.out.2 fun k e => by have := HS.out; omega))
    · have h7b : ((j : Int) == 7) = false := by simp; omega
      have hb0 : (bits BinOp.and .i64 y 1 == 0) = true := by
        have : decide (T = 8) = false := by simp; omega
        rw [this] at NB2
        exact NB2.symm
      clear hnb NB2
      go_wp2_with fail
      have NN : Hid (_ ∧ _) := twoX VR1.out (.int .i64 7) (.slice none 0 0)
      clear p0 f0 p1 f1 n0 n1
      generalize ((W1.setCell ⟨s, 0, none⟩ (.int .i64 7)).setCell ⟨s, 1, none⟩ (.slice none 0 0)) = V at *
      have x0 := NN.out.1.cell 0 rfl
      have x1 := NN.out.1.cell 1 rfl
      exact bodyPost_ret (v := .agg #[.int .i64 7, .slice none 0 0]) (by simp [results, Try.results20, go_sem, x0, x1]) rfl
        (FF.out _ NN.out.1 (Mq.under B1.out NN.out.2 fun k e => by have := HS.out; omega))
  obtain ⟨k, hkp, hxk⟩ := tpg_to SN.out TZ.out hnb
  obtain rfl : x = (k : Int) := HX.out.symm.trans hxk
  have E1 : Hid (spC H ps = 0 ∧ spP H ps zs = (eight zs k).map entP) := ⟨by rw [SC.out, hnb]; rfl, by rw [SP.out, hnb]; rfl⟩
  have NB2 := NB.out
  rw [hnb] at NB2
  have NB3 : decide (T = 8) = false ∧ (bits BinOp.and .i64 y 1 == 0) = false := by
    have := NB2.symm
    simpa using this
  have h7b : ((j : Int) == 7) = false := by have := NB3.1; simp at this; simp; omega
  have hb0 : (bits BinOp.and .i64 y 1 == 0) = false := NB3.2
  have KP : Hid (((k : Int) < (p : Int)) ∧ k < p) := ⟨by omega, hkp⟩
  have L8 : Hid ((eight zs k).length = 8) := eight_length zs p k SN.out.zl hkp
  have AW : Hid ((eight zs k).all isW = true) := all_eight SN.out.zw k
  clear hnb NB2 NB3 hxk hkp
  go_upto_region 7 with fail
  clear n0 n1
  have D7 : Hid (Below W1.heap.size W1 W1.drew) := (Below.refl _ _).drew
  have cq : Hid (∀ w', Below W1.heap.size W1 w' → w'.cell? ⟨q, 35, none⟩ = some (.slice (some ⟨g, 0, none⟩) p p)) := fun w' hs => (V1.out.keep hs).cell 35 rfl
  have cn : Hid (∀ w', Below W1.heap.size W1 w' → w'.cell? ⟨n, 0, none⟩ = some (.int .i64 (k : Int))) := fun w' hs => (VN.out.keep hs).cell 0 rfl
  have RG : Hid (∀ w', Below W1.heap.size W1 w' → w'.rangeAt g (k * 8) [.int .i64 ((eight zs k).getD 0 0), .int .i64 ((eight zs k).getD 1 0), .int .i64 ((eight zs k).getD 2 0), .int .i64 ((eight zs k).getD 3 0), .int .i64 ((eight zs k).getD 4 0), .int .i64 ((eight zs k).getD 5 0), .int .i64 ((eight zs k).getD 6 0), .int .i64 ((eight zs k).getD 7 0)]) := fun w' hs => eight_at SN.out.zl KP.out.2 (G1.out.keep hs)
  refine wp_region_held (S := fun w' => Below W1.heap.size W1 w') (by kernel_rfl) ?_
  change wpAnyH _ _ _ _ _ _ _ _ (World.drew _)
  generalize W1.drew = d7 at *
  refine wpTk (i := 0) (v := .pointer (some ⟨q, 0, none⟩)) rfl (Or.inl ⟨by rfl, fun w' hs => by go_simp⟩) D7.out ?_
  change wpAnyH _ _ _ _ _ _ _ (Act.put _ (some 40) _) _
  simp only [Act.put, zT, zZ, zS]
  refine wpTk (i := 1) (v := .pointer (some ⟨q, 0, none⟩)) rfl (Or.inl ⟨by rfl, fun w' hs => by go_simp⟩) D7.out ?_
  change wpAnyH _ _ _ _ _ _ _ (Act.put _ (some 41) _) _
  simp only [Act.put, zT, zZ, zS]
  refine wpTk (i := 2) (v := .pointer (some ⟨q, 35, none⟩)) rfl (Or.inl ⟨by rfl, fun w' hs => by go_simp⟩) D7.out ?_
  change wpAnyH _ _ _ _ _ _ _ (Act.put _ (some 42) _) _
  simp only [Act.put, zT, zZ, zS]
  refine wpTk (i := 3) (v := .slice (some ⟨g, 0, none⟩) p p) rfl (Or.inl ⟨by rfl, fun w' hs => by have hc := cq.out w' hs; go_simp⟩) D7.out ?_
  change wpAnyH _ _ _ _ _ _ _ (Act.put _ (some 43) _) _
  simp only [Act.put, zT, zZ, zS]
  refine wpTk (i := 4) (v := .pointer (some ⟨n, 0, none⟩)) rfl (Or.inl ⟨by rfl, fun w' hs => by go_simp⟩) D7.out ?_
  change wpAnyH _ _ _ _ _ _ _ (Act.put _ (some 44) _) _
  simp only [Act.put, zT, zZ, zS]
  refine wpTk (i := 5) (v := .int .i64 (k : Int)) rfl (Or.inl ⟨by rfl, fun w' hs => by have hc := cn.out w' hs; go_simp⟩) D7.out ?_
  change wpAnyH _ _ _ _ _ _ _ (Act.put _ (some 45) _) _
  simp only [Act.put, zT, zZ, zS]
  refine wpTk (i := 6) (v := .pointer (some ⟨g, k * 8, none⟩)) rfl (Or.inl ⟨by rfl, fun w' hs => by have h1 := KP.out.1; have h2 := KP.out.2; go_simp⟩) D7.out ?_
  change wpAnyH _ _ _ _ _ _ _ (Act.put _ (some 46) _) _
  simp only [Act.put, zT, zZ, zS]
  refine wpTk (i := 7) (v := .agg #[.int .i64 ((eight zs k).getD 0 0), .int .i64 ((eight zs k).getD 1 0), .int .i64 ((eight zs k).getD 2 0), .int .i64 ((eight zs k).getD 3 0), .int .i64 ((eight zs k).getD 4 0), .int .i64 ((eight zs k).getD 5 0), .int .i64 ((eight zs k).getD 6 0), .int .i64 ((eight zs k).getD 7 0)]) rfl (yieldsIf_load_mid (by rfl) 95 (.tmp 46) rfl g (k * 8) rfl [.int .i64 ((eight zs k).getD 0 0), .int .i64 ((eight zs k).getD 1 0), .int .i64 ((eight zs k).getD 2 0), .int .i64 ((eight zs k).getD 3 0), .int .i64 ((eight zs k).getD 4 0), .int .i64 ((eight zs k).getD 5 0), .int .i64 ((eight zs k).getD 6 0), .int .i64 ((eight zs k).getD 7 0)] _ RG.out Try.underlying95 rfl (by kernel_rfl)) D7.out ?_
  change wpAnyH _ _ _ _ _ _ _ (Act.put _ (some 47) _) _
  simp only [Act.put, zT, zZ, zS]
  refine zR 8 rfl fun K hK => ?_
  rw [if_pos (by rfl)]
  go_simp
  obtain ⟨m, hm⟩ : ∃ m, d7.heap.size = m := ⟨_, rfl⟩
  have VM0 : Hid (Vb (d7.alloc (.cells #[.int .i64 0, .int .i64 0, .int .i64 0, .int .i64 0, .int .i64 0, .int .i64 0, .int .i64 0, .int .i64 0] 95)) m #[.int .i64 0, .int .i64 0, .int .i64 0, .int .i64 0, .int .i64 0, .int .i64 0, .int .i64 0, .int .i64 0] 95) := by show Vb _ _ _ _; rw [← hm]; exact Vb.new _ _ _
  have D8 : Hid (Below W1.heap.size W1 (d7.alloc (.cells #[.int .i64 0, .int .i64 0, .int .i64 0, .int .i64 0, .int .i64 0, .int .i64 0, .int .i64 0, .int .i64 0] 95))) := al D7.out _
  have MU : Hid (W1.heap.size ≤ m) := by show _ ≤ _; rw [← hm]; exact D7.out.size
  rw [hm]
  generalize d7.alloc (.cells #[.int .i64 0, .int .i64 0, .int .i64 0, .int .i64 0, .int .i64 0, .int .i64 0, .int .i64 0, .int .i64 0] 95) = d8 at *
  clear hm
  refine hK.out _ _ D8.out (fun _ => ?_)
  clear hK K
  refine zR 9 rfl fun K hK => ?_
  rw [if_pos (by rfl)]
  refine wp_store_mid 95 (.tmp 5) (.tmp 47) rfl m 0 #[.int .i64 ((eight zs k).getD 0 0), .int .i64 ((eight zs k).getD 1 0), .int .i64 ((eight zs k).getD 2 0), .int .i64 ((eight zs k).getD 3 0), .int .i64 ((eight zs k).getD 4 0), .int .i64 ((eight zs k).getD 5 0), .int .i64 ((eight zs k).getD 6 0), .int .i64 ((eight zs k).getD 7 0)] rfl rfl (there8 VM0.out) (by kernel_rfl) (by simp [Value.oneCell']) ?_
  change K (Act.put _ none undef) _
  simp only [Act.put]
  have M9 := mq_cells m [.int .i64 ((eight zs k).getD 0 0), .int .i64 ((eight zs k).getD 1 0), .int .i64 ((eight zs k).getD 2 0), .int .i64 ((eight zs k).getD 3 0), .int .i64 ((eight zs k).getD 4 0), .int .i64 ((eight zs k).getD 5 0), .int .i64 ((eight zs k).getD 6 0), .int .i64 ((eight zs k).getD 7 0)] d8 0
  have D9 : Hid (Below W1.heap.size W1 (d8.setCells m 0 [.int .i64 ((eight zs k).getD 0 0), .int .i64 ((eight zs k).getD 1 0), .int .i64 ((eight zs k).getD 2 0), .int .i64 ((eight zs k).getD 3 0), .int .i64 ((eight zs k).getD 4 0), .int .i64 ((eight zs k).getD 5 0), .int .i64 ((eight zs k).getD 6 0), .int .i64 ((eight zs k).getD 7 0)])) := Mq.under D8.out M9 fun k e => by have := MU.out; omega
  have R9 : Hid ((d8.setCells m 0 [.int .i64 ((eight zs k).getD 0 0), .int .i64 ((eight zs k).getD 1 0), .int .i64 ((eight zs k).getD 2 0), .int .i64 ((eight zs k).getD 3 0), .int .i64 ((eight zs k).getD 4 0), .int .i64 ((eight zs k).getD 5 0), .int .i64 ((eight zs k).getD 6 0), .int .i64 ((eight zs k).getD 7 0)]).rangeAt m 0 [.int .i64 ((eight zs k).getD 0 0), .int .i64 ((eight zs k).getD 1 0), .int .i64 ((eight zs k).getD 2 0), .int .i64 ((eight zs k).getD 3 0), .int .i64 ((eight zs k).getD 4 0), .int .i64 ((eight zs k).getD 5 0), .int .i64 ((eight zs k).getD 6 0), .int .i64 ((eight zs k).getD 7 0)]) := World.rangeAt_setCells_same _ _ _ _ (there8 VM0.out)
  generalize d8.setCells m 0 [.int .i64 ((eight zs k).getD 0 0), .int .i64 ((eight zs k).getD 1 0), .int .i64 ((eight zs k).getD 2 0), .int .i64 ((eight zs k).getD 3 0), .int .i64 ((eight zs k).getD 4 0), .int .i64 ((eight zs k).getD 5 0), .int .i64 ((eight zs k).getD 6 0), .int .i64 ((eight zs k).getD 7 0)] = d9 at *
  refine hK.out _ _ D9.out (fun _ => ?_)
  clear hK K M9
  refine wpAnyH_done (by kernel_rfl) ?_ _
  have mb : m < d9.heap.size := block_of_cell (R9.out 0 _ rfl)
  go_wp2_with fail
  refine (impl_fromR m 0 8 (eight zs k) d9 L8.out (fun j hj => by have t := R9.out j _ (by simpa using lit8 (zs := eight zs k) j hj); simpa using t)).mono ?_
  rintro e w1 ⟨u, rfl, pu, b2⟩
  have e1 : fromC (eight zs k) = 0 := by unfold fromC; rw [if_pos L8.out, AW.out]; rfl
  have e2 : fromP (eight zs k) = (eight zs k).map entP := by unfold fromP; rw [if_pos L8.out, AW.out]; rfl
  rw [e1]
  rw [e2] at pu
  clear e1 e2
  obtain ⟨ua, uc, rfl, _⟩ := pu.shape
  obtain ⟨ul, hul⟩ : ∃ ul, ((eight zs k).map entP).length = ul := ⟨_, rfl⟩
  rw [hul] at pu ⊢
  have PU : Hid (Prs 73 w1 d9.heap.size (.slice ua ul uc) ((eight zs k).map entP)) := pu
  have BX : Hid (Below W1.heap.size W1 w1) := on D9.out b2
  have B2 : Hid (Below w.heap.size w w1) := on B1.out BX.out
  have VR2 : Hid (Vb w1 s #[.int .i64 0, .slice none 0 0] 34) := VR1.out.keep BX.out
  have LS : Hid (s < d9.heap.size) := Nat.lt_of_lt_of_le VR1.out.lt D9.out.size
  have LW : Hid (w.heap.size ≤ d9.heap.size) := Nat.le_trans B1.out.size D9.out.size
  clear pu b2 hul mb
  have p0 := VR2.out.cell 0 rfl
  have f0 := VR2.out.free 0
  have p1 := VR2.out.cell 1 rfl
  have f1 := VR2.out.free 1
  go_wp2_with fail
  have NN : Hid (_ ∧ _) := twoX VR2.out (.int .i64 0) (.slice ua ul uc)
  have P2 : Hid (Prs 73 ((w1.setCell ⟨s, 0, none⟩ (.int .i64 0)).setCell ⟨s, 1, none⟩ (.slice ua ul uc)) d9.heap.size (.slice ua ul uc) ((eight zs k).map entP)) := NN.out.2.prs PU.out fun k e f => by have := (PU.out.lt k e).1; have := LS.out; omega
  clear p0 f0 p1 f1
  generalize ((w1.setCell ⟨s, 0, none⟩ (.int .i64 0)).setCell ⟨s, 1, none⟩ (.slice ua ul uc)) = V at *
  have x0 := NN.out.1.cell 0 rfl
  have x1 := NN.out.1.cell 1 rfl
  exact bodyPost_ret (v := .agg #[.int .i64 0, .slice ua ul uc]) (by simp [results, Try.results20, go_sem, x0, x1]) rfl
    ⟨_, by rw [E1.out.1], by rw [E1.out.2]; exact P2.out.mono LW.out, Mq.under B2.out NN.out.2 fun k e => by have := HS.out; omega⟩
set_option maxRecDepth 20000 in
set_option maxHeartbeats 8000000 in
theorem s_set_any (q : Nat) (r c i o : Value) (H : Ht) (k x : Int) (b : Nat) (w : World) (h : Hm w b r c i o H) (A : Ha r c i o) (hv : Vb w q #[r, .int .i64 H.pc, c, .bool H.halted, .bool H.waiting, .bool H.rung, .int .i64 H.done, i, o] 26) (hq : ∀ k, Own4 r c i o k → k ≠ q) (hc : H.csr.length = 11) (h0 : 0 ≤ k) (h10 : k ≤ 10) :
    Calls Try.prog 71 #[.pointer (some ⟨q, 0, none⟩), .int .i64 k, .int .i64 x] w fun e w' => e = .returned (.tuple #[]) ∧ ∃ H', Sv w w' b q r c i o H' ∧ H'.regs.length = H.regs.length ∧ H'.csr.length = 11 := by
  have S0 : Hid (Sv w w b q r c i o H) := ⟨h, hv, Mq.refl _ _⟩
  obtain ⟨a1, k1, rfl, _, _, g1⟩ := h.c.shape
  obtain ⟨y1, rfl⟩ := g1 (by omega)
  have HC : Hid (H.csr.length = 11) := hc
  rw [hc] at h hv hq A S0 ⊢
  have HA : Hid (Ha r _ i o) := A
  have HQ : Hid (∀ k, Own4 r (.slice (some ⟨y1, 0, none⟩) 11 k1) i o k → k ≠ q) := hq
  have QY : Hid (q ≠ y1) := fun e => hq y1 (.inr (.inl rfl)) e.symm
  obtain ⟨u, hu⟩ : ∃ u, wd x = u := ⟨_, rfl⟩
  have HU : Hid (wd x = u) := hu
  have u0 : 0 ≤ u := by rw [← hu]; exact (hwd_in x).1
  have u9 : u ≤ 4294967295 := by rw [← hu]; exact (hwd_in x).2
  have t4 : u.tmod 4 = u % 4 := Int.tmod_eq_emod_of_nonneg u0
  have t8 : u.tmod 8 = u % 8 := Int.tmod_eq_emod_of_nonneg u0
  have v2 := hv.cell 2 rfl
  have v5 := hv.cell 5 rfl
  have f5 := hv.free 5
  have CE : Hid (∀ n, n < 11 → w.cell? ⟨y1, n, none⟩ = some (.int .i64 (gt H.csr n))) := fun n hn => h.c.cell hc.symm n hn
  have FE : Hid (∀ n, w.frozen? ⟨y1, n, none⟩ = false) := fun n => h.c.free hc.symm n
  clear h hv hq A g1 hc hu
  by_cases k0 : k = 0
  · subst k0
    have cc := CE.out 0 (by decide)
    have ff := FE.out 0
    go_enter Try.func71, Try.ntmps71
    go_wp2_with (go_at_call 78; refine (s_wrap _ _).mono ?_; rintro e y ⟨rfl, hy⟩; rw [hy]; clear hy y; rw [HU.out])
    go_end0
    exact ⟨rfl, _, S0.out.csr HA.out QY.out 0 _, rfl, by first | exact HC.out | simpa using HC.out⟩
  by_cases k7 : k = 7
  · subst k7
    have cc := CE.out 7 (by decide)
    have ff := FE.out 7
    go_enter Try.func71, Try.ntmps71
    go_wp2_with (go_at_call 78; refine (s_wrap _ _).mono ?_; rintro e y ⟨rfl, hy⟩; rw [hy]; clear hy y; rw [HU.out])
    go_end0
    exact ⟨rfl, _, S0.out.csr HA.out QY.out 7 _, rfl, by first | exact HC.out | simpa using HC.out⟩
  by_cases k10 : k = 10
  · subst k10
    have cc := CE.out 10 (by decide)
    have ff := FE.out 10
    have qy : q ≠ y1 := QY.out
    by_cases h8 : u ≤ 8
    · have H8 : Hid (u ≤ 8) := h8
      go_enter Try.func71, Try.ntmps71
      go_wp2_with (go_at_call 78; refine (s_wrap _ _).mono ?_; rintro e y ⟨rfl, hy⟩; rw [hy]; clear hy y; rw [HU.out])
      go_end0
      exact ⟨rfl, _, (S0.out.csr HA.out QY.out 10 0).csr HA.out QY.out 10 u, rfl, by first | exact HC.out | simpa using HC.out⟩
    · have H8 : Hid (8 < u) := by show _ < _; omega
      go_enter Try.func71, Try.ntmps71
      go_wp2_with (go_at_call 78; refine (s_wrap _ _).mono ?_; rintro e y ⟨rfl, hy⟩; rw [hy]; clear hy y; rw [HU.out])
      go_end0
      exact ⟨rfl, _, S0.out.csr HA.out QY.out 10 0, rfl, by first | exact HC.out | simpa using HC.out⟩
  by_cases k6 : k = 6
  · subst k6
    cases hr : H.rung
    · have HR : Hid (H.rung = false) := hr
      rw [hr] at v5
      go_enter Try.func71, Try.ntmps71
      go_wp2_with (go_at_call 78; refine (s_wrap _ _).mono ?_; rintro e y ⟨rfl, hy⟩; rw [hy]; clear hy y; rw [HU.out])
      go_end0
      exact ⟨rfl, _, S0.out.rung HQ.out false, rfl, by first | exact HC.out | simpa using HC.out⟩
    · rw [hr] at v5
      by_cases h2 : u % 4 < 2
      · have H2 : Hid (decide (2 ≤ u % 4) = false) := decide_eq_false (by omega)
        go_enter Try.func71, Try.ntmps71
        go_wp2_with (go_at_call 78; refine (s_wrap _ _).mono ?_; rintro e y ⟨rfl, hy⟩; rw [hy]; clear hy y; rw [HU.out])
        go_end0
        exact ⟨rfl, _, S0.out.rung HQ.out true, rfl, by first | exact HC.out | simpa using HC.out⟩
      · have H2 : Hid (decide (2 ≤ u % 4) = true) := decide_eq_true (by omega)
        go_enter Try.func71, Try.ntmps71
        go_wp2_with (go_at_call 78; refine (s_wrap _ _).mono ?_; rintro e y ⟨rfl, hy⟩; rw [hy]; clear hy y; rw [HU.out])
        go_end0
        rw [show decide (u % 4 < 2) = false from decide_eq_false (by have := of_decide_eq_true H2.out; omega)]
        exact ⟨rfl, _, S0.out.rung HQ.out false, rfl, by first | exact HC.out | simpa using HC.out⟩
  by_cases k8 : k = 8
  · subst k8
    go_enter Try.func71, Try.ntmps71
    go_wp2_with (go_at_call 78; refine (s_wrap _ _).mono ?_; rintro e y ⟨rfl, hy⟩; rw [hy]; clear hy y; rw [HU.out])
    go_end0
    exact ⟨rfl, _, S0.out, rfl, by first | exact HC.out | simpa using HC.out⟩
  obtain ⟨n, rfl⟩ : ∃ n : Nat, k = n := ⟨k.toNat, by omega⟩
  have cc := CE.out n (by omega)
  have ff := FE.out n
  have hI : (n : Int) < 11 := by omega
  go_enter Try.func71, Try.ntmps71
  go_wp2_with (go_at_call 78; refine (s_wrap _ _).mono ?_; rintro e y ⟨rfl, hy⟩; rw [hy]; clear hy y; rw [HU.out])
  go_end0
  exact ⟨rfl, _, S0.out.csr HA.out QY.out n _, rfl, by first | exact HC.out | simpa using HC.out⟩
end Go.Proofs.Ytgjpfmcokcjegaa
