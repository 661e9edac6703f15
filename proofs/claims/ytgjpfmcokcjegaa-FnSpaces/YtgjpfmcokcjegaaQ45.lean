/- Texts of this seat, joined. -/
import Derived.Test.YtgjpfmcokcjegaaQ42
namespace Go.Proofs.Ytgjpfmcokcjegaa
open Go.RowKit
set_option linter.unusedVariables false
theorem prs_emptyX {w : World} {base : Nat} (h : base ≤ w.heap.size) : Prs 73 (w.alloc (.cells #[] 73)) base (.slice (some ⟨w.heap.size, 0, none⟩) 0 0) [] :=
  ⟨rfl, .inr ⟨w.heap.size, 0, #[], rfl, h, heap_alloc_new w _, Nat.le_refl _, by simp [maxLen], rfl, rfl⟩⟩
theorem field_p1 (x0 x1 : Value) (w : World) : (Instr.field 34 (.agg #[x0, x1]) 1).run Try.prog w = .ok x1 w := by kernel_rfl
set_option maxRecDepth 20000 in
set_option maxHeartbeats 4000000 in
theorem s_space (q : Nat) (r c i o : Value) (H : Ht) (pg pc : Nat) (ps : List (Int × Int)) (gm p mc : Nat) (zs : List Int) (ri fa : Int) (b : Nat) (w : World) (hv : Vb w q #[.slice (some ⟨pg, 0, none⟩) 8 pc, .slice (some ⟨gm, 0, none⟩) (p * 8) mc, .int .i64 ri, r, .int .i64 H.pc, c, .bool H.halted, .bool H.waiting, .bool H.rung, .int .i64 H.done, i, o, .int .i64 fa] 65) (hC : Nums w b c H.csr) (hP : Prs 73 w b (.slice (some ⟨pg, 0, none⟩) 8 pc) ps) (hM : Nums w b (.slice (some ⟨gm, 0, none⟩) (p * 8) mc) zs) (sn : Sn H ps zs p) :
    Calls Try.prog 22 #[.pointer (some ⟨q, 0, none⟩)] w fun e w' => ∃ u, e = .returned (.tuple #[u, .bool (decide (spC H ps = 0))]) ∧ Prs 73 w' w.heap.size u (spP H ps zs) ∧ Below w.heap.size w w' := by
  have SN : Hid (Sn H ps zs p) := sn
  have HV : Hid (Vb w q #[.slice (some ⟨pg, 0, none⟩) 8 pc, .slice (some ⟨gm, 0, none⟩) (p * 8) mc, .int .i64 ri, r, .int .i64 H.pc, c, .bool H.halted, .bool H.waiting, .bool H.rung, .int .i64 H.done, i, o, .int .i64 fa] 65) := hv
  have HCS : Hid (Nums w b c H.csr) := hC
  have HP : Hid (Prs 73 w b (.slice (some ⟨pg, 0, none⟩) 8 pc) ps) := hP
  have HM : Hid (Nums w b (.slice (some ⟨gm, 0, none⟩) (p * 8) mc) zs) := hM
  obtain ⟨ya, yk, hy, _, _, hg⟩ := hC.shape
  obtain ⟨yg, rfl⟩ := hg (by have := sn.hok.c11; omega)
  subst hy
  obtain ⟨T, hT⟩ : ∃ T, tabV H = T := ⟨_, rfl⟩
  have HT : Hid (tabV H = T) := hT
  have cT : w.cell? ⟨yg, 10, none⟩ = some (.int .i64 T) := by rw [← hT]; exact hC.cell hC.len 10 (by have := sn.hok.c11; omega)
  have c0 : w.cell? ⟨q, 0, none⟩ = some (.slice (some ⟨pg, 0, none⟩) 8 pc) := hv.cell 0 rfl
  have c1 : w.cell? ⟨q, 1, none⟩ = some (.slice (some ⟨gm, 0, none⟩) (p * 8) mc) := hv.cell 1 rfl
  have c5 : w.cell? ⟨q, 5, none⟩ = some (.slice (some ⟨yg, 0, none⟩) H.csr.length yk) := hv.cell 5 rfl
  rw [sn.hok.c11] at c5
  have hT0 : 0 ≤ T := by rw [← hT]; exact sn.t0
  have hT8 : T ≤ 8 := by rw [← hT]; exact sn.t8
  clear hT hv hC hP hM sn hg
  by_cases ht : T = 0
  · subst ht
    have E1 : Hid (spC H ps = 0 ∧ spP H ps zs = strL) := ⟨if_pos HT.out, if_pos HT.out⟩
    go_enter Try.func22, Try.ntmps22
    go_wp2_with fail
    go_loopw [5, 6] (fun u c wr => ∃ j : Nat, j ≤ 8 ∧ c = .int .i64 j ∧ Prs 73 wr w.heap.size u (strL.take j) ∧ Below w.heap.size w wr) (fun _ c _ => 8 - (intOf c).toNat)
    case atStart => exact ⟨0, Nat.zero_le _, rfl, prs_emptyX (Nat.le_refl _), al (Below.refl _ _) _⟩
    case round =>
      obtain ⟨j, hj, rfl, hP, hB⟩ := hrel
      have PB : Hid (Prs 73 wr w.heap.size _ (strL.take j)) := hP
      have HB : Hid (Below w.heap.size w wr) := hB
      obtain ⟨ua, uc, rfl, _, _, _⟩ := hP.shape
      have HLN : Hid ((strL.take j).length ≤ 8) := by show _ ≤ _; simp; omega
      generalize hun : (strL.take j).length = un at *
      clear hP hB c0 c1 c5 cT
      by_cases hlt : j < 8
      · have hI : (j : Int) < 8 := by omega
        have HL : Hid (j < 8) := hlt
        have HTK : Hid (strL.take (j + 1) = strL.take j ++ [((j : Int), 7)]) := str_take j hlt
        clear hlt
        go_wp2_with (at_builtin; refine wp_pair 27 73 Try.underlying27 info_page _ rfl _ _ rfl w.heap.size _ _ rfl (PB.out.keep (al (Below.refl _ _) _)) _ (j : Int) 7 rfl (cell_new rfl) (cell_new rfl) (by rw [hun]; have := HLN.out; omega) (by have := HB.out.size; simp; omega) ?_; intro v' w' hP' hG')
        have BP : Hid (Below w.heap.size w w') := (al HB.out _).grown hG' (by have := HB.out.size; simp; omega) (fun k hk => by have := (PB.out.lt k hk).1; omega)
        have PP : Hid (Prs 73 w' w.heap.size v' (strL.take (j + 1))) := by show Prs _ _ _ _ _; rw [HTK.out]; exact hP'
        clear hP' hG'
        go_wp2_with fail
        go_roundw
        case rel => exact ⟨j + 1, by have := HL.out; omega, by go_num, PP.out, BP.out⟩
        case measure => have := HL.out; simp [intOf]; omega
      · have hI : ¬ (j : Int) < 8 := by omega
        obtain rfl : j = 8 := by omega
        go_wp2_with fail
        exact bodyPost_ret (v := .tuple #[.slice ua un uc, .bool true]) (by simp [results, Try.results22, go_sem]) rfl ⟨_, by rw [E1.out.1]; rfl, by rw [E1.out.2]; exact PB.out, HB.out⟩
  obtain ⟨j, hj⟩ : ∃ j : Nat, T - 1 = (j : Int) := ⟨(T - 1).toNat, by omega⟩
  have hj7 : j < 8 := by omega
  have hji : (j : Int) < 8 := by omega
  have TZ : Hid (¬ tabV H = 0) := by show ¬ _; rw [HT.out]; exact ht
  have TP : Hid (tpg H ps = ps.getD j (0, 0)) := by
    show _ = _
    unfold tpg
    rw [HT.out, hj]
    rfl
  obtain ⟨x, hx⟩ : ∃ x, (tpg H ps).1 = x := ⟨_, rfl⟩
  obtain ⟨y, hy⟩ : ∃ y, (tpg H ps).2 = y := ⟨_, rfl⟩
  have HX : Hid ((tpg H ps).1 = x) := hx
  have HY : Hid ((tpg H ps).2 = y) := hy
  have ht1 : (T == 0) = false := by simpa using ht
  have NB : Hid (noB H ps = (decide (T = 8) || (bits BinOp.and .i64 y 1 == 0))) := by show _ = _; unfold noB; rw [HT.out, HY.out]
  have SC : Hid (spC H ps = if noB H ps then 7 else 0) := if_neg TZ.out
  have SP : Hid (spP H ps zs = if noB H ps then [] else (eight zs x.toNat).map entP) := by show _ = _; rw [← HX.out]; exact if_neg TZ.out
  have GV : Hid (goesV ps ((j : Int) * 8) 1 = if (bits BinOp.and .i64 y 1 == 0) then -1 else x * 8) := by
    show _ = _
    have e1 : ((j : Int) * 8 / 8).toNat = j := by omega
    have e2 : goesB ps ((j : Int) * 8) 1 = !(bits BinOp.and .i64 y 1 == 0) := by
      unfold goesB
      rw [e1, ← TP.out, HY.out]
      have a1 : decide (0 ≤ (j : Int) * 8) = true := by simp; omega
      have a2 : decide ((j : Int) * 8 ≤ 63) = true := by simp; omega
      rw [a1, a2]
      rfl
    have e3 : goesTo ps ((j : Int) * 8) = x * 8 := by
      unfold goesTo
      rw [e1, ← TP.out, HX.out]
      omega
    unfold goesV
    rw [e2, e3]
    cases (bits BinOp.and .i64 y 1 == 0) <;> rfl
  have LW := spec_l4walk _ ps ((j : Int) * 8) 1 b w HP.out SN.out.l8 SN.out.ok
  rw [GV.out] at LW
  clear hx hy ht hj7 GV
  go_enter Try.func22, Try.ntmps22
  go_wp2_with fail
  refine LW.mono ?_
  rintro e w1 ⟨rfl, b1⟩
  have B1 : Hid (Below w.heap.size w w1) := b1
  have c1 := cell_keep b1 c1
  clear LW c0 c5 cT b1
  cases hnb : noB H ps
  case true =>
    have E1 : Hid (spC H ps = 7 ∧ spP H ps zs = []) := ⟨by rw [SC.out, hnb]; rfl, by rw [SP.out, hnb]; rfl⟩
    have NB2 := NB.out
    rw [hnb] at NB2
    by_cases h7 : T = 8
    · subst h7
      generalize (if (bits BinOp.and .i64 y 1 == 0) = true then (-1 : Int) else x * 8) = z
      clear hnb NB2
      go_wp2_with fail
      exact bodyPost_ret (v := .tuple #[.slice none 0 0, .bool false]) (by simp [results, Try.results22, go_sem]) rfl ⟨_, by rw [E1.out.1]; rfl, by rw [E1.out.2]; exact Prs.nil _ _ _, B1.out⟩
    · have h8b : (T == 8) = false := by simpa using h7
      have hb0 : (bits BinOp.and .i64 y 1 == 0) = true := by
        have : decide (T = 8) = false := by simpa using h7
        rw [this] at NB2
        exact NB2.symm
      rw [hb0]
      clear hnb NB2 h7 hb0
      simp only [if_true]
      go_wp2_with fail
      exact bodyPost_ret (v := .tuple #[.slice none 0 0, .bool false]) (by simp [results, Try.results22, go_sem]) rfl ⟨_, by rw [E1.out.1]; rfl, by rw [E1.out.2]; exact Prs.nil _ _ _, B1.out⟩
  obtain ⟨k, hkp, hxk⟩ := tpg_to SN.out TZ.out hnb
  obtain rfl : x = (k : Int) := HX.out.symm.trans hxk
  have E1 : Hid (spC H ps = 0 ∧ spP H ps zs = (eight zs k).map entP) := ⟨by rw [SC.out, hnb]; rfl, by rw [SP.out, hnb]; rfl⟩
  have NB2 := NB.out
  rw [hnb] at NB2
  have NB3 : decide (T = 8) = false ∧ (bits BinOp.and .i64 y 1 == 0) = false := by
    have := NB2.symm
    simpa using this
  have h8b : (T == 8) = false := by have := NB3.1; simpa using this
  rw [NB3.2]
  have ef : (if (false = true) then (-1 : Int) else (k : Int) * 8) = ((k * 8 : Nat) : Int) := by simp
  rw [ef]
  have KP : Hid (k < p) := hkp
  have P24 := SN.out.p24
  have M1 : Hid (Nums w1 b (.slice (some ⟨gm, 0, none⟩) (p * 8) mc) zs) := HM.out.keep B1.out
  obtain ⟨mc1, mc2⟩ := M1.out.lens
  unfold maxLen at mc2
  obtain ⟨a8, ha8⟩ : ∃ a8, k * 8 = a8 := ⟨_, rfl⟩
  have A8 : Hid (k * 8 = a8) := ha8
  rw [ha8]
  have l1 : a8 + 8 ≤ mc := by omega
  have l2 : (a8 : Int) + 8 ≤ (mc : Int) := by omega
  have l3 : (mc : Int) ≤ 9223372036854775807 := by omega
  have l4 : (a8 : Int) ≤ 184 := by omega
  have L8 : Hid ((eight zs k).length = 8) := eight_length zs p k SN.out.zl hkp
  have AW : Hid ((eight zs k).all isW = true) := all_eight SN.out.zw k
  clear hnb NB2 NB3 hxk hkp ef ha8 P24 mc1 mc2
  go_wp2_with fail
  refine (spec_fromR gm a8 _ (eight zs k) w1 L8.out (fun j hj => by
    have t := eight_cell M1.out p k SN.out.zl KP.out SN.out.zl.symm j (.int .i64 ((eight zs k).getD j 0)) (by rw [List.getElem?_map, List.getD, List.getElem?_eq_getElem (by have := L8.out; omega)]; rfl)
    rw [Addr.add_lit, A8.out] at t
    exact t)).mono ?_
  rintro e w2 ⟨u, rfl, pu, b2⟩
  have e1 : fromC (eight zs k) = 0 := by unfold fromC; rw [if_pos L8.out, AW.out]; rfl
  have e2 : fromP (eight zs k) = (eight zs k).map entP := by unfold fromP; rw [if_pos L8.out, AW.out]; rfl
  rw [e1]
  rw [e2] at pu
  have B2 : Hid (Below w.heap.size w w2) := on B1.out b2
  have PU : Hid (Prs 73 w2 w1.heap.size u ((eight zs k).map entP)) := pu
  obtain ⟨ua, uc, rfl, _⟩ := pu.shape
  obtain ⟨ul, hul⟩ : ∃ ul, ((eight zs k).map entP).length = ul := ⟨_, rfl⟩
  rw [hul] at PU ⊢
  have fp := fun (x0 x1 : Value) (w : World) => field_p1 x0 x1 w
  clear e1 e2 pu b2 hul
  go_wp2_with fail
  exact bodyPost_ret (v := .tuple #[.slice ua ul uc, .bool true]) (by simp [results, Try.results22, go_sem]) rfl ⟨_, by rw [E1.out.1]; rfl, by rw [E1.out.2]; exact PU.out.mono B1.out.size, B2.out⟩
end Go.Proofs.Ytgjpfmcokcjegaa
