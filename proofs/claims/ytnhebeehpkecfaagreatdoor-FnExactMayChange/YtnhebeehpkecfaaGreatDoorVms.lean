/- Pages that a guest may change, by the model. -/
import Derived.Test.YtnhebeehpkecfaaGreatDoorVva
import Derived.Test.YtnhebeehpkecfaaGreatDoorVmx
import Derived.Test.YtnhebeehpkecfaaGreatDoorPfs
import Derived.Test.YtnhebeehpkecfaaGreatDoorLnk
import Derived.Deep.RegionWith
import Derived.Deep.RegionHeld3
import Derived.Deep.Cut
import Derived.Deep.CutRange
namespace Go.Proofs.YtnhebeehpkecfaaGreatDoor
open Go.RowKit
set_option linter.unusedVariables false

theorem wr_neqS (k : Int) : (bits BinOp.and .i64 k 2 != 0) = wrB k := by
  unfold wrB
  by_cases h : bits BinOp.and .i64 k 2 = 0 <;> simp [h]
set_option maxRecDepth 20000 in
set_option maxHeartbeats 8000000 in
theorem s_may (a0 a1 a2 a3 : Option Addr) (n0 c0 n1 c1 n2 c2 n3 c3 : Nat) (P : Plc) (gu : Int) (w : World) (h : Pl w a0 n0 c0 a1 n1 c1 a2 n2 c2 a3 n3 c3 P)  :
    Calls Tryz.prog 6 #[.agg #[.slice a0 n0 c0, .slice a1 n1 c1, .slice a2 n2 c2, .slice a3 n3 c3], .int .i64 gu] w fun e w' => ∃ v, e = .returned (.agg #[.int .i64 (askV P gu), v]) ∧ Nums w' w.heap.size v (mayZ P gu) ∧ Below w.heap.size w w' := by
  obtain ⟨Z, hZ⟩ : ∃ Z, mayZ P gu = Z := ⟨_, rfl⟩
  rw [hZ]
  have HZ : Hid (mayZ P gu = Z) := hZ
  clear hZ
  generalize hW : (w.alloc (.cells #[.slice a0 n0 c0, .slice a1 n1 c1, .slice a2 n2 c2, .slice a3 n3 c3] 37)).alloc (.cells #[.int .i64 0, .slice none 0 0] 31) = W
  have B0 : Hid (Below w.heap.size w W) := by show Below _ _ _; rw [← hW]; exact al (al (Below.refl _ _) _) _
  obtain ⟨s, hS⟩ : ∃ s, w.heap.size = s := ⟨_, rfl⟩
  have HSs : Hid (w.heap.size = s) := hS
  have Q : Hid (Vb W s #[.slice a0 n0 c0, .slice a1 n1 c1, .slice a2 n2 c2, .slice a3 n3 c3] 37) := by show Vb _ _ _ _; rw [← hW, ← hS]; exact (Vb.new _ _ _).push _
  have R : Hid (Vb W (s + 1) #[.int .i64 0, .slice none 0 0] 31) := by
    have z1 : s + 1 = (w.alloc (.cells #[.slice a0 n0 c0, .slice a1 n1 c1, .slice a2 n2 c2, .slice a3 n3 c3] 37)).heap.size := by rw [← hS]; simp
    show Vb _ _ _ _; rw [← hW, z1]; exact Vb.new _ _ _
  have HP : Hid (Pl W a0 n0 c0 a1 n1 c1 a2 n2 c2 a3 n3 c3 P) := h.stay B0.out
  have HA : Hid (PolAt W s P) := ⟨_, _, _, _, _, _, _, _, _, _, _, _, Q.out.cell 0 rfl, Q.out.cell 1 rfl, Q.out.cell 2 rfl, Q.out.cell 3 rfl, HP.out⟩
  clear h
  have q0 := Q.out.cell 0 rfl
  have q1 := Q.out.cell 1 rfl
  have q2 := Q.out.cell 2 rfl
  have q3 := Q.out.cell 3 rfl
  go_enter Tryz.func6, Tryz.ntmps6
  go_wp2_with fail
  clear hW hS
  refine (l6_asked _ _ P _ HA.out).mono ?_
  rintro e w1 ⟨rfl, b1⟩
  have R1 : Hid (Vb w1 (s + 1) #[.int .i64 0, .slice none 0 0] 31) := R.out.keep b1
  have Q1 : Hid (Vb w1 s #[.slice a0 n0 c0, .slice a1 n1 c1, .slice a2 n2 c2, .slice a3 n3 c3] 37) := Q.out.keep b1
  have HP1 : Hid (Pl w1 a0 n0 c0 a1 n1 c1 a2 n2 c2 a3 n3 c3 P) := HP.out.stay b1
  have HA1 : Hid (PolAt w1 s P) := HA.out.stay b1
  have B1 : Hid (Below w.heap.size w w1) := on B0.out b1
  clear b1
  by_cases hz : askV P gu = 0
  case neg =>
    have ZV : Z = [] := by rw [← HZ.out, mayZ, if_neg hz]
    obtain ⟨v, hv⟩ : ∃ v, askV P gu = v := ⟨_, rfl⟩
    have HV : Hid (askV P gu = v) := hv
    rw [hv] at hz ⊢
    clear hv
    have r0 := R1.out.cell 0 rfl
    have r1 := R1.out.cell 1 rfl
    have f0 := R1.out.free 0
    have f1 := R1.out.free 1
    go_wp2_with fail
    exact bodyPost_ret (v := .agg #[.int .i64 v, .slice none 0 0]) (by simp [results, Tryz.results6, go_sem, r0, r1]) rfl ⟨.slice none 0 0, by rw [HV.out], by rw [ZV]; exact Nums.nil _ _, (B1.out.setCell (by have := HSs.out; show w.heap.size ≤ s + 1; omega) _).setCell (by have := HSs.out; show w.heap.size ≤ s + 1; omega) _⟩
  have AZ : Hid (askV P gu = 0) := hz
  have PZ : Hid (pfV P = 0) := ask_pf P gu hz
  have GU : Hid (0 ≤ gu ∧ gu < P.own.length) := ask_guest P gu hz
  rw [hz]
  clear hz
  have ZV : Hid (mayF [] (pforL (P.own.getD gu.toNat []) P.lanes gu 8) = Z) := by show _ = _; rw [← HZ.out, mayZ, if_pos AZ.out]; exact may_eq _ (pfor_ok P gu AZ.out)
  clear q0 q1 q2 q3
  have R2 : Hid (Vb (w1.alloc (.cells #[.int .i64 0, .slice none 0 0] 31)) (s + 1) #[.int .i64 0, .slice none 0 0] 31) := R1.out.push _
  have HA2 : Hid (PolAt (w1.alloc (.cells #[.int .i64 0, .slice none 0 0] 31)) s P) := HA1.out.stay (al (Below.refl _ _) _)
  have B2 : Hid (Below w.heap.size w (w1.alloc (.cells #[.int .i64 0, .slice none 0 0] 31))) := al B1.out _
  have OV : Hid (Vb (w1.alloc (.cells #[.int .i64 0, .slice none 0 0] 31)) w1.heap.size #[.int .i64 0, .slice none 0 0] 31) := Vb.new _ _ _
  have LO : Hid (s + 1 < w1.heap.size) := R1.out.lt
  go_upto_region 5 with fail
  generalize (w1.alloc (.cells #[.int .i64 0, .slice none 0 0] 31)) = W2 at *
  generalize w1.heap.size = O at *
  go_wp2_with fail
  refine (l7_pages _ _ P _ HA2.out GU.out PZ.out).mono ?_
  rintro e w3 ⟨pv, rfl, pn, b3⟩
  rw [pfor_eq _ _ _ (pf_own P PZ.out gu.toNat (by have := GU.out; omega)).2.1 (pf_lanes P PZ.out)] at pn
  have B3O : Hid (Below O W2 w3) := b3.mono (Nat.le_of_lt OV.out.lt)
  have HPL : Hid ((pforL (P.own.getD gu.toNat []) P.lanes gu 8).length = 8) := pforL_len _ _ _ _
  obtain ⟨rsL, hrs⟩ : ∃ r, (pforL (P.own.getD gu.toNat []) P.lanes gu 8) = r := ⟨_, rfl⟩
  rw [hrs] at pn ZV HPL
  have PN0 : Hid (Prs 53 w3 W2.heap.size pv rsL) := pn
  have R3 : Hid (Vb w3 (s + 1) #[.int .i64 0, .slice none 0 0] 31) := R2.out.keep b3
  have OV3 : Hid (Vb w3 O #[.int .i64 0, .slice none 0 0] 31) := OV.out.keep b3
  have B3 : Hid (Below w.heap.size w w3) := on B2.out b3
  have LZ : Hid (O < W2.heap.size ∧ O < w3.heap.size) := ⟨OV.out.lt, (OV.out.keep b3).lt⟩
  obtain ⟨pa, pc, hpv, _, _, hpg⟩ := pn.shape
  rw [HPL.out] at hpv hpg
  subst hpv
  obtain ⟨pg, rfl⟩ := hpg (by omega)
  clear b3 pn hrs hpg
  go_wp2_with fail
  go_loopw [8] (fun c wr => ∃ (j : Nat) (y : Value) (z : List Int), j ≤ 8 ∧ c = .int .i64 j ∧ Vb wr O #[.int .i64 0, y] 31 ∧ Nums wr (O + 1) y z ∧ Prs 53 wr W2.heap.size (.slice (some ⟨pg, 0, none⟩) 8 pc) rsL ∧ Below O W2 wr ∧ Hid (mayF [] rsL = mayF z (rsL.drop j)) ∧ Hid (z.length ≤ j)) (fun c _ => 8 - (intOf c).toNat)
  case atStart => exact ⟨0, _, [], Nat.zero_le _, rfl, OV3.out, Nums.nil _ _, PN0.out, B3O.out, by show _ = _; simp, Nat.le_refl _⟩
  case round =>
    obtain ⟨j, y, z, hj, rfl, hV, hN, hP, hB, hF, hZl⟩ := hrel
    have HV : Hid (Vb wr O _ _) := hV
    have HN : Hid (Nums wr (O + 1) y z) := hN
    have HPw : Hid (Prs 53 wr W2.heap.size (.slice (some ⟨pg, 0, none⟩) 8 pc) rsL) := hP
    have HB : Hid (Below O W2 wr) := hB
    obtain ⟨ya, yc, hy, _, _, _⟩ := hN.shape
    obtain ⟨un, hun⟩ : ∃ un, z.length = un := ⟨_, rfl⟩
    rw [hun] at hy
    subst hy
    have LW : Hid (O < wr.heap.size) := HV.out.lt
    clear hN hun hV hP hB
    by_cases hlt : j < 8
    · have hJ : (j : Int) < 8 := by omega
      have HLT : Hid (j < 8) := hlt
      obtain ⟨k0, k1⟩ := HPw.out.cell HPL.out.symm j hlt
      have SU : Hid (_ = _) := mayF_step z rsL j (by have := HPL.out; omega)
      obtain ⟨⟨tg, kk⟩, hL⟩ : ∃ L, rsL.getD j (0, 0) = L := ⟨_, rfl⟩
      rw [hL] at k0 k1 SU
      simp only at k0 k1 SU
      have wq := wr_neqS kk
      have gp : pg < wr.heap.size := block_of_cell k0
      clear hlt hL
      cases hb : wrB kk
      · rw [hb] at SU wq
        have S2 : Hid (mayF z (rsL.drop j) = mayF z (rsL.drop (j + 1))) := by have t := SU.out; simp at t; exact t
        clear hb SU
        go_wp2_with fail
        go_roundw
        case rel => exact ⟨j + 1, _, z, by have := HLT.out; omega, by go_num, HV.out, HN.out, HPw.out, HB.out, by show _ = _; rw [hF.out, S2.out], by have := hZl.out; show _ ≤ _; omega⟩
        case measure => have := HLT.out; simp [intOf]; omega
      · rw [hb] at SU wq
        have S2 : Hid (mayF z (rsL.drop j) = mayF (riseV z tg) (rsL.drop (j + 1))) := by have t := SU.out; simp at t; exact t
        have o1 := HV.out.cell 1 rfl
        have RI : Hid (∀ wz, Below wr.heap.size wr wz → Calls Tryz.prog 22 #[.slice ya un yc, .int .i64 tg] wz fun e w' => ∃ u, e = .returned u ∧ Nums w' (O + 1) u (riseV z tg) ∧ Below wz.heap.size wz w') := fun wz hz => rise_any (.slice ya un yc) z tg (O + 1) wz (HN.out.keep hz) (by have := hZl.out; have := HLT.out; omega) (by have := LW.out; have := hz.size; omega)
        have EX : Hid (∀ (wz w' : World) (u : Value), Below wr.heap.size wr wz → Nums w' (O + 1) u (riseV z tg) → Below wz.heap.size wz w' → ∃ ua ul uc, u = .slice ua ul uc ∧ Hid (Nums w' (O + 1) u (riseV z tg)) ∧ Hid (u.ownBlock ≠ some O) ∧ Hid (Vb w' O #[.int .i64 0, .slice ya un yc] 31) ∧ Hid (Prs 53 w' W2.heap.size (.slice (some ⟨pg, 0, none⟩) 8 pc) rsL) ∧ Hid (Below O W2 w')) := fun wz w' u hz hn hb => by
          obtain ⟨ua, uc, hu, _, _, _⟩ := hn.shape
          exact ⟨ua, _, uc, hu, hn, fun e => by have := (hn.lt O e).1; omega, (HV.out.keep hz).keep hb, (HPw.out.keep hz).keep hb, HB.out.trans ((on hz hb).mono (Nat.le_of_lt LW.out))⟩
        clear hb SU
        go_wp2_with fail
        go_region_with (go_at_call 22; refine (RI.out _ (by first | exact Below.refl _ _ | exact (Below.refl _ _).drew | exact (Below.refl _ _).drew.drew)).mono ?_; rintro e w5 ⟨u5, rfl, n5, b5⟩; obtain ⟨ua, ul, uc, rfl, N5, NE5, V5, P5, B5⟩ := EX.out _ _ _ (by first | exact Below.refl _ _ | exact (Below.refl _ _).drew | exact (Below.refl _ _).drew.drew) n5 b5; have o1' := V5.out.cell 1 rfl; have g1' := V5.out.free 1; clear n5 b5)
        all_goals go_wp2_with fail
        all_goals go_roundw
        all_goals first
          | (have := HLT.out; simp [intOf]; omega)
          | exact ⟨j + 1, _, riseV z tg, by have := HLT.out; omega, by go_num, V5.out.set 1 _, N5.out.put ⟨O, 1, none⟩ _ NE5.out, P5.out.put ⟨O, 1, none⟩ _ (fun e => by have := (P5.out.lt O e).1; have := LZ.out; omega), B5.out.setCell (Nat.le_refl O) _, by show _ = _; rw [hF.out, S2.out], by have := hZl.out; have := riseV_len z tg; show _ ≤ _; omega⟩
    · have hJ : ¬ (j : Int) < 8 := by omega
      obtain rfl : j = 8 := by omega
      have EZ : z = Z := by rw [← ZV.out, hF.out, List.drop_of_length_le (by have := HPL.out; omega)]; rfl
      subst EZ
      have MQ : Hid (Mx O W2 wr) := Mx.of HB.out
      have R4 : Hid (Vb wr (s + 1) #[.int .i64 0, .slice none 0 0] 31) := MQ.out.vb R2.out LO.out
      have LT : Hid (s + 1 < O) := LO.out
      have BB : Hid (Below w.heap.size w wr) := B2.out.trans (HB.out.mono (by have := LO.out; have := HSs.out; omega))
      obtain ⟨Z, rfl⟩ : ∃ Z, Z = z := ⟨_, rfl⟩
      have PN : Hid (Nums wr (O + 1) (.slice ya un yc) Z) := HN.out
      have o0 := HV.out.cell 0 rfl
      have o1 := HV.out.cell 1 rfl
      have r0 := R4.out.cell 0 rfl
      have r1 := R4.out.cell 1 rfl
      have f0 := R4.out.free 0
      have f1 := R4.out.free 1
      clear hlt
      have ne : Hid ((Value.slice ya un yc).ownBlock ≠ some (s + 1)) := fun e => by have := (PN.out.lt _ e).1; have := LT.out; omega
      have PM : Hid (Nums wr w.heap.size (.slice ya un yc) Z) := PN.out.mono (by have := LT.out; have := HSs.out; omega)
      go_wp2_with fail
      exact bodyPost_ret (v := .agg #[.int .i64 0, .slice ya un yc]) (by simp [results, Tryz.results6, go_sem, r0, r1]) rfl ⟨_, by rw [AZ.out], (PM.out.put ⟨s + 1, 0, none⟩ _ ne.out).put ⟨s + 1, 1, none⟩ _ ne.out, (BB.out.setCell (by have := HSs.out; show w.heap.size ≤ s + 1; omega) _).setCell (by have := HSs.out; show w.heap.size ≤ s + 1; omega) _⟩
end Go.Proofs.YtnhebeehpkecfaaGreatDoor
