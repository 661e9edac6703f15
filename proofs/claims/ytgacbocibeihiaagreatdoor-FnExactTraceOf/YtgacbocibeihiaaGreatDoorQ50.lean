/- Texts of this seat, joined. -/
import Derived.Test.YtgacbocibeihiaaGreatDoorQ49
namespace Go.Proofs.YtgacbocibeihiaaGreatDoor
open Go.RowKit
set_option linter.unusedVariables false

set_option maxRecDepth 20000 in
set_option maxHeartbeats 8000000 in
theorem i_traceOf (a0 a1 a2 a3 : Option Addr) (n0 c0 n1 c1 n2 c2 n3 c3 : Nat) (m h : Value) (X : Hst) (n : Int) (b : Nat) (w : World) (d : Oj w b a0 n0 c0 a1 n1 c1 a2 n2 c2 a3 n3 c3 m h X) (hg : w.cell? ⟨0, 0, none⟩ = some (.iface 162 (.agg #[.pointer (some ⟨1, 121, none⟩)]))) :
    Calls Tryz.prog 7 #[.agg #[.slice a0 n0 c0, .slice a1 n1 c1, .slice a2 n2 c2, .slice a3 n3 c3, m, h, .int .i64 X.slot, .int .i64 X.left, .int .i64 X.clock], .int .i64 n] w fun e w' => ∃ v, e = .returned (.agg #[.int .i64 (trC X n), v]) ∧ Nums w' w.heap.size v (trZ X n) ∧ Below w.heap.size w w' := by
  obtain ⟨am, cm, e4, _⟩ := d.mem.shape
  obtain ⟨ah, ch, e5, _⟩ := d.harts.shape
  subst e4 e5
  obtain ⟨lm, hlm⟩ : ∃ k, X.mem.length = k := ⟨_, rfl⟩
  obtain ⟨lh, hlh⟩ : ∃ k, X.harts.length = k := ⟨_, rfl⟩
  rw [hlm, hlh] at d ⊢
  clear hlm hlh
  have D0 : Hid (Oj w b a0 n0 c0 a1 n1 c1 a2 n2 c2 a3 n3 c3 (.slice am lm cm) (.slice ah lh ch) X) := d
  generalize hW : (w.alloc (.cells #[.slice a0 n0 c0, .slice a1 n1 c1, .slice a2 n2 c2, .slice a3 n3 c3, .slice am lm cm, .slice ah lh ch, .int .i64 X.slot, .int .i64 X.left, .int .i64 X.clock] 43)).alloc (.cells #[.int .i64 0, .slice none 0 0] 34) = W
  have B0 : Hid (Below w.heap.size w W) := by show Below _ _ _; rw [← hW]; exact al (al (Below.refl _ _) _) _
  obtain ⟨s, hS⟩ : ∃ s, w.heap.size = s := ⟨_, rfl⟩
  have HSs : Hid (w.heap.size = s) := hS
  have z1 : s + 1 = (w.alloc (.cells #[.slice a0 n0 c0, .slice a1 n1 c1, .slice a2 n2 c2, .slice a3 n3 c3, .slice am lm cm, .slice ah lh ch, .int .i64 X.slot, .int .i64 X.left, .int .i64 X.clock] 43)).heap.size := by rw [← hS]; simp
  have Q : Hid (Vb W s #[.slice a0 n0 c0, .slice a1 n1 c1, .slice a2 n2 c2, .slice a3 n3 c3, .slice am lm cm, .slice ah lh ch, .int .i64 X.slot, .int .i64 X.left, .int .i64 X.clock] 43) := by show Vb _ _ _ _; rw [← hW, ← hS]; exact (Vb.new _ _ _).push _
  have R : Hid (Vb W (s + 1) #[.int .i64 0, .slice none 0 0] 34) := by show Vb _ _ _ _; rw [← hW, z1]; exact Vb.new _ _ _
  clear z1 d
  have HG : Hid (W.cell? _ = _) := cell_keep B0.out hg
  clear hg
  have q0 := Q.out.cell 0 rfl
  have q1 := Q.out.cell 1 rfl
  have q2 := Q.out.cell 2 rfl
  have q3 := Q.out.cell 3 rfl
  have q4 := Q.out.cell 4 rfl
  have q5 := Q.out.cell 5 rfl
  have q6 := Q.out.cell 6 rfl
  have q7 := Q.out.cell 7 rfl
  have q8 := Q.out.cell 8 rfl
  go_enter Tryz.func7, Tryz.ntmps7
  go_wp2_with fail
  clear hW hS q0 q1 q2 q3 q4 q5 q6 q7 q8
  refine (i_hostFault _ _ _ _ _ _ _ _ _ _ _ _ _ _ X b _ (D0.out.keep B0.out) HG.out).mono ?_
  rintro e w1 ⟨rfl, b1⟩
  have B1 : Hid (Below w.heap.size w w1) := on B0.out b1
  have Q1 : Hid (Vb w1 s #[.slice a0 n0 c0, .slice a1 n1 c1, .slice a2 n2 c2, .slice a3 n3 c3, .slice am lm cm, .slice ah lh ch, .int .i64 X.slot, .int .i64 X.left, .int .i64 X.clock] 43) := Q.out.keep b1
  have R1 : Hid (Vb w1 (s + 1) #[.int .i64 0, .slice none 0 0] 34) := R.out.keep b1
  clear b1
  obtain ⟨v, hv⟩ : ∃ v, hoV X = v := ⟨_, rfl⟩
  rw [hv]
  by_cases hz : v = 0
  case neg =>
    have hx0 : (v != 0) = true := by simp [hz]
    have CV : Hid (trC X n = v) := by show _ = _; rw [trC, if_neg (by rw [hv]; exact hz), hv]
    have ZV : Hid (trZ X n = []) := by show _ = _; rw [trZ, if_neg (by rw [CV.out]; exact hz)]
    clear hz hv
    have r0 := R1.out.cell 0 rfl
    have r1 := R1.out.cell 1 rfl
    have f0 := R1.out.free 0
    have f1 := R1.out.free 1
    have lt := R1.out.lt
    go_wp2_with fail
    exact bodyPost_ret (v := .agg #[.int .i64 v, .slice none 0 0]) (by simp [results, Tryz.results7, go_sem, r0, r1]) rfl ⟨.slice none 0 0, by rw [CV.out], by rw [ZV.out]; exact Nums.nil _ _, (B1.out.setCell (by have := HSs.out; show w.heap.size ≤ s + 1; omega) _).setCell (by have := HSs.out; show w.heap.size ≤ s + 1; omega) _⟩
  subst hz
  have HO : Hid (hoV X = 0) := hv
  have OK : Hid (pfV X.pol = 0 ∧ 0 ≤ X.clock ∧ X.clock ≤ 1000000) := ho_ok hv
  clear hv
  have q0 := Q1.out.cell 0 rfl
  have q1 := Q1.out.cell 1 rfl
  have q2 := Q1.out.cell 2 rfl
  have q3 := Q1.out.cell 3 rfl
  have q4 := Q1.out.cell 4 rfl
  have q5 := Q1.out.cell 5 rfl
  have q6 := Q1.out.cell 6 rfl
  have q7 := Q1.out.cell 7 rfl
  have q8 := Q1.out.cell 8 rfl
  go_wp2_with fail
  clear q0 q1 q2 q3 q4 q5 q6 q7 q8
  refine (i_watch1 _ _ _ _ _ _ _ _ _ _ _ _ _ _ _ _ _ _ X n _ _ (Vb.new _ _ _) OK.out.2).mono ?_
  rintro e w2 ⟨rfl, b2⟩
  have D2 : Hid (Below w1.heap.size w1 w2) := on (al (Below.refl _ _) _) b2
  have B2 : Hid (Below w.heap.size w w2) := on B1.out D2.out
  have Q2 : Hid (Vb w2 s #[.slice a0 n0 c0, .slice a1 n1 c1, .slice a2 n2 c2, .slice a3 n3 c3, .slice am lm cm, .slice ah lh ch, .int .i64 X.slot, .int .i64 X.left, .int .i64 X.clock] 43) := Q1.out.keep D2.out
  have R2 : Hid (Vb w2 (s + 1) #[.int .i64 0, .slice none 0 0] 34) := R1.out.keep D2.out
  clear b2
  by_cases hn : 0 ≤ n ∧ n ≤ 200 ∧ X.clock + n ≤ 1000000
  case neg =>
    have CV : Hid (trC X n = 3) := by show _ = _; rw [trC, if_pos HO.out, if_neg hn]
    have ZV : Hid (trZ X n = []) := by show _ = _; rw [trZ, if_neg (by rw [CV.out]; decide)]
    rw [wfV, if_neg hn]
    clear hn
    have r0 := R2.out.cell 0 rfl
    have r1 := R2.out.cell 1 rfl
    have f0 := R2.out.free 0
    have f1 := R2.out.free 1
    have lt := R2.out.lt
    go_wp2_with fail
    exact bodyPost_ret (v := .agg #[.int .i64 3, .slice none 0 0]) (by simp [results, Tryz.results7, go_sem, r0, r1]) rfl ⟨.slice none 0 0, by rw [CV.out], by rw [ZV.out]; exact Nums.nil _ _, (B2.out.setCell (by have := HSs.out; show w.heap.size ≤ s + 1; omega) _).setCell (by have := HSs.out; show w.heap.size ≤ s + 1; omega) _⟩
  have CV : Hid (trC X n = 0) := by show _ = _; rw [trC, if_pos HO.out, if_pos hn]
  rw [wfV, if_pos hn]
  obtain ⟨N, rfl⟩ := Int.eq_ofNat_of_zero_le hn.1
  have ZV : Hid (trZ X (N : Int) = trL X.pol X.clock N) := by show _ = _; rw [trZ, if_pos CV.out, Int.toNat_natCast]
  have HN : Hid (N ≤ 200 ∧ X.clock + N ≤ 1000000) := ⟨by have := hn; omega, hn.2.2⟩
  have hN2 : (N : Int) ≤ 200 := hn.2.1
  clear hn
  have TU : Hid ((tS X.pol X.clock).1 = X.slot ∧ (tS X.pol X.clock).2 = X.left) := ho_turn HO.out
  have q0 := Q2.out.cell 0 rfl
  have q1 := Q2.out.cell 1 rfl
  have q2 := Q2.out.cell 2 rfl
  have q3 := Q2.out.cell 3 rfl
  have q4 := Q2.out.cell 4 rfl
  have q5 := Q2.out.cell 5 rfl
  have q6 := Q2.out.cell 6 rfl
  have q7 := Q2.out.cell 7 rfl
  have q8 := Q2.out.cell 8 rfl
  go_wp2_with fail
  clear q0 q1 q2 q3 q4 q5 q6 q7 q8
  refine (i_turnOf _ _ _ _ _ _ _ _ _ _ _ _ _ _ _ _ _ _ X _).mono ?_
  rintro e w3 ⟨rfl, b3⟩
  go_upto_region 9 with fail
  generalize hw4 : w3.alloc (.cells #[.int .i64 X.slot, .int .i64 X.left, .int .i64 X.clock] 67) = w4
  have b4 : Below w3.heap.size w3 w4 := by rw [← hw4]; exact al (Below.refl _ _) _
  have V4 : Hid (Vb w4 w3.heap.size #[.int .i64 X.slot, .int .i64 X.left, .int .i64 X.clock] 67) := by show Vb _ _ _ _; rw [← hw4]; exact Vb.new _ _ _
  have B4 : Hid (Below w.heap.size w w4) := on B2.out (on b3 b4)
  have Q4 : Hid (Vb w4 s #[.slice a0 n0 c0, .slice a1 n1 c1, .slice a2 n2 c2, .slice a3 n3 c3, .slice am lm cm, .slice ah lh ch, .int .i64 X.slot, .int .i64 X.left, .int .i64 X.clock] 43) := (Q2.out.keep b3).keep b4
  have R4 : Hid (Vb w4 (s + 1) #[.int .i64 0, .slice none 0 0] 34) := (R2.out.keep b3).keep b4
  have ZQ : Hid (w.heap.size ≤ w3.heap.size ∧ s + 1 < w3.heap.size ∧ w3.heap.size < w4.heap.size) := ⟨(on B2.out b3).size, (R2.out.keep b3).lt, V4.out.lt⟩
  clear hw4 b3 b4
  generalize w3.heap.size = q at *
  have PL : Hid (IsPairs w a3 n3 c3 X.pol.plan) := D0.out.pol.plan
  have PN : Hid (1 ≤ n3 ∧ n3 ≤ 8 ∧ n3 = X.pol.plan.length) := ⟨by rw [PL.out.len]; exact pf_plan1 _ OK.out.1, by rw [PL.out.len]; exact (pf_plan _ OK.out.1).1, PL.out.len⟩
  obtain ⟨x, hx⟩ : ∃ x, a3 = some x := by
    rcases PL.out with ⟨_, e, _⟩ | ⟨x, e, _⟩
    · have := PN.out; omega
    · exact ⟨x, e⟩
  subst hx
  go_wp2_with fail
  go_loopw [7, 26] (fun y c wr => ∃ j : Nat, j ≤ N ∧ c = .int .i64 (j : Int) ∧ Nums wr w4.heap.size y (trL X.pol X.clock j) ∧ Vb wr q #[.int .i64 (tS X.pol (X.clock + j)).1, .int .i64 (tS X.pol (X.clock + j)).2, .int .i64 (X.clock + j)] 67 ∧ Mq (fun k => k = q) w4 wr) (fun _ c _ => N - (intOf c).toNat)
  case atStart => exact ⟨0, Nat.zero_le _, rfl, Nums.nil _ _, by have := V4.out; rw [← TU.out.1, ← TU.out.2] at this; simpa using this, Mq.refl _ _⟩
  case round =>
    obtain ⟨j, hj, rfl, hY, hV, hM⟩ := hrel
    have HJ : Hid (j ≤ N) := hj
    obtain ⟨ya, yc, hye, _⟩ := hY.shape
    rw [trL_len] at hye
    subst hye
    have HY : Hid (Nums wr w4.heap.size (.slice ya j yc) (trL X.pol X.clock j)) := hY
    have HV : Hid (Vb wr q #[.int .i64 (tS X.pol (X.clock + j)).1, .int .i64 (tS X.pol (X.clock + j)).2, .int .i64 (X.clock + j)] 67) := hV
    have HM : Hid (Mq (fun k => k = q) w4 wr) := hM
    have BB : Hid (Below w.heap.size w wr) := Mq.under B4.out hM fun k e => by have := ZQ.out; omega
    have QR : Hid (Vb wr s #[.slice a0 n0 c0, .slice a1 n1 c1, .slice a2 n2 c2, .slice (some x) n3 c3, .slice am lm cm, .slice ah lh ch, .int .i64 X.slot, .int .i64 X.left, .int .i64 X.clock] 43) := hM.vb Q4.out (by have := ZQ.out; omega)
    clear hY hV hM hj
    by_cases hlt : j < N
    · have hI : (j : Int) < (N : Int) := by omega
      have HLT : Hid (j < N) := hlt
      have TI := tS_in X.pol OK.out.1 (X.clock + j)
      obtain ⟨i, hi⟩ := Int.eq_ofNat_of_zero_le TI.1
      have IN : Hid (i < n3 ∧ 1 ≤ (tS X.pol (X.clock + j)).2 ∧ (tS X.pol (X.clock + j)).2 ≤ 50) := by
        have := PN.out
        have h1 := TI.2.1
        have h2 := TI.2.2
        rw [hi] at h1 h2
        rw [Int.toNat_natCast] at h2
        have h3 := (pf_plan _ OK.out.1).2 i (by omega)
        exact ⟨by omega, h2.1, by omega⟩
      have TG : Hid (trL X.pol X.clock (j + 1) = trL X.pol X.clock j ++ [(X.pol.plan.getD i (0, 0)).1]) := by
        show _ = _
        rw [trL_succ, tG, hi, Int.toNat_natCast]
      have NX : Hid (tS X.pol (X.clock + j + 1) = nxS X.pol ((i : Int), (tS X.pol (X.clock + j)).2)) := by
        show _ = _
        rw [tS_next X.pol OK.out.1 _ (by have := OK.out.2.1; omega), ← hi]
      rw [hi] at HV
      obtain ⟨l, hl⟩ : ∃ l, (tS X.pol (X.clock + j)).2 = l := ⟨_, rfl⟩
      rw [hl] at HV IN NX
      obtain ⟨x', hx', k0, k1⟩ := PL.out.at i IN.out.1
      rw [← Option.some.inj hx'] at k0
      have k0 := cell_keep BB.out k0
      obtain ⟨gz, hgz⟩ : ∃ z, (X.pol.plan.getD i (0, 0)).1 = z := ⟨_, rfl⟩
      rw [hgz] at k0 TG
      have q3 : wr.cell? ⟨s, 3, none⟩ = some (.slice (some x) n3 c3) := QR.out.cell 3 rfl
      have v0 : wr.cell? ⟨q, 0, none⟩ = some (.int .i64 (i : Int)) := HV.out.cell 0 rfl
      have hin : (i : Int) < (n3 : Int) := by have := IN.out.1; omega
      have SZ : Hid (w4.heap.size ≤ wr.heap.size) := HM.out.size
      clear hlt TI hi hl hx' k1 hgz
      go_upto_region 12 with (at_builtin; refine wp_appn _ rfl _ _ rfl w4.heap.size _ _ rfl (HY.out.keep (al (Below.refl _ _) _)) wr.heap.size 1 1 [gz] rfl rfl (one_at (cell_new rfl)) (by rw [trL_len]; have := HN.out; have := HJ.out; omega) (by have := SZ.out; simp; omega) ?_; intro y1 u1 hy1 g1)
      have G1 : World.grownBy _ u1 (Value.slice ya j yc).ownBlock := g1
      have LB : ∀ k, (Value.slice ya j yc).ownBlock = some k → w4.heap.size ≤ k := fun k hk => (HY.out.lt k hk).1
      have Y1 : Hid (Nums u1 w4.heap.size y1 (trL X.pol X.clock (j + 1))) := by show Nums _ _ _ _; rw [TG.out]; exact hy1
      have nq : some q ≠ (Value.slice ya j yc).ownBlock := fun f => by have := LB q f.symm; have := ZQ.out; omega
      have V1 : Hid (Vb u1 q #[.int .i64 (i : Int), .int .i64 l, .int .i64 (X.clock + j)] 67) := (HV.out.push _).gr G1 nq
      have Q1' : Hid (Vb u1 s #[.slice a0 n0 c0, .slice a1 n1 c1, .slice a2 n2 c2, .slice (some x) n3 c3, .slice am lm cm, .slice ah lh ch, .int .i64 X.slot, .int .i64 X.left, .int .i64 X.clock] 43) := (QR.out.push _).gr G1 (fun f => by have := LB s f.symm; have := ZQ.out; omega)
      have B1' : Hid (Below w.heap.size w u1) := (al BB.out _).grown G1 (by have := BB.out.size; simp; omega) (fun k hk => by have := LB k hk; have := ZQ.out; omega)
      have M1 : Hid (Mq (fun k => k = q) w4 u1) := by
        have hm : Mq (fun k => k = q) w4 (wr.alloc (.cells #[.int .i64 gz] 2)) := HM.out.trans (Mq.of (World.grownBy_alloc wr _ none) fun k e => by cases e)
        refine ⟨G1.os.trans hm.os, G1.tape.trans hm.tape, G1.output.trans hm.output, Nat.le_trans hm.size G1.size, fun k hk hn => ?_⟩
        rw [G1.block k (Nat.lt_of_lt_of_le hk hm.size) (fun f => by have := LB k f.symm; omega)]
        exact hm.block k hk hn
      clear hy1 g1 G1 LB nq v0 q3 k0
      have q3 : u1.cell? ⟨s, 3, none⟩ = some (.slice (some x) n3 c3) := Q1'.out.cell 3 rfl
      go_wp2_with fail
      clear q3
      refine (i_pass q i l (X.clock + j) x n3 c3 X.pol.plan w u1 V1.out B1'.out ZQ.out.1 PL.out IN.out.1 PN.out.2.1 IN.out.2 ⟨by have := OK.out.2.1; omega, by have := HN.out; have := HJ.out; omega⟩).mono ?_
      rintro e u2 ⟨rfl, v2, m2⟩
      have V2 : Hid (Vb u2 q #[.int .i64 (tS X.pol (X.clock + (j + 1 : Nat))).1, .int .i64 (tS X.pol (X.clock + (j + 1 : Nat))).2, .int .i64 (X.clock + (j + 1 : Nat))] 67) := by
        show Vb _ _ _ _
        have e : X.clock + ((j + 1 : Nat) : Int) = X.clock + j + 1 := by omega
        rw [e, NX.out]
        unfold nxS
        simp only
        rw [← PN.out.2.2]
        by_cases hl1 : l - 1 = 0
        · rw [if_pos hl1, if_pos hl1] at v2
          rw [if_pos hl1]
          exact v2
        · rw [if_neg hl1, if_neg hl1] at v2
          rw [if_neg hl1]
          exact v2
      have M2 : Hid (Mq (fun k => k = q) w4 u2) := M1.out.trans m2
      have Y2 : Hid (Nums u2 w4.heap.size y1 (trL X.pol X.clock (j + 1))) := m2.nums Y1.out fun k e f => by have := (Y1.out.lt k e).1; have := ZQ.out; omega
      clear v2 m2
      obtain ⟨ya', yc', hye, _⟩ := Y2.out.shape
      rw [trL_len] at hye
      subst hye
      go_wp2_with fail
      go_roundw
      case rel => exact ⟨j + 1, by have := HLT.out; omega, by go_num, Y2.out, V2.out, M2.out⟩
      case measure => have := HLT.out; simp [intOf]; omega
    · have hI : ¬ (j : Int) < (N : Int) := by omega
      obtain rfl : j = N := by have := HJ.out; omega
      have RR : Hid (Vb wr (s + 1) #[.int .i64 0, .slice none 0 0] 34) := HM.out.vb R4.out (by have := ZQ.out; omega)
      have NL : Hid (∀ k, (Value.slice ya j yc).ownBlock = some k → w4.heap.size ≤ k) := fun k e => (HY.out.lt k e).1
      clear hlt
      have r0 := RR.out.cell 0 rfl
      have r1 := RR.out.cell 1 rfl
      have f0 := RR.out.free 0
      have f1 := RR.out.free 1
      have lt := RR.out.lt
      go_wp2_with fail
      refine bodyPost_ret (v := .agg #[.int .i64 0, .slice ya j yc]) (by simp [results, Tryz.results7, go_sem, r0, r1]) rfl ⟨.slice ya j yc, by rw [CV.out], ?_, (BB.out.setCell (by have := HSs.out; show w.heap.size ≤ s + 1; omega) _).setCell (by have := HSs.out; show w.heap.size ≤ s + 1; omega) _⟩
      have ne : (Value.slice ya j yc).ownBlock ≠ some (s + 1) := fun e => by have := NL.out _ e; have := ZQ.out; omega
      rw [ZV.out]
      exact ((HY.out.mono B4.out.size).put ⟨s + 1, 0, none⟩ (.int .i64 0) ne).put ⟨s + 1, 1, none⟩ (.slice ya j yc) ne
end Go.Proofs.YtgacbocibeihiaaGreatDoor
