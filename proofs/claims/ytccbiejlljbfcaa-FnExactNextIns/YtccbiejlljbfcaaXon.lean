/- NextIns, of both. -/
import Derived.Test.YtccbiejlljbfcaaXou
import Derived.Test.YtccbiejlljbfcaaIse
namespace Go.Proofs.Ytccbiejlljbfcaa
open Go.RowKit
set_option linter.unusedVariables false

def nxV (H : Ht) (ps : List (Int × Int)) (zs : List Int) : Value := if seenC H ps zs = 0 then (if plC H ps zs H.pc 4 = 0 then decV (zs.getD (plV H ps zs H.pc 4).toNat 0) else .agg #[.int .i64 (plC H ps zs H.pc 4), .int .i64 0, .int .i64 0, .int .i64 0, .int .i64 0]) else .agg #[.int .i64 (seenC H ps zs), .int .i64 0, .int .i64 0, .int .i64 0, .int .i64 0]
theorem fiveX {v : World} {q : Nat} {t : TypeId} {z0 z1 z2 z3 z4 : Value} (h : Vb v q #[z0, z1, z2, z3, z4] t) (u0 u1 u2 u3 u4 : Value) :
    Vb (((((v.setCell ⟨q, 0, none⟩ u0).setCell ⟨q, 1, none⟩ u1).setCell ⟨q, 2, none⟩ u2).setCell ⟨q, 3, none⟩ u3).setCell ⟨q, 4, none⟩ u4) q #[u0, u1, u2, u3, u4] t ∧ Mq (fun k => k = q) v (((((v.setCell ⟨q, 0, none⟩ u0).setCell ⟨q, 1, none⟩ u1).setCell ⟨q, 2, none⟩ u2).setCell ⟨q, 3, none⟩ u3).setCell ⟨q, 4, none⟩ u4) := by
  have h0 : Vb (v.setCell ⟨q, 0, none⟩ u0) q #[u0, z1, z2, z3, z4] t := h.set 0 u0
  have h1 : Vb _ q #[u0, u1, z2, z3, z4] t := h0.set 1 u1
  have h2 : Vb _ q #[u0, u1, u2, z3, z4] t := h1.set 2 u2
  have h3 : Vb _ q #[u0, u1, u2, u3, z4] t := h2.set 3 u3
  exact ⟨h3.set 4 u4, (((((Mq.refl (fun k => k = q) v).set ⟨q, 0, none⟩ u0 rfl).set ⟨q, 1, none⟩ u1 rfl).set ⟨q, 2, none⟩ u2 rfl).set ⟨q, 3, none⟩ u3 rfl).set ⟨q, 4, none⟩ u4 rfl⟩
theorem dec_five (z : Int) : ∃ d0 d1 d2 d3 d4 : Int, decV z = .agg #[.int .i64 d0, .int .i64 d1, .int .i64 d2, .int .i64 d3, .int .i64 d4] := by
  unfold decV
  split
  · exact ⟨_, _, _, _, _, rfl⟩
  · exact ⟨_, _, _, _, _, rfl⟩
theorem nx_five (H : Ht) (ps : List (Int × Int)) (zs : List Int) : ∃ d0 d1 d2 d3 d4 : Int, nxV H ps zs = .agg #[.int .i64 d0, .int .i64 d1, .int .i64 d2, .int .i64 d3, .int .i64 d4] := by
  unfold nxV
  split
  · split
    · exact dec_five _
    · exact ⟨_, _, _, _, _, rfl⟩
  · exact ⟨_, _, _, _, _, rfl⟩
/-- What may be run lies in the memory. -/
theorem pl_run {H : Ht} {ps : List (Int × Int)} {zs : List Int} {p : Nat} {x : Int} (s : Sn H ps zs p) (h : plC H ps zs x 4 = 0) : ∃ a : Nat, plV H ps zs x 4 = (a : Int) ∧ a < p * 8 := by
  by_cases h1 : spC H ps = 0
  · unfold plC at h
    unfold plV
    rw [if_pos h1] at h ⊢
    by_cases h2 : wkC (spP H ps zs) x 4 = 0
    · rw [if_pos h2] at h ⊢
      unfold behC at h
      unfold behV
      by_cases h3 : wkV (spP H ps zs) x 4 / 8 = 7
      · rw [if_pos h3] at h
        exact absurd h (by decide)
      · rw [if_neg h3] at h ⊢
        generalize wkV (spP H ps zs) x 4 = y at *
        have hg : goesB ps y 4 = true := by
          cases hg : goesB ps y 4
          · unfold wkC at h
            rw [hg] at h
            exact absurd h (by decide)
          · rfl
        have e : wkV ps y 4 = goesTo ps y := by unfold wkV; rw [hg]; rfl
        obtain ⟨h0, h63, h4, h5⟩ := goes_in s.ok hg
        have h6 := s.to (y / 8).toNat (by omega)
        rw [e]
        unfold goesTo
        refine ⟨((ps.getD (y / 8).toNat (0, 0)).1 * 8 + y % 8).toNat, by omega, by omega⟩
    · rw [if_neg h2] at h
      exact absurd h h2
  · unfold plC at h
    rw [if_neg h1] at h
    exact absurd h h1
set_option maxRecDepth 20000 in
set_option maxHeartbeats 8000000 in
theorem i_nextIns (r c i o : Value) (H : Ht) (pa : Option Addr) (pn pc : Nat) (ps : List (Int × Int)) (ma : Option Addr) (mn mc : Nat) (zs : List Int) (b : Nat) (w : World) (h : Hm w b r c i o H) (hP : Prs 64 w b (.slice pa pn pc) ps) (hl : ps.length ≤ 1048576) (hM : Nums w b (.slice ma mn mc) zs) (hm : zs.length ≤ 1048576) :
    Calls Try.prog 26 #[.agg #[r, .int .i64 H.pc, c, .bool H.halted, .bool H.waiting, .bool H.rung, .int .i64 H.done, i, o], .slice pa pn pc, .slice ma mn mc] w fun e w' => e = .returned (nxV H ps zs) ∧ Below w.heap.size w w' := by
  obtain ⟨R, hR⟩ : ∃ R, nxV H ps zs = R := ⟨_, rfl⟩
  have HR : Hid (nxV H ps zs = R) := hR
  rw [hR]
  clear hR
  have HM : Hid (Hm w b r c i o H) := h
  have HP : Hid (Prs 64 w b (.slice pa pn pc) ps) := hP
  have HZ : Hid (Nums w b (.slice ma mn mc) zs) := hM
  have HL : Hid (ps.length ≤ 1048576 ∧ zs.length ≤ 1048576) := ⟨hl, hm⟩
  obtain ⟨a0, k0, rfl, _⟩ := h.r.shape
  obtain ⟨a1, k1, rfl, _⟩ := h.c.shape
  obtain ⟨a2, k2, rfl, _⟩ := h.i.shape
  obtain ⟨a3, k3, rfl, _⟩ := h.o.shape
  clear h hP hl hM hm
  generalize hW : (w.alloc (.cells #[.slice a0 H.regs.length k0, .int .i64 H.pc, .slice a1 H.csr.length k1, .bool H.halted, .bool H.waiting, .bool H.rung, .int .i64 H.done, .slice a2 H.inn.length k2, .slice a3 H.out.length k3] 32)).alloc (.cells #[.int .i64 0, .int .i64 0, .int .i64 0, .int .i64 0, .int .i64 0] 53) = W
  have B0 : Hid (Below w.heap.size w W) := by show Below _ _ _; rw [← hW]; exact al (al (Below.refl _ _) _) _
  obtain ⟨s, hS⟩ : ∃ s, w.heap.size = s := ⟨_, rfl⟩
  have HS : Hid (w.heap.size = s) := hS
  have VA : Hid (Vb W s #[.slice a0 H.regs.length k0, .int .i64 H.pc, .slice a1 H.csr.length k1, .bool H.halted, .bool H.waiting, .bool H.rung, .int .i64 H.done, .slice a2 H.inn.length k2, .slice a3 H.out.length k3] 32) := by
    show Vb _ _ _ _; rw [← hW, ← hS]; exact (Vb.new _ _ _).push _
  have VR : Hid (Vb W (s + 1) #[.int .i64 0, .int .i64 0, .int .i64 0, .int .i64 0, .int .i64 0] 53) := by
    have z1 : s + 1 = (w.alloc (.cells #[.slice a0 H.regs.length k0, .int .i64 H.pc, .slice a1 H.csr.length k1, .bool H.halted, .bool H.waiting, .bool H.rung, .int .i64 H.done, .slice a2 H.inn.length k2, .slice a3 H.out.length k3] 32)).heap.size := by rw [← hS]; simp
    show Vb _ _ _ _; rw [← hW, z1]; exact Vb.new _ _ _
  have q0 := VA.out.cell 0 rfl
  have q1 := VA.out.cell 1 rfl
  have q2 := VA.out.cell 2 rfl
  have q3 := VA.out.cell 3 rfl
  have q4 := VA.out.cell 4 rfl
  have q5 := VA.out.cell 5 rfl
  have q6 := VA.out.cell 6 rfl
  have q7 := VA.out.cell 7 rfl
  have q8 := VA.out.cell 8 rfl
  go_enter Try.func26, Try.ntmps26
  go_wp2_with fail
  clear hW hS q0 q1 q2 q3 q4 q5 q6 q7 q8
  refine (i_seen _ _ _ _ H pa pn pc ps ma mn mc zs b W (HM.out.keep B0.out) (HP.out.keep B0.out) HL.out.1 (HZ.out.keep B0.out) HL.out.2).mono ?_
  rintro e w1 ⟨rfl, b1⟩
  have B1 : Hid (Below w.heap.size w w1) := on B0.out b1
  have VA1 : Hid (Vb w1 s #[.slice a0 H.regs.length k0, .int .i64 H.pc, .slice a1 H.csr.length k1, .bool H.halted, .bool H.waiting, .bool H.rung, .int .i64 H.done, .slice a2 H.inn.length k2, .slice a3 H.out.length k3] 32) := VA.out.keep b1
  have VR1 : Hid (Vb w1 (s + 1) #[.int .i64 0, .int .i64 0, .int .i64 0, .int .i64 0, .int .i64 0] 53) := VR.out.keep b1
  have M1 : Hid (Hm w1 b _ _ _ _ H) := HM.out.keep B1.out
  have P1 : Hid (Prs 64 w1 b (.slice pa pn pc) ps) := HP.out.keep B1.out
  have Z1 : Hid (Nums w1 b (.slice ma mn mc) zs) := HZ.out.keep B1.out
  have LW : Hid (w.heap.size ≤ w1.heap.size) := B1.out.size
  clear b1 VA VR HM HP HZ
  by_cases hf : seenC H ps zs = 0
  case neg =>
    have HE : Hid (R = .agg #[.int .i64 (seenC H ps zs), .int .i64 0, .int .i64 0, .int .i64 0, .int .i64 0]) := by show _ = _; rw [← HR.out]; exact if_neg hf
    generalize seenC H ps zs = f at *
    have p0 := VR1.out.cell 0 rfl
    have f0 := VR1.out.free 0
    have p1 := VR1.out.cell 1 rfl
    have f1 := VR1.out.free 1
    have p2 := VR1.out.cell 2 rfl
    have f2 := VR1.out.free 2
    have p3 := VR1.out.cell 3 rfl
    have f3 := VR1.out.free 3
    have p4 := VR1.out.cell 4 rfl
    have f4 := VR1.out.free 4
    go_wp2_with fail
    have NN : Hid (_ ∧ _) := fiveX VR1.out (.int .i64 f) (.int .i64 0) (.int .i64 0) (.int .i64 0) (.int .i64 0)
    clear p0 f0 p1 f1 p2 f2 p3 f3 p4 f4
    generalize hVV : (((((w1.setCell ⟨s + 1, 0, none⟩ (.int .i64 f)).setCell ⟨s + 1, 1, none⟩ (.int .i64 0)).setCell ⟨s + 1, 2, none⟩ (.int .i64 0)).setCell ⟨s + 1, 3, none⟩ (.int .i64 0)).setCell ⟨s + 1, 4, none⟩ (.int .i64 0)) = V at *
    have x0 := NN.out.1.cell 0 rfl
    have x1 := NN.out.1.cell 1 rfl
    have x2 := NN.out.1.cell 2 rfl
    have x3 := NN.out.1.cell 3 rfl
    have x4 := NN.out.1.cell 4 rfl
    exact bodyPost_ret (v := .agg #[.int .i64 f, .int .i64 0, .int .i64 0, .int .i64 0, .int .i64 0]) (by simp [results, Try.results26, go_sem, x0, x1, x2, x3, x4]) rfl
      ⟨by rw [HE.out], Mq.under B1.out NN.out.2 fun k e => by have := HS.out; omega⟩
  have HF : Hid (seenC H ps zs = 0) := hf
  rw [hf]
  obtain ⟨p, sn⟩ := seen_ok hf
  have SN : Hid (Sn H ps zs p) := sn
  obtain rfl : mn = p * 8 := by have := Z1.out.len; have := sn.zl; omega
  obtain ⟨ga, gc, hv, -, -, hg⟩ := Z1.out.shape
  obtain ⟨gm, hg⟩ := hg (by have := sn.zl; have := sn.p1; omega)
  simp only [Value.slice.injEq] at hv
  obtain ⟨hv1, -, -⟩ := hv
  rw [hg] at hv1
  subst hv1
  clear hg
  obtain ⟨pa', pc', hv, -, -, hg⟩ := P1.out.shape
  obtain ⟨pg, hg⟩ := hg (by have := sn.l8; omega)
  simp only [Value.slice.injEq] at hv
  obtain ⟨hv1, hv2, -⟩ := hv
  rw [hg] at hv1
  subst hv1
  rw [sn.l8] at hv2
  subst hv2
  clear hg hf sn
  have HE : Hid (R = if plC H ps zs H.pc 4 = 0 then decV (zs.getD (plV H ps zs H.pc 4).toNat 0) else .agg #[.int .i64 (plC H ps zs H.pc 4), .int .i64 0, .int .i64 0, .int .i64 0, .int .i64 0]) := by show _ = _; rw [← HR.out]; exact if_pos HF.out
  have PR : Hid (plC H ps zs H.pc 4 = 0 → ∃ a : Nat, plV H ps zs H.pc 4 = (a : Int) ∧ a < p * 8) := fun e => pl_run SN.out e
  have q0 := VA1.out.cell 0 rfl
  have q1 := VA1.out.cell 1 rfl
  have q2 := VA1.out.cell 2 rfl
  have q3 := VA1.out.cell 3 rfl
  have q4 := VA1.out.cell 4 rfl
  have q5 := VA1.out.cell 5 rfl
  have q6 := VA1.out.cell 6 rfl
  have q7 := VA1.out.cell 7 rfl
  have q8 := VA1.out.cell 8 rfl
  go_wp2_with fail
  clear q0 q1 q2 q3 q4 q5 q6 q7 q8
  refine (i_runner _ _ _ _ H (some ⟨pg, 0, none⟩) 8 pc gm (p * 8) mc zs b p w1 M1.out SN.out.hok Z1.out SN.out.zl SN.out.p24 SN.out.p1).mono ?_
  rintro e w2 ⟨i2, o2, g, rfl, mi, mo, ap, gs, b2⟩
  obtain ⟨xa, xk, rfl, _⟩ := mi.shape
  obtain ⟨ya, yk, rfl, _⟩ := mo.shape
  generalize hxn : H.inn.length = xn at *
  generalize hyn : H.out.length = yn at *
  have hst := mcr_store H xa xn xk ya yn yk (some ⟨pg, 0, none⟩) 8 pc (some ⟨g, 0, none⟩) p p (-1) (-1) w2
  have hsz := mcr_size H (.slice xa xn xk) (.slice ya yn yk) (.slice (some ⟨pg, 0, none⟩) 8 pc) (.slice (some ⟨g, 0, none⟩) p p) (-1) (-1)
  have GS : Hid (Pags w2 w1.heap.size (.slice (some ⟨g, 0, none⟩) p p) p zs) := gs
  have B2 : Hid (Below w.heap.size w w2) := on B1.out b2
  have VR2 : Hid (Vb w2 (s + 1) #[.int .i64 0, .int .i64 0, .int .i64 0, .int .i64 0, .int .i64 0] 53) := VR1.out.keep b2
  have P2 : Hid (Prs 64 w2 b (.slice (some ⟨pg, 0, none⟩) 8 pc) ps) := P1.out.keep b2
  clear mi mo ap b2 hxn hyn gs
  go_upto_region 5 with fail
  generalize hW3 : w2.alloc (.cells (mcr H (.slice xa xn xk) (.slice ya yn yk) (.slice (some ⟨pg, 0, none⟩) 8 pc) (.slice (some ⟨g, 0, none⟩) p p) (-1) (-1)) 77) = W3
  obtain ⟨m, hm⟩ : ∃ m, w2.heap.size = m := ⟨_, rfl⟩
  rw [hm]
  have V3 : Hid (Vb W3 m (mcr H (.slice xa xn xk) (.slice ya yn yk) (.slice (some ⟨pg, 0, none⟩) 8 pc) (.slice (some ⟨g, 0, none⟩) p p) (-1) (-1)) 77) := by show Vb _ _ _ _; rw [← hW3, ← hm]; exact Vb.new _ _ _
  have bb : Below w2.heap.size w2 W3 := by rw [← hW3]; exact al (Below.refl _ _) _
  have B3 : Hid (Below w.heap.size w W3) := on B2.out bb
  have VR3 : Hid (Vb W3 (s + 1) #[.int .i64 0, .int .i64 0, .int .i64 0, .int .i64 0, .int .i64 0] 53) := VR2.out.keep bb
  have P3 : Hid (Prs 64 W3 0 (.slice (some ⟨pg, 0, none⟩) 8 pc) ps) := (P2.out.keep bb).mono (Nat.zero_le _)
  have G3 : Hid (Pags W3 0 (.slice (some ⟨g, 0, none⟩) p p) p zs) := (GS.out.keep bb).mono (Nat.zero_le _)
  have L3 : Hid (w.heap.size ≤ W3.heap.size) := B3.out.size
  clear hst hsz hW3 hm bb
  have pc16 : W3.cell? ⟨m, 16, none⟩ = some (.int .i64 H.pc) := V3.out.cell 16 rfl
  go_wp2_with fail
  clear pc16
  refine (i_place m (.slice xa xn xk) (.slice ya yn yk) H pg pc ps g p zs (-1) (-1) 0 W3 V3.out P3.out G3.out SN.out H.pc 4 rfl).mono ?_
  rintro e w4 ⟨rfl, b4⟩
  obtain ⟨d, hd⟩ : ∃ d, plC H ps zs H.pc 4 = d := ⟨_, rfl⟩
  obtain ⟨v, hv⟩ : ∃ v, plV H ps zs H.pc 4 = v := ⟨_, rfl⟩
  rw [hd, hv] at HE PR ⊢
  clear hd hv
  go_upto_region 6 with fail
  generalize hW5 : w4.alloc (.cells #[.int .i64 d, .int .i64 v] 46) = W5
  obtain ⟨n, hn⟩ : ∃ n, w4.heap.size = n := ⟨_, rfl⟩
  rw [hn]
  have VN : Hid (Vb W5 n #[.int .i64 d, .int .i64 v] 46) := by show Vb _ _ _ _; rw [← hW5, ← hn]; exact Vb.new _ _ _
  have bb : Below W3.heap.size W3 W5 := by rw [← hW5]; exact al b4 _
  have B5 : Hid (Below w.heap.size w W5) := on B3.out bb
  have VR5 : Hid (Vb W5 (s + 1) #[.int .i64 0, .int .i64 0, .int .i64 0, .int .i64 0, .int .i64 0] 53) := VR3.out.keep bb
  have V5 : Hid (Vb W5 m (mcr H (.slice xa xn xk) (.slice ya yn yk) (.slice (some ⟨pg, 0, none⟩) 8 pc) (.slice (some ⟨g, 0, none⟩) p p) (-1) (-1)) 77) := V3.out.keep bb
  have G5 : Hid (Pags W5 0 (.slice (some ⟨g, 0, none⟩) p p) p zs) := G3.out.keep bb
  clear hW5 hn b4 bb
  have n0 := VN.out.cell 0 rfl
  have n1 := VN.out.cell 1 rfl
  by_cases hd0 : d = 0
  case neg =>
    have hdb : (d != 0) = true := by simpa using hd0
    have HE2 : Hid (R = .agg #[.int .i64 d, .int .i64 0, .int .i64 0, .int .i64 0, .int .i64 0]) := by show _ = _; rw [HE.out, if_neg hd0]
    clear hd0
    have p0 := VR5.out.cell 0 rfl
    have f0 := VR5.out.free 0
    have p1 := VR5.out.cell 1 rfl
    have f1 := VR5.out.free 1
    have p2 := VR5.out.cell 2 rfl
    have f2 := VR5.out.free 2
    have p3 := VR5.out.cell 3 rfl
    have f3 := VR5.out.free 3
    have p4 := VR5.out.cell 4 rfl
    have f4 := VR5.out.free 4
    go_wp2_with fail
    have NN : Hid (_ ∧ _) := fiveX VR5.out (.int .i64 d) (.int .i64 0) (.int .i64 0) (.int .i64 0) (.int .i64 0)
    clear n0 n1 p0 f0 p1 f1 p2 f2 p3 f3 p4 f4
    generalize hVV : (((((W5.setCell ⟨s + 1, 0, none⟩ (.int .i64 d)).setCell ⟨s + 1, 1, none⟩ (.int .i64 0)).setCell ⟨s + 1, 2, none⟩ (.int .i64 0)).setCell ⟨s + 1, 3, none⟩ (.int .i64 0)).setCell ⟨s + 1, 4, none⟩ (.int .i64 0)) = V at *
    have x0 := NN.out.1.cell 0 rfl
    have x1 := NN.out.1.cell 1 rfl
    have x2 := NN.out.1.cell 2 rfl
    have x3 := NN.out.1.cell 3 rfl
    have x4 := NN.out.1.cell 4 rfl
    exact bodyPost_ret (v := .agg #[.int .i64 d, .int .i64 0, .int .i64 0, .int .i64 0, .int .i64 0]) (by simp [results, Try.results26, go_sem, x0, x1, x2, x3, x4]) rfl
      ⟨by rw [HE2.out], Mq.under B5.out NN.out.2 fun k e => by have := HS.out; omega⟩
  subst hd0
  obtain ⟨a, rfl, ha⟩ := PR.out rfl
  have HE2 : Hid (R = decV (zs.getD a 0)) := by show _ = _; rw [HE.out, if_pos rfl]; rfl
  have HA : Hid (a < p * 8) := ha
  have WA := i_wordAt m _ _ H _ g p zs (-1) (-1) 0 W5 V5.out G5.out a HA.out SN.out.p24
  obtain ⟨z, hz⟩ : ∃ z, zs.getD a 0 = z := ⟨_, rfl⟩
  rw [hz] at HE2 WA
  clear HE PR HR ha hz
  go_wp2_with (go_at_call 43; refine WA.mono ?_; rintro e z ⟨rfl, hz⟩; rw [hz]; clear hz z)
  clear n0 n1 WA
  refine (impl_decode z W5).mono ?_
  rintro e w6 ⟨rfl, b6⟩
  have B6 : Hid (Below w.heap.size w w6) := on B5.out b6
  have VR6 : Hid (Vb w6 (s + 1) #[.int .i64 0, .int .i64 0, .int .i64 0, .int .i64 0, .int .i64 0] 53) := VR5.out.keep b6
  obtain ⟨d0, d1, d2, d3, d4, hd5⟩ := dec_five z
  rw [hd5] at HE2 ⊢
  clear b6 hd5
  have p0 := VR6.out.cell 0 rfl
  have f0 := VR6.out.free 0
  have p1 := VR6.out.cell 1 rfl
  have f1 := VR6.out.free 1
  have p2 := VR6.out.cell 2 rfl
  have f2 := VR6.out.free 2
  have p3 := VR6.out.cell 3 rfl
  have f3 := VR6.out.free 3
  have p4 := VR6.out.cell 4 rfl
  have f4 := VR6.out.free 4
  go_wp2_with fail
  have NN : Hid (_ ∧ _) := fiveX VR6.out (.int .i64 d0) (.int .i64 d1) (.int .i64 d2) (.int .i64 d3) (.int .i64 d4)
  clear p0 f0 p1 f1 p2 f2 p3 f3 p4 f4
  generalize hVV : (((((w6.setCell ⟨s + 1, 0, none⟩ (.int .i64 d0)).setCell ⟨s + 1, 1, none⟩ (.int .i64 d1)).setCell ⟨s + 1, 2, none⟩ (.int .i64 d2)).setCell ⟨s + 1, 3, none⟩ (.int .i64 d3)).setCell ⟨s + 1, 4, none⟩ (.int .i64 d4)) = V at *
  have x0 := NN.out.1.cell 0 rfl
  have x1 := NN.out.1.cell 1 rfl
  have x2 := NN.out.1.cell 2 rfl
  have x3 := NN.out.1.cell 3 rfl
  have x4 := NN.out.1.cell 4 rfl
  exact bodyPost_ret (v := .agg #[.int .i64 d0, .int .i64 d1, .int .i64 d2, .int .i64 d3, .int .i64 d4]) (by simp [results, Try.results26, go_sem, x0, x1, x2, x3, x4]) rfl
    ⟨by rw [HE2.out], Mq.under B6.out NN.out.2 fun k e => by have := HS.out; omega⟩

set_option maxRecDepth 20000 in
set_option maxHeartbeats 8000000 in
theorem s_nextIns (r c i o : Value) (H : Ht) (pa : Option Addr) (pn pc : Nat) (ps : List (Int × Int)) (ma : Option Addr) (mn mc : Nat) (zs : List Int) (b : Nat) (w : World) (h : Hm w b r c i o H) (hP : Prs 64 w b (.slice pa pn pc) ps) (hl : ps.length ≤ 1048576) (hM : Nums w b (.slice ma mn mc) zs) (hm : zs.length ≤ 1048576) :
    Calls Try.prog 25 #[.agg #[r, .int .i64 H.pc, c, .bool H.halted, .bool H.waiting, .bool H.rung, .int .i64 H.done, i, o], .slice pa pn pc, .slice ma mn mc] w fun e w' => e = .returned (nxV H ps zs) ∧ Below w.heap.size w w' := by
  obtain ⟨R, hR⟩ : ∃ R, nxV H ps zs = R := ⟨_, rfl⟩
  have HR : Hid (nxV H ps zs = R) := hR
  rw [hR]
  clear hR
  have HM : Hid (Hm w b r c i o H) := h
  have HP : Hid (Prs 64 w b (.slice pa pn pc) ps) := hP
  have HZ : Hid (Nums w b (.slice ma mn mc) zs) := hM
  have HL : Hid (ps.length ≤ 1048576 ∧ zs.length ≤ 1048576) := ⟨hl, hm⟩
  obtain ⟨a0, k0, rfl, _⟩ := h.r.shape
  obtain ⟨a1, k1, rfl, _⟩ := h.c.shape
  obtain ⟨a2, k2, rfl, _⟩ := h.i.shape
  obtain ⟨a3, k3, rfl, _⟩ := h.o.shape
  clear h hP hl hM hm
  generalize hW : (w.alloc (.cells #[.slice a0 H.regs.length k0, .int .i64 H.pc, .slice a1 H.csr.length k1, .bool H.halted, .bool H.waiting, .bool H.rung, .int .i64 H.done, .slice a2 H.inn.length k2, .slice a3 H.out.length k3] 32)).alloc (.cells #[.int .i64 0, .int .i64 0, .int .i64 0, .int .i64 0, .int .i64 0] 53) = W
  have B0 : Hid (Below w.heap.size w W) := by show Below _ _ _; rw [← hW]; exact al (al (Below.refl _ _) _) _
  obtain ⟨s, hS⟩ : ∃ s, w.heap.size = s := ⟨_, rfl⟩
  have HS : Hid (w.heap.size = s) := hS
  have VA : Hid (Vb W s #[.slice a0 H.regs.length k0, .int .i64 H.pc, .slice a1 H.csr.length k1, .bool H.halted, .bool H.waiting, .bool H.rung, .int .i64 H.done, .slice a2 H.inn.length k2, .slice a3 H.out.length k3] 32) := by
    show Vb _ _ _ _; rw [← hW, ← hS]; exact (Vb.new _ _ _).push _
  have VR : Hid (Vb W (s + 1) #[.int .i64 0, .int .i64 0, .int .i64 0, .int .i64 0, .int .i64 0] 53) := by
    have z1 : s + 1 = (w.alloc (.cells #[.slice a0 H.regs.length k0, .int .i64 H.pc, .slice a1 H.csr.length k1, .bool H.halted, .bool H.waiting, .bool H.rung, .int .i64 H.done, .slice a2 H.inn.length k2, .slice a3 H.out.length k3] 32)).heap.size := by rw [← hS]; simp
    show Vb _ _ _ _; rw [← hW, z1]; exact Vb.new _ _ _
  have q0 := VA.out.cell 0 rfl
  have q1 := VA.out.cell 1 rfl
  have q2 := VA.out.cell 2 rfl
  have q3 := VA.out.cell 3 rfl
  have q4 := VA.out.cell 4 rfl
  have q5 := VA.out.cell 5 rfl
  have q6 := VA.out.cell 6 rfl
  have q7 := VA.out.cell 7 rfl
  have q8 := VA.out.cell 8 rfl
  go_enter Try.func25, Try.ntmps25
  go_wp2_with fail
  clear hW hS q0 q1 q2 q3 q4 q5 q6 q7 q8
  refine (s_asked s _ _ _ _ H pa pn pc ps ma mn mc zs b W (HM.out.keep B0.out) VA.out (HP.out.keep B0.out) HL.out.1 (HZ.out.keep B0.out) HL.out.2).mono ?_
  rintro e w1 ⟨rfl, hw1⟩
  have b1 : Below W.heap.size W w1 := by rw [hw1]; exact Below.refl _ _
  clear hw1
  have B1 : Hid (Below w.heap.size w w1) := on B0.out b1
  have VA1 : Hid (Vb w1 s #[.slice a0 H.regs.length k0, .int .i64 H.pc, .slice a1 H.csr.length k1, .bool H.halted, .bool H.waiting, .bool H.rung, .int .i64 H.done, .slice a2 H.inn.length k2, .slice a3 H.out.length k3] 32) := VA.out.keep b1
  have VR1 : Hid (Vb w1 (s + 1) #[.int .i64 0, .int .i64 0, .int .i64 0, .int .i64 0, .int .i64 0] 53) := VR.out.keep b1
  have M1 : Hid (Hm w1 b _ _ _ _ H) := HM.out.keep B1.out
  have P1 : Hid (Prs 64 w1 b (.slice pa pn pc) ps) := HP.out.keep B1.out
  have Z1 : Hid (Nums w1 b (.slice ma mn mc) zs) := HZ.out.keep B1.out
  have LW : Hid (w.heap.size ≤ w1.heap.size) := B1.out.size
  clear b1 VA VR HM HP HZ
  by_cases hf : seenC H ps zs = 0
  case neg =>
    have HE : Hid (R = .agg #[.int .i64 (seenC H ps zs), .int .i64 0, .int .i64 0, .int .i64 0, .int .i64 0]) := by show _ = _; rw [← HR.out]; exact if_neg hf
    generalize seenC H ps zs = f at *
    have p0 := VR1.out.cell 0 rfl
    have f0 := VR1.out.free 0
    have p1 := VR1.out.cell 1 rfl
    have f1 := VR1.out.free 1
    have p2 := VR1.out.cell 2 rfl
    have f2 := VR1.out.free 2
    have p3 := VR1.out.cell 3 rfl
    have f3 := VR1.out.free 3
    have p4 := VR1.out.cell 4 rfl
    have f4 := VR1.out.free 4
    go_wp2_with fail
    have NN : Hid (_ ∧ _) := fiveX VR1.out (.int .i64 f) (.int .i64 0) (.int .i64 0) (.int .i64 0) (.int .i64 0)
    clear p0 f0 p1 f1 p2 f2 p3 f3 p4 f4
    generalize hVV : (((((w1.setCell ⟨s + 1, 0, none⟩ (.int .i64 f)).setCell ⟨s + 1, 1, none⟩ (.int .i64 0)).setCell ⟨s + 1, 2, none⟩ (.int .i64 0)).setCell ⟨s + 1, 3, none⟩ (.int .i64 0)).setCell ⟨s + 1, 4, none⟩ (.int .i64 0)) = V at *
    have x0 := NN.out.1.cell 0 rfl
    have x1 := NN.out.1.cell 1 rfl
    have x2 := NN.out.1.cell 2 rfl
    have x3 := NN.out.1.cell 3 rfl
    have x4 := NN.out.1.cell 4 rfl
    exact bodyPost_ret (v := .agg #[.int .i64 f, .int .i64 0, .int .i64 0, .int .i64 0, .int .i64 0]) (by simp [results, Try.results25, go_sem, x0, x1, x2, x3, x4]) rfl
      ⟨by rw [HE.out], Mq.under B1.out NN.out.2 fun k e => by have := HS.out; omega⟩
  have HF : Hid (seenC H ps zs = 0) := hf
  rw [hf]
  obtain ⟨p, sn⟩ := seen_ok hf
  have SN : Hid (Sn H ps zs p) := sn
  obtain rfl : mn = p * 8 := by have := Z1.out.len; have := sn.zl; omega
  obtain ⟨ga, gc, hv, -, -, hg⟩ := Z1.out.shape
  obtain ⟨gm, hg⟩ := hg (by have := sn.zl; have := sn.p1; omega)
  simp only [Value.slice.injEq] at hv
  obtain ⟨hv1, -, -⟩ := hv
  rw [hg] at hv1
  subst hv1
  clear hg
  obtain ⟨pa', pc', hv, -, -, hg⟩ := P1.out.shape
  obtain ⟨pg, hg⟩ := hg (by have := sn.l8; omega)
  simp only [Value.slice.injEq] at hv
  obtain ⟨hv1, hv2, -⟩ := hv
  rw [hg] at hv1
  subst hv1
  rw [sn.l8] at hv2
  subst hv2
  clear hg hf sn
  have HE : Hid (R = if plC H ps zs H.pc 4 = 0 then decV (zs.getD (plV H ps zs H.pc 4).toNat 0) else .agg #[.int .i64 (plC H ps zs H.pc 4), .int .i64 0, .int .i64 0, .int .i64 0, .int .i64 0]) := by show _ = _; rw [← HR.out]; exact if_pos HF.out
  have PR : Hid (plC H ps zs H.pc 4 = 0 → ∃ a : Nat, plV H ps zs H.pc 4 = (a : Int) ∧ a < p * 8) := fun e => pl_run SN.out e
  have q0 := VA1.out.cell 0 rfl
  have q1 := VA1.out.cell 1 rfl
  have q2 := VA1.out.cell 2 rfl
  have q3 := VA1.out.cell 3 rfl
  have q4 := VA1.out.cell 4 rfl
  have q5 := VA1.out.cell 5 rfl
  have q6 := VA1.out.cell 6 rfl
  have q7 := VA1.out.cell 7 rfl
  have q8 := VA1.out.cell 8 rfl
  have sl : s < w1.heap.size := VA1.out.lt
  go_wp2_with fail
  clear sl
  clear q0 q1 q2 q3 q4 q5 q6 q7 q8
  generalize hW3 : w1.alloc (.cells #[.slice (some ⟨pg, 0, none⟩) 8 pc, .slice (some ⟨gm, 0, none⟩) (p * 8) mc, .int .i64 0, .slice a0 H.regs.length k0, .int .i64 H.pc, .slice a1 H.csr.length k1, .bool H.halted, .bool H.waiting, .bool H.rung, .int .i64 H.done, .slice a2 H.inn.length k2, .slice a3 H.out.length k3, .int .i64 0] 62) = W3
  obtain ⟨m, hm⟩ : ∃ m, w1.heap.size = m := ⟨_, rfl⟩
  rw [hm]
  have V3 : Hid (Vb W3 m #[.slice (some ⟨pg, 0, none⟩) 8 pc, .slice (some ⟨gm, 0, none⟩) (p * 8) mc, .int .i64 0, .slice a0 H.regs.length k0, .int .i64 H.pc, .slice a1 H.csr.length k1, .bool H.halted, .bool H.waiting, .bool H.rung, .int .i64 H.done, .slice a2 H.inn.length k2, .slice a3 H.out.length k3, .int .i64 0] 62) := by show Vb _ _ _ _; rw [← hW3, ← hm]; exact Vb.new _ _ _
  have bb : Below w1.heap.size w1 W3 := by rw [← hW3]; exact al (Below.refl _ _) _
  have B3 : Hid (Below w.heap.size w W3) := on B1.out bb
  have VR3 : Hid (Vb W3 (s + 1) #[.int .i64 0, .int .i64 0, .int .i64 0, .int .i64 0, .int .i64 0] 53) := VR1.out.keep bb
  have P3 : Hid (Prs 64 W3 b (.slice (some ⟨pg, 0, none⟩) 8 pc) ps) := P1.out.keep bb
  have Z3 : Hid (Nums W3 b (.slice (some ⟨gm, 0, none⟩) (p * 8) mc) zs) := Z1.out.keep bb
  have C3 : Hid (Nums W3 b (.slice a1 H.csr.length k1) H.csr) := M1.out.c.keep bb
  have L3 : Hid (w.heap.size ≤ W3.heap.size) := B3.out.size
  clear hW3 hm bb
  refine (s_place m _ _ _ _ H pg pc ps gm p mc zs 0 0 b W3 V3.out C3.out P3.out Z3.out SN.out H.pc 4 rfl).mono ?_
  rintro e w4 ⟨rfl, b4⟩
  have B4 : Hid (Below w.heap.size w w4) := on B3.out b4
  have VR4 : Hid (Vb w4 (s + 1) #[.int .i64 0, .int .i64 0, .int .i64 0, .int .i64 0, .int .i64 0] 53) := VR3.out.keep b4
  have Z4 : Hid (Nums w4 b (.slice (some ⟨gm, 0, none⟩) (p * 8) mc) zs) := Z3.out.keep b4
  clear b4
  obtain ⟨d, hd⟩ : ∃ d, plC H ps zs H.pc 4 = d := ⟨_, rfl⟩
  obtain ⟨v, hv⟩ : ∃ v, plV H ps zs H.pc 4 = v := ⟨_, rfl⟩
  rw [hd, hv] at HE PR ⊢
  clear hd hv
  by_cases hd0 : d = 0
  case neg =>
    have hdb : (d != 0) = true := by simpa using hd0
    have HE2 : Hid (R = .agg #[.int .i64 d, .int .i64 0, .int .i64 0, .int .i64 0, .int .i64 0]) := by show _ = _; rw [HE.out, if_neg hd0]
    clear hd0
    have p0 := VR4.out.cell 0 rfl
    have f0 := VR4.out.free 0
    have p1 := VR4.out.cell 1 rfl
    have f1 := VR4.out.free 1
    have p2 := VR4.out.cell 2 rfl
    have f2 := VR4.out.free 2
    have p3 := VR4.out.cell 3 rfl
    have f3 := VR4.out.free 3
    have p4 := VR4.out.cell 4 rfl
    have f4 := VR4.out.free 4
    go_wp2_with fail
    have NN : Hid (_ ∧ _) := fiveX VR4.out (.int .i64 d) (.int .i64 0) (.int .i64 0) (.int .i64 0) (.int .i64 0)
    clear p0 f0 p1 f1 p2 f2 p3 f3 p4 f4
    generalize hVV : (((((w4.setCell ⟨s + 1, 0, none⟩ (.int .i64 d)).setCell ⟨s + 1, 1, none⟩ (.int .i64 0)).setCell ⟨s + 1, 2, none⟩ (.int .i64 0)).setCell ⟨s + 1, 3, none⟩ (.int .i64 0)).setCell ⟨s + 1, 4, none⟩ (.int .i64 0)) = V at *
    have x0 := NN.out.1.cell 0 rfl
    have x1 := NN.out.1.cell 1 rfl
    have x2 := NN.out.1.cell 2 rfl
    have x3 := NN.out.1.cell 3 rfl
    have x4 := NN.out.1.cell 4 rfl
    exact bodyPost_ret (v := .agg #[.int .i64 d, .int .i64 0, .int .i64 0, .int .i64 0, .int .i64 0]) (by simp [results, Try.results25, go_sem, x0, x1, x2, x3, x4]) rfl
      ⟨by rw [HE2.out], Mq.under B4.out NN.out.2 fun k e => by have := HS.out; omega⟩
  subst hd0
  obtain ⟨a, rfl, ha⟩ := PR.out rfl
  have HE2 : Hid (R = decV (zs.getD a 0)) := by show _ = _; rw [HE.out, if_pos rfl]; rfl
  have za := Z4.out.cell Z4.out.len a ha
  have hai : (a : Int) < ((p * 8 : Nat) : Int) := by omega
  have hal : (a : Int) < (p : Int) * 8 := by omega
  obtain ⟨z, hz⟩ : ∃ z, zs.getD a 0 = z := ⟨_, rfl⟩
  rw [hz] at za HE2
  clear hz HE PR HR
  go_wp2_with fail
  refine (spec_decode z w4).mono ?_
  rintro e w6 ⟨rfl, b6⟩
  have B6 : Hid (Below w.heap.size w w6) := on B4.out b6
  have VR6 : Hid (Vb w6 (s + 1) #[.int .i64 0, .int .i64 0, .int .i64 0, .int .i64 0, .int .i64 0] 53) := VR4.out.keep b6
  obtain ⟨d0, d1, d2, d3, d4, hd5⟩ := dec_five z
  rw [hd5] at HE2 ⊢
  clear b6 hd5
  have p0 := VR6.out.cell 0 rfl
  have f0 := VR6.out.free 0
  have p1 := VR6.out.cell 1 rfl
  have f1 := VR6.out.free 1
  have p2 := VR6.out.cell 2 rfl
  have f2 := VR6.out.free 2
  have p3 := VR6.out.cell 3 rfl
  have f3 := VR6.out.free 3
  have p4 := VR6.out.cell 4 rfl
  have f4 := VR6.out.free 4
  go_wp2_with fail
  have NN : Hid (_ ∧ _) := fiveX VR6.out (.int .i64 d0) (.int .i64 d1) (.int .i64 d2) (.int .i64 d3) (.int .i64 d4)
  clear p0 f0 p1 f1 p2 f2 p3 f3 p4 f4
  generalize hVV : (((((w6.setCell ⟨s + 1, 0, none⟩ (.int .i64 d0)).setCell ⟨s + 1, 1, none⟩ (.int .i64 d1)).setCell ⟨s + 1, 2, none⟩ (.int .i64 d2)).setCell ⟨s + 1, 3, none⟩ (.int .i64 d3)).setCell ⟨s + 1, 4, none⟩ (.int .i64 d4)) = V at *
  have x0 := NN.out.1.cell 0 rfl
  have x1 := NN.out.1.cell 1 rfl
  have x2 := NN.out.1.cell 2 rfl
  have x3 := NN.out.1.cell 3 rfl
  have x4 := NN.out.1.cell 4 rfl
  exact bodyPost_ret (v := .agg #[.int .i64 d0, .int .i64 d1, .int .i64 d2, .int .i64 d3, .int .i64 d4]) (by simp [results, Try.results25, go_sem, x0, x1, x2, x3, x4]) rfl
    ⟨by rw [HE2.out], Mq.under B6.out NN.out.2 fun k e => by have := HS.out; omega⟩

end Go.Proofs.Ytccbiejlljbfcaa
