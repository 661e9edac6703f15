/- Texts of this seat, joined. -/
import Derived.Test.YtgjpfmcokcjegaaQ47
namespace Go.Proofs.Ytgjpfmcokcjegaa
open Go.RowKit
set_option linter.unusedVariables false
def soC (H : Ht) (ps : List (Int × Int)) (zs : List Int) : Int := if seenC H ps zs = 0 then spC H ps else seenC H ps zs
def soP (H : Ht) (ps : List (Int × Int)) (zs : List Int) : List (Int × Int) := if seenC H ps zs = 0 then spP H ps zs else []
def poC (H : Ht) (ps : List (Int × Int)) (zs : List Int) (x k : Int) : Int := if seenC H ps zs = 0 then (if kindB k then plC H ps zs x k else 3) else seenC H ps zs
def poV (H : Ht) (ps : List (Int × Int)) (zs : List Int) (x k : Int) : Int := if seenC H ps zs = 0 then (if kindB k then plV H ps zs x k else 0) else 0
theorem spP_none {H : Ht} {ps : List (Int × Int)} {zs : List Int} (h : ¬ spC H ps = 0) : spP H ps zs = [] := by
  unfold spC at h
  unfold spP
  split
  · rename_i h1; rw [if_pos h1] at h; exact absurd rfl h
  · split
    · rfl
    · rename_i h1 h2; rw [if_neg h1, if_neg h2] at h; exact absurd rfl h
theorem plV_zero {H : Ht} {ps : List (Int × Int)} {zs : List Int} {x k : Int} (h : ¬ plC H ps zs x k = 0) : plV H ps zs x k = 0 := by
  unfold plC at h
  unfold plV
  split
  · rename_i h1
    rw [if_pos h1] at h
    split
    · rename_i h2
      rw [if_pos h2] at h
      unfold behC at h
      unfold behV
      split
      · rename_i h3
        rw [if_pos h3] at h
        split
        · rfl
        · rename_i h4; rw [if_neg h4] at h; exact absurd rfl h
      · rename_i h3
        rw [if_neg h3] at h
        exact wk_zero h
    · rfl
  · rfl
theorem mcr_store (H : Ht) (xa : Option Addr) (xn xk : Nat) (ya : Option Addr) (yn yk : Nat) (la : Option Addr) (ln lk : Nat) (pa : Option Addr) (pn pk : Nat) (ca ri : Int) (w : World) : (storeCells ⟨w.heap.size, 0, none⟩ (mcr H (.slice xa xn xk) (.slice ya yn yk) (.slice la ln lk) (.slice pa pn pk) ca ri).toList 0).run Try.prog (w.alloc (.cells #[.int .i64 0, .int .i64 0, .int .i64 0, .int .i64 0, .int .i64 0, .int .i64 0, .int .i64 0, .int .i64 0, .int .i64 0, .int .i64 0, .int .i64 0, .int .i64 0, .int .i64 0, .int .i64 0, .int .i64 0, .int .i64 0, .int .i64 0, .int .i64 0, .int .i64 0, .int .i64 0, .int .i64 0, .int .i64 0, .int .i64 0, .int .i64 0, .int .i64 0, .int .i64 0, .int .i64 0, .int .i64 0, .bool false, .bool false, .bool false, .int .i64 0, .slice none 0 0, .slice none 0 0, .slice none 0 0, .slice none 0 0, .int .i64 0, .int .i64 0] 55)) = .ok () (w.alloc (.cells (mcr H (.slice xa xn xk) (.slice ya yn yk) (.slice la ln lk) (.slice pa pn pk) ca ri) 55)) :=
  run_storeCells_new (P := Try.prog) w 55 #[.int .i64 0, .int .i64 0, .int .i64 0, .int .i64 0, .int .i64 0, .int .i64 0, .int .i64 0, .int .i64 0, .int .i64 0, .int .i64 0, .int .i64 0, .int .i64 0, .int .i64 0, .int .i64 0, .int .i64 0, .int .i64 0, .int .i64 0, .int .i64 0, .int .i64 0, .int .i64 0, .int .i64 0, .int .i64 0, .int .i64 0, .int .i64 0, .int .i64 0, .int .i64 0, .int .i64 0, .int .i64 0, .bool false, .bool false, .bool false, .int .i64 0, .slice none 0 0, .slice none 0 0, .slice none 0 0, .slice none 0 0, .int .i64 0, .int .i64 0] (mcr H (.slice xa xn xk) (.slice ya yn yk) (.slice la ln lk) (.slice pa pn pk) ca ri) (by kernel_rfl) rfl (mcr_one H (.slice xa xn xk) (.slice ya yn yk) (.slice la ln lk) (.slice pa pn pk) ca ri rfl rfl rfl rfl)
theorem Pags.mono {w : World} {base base' : Nat} {v : Value} {n : Nat} {zs : List Int} (h : Pags w base v n zs) (hb : base' ≤ base) : Pags w base' v n zs := by
  obtain ⟨h1, h2 | ⟨g, cap, cur, hv, hg, rest⟩⟩ := h
  · exact ⟨h1, .inl h2⟩
  · exact ⟨h1, .inr ⟨g, cap, cur, hv, Nat.le_trans hb hg, rest⟩⟩
set_option maxRecDepth 20000 in
set_option maxHeartbeats 8000000 in
theorem i_spaceOf (r c i o : Value) (H : Ht) (pa : Option Addr) (pn pc : Nat) (ps : List (Int × Int)) (ma : Option Addr) (mn mc : Nat) (zs : List Int) (b : Nat) (w : World) (h : Hm w b r c i o H) (hP : Prs 73 w b (.slice pa pn pc) ps) (hl : ps.length ≤ 1048576) (hM : Nums w b (.slice ma mn mc) zs) (hm : zs.length ≤ 1048576) :
    Calls Try.prog 7 #[.agg #[r, .int .i64 H.pc, c, .bool H.halted, .bool H.waiting, .bool H.rung, .int .i64 H.done, i, o], .slice pa pn pc, .slice ma mn mc] w fun e w' => ∃ u, e = .returned (.agg #[.int .i64 (soC H ps zs), u]) ∧ Prs 73 w' w.heap.size u (soP H ps zs) ∧ Below w.heap.size w w' := by
  have HM : Hid (Hm w b r c i o H) := h
  have HP : Hid (Prs 73 w b (.slice pa pn pc) ps) := hP
  have HZ : Hid (Nums w b (.slice ma mn mc) zs) := hM
  have HL : Hid (ps.length ≤ 1048576 ∧ zs.length ≤ 1048576) := ⟨hl, hm⟩
  obtain ⟨a0, k0, rfl, _⟩ := h.r.shape
  obtain ⟨a1, k1, rfl, _⟩ := h.c.shape
  obtain ⟨a2, k2, rfl, _⟩ := h.i.shape
  obtain ⟨a3, k3, rfl, _⟩ := h.o.shape
  clear h hP hl hM hm
  generalize hW : (w.alloc (.cells #[.slice a0 H.regs.length k0, .int .i64 H.pc, .slice a1 H.csr.length k1, .bool H.halted, .bool H.waiting, .bool H.rung, .int .i64 H.done, .slice a2 H.inn.length k2, .slice a3 H.out.length k3] 26)).alloc (.cells #[.int .i64 0, .slice none 0 0] 34) = W
  have B0 : Hid (Below w.heap.size w W) := by show Below _ _ _; rw [← hW]; exact al (al (Below.refl _ _) _) _
  obtain ⟨s, hS⟩ : ∃ s, w.heap.size = s := ⟨_, rfl⟩
  have HS : Hid (w.heap.size = s) := hS
  have VA : Hid (Vb W s #[.slice a0 H.regs.length k0, .int .i64 H.pc, .slice a1 H.csr.length k1, .bool H.halted, .bool H.waiting, .bool H.rung, .int .i64 H.done, .slice a2 H.inn.length k2, .slice a3 H.out.length k3] 26) := by
    show Vb _ _ _ _; rw [← hW, ← hS]; exact (Vb.new _ _ _).push _
  have VR : Hid (Vb W (s + 1) #[.int .i64 0, .slice none 0 0] 34) := by
    have z1 : s + 1 = (w.alloc (.cells #[.slice a0 H.regs.length k0, .int .i64 H.pc, .slice a1 H.csr.length k1, .bool H.halted, .bool H.waiting, .bool H.rung, .int .i64 H.done, .slice a2 H.inn.length k2, .slice a3 H.out.length k3] 26)).heap.size := by rw [← hS]; simp
    show Vb _ _ _ _; rw [← hW, z1]; exact Vb.new _ _ _
  have q0 := VA.out.cell 0 rfl
  have q1 := VA.out.cell 1 rfl
  have q2 := VA.out.cell 2 rfl
  have q3 := VA.out.cell 3 rfl
  have q4 := VA.out.cell 4 rfl
  have q5 := VA.out.cell 5 rfl
  have q6 := VA.out.cell 6 rfl
  have q7 := VA.out.cell 7 rfl
  have q8 := VA.out.cell 8 rfl
  go_enter Try.func7, Try.ntmps7
  go_wp2_with fail
  clear hW hS q0 q1 q2 q3 q4 q5 q6 q7 q8
  refine (i_seen _ _ _ _ H pa pn pc ps ma mn mc zs b W (HM.out.keep B0.out) (HP.out.keep B0.out) HL.out.1 (HZ.out.keep B0.out) HL.out.2).mono ?_
  rintro e w1 ⟨rfl, b1⟩
  have B1 : Hid (Below w.heap.size w w1) := on B0.out b1
  have VA1 : Hid (Vb w1 s #[.slice a0 H.regs.length k0, .int .i64 H.pc, .slice a1 H.csr.length k1, .bool H.halted, .bool H.waiting, .bool H.rung, .int .i64 H.done, .slice a2 H.inn.length k2, .slice a3 H.out.length k3] 26) := VA.out.keep b1
  have VR1 : Hid (Vb w1 (s + 1) #[.int .i64 0, .slice none 0 0] 34) := VR.out.keep b1
  have M1 : Hid (Hm w1 b _ _ _ _ H) := HM.out.keep B1.out
  have P1 : Hid (Prs 73 w1 b (.slice pa pn pc) ps) := HP.out.keep B1.out
  have Z1 : Hid (Nums w1 b (.slice ma mn mc) zs) := HZ.out.keep B1.out
  have LW : Hid (w.heap.size ≤ w1.heap.size) := B1.out.size
  clear b1 VA VR HM HP HZ
  by_cases hf : seenC H ps zs = 0
  case neg =>
    have HE : Hid (soC H ps zs = seenC H ps zs ∧ soP H ps zs = []) := ⟨if_neg hf, if_neg hf⟩
    generalize seenC H ps zs = f at *
    have p0 := VR1.out.cell 0 rfl
    have f0 := VR1.out.free 0
    have p1 := VR1.out.cell 1 rfl
    have f1 := VR1.out.free 1
    go_wp2_with fail
    have NN : Hid (_ ∧ _) := twoX VR1.out (.int .i64 f) (.slice none 0 0)
    clear p0 f0 p1 f1
    generalize hVV : ((w1.setCell ⟨s + 1, 0, none⟩ (.int .i64 f)).setCell ⟨s + 1, 1, none⟩ (.slice none 0 0)) = V at *
    have x0 := NN.out.1.cell 0 rfl
    have x1 := NN.out.1.cell 1 rfl
    exact bodyPost_ret (v := .agg #[.int .i64 f, .slice none 0 0]) (by simp [results, Try.results7, go_sem, x0, x1]) rfl
      ⟨_, by rw [HE.out.1], by rw [HE.out.2]; exact Prs.nil _ _ _, Mq.under B1.out NN.out.2 fun k e => by have := HS.out; omega⟩
  have HF : Hid (seenC H ps zs = 0) := hf
  rw [hf]
  obtain ⟨p, sn⟩ := seen_ok hf
  have SN : Hid (Sn H ps zs p) := sn
  obtain rfl : mn = p * 8 := by have := Z1.out.len; have := sn.zl; omega
  obtain ⟨ga, gc, hv, -, -, hg⟩ := Z1.out.shape
  obtain ⟨gm, hg⟩ := hg (by have := sn.zl; have := sn.p1; omega)
  simp only [Value.slice.injEq] at hv
  obtain ⟨hv1, -, -⟩ := hv
  rw [hg] at hv1
  subst hv1
  clear hg
  obtain ⟨pa', pc', hv, -, -, hg⟩ := P1.out.shape
  obtain ⟨pg, hg⟩ := hg (by have := sn.l8; omega)
  simp only [Value.slice.injEq] at hv
  obtain ⟨hv1, hv2, -⟩ := hv
  rw [hg] at hv1
  subst hv1
  rw [sn.l8] at hv2
  subst hv2
  clear hg hf sn
  have HE : Hid (soC H ps zs = spC H ps ∧ soP H ps zs = spP H ps zs) := ⟨if_pos HF.out, if_pos HF.out⟩
  have q0 := VA1.out.cell 0 rfl
  have q1 := VA1.out.cell 1 rfl
  have q2 := VA1.out.cell 2 rfl
  have q3 := VA1.out.cell 3 rfl
  have q4 := VA1.out.cell 4 rfl
  have q5 := VA1.out.cell 5 rfl
  have q6 := VA1.out.cell 6 rfl
  have q7 := VA1.out.cell 7 rfl
  have q8 := VA1.out.cell 8 rfl
  go_wp2_with fail
  clear q0 q1 q2 q3 q4 q5 q6 q7 q8
  refine (i_runner _ _ _ _ H (some ⟨pg, 0, none⟩) 8 pc gm (p * 8) mc zs b p w1 M1.out SN.out.hok Z1.out SN.out.zl SN.out.p24 SN.out.p1).mono ?_
  rintro e w2 ⟨i2, o2, g, rfl, mi, mo, ap, gs, b2⟩
  obtain ⟨xa, xk, rfl, _⟩ := mi.shape
  obtain ⟨ya, yk, rfl, _⟩ := mo.shape
  generalize hxn : H.inn.length = xn at *
  generalize hyn : H.out.length = yn at *
  have hst := mcr_store H xa xn xk ya yn yk (some ⟨pg, 0, none⟩) 8 pc (some ⟨g, 0, none⟩) p p (-1) (-1) w2
  have hsz := mcr_size H (.slice xa xn xk) (.slice ya yn yk) (.slice (some ⟨pg, 0, none⟩) 8 pc) (.slice (some ⟨g, 0, none⟩) p p) (-1) (-1)
  have GS : Hid (Pags w2 w1.heap.size (.slice (some ⟨g, 0, none⟩) p p) p zs) := gs
  have B2 : Hid (Below w.heap.size w w2) := on B1.out b2
  have VR2 : Hid (Vb w2 (s + 1) #[.int .i64 0, .slice none 0 0] 34) := VR1.out.keep b2
  have P2 : Hid (Prs 73 w2 b (.slice (some ⟨pg, 0, none⟩) 8 pc) ps) := P1.out.keep b2
  clear mi mo ap b2 hxn hyn gs
  go_wp2_with fail
  generalize hW3 : w2.alloc (.cells (mcr H (.slice xa xn xk) (.slice ya yn yk) (.slice (some ⟨pg, 0, none⟩) 8 pc) (.slice (some ⟨g, 0, none⟩) p p) (-1) (-1)) 55) = W3
  obtain ⟨m, hm⟩ : ∃ m, w2.heap.size = m := ⟨_, rfl⟩
  rw [hm]
  have V3 : Hid (Vb W3 m (mcr H (.slice xa xn xk) (.slice ya yn yk) (.slice (some ⟨pg, 0, none⟩) 8 pc) (.slice (some ⟨g, 0, none⟩) p p) (-1) (-1)) 55) := by show Vb _ _ _ _; rw [← hW3, ← hm]; exact Vb.new _ _ _
  have bb : Below w2.heap.size w2 W3 := by rw [← hW3]; exact al (Below.refl _ _) _
  have B3 : Hid (Below w.heap.size w W3) := on B2.out bb
  have VR3 : Hid (Vb W3 (s + 1) #[.int .i64 0, .slice none 0 0] 34) := VR2.out.keep bb
  have P3 : Hid (Prs 73 W3 0 (.slice (some ⟨pg, 0, none⟩) 8 pc) ps) := (P2.out.keep bb).mono (Nat.zero_le _)
  have G3 : Hid (Pags W3 0 (.slice (some ⟨g, 0, none⟩) p p) p zs) := (GS.out.keep bb).mono (Nat.zero_le _)
  have L3 : Hid (w.heap.size ≤ W3.heap.size) := B3.out.size
  clear hst hsz hW3 hm bb
  refine (i_space m (.slice xa xn xk) (.slice ya yn yk) H pg pc ps g p zs (-1) (-1) 0 W3 V3.out P3.out G3.out SN.out).mono ?_
  rintro e w4 ⟨u, rfl, pu, b4⟩
  obtain ⟨ua, uc, hu, _⟩ := pu.shape
  obtain ⟨ul, hul⟩ : ∃ ul, (spP H ps zs).length = ul := ⟨_, rfl⟩
  rw [hul] at hu
  subst hu
  have PU : Hid (Prs 73 w4 W3.heap.size (.slice ua ul uc) (spP H ps zs)) := pu
  have B4 : Hid (Below w.heap.size w w4) := on B3.out b4
  have VR4 : Hid (Vb w4 (s + 1) #[.int .i64 0, .slice none 0 0] 34) := VR3.out.keep b4
  have LS : Hid (s + 1 < W3.heap.size) := VR3.out.lt
  clear pu b4 hul
  generalize spC H ps = d at *
  have p0 := VR4.out.cell 0 rfl
  have f0 := VR4.out.free 0
  have p1 := VR4.out.cell 1 rfl
  have f1 := VR4.out.free 1
  go_wp2_with fail
  have NN : Hid (_ ∧ _) := twoX VR4.out (.int .i64 d) (.slice ua ul uc)
  have P5 : Hid (Prs 73 ((w4.setCell ⟨s + 1, 0, none⟩ (.int .i64 d)).setCell ⟨s + 1, 1, none⟩ (.slice ua ul uc)) W3.heap.size (.slice ua ul uc) (spP H ps zs)) := NN.out.2.prs PU.out fun k e f => by have := (PU.out.lt k e).1; have := LS.out; omega
  clear p0 f0 p1 f1
  generalize hVV : ((w4.setCell ⟨s + 1, 0, none⟩ (.int .i64 d)).setCell ⟨s + 1, 1, none⟩ (.slice ua ul uc)) = V at *
  have x0 := NN.out.1.cell 0 rfl
  have x1 := NN.out.1.cell 1 rfl
  exact bodyPost_ret (v := .agg #[.int .i64 d, .slice ua ul uc]) (by simp [results, Try.results7, go_sem, x0, x1]) rfl
    ⟨_, by rw [HE.out.1], by rw [HE.out.2]; exact P5.out.mono L3.out, Mq.under B4.out NN.out.2 fun k e => by have := HS.out; omega⟩
set_option maxRecDepth 20000 in
set_option maxHeartbeats 8000000 in
theorem s_spaceOf (r c i o : Value) (H : Ht) (pa : Option Addr) (pn pc : Nat) (ps : List (Int × Int)) (ma : Option Addr) (mn mc : Nat) (zs : List Int) (b : Nat) (w : World) (h : Hm w b r c i o H) (hP : Prs 73 w b (.slice pa pn pc) ps) (hl : ps.length ≤ 1048576) (hM : Nums w b (.slice ma mn mc) zs) (hm : zs.length ≤ 1048576) :
    Calls Try.prog 8 #[.agg #[r, .int .i64 H.pc, c, .bool H.halted, .bool H.waiting, .bool H.rung, .int .i64 H.done, i, o], .slice pa pn pc, .slice ma mn mc] w fun e w' => ∃ u, e = .returned (.agg #[.int .i64 (soC H ps zs), u]) ∧ Prs 73 w' w.heap.size u (soP H ps zs) ∧ Below w.heap.size w w' := by
  have HM : Hid (Hm w b r c i o H) := h
  have HP : Hid (Prs 73 w b (.slice pa pn pc) ps) := hP
  have HZ : Hid (Nums w b (.slice ma mn mc) zs) := hM
  have HL : Hid (ps.length ≤ 1048576 ∧ zs.length ≤ 1048576) := ⟨hl, hm⟩
  obtain ⟨a0, k0, rfl, _⟩ := h.r.shape
  obtain ⟨a1, k1, rfl, _⟩ := h.c.shape
  obtain ⟨a2, k2, rfl, _⟩ := h.i.shape
  obtain ⟨a3, k3, rfl, _⟩ := h.o.shape
  clear h hP hl hM hm
  generalize hW : (w.alloc (.cells #[.slice a0 H.regs.length k0, .int .i64 H.pc, .slice a1 H.csr.length k1, .bool H.halted, .bool H.waiting, .bool H.rung, .int .i64 H.done, .slice a2 H.inn.length k2, .slice a3 H.out.length k3] 26)).alloc (.cells #[.int .i64 0, .slice none 0 0] 34) = W
  have B0 : Hid (Below w.heap.size w W) := by show Below _ _ _; rw [← hW]; exact al (al (Below.refl _ _) _) _
  obtain ⟨s, hS⟩ : ∃ s, w.heap.size = s := ⟨_, rfl⟩
  have HS : Hid (w.heap.size = s) := hS
  have VA : Hid (Vb W s #[.slice a0 H.regs.length k0, .int .i64 H.pc, .slice a1 H.csr.length k1, .bool H.halted, .bool H.waiting, .bool H.rung, .int .i64 H.done, .slice a2 H.inn.length k2, .slice a3 H.out.length k3] 26) := by
    show Vb _ _ _ _; rw [← hW, ← hS]; exact (Vb.new _ _ _).push _
  have VR : Hid (Vb W (s + 1) #[.int .i64 0, .slice none 0 0] 34) := by
    have z1 : s + 1 = (w.alloc (.cells #[.slice a0 H.regs.length k0, .int .i64 H.pc, .slice a1 H.csr.length k1, .bool H.halted, .bool H.waiting, .bool H.rung, .int .i64 H.done, .slice a2 H.inn.length k2, .slice a3 H.out.length k3] 26)).heap.size := by rw [← hS]; simp
    show Vb _ _ _ _; rw [← hW, z1]; exact Vb.new _ _ _
  have q0 := VA.out.cell 0 rfl
  have q1 := VA.out.cell 1 rfl
  have q2 := VA.out.cell 2 rfl
  have q3 := VA.out.cell 3 rfl
  have q4 := VA.out.cell 4 rfl
  have q5 := VA.out.cell 5 rfl
  have q6 := VA.out.cell 6 rfl
  have q7 := VA.out.cell 7 rfl
  have q8 := VA.out.cell 8 rfl
  go_enter Try.func8, Try.ntmps8
  go_wp2_with fail
  clear hW hS q0 q1 q2 q3 q4 q5 q6 q7 q8
  refine (s_asked s _ _ _ _ H pa pn pc ps ma mn mc zs b W (HM.out.keep B0.out) VA.out (HP.out.keep B0.out) HL.out.1 (HZ.out.keep B0.out) HL.out.2).mono ?_
  rintro e w1 ⟨rfl, hw1⟩
  have b1 : Below W.heap.size W w1 := by rw [hw1]; exact Below.refl _ _
  clear hw1
  have B1 : Hid (Below w.heap.size w w1) := on B0.out b1
  have VA1 : Hid (Vb w1 s #[.slice a0 H.regs.length k0, .int .i64 H.pc, .slice a1 H.csr.length k1, .bool H.halted, .bool H.waiting, .bool H.rung, .int .i64 H.done, .slice a2 H.inn.length k2, .slice a3 H.out.length k3] 26) := VA.out.keep b1
  have VR1 : Hid (Vb w1 (s + 1) #[.int .i64 0, .slice none 0 0] 34) := VR.out.keep b1
  have M1 : Hid (Hm w1 b _ _ _ _ H) := HM.out.keep B1.out
  have P1 : Hid (Prs 73 w1 b (.slice pa pn pc) ps) := HP.out.keep B1.out
  have Z1 : Hid (Nums w1 b (.slice ma mn mc) zs) := HZ.out.keep B1.out
  have LW : Hid (w.heap.size ≤ w1.heap.size) := B1.out.size
  clear b1 VA VR HM HP HZ
  by_cases hf : seenC H ps zs = 0
  case neg =>
    have HE : Hid (soC H ps zs = seenC H ps zs ∧ soP H ps zs = []) := ⟨if_neg hf, if_neg hf⟩
    generalize seenC H ps zs = f at *
    have p0 := VR1.out.cell 0 rfl
    have f0 := VR1.out.free 0
    have p1 := VR1.out.cell 1 rfl
    have f1 := VR1.out.free 1
    go_wp2_with fail
    have NN : Hid (_ ∧ _) := twoX VR1.out (.int .i64 f) (.slice none 0 0)
    clear p0 f0 p1 f1
    generalize hVV : ((w1.setCell ⟨s + 1, 0, none⟩ (.int .i64 f)).setCell ⟨s + 1, 1, none⟩ (.slice none 0 0)) = V at *
    have x0 := NN.out.1.cell 0 rfl
    have x1 := NN.out.1.cell 1 rfl
    exact bodyPost_ret (v := .agg #[.int .i64 f, .slice none 0 0]) (by simp [results, Try.results8, go_sem, x0, x1]) rfl
      ⟨_, by rw [HE.out.1], by rw [HE.out.2]; exact Prs.nil _ _ _, Mq.under B1.out NN.out.2 fun k e => by have := HS.out; omega⟩
  have HF : Hid (seenC H ps zs = 0) := hf
  rw [hf]
  obtain ⟨p, sn⟩ := seen_ok hf
  have SN : Hid (Sn H ps zs p) := sn
  obtain rfl : mn = p * 8 := by have := Z1.out.len; have := sn.zl; omega
  obtain ⟨ga, gc, hv, -, -, hg⟩ := Z1.out.shape
  obtain ⟨gm, hg⟩ := hg (by have := sn.zl; have := sn.p1; omega)
  simp only [Value.slice.injEq] at hv
  obtain ⟨hv1, -, -⟩ := hv
  rw [hg] at hv1
  subst hv1
  clear hg
  obtain ⟨pa', pc', hv, -, -, hg⟩ := P1.out.shape
  obtain ⟨pg, hg⟩ := hg (by have := sn.l8; omega)
  simp only [Value.slice.injEq] at hv
  obtain ⟨hv1, hv2, -⟩ := hv
  rw [hg] at hv1
  subst hv1
  rw [sn.l8] at hv2
  subst hv2
  clear hg hf sn
  have HE : Hid (soC H ps zs = spC H ps ∧ soP H ps zs = spP H ps zs) := ⟨if_pos HF.out, if_pos HF.out⟩
  have q0 := VA1.out.cell 0 rfl
  have q1 := VA1.out.cell 1 rfl
  have q2 := VA1.out.cell 2 rfl
  have q3 := VA1.out.cell 3 rfl
  have q4 := VA1.out.cell 4 rfl
  have q5 := VA1.out.cell 5 rfl
  have q6 := VA1.out.cell 6 rfl
  have q7 := VA1.out.cell 7 rfl
  have q8 := VA1.out.cell 8 rfl
  go_wp2_with fail
  clear q0 q1 q2 q3 q4 q5 q6 q7 q8
  generalize hW3 : w1.alloc (.cells #[.slice (some ⟨pg, 0, none⟩) 8 pc, .slice (some ⟨gm, 0, none⟩) (p * 8) mc, .int .i64 0, .slice a0 H.regs.length k0, .int .i64 H.pc, .slice a1 H.csr.length k1, .bool H.halted, .bool H.waiting, .bool H.rung, .int .i64 H.done, .slice a2 H.inn.length k2, .slice a3 H.out.length k3, .int .i64 0] 65) = W3
  obtain ⟨m, hm⟩ : ∃ m, w1.heap.size = m := ⟨_, rfl⟩
  rw [hm]
  have V3 : Hid (Vb W3 m #[.slice (some ⟨pg, 0, none⟩) 8 pc, .slice (some ⟨gm, 0, none⟩) (p * 8) mc, .int .i64 0, .slice a0 H.regs.length k0, .int .i64 H.pc, .slice a1 H.csr.length k1, .bool H.halted, .bool H.waiting, .bool H.rung, .int .i64 H.done, .slice a2 H.inn.length k2, .slice a3 H.out.length k3, .int .i64 0] 65) := by show Vb _ _ _ _; rw [← hW3, ← hm]; exact Vb.new _ _ _
  have bb : Below w1.heap.size w1 W3 := by rw [← hW3]; exact al (Below.refl _ _) _
  have B3 : Hid (Below w.heap.size w W3) := on B1.out bb
  have VR3 : Hid (Vb W3 (s + 1) #[.int .i64 0, .slice none 0 0] 34) := VR1.out.keep bb
  have P3 : Hid (Prs 73 W3 b (.slice (some ⟨pg, 0, none⟩) 8 pc) ps) := P1.out.keep bb
  have Z3 : Hid (Nums W3 b (.slice (some ⟨gm, 0, none⟩) (p * 8) mc) zs) := Z1.out.keep bb
  have C3 : Hid (Nums W3 b (.slice a1 H.csr.length k1) H.csr) := M1.out.c.keep bb
  have L3 : Hid (w.heap.size ≤ W3.heap.size) := B3.out.size
  clear hW3 hm bb
  refine (s_space m _ _ _ _ H pg pc ps gm p mc zs 0 0 b W3 V3.out C3.out P3.out Z3.out SN.out).mono ?_
  rintro e w4 ⟨u, rfl, pu, b4⟩
  obtain ⟨ua, uc, hu, _⟩ := pu.shape
  obtain ⟨ul, hul⟩ : ∃ ul, (spP H ps zs).length = ul := ⟨_, rfl⟩
  rw [hul] at hu
  subst hu
  have PU : Hid (Prs 73 w4 W3.heap.size (.slice ua ul uc) (spP H ps zs)) := pu
  have B4 : Hid (Below w.heap.size w w4) := on B3.out b4
  have VR4 : Hid (Vb w4 (s + 1) #[.int .i64 0, .slice none 0 0] 34) := VR3.out.keep b4
  have LS : Hid (s + 1 < W3.heap.size) := VR3.out.lt
  clear pu b4 hul
  by_cases hd : spC H ps = 0
  case neg =>
    have ed : decide (spC H ps = 0) = false := by simpa using hd
    have h7 := spC_seven hd
    have SPN : Hid (spP H ps zs = []) := spP_none hd
    rw [ed]
    rw [h7] at HE
    clear ed hd h7
    have p0 := VR4.out.cell 0 rfl
    have f0 := VR4.out.free 0
    have p1 := VR4.out.cell 1 rfl
    have f1 := VR4.out.free 1
    go_wp2_with fail
    have NN : Hid (_ ∧ _) := twoX VR4.out (.int .i64 7) (.slice none 0 0)
    clear p0 f0 p1 f1
    generalize hVV : ((w4.setCell ⟨s + 1, 0, none⟩ (.int .i64 7)).setCell ⟨s + 1, 1, none⟩ (.slice none 0 0)) = V at *
    have x0 := NN.out.1.cell 0 rfl
    have x1 := NN.out.1.cell 1 rfl
    exact bodyPost_ret (v := .agg #[.int .i64 7, .slice none 0 0]) (by simp [results, Try.results8, go_sem, x0, x1]) rfl
      ⟨_, by rw [HE.out.1], by rw [HE.out.2, SPN.out]; exact Prs.nil _ _ _, Mq.under B4.out NN.out.2 fun k e => by have := HS.out; omega⟩
  have ed : decide (spC H ps = 0) = true := by simpa using hd
  rw [ed]
  rw [hd] at HE
  clear ed hd
  have p0 := VR4.out.cell 0 rfl
  have f0 := VR4.out.free 0
  have p1 := VR4.out.cell 1 rfl
  have f1 := VR4.out.free 1
  go_wp2_with fail
  have NN : Hid (_ ∧ _) := twoX VR4.out (.int .i64 0) (.slice ua ul uc)
  have P5 : Hid (Prs 73 ((w4.setCell ⟨s + 1, 0, none⟩ (.int .i64 0)).setCell ⟨s + 1, 1, none⟩ (.slice ua ul uc)) W3.heap.size (.slice ua ul uc) (spP H ps zs)) := NN.out.2.prs PU.out fun k e f => by have := (PU.out.lt k e).1; have := LS.out; omega
  clear p0 f0 p1 f1
  generalize hVV : ((w4.setCell ⟨s + 1, 0, none⟩ (.int .i64 0)).setCell ⟨s + 1, 1, none⟩ (.slice ua ul uc)) = V at *
  have x0 := NN.out.1.cell 0 rfl
  have x1 := NN.out.1.cell 1 rfl
  exact bodyPost_ret (v := .agg #[.int .i64 0, .slice ua ul uc]) (by simp [results, Try.results8, go_sem, x0, x1]) rfl
    ⟨_, by rw [HE.out.1], by rw [HE.out.2]; exact P5.out.mono L3.out, Mq.under B4.out NN.out.2 fun k e => by have := HS.out; omega⟩
set_option maxRecDepth 20000 in
set_option maxHeartbeats 8000000 in
theorem i_placeOf (r c i o : Value) (H : Ht) (pa : Option Addr) (pn pc : Nat) (ps : List (Int × Int)) (ma : Option Addr) (mn mc : Nat) (zs : List Int) (x k : Int) (b : Nat) (w : World) (h : Hm w b r c i o H) (hP : Prs 73 w b (.slice pa pn pc) ps) (hl : ps.length ≤ 1048576) (hM : Nums w b (.slice ma mn mc) zs) (hm : zs.length ≤ 1048576) :
    Calls Try.prog 6 #[.agg #[r, .int .i64 H.pc, c, .bool H.halted, .bool H.waiting, .bool H.rung, .int .i64 H.done, i, o], .slice pa pn pc, .slice ma mn mc, .int .i64 x, .int .i64 k] w fun e w' => e = .returned (.agg #[.int .i64 (poC H ps zs x k), .int .i64 (poV H ps zs x k)]) ∧ Below w.heap.size w w' := by
  have HM : Hid (Hm w b r c i o H) := h
  have HP : Hid (Prs 73 w b (.slice pa pn pc) ps) := hP
  have HZ : Hid (Nums w b (.slice ma mn mc) zs) := hM
  have HL : Hid (ps.length ≤ 1048576 ∧ zs.length ≤ 1048576) := ⟨hl, hm⟩
  obtain ⟨a0, k0, rfl, _⟩ := h.r.shape
  obtain ⟨a1, k1, rfl, _⟩ := h.c.shape
  obtain ⟨a2, k2, rfl, _⟩ := h.i.shape
  obtain ⟨a3, k3, rfl, _⟩ := h.o.shape
  clear h hP hl hM hm
  generalize hW : (w.alloc (.cells #[.slice a0 H.regs.length k0, .int .i64 H.pc, .slice a1 H.csr.length k1, .bool H.halted, .bool H.waiting, .bool H.rung, .int .i64 H.done, .slice a2 H.inn.length k2, .slice a3 H.out.length k3] 26)).alloc (.cells #[.int .i64 0, .int .i64 0] 31) = W
  have B0 : Hid (Below w.heap.size w W) := by show Below _ _ _; rw [← hW]; exact al (al (Below.refl _ _) _) _
  obtain ⟨s, hS⟩ : ∃ s, w.heap.size = s := ⟨_, rfl⟩
  have HS : Hid (w.heap.size = s) := hS
  have VA : Hid (Vb W s #[.slice a0 H.regs.length k0, .int .i64 H.pc, .slice a1 H.csr.length k1, .bool H.halted, .bool H.waiting, .bool H.rung, .int .i64 H.done, .slice a2 H.inn.length k2, .slice a3 H.out.length k3] 26) := by
    show Vb _ _ _ _; rw [← hW, ← hS]; exact (Vb.new _ _ _).push _
  have VR : Hid (Vb W (s + 1) #[.int .i64 0, .int .i64 0] 31) := by
    have z1 : s + 1 = (w.alloc (.cells #[.slice a0 H.regs.length k0, .int .i64 H.pc, .slice a1 H.csr.length k1, .bool H.halted, .bool H.waiting, .bool H.rung, .int .i64 H.done, .slice a2 H.inn.length k2, .slice a3 H.out.length k3] 26)).heap.size := by rw [← hS]; simp
    show Vb _ _ _ _; rw [← hW, z1]; exact Vb.new _ _ _
  have q0 := VA.out.cell 0 rfl
  have q1 := VA.out.cell 1 rfl
  have q2 := VA.out.cell 2 rfl
  have q3 := VA.out.cell 3 rfl
  have q4 := VA.out.cell 4 rfl
  have q5 := VA.out.cell 5 rfl
  have q6 := VA.out.cell 6 rfl
  have q7 := VA.out.cell 7 rfl
  have q8 := VA.out.cell 8 rfl
  go_enter Try.func6, Try.ntmps6
  go_wp2_with fail
  clear hW hS q0 q1 q2 q3 q4 q5 q6 q7 q8
  refine (i_seen _ _ _ _ H pa pn pc ps ma mn mc zs b W (HM.out.keep B0.out) (HP.out.keep B0.out) HL.out.1 (HZ.out.keep B0.out) HL.out.2).mono ?_
  rintro e w1 ⟨rfl, b1⟩
  have B1 : Hid (Below w.heap.size w w1) := on B0.out b1
  have VA1 : Hid (Vb w1 s #[.slice a0 H.regs.length k0, .int .i64 H.pc, .slice a1 H.csr.length k1, .bool H.halted, .bool H.waiting, .bool H.rung, .int .i64 H.done, .slice a2 H.inn.length k2, .slice a3 H.out.length k3] 26) := VA.out.keep b1
  have VR1 : Hid (Vb w1 (s + 1) #[.int .i64 0, .int .i64 0] 31) := VR.out.keep b1
  have M1 : Hid (Hm w1 b _ _ _ _ H) := HM.out.keep B1.out
  have P1 : Hid (Prs 73 w1 b (.slice pa pn pc) ps) := HP.out.keep B1.out
  have Z1 : Hid (Nums w1 b (.slice ma mn mc) zs) := HZ.out.keep B1.out
  have LW : Hid (w.heap.size ≤ w1.heap.size) := B1.out.size
  clear b1 VA VR HM HP HZ
  by_cases hf : seenC H ps zs = 0
  case neg =>
    have HE : Hid (poC H ps zs x k = seenC H ps zs ∧ poV H ps zs x k = 0) := ⟨if_neg hf, if_neg hf⟩
    generalize seenC H ps zs = f at *
    have p0 := VR1.out.cell 0 rfl
    have f0 := VR1.out.free 0
    have p1 := VR1.out.cell 1 rfl
    have f1 := VR1.out.free 1
    go_wp2_with fail
    have NN : Hid (_ ∧ _) := twoX VR1.out (.int .i64 f) (.int .i64 0)
    clear p0 f0 p1 f1
    generalize hVV : ((w1.setCell ⟨s + 1, 0, none⟩ (.int .i64 f)).setCell ⟨s + 1, 1, none⟩ (.int .i64 0)) = V at *
    have x0 := NN.out.1.cell 0 rfl
    have x1 := NN.out.1.cell 1 rfl
    exact bodyPost_ret (v := .agg #[.int .i64 f, .int .i64 0]) (by simp [results, Try.results6, go_sem, x0, x1]) rfl
      ⟨by rw [HE.out.1, HE.out.2], Mq.under B1.out NN.out.2 fun k e => by have := HS.out; omega⟩
  have HF : Hid (seenC H ps zs = 0) := hf
  rw [hf]
  obtain ⟨p, sn⟩ := seen_ok hf
  have SN : Hid (Sn H ps zs p) := sn
  obtain rfl : mn = p * 8 := by have := Z1.out.len; have := sn.zl; omega
  obtain ⟨ga, gc, hv, -, -, hg⟩ := Z1.out.shape
  obtain ⟨gm, hg⟩ := hg (by have := sn.zl; have := sn.p1; omega)
  simp only [Value.slice.injEq] at hv
  obtain ⟨hv1, -, -⟩ := hv
  rw [hg] at hv1
  subst hv1
  clear hg
  obtain ⟨pa', pc', hv, -, -, hg⟩ := P1.out.shape
  obtain ⟨pg, hg⟩ := hg (by have := sn.l8; omega)
  simp only [Value.slice.injEq] at hv
  obtain ⟨hv1, hv2, -⟩ := hv
  rw [hg] at hv1
  subst hv1
  rw [sn.l8] at hv2
  subst hv2
  clear hg hf sn
  cases hk : kindB k
  case false =>
    have HE : Hid (poC H ps zs x k = 3 ∧ poV H ps zs x k = 0) := ⟨by rw [poC, if_pos HF.out, hk]; rfl, by rw [poV, if_pos HF.out, hk]; rfl⟩
    have p0 := VR1.out.cell 0 rfl
    have f0 := VR1.out.free 0
    have p1 := VR1.out.cell 1 rfl
    have f1 := VR1.out.free 1
    go_wp2_with (go_at_call 17; refine (impl_kind k _).mono ?_; rintro e z ⟨rfl, hz⟩; rw [hz, hk]; clear hz z)
    have NN : Hid (_ ∧ _) := twoX VR1.out (.int .i64 3) (.int .i64 0)
    clear p0 f0 p1 f1
    generalize hVV : ((w1.setCell ⟨s + 1, 0, none⟩ (.int .i64 3)).setCell ⟨s + 1, 1, none⟩ (.int .i64 0)) = V at *
    have x0 := NN.out.1.cell 0 rfl
    have x1 := NN.out.1.cell 1 rfl
    exact bodyPost_ret (v := .agg #[.int .i64 3, .int .i64 0]) (by simp [results, Try.results6, go_sem, x0, x1]) rfl
      ⟨by rw [HE.out.1, HE.out.2], Mq.under B1.out NN.out.2 fun k e => by have := HS.out; omega⟩
  have HE : Hid (poC H ps zs x k = plC H ps zs x k ∧ poV H ps zs x k = plV H ps zs x k) := ⟨by rw [poC, if_pos HF.out, hk]; rfl, by rw [poV, if_pos HF.out, hk]; rfl⟩
  have HK : Hid (kindB k = true) := hk
  have q0 := VA1.out.cell 0 rfl
  have q1 := VA1.out.cell 1 rfl
  have q2 := VA1.out.cell 2 rfl
  have q3 := VA1.out.cell 3 rfl
  have q4 := VA1.out.cell 4 rfl
  have q5 := VA1.out.cell 5 rfl
  have q6 := VA1.out.cell 6 rfl
  have q7 := VA1.out.cell 7 rfl
  have q8 := VA1.out.cell 8 rfl
  go_wp2_with (go_at_call 17; refine (impl_kind k _).mono ?_; rintro e z ⟨rfl, hz⟩; rw [hz, hk]; clear hz z)
  clear hk
  clear q0 q1 q2 q3 q4 q5 q6 q7 q8
  refine (i_runner _ _ _ _ H (some ⟨pg, 0, none⟩) 8 pc gm (p * 8) mc zs b p w1 M1.out SN.out.hok Z1.out SN.out.zl SN.out.p24 SN.out.p1).mono ?_
  rintro e w2 ⟨i2, o2, g, rfl, mi, mo, ap, gs, b2⟩
  obtain ⟨xa, xk, rfl, _⟩ := mi.shape
  obtain ⟨ya, yk, rfl, _⟩ := mo.shape
  generalize hxn : H.inn.length = xn at *
  generalize hyn : H.out.length = yn at *
  have hst := mcr_store H xa xn xk ya yn yk (some ⟨pg, 0, none⟩) 8 pc (some ⟨g, 0, none⟩) p p (-1) (-1) w2
  have hsz := mcr_size H (.slice xa xn xk) (.slice ya yn yk) (.slice (some ⟨pg, 0, none⟩) 8 pc) (.slice (some ⟨g, 0, none⟩) p p) (-1) (-1)
  have GS : Hid (Pags w2 w1.heap.size (.slice (some ⟨g, 0, none⟩) p p) p zs) := gs
  have B2 : Hid (Below w.heap.size w w2) := on B1.out b2
  have VR2 : Hid (Vb w2 (s + 1) #[.int .i64 0, .int .i64 0] 31) := VR1.out.keep b2
  have P2 : Hid (Prs 73 w2 b (.slice (some ⟨pg, 0, none⟩) 8 pc) ps) := P1.out.keep b2
  clear mi mo ap b2 hxn hyn gs
  go_wp2_with fail
  generalize hW3 : w2.alloc (.cells (mcr H (.slice xa xn xk) (.slice ya yn yk) (.slice (some ⟨pg, 0, none⟩) 8 pc) (.slice (some ⟨g, 0, none⟩) p p) (-1) (-1)) 55) = W3
  obtain ⟨m, hm⟩ : ∃ m, w2.heap.size = m := ⟨_, rfl⟩
  rw [hm]
  have V3 : Hid (Vb W3 m (mcr H (.slice xa xn xk) (.slice ya yn yk) (.slice (some ⟨pg, 0, none⟩) 8 pc) (.slice (some ⟨g, 0, none⟩) p p) (-1) (-1)) 55) := by show Vb _ _ _ _; rw [← hW3, ← hm]; exact Vb.new _ _ _
  have bb : Below w2.heap.size w2 W3 := by rw [← hW3]; exact al (Below.refl _ _) _
  have B3 : Hid (Below w.heap.size w W3) := on B2.out bb
  have VR3 : Hid (Vb W3 (s + 1) #[.int .i64 0, .int .i64 0] 31) := VR2.out.keep bb
  have P3 : Hid (Prs 73 W3 0 (.slice (some ⟨pg, 0, none⟩) 8 pc) ps) := (P2.out.keep bb).mono (Nat.zero_le _)
  have G3 : Hid (Pags W3 0 (.slice (some ⟨g, 0, none⟩) p p) p zs) := (GS.out.keep bb).mono (Nat.zero_le _)
  have L3 : Hid (w.heap.size ≤ W3.heap.size) := B3.out.size
  clear hst hsz hW3 hm bb
  refine (i_place m (.slice xa xn xk) (.slice ya yn yk) H pg pc ps g p zs (-1) (-1) 0 W3 V3.out P3.out G3.out SN.out x k HK.out).mono ?_
  rintro e w4 ⟨rfl, b4⟩
  have B4 : Hid (Below w.heap.size w w4) := on B3.out b4
  have VR4 : Hid (Vb w4 (s + 1) #[.int .i64 0, .int .i64 0] 31) := VR3.out.keep b4
  clear b4
  generalize plC H ps zs x k = d at *
  generalize plV H ps zs x k = v at *
  have p0 := VR4.out.cell 0 rfl
  have f0 := VR4.out.free 0
  have p1 := VR4.out.cell 1 rfl
  have f1 := VR4.out.free 1
  go_wp2_with fail
  have NN : Hid (_ ∧ _) := twoX VR4.out (.int .i64 d) (.int .i64 v)
  clear p0 f0 p1 f1
  generalize hVV : ((w4.setCell ⟨s + 1, 0, none⟩ (.int .i64 d)).setCell ⟨s + 1, 1, none⟩ (.int .i64 v)) = V at *
  have x0 := NN.out.1.cell 0 rfl
  have x1 := NN.out.1.cell 1 rfl
  exact bodyPost_ret (v := .agg #[.int .i64 d, .int .i64 v]) (by simp [results, Try.results6, go_sem, x0, x1]) rfl
    ⟨by rw [HE.out.1, HE.out.2], Mq.under B4.out NN.out.2 fun k e => by have := HS.out; omega⟩
set_option maxRecDepth 20000 in
set_option maxHeartbeats 8000000 in
theorem s_placeOf (r c i o : Value) (H : Ht) (pa : Option Addr) (pn pc : Nat) (ps : List (Int × Int)) (ma : Option Addr) (mn mc : Nat) (zs : List Int) (x k : Int) (b : Nat) (w : World) (h : Hm w b r c i o H) (hP : Prs 73 w b (.slice pa pn pc) ps) (hl : ps.length ≤ 1048576) (hM : Nums w b (.slice ma mn mc) zs) (hm : zs.length ≤ 1048576) :
    Calls Try.prog 9 #[.agg #[r, .int .i64 H.pc, c, .bool H.halted, .bool H.waiting, .bool H.rung, .int .i64 H.done, i, o], .slice pa pn pc, .slice ma mn mc, .int .i64 x, .int .i64 k] w fun e w' => e = .returned (.agg #[.int .i64 (poC H ps zs x k), .int .i64 (poV H ps zs x k)]) ∧ Below w.heap.size w w' := by
  have HM : Hid (Hm w b r c i o H) := h
  have HP : Hid (Prs 73 w b (.slice pa pn pc) ps) := hP
  have HZ : Hid (Nums w b (.slice ma mn mc) zs) := hM
  have HL : Hid (ps.length ≤ 1048576 ∧ zs.length ≤ 1048576) := ⟨hl, hm⟩
  obtain ⟨a0, k0, rfl, _⟩ := h.r.shape
  obtain ⟨a1, k1, rfl, _⟩ := h.c.shape
  obtain ⟨a2, k2, rfl, _⟩ := h.i.shape
  obtain ⟨a3, k3, rfl, _⟩ := h.o.shape
  clear h hP hl hM hm
  generalize hW : (w.alloc (.cells #[.slice a0 H.regs.length k0, .int .i64 H.pc, .slice a1 H.csr.length k1, .bool H.halted, .bool H.waiting, .bool H.rung, .int .i64 H.done, .slice a2 H.inn.length k2, .slice a3 H.out.length k3] 26)).alloc (.cells #[.int .i64 0, .int .i64 0] 31) = W
  have B0 : Hid (Below w.heap.size w W) := by show Below _ _ _; rw [← hW]; exact al (al (Below.refl _ _) _) _
  obtain ⟨s, hS⟩ : ∃ s, w.heap.size = s := ⟨_, rfl⟩
  have HS : Hid (w.heap.size = s) := hS
  have VA : Hid (Vb W s #[.slice a0 H.regs.length k0, .int .i64 H.pc, .slice a1 H.csr.length k1, .bool H.halted, .bool H.waiting, .bool H.rung, .int .i64 H.done, .slice a2 H.inn.length k2, .slice a3 H.out.length k3] 26) := by
    show Vb _ _ _ _; rw [← hW, ← hS]; exact (Vb.new _ _ _).push _
  have VR : Hid (Vb W (s + 1) #[.int .i64 0, .int .i64 0] 31) := by
    have z1 : s + 1 = (w.alloc (.cells #[.slice a0 H.regs.length k0, .int .i64 H.pc, .slice a1 H.csr.length k1, .bool H.halted, .bool H.waiting, .bool H.rung, .int .i64 H.done, .slice a2 H.inn.length k2, .slice a3 H.out.length k3] 26)).heap.size := by rw [← hS]; simp
    show Vb _ _ _ _; rw [← hW, z1]; exact Vb.new _ _ _
  have q0 := VA.out.cell 0 rfl
  have q1 := VA.out.cell 1 rfl
  have q2 := VA.out.cell 2 rfl
  have q3 := VA.out.cell 3 rfl
  have q4 := VA.out.cell 4 rfl
  have q5 := VA.out.cell 5 rfl
  have q6 := VA.out.cell 6 rfl
  have q7 := VA.out.cell 7 rfl
  have q8 := VA.out.cell 8 rfl
  go_enter Try.func9, Try.ntmps9
  go_wp2_with fail
  clear hW hS q0 q1 q2 q3 q4 q5 q6 q7 q8
  refine (s_asked s _ _ _ _ H pa pn pc ps ma mn mc zs b W (HM.out.keep B0.out) VA.out (HP.out.keep B0.out) HL.out.1 (HZ.out.keep B0.out) HL.out.2).mono ?_
  rintro e w1 ⟨rfl, hw1⟩
  have b1 : Below W.heap.size W w1 := by rw [hw1]; exact Below.refl _ _
  clear hw1
  have B1 : Hid (Below w.heap.size w w1) := on B0.out b1
  have VA1 : Hid (Vb w1 s #[.slice a0 H.regs.length k0, .int .i64 H.pc, .slice a1 H.csr.length k1, .bool H.halted, .bool H.waiting, .bool H.rung, .int .i64 H.done, .slice a2 H.inn.length k2, .slice a3 H.out.length k3] 26) := VA.out.keep b1
  have VR1 : Hid (Vb w1 (s + 1) #[.int .i64 0, .int .i64 0] 31) := VR.out.keep b1
  have M1 : Hid (Hm w1 b _ _ _ _ H) := HM.out.keep B1.out
  have P1 : Hid (Prs 73 w1 b (.slice pa pn pc) ps) := HP.out.keep B1.out
  have Z1 : Hid (Nums w1 b (.slice ma mn mc) zs) := HZ.out.keep B1.out
  have LW : Hid (w.heap.size ≤ w1.heap.size) := B1.out.size
  clear b1 VA VR HM HP HZ
  by_cases hf : seenC H ps zs = 0
  case neg =>
    have HE : Hid (poC H ps zs x k = seenC H ps zs ∧ poV H ps zs x k = 0) := ⟨if_neg hf, if_neg hf⟩
    generalize seenC H ps zs = f at *
    have p0 := VR1.out.cell 0 rfl
    have f0 := VR1.out.free 0
    have p1 := VR1.out.cell 1 rfl
    have f1 := VR1.out.free 1
    go_wp2_with fail
    have NN : Hid (_ ∧ _) := twoX VR1.out (.int .i64 f) (.int .i64 0)
    clear p0 f0 p1 f1
    generalize hVV : ((w1.setCell ⟨s + 1, 0, none⟩ (.int .i64 f)).setCell ⟨s + 1, 1, none⟩ (.int .i64 0)) = V at *
    have x0 := NN.out.1.cell 0 rfl
    have x1 := NN.out.1.cell 1 rfl
    exact bodyPost_ret (v := .agg #[.int .i64 f, .int .i64 0]) (by simp [results, Try.results9, go_sem, x0, x1]) rfl
      ⟨by rw [HE.out.1, HE.out.2], Mq.under B1.out NN.out.2 fun k e => by have := HS.out; omega⟩
  have HF : Hid (seenC H ps zs = 0) := hf
  rw [hf]
  obtain ⟨p, sn⟩ := seen_ok hf
  have SN : Hid (Sn H ps zs p) := sn
  obtain rfl : mn = p * 8 := by have := Z1.out.len; have := sn.zl; omega
  obtain ⟨ga, gc, hv, -, -, hg⟩ := Z1.out.shape
  obtain ⟨gm, hg⟩ := hg (by have := sn.zl; have := sn.p1; omega)
  simp only [Value.slice.injEq] at hv
  obtain ⟨hv1, -, -⟩ := hv
  rw [hg] at hv1
  subst hv1
  clear hg
  obtain ⟨pa', pc', hv, -, -, hg⟩ := P1.out.shape
  obtain ⟨pg, hg⟩ := hg (by have := sn.l8; omega)
  simp only [Value.slice.injEq] at hv
  obtain ⟨hv1, hv2, -⟩ := hv
  rw [hg] at hv1
  subst hv1
  rw [sn.l8] at hv2
  subst hv2
  clear hg hf sn
  cases hk : kindB k
  case false =>
    have HE : Hid (poC H ps zs x k = 3 ∧ poV H ps zs x k = 0) := ⟨by rw [poC, if_pos HF.out, hk]; rfl, by rw [poV, if_pos HF.out, hk]; rfl⟩
    have p0 := VR1.out.cell 0 rfl
    have f0 := VR1.out.free 0
    have p1 := VR1.out.cell 1 rfl
    have f1 := VR1.out.free 1
    go_wp2_with (go_at_call 23; refine (spec_kind k _).mono ?_; rintro e z ⟨rfl, hz⟩; rw [hz, hk]; clear hz z)
    have NN : Hid (_ ∧ _) := twoX VR1.out (.int .i64 3) (.int .i64 0)
    clear p0 f0 p1 f1
    generalize hVV : ((w1.setCell ⟨s + 1, 0, none⟩ (.int .i64 3)).setCell ⟨s + 1, 1, none⟩ (.int .i64 0)) = V at *
    have x0 := NN.out.1.cell 0 rfl
    have x1 := NN.out.1.cell 1 rfl
    exact bodyPost_ret (v := .agg #[.int .i64 3, .int .i64 0]) (by simp [results, Try.results9, go_sem, x0, x1]) rfl
      ⟨by rw [HE.out.1, HE.out.2], Mq.under B1.out NN.out.2 fun k e => by have := HS.out; omega⟩
  have HE : Hid (poC H ps zs x k = plC H ps zs x k ∧ poV H ps zs x k = plV H ps zs x k) := ⟨by rw [poC, if_pos HF.out, hk]; rfl, by rw [poV, if_pos HF.out, hk]; rfl⟩
  have HK : Hid (kindB k = true) := hk
  have q0 := VA1.out.cell 0 rfl
  have q1 := VA1.out.cell 1 rfl
  have q2 := VA1.out.cell 2 rfl
  have q3 := VA1.out.cell 3 rfl
  have q4 := VA1.out.cell 4 rfl
  have q5 := VA1.out.cell 5 rfl
  have q6 := VA1.out.cell 6 rfl
  have q7 := VA1.out.cell 7 rfl
  have q8 := VA1.out.cell 8 rfl
  go_wp2_with (go_at_call 23; refine (spec_kind k _).mono ?_; rintro e z ⟨rfl, hz⟩; rw [hz, hk]; clear hz z)
  clear hk
  clear q0 q1 q2 q3 q4 q5 q6 q7 q8
  generalize hW3 : w1.alloc (.cells #[.slice (some ⟨pg, 0, none⟩) 8 pc, .slice (some ⟨gm, 0, none⟩) (p * 8) mc, .int .i64 0, .slice a0 H.regs.length k0, .int .i64 H.pc, .slice a1 H.csr.length k1, .bool H.halted, .bool H.waiting, .bool H.rung, .int .i64 H.done, .slice a2 H.inn.length k2, .slice a3 H.out.length k3, .int .i64 0] 65) = W3
  obtain ⟨m, hm⟩ : ∃ m, w1.heap.size = m := ⟨_, rfl⟩
  rw [hm]
  have V3 : Hid (Vb W3 m #[.slice (some ⟨pg, 0, none⟩) 8 pc, .slice (some ⟨gm, 0, none⟩) (p * 8) mc, .int .i64 0, .slice a0 H.regs.length k0, .int .i64 H.pc, .slice a1 H.csr.length k1, .bool H.halted, .bool H.waiting, .bool H.rung, .int .i64 H.done, .slice a2 H.inn.length k2, .slice a3 H.out.length k3, .int .i64 0] 65) := by show Vb _ _ _ _; rw [← hW3, ← hm]; exact Vb.new _ _ _
  have bb : Below w1.heap.size w1 W3 := by rw [← hW3]; exact al (Below.refl _ _) _
  have B3 : Hid (Below w.heap.size w W3) := on B1.out bb
  have VR3 : Hid (Vb W3 (s + 1) #[.int .i64 0, .int .i64 0] 31) := VR1.out.keep bb
  have P3 : Hid (Prs 73 W3 b (.slice (some ⟨pg, 0, none⟩) 8 pc) ps) := P1.out.keep bb
  have Z3 : Hid (Nums W3 b (.slice (some ⟨gm, 0, none⟩) (p * 8) mc) zs) := Z1.out.keep bb
  have C3 : Hid (Nums W3 b (.slice a1 H.csr.length k1) H.csr) := M1.out.c.keep bb
  have L3 : Hid (w.heap.size ≤ W3.heap.size) := B3.out.size
  clear hW3 hm bb
  refine (s_place m _ _ _ _ H pg pc ps gm p mc zs 0 0 b W3 V3.out C3.out P3.out Z3.out SN.out x k HK.out).mono ?_
  rintro e w4 ⟨rfl, b4⟩
  have B4 : Hid (Below w.heap.size w w4) := on B3.out b4
  have VR4 : Hid (Vb w4 (s + 1) #[.int .i64 0, .int .i64 0] 31) := VR3.out.keep b4
  have PZ : Hid (¬ plC H ps zs x k = 0 → plV H ps zs x k = 0) := plV_zero
  clear b4
  generalize plC H ps zs x k = d at *
  generalize plV H ps zs x k = v at *
  by_cases hd : d = 0
  case neg =>
    have hdb : (d != 0) = true := by simpa using hd
    obtain rfl : v = 0 := PZ.out hd
    clear hd
    have p0 := VR4.out.cell 0 rfl
    have f0 := VR4.out.free 0
    have p1 := VR4.out.cell 1 rfl
    have f1 := VR4.out.free 1
    go_wp2_with fail
    have NN : Hid (_ ∧ _) := twoX VR4.out (.int .i64 d) (.int .i64 0)
    clear p0 f0 p1 f1
    generalize hVV : ((w4.setCell ⟨s + 1, 0, none⟩ (.int .i64 d)).setCell ⟨s + 1, 1, none⟩ (.int .i64 0)) = V at *
    have x0 := NN.out.1.cell 0 rfl
    have x1 := NN.out.1.cell 1 rfl
    exact bodyPost_ret (v := .agg #[.int .i64 d, .int .i64 0]) (by simp [results, Try.results9, go_sem, x0, x1]) rfl
      ⟨by rw [HE.out.1, HE.out.2], Mq.under B4.out NN.out.2 fun k e => by have := HS.out; omega⟩
  subst hd
  have p0 := VR4.out.cell 0 rfl
  have f0 := VR4.out.free 0
  have p1 := VR4.out.cell 1 rfl
  have f1 := VR4.out.free 1
  go_wp2_with fail
  have NN : Hid (_ ∧ _) := twoX VR4.out (.int .i64 0) (.int .i64 v)
  clear p0 f0 p1 f1
  generalize hVV : ((w4.setCell ⟨s + 1, 0, none⟩ (.int .i64 0)).setCell ⟨s + 1, 1, none⟩ (.int .i64 v)) = V at *
  have x0 := NN.out.1.cell 0 rfl
  have x1 := NN.out.1.cell 1 rfl
  exact bodyPost_ret (v := .agg #[.int .i64 0, .int .i64 v]) (by simp [results, Try.results9, go_sem, x0, x1]) rfl
    ⟨by rw [HE.out.1, HE.out.2], Mq.under B4.out NN.out.2 fun k e => by have := HS.out; omega⟩
end Go.Proofs.Ytgjpfmcokcjegaa
