/- Texts of this seat, joined. -/
import Derived.Test.YtaefollmeoepkaaGreatDoorQ14
import Derived.Test.YtaefollmeoepkaaGreatDoorQ15
import Derived.Test.YtaefollmeoepkaaGreatDoorQ21
import Derived.Test.YtaefollmeoepkaaGreatDoorQ23
import Derived.Test.YtaefollmeoepkaaGreatDoorQ28
import Derived.Test.YtaefollmeoepkaaGreatDoorQ29
import Derived.Test.YtaefollmeoepkaaGreatDoorQ31
import Derived.Test.YtaefollmeoepkaaGreatDoorQ35
import Derived.Test.YtaefollmeoepkaaGreatDoorQ40
import Derived.Test.YtaefollmeoepkaaGreatDoorQ44
import Derived.Test.YtaefollmeoepkaaGreatDoorQ45
import Derived.Test.YtaefollmeoepkaaGreatDoorQ46
namespace Go.Proofs.YtaefollmeoepkaaGreatDoor
open Go.RowKit
set_option linter.unusedVariables false
set_option maxRecDepth 20000 in
set_option maxHeartbeats 8000000 in
theorem r_result {w : World} {base q : Nat} {i o : Value} {pg pc : Nat} {ps : List (Int × Int)} {g p : Nat} {zs : List Int} {X : Nat → Prop} {H : Ht} {ca ri : Int} (R : Rw w base q i o pg pc ps g p zs H ca ri X) :
    Calls Tryz.prog 37 #[.pointer (some ⟨q, 0, none⟩)] w fun e w' => ∃ r c i' o' m, e = .returned (.agg #[.int .i64 0, .int .i64 ca, .int .i64 ri, r, .int .i64 H.pc, c, .bool H.halted, .bool H.waiting, .bool H.rung, .int .i64 H.done, i', o', m]) ∧ Tm w' w.heap.size r c i' o' m H zs ∧ Below w.heap.size w w' := by
  have HR : Hid (Rw w base q i o pg pc ps g p zs H ca ri X) := R
  clear R
  generalize hW : w.alloc (.cells #[.int .i64 0, .int .i64 0, .int .i64 0, .slice none 0 0, .int .i64 0, .slice none 0 0, .bool false, .bool false, .bool false, .int .i64 0, .slice none 0 0, .slice none 0 0, .slice none 0 0] 31) = W
  have B0 : Hid (Below w.heap.size w W) := by show Below _ _ _; rw [← hW]; exact al (Below.refl _ _) _
  obtain ⟨s, hs⟩ : ∃ s, w.heap.size = s := ⟨_, rfl⟩
  have HS : Hid (w.heap.size = s) := hs
  have VR : Hid (Vb W s #[.int .i64 0, .int .i64 0, .int .i64 0, .slice none 0 0, .int .i64 0, .slice none 0 0, .bool false, .bool false, .bool false, .int .i64 0, .slice none 0 0, .slice none 0 0, .slice none 0 0] 31) := by show Vb _ _ _ _; rw [← hW, ← hs]; exact Vb.new _ _ _
  have LT : Hid (s < W.heap.size) := VR.out.lt
  have S0 : Hid (Sj13 W s W) := ⟨Mq.refl _ _, VR.out.there 13 (by decide)⟩
  have RS : Hid (∀ w', Sj13 W s w' → Rw w' base q i o pg pc ps g p zs H ca ri X) := fun w' hs => HR.out.keep (Mq.under B0.out hs.1 fun k e => by have := HS.out; omega)
  go_enter Tryz.func37, Tryz.ntmps37
  go_wp2_with fail
  clear hW hs
  have SD : Hid (Sj13 W s W.drew) := S0.out.step LT.out (Below.refl _ _).drew
  refine wp_region_held (S := fun w' => Sj13 W s w') (by kernel_rfl) ?_
  change wpAnyH _ _ _ _ _ _ _ _ (World.drew _)
  refine wpTk (i := 0) (v := .pointer (some ⟨q, 0, none⟩)) rfl (Or.inl ⟨by rfl, fun w' hs => by go_simp⟩) SD.out ?_
  change wpAnyH _ _ _ _ _ _ _ (Act.put _ (some 3) _) _
  simp only [Act.put, zT, zZ, zS]
  refine wpTk (i := 1) (v := .pointer (some ⟨q, 0, none⟩)) rfl (Or.inl ⟨by rfl, fun w' hs => by go_simp⟩) SD.out ?_
  change wpAnyH _ _ _ _ _ _ _ (Act.put _ (some 4) _) _
  simp only [Act.put, zT, zZ, zS]
  refine wpTk (i := 2) (v := .pointer (some ⟨q, 36, none⟩)) rfl (Or.inl ⟨by rfl, fun w' hs => by go_simp⟩) SD.out ?_
  change wpAnyH _ _ _ _ _ _ _ (Act.put _ (some 5) _) _
  simp only [Act.put, zT, zZ, zS]
  refine wpTk (i := 3) (v := .int .i64 ca) rfl (Or.inl ⟨by rfl, fun w' hs => by have hc : w'.cell? ⟨q, 36, none⟩ = some (.int .i64 ca) := (RS.out w' hs).v.cell 36 rfl; go_simp⟩) SD.out ?_
  change wpAnyH _ _ _ _ _ _ _ (Act.put _ (some 6) _) _
  simp only [Act.put, zT, zZ, zS]
  refine wpTk (i := 4) (v := .pointer (some ⟨q, 0, none⟩)) rfl (Or.inl ⟨by rfl, fun w' hs => by go_simp⟩) SD.out ?_
  change wpAnyH _ _ _ _ _ _ _ (Act.put _ (some 7) _) _
  simp only [Act.put, zT, zZ, zS]
  refine wpTk (i := 5) (v := .pointer (some ⟨q, 0, none⟩)) rfl (Or.inl ⟨by rfl, fun w' hs => by go_simp⟩) SD.out ?_
  change wpAnyH _ _ _ _ _ _ _ (Act.put _ (some 8) _) _
  simp only [Act.put, zT, zZ, zS]
  refine wpTk (i := 6) (v := .pointer (some ⟨q, 37, none⟩)) rfl (Or.inl ⟨by rfl, fun w' hs => by go_simp⟩) SD.out ?_
  change wpAnyH _ _ _ _ _ _ _ (Act.put _ (some 9) _) _
  simp only [Act.put, zT, zZ, zS]
  refine wpTk (i := 7) (v := .int .i64 ri) rfl (Or.inl ⟨by rfl, fun w' hs => by have hc : w'.cell? ⟨q, 37, none⟩ = some (.int .i64 ri) := (RS.out w' hs).v.cell 37 rfl; go_simp⟩) SD.out ?_
  change wpAnyH _ _ _ _ _ _ _ (Act.put _ (some 10) _) _
  simp only [Act.put, zT, zZ, zS]
  refine wpTk (i := 8) (v := .pointer (some ⟨q, 0, none⟩)) rfl (Or.inl ⟨by rfl, fun w' hs => by go_simp⟩) SD.out ?_
  change wpAnyH _ _ _ _ _ _ _ (Act.put _ (some 11) _) _
  simp only [Act.put, zT, zZ, zS]
  refine wpTk (i := 9) (v := .pointer (some ⟨q, 0, none⟩)) rfl (Or.inl ⟨by rfl, fun w' hs => by go_simp⟩) SD.out ?_
  change wpAnyH _ _ _ _ _ _ _ (Act.put _ (some 12) _) _
  simp only [Act.put, zT, zZ, zS]
  refine wpTk (i := 10) (v := .pointer (some ⟨q, 0, none⟩)) rfl (Or.inl ⟨by rfl, fun w' hs => by go_simp⟩) SD.out ?_
  change wpAnyH _ _ _ _ _ _ _ (Act.put _ (some 13) _) _
  simp only [Act.put, zT, zZ, zS]
  refine wpTk (i := 12) (v := .pointer (some ⟨q, 0, none⟩)) rfl (Or.inl ⟨by rfl, fun w' hs => by go_simp⟩) SD.out ?_
  change wpAnyH _ _ _ _ _ _ _ (Act.put _ (some 15) _) _
  simp only [Act.put, zT, zZ, zS]
  refine wpTk (i := 13) (v := .pointer (some ⟨q, 0, none⟩)) rfl (Or.inl ⟨by rfl, fun w' hs => by go_simp⟩) SD.out ?_
  change wpAnyH _ _ _ _ _ _ _ (Act.put _ (some 16) _) _
  simp only [Act.put, zT, zZ, zS]
  refine wpTk (i := 14) (v := .pointer (some ⟨q, 35, none⟩)) rfl (Or.inl ⟨by rfl, fun w' hs => by go_simp⟩) SD.out ?_
  change wpAnyH _ _ _ _ _ _ _ (Act.put _ (some 17) _) _
  simp only [Act.put, zT, zZ, zS]
  refine wpTk (i := 15) (v := .slice (some ⟨g, 0, none⟩) p p) rfl (Or.inl ⟨by rfl, fun w' hs => by have hc : w'.cell? ⟨q, 35, none⟩ = some (.slice (some ⟨g, 0, none⟩) p p) := (RS.out w' hs).v.cell 35 rfl; go_simp⟩) SD.out ?_
  change wpAnyH _ _ _ _ _ _ _ (Act.put _ (some 18) _) _
  simp only [Act.put, zT, zZ, zS]
  refine zR 11 rfl fun K hK => ?_
  rw [if_pos (by rfl)]
  go_simp
  have R1 := RS.out _ SD.out
  refine (r_hartr q i o _ _ ca ri H _ R1.v R1.hi (by obtain ⟨bo, _, _, ho, _⟩ := R1.ho; exact ho.rv) R1.sn.hok.r16 R1.sn.hok.c11 (by have := R1.sn.hok.i40; omega) (by have := R1.sn.hok.o40; omega)).mono ?_
  clear R1
  rintro e w1 ⟨v0, v1, v2, v3, rfl, m1, A1, b1⟩
  obtain ⟨xa0, xk0, e0, _⟩ := m1.r.shape
  obtain ⟨xa1, xk1, e1, _⟩ := m1.c.shape
  obtain ⟨xa2, xk2, e2, _⟩ := m1.i.shape
  obtain ⟨xa3, xk3, e3, _⟩ := m1.o.shape
  subst e0 e1 e2 e3
  generalize hn0 : H.regs.length = n0 at *
  generalize hn1 : H.csr.length = n1 at *
  generalize hn2 : H.inn.length = n2 at *
  generalize hn3 : H.out.length = n3 at *
  have S1 : Hid (Sj13 W s w1) := SD.out.step LT.out b1
  have N1 : Hid (Hm w1 W.heap.size (.slice xa0 n0 xk0) (.slice xa1 n1 xk1) (.slice xa2 n2 xk2) (.slice xa3 n3 xk3) H) := m1
  have HA : Hid (Ha (.slice xa0 n0 xk0) (.slice xa1 n1 xk1) (.slice xa2 n2 xk2) (.slice xa3 n3 xk3)) := A1
  clear m1 b1 A1 hn0 hn1 hn2 hn3
  refine hK.out _ _ S1.out (fun _ => ?_)
  clear hK K
  refine zR 16 rfl fun K hK => ?_
  rw [if_pos (by rfl)]
  go_simp
  have R2 := RS.out _ S1.out
  refine (impl_join g p p zs base w1 R2.pgs R2.sn.p24).mono ?_
  clear R2
  rintro e w2 ⟨v4, rfl, m2, b2⟩
  obtain ⟨xa4, xk4, e4, _⟩ := m2.shape
  subst e4
  generalize hn4 : zs.length = n4 at *
  have S2 : Hid (Sj13 W s w2) := S1.out.step LT.out b2
  have N2 : Hid (Nums w2 w1.heap.size (.slice xa4 n4 xk4) zs) := m2
  have AM : Hid (Apt (.slice xa0 n0 xk0) (.slice xa4 n4 xk4) ∧ Apt (.slice xa1 n1 xk1) (.slice xa4 n4 xk4) ∧ Apt (.slice xa2 n2 xk2) (.slice xa4 n4 xk4) ∧ Apt (.slice xa3 n3 xk3) (.slice xa4 n4 xk4)) := ⟨N1.out.r.apt m2 (Nat.le_refl _), N1.out.c.apt m2 (Nat.le_refl _), N1.out.i.apt m2 (Nat.le_refl _), N1.out.o.apt m2 (Nat.le_refl _)⟩
  have TM : Hid (Tm w2 W.heap.size (.slice xa0 n0 xk0) (.slice xa1 n1 xk1) (.slice xa2 n2 xk2) (.slice xa3 n3 xk3) (.slice xa4 n4 xk4) H zs) := ⟨N1.out.keep b2, HA.out, m2.mono S1.out.1.size, AM.out.1, AM.out.2.1, AM.out.2.2.1, AM.out.2.2.2⟩
  clear m2 b2 hn4
  refine hK.out _ _ S2.out (fun _ => ?_)
  clear hK K
  refine wpTk (i := 17) (v := .agg #[.int .i64 0, .int .i64 ca, .int .i64 ri, .slice xa0 n0 xk0, .int .i64 H.pc, .slice xa1 n1 xk1, .bool H.halted, .bool H.waiting, .bool H.rung, .int .i64 H.done, .slice xa2 n2 xk2, .slice xa3 n3 xk3, .slice xa4 n4 xk4]) rfl (Or.inl ⟨by rfl, fun w' hs => by go_simp⟩) S2.out ?_
  change wpAnyH _ _ _ _ _ _ _ (Act.put _ (some 20) _) _
  simp only [Act.put, zT, zZ, zS]
  refine zR 18 rfl fun K hK => ?_
  rw [if_pos (by rfl)]
  refine wp_store_mid 31 (.tmp 2) (.tmp 20) rfl s 0 #[.int .i64 0, .int .i64 ca, .int .i64 ri, .slice xa0 n0 xk0, .int .i64 H.pc, .slice xa1 n1 xk1, .bool H.halted, .bool H.waiting, .bool H.rung, .int .i64 H.done, .slice xa2 n2 xk2, .slice xa3 n3 xk3, .slice xa4 n4 xk4] rfl rfl S2.out.2 (by kernel_rfl) (by simp [Value.oneCell']) ?_
  change K (Act.put _ none undef) (World.setCells w2 s 0 [.int .i64 0, .int .i64 ca, .int .i64 ri, .slice xa0 n0 xk0, .int .i64 H.pc, .slice xa1 n1 xk1, .bool H.halted, .bool H.waiting, .bool H.rung, .int .i64 H.done, .slice xa2 n2 xk2, .slice xa3 n3 xk3, .slice xa4 n4 xk4])
  simp only [Act.put]
  have S3 : Hid (Sj13 W s (w2.setCells s 0 [.int .i64 0, .int .i64 ca, .int .i64 ri, .slice xa0 n0 xk0, .int .i64 H.pc, .slice xa1 n1 xk1, .bool H.halted, .bool H.waiting, .bool H.rung, .int .i64 H.done, .slice xa2 n2 xk2, .slice xa3 n3 xk3, .slice xa4 n4 xk4])) := S2.out.set _
  have R3 : Hid ((w2.setCells s 0 [.int .i64 0, .int .i64 ca, .int .i64 ri, .slice xa0 n0 xk0, .int .i64 H.pc, .slice xa1 n1 xk1, .bool H.halted, .bool H.waiting, .bool H.rung, .int .i64 H.done, .slice xa2 n2 xk2, .slice xa3 n3 xk3, .slice xa4 n4 xk4]).rangeAt s 0 [.int .i64 0, .int .i64 ca, .int .i64 ri, .slice xa0 n0 xk0, .int .i64 H.pc, .slice xa1 n1 xk1, .bool H.halted, .bool H.waiting, .bool H.rung, .int .i64 H.done, .slice xa2 n2 xk2, .slice xa3 n3 xk3, .slice xa4 n4 xk4]) := World.rangeAt_setCells_same _ _ _ _ S2.out.2
  have H3 : Hid (Ho W.heap.size w2 (w2.setCells s 0 [.int .i64 0, .int .i64 ca, .int .i64 ri, .slice xa0 n0 xk0, .int .i64 H.pc, .slice xa1 n1 xk1, .bool H.halted, .bool H.waiting, .bool H.rung, .int .i64 H.done, .slice xa2 n2 xk2, .slice xa3 n3 xk3, .slice xa4 n4 xk4])) := (mq_cells s _ w2 0).ho fun k e => by have := LT.out; omega
  generalize w2.setCells s 0 [.int .i64 0, .int .i64 ca, .int .i64 ri, .slice xa0 n0 xk0, .int .i64 H.pc, .slice xa1 n1 xk1, .bool H.halted, .bool H.waiting, .bool H.rung, .int .i64 H.done, .slice xa2 n2 xk2, .slice xa3 n3 xk3, .slice xa4 n4 xk4] = w3 at *
  refine hK.out _ _ S3.out (fun _ => ?_)
  clear hK K
  refine wpAnyH_done (by kernel_rfl) ?_ _
  have B3 : Below w.heap.size w w3 := Mq.under B0.out S3.out.1 fun k e => by have := HS.out; omega
  have LD := run_loadVar_mid (P := Tryz.prog) w3 s 0 31 [.int .i64 0, .int .i64 ca, .int .i64 ri, .slice xa0 n0 xk0, .int .i64 H.pc, .slice xa1 n1 xk1, .bool H.halted, .bool H.waiting, .bool H.rung, .int .i64 H.done, .slice xa2 n2 xk2, .slice xa3 n3 xk3, .slice xa4 n4 xk4] _ R3.out Tryz.underlying31 rfl (by kernel_rfl)
  go_wp2_with fail
  exact bodyPost_ret (v := .agg #[.int .i64 0, .int .i64 ca, .int .i64 ri, .slice xa0 n0 xk0, .int .i64 H.pc, .slice xa1 n1 xk1, .bool H.halted, .bool H.waiting, .bool H.rung, .int .i64 H.done, .slice xa2 n2 xk2, .slice xa3 n3 xk3, .slice xa4 n4 xk4]) (by simp [results, Tryz.results37, asAddr]; rw [LD]) rfl
    ⟨_, _, _, _, _, rfl, (TM.out.ho H3.out).mono B0.out.size, B3⟩
set_option maxRecDepth 20000 in
set_option maxHeartbeats 8000000 in
theorem im_bad (r c i o : Value) (H : Ht) (pa : Option Addr) (pn pc : Nat) (ps : List (Int × Int)) (ma : Option Addr) (mn mc : Nat) (zs : List Int) (n : Int) (b : Nat) (w : World) (h : Hm w b r c i o H) (hP : Prs 36 w b (.slice pa pn pc) ps) (hl : ps.length ≤ 1048576) (hM : Nums w b (.slice ma mn mc) zs) (hm : zs.length ≤ 1048576) (tab : Tab w) (tb : 0 < w.heap.size) (hf : ¬ seenC H ps zs = 0) :
    Calls Tryz.prog 13 #[.agg #[r, .int .i64 H.pc, c, .bool H.halted, .bool H.waiting, .bool H.rung, .int .i64 H.done, i, o], .slice pa pn pc, .slice ma mn mc, .int .i64 n] w fun e w' => ∃ r' c' i' o' m', e = .returned (.agg #[.int .i64 (smV H ps zs n).code, .int .i64 (smV H ps zs n).ca, .int .i64 (smV H ps zs n).ri, r', .int .i64 (smV H ps zs n).H.pc, c', .bool (smV H ps zs n).H.halted, .bool (smV H ps zs n).H.waiting, .bool (smV H ps zs n).H.rung, .int .i64 (smV H ps zs n).H.done, i', o', m']) ∧ Tm w' w.heap.size r' c' i' o' m' (smV H ps zs n).H (smV H ps zs n).zs ∧ Below w.heap.size w w' := by
  have hv : smV H ps zs n = ⟨seenC H ps zs, 0, 0, voidH, []⟩ := if_neg hf
  rw [hv]
  obtain ⟨f, hff⟩ : ∃ f, seenC H ps zs = f := ⟨_, rfl⟩
  rw [hff] at hf ⊢
  have HF : Hid (seenC H ps zs = f) := hff
  have hf2 : (f != 0) = true := by simpa using hf
  clear hv hff hf
  have HM : Hid (Hm w b r c i o H) := h
  have HP : Hid (Prs 36 w b (.slice pa pn pc) ps) := hP
  have HZ : Hid (Nums w b (.slice ma mn mc) zs) := hM
  have HL : Hid (ps.length ≤ 1048576 ∧ zs.length ≤ 1048576) := ⟨hl, hm⟩
  have HT : Hid (Tab w ∧ 0 < w.heap.size) := ⟨tab, tb⟩
  obtain ⟨a0, k0, rfl, _⟩ := h.r.shape
  obtain ⟨a1, k1, rfl, _⟩ := h.c.shape
  obtain ⟨a2, k2, rfl, _⟩ := h.i.shape
  obtain ⟨a3, k3, rfl, _⟩ := h.o.shape
  clear h hP hl hM hm tab tb
  generalize hW : (w.alloc (.cells #[.slice a0 H.regs.length k0, .int .i64 H.pc, .slice a1 H.csr.length k1, .bool H.halted, .bool H.waiting, .bool H.rung, .int .i64 H.done, .slice a2 H.inn.length k2, .slice a3 H.out.length k3] 26)).alloc (.cells #[.int .i64 0, .int .i64 0, .int .i64 0, .slice none 0 0, .int .i64 0, .slice none 0 0, .bool false, .bool false, .bool false, .int .i64 0, .slice none 0 0, .slice none 0 0, .slice none 0 0] 31) = W
  have B0 : Hid (Below w.heap.size w W) := by show Below _ _ _; rw [← hW]; exact al (al (Below.refl _ _) _) _
  obtain ⟨s, hS⟩ : ∃ s, w.heap.size = s := ⟨_, rfl⟩
  have HS : Hid (w.heap.size = s) := hS
  have VA : Hid (Vb W s #[.slice a0 H.regs.length k0, .int .i64 H.pc, .slice a1 H.csr.length k1, .bool H.halted, .bool H.waiting, .bool H.rung, .int .i64 H.done, .slice a2 H.inn.length k2, .slice a3 H.out.length k3] 26) := by
    show Vb _ _ _ _; rw [← hW, ← hS]; exact (Vb.new _ _ _).push _
  have VR : Hid (Vb W (s + 1) #[.int .i64 0, .int .i64 0, .int .i64 0, .slice none 0 0, .int .i64 0, .slice none 0 0, .bool false, .bool false, .bool false, .int .i64 0, .slice none 0 0, .slice none 0 0, .slice none 0 0] 31) := by
    have z1 : s + 1 = (w.alloc (.cells #[.slice a0 H.regs.length k0, .int .i64 H.pc, .slice a1 H.csr.length k1, .bool H.halted, .bool H.waiting, .bool H.rung, .int .i64 H.done, .slice a2 H.inn.length k2, .slice a3 H.out.length k3] 26)).heap.size := by rw [← hS]; simp
    show Vb _ _ _ _; rw [← hW, z1]; exact Vb.new _ _ _
  have q0 := VA.out.cell 0 rfl
  have q1 := VA.out.cell 1 rfl
  have q2 := VA.out.cell 2 rfl
  have q3 := VA.out.cell 3 rfl
  have q4 := VA.out.cell 4 rfl
  have q5 := VA.out.cell 5 rfl
  have q6 := VA.out.cell 6 rfl
  have q7 := VA.out.cell 7 rfl
  have q8 := VA.out.cell 8 rfl
  go_enter Tryz.func13, Tryz.ntmps13
  go_wp2_with fail
  clear hW hS q0 q1 q2 q3 q4 q5 q6 q7 q8
  refine (i_seen _ _ _ _ H pa pn pc ps ma mn mc zs b W (HM.out.keep B0.out) (HP.out.keep B0.out) HL.out.1 (HZ.out.keep B0.out) HL.out.2).mono ?_
  rintro e w1 ⟨rfl, b1⟩
  have B1 : Hid (Below w.heap.size w w1) := on B0.out b1
  have VA1 : Hid (Vb w1 s #[.slice a0 H.regs.length k0, .int .i64 H.pc, .slice a1 H.csr.length k1, .bool H.halted, .bool H.waiting, .bool H.rung, .int .i64 H.done, .slice a2 H.inn.length k2, .slice a3 H.out.length k3] 26) := VA.out.keep b1
  have VR1 : Hid (Vb w1 (s + 1) #[.int .i64 0, .int .i64 0, .int .i64 0, .slice none 0 0, .int .i64 0, .slice none 0 0, .bool false, .bool false, .bool false, .int .i64 0, .slice none 0 0, .slice none 0 0, .slice none 0 0] 31) := VR.out.keep b1
  have M1 : Hid (Hm w1 b _ _ _ _ H) := HM.out.keep B1.out
  have P1 : Hid (Prs 36 w1 b (.slice pa pn pc) ps) := HP.out.keep B1.out
  have Z1 : Hid (Nums w1 b (.slice ma mn mc) zs) := HZ.out.keep B1.out
  clear b1 VA VR HM HP HZ
  rw [HF.out]
  have p0 := VR1.out.cell 0 rfl
  have p1 := VR1.out.cell 1 rfl
  have p2 := VR1.out.cell 2 rfl
  have p3 := VR1.out.cell 3 rfl
  have p4 := VR1.out.cell 4 rfl
  have p5 := VR1.out.cell 5 rfl
  have p6 := VR1.out.cell 6 rfl
  have p7 := VR1.out.cell 7 rfl
  have p8 := VR1.out.cell 8 rfl
  have p9 := VR1.out.cell 9 rfl
  have p10 := VR1.out.cell 10 rfl
  have p11 := VR1.out.cell 11 rfl
  have p12 := VR1.out.cell 12 rfl
  have f0 := VR1.out.free 0
  have f1 := VR1.out.free 1
  have f2 := VR1.out.free 2
  have f3 := VR1.out.free 3
  have f4 := VR1.out.free 4
  have f5 := VR1.out.free 5
  have f6 := VR1.out.free 6
  have f7 := VR1.out.free 7
  have f8 := VR1.out.free 8
  have f9 := VR1.out.free 9
  have f10 := VR1.out.free 10
  have f11 := VR1.out.free 11
  have f12 := VR1.out.free 12
  go_wp2_with fail
  have NN : Hid (_ ∧ _) := thirteenX VR1.out (.int .i64 f) (.int .i64 0) (.int .i64 0) (.slice none 0 0) (.int .i64 0) (.slice none 0 0) (.bool false) (.bool false) (.bool false) (.int .i64 0) (.slice none 0 0) (.slice none 0 0) (.slice none 0 0)
  clear p0 p1 p2 p3 p4 p5 p6 p7 p8 p9 p10 p11 p12 f0 f1 f2 f3 f4 f5 f6 f7 f8 f9 f10 f11 f12
  generalize (((((((((((((w1.setCell ⟨s + 1, 0, none⟩ (.int .i64 f)).setCell ⟨s + 1, 1, none⟩ (.int .i64 0)).setCell ⟨s + 1, 2, none⟩ (.int .i64 0)).setCell ⟨s + 1, 3, none⟩ (.slice none 0 0)).setCell ⟨s + 1, 4, none⟩ (.int .i64 0)).setCell ⟨s + 1, 5, none⟩ (.slice none 0 0)).setCell ⟨s + 1, 6, none⟩ (.bool false)).setCell ⟨s + 1, 7, none⟩ (.bool false)).setCell ⟨s + 1, 8, none⟩ (.bool false)).setCell ⟨s + 1, 9, none⟩ (.int .i64 0)).setCell ⟨s + 1, 10, none⟩ (.slice none 0 0)).setCell ⟨s + 1, 11, none⟩ (.slice none 0 0)).setCell ⟨s + 1, 12, none⟩ (.slice none 0 0)) = V at *
  have x0 := NN.out.1.cell 0 rfl
  have x1 := NN.out.1.cell 1 rfl
  have x2 := NN.out.1.cell 2 rfl
  have x3 := NN.out.1.cell 3 rfl
  have x4 := NN.out.1.cell 4 rfl
  have x5 := NN.out.1.cell 5 rfl
  have x6 := NN.out.1.cell 6 rfl
  have x7 := NN.out.1.cell 7 rfl
  have x8 := NN.out.1.cell 8 rfl
  have x9 := NN.out.1.cell 9 rfl
  have x10 := NN.out.1.cell 10 rfl
  have x11 := NN.out.1.cell 11 rfl
  have x12 := NN.out.1.cell 12 rfl
  exact bodyPost_ret (v := .agg #[.int .i64 f, .int .i64 0, .int .i64 0, .slice none 0 0, .int .i64 0, .slice none 0 0, .bool false, .bool false, .bool false, .int .i64 0, .slice none 0 0, .slice none 0 0, .slice none 0 0]) (by simp [results, Tryz.results13, go_sem, x0, x1, x2, x3, x4, x5, x6, x7, x8, x9, x10, x11, x12]) rfl
    ⟨_, _, _, _, _, rfl, Tm.void _ _, Mq.under B1.out NN.out.2 fun k e => by have := HS.out; omega⟩
set_option maxRecDepth 20000 in
set_option maxHeartbeats 8000000 in
theorem im_low (r c i o : Value) (H : Ht) (pa : Option Addr) (pn pc : Nat) (ps : List (Int × Int)) (ma : Option Addr) (mn mc : Nat) (zs : List Int) (n : Int) (b : Nat) (w : World) (h : Hm w b r c i o H) (hP : Prs 36 w b (.slice pa pn pc) ps) (hl : ps.length ≤ 1048576) (hM : Nums w b (.slice ma mn mc) zs) (hm : zs.length ≤ 1048576) (tab : Tab w) (tb : 0 < w.heap.size) (hf : seenC H ps zs = 0) (hn : ¬ (0 ≤ n ∧ n ≤ 500)) (h0 : n < 0) :
    Calls Tryz.prog 13 #[.agg #[r, .int .i64 H.pc, c, .bool H.halted, .bool H.waiting, .bool H.rung, .int .i64 H.done, i, o], .slice pa pn pc, .slice ma mn mc, .int .i64 n] w fun e w' => ∃ r' c' i' o' m', e = .returned (.agg #[.int .i64 (smV H ps zs n).code, .int .i64 (smV H ps zs n).ca, .int .i64 (smV H ps zs n).ri, r', .int .i64 (smV H ps zs n).H.pc, c', .bool (smV H ps zs n).H.halted, .bool (smV H ps zs n).H.waiting, .bool (smV H ps zs n).H.rung, .int .i64 (smV H ps zs n).H.done, i', o', m']) ∧ Tm w' w.heap.size r' c' i' o' m' (smV H ps zs n).H (smV H ps zs n).zs ∧ Below w.heap.size w w' := by
  have hv : smV H ps zs n = ⟨3, 0, 0, voidH, []⟩ := by unfold smV; rw [if_pos hf, if_neg hn]
  rw [hv]
  have HF : Hid (seenC H ps zs = 0) := hf
  clear hv hf
  have HM : Hid (Hm w b r c i o H) := h
  have HP : Hid (Prs 36 w b (.slice pa pn pc) ps) := hP
  have HZ : Hid (Nums w b (.slice ma mn mc) zs) := hM
  have HL : Hid (ps.length ≤ 1048576 ∧ zs.length ≤ 1048576) := ⟨hl, hm⟩
  have HT : Hid (Tab w ∧ 0 < w.heap.size) := ⟨tab, tb⟩
  obtain ⟨a0, k0, rfl, _⟩ := h.r.shape
  obtain ⟨a1, k1, rfl, _⟩ := h.c.shape
  obtain ⟨a2, k2, rfl, _⟩ := h.i.shape
  obtain ⟨a3, k3, rfl, _⟩ := h.o.shape
  clear h hP hl hM hm tab tb
  generalize hW : (w.alloc (.cells #[.slice a0 H.regs.length k0, .int .i64 H.pc, .slice a1 H.csr.length k1, .bool H.halted, .bool H.waiting, .bool H.rung, .int .i64 H.done, .slice a2 H.inn.length k2, .slice a3 H.out.length k3] 26)).alloc (.cells #[.int .i64 0, .int .i64 0, .int .i64 0, .slice none 0 0, .int .i64 0, .slice none 0 0, .bool false, .bool false, .bool false, .int .i64 0, .slice none 0 0, .slice none 0 0, .slice none 0 0] 31) = W
  have B0 : Hid (Below w.heap.size w W) := by show Below _ _ _; rw [← hW]; exact al (al (Below.refl _ _) _) _
  obtain ⟨s, hS⟩ : ∃ s, w.heap.size = s := ⟨_, rfl⟩
  have HS : Hid (w.heap.size = s) := hS
  have VA : Hid (Vb W s #[.slice a0 H.regs.length k0, .int .i64 H.pc, .slice a1 H.csr.length k1, .bool H.halted, .bool H.waiting, .bool H.rung, .int .i64 H.done, .slice a2 H.inn.length k2, .slice a3 H.out.length k3] 26) := by
    show Vb _ _ _ _; rw [← hW, ← hS]; exact (Vb.new _ _ _).push _
  have VR : Hid (Vb W (s + 1) #[.int .i64 0, .int .i64 0, .int .i64 0, .slice none 0 0, .int .i64 0, .slice none 0 0, .bool false, .bool false, .bool false, .int .i64 0, .slice none 0 0, .slice none 0 0, .slice none 0 0] 31) := by
    have z1 : s + 1 = (w.alloc (.cells #[.slice a0 H.regs.length k0, .int .i64 H.pc, .slice a1 H.csr.length k1, .bool H.halted, .bool H.waiting, .bool H.rung, .int .i64 H.done, .slice a2 H.inn.length k2, .slice a3 H.out.length k3] 26)).heap.size := by rw [← hS]; simp
    show Vb _ _ _ _; rw [← hW, z1]; exact Vb.new _ _ _
  have q0 := VA.out.cell 0 rfl
  have q1 := VA.out.cell 1 rfl
  have q2 := VA.out.cell 2 rfl
  have q3 := VA.out.cell 3 rfl
  have q4 := VA.out.cell 4 rfl
  have q5 := VA.out.cell 5 rfl
  have q6 := VA.out.cell 6 rfl
  have q7 := VA.out.cell 7 rfl
  have q8 := VA.out.cell 8 rfl
  go_enter Tryz.func13, Tryz.ntmps13
  go_wp2_with fail
  clear hW hS q0 q1 q2 q3 q4 q5 q6 q7 q8
  refine (i_seen _ _ _ _ H pa pn pc ps ma mn mc zs b W (HM.out.keep B0.out) (HP.out.keep B0.out) HL.out.1 (HZ.out.keep B0.out) HL.out.2).mono ?_
  rintro e w1 ⟨rfl, b1⟩
  have B1 : Hid (Below w.heap.size w w1) := on B0.out b1
  have VA1 : Hid (Vb w1 s #[.slice a0 H.regs.length k0, .int .i64 H.pc, .slice a1 H.csr.length k1, .bool H.halted, .bool H.waiting, .bool H.rung, .int .i64 H.done, .slice a2 H.inn.length k2, .slice a3 H.out.length k3] 26) := VA.out.keep b1
  have VR1 : Hid (Vb w1 (s + 1) #[.int .i64 0, .int .i64 0, .int .i64 0, .slice none 0 0, .int .i64 0, .slice none 0 0, .bool false, .bool false, .bool false, .int .i64 0, .slice none 0 0, .slice none 0 0, .slice none 0 0] 31) := VR.out.keep b1
  have M1 : Hid (Hm w1 b _ _ _ _ H) := HM.out.keep B1.out
  have P1 : Hid (Prs 36 w1 b (.slice pa pn pc) ps) := HP.out.keep B1.out
  have Z1 : Hid (Nums w1 b (.slice ma mn mc) zs) := HZ.out.keep B1.out
  clear b1 VA VR HM HP HZ
  rw [HF.out]
  have p0 := VR1.out.cell 0 rfl
  have p1 := VR1.out.cell 1 rfl
  have p2 := VR1.out.cell 2 rfl
  have p3 := VR1.out.cell 3 rfl
  have p4 := VR1.out.cell 4 rfl
  have p5 := VR1.out.cell 5 rfl
  have p6 := VR1.out.cell 6 rfl
  have p7 := VR1.out.cell 7 rfl
  have p8 := VR1.out.cell 8 rfl
  have p9 := VR1.out.cell 9 rfl
  have p10 := VR1.out.cell 10 rfl
  have p11 := VR1.out.cell 11 rfl
  have p12 := VR1.out.cell 12 rfl
  have f0 := VR1.out.free 0
  have f1 := VR1.out.free 1
  have f2 := VR1.out.free 2
  have f3 := VR1.out.free 3
  have f4 := VR1.out.free 4
  have f5 := VR1.out.free 5
  have f6 := VR1.out.free 6
  have f7 := VR1.out.free 7
  have f8 := VR1.out.free 8
  have f9 := VR1.out.free 9
  have f10 := VR1.out.free 10
  have f11 := VR1.out.free 11
  have f12 := VR1.out.free 12
  go_wp2_with fail
  have NN : Hid (_ ∧ _) := thirteenX VR1.out (.int .i64 3) (.int .i64 0) (.int .i64 0) (.slice none 0 0) (.int .i64 0) (.slice none 0 0) (.bool false) (.bool false) (.bool false) (.int .i64 0) (.slice none 0 0) (.slice none 0 0) (.slice none 0 0)
  clear p0 p1 p2 p3 p4 p5 p6 p7 p8 p9 p10 p11 p12 f0 f1 f2 f3 f4 f5 f6 f7 f8 f9 f10 f11 f12
  generalize (((((((((((((w1.setCell ⟨s + 1, 0, none⟩ (.int .i64 3)).setCell ⟨s + 1, 1, none⟩ (.int .i64 0)).setCell ⟨s + 1, 2, none⟩ (.int .i64 0)).setCell ⟨s + 1, 3, none⟩ (.slice none 0 0)).setCell ⟨s + 1, 4, none⟩ (.int .i64 0)).setCell ⟨s + 1, 5, none⟩ (.slice none 0 0)).setCell ⟨s + 1, 6, none⟩ (.bool false)).setCell ⟨s + 1, 7, none⟩ (.bool false)).setCell ⟨s + 1, 8, none⟩ (.bool false)).setCell ⟨s + 1, 9, none⟩ (.int .i64 0)).setCell ⟨s + 1, 10, none⟩ (.slice none 0 0)).setCell ⟨s + 1, 11, none⟩ (.slice none 0 0)).setCell ⟨s + 1, 12, none⟩ (.slice none 0 0)) = V at *
  have x0 := NN.out.1.cell 0 rfl
  have x1 := NN.out.1.cell 1 rfl
  have x2 := NN.out.1.cell 2 rfl
  have x3 := NN.out.1.cell 3 rfl
  have x4 := NN.out.1.cell 4 rfl
  have x5 := NN.out.1.cell 5 rfl
  have x6 := NN.out.1.cell 6 rfl
  have x7 := NN.out.1.cell 7 rfl
  have x8 := NN.out.1.cell 8 rfl
  have x9 := NN.out.1.cell 9 rfl
  have x10 := NN.out.1.cell 10 rfl
  have x11 := NN.out.1.cell 11 rfl
  have x12 := NN.out.1.cell 12 rfl
  exact bodyPost_ret (v := .agg #[.int .i64 3, .int .i64 0, .int .i64 0, .slice none 0 0, .int .i64 0, .slice none 0 0, .bool false, .bool false, .bool false, .int .i64 0, .slice none 0 0, .slice none 0 0, .slice none 0 0]) (by simp [results, Tryz.results13, go_sem, x0, x1, x2, x3, x4, x5, x6, x7, x8, x9, x10, x11, x12]) rfl
    ⟨_, _, _, _, _, rfl, Tm.void _ _, Mq.under B1.out NN.out.2 fun k e => by have := HS.out; omega⟩
set_option maxRecDepth 20000 in
set_option maxHeartbeats 8000000 in
theorem im_high (r c i o : Value) (H : Ht) (pa : Option Addr) (pn pc : Nat) (ps : List (Int × Int)) (ma : Option Addr) (mn mc : Nat) (zs : List Int) (n : Int) (b : Nat) (w : World) (h : Hm w b r c i o H) (hP : Prs 36 w b (.slice pa pn pc) ps) (hl : ps.length ≤ 1048576) (hM : Nums w b (.slice ma mn mc) zs) (hm : zs.length ≤ 1048576) (tab : Tab w) (tb : 0 < w.heap.size) (hf : seenC H ps zs = 0) (hn : ¬ (0 ≤ n ∧ n ≤ 500)) (h0 : ¬ n < 0) (h5 : 500 < n) :
    Calls Tryz.prog 13 #[.agg #[r, .int .i64 H.pc, c, .bool H.halted, .bool H.waiting, .bool H.rung, .int .i64 H.done, i, o], .slice pa pn pc, .slice ma mn mc, .int .i64 n] w fun e w' => ∃ r' c' i' o' m', e = .returned (.agg #[.int .i64 (smV H ps zs n).code, .int .i64 (smV H ps zs n).ca, .int .i64 (smV H ps zs n).ri, r', .int .i64 (smV H ps zs n).H.pc, c', .bool (smV H ps zs n).H.halted, .bool (smV H ps zs n).H.waiting, .bool (smV H ps zs n).H.rung, .int .i64 (smV H ps zs n).H.done, i', o', m']) ∧ Tm w' w.heap.size r' c' i' o' m' (smV H ps zs n).H (smV H ps zs n).zs ∧ Below w.heap.size w w' := by
  have hv : smV H ps zs n = ⟨3, 0, 0, voidH, []⟩ := by unfold smV; rw [if_pos hf, if_neg hn]
  rw [hv]
  have HF : Hid (seenC H ps zs = 0) := hf
  clear hv hf
  have hn0 : 0 ≤ n := by omega
  have HM : Hid (Hm w b r c i o H) := h
  have HP : Hid (Prs 36 w b (.slice pa pn pc) ps) := hP
  have HZ : Hid (Nums w b (.slice ma mn mc) zs) := hM
  have HL : Hid (ps.length ≤ 1048576 ∧ zs.length ≤ 1048576) := ⟨hl, hm⟩
  have HT : Hid (Tab w ∧ 0 < w.heap.size) := ⟨tab, tb⟩
  obtain ⟨a0, k0, rfl, _⟩ := h.r.shape
  obtain ⟨a1, k1, rfl, _⟩ := h.c.shape
  obtain ⟨a2, k2, rfl, _⟩ := h.i.shape
  obtain ⟨a3, k3, rfl, _⟩ := h.o.shape
  clear h hP hl hM hm tab tb
  generalize hW : (w.alloc (.cells #[.slice a0 H.regs.length k0, .int .i64 H.pc, .slice a1 H.csr.length k1, .bool H.halted, .bool H.waiting, .bool H.rung, .int .i64 H.done, .slice a2 H.inn.length k2, .slice a3 H.out.length k3] 26)).alloc (.cells #[.int .i64 0, .int .i64 0, .int .i64 0, .slice none 0 0, .int .i64 0, .slice none 0 0, .bool false, .bool false, .bool false, .int .i64 0, .slice none 0 0, .slice none 0 0, .slice none 0 0] 31) = W
  have B0 : Hid (Below w.heap.size w W) := by show Below _ _ _; rw [← hW]; exact al (al (Below.refl _ _) _) _
  obtain ⟨s, hS⟩ : ∃ s, w.heap.size = s := ⟨_, rfl⟩
  have HS : Hid (w.heap.size = s) := hS
  have VA : Hid (Vb W s #[.slice a0 H.regs.length k0, .int .i64 H.pc, .slice a1 H.csr.length k1, .bool H.halted, .bool H.waiting, .bool H.rung, .int .i64 H.done, .slice a2 H.inn.length k2, .slice a3 H.out.length k3] 26) := by
    show Vb _ _ _ _; rw [← hW, ← hS]; exact (Vb.new _ _ _).push _
  have VR : Hid (Vb W (s + 1) #[.int .i64 0, .int .i64 0, .int .i64 0, .slice none 0 0, .int .i64 0, .slice none 0 0, .bool false, .bool false, .bool false, .int .i64 0, .slice none 0 0, .slice none 0 0, .slice none 0 0] 31) := by
    have z1 : s + 1 = (w.alloc (.cells #[.slice a0 H.regs.length k0, .int .i64 H.pc, .slice a1 H.csr.length k1, .bool H.halted, .bool H.waiting, .bool H.rung, .int .i64 H.done, .slice a2 H.inn.length k2, .slice a3 H.out.length k3] 26)).heap.size := by rw [← hS]; simp
    show Vb _ _ _ _; rw [← hW, z1]; exact Vb.new _ _ _
  have q0 := VA.out.cell 0 rfl
  have q1 := VA.out.cell 1 rfl
  have q2 := VA.out.cell 2 rfl
  have q3 := VA.out.cell 3 rfl
  have q4 := VA.out.cell 4 rfl
  have q5 := VA.out.cell 5 rfl
  have q6 := VA.out.cell 6 rfl
  have q7 := VA.out.cell 7 rfl
  have q8 := VA.out.cell 8 rfl
  go_enter Tryz.func13, Tryz.ntmps13
  go_wp2_with fail
  clear hW hS q0 q1 q2 q3 q4 q5 q6 q7 q8
  refine (i_seen _ _ _ _ H pa pn pc ps ma mn mc zs b W (HM.out.keep B0.out) (HP.out.keep B0.out) HL.out.1 (HZ.out.keep B0.out) HL.out.2).mono ?_
  rintro e w1 ⟨rfl, b1⟩
  have B1 : Hid (Below w.heap.size w w1) := on B0.out b1
  have VA1 : Hid (Vb w1 s #[.slice a0 H.regs.length k0, .int .i64 H.pc, .slice a1 H.csr.length k1, .bool H.halted, .bool H.waiting, .bool H.rung, .int .i64 H.done, .slice a2 H.inn.length k2, .slice a3 H.out.length k3] 26) := VA.out.keep b1
  have VR1 : Hid (Vb w1 (s + 1) #[.int .i64 0, .int .i64 0, .int .i64 0, .slice none 0 0, .int .i64 0, .slice none 0 0, .bool false, .bool false, .bool false, .int .i64 0, .slice none 0 0, .slice none 0 0, .slice none 0 0] 31) := VR.out.keep b1
  have M1 : Hid (Hm w1 b _ _ _ _ H) := HM.out.keep B1.out
  have P1 : Hid (Prs 36 w1 b (.slice pa pn pc) ps) := HP.out.keep B1.out
  have Z1 : Hid (Nums w1 b (.slice ma mn mc) zs) := HZ.out.keep B1.out
  clear b1 VA VR HM HP HZ
  rw [HF.out]
  have p0 := VR1.out.cell 0 rfl
  have p1 := VR1.out.cell 1 rfl
  have p2 := VR1.out.cell 2 rfl
  have p3 := VR1.out.cell 3 rfl
  have p4 := VR1.out.cell 4 rfl
  have p5 := VR1.out.cell 5 rfl
  have p6 := VR1.out.cell 6 rfl
  have p7 := VR1.out.cell 7 rfl
  have p8 := VR1.out.cell 8 rfl
  have p9 := VR1.out.cell 9 rfl
  have p10 := VR1.out.cell 10 rfl
  have p11 := VR1.out.cell 11 rfl
  have p12 := VR1.out.cell 12 rfl
  have f0 := VR1.out.free 0
  have f1 := VR1.out.free 1
  have f2 := VR1.out.free 2
  have f3 := VR1.out.free 3
  have f4 := VR1.out.free 4
  have f5 := VR1.out.free 5
  have f6 := VR1.out.free 6
  have f7 := VR1.out.free 7
  have f8 := VR1.out.free 8
  have f9 := VR1.out.free 9
  have f10 := VR1.out.free 10
  have f11 := VR1.out.free 11
  have f12 := VR1.out.free 12
  go_wp2_with fail
  have NN : Hid (_ ∧ _) := thirteenX VR1.out (.int .i64 3) (.int .i64 0) (.int .i64 0) (.slice none 0 0) (.int .i64 0) (.slice none 0 0) (.bool false) (.bool false) (.bool false) (.int .i64 0) (.slice none 0 0) (.slice none 0 0) (.slice none 0 0)
  clear p0 p1 p2 p3 p4 p5 p6 p7 p8 p9 p10 p11 p12 f0 f1 f2 f3 f4 f5 f6 f7 f8 f9 f10 f11 f12
  generalize (((((((((((((w1.setCell ⟨s + 1, 0, none⟩ (.int .i64 3)).setCell ⟨s + 1, 1, none⟩ (.int .i64 0)).setCell ⟨s + 1, 2, none⟩ (.int .i64 0)).setCell ⟨s + 1, 3, none⟩ (.slice none 0 0)).setCell ⟨s + 1, 4, none⟩ (.int .i64 0)).setCell ⟨s + 1, 5, none⟩ (.slice none 0 0)).setCell ⟨s + 1, 6, none⟩ (.bool false)).setCell ⟨s + 1, 7, none⟩ (.bool false)).setCell ⟨s + 1, 8, none⟩ (.bool false)).setCell ⟨s + 1, 9, none⟩ (.int .i64 0)).setCell ⟨s + 1, 10, none⟩ (.slice none 0 0)).setCell ⟨s + 1, 11, none⟩ (.slice none 0 0)).setCell ⟨s + 1, 12, none⟩ (.slice none 0 0)) = V at *
  have x0 := NN.out.1.cell 0 rfl
  have x1 := NN.out.1.cell 1 rfl
  have x2 := NN.out.1.cell 2 rfl
  have x3 := NN.out.1.cell 3 rfl
  have x4 := NN.out.1.cell 4 rfl
  have x5 := NN.out.1.cell 5 rfl
  have x6 := NN.out.1.cell 6 rfl
  have x7 := NN.out.1.cell 7 rfl
  have x8 := NN.out.1.cell 8 rfl
  have x9 := NN.out.1.cell 9 rfl
  have x10 := NN.out.1.cell 10 rfl
  have x11 := NN.out.1.cell 11 rfl
  have x12 := NN.out.1.cell 12 rfl
  exact bodyPost_ret (v := .agg #[.int .i64 3, .int .i64 0, .int .i64 0, .slice none 0 0, .int .i64 0, .slice none 0 0, .bool false, .bool false, .bool false, .int .i64 0, .slice none 0 0, .slice none 0 0, .slice none 0 0]) (by simp [results, Tryz.results13, go_sem, x0, x1, x2, x3, x4, x5, x6, x7, x8, x9, x10, x11, x12]) rfl
    ⟨_, _, _, _, _, rfl, Tm.void _ _, Mq.under B1.out NN.out.2 fun k e => by have := HS.out; omega⟩
set_option maxRecDepth 20000 in
set_option maxHeartbeats 8000000 in
theorem im_good (r c i o : Value) (H : Ht) (pa : Option Addr) (pn pc : Nat) (ps : List (Int × Int)) (ma : Option Addr) (mn mc : Nat) (zs : List Int) (n : Int) (b : Nat) (w : World) (h : Hm w b r c i o H) (hP : Prs 36 w b (.slice pa pn pc) ps) (hl : ps.length ≤ 1048576) (hM : Nums w b (.slice ma mn mc) zs) (hm : zs.length ≤ 1048576) (tab : Tab w) (tb : 0 < w.heap.size) (hf : seenC H ps zs = 0) (hn : 0 ≤ n ∧ n ≤ 500) :
    Calls Tryz.prog 13 #[.agg #[r, .int .i64 H.pc, c, .bool H.halted, .bool H.waiting, .bool H.rung, .int .i64 H.done, i, o], .slice pa pn pc, .slice ma mn mc, .int .i64 n] w fun e w' => ∃ r' c' i' o' m', e = .returned (.agg #[.int .i64 (smV H ps zs n).code, .int .i64 (smV H ps zs n).ca, .int .i64 (smV H ps zs n).ri, r', .int .i64 (smV H ps zs n).H.pc, c', .bool (smV H ps zs n).H.halted, .bool (smV H ps zs n).H.waiting, .bool (smV H ps zs n).H.rung, .int .i64 (smV H ps zs n).H.done, i', o', m']) ∧ Tm w' w.heap.size r' c' i' o' m' (smV H ps zs n).H (smV H ps zs n).zs ∧ Below w.heap.size w w' := by
  obtain ⟨N, rfl⟩ : ∃ N : Nat, n = (N : Int) := ⟨n.toNat, by omega⟩
  have hv : smV H ps zs (N : Int) = ⟨0, (manyV ps N (H, zs, -1, -1)).2.2.1, (manyV ps N (H, zs, -1, -1)).2.2.2, (manyV ps N (H, zs, -1, -1)).1, (manyV ps N (H, zs, -1, -1)).2.1⟩ := by unfold smV; rw [if_pos hf, if_pos hn]; rfl
  rw [hv]
  obtain ⟨Y, hY⟩ : ∃ Y, manyV ps N (H, zs, -1, -1) = Y := ⟨_, rfl⟩
  rw [hY]
  have HY : Hid (manyV ps N (H, zs, -1, -1) = Y) := hY
  have HF : Hid (seenC H ps zs = 0) := hf
  have n5 : (N : Int) ≤ 500 := hn.2
  have n0 : ¬ (N : Int) < 0 := by omega
  have n6 : ¬ (500 : Int) < (N : Int) := by omega
  have HN : Hid (N ≤ 500) := by show _ ≤ _; omega
  clear hv hf hn hY
  have HM : Hid (Hm w b r c i o H) := h
  have HP : Hid (Prs 36 w b (.slice pa pn pc) ps) := hP
  have HZ : Hid (Nums w b (.slice ma mn mc) zs) := hM
  have HL : Hid (ps.length ≤ 1048576 ∧ zs.length ≤ 1048576) := ⟨hl, hm⟩
  have HT : Hid (Tab w ∧ 0 < w.heap.size) := ⟨tab, tb⟩
  obtain ⟨a0, k0, rfl, _⟩ := h.r.shape
  obtain ⟨a1, k1, rfl, _⟩ := h.c.shape
  obtain ⟨a2, k2, rfl, _⟩ := h.i.shape
  obtain ⟨a3, k3, rfl, _⟩ := h.o.shape
  clear h hP hl hM hm tab tb
  generalize hW : (w.alloc (.cells #[.slice a0 H.regs.length k0, .int .i64 H.pc, .slice a1 H.csr.length k1, .bool H.halted, .bool H.waiting, .bool H.rung, .int .i64 H.done, .slice a2 H.inn.length k2, .slice a3 H.out.length k3] 26)).alloc (.cells #[.int .i64 0, .int .i64 0, .int .i64 0, .slice none 0 0, .int .i64 0, .slice none 0 0, .bool false, .bool false, .bool false, .int .i64 0, .slice none 0 0, .slice none 0 0, .slice none 0 0] 31) = W
  have B0 : Hid (Below w.heap.size w W) := by show Below _ _ _; rw [← hW]; exact al (al (Below.refl _ _) _) _
  obtain ⟨s, hS⟩ : ∃ s, w.heap.size = s := ⟨_, rfl⟩
  have HS : Hid (w.heap.size = s) := hS
  have VA : Hid (Vb W s #[.slice a0 H.regs.length k0, .int .i64 H.pc, .slice a1 H.csr.length k1, .bool H.halted, .bool H.waiting, .bool H.rung, .int .i64 H.done, .slice a2 H.inn.length k2, .slice a3 H.out.length k3] 26) := by
    show Vb _ _ _ _; rw [← hW, ← hS]; exact (Vb.new _ _ _).push _
  have VR : Hid (Vb W (s + 1) #[.int .i64 0, .int .i64 0, .int .i64 0, .slice none 0 0, .int .i64 0, .slice none 0 0, .bool false, .bool false, .bool false, .int .i64 0, .slice none 0 0, .slice none 0 0, .slice none 0 0] 31) := by
    have z1 : s + 1 = (w.alloc (.cells #[.slice a0 H.regs.length k0, .int .i64 H.pc, .slice a1 H.csr.length k1, .bool H.halted, .bool H.waiting, .bool H.rung, .int .i64 H.done, .slice a2 H.inn.length k2, .slice a3 H.out.length k3] 26)).heap.size := by rw [← hS]; simp
    show Vb _ _ _ _; rw [← hW, z1]; exact Vb.new _ _ _
  have q0 := VA.out.cell 0 rfl
  have q1 := VA.out.cell 1 rfl
  have q2 := VA.out.cell 2 rfl
  have q3 := VA.out.cell 3 rfl
  have q4 := VA.out.cell 4 rfl
  have q5 := VA.out.cell 5 rfl
  have q6 := VA.out.cell 6 rfl
  have q7 := VA.out.cell 7 rfl
  have q8 := VA.out.cell 8 rfl
  go_enter Tryz.func13, Tryz.ntmps13
  go_wp2_with fail
  clear hW hS q0 q1 q2 q3 q4 q5 q6 q7 q8
  refine (i_seen _ _ _ _ H pa pn pc ps ma mn mc zs b W (HM.out.keep B0.out) (HP.out.keep B0.out) HL.out.1 (HZ.out.keep B0.out) HL.out.2).mono ?_
  rintro e w1 ⟨rfl, b1⟩
  have B1 : Hid (Below w.heap.size w w1) := on B0.out b1
  have VA1 : Hid (Vb w1 s #[.slice a0 H.regs.length k0, .int .i64 H.pc, .slice a1 H.csr.length k1, .bool H.halted, .bool H.waiting, .bool H.rung, .int .i64 H.done, .slice a2 H.inn.length k2, .slice a3 H.out.length k3] 26) := VA.out.keep b1
  have VR1 : Hid (Vb w1 (s + 1) #[.int .i64 0, .int .i64 0, .int .i64 0, .slice none 0 0, .int .i64 0, .slice none 0 0, .bool false, .bool false, .bool false, .int .i64 0, .slice none 0 0, .slice none 0 0, .slice none 0 0] 31) := VR.out.keep b1
  have M1 : Hid (Hm w1 b _ _ _ _ H) := HM.out.keep B1.out
  have P1 : Hid (Prs 36 w1 b (.slice pa pn pc) ps) := HP.out.keep B1.out
  have Z1 : Hid (Nums w1 b (.slice ma mn mc) zs) := HZ.out.keep B1.out
  clear b1 VA VR HM HP HZ
  have hf := HF.out
  rw [HF.out]
  obtain ⟨p, sn⟩ := seen_ok hf
  have SN : Hid (Sn H ps zs p) := sn
  obtain rfl : mn = p * 8 := by have := Z1.out.len; have := sn.zl; omega
  obtain ⟨ga, gc, hv, -, -, hg⟩ := Z1.out.shape
  obtain ⟨gm, hg⟩ := hg (by have := sn.zl; have := sn.p1; omega)
  simp only [Value.slice.injEq] at hv
  obtain ⟨hv1, -, -⟩ := hv
  rw [hg] at hv1
  subst hv1
  clear hg
  obtain ⟨pa', pc', hv, -, -, hg⟩ := P1.out.shape
  obtain ⟨pg, hg⟩ := hg (by have := sn.l8; omega)
  simp only [Value.slice.injEq] at hv
  obtain ⟨hv1, hv2, -⟩ := hv
  rw [hg] at hv1
  subst hv1
  rw [sn.l8] at hv2
  subst hv2
  clear hg hf sn
  have q0 := VA1.out.cell 0 rfl
  have q1 := VA1.out.cell 1 rfl
  have q2 := VA1.out.cell 2 rfl
  have q3 := VA1.out.cell 3 rfl
  have q4 := VA1.out.cell 4 rfl
  have q5 := VA1.out.cell 5 rfl
  have q6 := VA1.out.cell 6 rfl
  have q7 := VA1.out.cell 7 rfl
  have q8 := VA1.out.cell 8 rfl
  go_wp2_with fail
  clear q0 q1 q2 q3 q4 q5 q6 q7 q8
  refine (i_runnerX _ _ _ _ H (some ⟨pg, 0, none⟩) 8 pc gm (p * 8) mc zs b p w1 M1.out SN.out.hok Z1.out SN.out.zl SN.out.p24 SN.out.p1).mono ?_
  rintro e w2 ⟨i2, o2, g, rfl, mi, mo, ap, gs, b2, bo, bo1, bo2, bo3, bo4⟩
  obtain ⟨xa, xk, rfl, _⟩ := mi.shape
  obtain ⟨ya, yk, rfl, _⟩ := mo.shape
  have BI : Hid (Nums w2 w1.heap.size (.slice xa H.inn.length xk) H.inn) := mi
  have BO : Hid (Nums w2 bo (.slice ya H.out.length yk) H.out ∧ w1.heap.size ≤ bo ∧ bo ≤ w2.heap.size ∧ ∀ k, (Value.slice xa H.inn.length xk).ownBlock = some k → k < bo ∧ k ≠ g) := ⟨bo3, bo1, bo2, bo4⟩
  have hst := mcr_store H xa H.inn.length xk ya H.out.length yk (some ⟨pg, 0, none⟩) 8 pc (some ⟨g, 0, none⟩) p p (-1) (-1) w2
  have hsz := mcr_size H (.slice xa H.inn.length xk) (.slice ya H.out.length yk) (.slice (some ⟨pg, 0, none⟩) 8 pc) (.slice (some ⟨g, 0, none⟩) p p) (-1) (-1)
  generalize hxn : H.inn.length = xn at *
  generalize hyn : H.out.length = yn at *
  have GS : Hid (Pags w2 w1.heap.size (.slice (some ⟨g, 0, none⟩) p p) p zs) := gs
  have B2 : Hid (Below w.heap.size w w2) := on B1.out b2
  have VR2 : Hid (Vb w2 (s + 1) #[.int .i64 0, .int .i64 0, .int .i64 0, .slice none 0 0, .int .i64 0, .slice none 0 0, .bool false, .bool false, .bool false, .int .i64 0, .slice none 0 0, .slice none 0 0, .slice none 0 0] 31) := VR1.out.keep b2
  have P2 : Hid (Prs 36 w2 b (.slice (some ⟨pg, 0, none⟩) 8 pc) ps) := P1.out.keep b2
  have L2 : Hid (w1.heap.size ≤ w2.heap.size) := b2.size
  clear mi mo ap b2 hxn hyn gs bo1 bo2 bo3 bo4
  go_upto_region 7 with fail
  generalize hW3 : w2.alloc (.cells (mcr H (.slice xa xn xk) (.slice ya yn yk) (.slice (some ⟨pg, 0, none⟩) 8 pc) (.slice (some ⟨g, 0, none⟩) p p) (-1) (-1)) 78) = W3
  obtain ⟨m, hm⟩ : ∃ m, w2.heap.size = m := ⟨_, rfl⟩
  rw [hm]
  have V3 : Vb W3 m (mcr H (.slice xa xn xk) (.slice ya yn yk) (.slice (some ⟨pg, 0, none⟩) 8 pc) (.slice (some ⟨g, 0, none⟩) p p) (-1) (-1)) 78 := by rw [← hW3, ← hm]; exact Vb.new _ _ _
  have bb : Below w2.heap.size w2 W3 := by rw [← hW3]; exact al (Below.refl _ _) _
  have B3 : Hid (Below w.heap.size w W3) := on B2.out bb
  have VR3 : Hid (Vb W3 (s + 1) #[.int .i64 0, .int .i64 0, .int .i64 0, .slice none 0 0, .int .i64 0, .slice none 0 0, .bool false, .bool false, .bool false, .int .i64 0, .slice none 0 0, .slice none 0 0, .slice none 0 0] 31) := VR2.out.keep bb
  have BA : Hid (s + 2 ≤ w1.heap.size ∧ w1.heap.size ≤ m ∧ w.heap.size ≤ w1.heap.size) := ⟨by have := VR1.out.lt; omega, by have := L2.out; omega, B1.out.size⟩
  have RW0 : Hid (∃ i' o', Rw W3 w1.heap.size m i' o' pg pc ps g p zs H (-1) (-1) (fun _ => False)) := by
    refine ⟨.slice xa xn xk, .slice ya yn yk, ⟨V3, (BI.out.keep bb).rv, fun k e => ?_, ⟨bo, BO.out.2.1, Nat.le_trans BO.out.2.2.1 bb.size, BO.out.1.keep bb, fun k e => (BO.out.2.2.2 k e).1⟩, GS.out.keep bb, (P2.out.keep bb).mono (Nat.zero_le _), ?_, BA.out.2.1, ?_, SN.out, (HT.out.1.keep B2.out).keep bb, Nat.lt_of_lt_of_le HT.out.2 BA.out.2.2, fun k e => e.elim⟩⟩
    · obtain ⟨h1, h2⟩ := BI.out.lt k e
      exact ⟨h1, Nat.lt_of_lt_of_le h2 bb.size, by omega, (BO.out.2.2.2 k e).2⟩
    · exact (P1.out.lt pg rfl).2
    · have := (World.ownsRow.lt GS.out g rfl).2
      omega
  clear hst hsz hW3 hm bb V3 GS P2 VR2 B2 BI BO L2
  go_wp2_with fail
  go_loopw [31] (fun k wr => ∃ j : Nat, j ≤ N ∧ k = .int .i64 j ∧ (∃ i' o', Rw wr w1.heap.size m i' o' pg pc ps g p (manyV ps j (H, zs, -1, -1)).2.1 (manyV ps j (H, zs, -1, -1)).1 (manyV ps j (H, zs, -1, -1)).2.2.1 (manyV ps j (H, zs, -1, -1)).2.2.2 (fun _ => False)) ∧ Below w1.heap.size W3 wr) (fun k _ => N - (intOf k).toNat)
  case atStart => exact ⟨0, Nat.zero_le _, rfl, RW0.out, Below.refl _ _⟩
  case round =>
    obtain ⟨j, hj, rfl, ⟨i3, o3, hr⟩, hb⟩ := hrel
    have HR : Hid (Rw wr w1.heap.size m i3 o3 pg pc ps g p (manyV ps j (H, zs, -1, -1)).2.1 (manyV ps j (H, zs, -1, -1)).1 (manyV ps j (H, zs, -1, -1)).2.2.1 (manyV ps j (H, zs, -1, -1)).2.2.2 (fun _ => False)) := hr
    have HB : Hid (Below w1.heap.size W3 wr) := hb
    clear hr hb
    by_cases hlt : j < N
    · have hI : (j : Int) < (N : Int) := by omega
      have J : Hid (j < N) := hlt
      clear hlt
      have STEP := r_step HR.out
      rw [show stepV (manyV ps j (H, zs, -1, -1)).1 ps (manyV ps j (H, zs, -1, -1)).2.1 (manyV ps j (H, zs, -1, -1)).2.2.1 (manyV ps j (H, zs, -1, -1)).2.2.2 = manyV ps (j + 1) (H, zs, -1, -1) from rfl] at STEP
      go_wp2_with (go_at_call 36; refine STEP.mono ?_; clear STEP; rintro e w4 ⟨rfl, i4, o4, r4, b4⟩)
      have HR4 : Hid ((∃ i' o', Rw w4 w1.heap.size m i' o' pg pc ps g p (manyV ps (j + 1) (H, zs, -1, -1)).2.1 (manyV ps (j + 1) (H, zs, -1, -1)).1 (manyV ps (j + 1) (H, zs, -1, -1)).2.2.1 (manyV ps (j + 1) (H, zs, -1, -1)).2.2.2 (fun _ => False)) ∧ Below w1.heap.size W3 w4) := ⟨⟨i4, o4, r4⟩, HB.out.trans b4⟩
      clear r4 b4
      go_wp2_with fail
      go_roundw
      case rel => exact ⟨j + 1, by have := J.out; omega, by go_num, HR4.out.1, HR4.out.2⟩
      case measure => have := J.out; simp [intOf]; omega
    · have hI : ¬ (j : Int) < (N : Int) := by omega
      obtain rfl : j = N := by omega
      rw [HY.out] at HR
      have B5 : Hid (Below w.heap.size w wr) := B3.out.trans (bless HB.out BA.out.2.2)
      have VR5 : Hid (Vb wr (s + 1) #[.int .i64 0, .int .i64 0, .int .i64 0, .slice none 0 0, .int .i64 0, .slice none 0 0, .bool false, .bool false, .bool false, .int .i64 0, .slice none 0 0, .slice none 0 0, .slice none 0 0] 31) := by
        show _ = _
        rw [HB.out.block (s + 1) (by have := BA.out.1; omega)]
        exact VR3.out
      have RR := r_result HR.out
      clear HR HY hlt hj
      go_wp2_with fail
      refine RR.mono ?_
      clear RR
      rintro e w6 ⟨u0, u1, u2, u3, u4, rfl, t6, b6⟩
      obtain ⟨xa0, xk0, e0, _⟩ := t6.h.r.shape
      obtain ⟨xa1, xk1, e1, _⟩ := t6.h.c.shape
      obtain ⟨xa2, xk2, e2, _⟩ := t6.h.i.shape
      obtain ⟨xa3, xk3, e3, _⟩ := t6.h.o.shape
      obtain ⟨xa4, xk4, e4, _⟩ := t6.mm.shape
      subst e0 e1 e2 e3 e4
      generalize hn0 : Y.1.regs.length = m0 at *
      generalize hn1 : Y.1.csr.length = m1 at *
      generalize hn2 : Y.1.inn.length = m2 at *
      generalize hn3 : Y.1.out.length = m3 at *
      generalize hn4 : Y.2.1.length = m4 at *
      have T6 : Hid (Tm w6 w.heap.size (.slice xa0 m0 xk0) (.slice xa1 m1 xk1) (.slice xa2 m2 xk2) (.slice xa3 m3 xk3) (.slice xa4 m4 xk4) Y.1 Y.2.1) := t6.mono B5.out.size
      have T7 : Hid (Tm w6 wr.heap.size (.slice xa0 m0 xk0) (.slice xa1 m1 xk1) (.slice xa2 m2 xk2) (.slice xa3 m3 xk3) (.slice xa4 m4 xk4) Y.1 Y.2.1) := t6
      have B6 : Hid (Below w.heap.size w w6) := on B5.out b6
      have VR6 : Hid (Vb w6 (s + 1) #[.int .i64 0, .int .i64 0, .int .i64 0, .slice none 0 0, .int .i64 0, .slice none 0 0, .bool false, .bool false, .bool false, .int .i64 0, .slice none 0 0, .slice none 0 0, .slice none 0 0] 31) := VR5.out.keep b6
      have LR : Hid (s + 1 < wr.heap.size) := VR5.out.lt
      clear t6 b6 hn0 hn1 hn2 hn3 hn4
      have p0 := VR6.out.cell 0 rfl
      have p1 := VR6.out.cell 1 rfl
      have p2 := VR6.out.cell 2 rfl
      have p3 := VR6.out.cell 3 rfl
      have p4 := VR6.out.cell 4 rfl
      have p5 := VR6.out.cell 5 rfl
      have p6 := VR6.out.cell 6 rfl
      have p7 := VR6.out.cell 7 rfl
      have p8 := VR6.out.cell 8 rfl
      have p9 := VR6.out.cell 9 rfl
      have p10 := VR6.out.cell 10 rfl
      have p11 := VR6.out.cell 11 rfl
      have p12 := VR6.out.cell 12 rfl
      have f0 := VR6.out.free 0
      have f1 := VR6.out.free 1
      have f2 := VR6.out.free 2
      have f3 := VR6.out.free 3
      have f4 := VR6.out.free 4
      have f5 := VR6.out.free 5
      have f6 := VR6.out.free 6
      have f7 := VR6.out.free 7
      have f8 := VR6.out.free 8
      have f9 := VR6.out.free 9
      have f10 := VR6.out.free 10
      have f11 := VR6.out.free 11
      have f12 := VR6.out.free 12
      go_wp2_with fail
      have NN : Hid (_ ∧ _) := thirteenX VR6.out (.int .i64 0) (.int .i64 Y.2.2.1) (.int .i64 Y.2.2.2) (.slice xa0 m0 xk0) (.int .i64 Y.1.pc) (.slice xa1 m1 xk1) (.bool Y.1.halted) (.bool Y.1.waiting) (.bool Y.1.rung) (.int .i64 Y.1.done) (.slice xa2 m2 xk2) (.slice xa3 m3 xk3) (.slice xa4 m4 xk4)
      clear p0 p1 p2 p3 p4 p5 p6 p7 p8 p9 p10 p11 p12 f0 f1 f2 f3 f4 f5 f6 f7 f8 f9 f10 f11 f12
      generalize (((((((((((((w6.setCell ⟨s + 1, 0, none⟩ (.int .i64 0)).setCell ⟨s + 1, 1, none⟩ (.int .i64 Y.2.2.1)).setCell ⟨s + 1, 2, none⟩ (.int .i64 Y.2.2.2)).setCell ⟨s + 1, 3, none⟩ (.slice xa0 m0 xk0)).setCell ⟨s + 1, 4, none⟩ (.int .i64 Y.1.pc)).setCell ⟨s + 1, 5, none⟩ (.slice xa1 m1 xk1)).setCell ⟨s + 1, 6, none⟩ (.bool Y.1.halted)).setCell ⟨s + 1, 7, none⟩ (.bool Y.1.waiting)).setCell ⟨s + 1, 8, none⟩ (.bool Y.1.rung)).setCell ⟨s + 1, 9, none⟩ (.int .i64 Y.1.done)).setCell ⟨s + 1, 10, none⟩ (.slice xa2 m2 xk2)).setCell ⟨s + 1, 11, none⟩ (.slice xa3 m3 xk3)).setCell ⟨s + 1, 12, none⟩ (.slice xa4 m4 xk4)) = V at *
      have TV : Hid (Tm V w.heap.size (.slice xa0 m0 xk0) (.slice xa1 m1 xk1) (.slice xa2 m2 xk2) (.slice xa3 m3 xk3) (.slice xa4 m4 xk4) Y.1 Y.2.1) := (T7.out.ho (NN.out.2.ho fun k e => by have := LR.out; omega)).mono B5.out.size
      have x0 := NN.out.1.cell 0 rfl
      have x1 := NN.out.1.cell 1 rfl
      have x2 := NN.out.1.cell 2 rfl
      have x3 := NN.out.1.cell 3 rfl
      have x4 := NN.out.1.cell 4 rfl
      have x5 := NN.out.1.cell 5 rfl
      have x6 := NN.out.1.cell 6 rfl
      have x7 := NN.out.1.cell 7 rfl
      have x8 := NN.out.1.cell 8 rfl
      have x9 := NN.out.1.cell 9 rfl
      have x10 := NN.out.1.cell 10 rfl
      have x11 := NN.out.1.cell 11 rfl
      have x12 := NN.out.1.cell 12 rfl
      exact bodyPost_ret (v := .agg #[.int .i64 0, .int .i64 Y.2.2.1, .int .i64 Y.2.2.2, .slice xa0 m0 xk0, .int .i64 Y.1.pc, .slice xa1 m1 xk1, .bool Y.1.halted, .bool Y.1.waiting, .bool Y.1.rung, .int .i64 Y.1.done, .slice xa2 m2 xk2, .slice xa3 m3 xk3, .slice xa4 m4 xk4]) (by simp [results, Tryz.results13, go_sem, x0, x1, x2, x3, x4, x5, x6, x7, x8, x9, x10, x11, x12]) rfl
        ⟨_, _, _, _, _, rfl, TV.out, Mq.under B6.out NN.out.2 fun k e => by have := HS.out; omega⟩
theorem i_stepMany (r c i o : Value) (H : Ht) (pa : Option Addr) (pn pc : Nat) (ps : List (Int × Int)) (ma : Option Addr) (mn mc : Nat) (zs : List Int) (n : Int) (b : Nat) (w : World) (h : Hm w b r c i o H) (hP : Prs 36 w b (.slice pa pn pc) ps) (hl : ps.length ≤ 1048576) (hM : Nums w b (.slice ma mn mc) zs) (hm : zs.length ≤ 1048576) (tab : Tab w) (tb : 0 < w.heap.size) :
    Calls Tryz.prog 13 #[.agg #[r, .int .i64 H.pc, c, .bool H.halted, .bool H.waiting, .bool H.rung, .int .i64 H.done, i, o], .slice pa pn pc, .slice ma mn mc, .int .i64 n] w fun e w' => ∃ r' c' i' o' m', e = .returned (.agg #[.int .i64 (smV H ps zs n).code, .int .i64 (smV H ps zs n).ca, .int .i64 (smV H ps zs n).ri, r', .int .i64 (smV H ps zs n).H.pc, c', .bool (smV H ps zs n).H.halted, .bool (smV H ps zs n).H.waiting, .bool (smV H ps zs n).H.rung, .int .i64 (smV H ps zs n).H.done, i', o', m']) ∧ Tm w' w.heap.size r' c' i' o' m' (smV H ps zs n).H (smV H ps zs n).zs ∧ Below w.heap.size w w' := by
  by_cases hf : seenC H ps zs = 0
  · by_cases hn : 0 ≤ n ∧ n ≤ 500
    · exact im_good r c i o H pa pn pc ps ma mn mc zs n b w h hP hl hM hm tab tb hf hn
    · by_cases h0 : n < 0
      · exact im_low r c i o H pa pn pc ps ma mn mc zs n b w h hP hl hM hm tab tb hf hn h0
      · exact im_high r c i o H pa pn pc ps ma mn mc zs n b w h hP hl hM hm tab tb hf hn h0 (by omega)
  · exact im_bad r c i o H pa pn pc ps ma mn mc zs n b w h hP hl hM hm tab tb hf
structure Tr (w : World) (base : Nat) (r c i o m : Value) (H : Ht) (zs : List Int) : Prop where
  h : Hr w r c i o H
  mm : Rv w m zs
  lt : ∀ k, (Own4 r c i o k ∨ m.ownBlock = some k) → k < w.heap.size
theorem Tr.mq {S : Nat → Prop} {w w' : World} {base : Nat} {r c i o m : Value} {H : Ht} {zs : List Int} (s : Tr w base r c i o m H zs) (g : Mq S w w') (hn : ∀ k, (Own4 r c i o k ∨ m.ownBlock = some k) → ¬ S k) : Tr w' base r c i o m H zs :=
  ⟨s.h.mq g fun k e _ => hn k (.inl e), s.mm.mq g fun k e _ => hn k (.inr e), fun k e => Nat.lt_of_lt_of_le (s.lt k e) g.size⟩
theorem Tm.own {w : World} {base : Nat} {r c i o m : Value} {H : Ht} {zs : List Int} (s : Tm w base r c i o m H zs) (k : Nat) (e : Own4 r c i o k ∨ m.ownBlock = some k) : base ≤ k ∧ k < w.heap.size := by
  rcases e with e | e
  · exact s.h.own k e
  · exact s.mm.lt k e
theorem Tm.tr {w : World} {base : Nat} {r c i o m : Value} {H : Ht} {zs : List Int} (s : Tm w base r c i o m H zs) : Tr w base r c i o m H zs := ⟨s.h.hr, s.mm.rv, fun k e => (s.own k e).2⟩
theorem Tm.mq {S : Nat → Prop} {w w' : World} {base : Nat} {r c i o m : Value} {H : Ht} {zs : List Int} (s : Tm w base r c i o m H zs) (g : Mq S w w') (hn : ∀ k, (Own4 r c i o k ∨ m.ownBlock = some k) → ¬ S k) : Tm w' base r c i o m H zs :=
  ⟨g.hm s.h fun k e => hn k (.inl e), s.a, g.nums s.mm fun k e => hn k (.inr e), s.rm, s.cm, s.im, s.om⟩
theorem Tr.void (w : World) (base : Nat) : Tr w base (.slice none 0 0) (.slice none 0 0) (.slice none 0 0) (.slice none 0 0) (.slice none 0 0) voidH [] := (Tm.void w base).tr
theorem Tr.keep {w w' : World} {base : Nat} {r c i o m : Value} {H : Ht} {zs : List Int} (s : Tr w base r c i o m H zs) (b : Below w.heap.size w w') : Tr w' base r c i o m H zs := ⟨s.h.stay b, s.mm.stay b, fun k e => Nat.lt_of_lt_of_le (s.lt k e) b.size⟩
set_option maxRecDepth 20000 in
set_option maxHeartbeats 8000000 in
theorem sm_bad (r c i o : Value) (H : Ht) (pa : Option Addr) (pn pc : Nat) (ps : List (Int × Int)) (ma : Option Addr) (mn mc : Nat) (zs : List Int) (n : Int) (b : Nat) (w : World) (h : Hm w b r c i o H) (hP : Prs 36 w b (.slice pa pn pc) ps) (hl : ps.length ≤ 1048576) (hM : Nums w b (.slice ma mn mc) zs) (hm : zs.length ≤ 1048576) (hf : ¬ seenC H ps zs = 0) :
    Calls Tryz.prog 14 #[.agg #[r, .int .i64 H.pc, c, .bool H.halted, .bool H.waiting, .bool H.rung, .int .i64 H.done, i, o], .slice pa pn pc, .slice ma mn mc, .int .i64 n] w fun e w' => ∃ r' c' i' o' m', e = .returned (.agg #[.int .i64 (smV H ps zs n).code, .int .i64 (smV H ps zs n).ca, .int .i64 (smV H ps zs n).ri, r', .int .i64 (smV H ps zs n).H.pc, c', .bool (smV H ps zs n).H.halted, .bool (smV H ps zs n).H.waiting, .bool (smV H ps zs n).H.rung, .int .i64 (smV H ps zs n).H.done, i', o', m']) ∧ Tr w' w.heap.size r' c' i' o' m' (smV H ps zs n).H (smV H ps zs n).zs ∧ Below w.heap.size w w' := by
  have hv : smV H ps zs n = ⟨seenC H ps zs, 0, 0, voidH, []⟩ := if_neg hf
  rw [hv]
  obtain ⟨f, hff⟩ : ∃ f, seenC H ps zs = f := ⟨_, rfl⟩
  rw [hff] at hf ⊢
  have HF : Hid (seenC H ps zs = f) := hff
  have hf2 : (f != 0) = true := by simpa using hf
  clear hv hff hf
  have HM : Hid (Hm w b r c i o H) := h
  have HP : Hid (Prs 36 w b (.slice pa pn pc) ps) := hP
  have HZ : Hid (Nums w b (.slice ma mn mc) zs) := hM
  have HL : Hid (ps.length ≤ 1048576 ∧ zs.length ≤ 1048576) := ⟨hl, hm⟩
  obtain ⟨a0, k0, rfl, _⟩ := h.r.shape
  obtain ⟨a1, k1, rfl, _⟩ := h.c.shape
  obtain ⟨a2, k2, rfl, _⟩ := h.i.shape
  obtain ⟨a3, k3, rfl, _⟩ := h.o.shape
  clear h hP hl hM hm
  generalize hW : (w.alloc (.cells #[.slice a0 H.regs.length k0, .int .i64 H.pc, .slice a1 H.csr.length k1, .bool H.halted, .bool H.waiting, .bool H.rung, .int .i64 H.done, .slice a2 H.inn.length k2, .slice a3 H.out.length k3] 26)).alloc (.cells #[.int .i64 0, .int .i64 0, .int .i64 0, .slice none 0 0, .int .i64 0, .slice none 0 0, .bool false, .bool false, .bool false, .int .i64 0, .slice none 0 0, .slice none 0 0, .slice none 0 0] 31) = W
  have B0 : Hid (Below w.heap.size w W) := by show Below _ _ _; rw [← hW]; exact al (al (Below.refl _ _) _) _
  obtain ⟨s, hS⟩ : ∃ s, w.heap.size = s := ⟨_, rfl⟩
  have HS : Hid (w.heap.size = s) := hS
  have VA1 : Hid (Vb W s #[.slice a0 H.regs.length k0, .int .i64 H.pc, .slice a1 H.csr.length k1, .bool H.halted, .bool H.waiting, .bool H.rung, .int .i64 H.done, .slice a2 H.inn.length k2, .slice a3 H.out.length k3] 26) := by
    show Vb _ _ _ _; rw [← hW, ← hS]; exact (Vb.new _ _ _).push _
  have VR1 : Hid (Vb W (s + 1) #[.int .i64 0, .int .i64 0, .int .i64 0, .slice none 0 0, .int .i64 0, .slice none 0 0, .bool false, .bool false, .bool false, .int .i64 0, .slice none 0 0, .slice none 0 0, .slice none 0 0] 31) := by
    have z1 : s + 1 = (w.alloc (.cells #[.slice a0 H.regs.length k0, .int .i64 H.pc, .slice a1 H.csr.length k1, .bool H.halted, .bool H.waiting, .bool H.rung, .int .i64 H.done, .slice a2 H.inn.length k2, .slice a3 H.out.length k3] 26)).heap.size := by rw [← hS]; simp
    show Vb _ _ _ _; rw [← hW, z1]; exact Vb.new _ _ _
  go_enter Tryz.func14, Tryz.ntmps14
  go_wp2_with fail
  clear hW hS
  refine (s_asked s _ _ _ _ H pa pn pc ps ma mn mc zs b W (HM.out.keep B0.out) VA1.out (HP.out.keep B0.out) HL.out.1 (HZ.out.keep B0.out) HL.out.2).mono ?_
  rintro e w1 ⟨rfl, hw1⟩
  subst hw1
  have M1 : Hid (Hm w1 b _ _ _ _ H) := HM.out.keep B0.out
  have P1 : Hid (Prs 36 w1 b (.slice pa pn pc) ps) := HP.out.keep B0.out
  have Z1 : Hid (Nums w1 b (.slice ma mn mc) zs) := HZ.out.keep B0.out
  have B1 := B0
  clear HM HP HZ B0
  rw [HF.out]
  have p0 := VR1.out.cell 0 rfl
  have p1 := VR1.out.cell 1 rfl
  have p2 := VR1.out.cell 2 rfl
  have p3 := VR1.out.cell 3 rfl
  have p4 := VR1.out.cell 4 rfl
  have p5 := VR1.out.cell 5 rfl
  have p6 := VR1.out.cell 6 rfl
  have p7 := VR1.out.cell 7 rfl
  have p8 := VR1.out.cell 8 rfl
  have p9 := VR1.out.cell 9 rfl
  have p10 := VR1.out.cell 10 rfl
  have p11 := VR1.out.cell 11 rfl
  have p12 := VR1.out.cell 12 rfl
  have f0 := VR1.out.free 0
  have f1 := VR1.out.free 1
  have f2 := VR1.out.free 2
  have f3 := VR1.out.free 3
  have f4 := VR1.out.free 4
  have f5 := VR1.out.free 5
  have f6 := VR1.out.free 6
  have f7 := VR1.out.free 7
  have f8 := VR1.out.free 8
  have f9 := VR1.out.free 9
  have f10 := VR1.out.free 10
  have f11 := VR1.out.free 11
  have f12 := VR1.out.free 12
  go_wp2_with fail
  have NN : Hid (_ ∧ _) := thirteenX VR1.out (.int .i64 f) (.int .i64 0) (.int .i64 0) (.slice none 0 0) (.int .i64 0) (.slice none 0 0) (.bool false) (.bool false) (.bool false) (.int .i64 0) (.slice none 0 0) (.slice none 0 0) (.slice none 0 0)
  clear p0 p1 p2 p3 p4 p5 p6 p7 p8 p9 p10 p11 p12 f0 f1 f2 f3 f4 f5 f6 f7 f8 f9 f10 f11 f12
  generalize (((((((((((((w1.setCell ⟨s + 1, 0, none⟩ (.int .i64 f)).setCell ⟨s + 1, 1, none⟩ (.int .i64 0)).setCell ⟨s + 1, 2, none⟩ (.int .i64 0)).setCell ⟨s + 1, 3, none⟩ (.slice none 0 0)).setCell ⟨s + 1, 4, none⟩ (.int .i64 0)).setCell ⟨s + 1, 5, none⟩ (.slice none 0 0)).setCell ⟨s + 1, 6, none⟩ (.bool false)).setCell ⟨s + 1, 7, none⟩ (.bool false)).setCell ⟨s + 1, 8, none⟩ (.bool false)).setCell ⟨s + 1, 9, none⟩ (.int .i64 0)).setCell ⟨s + 1, 10, none⟩ (.slice none 0 0)).setCell ⟨s + 1, 11, none⟩ (.slice none 0 0)).setCell ⟨s + 1, 12, none⟩ (.slice none 0 0)) = V at *
  have x0 := NN.out.1.cell 0 rfl
  have x1 := NN.out.1.cell 1 rfl
  have x2 := NN.out.1.cell 2 rfl
  have x3 := NN.out.1.cell 3 rfl
  have x4 := NN.out.1.cell 4 rfl
  have x5 := NN.out.1.cell 5 rfl
  have x6 := NN.out.1.cell 6 rfl
  have x7 := NN.out.1.cell 7 rfl
  have x8 := NN.out.1.cell 8 rfl
  have x9 := NN.out.1.cell 9 rfl
  have x10 := NN.out.1.cell 10 rfl
  have x11 := NN.out.1.cell 11 rfl
  have x12 := NN.out.1.cell 12 rfl
  exact bodyPost_ret (v := .agg #[.int .i64 f, .int .i64 0, .int .i64 0, .slice none 0 0, .int .i64 0, .slice none 0 0, .bool false, .bool false, .bool false, .int .i64 0, .slice none 0 0, .slice none 0 0, .slice none 0 0]) (by simp [results, Tryz.results14, go_sem, x0, x1, x2, x3, x4, x5, x6, x7, x8, x9, x10, x11, x12]) rfl
    ⟨_, _, _, _, _, rfl, Tr.void _ _, Mq.under B1.out NN.out.2 fun k e => by have := HS.out; omega⟩
set_option maxRecDepth 20000 in
set_option maxHeartbeats 8000000 in
theorem sm_range (r c i o : Value) (H : Ht) (pa : Option Addr) (pn pc : Nat) (ps : List (Int × Int)) (ma : Option Addr) (mn mc : Nat) (zs : List Int) (n : Int) (b : Nat) (w : World) (h : Hm w b r c i o H) (hP : Prs 36 w b (.slice pa pn pc) ps) (hl : ps.length ≤ 1048576) (hM : Nums w b (.slice ma mn mc) zs) (hm : zs.length ≤ 1048576) (hf : seenC H ps zs = 0) (hn : ¬ (0 ≤ n ∧ n ≤ 500)) :
    Calls Tryz.prog 14 #[.agg #[r, .int .i64 H.pc, c, .bool H.halted, .bool H.waiting, .bool H.rung, .int .i64 H.done, i, o], .slice pa pn pc, .slice ma mn mc, .int .i64 n] w fun e w' => ∃ r' c' i' o' m', e = .returned (.agg #[.int .i64 (smV H ps zs n).code, .int .i64 (smV H ps zs n).ca, .int .i64 (smV H ps zs n).ri, r', .int .i64 (smV H ps zs n).H.pc, c', .bool (smV H ps zs n).H.halted, .bool (smV H ps zs n).H.waiting, .bool (smV H ps zs n).H.rung, .int .i64 (smV H ps zs n).H.done, i', o', m']) ∧ Tr w' w.heap.size r' c' i' o' m' (smV H ps zs n).H (smV H ps zs n).zs ∧ Below w.heap.size w w' := by
  have hv : smV H ps zs n = ⟨3, 0, 0, voidH, []⟩ := by unfold smV; rw [if_pos hf, if_neg hn]
  rw [hv]
  have HF : Hid (seenC H ps zs = 0) := hf
  clear hv hf
  have IN : Hid ((decide ((0 : Int) ≤ n) && decide (n ≤ 500)) = false) := by show _ = _; rw [Bool.and_eq_false_iff, decide_eq_false_iff_not, decide_eq_false_iff_not]; omega
  clear hn
  have HM : Hid (Hm w b r c i o H) := h
  have HP : Hid (Prs 36 w b (.slice pa pn pc) ps) := hP
  have HZ : Hid (Nums w b (.slice ma mn mc) zs) := hM
  have HL : Hid (ps.length ≤ 1048576 ∧ zs.length ≤ 1048576) := ⟨hl, hm⟩
  obtain ⟨a0, k0, rfl, _⟩ := h.r.shape
  obtain ⟨a1, k1, rfl, _⟩ := h.c.shape
  obtain ⟨a2, k2, rfl, _⟩ := h.i.shape
  obtain ⟨a3, k3, rfl, _⟩ := h.o.shape
  clear h hP hl hM hm
  generalize hW : (w.alloc (.cells #[.slice a0 H.regs.length k0, .int .i64 H.pc, .slice a1 H.csr.length k1, .bool H.halted, .bool H.waiting, .bool H.rung, .int .i64 H.done, .slice a2 H.inn.length k2, .slice a3 H.out.length k3] 26)).alloc (.cells #[.int .i64 0, .int .i64 0, .int .i64 0, .slice none 0 0, .int .i64 0, .slice none 0 0, .bool false, .bool false, .bool false, .int .i64 0, .slice none 0 0, .slice none 0 0, .slice none 0 0] 31) = W
  have B0 : Hid (Below w.heap.size w W) := by show Below _ _ _; rw [← hW]; exact al (al (Below.refl _ _) _) _
  obtain ⟨s, hS⟩ : ∃ s, w.heap.size = s := ⟨_, rfl⟩
  have HS : Hid (w.heap.size = s) := hS
  have VA1 : Hid (Vb W s #[.slice a0 H.regs.length k0, .int .i64 H.pc, .slice a1 H.csr.length k1, .bool H.halted, .bool H.waiting, .bool H.rung, .int .i64 H.done, .slice a2 H.inn.length k2, .slice a3 H.out.length k3] 26) := by
    show Vb _ _ _ _; rw [← hW, ← hS]; exact (Vb.new _ _ _).push _
  have VR1 : Hid (Vb W (s + 1) #[.int .i64 0, .int .i64 0, .int .i64 0, .slice none 0 0, .int .i64 0, .slice none 0 0, .bool false, .bool false, .bool false, .int .i64 0, .slice none 0 0, .slice none 0 0, .slice none 0 0] 31) := by
    have z1 : s + 1 = (w.alloc (.cells #[.slice a0 H.regs.length k0, .int .i64 H.pc, .slice a1 H.csr.length k1, .bool H.halted, .bool H.waiting, .bool H.rung, .int .i64 H.done, .slice a2 H.inn.length k2, .slice a3 H.out.length k3] 26)).heap.size := by rw [← hS]; simp
    show Vb _ _ _ _; rw [← hW, z1]; exact Vb.new _ _ _
  go_enter Tryz.func14, Tryz.ntmps14
  go_wp2_with fail
  clear hW hS
  refine (s_asked s _ _ _ _ H pa pn pc ps ma mn mc zs b W (HM.out.keep B0.out) VA1.out (HP.out.keep B0.out) HL.out.1 (HZ.out.keep B0.out) HL.out.2).mono ?_
  rintro e w1 ⟨rfl, hw1⟩
  subst hw1
  have M1 : Hid (Hm w1 b _ _ _ _ H) := HM.out.keep B0.out
  have P1 : Hid (Prs 36 w1 b (.slice pa pn pc) ps) := HP.out.keep B0.out
  have Z1 : Hid (Nums w1 b (.slice ma mn mc) zs) := HZ.out.keep B0.out
  have B1 := B0
  clear HM HP HZ B0
  rw [HF.out]
  have p0 := VR1.out.cell 0 rfl
  have p1 := VR1.out.cell 1 rfl
  have p2 := VR1.out.cell 2 rfl
  have p3 := VR1.out.cell 3 rfl
  have p4 := VR1.out.cell 4 rfl
  have p5 := VR1.out.cell 5 rfl
  have p6 := VR1.out.cell 6 rfl
  have p7 := VR1.out.cell 7 rfl
  have p8 := VR1.out.cell 8 rfl
  have p9 := VR1.out.cell 9 rfl
  have p10 := VR1.out.cell 10 rfl
  have p11 := VR1.out.cell 11 rfl
  have p12 := VR1.out.cell 12 rfl
  have f0 := VR1.out.free 0
  have f1 := VR1.out.free 1
  have f2 := VR1.out.free 2
  have f3 := VR1.out.free 3
  have f4 := VR1.out.free 4
  have f5 := VR1.out.free 5
  have f6 := VR1.out.free 6
  have f7 := VR1.out.free 7
  have f8 := VR1.out.free 8
  have f9 := VR1.out.free 9
  have f10 := VR1.out.free 10
  have f11 := VR1.out.free 11
  have f12 := VR1.out.free 12
  go_wp2_with (go_at_call 38; refine (spec_in _ _ _ _).mono ?_; rintro e y ⟨rfl, hy⟩; rw [hy]; clear hy y; rw [IN.out])
  have NN : Hid (_ ∧ _) := thirteenX VR1.out (.int .i64 3) (.int .i64 0) (.int .i64 0) (.slice none 0 0) (.int .i64 0) (.slice none 0 0) (.bool false) (.bool false) (.bool false) (.int .i64 0) (.slice none 0 0) (.slice none 0 0) (.slice none 0 0)
  clear p0 p1 p2 p3 p4 p5 p6 p7 p8 p9 p10 p11 p12 f0 f1 f2 f3 f4 f5 f6 f7 f8 f9 f10 f11 f12
  generalize (((((((((((((w1.setCell ⟨s + 1, 0, none⟩ (.int .i64 3)).setCell ⟨s + 1, 1, none⟩ (.int .i64 0)).setCell ⟨s + 1, 2, none⟩ (.int .i64 0)).setCell ⟨s + 1, 3, none⟩ (.slice none 0 0)).setCell ⟨s + 1, 4, none⟩ (.int .i64 0)).setCell ⟨s + 1, 5, none⟩ (.slice none 0 0)).setCell ⟨s + 1, 6, none⟩ (.bool false)).setCell ⟨s + 1, 7, none⟩ (.bool false)).setCell ⟨s + 1, 8, none⟩ (.bool false)).setCell ⟨s + 1, 9, none⟩ (.int .i64 0)).setCell ⟨s + 1, 10, none⟩ (.slice none 0 0)).setCell ⟨s + 1, 11, none⟩ (.slice none 0 0)).setCell ⟨s + 1, 12, none⟩ (.slice none 0 0)) = V at *
  have x0 := NN.out.1.cell 0 rfl
  have x1 := NN.out.1.cell 1 rfl
  have x2 := NN.out.1.cell 2 rfl
  have x3 := NN.out.1.cell 3 rfl
  have x4 := NN.out.1.cell 4 rfl
  have x5 := NN.out.1.cell 5 rfl
  have x6 := NN.out.1.cell 6 rfl
  have x7 := NN.out.1.cell 7 rfl
  have x8 := NN.out.1.cell 8 rfl
  have x9 := NN.out.1.cell 9 rfl
  have x10 := NN.out.1.cell 10 rfl
  have x11 := NN.out.1.cell 11 rfl
  have x12 := NN.out.1.cell 12 rfl
  exact bodyPost_ret (v := .agg #[.int .i64 3, .int .i64 0, .int .i64 0, .slice none 0 0, .int .i64 0, .slice none 0 0, .bool false, .bool false, .bool false, .int .i64 0, .slice none 0 0, .slice none 0 0, .slice none 0 0]) (by simp [results, Tryz.results14, go_sem, x0, x1, x2, x3, x4, x5, x6, x7, x8, x9, x10, x11, x12]) rfl
    ⟨_, _, _, _, _, rfl, Tr.void _ _, Mq.under B1.out NN.out.2 fun k e => by have := HS.out; omega⟩
end Go.Proofs.YtaefollmeoepkaaGreatDoor
