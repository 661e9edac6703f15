/- A machine copied by the model, with the order of its lists. -/
import Derived.Test.YtijajemalokgjaaHcy
import Derived.Test.YtijajemalokgjaaJoin
import Derived.Laws.AppendOwnNone
import Derived.Deep.Cut
namespace Go.Proofs.Ytijajemalokgjaa
open Go.RowKit
set_option linter.unusedVariables false

set_option maxRecDepth 20000 in
set_option maxHeartbeats 8000000 in
theorem s_copyX (r c i o : Value) (H : Ht) (b : Nat) (w : World) (h : Hm w b r c i o H) (h0 : H.regs.length ≤ 1000) (h1 : H.csr.length ≤ 1000) (h2 : H.inn.length ≤ 1000) (h3 : H.out.length ≤ 1000) :
    Calls Try.prog 52 #[.agg #[r, .int .i64 H.pc, c, .bool H.halted, .bool H.waiting, .bool H.rung, .int .i64 H.done, i, o]] w fun e w' => ∃ r' c' i' o', e = .returned (.agg #[r', .int .i64 H.pc, c', .bool H.halted, .bool H.waiting, .bool H.rung, .int .i64 H.done, i', o']) ∧ Hm w' w.heap.size r' c' i' o' H ∧ Ha r' c' i' o' ∧ Below w.heap.size w w' ∧ ∃ bo, w.heap.size ≤ bo ∧ bo ≤ w'.heap.size ∧ Nums w' bo o' H.out ∧ ∀ k, (r'.ownBlock = some k ∨ c'.ownBlock = some k ∨ i'.ownBlock = some k) → k < bo := by
  have HM : Hid (Hm w b r c i o H) := h
  have HL : Hid (H.regs.length ≤ 1000 ∧ H.csr.length ≤ 1000 ∧ H.inn.length ≤ 1000 ∧ H.out.length ≤ 1000) := ⟨h0, h1, h2, h3⟩
  obtain ⟨a0, k0, rfl, _⟩ := h.r.shape
  obtain ⟨a1, k1, rfl, _⟩ := h.c.shape
  obtain ⟨a2, k2, rfl, _⟩ := h.i.shape
  obtain ⟨a3, k3, rfl, _⟩ := h.o.shape
  clear h h0 h1 h2 h3
  generalize hW : (w.alloc (.cells #[.slice a0 H.regs.length k0, .int .i64 H.pc, .slice a1 H.csr.length k1, .bool H.halted, .bool H.waiting, .bool H.rung, .int .i64 H.done, .slice a2 H.inn.length k2, .slice a3 H.out.length k3] 32)).alloc (.cells #[.slice none 0 0, .int .i64 0, .slice none 0 0, .bool false, .bool false, .bool false, .int .i64 0, .slice none 0 0, .slice none 0 0] 32) = v0
  have SZ : Hid (v0.heap.size = w.heap.size + 2) := by show _ = _; rw [← hW]; simp
  obtain ⟨s, hS⟩ : ∃ s, w.heap.size = s := ⟨_, rfl⟩
  have HSs : Hid (w.heap.size = s) := hS
  have T0 : Hid (Cy w v0 s #[.slice a0 H.regs.length k0, .int .i64 H.pc, .slice a1 H.csr.length k1, .bool H.halted, .bool H.waiting, .bool H.rung, .int .i64 H.done, .slice a2 H.inn.length k2, .slice a3 H.out.length k3]) := by
    have z1 : s + 1 = (w.alloc (.cells #[.slice a0 H.regs.length k0, .int .i64 H.pc, .slice a1 H.csr.length k1, .bool H.halted, .bool H.waiting, .bool H.rung, .int .i64 H.done, .slice a2 H.inn.length k2, .slice a3 H.out.length k3] 32)).heap.size := by rw [← hS]; simp
    refine ⟨?_, ?_, by rw [← hW]; exact al (al (Below.refl _ _) _) _, hS⟩
    · rw [← hW, ← hS]; exact (Vb.new _ _ _).push _
    · rw [← hW, z1]; exact Vb.new _ _ _
  have LO : Hid (∀ k, Own4 (.slice a0 H.regs.length k0) (.slice a1 H.csr.length k1) (.slice a2 H.inn.length k2) (.slice a3 H.out.length k3) k → k < s) := fun k e => by have := (HM.out.own k e).2; have := HSs.out; omega
  have Z0 : Hid (s + 2 ≤ v0.heap.size) := by show _ ≤ _; have := SZ.out; have := HSs.out; omega
  have q0 := T0.out.A.cell 0 rfl
  have ls := T0.out.A.lt
  go_enter Try.func52, Try.ntmps52
  go_upto_region 2 with (at_builtin; refine wp_appy _ rfl _ _ rfl v0.heap.size _ [] rfl (nums_none _ _ (Nat.le_refl _)) a0 H.regs.length k0 H.regs rfl ((HM.out.r.rn.stay T0.out.b).stay (al (Below.refl _ _) _)) (by have := HL.out.1; simp; omega) (by simp) ?_; intro x0 w1 n1 g1; have b1 : Below v0.heap.size v0 w1 := below_of_grown (al (Below.refl _ _) _) g1 (nums_none _ _ (Nat.le_refl _)) (Nat.le_refl _); rw [List.nil_append] at n1; obtain ⟨xa0, xk0, rfl, _⟩ := n1.shape; clear ls; have S1 := T0.out.keep b1; have ls := S1.A.lt; have o0 := S1.A.cell 0 rfl; have f0 := S1.A.free 0; have e2 := S1.A.cell 2 rfl; clear g1)
  have MB0 : Hid (Nums w1 v0.heap.size (.slice xa0 H.regs.length xk0) H.regs) := n1
  have M0 : Hid (Nums w1 (s + 2) (.slice xa0 H.regs.length xk0) H.regs) := n1.mono Z0.out
  have T1 : Hid (Cy w (w1.setCell ⟨s, 0, none⟩ (.slice xa0 H.regs.length xk0)) s #[.slice xa0 H.regs.length xk0, .int .i64 H.pc, .slice a1 H.csr.length k1, .bool H.halted, .bool H.waiting, .bool H.rung, .int .i64 H.done, .slice a2 H.inn.length k2, .slice a3 H.out.length k3]) := S1.put 0 (.slice xa0 H.regs.length xk0)
  have H1 : Hid (Ho (s + 2) w1 (w1.setCell ⟨s, 0, none⟩ (.slice xa0 H.regs.length xk0))) := Ho.set _ _ _ (by show s < s + 2; omega)
  have Z1 : Hid (s + 2 ≤ (w1.setCell ⟨s, 0, none⟩ (.slice xa0 H.regs.length xk0)).heap.size) := (by have := T1.out.R.lt; show _ ≤ _; omega)
  have Y1 : Hid (w1.heap.size ≤ (w1.setCell ⟨s, 0, none⟩ (.slice xa0 H.regs.length xk0)).heap.size) := H1.out.size
  generalize (w1.setCell ⟨s, 0, none⟩ (.slice xa0 H.regs.length xk0)) = v1 at *
  clear S1 n1 b1 o0 f0 e2 q0 hW hS ls
  have ls := T1.out.A.lt
  have e2 := T1.out.A.cell 2 rfl
  go_upto_region 3 with (at_builtin; refine wp_appy _ rfl _ _ rfl v1.heap.size _ [] rfl (nums_none _ _ (Nat.le_refl _)) a1 H.csr.length k1 H.csr rfl ((HM.out.c.rn.stay T1.out.b).stay (al (Below.refl _ _) _)) (by have := HL.out.2.1; simp; omega) (by simp) ?_; intro x1 w2 n1 g1; have b1 : Below v1.heap.size v1 w2 := below_of_grown (al (Below.refl _ _) _) g1 (nums_none _ _ (Nat.le_refl _)) (Nat.le_refl _); rw [List.nil_append] at n1; obtain ⟨xa1, xk1, rfl, _⟩ := n1.shape; clear ls e2; have S1 := T1.out.keep b1; have ls := S1.A.lt; have o2 := S1.A.cell 2 rfl; have f2 := S1.A.free 2; have e7 := S1.A.cell 7 rfl; clear g1)
  have MB1 : Hid (Nums w2 v1.heap.size (.slice xa1 H.csr.length xk1) H.csr) := n1
  have H12 : Hid (Ho (s + 2) w1 w2) := H1.out.trans (Ho.of b1)
  have M1 : Hid (Nums w2 (s + 2) (.slice xa1 H.csr.length xk1) H.csr) := n1.mono Z1.out
  have T2 : Hid (Cy w (w2.setCell ⟨s, 2, none⟩ (.slice xa1 H.csr.length xk1)) s #[.slice xa0 H.regs.length xk0, .int .i64 H.pc, .slice xa1 H.csr.length xk1, .bool H.halted, .bool H.waiting, .bool H.rung, .int .i64 H.done, .slice a2 H.inn.length k2, .slice a3 H.out.length k3]) := S1.put 2 (.slice xa1 H.csr.length xk1)
  have H2 : Hid (Ho (s + 2) w2 (w2.setCell ⟨s, 2, none⟩ (.slice xa1 H.csr.length xk1))) := Ho.set _ _ _ (by show s < s + 2; omega)
  have Z2 : Hid (s + 2 ≤ (w2.setCell ⟨s, 2, none⟩ (.slice xa1 H.csr.length xk1)).heap.size) := (by have := T2.out.R.lt; show _ ≤ _; omega)
  have Y2 : Hid (w2.heap.size ≤ (w2.setCell ⟨s, 2, none⟩ (.slice xa1 H.csr.length xk1)).heap.size) := H2.out.size
  generalize (w2.setCell ⟨s, 2, none⟩ (.slice xa1 H.csr.length xk1)) = v2 at *
  clear S1 n1 b1 o2 f2 e7 ls
  have ls := T2.out.A.lt
  have e7 := T2.out.A.cell 7 rfl
  go_upto_region 4 with (at_builtin; refine wp_appy _ rfl _ _ rfl v2.heap.size _ [] rfl (nums_none _ _ (Nat.le_refl _)) a2 H.inn.length k2 H.inn rfl ((HM.out.i.rn.stay T2.out.b).stay (al (Below.refl _ _) _)) (by have := HL.out.2.2.1; simp; omega) (by simp) ?_; intro x2 w3 n1 g1; have b1 : Below v2.heap.size v2 w3 := below_of_grown (al (Below.refl _ _) _) g1 (nums_none _ _ (Nat.le_refl _)) (Nat.le_refl _); rw [List.nil_append] at n1; obtain ⟨xa2, xk2, rfl, _⟩ := n1.shape; clear ls e7; have S1 := T2.out.keep b1; have ls := S1.A.lt; have o7 := S1.A.cell 7 rfl; have f7 := S1.A.free 7; have e8 := S1.A.cell 8 rfl; clear g1)
  have MB2 : Hid (Nums w3 v2.heap.size (.slice xa2 H.inn.length xk2) H.inn) := n1
  have H23 : Hid (Ho (s + 2) w2 w3) := H2.out.trans (Ho.of b1)
  have M2 : Hid (Nums w3 (s + 2) (.slice xa2 H.inn.length xk2) H.inn) := n1.mono Z2.out
  have T3 : Hid (Cy w (w3.setCell ⟨s, 7, none⟩ (.slice xa2 H.inn.length xk2)) s #[.slice xa0 H.regs.length xk0, .int .i64 H.pc, .slice xa1 H.csr.length xk1, .bool H.halted, .bool H.waiting, .bool H.rung, .int .i64 H.done, .slice xa2 H.inn.length xk2, .slice a3 H.out.length k3]) := S1.put 7 (.slice xa2 H.inn.length xk2)
  have H3 : Hid (Ho (s + 2) w3 (w3.setCell ⟨s, 7, none⟩ (.slice xa2 H.inn.length xk2))) := Ho.set _ _ _ (by show s < s + 2; omega)
  have Z3 : Hid (s + 2 ≤ (w3.setCell ⟨s, 7, none⟩ (.slice xa2 H.inn.length xk2)).heap.size) := (by have := T3.out.R.lt; show _ ≤ _; omega)
  have Y3 : Hid (w3.heap.size ≤ (w3.setCell ⟨s, 7, none⟩ (.slice xa2 H.inn.length xk2)).heap.size) := H3.out.size
  generalize (w3.setCell ⟨s, 7, none⟩ (.slice xa2 H.inn.length xk2)) = v3 at *
  clear S1 n1 b1 o7 f7 e8 ls
  have ls := T3.out.A.lt
  have e8 := T3.out.A.cell 8 rfl
  go_upto_region 5 with (at_builtin; refine wp_appy _ rfl _ _ rfl v3.heap.size _ [] rfl (nums_none _ _ (Nat.le_refl _)) a3 H.out.length k3 H.out rfl ((HM.out.o.rn.stay T3.out.b).stay (al (Below.refl _ _) _)) (by have := HL.out.2.2.2; simp; omega) (by simp) ?_; intro x3 w4 n1 g1; have b1 : Below v3.heap.size v3 w4 := below_of_grown (al (Below.refl _ _) _) g1 (nums_none _ _ (Nat.le_refl _)) (Nat.le_refl _); rw [List.nil_append] at n1; obtain ⟨xa3, xk3, rfl, _⟩ := n1.shape; clear ls e8; have S1 := T3.out.keep b1; have ls := S1.A.lt; have o8 := S1.A.cell 8 rfl; have f8 := S1.A.free 8; have r0 := S1.R.cell 0 rfl; have y0 := S1.R.free 0; have r1 := S1.R.cell 1 rfl; have y1 := S1.R.free 1; have r2 := S1.R.cell 2 rfl; have y2 := S1.R.free 2; have r3 := S1.R.cell 3 rfl; have y3 := S1.R.free 3; have r4 := S1.R.cell 4 rfl; have y4 := S1.R.free 4; have r5 := S1.R.cell 5 rfl; have y5 := S1.R.free 5; have r6 := S1.R.cell 6 rfl; have y6 := S1.R.free 6; have r7 := S1.R.cell 7 rfl; have y7 := S1.R.free 7; have r8 := S1.R.cell 8 rfl; have y8 := S1.R.free 8; have l0 := S1.A.cell 0 rfl; have l1 := S1.A.cell 1 rfl; have l2 := S1.A.cell 2 rfl; have l3 := S1.A.cell 3 rfl; have l4 := S1.A.cell 4 rfl; have l5 := S1.A.cell 5 rfl; have l6 := S1.A.cell 6 rfl; have l7 := S1.A.cell 7 rfl; clear g1)
  have MB3 : Hid (Nums w4 v3.heap.size (.slice xa3 H.out.length xk3) H.out) := n1
  have YY : Hid (v3.heap.size ≤ w4.heap.size) := b1.size
  have H34 : Hid (Ho (s + 2) w3 w4) := H3.out.trans (Ho.of b1)
  have M3 : Hid (Nums w4 (s + 2) (.slice xa3 H.out.length xk3) H.out) := n1.mono Z3.out
  have T4 : Hid (Cy w (w4.setCell ⟨s, 8, none⟩ (.slice xa3 H.out.length xk3)) s #[.slice xa0 H.regs.length xk0, .int .i64 H.pc, .slice xa1 H.csr.length xk1, .bool H.halted, .bool H.waiting, .bool H.rung, .int .i64 H.done, .slice xa2 H.inn.length xk2, .slice xa3 H.out.length xk3]) := S1.put 8 (.slice xa3 H.out.length xk3)
  have H4 : Hid (Ho (s + 2) w4 (w4.setCell ⟨s, 8, none⟩ (.slice xa3 H.out.length xk3))) := Ho.set _ _ _ (by show s < s + 2; omega)
  have Z4 : Hid (s + 2 ≤ (w4.setCell ⟨s, 8, none⟩ (.slice xa3 H.out.length xk3)).heap.size) := by have := T4.out.R.lt; show _ ≤ _; omega
  have Y4 : Hid (w4.heap.size ≤ (w4.setCell ⟨s, 8, none⟩ (.slice xa3 H.out.length xk3)).heap.size) := H4.out.size
  go_wp2_with fail
  have NN : Hid (_ ∧ _) := nine T4.out.R (.slice xa0 H.regs.length xk0) (.int .i64 H.pc) (.slice xa1 H.csr.length xk1) (.bool H.halted) (.bool H.waiting) (.bool H.rung) (.int .i64 H.done) (.slice xa2 H.inn.length xk2) (.slice xa3 H.out.length xk3)
  clear S1 n1 b1 o8 f8 r0 y0 r1 y1 r2 y2 r3 y3 r4 y4 r5 y5 r6 y6 r7 y7 r8 y8 l0 l1 l2 l3 l4 l5 l6 l7
  generalize ((((((((((w4.setCell ⟨s, 8, none⟩ (.slice xa3 H.out.length xk3)).setCell ⟨s + 1, 0, none⟩ (.slice xa0 H.regs.length xk0)).setCell ⟨s + 1, 1, none⟩ (.int .i64 H.pc)).setCell ⟨s + 1, 2, none⟩ (.slice xa1 H.csr.length xk1)).setCell ⟨s + 1, 3, none⟩ (.bool H.halted)).setCell ⟨s + 1, 4, none⟩ (.bool H.waiting)).setCell ⟨s + 1, 5, none⟩ (.bool H.rung)).setCell ⟨s + 1, 6, none⟩ (.int .i64 H.done)).setCell ⟨s + 1, 7, none⟩ (.slice xa2 H.inn.length xk2)).setCell ⟨s + 1, 8, none⟩ (.slice xa3 H.out.length xk3)) = V at *
  generalize (w4.setCell ⟨s, 8, none⟩ (.slice xa3 H.out.length xk3)) = v4 at *
  have H5 : Hid (Ho (s + 2) w4 V) := H4.out.trans (NN.out.2.ho fun k e => by omega)
  have B5 : Hid (Below w.heap.size w V) := Mq.under T4.out.b NN.out.2 fun k e => by have := HSs.out; omega
  have A01 := MB0.out.apt MB1.out Y1.out
  have A02 := MB0.out.apt MB2.out (Nat.le_trans H12.out.size Y2.out)
  have A03 := MB0.out.apt MB3.out (Nat.le_trans (Nat.le_trans H12.out.size H23.out.size) Y3.out)
  have A12 := MB1.out.apt MB2.out Y2.out
  have A13 := MB1.out.apt MB3.out (Nat.le_trans H23.out.size Y3.out)
  have A23 := MB2.out.apt MB3.out Y3.out
  have R0 : Nums V w.heap.size (.slice xa0 H.regs.length xk0) H.regs := (M0.out.ho (H12.out.trans (H23.out.trans (H34.out.trans H5.out)))).mono (by have := HSs.out; omega)
  have R1 : Nums V w.heap.size (.slice xa1 H.csr.length xk1) H.csr := (M1.out.ho (H23.out.trans (H34.out.trans H5.out))).mono (by have := HSs.out; omega)
  have R2 : Nums V w.heap.size (.slice xa2 H.inn.length xk2) H.inn := (M2.out.ho (H34.out.trans H5.out)).mono (by have := HSs.out; omega)
  have R3 : Nums V w.heap.size (.slice xa3 H.out.length xk3) H.out := (M3.out.ho H5.out).mono (by have := HSs.out; omega)
  have x0 := NN.out.1.cell 0 rfl
  have x1 := NN.out.1.cell 1 rfl
  have x2 := NN.out.1.cell 2 rfl
  have x3 := NN.out.1.cell 3 rfl
  have x4 := NN.out.1.cell 4 rfl
  have x5 := NN.out.1.cell 5 rfl
  have x6 := NN.out.1.cell 6 rfl
  have x7 := NN.out.1.cell 7 rfl
  have x8 := NN.out.1.cell 8 rfl
  exact bodyPost_ret (v := .agg #[.slice xa0 H.regs.length xk0, .int .i64 H.pc, .slice xa1 H.csr.length xk1, .bool H.halted, .bool H.waiting, .bool H.rung, .int .i64 H.done, .slice xa2 H.inn.length xk2, .slice xa3 H.out.length xk3]) (by simp [results, Try.results52, go_sem, x0, x1, x2, x3, x4, x5, x6, x7, x8]) rfl
    ⟨_, _, _, _, rfl, ⟨R0, R1, R2, R3⟩, ⟨A01, A02, A03, A12, A13, A23⟩, B5.out, v3.heap.size, T3.out.b.size, Nat.le_trans YY.out H5.out.size, MB3.out.ho ⟨H5.out.size, fun k hb hk => H5.out.block k (Nat.le_trans Z3.out hb) hk⟩, fun k e => by
      have h1 := H12.out.size
      have h2 := H23.out.size
      have h3 := Y3.out
      rcases e with e | e | e
      · have := (MB0.out.lt k e).2; omega
      · have := (MB1.out.lt k e).2; omega
      · have := (MB2.out.lt k e).2; omega⟩
set_option maxHeartbeats 1000000 in
theorem spec_copyZ (g cap : Nat) (zs : List Int) (b : Nat) (w : World) (h : Nums w b (.slice (some ⟨g, 0, none⟩) zs.length cap) zs) (hn : zs.length ≤ 1000000) :
    Calls Try.prog 53 #[.slice (some ⟨g, 0, none⟩) zs.length cap] w fun e w' => ∃ v, e = .returned v ∧ Nums w' w.heap.size v zs ∧ Below w.heap.size w w' := by
  have HZ : Hid (Nums w b _ zs) := h
  obtain ⟨n, hn2⟩ : ∃ n, zs.length = n := ⟨_, rfl⟩
  rw [hn2] at HZ hn ⊢
  have HL : Hid (zs.length = n ∧ n ≤ 1000000) := ⟨hn2, hn⟩
  clear h hn2 hn
  go_enter Try.func53, Try.ntmps53
  go_wp2_with (at_builtin; refine wp_append _ rfl _ _ rfl w.heap.size _ _ rfl (nums_none w w.heap.size (Nat.le_refl _)) g n cap zs rfl HL.out.1 (fun i hi => cell_push _ (HZ.out.cell HL.out.1.symm i hi)) (by have := HL.out; simp; omega) (by simp) ?_; intro v' w' hN' hG')
  have N' : Hid (Nums w' w.heap.size v' zs) := by rw [List.nil_append] at hN'; exact hN'
  have B' : Hid (Below w.heap.size w w') := (al (Below.refl _ _) _).grown hG' (by simp) (fun k hk => Nat.le_of_eq (Option.some.inj hk))
  clear hN' hG'
  go_wp2_with fail
  go_ret
  exact ⟨_, rfl, N'.out, B'.out⟩
end Go.Proofs.Ytijajemalokgjaa
