/- Texts of this seat, joined. -/
import Derived.Test.YtgjpfmcokcjegaaQ17
import Derived.Test.YtgjpfmcokcjegaaQ35
namespace Go.Proofs.Ytgjpfmcokcjegaa
open Go.RowKit
set_option linter.unusedVariables false
def mcr (H : Ht) (i o l p : Value) (ca ri : Int) : Array Value := #[.int .i64 (gt H.regs 0), .int .i64 (gt H.regs 1), .int .i64 (gt H.regs 2), .int .i64 (gt H.regs 3), .int .i64 (gt H.regs 4), .int .i64 (gt H.regs 5), .int .i64 (gt H.regs 6), .int .i64 (gt H.regs 7), .int .i64 (gt H.regs 8), .int .i64 (gt H.regs 9), .int .i64 (gt H.regs 10), .int .i64 (gt H.regs 11), .int .i64 (gt H.regs 12), .int .i64 (gt H.regs 13), .int .i64 (gt H.regs 14), .int .i64 (gt H.regs 15), .int .i64 H.pc, .int .i64 (gt H.csr 0), .int .i64 (gt H.csr 1), .int .i64 (gt H.csr 2), .int .i64 (gt H.csr 3), .int .i64 (gt H.csr 4), .int .i64 (gt H.csr 5), .int .i64 (gt H.csr 6), .int .i64 (gt H.csr 7), .int .i64 (gt H.csr 8), .int .i64 (gt H.csr 9), .int .i64 (gt H.csr 10), .bool H.halted, .bool H.waiting, .bool H.rung, .int .i64 H.done, i, o, l, p, .int .i64 ca, .int .i64 ri]
theorem mcr_size (H : Ht) (i o l p : Value) (ca ri : Int) : (mcr H i o l p ca ri).size = 38 := rfl
def mrz : Array Value := #[.int .i64 0, .int .i64 0, .int .i64 0, .int .i64 0, .int .i64 0, .int .i64 0, .int .i64 0, .int .i64 0, .int .i64 0, .int .i64 0, .int .i64 0, .int .i64 0, .int .i64 0, .int .i64 0, .int .i64 0, .int .i64 0, .int .i64 0, .int .i64 0, .int .i64 0, .int .i64 0, .int .i64 0, .int .i64 0, .int .i64 0, .int .i64 0, .int .i64 0, .int .i64 0, .int .i64 0, .int .i64 0, .bool false, .bool false, .bool false, .int .i64 0, .slice none 0 0, .slice none 0 0, .slice none 0 0, .slice none 0 0, .int .i64 0, .int .i64 0]
theorem mcr_one (H : Ht) (i o l p : Value) (ca ri : Int) (hi : i.oneCell' = true) (ho : o.oneCell' = true) (hl : l.oneCell' = true) (hp : p.oneCell' = true) : (mcr H i o l p ca ri).all (·.oneCell') = true := by
  have h1 : ∀ z : Int, (Value.int .i64 z).oneCell' = true := fun _ => rfl
  have h2 : ∀ z : Bool, (Value.bool z).oneCell' = true := fun _ => rfl
  simp [mcr, h1, h2, hi, ho, hl, hp]
theorem mrz_there {w : World} {q : Nat} {t : TypeId} {cs : Array Value} (h : Vb w q cs t) : w.there q 0 cs.size := fun j hj => by
  rw [Nat.zero_add]
  exact ⟨by rw [h.cell j (Array.getElem?_eq_getElem hj)]; rfl, h.free _⟩
theorem wp_build {op : Oper} {a : Act} {w : World} {K : Act → World → Prop} {Q : Exit → Act → World → Prop} (t : TypeId) (parts : Array (Nat × Operand)) (ho : op.op = .build t parts) (cells : Array Value) (hb : Try.prog.built t (parts.map fun (i, x) => (i, a.eval x)).toList = some cells)
    (h : K (a.put op.dst (.agg cells)) w) : op.wp Try.prog a w K Q := by
  unfold Oper.wp execOp
  simp only [ho, Sem.run_bind, run_build (P := Try.prog) w t _ cells hb, Sem.run_pure, Result.andThen_ok]
  exact h
def Sr (W : World) (q : Nat) (w' : World) : Prop := Mq (fun k => k = q) W w' ∧ w'.there q 0 38
theorem Sr.step {W w w' : World} {q : Nat} (h : Sr W q w) (hq : q < W.heap.size) (b : Below w.heap.size w w') : Sr W q w' :=
  ⟨h.1.trans (Mq.of (below_grown b none) fun k e => by cases e), there_below h.2 (Nat.lt_of_lt_of_le hq h.1.size) b⟩
theorem Sr.set {W w : World} {q : Nat} (h : Sr W q w) (vs : List Value) : Sr W q (w.setCells q 0 vs) := ⟨h.1.trans (mq_cells q vs w 0), World.there_setCells h.2 _ _ _⟩
set_option maxRecDepth 20000 in
set_option maxHeartbeats 8000000 in
theorem i_runnerOver (r c i o : Value) (H : Ht) (la : Option Addr) (ln lc : Nat) (pa : Option Addr) (pn pk : Nat) (b : Nat) (w : World) (h : Hm w b r c i o H) (hk : Hok H) :
    Calls Try.prog 41 #[.agg #[r, .int .i64 H.pc, c, .bool H.halted, .bool H.waiting, .bool H.rung, .int .i64 H.done, i, o], .slice la ln lc, .slice pa pn pk] w fun e w' => ∃ i' o', e = .returned (.agg (mcr H i' o' (.slice la ln lc) (.slice pa pn pk) (-1) (-1))) ∧ Nums w' w.heap.size i' H.inn ∧ Nums w' w.heap.size o' H.out ∧ Apt i' o' ∧ Below w.heap.size w w' ∧ ∃ bo, w.heap.size ≤ bo ∧ bo ≤ w'.heap.size ∧ Nums w' bo o' H.out ∧ (∀ k, i'.ownBlock = some k → k < bo) := by
  have HM : Hid (Hm w b r c i o H) := h
  have K : Hid (Hok H) := hk
  obtain ⟨a0, k0, rfl, _⟩ := h.r.shape
  obtain ⟨a1, k1, rfl, _⟩ := h.c.shape
  obtain ⟨a2, k2, rfl, _⟩ := h.i.shape
  obtain ⟨a3, k3, rfl, _⟩ := h.o.shape
  clear h hk
  generalize hW : (w.alloc (.cells #[.slice a0 H.regs.length k0, .int .i64 H.pc, .slice a1 H.csr.length k1, .bool H.halted, .bool H.waiting, .bool H.rung, .int .i64 H.done, .slice a2 H.inn.length k2, .slice a3 H.out.length k3] 26)).alloc (.cells #[.int .i64 0, .int .i64 0, .int .i64 0, .int .i64 0, .int .i64 0, .int .i64 0, .int .i64 0, .int .i64 0, .int .i64 0, .int .i64 0, .int .i64 0, .int .i64 0, .int .i64 0, .int .i64 0, .int .i64 0, .int .i64 0, .int .i64 0, .int .i64 0, .int .i64 0, .int .i64 0, .int .i64 0, .int .i64 0, .int .i64 0, .int .i64 0, .int .i64 0, .int .i64 0, .int .i64 0, .int .i64 0, .bool false, .bool false, .bool false, .int .i64 0, .slice none 0 0, .slice none 0 0, .slice none 0 0, .slice none 0 0, .int .i64 0, .int .i64 0] 55) = W
  have B0 : Hid (Below w.heap.size w W) := by show Below _ _ _; rw [← hW]; exact al (al (Below.refl _ _) _) _
  obtain ⟨s, hS⟩ : ∃ s, w.heap.size = s := ⟨_, rfl⟩
  have HS : Hid (w.heap.size = s) := hS
  have VA : Hid (Vb W s #[.slice a0 H.regs.length k0, .int .i64 H.pc, .slice a1 H.csr.length k1, .bool H.halted, .bool H.waiting, .bool H.rung, .int .i64 H.done, .slice a2 H.inn.length k2, .slice a3 H.out.length k3] 26) := by
    show Vb _ _ _ _; rw [← hW, ← hS]; exact (Vb.new _ _ _).push _
  have VR : Hid (Vb W (s + 1) mrz 55) := by
    have z1 : s + 1 = (w.alloc (.cells #[.slice a0 H.regs.length k0, .int .i64 H.pc, .slice a1 H.csr.length k1, .bool H.halted, .bool H.waiting, .bool H.rung, .int .i64 H.done, .slice a2 H.inn.length k2, .slice a3 H.out.length k3] 26)).heap.size := by rw [← hS]; simp
    show Vb _ _ _ _; rw [← hW, z1]; exact Vb.new _ _ _
  have LW : Hid (s + 2 ≤ W.heap.size) := by show _ ≤ _; rw [← hW, ← hS]; simp
  have q0 := VA.out.cell 0 rfl
  have q1 := VA.out.cell 1 rfl
  have q2 := VA.out.cell 2 rfl
  have q3 := VA.out.cell 3 rfl
  have q4 := VA.out.cell 4 rfl
  have q5 := VA.out.cell 5 rfl
  have q6 := VA.out.cell 6 rfl
  have q7 := VA.out.cell 7 rfl
  have q8 := VA.out.cell 8 rfl
  go_enter Try.func41, Try.ntmps41
  go_wp2_with fail
  clear hW hS q0 q1 q2 q3 q4 q5 q6 q7 q8
  refine (i_machineX _ _ _ _ H _ _ (HM.out.keep B0.out) K.out.r16 K.out.c11 (by have := K.out.i40; omega) (by have := K.out.o40; omega)).mono ?_
  rintro e w2 ⟨i2, o2, rfl, mi, mo, ap, b2, bo, bo1, bo2, bo3, bo4⟩
  have BO : Hid (W.heap.size ≤ bo ∧ bo ≤ w2.heap.size) := ⟨bo1, bo2⟩
  have BO4 : Hid (∀ k, i2.ownBlock = some k → k < bo) := bo4
  have BO3 : Hid (Nums w2 bo o2 H.out) := bo3
  have MI : Hid (Nums w2 W.heap.size i2 H.inn) := mi
  have MO : Hid (Nums w2 W.heap.size o2 H.out) := mo
  have AP : Hid (Apt i2 o2) := ap
  have B2 : Hid (Below w.heap.size w w2) := on B0.out b2
  have VR2 : Hid (Vb w2 (s + 1) mrz 55) := VR.out.keep b2
  obtain ⟨xa, xk, rfl, _⟩ := mi.shape
  obtain ⟨ya, yk, rfl, _⟩ := mo.shape
  generalize hxn : H.inn.length = xn at *
  generalize hyn : H.out.length = yn at *
  clear mi mo ap b2 hxn hyn VR VA bo1 bo2 bo3 bo4
  have L2 : Hid (s + 1 < w2.heap.size) := VR2.out.lt
  generalize hX : mcr H (.slice xa xn xk) (.slice ya yn yk) (.slice la ln lc) (.slice pa pn pk) (-1) (-1) = X at *
  have hsz : X.size = 38 := by rw [← hX]; rfl
  have XO : Hid (X.all (·.oneCell') = true) := by show _ = _; rw [← hX]; exact mcr_one _ _ _ _ _ _ _ rfl rfl rfl rfl
  have HX : Hid (mcr H (.slice xa xn xk) (.slice ya yn yk) (.slice la ln lc) (.slice pa pn pk) (-1) (-1) = X) := hX
  clear hX
  go_simp
  go_step
  go_step
  go_step
  go_step
  go_step
  go_step
  go_step
  go_step
  refine wp_build _ _ rfl X (by rw [← HX.out]; kernel_rfl) ?_
  simp only [Act.put, zT, zZ, zS]
  go_step
  go_step
  have TH : w2.there (s + 1) 0 X.size := by
    have t := mrz_there VR2.out
    rw [hsz]
    exact t
  refine wp_store_mid 55 (.tmp 6) (.tmp 11) rfl (s + 1) 0 X rfl rfl TH (by rw [hsz]; kernel_rfl) XO.out ?_
  simp only [Act.put]
  have M4 := mq_cells (s + 1) X.toList w2 0
  have B4 : Below w.heap.size w (w2.setCells (s + 1) 0 X.toList) := Mq.under B2.out M4 fun k e => by have := HS.out; omega
  have O4 : Ho W.heap.size w2 (w2.setCells (s + 1) 0 X.toList) := M4.ho fun k e => by have := LW.out; omega
  have R4 : (w2.setCells (s + 1) 0 X.toList).rangeAt (s + 1) 0 X.toList := World.rangeAt_setCells_same _ _ _ _ (by simpa using TH)
  generalize w2.setCells (s + 1) 0 X.toList = w4 at *
  have LD := run_loadVar_mid (P := Try.prog) w4 (s + 1) 0 55 X.toList _ R4 Try.underlying55 rfl (by rw [Array.length_toList, hsz]; kernel_rfl)
  go_wp2_with fail
  exact bodyPost_ret (v := .agg X) (by simp [results, Try.results41, asAddr]; rw [LD]) rfl ⟨_, _, by rw [HX.out], (MI.out.ho O4).mono B0.out.size, (MO.out.ho O4).mono B0.out.size, AP.out, B4, bo, Nat.le_trans B0.out.size BO.out.1, Nat.le_trans BO.out.2 O4.size, BO3.out.ho ⟨O4.size, fun k hb hk => O4.block k (Nat.le_trans BO.out.1 hb) hk⟩, BO4.out⟩
set_option maxRecDepth 20000 in
set_option maxHeartbeats 8000000 in
theorem i_runnerX (r c i o : Value) (H : Ht) (la : Option Addr) (ln lc : Nat) (gm n cap : Nat) (zs : List Int) (b p : Nat) (w : World) (h : Hm w b r c i o H) (hk : Hok H) (hM : Nums w b (.slice (some ⟨gm, 0, none⟩) n cap) zs) (hz : zs.length = p * 8) (hp : p ≤ 24) (hp0 : 1 ≤ p) :
    Calls Try.prog 18 #[.agg #[r, .int .i64 H.pc, c, .bool H.halted, .bool H.waiting, .bool H.rung, .int .i64 H.done, i, o], .slice la ln lc, .slice (some ⟨gm, 0, none⟩) n cap] w fun e w' => ∃ i' o' g, e = .returned (.agg (mcr H i' o' (.slice la ln lc) (.slice (some ⟨g, 0, none⟩) p p) (-1) (-1))) ∧ Nums w' w.heap.size i' H.inn ∧ Nums w' w.heap.size o' H.out ∧ Apt i' o' ∧ Pags w' w.heap.size (.slice (some ⟨g, 0, none⟩) p p) p zs ∧ Below w.heap.size w w' ∧ ∃ bo, w.heap.size ≤ bo ∧ bo ≤ w'.heap.size ∧ Nums w' bo o' H.out ∧ (∀ k, i'.ownBlock = some k → k < bo ∧ k ≠ g) := by
  have HM : Hid (Hm w b r c i o H) := h
  have K0 : Hid (Hok H) := hk
  have HZ : Hid (Nums w b (.slice (some ⟨gm, 0, none⟩) n cap) zs) := hM
  have HP : Hid (zs.length = p * 8 ∧ p ≤ 24 ∧ 1 ≤ p) := ⟨hz, hp, hp0⟩
  obtain ⟨a0, k0, rfl, _⟩ := h.r.shape
  obtain ⟨a1, k1, rfl, _⟩ := h.c.shape
  obtain ⟨a2, k2, rfl, _⟩ := h.i.shape
  obtain ⟨a3, k3, rfl, _⟩ := h.o.shape
  clear h hk hM hz hp hp0
  generalize hW : (w.alloc (.cells #[.slice a0 H.regs.length k0, .int .i64 H.pc, .slice a1 H.csr.length k1, .bool H.halted, .bool H.waiting, .bool H.rung, .int .i64 H.done, .slice a2 H.inn.length k2, .slice a3 H.out.length k3] 26)).alloc (.cells #[.int .i64 0, .int .i64 0, .int .i64 0, .int .i64 0, .int .i64 0, .int .i64 0, .int .i64 0, .int .i64 0, .int .i64 0, .int .i64 0, .int .i64 0, .int .i64 0, .int .i64 0, .int .i64 0, .int .i64 0, .int .i64 0, .int .i64 0, .int .i64 0, .int .i64 0, .int .i64 0, .int .i64 0, .int .i64 0, .int .i64 0, .int .i64 0, .int .i64 0, .int .i64 0, .int .i64 0, .int .i64 0, .bool false, .bool false, .bool false, .int .i64 0, .slice none 0 0, .slice none 0 0, .slice none 0 0, .slice none 0 0, .int .i64 0, .int .i64 0] 55) = W
  have B0 : Hid (Below w.heap.size w W) := by show Below _ _ _; rw [← hW]; exact al (al (Below.refl _ _) _) _
  obtain ⟨s, hS⟩ : ∃ s, w.heap.size = s := ⟨_, rfl⟩
  have HS : Hid (w.heap.size = s) := hS
  have VA : Hid (Vb W s #[.slice a0 H.regs.length k0, .int .i64 H.pc, .slice a1 H.csr.length k1, .bool H.halted, .bool H.waiting, .bool H.rung, .int .i64 H.done, .slice a2 H.inn.length k2, .slice a3 H.out.length k3] 26) := by
    show Vb _ _ _ _; rw [← hW, ← hS]; exact (Vb.new _ _ _).push _
  have VR : Hid (Vb W (s + 1) mrz 55) := by
    have z1 : s + 1 = (w.alloc (.cells #[.slice a0 H.regs.length k0, .int .i64 H.pc, .slice a1 H.csr.length k1, .bool H.halted, .bool H.waiting, .bool H.rung, .int .i64 H.done, .slice a2 H.inn.length k2, .slice a3 H.out.length k3] 26)).heap.size := by rw [← hS]; simp
    show Vb _ _ _ _; rw [← hW, z1]; exact Vb.new _ _ _
  have LW : Hid (s + 2 ≤ W.heap.size) := by show _ ≤ _; rw [← hW, ← hS]; simp
  have LT : Hid (s + 1 < W.heap.size) := VR.out.lt
  have S0 : Hid (Sr W (s + 1) W) := ⟨Mq.refl _ _, mrz_there VR.out⟩
  have VS : Hid (∀ w', Sr W (s + 1) w' → Vb w' s #[.slice a0 H.regs.length k0, .int .i64 H.pc, .slice a1 H.csr.length k1, .bool H.halted, .bool H.waiting, .bool H.rung, .int .i64 H.done, .slice a2 H.inn.length k2, .slice a3 H.out.length k3] 26) := fun w' hs => hs.1.vb VA.out (by omega)
  go_enter Try.func18, Try.ntmps18
  go_wp2_with fail
  clear hW hS
  have SD : Hid (Sr W (s + 1) W.drew) := S0.out.step LT.out (Below.refl _ _).drew
  have BD : Hid (Below w.heap.size w W.drew) := B0.out.drew
  refine wp_region_held (S := fun w' => Sr W (s + 1) w') (by kernel_rfl) ?_
  change wpAnyH _ _ _ _ _ _ _ _ (World.drew _)
  generalize W.drew = x0 at *
  refine wpTk (i := 0) (v := .agg #[.slice a0 H.regs.length k0, .int .i64 H.pc, .slice a1 H.csr.length k1, .bool H.halted, .bool H.waiting, .bool H.rung, .int .i64 H.done, .slice a2 H.inn.length k2, .slice a3 H.out.length k3]) rfl (Or.inl ⟨by rfl, fun w' hs => by have hs := VS.out w' hs; have y0 := hs.cell 0 rfl; have y1 := hs.cell 1 rfl; have y2 := hs.cell 2 rfl; have y3 := hs.cell 3 rfl; have y4 := hs.cell 4 rfl; have y5 := hs.cell 5 rfl; have y6 := hs.cell 6 rfl; have y7 := hs.cell 7 rfl; have y8 := hs.cell 8 rfl; go_simp⟩) SD.out ?_
  change wpAnyH _ _ _ _ _ _ _ (Act.put _ (some 7) _) _
  simp only [Act.put, zT, zZ, zS]
  refine wpTk (i := 1) (v := .slice la ln lc) rfl (Or.inl ⟨by rfl, fun w' hs => by go_simp⟩) SD.out ?_
  change wpAnyH _ _ _ _ _ _ _ (Act.put _ (some 8) _) _
  simp only [Act.put, zT, zZ, zS]
  refine wpTk (i := 2) (v := .slice (some ⟨gm, 0, none⟩) n cap) rfl (Or.inl ⟨by rfl, fun w' hs => by go_simp⟩) SD.out ?_
  change wpAnyH _ _ _ _ _ _ _ (Act.put _ (some 9) _) _
  simp only [Act.put, zT, zZ, zS]
  refine zR 3 rfl fun K hK => ?_
  rw [if_pos (by rfl)]
  go_simp
  refine (impl_cut gm n cap zs b p x0 (HZ.out.keep BD.out) HP.out.1 HP.out.2.1 HP.out.2.2).mono ?_
  rintro e w1 ⟨g, rfl, pg, b1⟩
  have PG : Hid (Pags w1 x0.heap.size (.slice (some ⟨g, 0, none⟩) p p) p zs) := pg
  have B1 : Hid (Below w.heap.size w w1) := on BD.out b1
  have S1 : Hid (Sr W (s + 1) w1) := SD.out.step LT.out b1
  have LG : Hid (W.heap.size ≤ g ∧ g < w1.heap.size) := ⟨Nat.le_trans SD.out.1.size (World.ownsRow.lt pg g rfl).1, (World.ownsRow.lt pg g rfl).2⟩
  clear pg b1
  refine hK.out _ _ S1.out (fun _ => ?_)
  clear hK K
  refine zR 4 rfl fun K hK => ?_
  rw [if_pos (by rfl)]
  go_simp
  refine (i_runnerOver _ _ _ _ H la ln lc (some ⟨g, 0, none⟩) p p b w1 (HM.out.keep B1.out) K0.out).mono ?_
  rintro e w2 ⟨i2, o2, rfl, mi, mo, ap, b2, bo, bo1, bo2, bo3, bo4⟩
  have BO : Hid (w1.heap.size ≤ bo ∧ bo ≤ w2.heap.size) := ⟨bo1, bo2⟩
  have BO4 : Hid (∀ k, i2.ownBlock = some k → k < bo) := bo4
  have BO3 : Hid (Nums w2 bo o2 H.out) := bo3
  have MI : Hid (Nums w2 w1.heap.size i2 H.inn) := mi
  have MO : Hid (Nums w2 w1.heap.size o2 H.out) := mo
  have AP : Hid (Apt i2 o2) := ap
  have S2 : Hid (Sr W (s + 1) w2) := S1.out.step LT.out b2
  have PG2 : Hid (Pags w2 x0.heap.size (.slice (some ⟨g, 0, none⟩) p p) p zs) := by
    have hh := PG.out.heap
    rw [← b2.block g LG.out.2] at hh
    exact Pags.of_heap hh HP.out.1 (by have := (World.ownsRow.lt PG.out g rfl).1; exact this) (by have := HP.out.2.1; unfold maxLen; omega)
  obtain ⟨xa, xk, rfl, _⟩ := mi.shape
  obtain ⟨ya, yk, rfl, _⟩ := mo.shape
  generalize hxn : H.inn.length = xn at *
  generalize hyn : H.out.length = yn at *
  clear mi mo ap b2 bo1 bo2 bo3 bo4 hxn hyn
  refine hK.out _ _ S2.out (fun _ => ?_)
  clear hK K
  generalize hX : mcr H (.slice xa xn xk) (.slice ya yn yk) (.slice la ln lc) (.slice (some ⟨g, 0, none⟩) p p) (-1) (-1) = X at *
  have hsz : X.size = 38 := by rw [← hX]; rfl
  have XO : Hid (X.all (·.oneCell') = true) := by show _ = _; rw [← hX]; exact mcr_one _ _ _ _ _ _ _ rfl rfl rfl rfl
  have HX : Hid (mcr H (.slice xa xn xk) (.slice ya yn yk) (.slice la ln lc) (.slice (some ⟨g, 0, none⟩) p p) (-1) (-1) = X) := hX
  clear hX
  refine zR 5 rfl fun K hK => ?_
  rw [if_pos (by rfl)]
  refine wp_store_mid 55 (.tmp 6) (.tmp 11) rfl (s + 1) 0 X rfl rfl (by rw [hsz]; exact S2.out.2) (by rw [hsz]; kernel_rfl) XO.out ?_
  change K (Act.put _ none undef) _
  simp only [Act.put]
  have S3 : Hid (Sr W (s + 1) (w2.setCells (s + 1) 0 X.toList)) := S2.out.set _
  have R3 : Hid ((w2.setCells (s + 1) 0 X.toList).rangeAt (s + 1) 0 X.toList) := World.rangeAt_setCells_same _ _ _ _ (by have t := S2.out.2; rw [Array.length_toList, hsz]; exact t)
  have M3 : Hid (Mq (fun k => k = s + 1) w2 (w2.setCells (s + 1) 0 X.toList)) := mq_cells (s + 1) _ w2 0
  have O3 : Hid (Ho W.heap.size w2 (w2.setCells (s + 1) 0 X.toList)) := M3.out.ho fun k e => by have := LT.out; omega
  generalize w2.setCells (s + 1) 0 X.toList = w3 at *
  refine hK.out _ _ S3.out (fun _ => ?_)
  clear hK K
  refine wpAnyH_done (by kernel_rfl) ?_ _
  have z1 : W.heap.size ≤ w1.heap.size := S1.out.1.size
  have z2 : w.heap.size ≤ W.heap.size := B0.out.size
  have X3 : Nums w3 W.heap.size (.slice xa xn xk) H.inn := (MI.out.mono z1).ho O3.out
  have Y3 : Nums w3 W.heap.size (.slice ya yn yk) H.out := (MO.out.mono z1).ho O3.out
  have PG3 : Pags w3 w.heap.size (.slice (some ⟨g, 0, none⟩) p p) p zs := by
    have hh := PG2.out.heap
    rw [← M3.out.block g (World.ownsRow.lt PG2.out g rfl).2 (by have := LG.out.1; have := LT.out; omega)] at hh
    exact Pags.of_heap hh HP.out.1 (by have := LG.out.1; omega) (by have := HP.out.2.1; unfold maxLen; omega)
  have B3 : Below w.heap.size w w3 := Mq.under B0.out S3.out.1 fun k e => by have := HS.out; omega
  have LD := run_loadVar_mid (P := Try.prog) w3 (s + 1) 0 55 X.toList _ R3.out Try.underlying55 rfl (by rw [Array.length_toList, hsz]; kernel_rfl)
  go_wp2_with fail
  exact bodyPost_ret (v := .agg X) (by simp [results, Try.results18, asAddr]; rw [LD]) rfl ⟨_, _, _, by rw [HX.out], X3.mono z2, Y3.mono z2, AP.out, PG3, B3, bo, by have := BO.out.1; omega, Nat.le_trans BO.out.2 O3.out.size, BO3.out.ho ⟨O3.out.size, fun k hb hk => O3.out.block k (by have := BO.out.1; omega) hk⟩, fun k e => ⟨BO4.out k e, by have := (MI.out.lt k e).1; have := LG.out.2; omega⟩⟩
theorem i_runner (r c i o : Value) (H : Ht) (la : Option Addr) (ln lc : Nat) (gm n cap : Nat) (zs : List Int) (b p : Nat) (w : World) (h : Hm w b r c i o H) (hk : Hok H) (hM : Nums w b (.slice (some ⟨gm, 0, none⟩) n cap) zs) (hz : zs.length = p * 8) (hp : p ≤ 24) (hp0 : 1 ≤ p) :
    Calls Try.prog 18 #[.agg #[r, .int .i64 H.pc, c, .bool H.halted, .bool H.waiting, .bool H.rung, .int .i64 H.done, i, o], .slice la ln lc, .slice (some ⟨gm, 0, none⟩) n cap] w fun e w' => ∃ i' o' g, e = .returned (.agg (mcr H i' o' (.slice la ln lc) (.slice (some ⟨g, 0, none⟩) p p) (-1) (-1))) ∧ Nums w' w.heap.size i' H.inn ∧ Nums w' w.heap.size o' H.out ∧ Apt i' o' ∧ Pags w' w.heap.size (.slice (some ⟨g, 0, none⟩) p p) p zs ∧ Below w.heap.size w w' :=
  (i_runnerX r c i o H la ln lc gm n cap zs b p w h hk hM hz hp hp0).mono fun _ _ ⟨i', o', g, h1, h2, h3, h4, h5, h6, _⟩ => ⟨i', o', g, h1, h2, h3, h4, h5, h6⟩
theorem s_wrap (n : Int) (w : World) : Calls Try.prog 78 #[.int .i64 n] w fun e w' => e = .returned (.int .i64 (wd n)) ∧ w' = w := by
  go_enter Try.func78, Try.ntmps78
  go_wp2
  go_ret
  exact ⟨rfl, rfl⟩
theorem hwd_in (x : Int) : 0 ≤ wd x ∧ wd x ≤ 4294967295 := by unfold wd; omega
end Go.Proofs.Ytgjpfmcokcjegaa
