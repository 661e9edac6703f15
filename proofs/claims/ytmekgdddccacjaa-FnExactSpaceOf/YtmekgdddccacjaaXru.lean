/- A runner in memory: its cells; runnerOf. -/
import Derived.Test.YtmekgdddccacjaaXsi
import Derived.Test.YtmekgdddccacjaaHmo
namespace Go.Proofs.Ytmekgdddccacjaa
open Go.RowKit
set_option linter.unusedVariables false

/-- The cells of a runner. -/
def mcr (H : Ht) (i o l p : Value) (ca ri : Int) : Array Value := #[.int .i64 (gt H.regs 0), .int .i64 (gt H.regs 1), .int .i64 (gt H.regs 2), .int .i64 (gt H.regs 3), .int .i64 (gt H.regs 4), .int .i64 (gt H.regs 5), .int .i64 (gt H.regs 6), .int .i64 (gt H.regs 7), .int .i64 (gt H.regs 8), .int .i64 (gt H.regs 9), .int .i64 (gt H.regs 10), .int .i64 (gt H.regs 11), .int .i64 (gt H.regs 12), .int .i64 (gt H.regs 13), .int .i64 (gt H.regs 14), .int .i64 (gt H.regs 15), .int .i64 H.pc, .int .i64 (gt H.csr 0), .int .i64 (gt H.csr 1), .int .i64 (gt H.csr 2), .int .i64 (gt H.csr 3), .int .i64 (gt H.csr 4), .int .i64 (gt H.csr 5), .int .i64 (gt H.csr 6), .int .i64 (gt H.csr 7), .int .i64 (gt H.csr 8), .int .i64 (gt H.csr 9), .int .i64 (gt H.csr 10), .bool H.halted, .bool H.waiting, .bool H.rung, .int .i64 H.done, i, o, l, p, .int .i64 ca, .int .i64 ri]
theorem mcr_size (H : Ht) (i o l p : Value) (ca ri : Int) : (mcr H i o l p ca ri).size = 38 := rfl
theorem mcr_lit (H : Ht) (i o l p : Value) (ca ri : Int) : #[.int .i64 (gt H.regs 0), .int .i64 (gt H.regs 1), .int .i64 (gt H.regs 2), .int .i64 (gt H.regs 3), .int .i64 (gt H.regs 4), .int .i64 (gt H.regs 5), .int .i64 (gt H.regs 6), .int .i64 (gt H.regs 7), .int .i64 (gt H.regs 8), .int .i64 (gt H.regs 9), .int .i64 (gt H.regs 10), .int .i64 (gt H.regs 11), .int .i64 (gt H.regs 12), .int .i64 (gt H.regs 13), .int .i64 (gt H.regs 14), .int .i64 (gt H.regs 15), .int .i64 H.pc, .int .i64 (gt H.csr 0), .int .i64 (gt H.csr 1), .int .i64 (gt H.csr 2), .int .i64 (gt H.csr 3), .int .i64 (gt H.csr 4), .int .i64 (gt H.csr 5), .int .i64 (gt H.csr 6), .int .i64 (gt H.csr 7), .int .i64 (gt H.csr 8), .int .i64 (gt H.csr 9), .int .i64 (gt H.csr 10), .bool H.halted, .bool H.waiting, .bool H.rung, .int .i64 H.done, i, o, l, p, .int .i64 ca, .int .i64 ri] = mcr H i o l p ca ri := rfl
def mrz : Array Value := #[.int .i64 0, .int .i64 0, .int .i64 0, .int .i64 0, .int .i64 0, .int .i64 0, .int .i64 0, .int .i64 0, .int .i64 0, .int .i64 0, .int .i64 0, .int .i64 0, .int .i64 0, .int .i64 0, .int .i64 0, .int .i64 0, .int .i64 0, .int .i64 0, .int .i64 0, .int .i64 0, .int .i64 0, .int .i64 0, .int .i64 0, .int .i64 0, .int .i64 0, .int .i64 0, .int .i64 0, .int .i64 0, .bool false, .bool false, .bool false, .int .i64 0, .slice none 0 0, .slice none 0 0, .slice none 0 0, .slice none 0 0, .int .i64 0, .int .i64 0]
theorem mcr_one (H : Ht) (i o l p : Value) (ca ri : Int) (hi : i.oneCell' = true) (ho : o.oneCell' = true) (hl : l.oneCell' = true) (hp : p.oneCell' = true) : (mcr H i o l p ca ri).all (·.oneCell') = true := by
  have h1 : ∀ z : Int, (Value.int .i64 z).oneCell' = true := fun _ => rfl
  have h2 : ∀ z : Bool, (Value.bool z).oneCell' = true := fun _ => rfl
  simp [mcr, h1, h2, hi, ho, hl, hp]
theorem mrz_there {w : World} {q : Nat} {t : TypeId} {cs : Array Value} (h : Vb w q cs t) : w.there q 0 cs.size := fun j hj => by
  rw [Nat.zero_add]
  exact ⟨by rw [h.cell j (Array.getElem?_eq_getElem hj)]; rfl, h.free _⟩

theorem wp_build {op : Oper} {a : Act} {w : World} {K : Act → World → Prop} {Q : Exit → Act → World → Prop} (t : TypeId) (parts : Array (Nat × Operand)) (ho : op.op = .build t parts) (cells : Array Value) (hb : Try.prog.built t (parts.map fun (i, x) => (i, a.eval x)).toList = some cells)
    (h : K (a.put op.dst (.agg cells)) w) : op.wp Try.prog a w K Q := by
  unfold Oper.wp execOp
  simp only [ho, Sem.run_bind, run_build (P := Try.prog) w t _ cells hb, Sem.run_pure, Result.andThen_ok]
  exact h
set_option maxRecDepth 20000 in
set_option maxHeartbeats 8000000 in
theorem i_runner (r c i o : Value) (H : Ht) (la : Option Addr) (ln lc : Nat) (gm n cap : Nat) (zs : List Int) (b p : Nat) (w : World) (h : Hm w b r c i o H) (hk : Hok H) (hM : Nums w b (.slice (some ⟨gm, 0, none⟩) n cap) zs) (hz : zs.length = p * 8) (hp : p ≤ 24) (hp0 : 1 ≤ p) :
    Calls Try.prog 39 #[.agg #[r, .int .i64 H.pc, c, .bool H.halted, .bool H.waiting, .bool H.rung, .int .i64 H.done, i, o], .slice la ln lc, .slice (some ⟨gm, 0, none⟩) n cap] w fun e w' => ∃ i' o' g, e = .returned (.agg (mcr H i' o' (.slice la ln lc) (.slice (some ⟨g, 0, none⟩) p p) (-1) (-1))) ∧ Nums w' w.heap.size i' H.inn ∧ Nums w' w.heap.size o' H.out ∧ Apt i' o' ∧ Pags w' w.heap.size (.slice (some ⟨g, 0, none⟩) p p) p zs ∧ Below w.heap.size w w' := by
  have HM : Hid (Hm w b r c i o H) := h
  have K : Hid (Hok H) := hk
  have HZ : Hid (Nums w b (.slice (some ⟨gm, 0, none⟩) n cap) zs) := hM
  have HP : Hid (zs.length = p * 8 ∧ p ≤ 24 ∧ 1 ≤ p) := ⟨hz, hp, hp0⟩
  obtain ⟨a0, k0, rfl, _⟩ := h.r.shape
  obtain ⟨a1, k1, rfl, _⟩ := h.c.shape
  obtain ⟨a2, k2, rfl, _⟩ := h.i.shape
  obtain ⟨a3, k3, rfl, _⟩ := h.o.shape
  clear h hk hM hz hp hp0
  generalize hW : (w.alloc (.cells #[.slice a0 H.regs.length k0, .int .i64 H.pc, .slice a1 H.csr.length k1, .bool H.halted, .bool H.waiting, .bool H.rung, .int .i64 H.done, .slice a2 H.inn.length k2, .slice a3 H.out.length k3] 26)).alloc (.cells #[.int .i64 0, .int .i64 0, .int .i64 0, .int .i64 0, .int .i64 0, .int .i64 0, .int .i64 0, .int .i64 0, .int .i64 0, .int .i64 0, .int .i64 0, .int .i64 0, .int .i64 0, .int .i64 0, .int .i64 0, .int .i64 0, .int .i64 0, .int .i64 0, .int .i64 0, .int .i64 0, .int .i64 0, .int .i64 0, .int .i64 0, .int .i64 0, .int .i64 0, .int .i64 0, .int .i64 0, .int .i64 0, .bool false, .bool false, .bool false, .int .i64 0, .slice none 0 0, .slice none 0 0, .slice none 0 0, .slice none 0 0, .int .i64 0, .int .i64 0] 79) = W
  have B0 : Hid (Below w.heap.size w W) := by show Below _ _ _; rw [← hW]; exact al (al (Below.refl _ _) _) _
  obtain ⟨s, hS⟩ : ∃ s, w.heap.size = s := ⟨_, rfl⟩
  have HS : Hid (w.heap.size = s) := hS
  have VA : Hid (Vb W s #[.slice a0 H.regs.length k0, .int .i64 H.pc, .slice a1 H.csr.length k1, .bool H.halted, .bool H.waiting, .bool H.rung, .int .i64 H.done, .slice a2 H.inn.length k2, .slice a3 H.out.length k3] 26) := by
    show Vb _ _ _ _; rw [← hW, ← hS]; exact (Vb.new _ _ _).push _
  have VR : Hid (Vb W (s + 1) mrz 79) := by
    have z1 : s + 1 = (w.alloc (.cells #[.slice a0 H.regs.length k0, .int .i64 H.pc, .slice a1 H.csr.length k1, .bool H.halted, .bool H.waiting, .bool H.rung, .int .i64 H.done, .slice a2 H.inn.length k2, .slice a3 H.out.length k3] 26)).heap.size := by rw [← hS]; simp
    show Vb _ _ _ _; rw [← hW, z1]; exact Vb.new _ _ _
  have LW : Hid (s + 2 ≤ W.heap.size) := by show _ ≤ _; rw [← hW, ← hS]; simp
  have q0 := VA.out.cell 0 rfl
  have q1 := VA.out.cell 1 rfl
  have q2 := VA.out.cell 2 rfl
  have q3 := VA.out.cell 3 rfl
  have q4 := VA.out.cell 4 rfl
  have q5 := VA.out.cell 5 rfl
  have q6 := VA.out.cell 6 rfl
  have q7 := VA.out.cell 7 rfl
  have q8 := VA.out.cell 8 rfl
  go_enter Try.func39, Try.ntmps39
  go_wp2_with fail
  clear hW hS q0 q1 q2 q3 q4 q5 q6 q7 q8
  refine (i_machine _ _ _ _ H _ _ (HM.out.keep B0.out) K.out.r16 K.out.c11 (by have := K.out.i40; omega) (by have := K.out.o40; omega)).mono ?_
  rintro e w2 ⟨i2, o2, rfl, mi, mo, ap, b2⟩
  have MI : Hid (Nums w2 W.heap.size i2 H.inn) := mi
  have MO : Hid (Nums w2 W.heap.size o2 H.out) := mo
  have AP : Hid (Apt i2 o2) := ap
  have B2 : Hid (Below w.heap.size w w2) := on B0.out b2
  have VR2 : Hid (Vb w2 (s + 1) mrz 79) := VR.out.keep b2
  obtain ⟨xa, xk, rfl, _⟩ := mi.shape
  obtain ⟨ya, yk, rfl, _⟩ := mo.shape
  generalize hxn : H.inn.length = xn at *
  generalize hyn : H.out.length = yn at *
  clear mi mo ap b2 hxn hyn VR VA
  go_wp2_with fail
  refine (impl_cut gm n cap zs b p w2 (HZ.out.keep B2.out) HP.out.1 HP.out.2.1 HP.out.2.2).mono ?_
  rintro e w3 ⟨g, rfl, pg, b3⟩
  have PG : Hid (Pags w3 w2.heap.size (.slice (some ⟨g, 0, none⟩) p p) p zs) := pg
  have B3 : Hid (Below w.heap.size w w3) := on B2.out b3
  have VR3 : Hid (Vb w3 (s + 1) mrz 79) := VR2.out.keep b3
  have MI3 : Hid (Nums w3 W.heap.size (.slice xa xn xk) H.inn) := MI.out.keep b3
  have MO3 : Hid (Nums w3 W.heap.size (.slice ya yn yk) H.out) := MO.out.keep b3
  have L2 : Hid (s + 1 < w2.heap.size) := VR2.out.lt
  clear pg b3 VR2 MI MO
  generalize hX : mcr H (.slice xa xn xk) (.slice ya yn yk) (.slice la ln lc) (.slice (some ⟨g, 0, none⟩) p p) (-1) (-1) = X at *
  have hsz : X.size = 38 := by rw [← hX]; rfl
  have XO : Hid (X.all (·.oneCell') = true) := by show _ = _; rw [← hX]; exact mcr_one _ _ _ _ _ _ _ rfl rfl rfl rfl
  have HX : Hid (mcr H (.slice xa xn xk) (.slice ya yn yk) (.slice la ln lc) (.slice (some ⟨g, 0, none⟩) p p) (-1) (-1) = X) := hX
  clear hX
  go_simp
  go_step
  go_step
  refine wp_build _ _ rfl X (by rw [← HX.out]; kernel_rfl) ?_
  simp only [Act.put, List.setIfInBounds_toArray, List.set_cons_zero, List.set_cons_succ]
  go_step
  go_step
  have TH : w3.there (s + 1) 0 X.size := by
    have t := mrz_there VR3.out
    rw [hsz]
    exact t
  refine wp_store_mid 79 (.tmp 6) (.tmp 12) rfl (s + 1) 0 X rfl rfl TH (by rw [hsz]; kernel_rfl) XO.out ?_
  simp only [Act.put]
  have M4 := mq_cells (s + 1) X.toList w3 0
  have B4 : Below w.heap.size w (w3.setCells (s + 1) 0 X.toList) := Mq.under B3.out M4 fun k e => by have := HS.out; omega
  have O4 : Ho W.heap.size w3 (w3.setCells (s + 1) 0 X.toList) := M4.ho fun k e => by have := LW.out; omega
  have R4 : (w3.setCells (s + 1) 0 X.toList).rangeAt (s + 1) 0 X.toList := World.rangeAt_setCells_same _ _ _ _ (by simpa using TH)
  have PG4 : Pags (w3.setCells (s + 1) 0 X.toList) w.heap.size (.slice (some ⟨g, 0, none⟩) p p) p zs := by
    obtain ⟨hge, hlt⟩ := World.ownsRow.lt PG.out g rfl
    have hh := PG.out.heap
    rw [← M4.block g hlt (by have := L2.out; omega)] at hh
    exact Pags.of_heap hh HP.out.1 (by have := B2.out.size; omega) (by have := HP.out.2.1; unfold maxLen; omega)
  generalize w3.setCells (s + 1) 0 X.toList = w4 at *
  have LD := run_loadVar_mid (P := Try.prog) w4 (s + 1) 0 79 X.toList _ R4 Try.underlying79 rfl (by rw [Array.length_toList, hsz]; kernel_rfl)
  go_wp2_with fail
  exact bodyPost_ret (v := .agg X) (by simp [results, Try.results39, asAddr]; rw [LD]) rfl ⟨_, _, _, by rw [HX.out], (MI3.out.ho O4).mono B0.out.size, (MO3.out.ho O4).mono B0.out.size, AP.out, PG4, B4⟩
end Go.Proofs.Ytmekgdddccacjaa
