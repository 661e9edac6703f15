/- Texts of this seat, joined. -/
import Derived.Deep.CutRange
import Derived.Test.YtbegbphbcjoglaaGreatDoorQ05
import Derived.Test.YtbegbphbcjoglaaGreatDoorQ06
import Derived.Test.YtbegbphbcjoglaaGreatDoorQ13
import Derived.Test.YtbegbphbcjoglaaGreatDoorQ21
namespace Go.Proofs.YtbegbphbcjoglaaGreatDoor
open Go.RowKit
set_option linter.unusedVariables false

theorem nums_range {w : World} {base g n cap : Nat} {zs : List Int} (h : Nums w base (.slice (some ⟨g, 0, none⟩) n cap) zs) (m : Nat) (hm : n = m) {cs : List Value} (hc : ∀ j v, cs[j]? = some v → j < m ∧ v = .int .i64 (gt zs j)) : w.rangeAt g 0 cs := fun j v hv => by
  obtain ⟨h1, rfl⟩ := hc j v hv
  rw [Nat.zero_add]
  exact h.cell h.len j (by omega)
/-- The worlds behind W in which block q alone may have turned; its cells are there. -/
def Sk (W : World) (q : Nat) (w' : World) : Prop := Mq (fun k => k = q) W w' ∧ w'.there q 0 34
theorem there_below {w w' : World} {q n : Nat} (h : w.there q 0 n) (hq : q < w.heap.size) (b : Below w.heap.size w w') : w'.there q 0 n := fun j hj => by
  obtain ⟨h1, h2⟩ := h j hj
  refine ⟨?_, ?_⟩
  · rw [b.cell (p := ⟨q, 0 + j, none⟩) hq]; exact h1
  · rw [b.frozen (p := ⟨q, 0 + j, none⟩) hq]; exact h2
theorem Vb.there {w : World} {q : Nat} {cs : Array Value} {t : TypeId} (h : Vb w q cs t) (n : Nat) (hn : n ≤ cs.size) : w.there q 0 n := fun j hj => by
  refine ⟨?_, h.free _⟩
  rw [h.cell (0 + j) (v := cs[0 + j]'(by omega)) (Array.getElem?_eq_getElem (by omega))]
  rfl
theorem Sk.step {W w w' : World} {q : Nat} (h : Sk W q w) (hq : q < W.heap.size) (b : Below w.heap.size w w') : Sk W q w' :=
  ⟨h.1.trans (Mq.of (below_grown b none) fun k e => by cases e), there_below h.2 (Nat.lt_of_lt_of_le hq h.1.size) b⟩
theorem mq_cells (q : Nat) : ∀ (vs : List Value) (w : World) (o : Nat), Mq (fun k => k = q) w (w.setCells q o vs)
  | [], w, o => Mq.refl _ _
  | v :: vs, w, o => ((Mq.refl (fun k => k = q) w).set ⟨q, o, none⟩ v rfl).trans (mq_cells q vs _ (o + 1))
theorem Sk.set {W w : World} {q : Nat} (h : Sk W q w) (vs : List Value) : Sk W q (w.setCells q 0 vs) := ⟨h.1.trans (mq_cells q vs w 0), World.there_setCells h.2 _ _ _⟩
theorem cells16 (zs : List Int) : ∀ (j : Nat) (v : Value), ([.int .i64 (gt zs 0), .int .i64 (gt zs 1), .int .i64 (gt zs 2), .int .i64 (gt zs 3), .int .i64 (gt zs 4), .int .i64 (gt zs 5), .int .i64 (gt zs 6), .int .i64 (gt zs 7), .int .i64 (gt zs 8), .int .i64 (gt zs 9), .int .i64 (gt zs 10), .int .i64 (gt zs 11), .int .i64 (gt zs 12), .int .i64 (gt zs 13), .int .i64 (gt zs 14), .int .i64 (gt zs 15)] : List Value)[j]? = some v → j < 16 ∧ v = .int .i64 (gt zs j) := by
  intro j v hv
  have hj : j < 16 := by have := (List.getElem?_eq_some_iff.1 hv).1; simpa using this
  refine ⟨hj, ?_⟩
  have e : j = 0 ∨ j = 1 ∨ j = 2 ∨ j = 3 ∨ j = 4 ∨ j = 5 ∨ j = 6 ∨ j = 7 ∨ j = 8 ∨ j = 9 ∨ j = 10 ∨ j = 11 ∨ j = 12 ∨ j = 13 ∨ j = 14 ∨ j = 15 := by omega
  rcases e with rfl | rfl | rfl | rfl | rfl | rfl | rfl | rfl | rfl | rfl | rfl | rfl | rfl | rfl | rfl | rfl <;> exact (Option.some.inj hv).symm
theorem cells11 (zs : List Int) : ∀ (j : Nat) (v : Value), ([.int .i64 (gt zs 0), .int .i64 (gt zs 1), .int .i64 (gt zs 2), .int .i64 (gt zs 3), .int .i64 (gt zs 4), .int .i64 (gt zs 5), .int .i64 (gt zs 6), .int .i64 (gt zs 7), .int .i64 (gt zs 8), .int .i64 (gt zs 9), .int .i64 (gt zs 10)] : List Value)[j]? = some v → j < 11 ∧ v = .int .i64 (gt zs j) := by
  intro j v hv
  have hj : j < 11 := by have := (List.getElem?_eq_some_iff.1 hv).1; simpa using this
  refine ⟨hj, ?_⟩
  have e : j = 0 ∨ j = 1 ∨ j = 2 ∨ j = 3 ∨ j = 4 ∨ j = 5 ∨ j = 6 ∨ j = 7 ∨ j = 8 ∨ j = 9 ∨ j = 10 := by omega
  rcases e with rfl | rfl | rfl | rfl | rfl | rfl | rfl | rfl | rfl | rfl | rfl <;> exact (Option.some.inj hv).symm

set_option maxRecDepth 20000 in
set_option maxHeartbeats 8000000 in
theorem i_machineX (r c i o : Value) (H : Ht) (b : Nat) (w : World) (h : Hm w b r c i o H) (hr : H.regs.length = 16) (hc : H.csr.length = 11) (hi : H.inn.length ≤ 1000) (ho : H.out.length ≤ 1000) :
    Calls Tryz.prog 65 #[.agg #[r, .int .i64 H.pc, c, .bool H.halted, .bool H.waiting, .bool H.rung, .int .i64 H.done, i, o]] w fun e w' => ∃ i' o', e = .returned (.agg (mca H i' o')) ∧ Nums w' w.heap.size i' H.inn ∧ Nums w' w.heap.size o' H.out ∧ Apt i' o' ∧ Below w.heap.size w w' ∧ ∃ bo, w.heap.size ≤ bo ∧ bo ≤ w'.heap.size ∧ Nums w' bo o' H.out ∧ ∀ k, i'.ownBlock = some k → k < bo := by
  have HM : Hid (Hm w b r c i o H) := h
  obtain ⟨a0, k0, rfl, _, _, g0⟩ := h.r.shape
  obtain ⟨a1, k1, rfl, _, _, g1⟩ := h.c.shape
  obtain ⟨a2, k2, rfl, _⟩ := h.i.shape
  obtain ⟨a3, k3, rfl, _⟩ := h.o.shape
  obtain ⟨y0, rfl⟩ := g0 (by omega)
  obtain ⟨y1, rfl⟩ := g1 (by omega)
  have HL : Hid (H.inn.length ≤ 1000 ∧ H.out.length ≤ 1000) := ⟨hi, ho⟩
  have HR : Hid (H.regs.length = 16 ∧ H.csr.length = 11) := ⟨hr, hc⟩
  rw [hr] at HM ⊢
  rw [hc] at HM ⊢
  generalize H.inn.length = n2 at *
  generalize H.out.length = n3 at *
  clear h g0 g1 hr hc hi ho
  generalize hW : (w.alloc (.cells #[.slice (some ⟨y0, 0, none⟩) 16 k0, .int .i64 H.pc, .slice (some ⟨y1, 0, none⟩) 11 k1, .bool H.halted, .bool H.waiting, .bool H.rung, .int .i64 H.done, .slice a2 n2 k2, .slice a3 n3 k3] 31)).alloc (.cells #[.int .i64 0, .int .i64 0, .int .i64 0, .int .i64 0, .int .i64 0, .int .i64 0, .int .i64 0, .int .i64 0, .int .i64 0, .int .i64 0, .int .i64 0, .int .i64 0, .int .i64 0, .int .i64 0, .int .i64 0, .int .i64 0, .int .i64 0, .int .i64 0, .int .i64 0, .int .i64 0, .int .i64 0, .int .i64 0, .int .i64 0, .int .i64 0, .int .i64 0, .int .i64 0, .int .i64 0, .int .i64 0, .bool false, .bool false, .bool false, .int .i64 0, .slice none 0 0, .slice none 0 0] 78) = W
  have B0 : Hid (Below w.heap.size w W) := by show Below _ _ _; rw [← hW]; exact al (al (Below.refl _ _) _) _
  obtain ⟨s, hS⟩ : ∃ s, w.heap.size = s := ⟨_, rfl⟩
  have HS : Hid (w.heap.size = s) := hS
  have SZ : Hid (W.heap.size = s + 2) := by show _ = _; rw [← hW, ← hS]; simp
  have VA : Hid (Vb W s #[.slice (some ⟨y0, 0, none⟩) 16 k0, .int .i64 H.pc, .slice (some ⟨y1, 0, none⟩) 11 k1, .bool H.halted, .bool H.waiting, .bool H.rung, .int .i64 H.done, .slice a2 n2 k2, .slice a3 n3 k3] 31) := by
    show Vb _ _ _ _; rw [← hW, ← hS]; exact (Vb.new _ _ _).push _
  have VR : Hid (Vb W (s + 1) #[.int .i64 0, .int .i64 0, .int .i64 0, .int .i64 0, .int .i64 0, .int .i64 0, .int .i64 0, .int .i64 0, .int .i64 0, .int .i64 0, .int .i64 0, .int .i64 0, .int .i64 0, .int .i64 0, .int .i64 0, .int .i64 0, .int .i64 0, .int .i64 0, .int .i64 0, .int .i64 0, .int .i64 0, .int .i64 0, .int .i64 0, .int .i64 0, .int .i64 0, .int .i64 0, .int .i64 0, .int .i64 0, .bool false, .bool false, .bool false, .int .i64 0, .slice none 0 0, .slice none 0 0] 78) := by
    have z1 : s + 1 = (w.alloc (.cells #[.slice (some ⟨y0, 0, none⟩) 16 k0, .int .i64 H.pc, .slice (some ⟨y1, 0, none⟩) 11 k1, .bool H.halted, .bool H.waiting, .bool H.rung, .int .i64 H.done, .slice a2 n2 k2, .slice a3 n3 k3] 31)).heap.size := by rw [← hS]; simp
    show Vb _ _ _ _; rw [← hW, z1]; exact Vb.new _ _ _
  have MW : Hid (Hm W b _ _ _ _ H) := HM.out.keep B0.out
  have OW : Hid (∀ k, Own4 (.slice (some ⟨y0, 0, none⟩) 16 k0) (.slice (some ⟨y1, 0, none⟩) 11 k1) (.slice a2 n2 k2) (.slice a3 n3 k3) k → ¬ k = s + 1) := fun k e f => by have := (HM.out.own k e).2; have := HS.out; omega
  have MS : Hid (∀ w', Sk W (s + 1) w' → Hm w' b _ _ _ _ H) := fun w' hs => hs.1.hm MW.out OW.out
  have VS : Hid (∀ w', Sk W (s + 1) w' → Vb w' s #[.slice (some ⟨y0, 0, none⟩) 16 k0, .int .i64 H.pc, .slice (some ⟨y1, 0, none⟩) 11 k1, .bool H.halted, .bool H.waiting, .bool H.rung, .int .i64 H.done, .slice a2 n2 k2, .slice a3 n3 k3] 31) := fun w' hs => hs.1.vb VA.out (by omega)
  have q0 : ∀ w', Sk W (s + 1) w' → w'.cell? ⟨s, 0, none⟩ = some (.slice (some ⟨y0, 0, none⟩) 16 k0) := fun w' hs => (VS.out w' hs).cell 0 rfl
  have q1 : ∀ w', Sk W (s + 1) w' → w'.cell? ⟨s, 1, none⟩ = some (.int .i64 H.pc) := fun w' hs => (VS.out w' hs).cell 1 rfl
  have q2 : ∀ w', Sk W (s + 1) w' → w'.cell? ⟨s, 2, none⟩ = some (.slice (some ⟨y1, 0, none⟩) 11 k1) := fun w' hs => (VS.out w' hs).cell 2 rfl
  have q3 : ∀ w', Sk W (s + 1) w' → w'.cell? ⟨s, 3, none⟩ = some (.bool H.halted) := fun w' hs => (VS.out w' hs).cell 3 rfl
  have q4 : ∀ w', Sk W (s + 1) w' → w'.cell? ⟨s, 4, none⟩ = some (.bool H.waiting) := fun w' hs => (VS.out w' hs).cell 4 rfl
  have q5 : ∀ w', Sk W (s + 1) w' → w'.cell? ⟨s, 5, none⟩ = some (.bool H.rung) := fun w' hs => (VS.out w' hs).cell 5 rfl
  have q6 : ∀ w', Sk W (s + 1) w' → w'.cell? ⟨s, 6, none⟩ = some (.int .i64 H.done) := fun w' hs => (VS.out w' hs).cell 6 rfl
  have q7 : ∀ w', Sk W (s + 1) w' → w'.cell? ⟨s, 7, none⟩ = some (.slice a2 n2 k2) := fun w' hs => (VS.out w' hs).cell 7 rfl
  have q8 : ∀ w', Sk W (s + 1) w' → w'.cell? ⟨s, 8, none⟩ = some (.slice a3 n3 k3) := fun w' hs => (VS.out w' hs).cell 8 rfl
  have ha0 : ∀ w', (Instr.arrayAt 73 (.slice (some ⟨y0, 0, none⟩) 16 k0)).run Tryz.prog w' = .ok (.pointer (some ⟨y0, 0, none⟩)) w' := fun w' => by simp [Instr.arrayAt, Sem.run_bind, run_underlying Tryz.underlying73]
  have ha1 : ∀ w', (Instr.arrayAt 74 (.slice (some ⟨y1, 0, none⟩) 11 k1)).run Tryz.prog w' = .ok (.pointer (some ⟨y1, 0, none⟩)) w' := fun w' => by simp [Instr.arrayAt, Sem.run_bind, run_underlying Tryz.underlying74]
  have R0 : Hid (∀ w', Sk W (s + 1) w' → w'.rangeAt y0 0 [.int .i64 (gt H.regs 0), .int .i64 (gt H.regs 1), .int .i64 (gt H.regs 2), .int .i64 (gt H.regs 3), .int .i64 (gt H.regs 4), .int .i64 (gt H.regs 5), .int .i64 (gt H.regs 6), .int .i64 (gt H.regs 7), .int .i64 (gt H.regs 8), .int .i64 (gt H.regs 9), .int .i64 (gt H.regs 10), .int .i64 (gt H.regs 11), .int .i64 (gt H.regs 12), .int .i64 (gt H.regs 13), .int .i64 (gt H.regs 14), .int .i64 (gt H.regs 15)]) := fun w' hs => nums_range (MS.out w' hs).r 16 rfl (cells16 _)
  have R1 : Hid (∀ w', Sk W (s + 1) w' → w'.rangeAt y1 0 [.int .i64 (gt H.csr 0), .int .i64 (gt H.csr 1), .int .i64 (gt H.csr 2), .int .i64 (gt H.csr 3), .int .i64 (gt H.csr 4), .int .i64 (gt H.csr 5), .int .i64 (gt H.csr 6), .int .i64 (gt H.csr 7), .int .i64 (gt H.csr 8), .int .i64 (gt H.csr 9), .int .i64 (gt H.csr 10)]) := fun w' hs => nums_range (MS.out w' hs).c 11 rfl (cells11 _)
  have hst : ∀ w', Sk W (s + 1) w' → ∀ (xa : Option Addr) (xn xk : Nat) (ya : Option Addr) (yn yk : Nat), (Instr.storeAt 78 (.pointer (some ⟨s + 1, 0, none⟩)) (.agg #[.int .i64 (gt H.regs 0), .int .i64 (gt H.regs 1), .int .i64 (gt H.regs 2), .int .i64 (gt H.regs 3), .int .i64 (gt H.regs 4), .int .i64 (gt H.regs 5), .int .i64 (gt H.regs 6), .int .i64 (gt H.regs 7), .int .i64 (gt H.regs 8), .int .i64 (gt H.regs 9), .int .i64 (gt H.regs 10), .int .i64 (gt H.regs 11), .int .i64 (gt H.regs 12), .int .i64 (gt H.regs 13), .int .i64 (gt H.regs 14), .int .i64 (gt H.regs 15), .int .i64 H.pc, .int .i64 (gt H.csr 0), .int .i64 (gt H.csr 1), .int .i64 (gt H.csr 2), .int .i64 (gt H.csr 3), .int .i64 (gt H.csr 4), .int .i64 (gt H.csr 5), .int .i64 (gt H.csr 6), .int .i64 (gt H.csr 7), .int .i64 (gt H.csr 8), .int .i64 (gt H.csr 9), .int .i64 (gt H.csr 10), .bool H.halted, .bool H.waiting, .bool H.rung, .int .i64 H.done, .slice xa xn xk, .slice ya yn yk])).run Tryz.prog w' = .ok () (w'.setCells (s + 1) 0 (mca H (.slice xa xn xk) (.slice ya yn yk)).toList) := fun w' hs xa xn xk ya yn yk =>
    run_storeAt_mid w' (s + 1) 0 78 (mca H (.slice xa xn xk) (.slice ya yn yk)) hs.2 (by kernel_rfl) (mca_one _ _ _ rfl rfl)
  have LT : Hid (s + 1 < W.heap.size) := VR.out.lt
  have S0 : Hid (Sk W (s + 1) W) := ⟨Mq.refl _ _, VR.out.there 34 (by decide)⟩
  go_enter Tryz.func65, Tryz.ntmps65
  go_wp2_with fail
  have SD : Hid (Sk W (s + 1) W.drew) := S0.out.step LT.out (Below.refl _ _).drew
  refine wp_region_held (S := fun w' => Sk W (s + 1) w') (by kernel_rfl) ?_
  change wpAnyH _ _ _ _ _ _ _ _ (World.drew _)
  refine wpAnyH_take (i := 0) (v := .pointer (some ⟨s, 0, none⟩)) rfl (by kernel_rfl) (by kernel_rfl) (by kernel_rfl) (fun _ _ _ h => h) (Or.inl ⟨by rfl, fun w' hs => by go_simp⟩) SD.out ?_
  change wpAnyH _ _ _ _ _ _ _ (Act.put _ (some 3) _) _
  simp only [Act.put, List.setIfInBounds_toArray, List.set_cons_zero, List.set_cons_succ]
  refine wpAnyH_take (i := 1) (v := .slice (some ⟨y0, 0, none⟩) 16 k0) rfl (by kernel_rfl) (by kernel_rfl) (by kernel_rfl) (fun _ _ _ h => h) (Or.inl ⟨by rfl, fun w' hs => by go_simp⟩) SD.out ?_
  change wpAnyH _ _ _ _ _ _ _ (Act.put _ (some 4) _) _
  simp only [Act.put, List.setIfInBounds_toArray, List.set_cons_zero, List.set_cons_succ]
  refine wpAnyH_take (i := 2) (v := .pointer (some ⟨y0, 0, none⟩)) rfl (by kernel_rfl) (by kernel_rfl) (by kernel_rfl) (fun _ _ _ h => h) (Or.inl ⟨by rfl, fun w' hs => by go_simp⟩) SD.out ?_
  change wpAnyH _ _ _ _ _ _ _ (Act.put _ (some 5) _) _
  simp only [Act.put, List.setIfInBounds_toArray, List.set_cons_zero, List.set_cons_succ]
  refine wpAnyH_take (i := 3) (v := .agg #[.int .i64 (gt H.regs 0), .int .i64 (gt H.regs 1), .int .i64 (gt H.regs 2), .int .i64 (gt H.regs 3), .int .i64 (gt H.regs 4), .int .i64 (gt H.regs 5), .int .i64 (gt H.regs 6), .int .i64 (gt H.regs 7), .int .i64 (gt H.regs 8), .int .i64 (gt H.regs 9), .int .i64 (gt H.regs 10), .int .i64 (gt H.regs 11), .int .i64 (gt H.regs 12), .int .i64 (gt H.regs 13), .int .i64 (gt H.regs 14), .int .i64 (gt H.regs 15)]) rfl (by kernel_rfl) (by kernel_rfl) (by kernel_rfl) (fun _ _ _ h => h) (yieldsIf_load_mid (by rfl) 73 (.tmp 5) rfl y0 0 rfl [.int .i64 (gt H.regs 0), .int .i64 (gt H.regs 1), .int .i64 (gt H.regs 2), .int .i64 (gt H.regs 3), .int .i64 (gt H.regs 4), .int .i64 (gt H.regs 5), .int .i64 (gt H.regs 6), .int .i64 (gt H.regs 7), .int .i64 (gt H.regs 8), .int .i64 (gt H.regs 9), .int .i64 (gt H.regs 10), .int .i64 (gt H.regs 11), .int .i64 (gt H.regs 12), .int .i64 (gt H.regs 13), .int .i64 (gt H.regs 14), .int .i64 (gt H.regs 15)] _ R0.out Tryz.underlying73 rfl (by kernel_rfl)) SD.out ?_
  change wpAnyH _ _ _ _ _ _ _ (Act.put _ (some 6) _) _
  simp only [Act.put, List.setIfInBounds_toArray, List.set_cons_zero, List.set_cons_succ]
  refine wpAnyH_take (i := 4) (v := .pointer (some ⟨s, 1, none⟩)) rfl (by kernel_rfl) (by kernel_rfl) (by kernel_rfl) (fun _ _ _ h => h) (Or.inl ⟨by rfl, fun w' hs => by go_simp⟩) SD.out ?_
  change wpAnyH _ _ _ _ _ _ _ (Act.put _ (some 7) _) _
  simp only [Act.put, List.setIfInBounds_toArray, List.set_cons_zero, List.set_cons_succ]
  refine wpAnyH_take (i := 5) (v := .int .i64 H.pc) rfl (by kernel_rfl) (by kernel_rfl) (by kernel_rfl) (fun _ _ _ h => h) (Or.inl ⟨by rfl, fun w' hs => by go_simp⟩) SD.out ?_
  change wpAnyH _ _ _ _ _ _ _ (Act.put _ (some 8) _) _
  simp only [Act.put, List.setIfInBounds_toArray, List.set_cons_zero, List.set_cons_succ]
  refine wpAnyH_take (i := 6) (v := .pointer (some ⟨s, 2, none⟩)) rfl (by kernel_rfl) (by kernel_rfl) (by kernel_rfl) (fun _ _ _ h => h) (Or.inl ⟨by rfl, fun w' hs => by go_simp⟩) SD.out ?_
  change wpAnyH _ _ _ _ _ _ _ (Act.put _ (some 9) _) _
  simp only [Act.put, List.setIfInBounds_toArray, List.set_cons_zero, List.set_cons_succ]
  refine wpAnyH_take (i := 7) (v := .slice (some ⟨y1, 0, none⟩) 11 k1) rfl (by kernel_rfl) (by kernel_rfl) (by kernel_rfl) (fun _ _ _ h => h) (Or.inl ⟨by rfl, fun w' hs => by go_simp⟩) SD.out ?_
  change wpAnyH _ _ _ _ _ _ _ (Act.put _ (some 10) _) _
  simp only [Act.put, List.setIfInBounds_toArray, List.set_cons_zero, List.set_cons_succ]
  refine wpAnyH_take (i := 8) (v := .pointer (some ⟨y1, 0, none⟩)) rfl (by kernel_rfl) (by kernel_rfl) (by kernel_rfl) (fun _ _ _ h => h) (Or.inl ⟨by rfl, fun w' hs => by go_simp⟩) SD.out ?_
  change wpAnyH _ _ _ _ _ _ _ (Act.put _ (some 11) _) _
  simp only [Act.put, List.setIfInBounds_toArray, List.set_cons_zero, List.set_cons_succ]
  refine wpAnyH_take (i := 9) (v := .agg #[.int .i64 (gt H.csr 0), .int .i64 (gt H.csr 1), .int .i64 (gt H.csr 2), .int .i64 (gt H.csr 3), .int .i64 (gt H.csr 4), .int .i64 (gt H.csr 5), .int .i64 (gt H.csr 6), .int .i64 (gt H.csr 7), .int .i64 (gt H.csr 8), .int .i64 (gt H.csr 9), .int .i64 (gt H.csr 10)]) rfl (by kernel_rfl) (by kernel_rfl) (by kernel_rfl) (fun _ _ _ h => h) (yieldsIf_load_mid (by rfl) 74 (.tmp 11) rfl y1 0 rfl [.int .i64 (gt H.csr 0), .int .i64 (gt H.csr 1), .int .i64 (gt H.csr 2), .int .i64 (gt H.csr 3), .int .i64 (gt H.csr 4), .int .i64 (gt H.csr 5), .int .i64 (gt H.csr 6), .int .i64 (gt H.csr 7), .int .i64 (gt H.csr 8), .int .i64 (gt H.csr 9), .int .i64 (gt H.csr 10)] _ R1.out Tryz.underlying74 rfl (by kernel_rfl)) SD.out ?_
  change wpAnyH _ _ _ _ _ _ _ (Act.put _ (some 12) _) _
  simp only [Act.put, List.setIfInBounds_toArray, List.set_cons_zero, List.set_cons_succ]
  refine wpAnyH_take (i := 10) (v := .agg #[.int .i64 (gt H.regs 0), .int .i64 (gt H.regs 1), .int .i64 (gt H.regs 2), .int .i64 (gt H.regs 3), .int .i64 (gt H.regs 4), .int .i64 (gt H.regs 5), .int .i64 (gt H.regs 6), .int .i64 (gt H.regs 7), .int .i64 (gt H.regs 8), .int .i64 (gt H.regs 9), .int .i64 (gt H.regs 10), .int .i64 (gt H.regs 11), .int .i64 (gt H.regs 12), .int .i64 (gt H.regs 13), .int .i64 (gt H.regs 14), .int .i64 (gt H.regs 15), .int .i64 H.pc, .int .i64 (gt H.csr 0), .int .i64 (gt H.csr 1), .int .i64 (gt H.csr 2), .int .i64 (gt H.csr 3), .int .i64 (gt H.csr 4), .int .i64 (gt H.csr 5), .int .i64 (gt H.csr 6), .int .i64 (gt H.csr 7), .int .i64 (gt H.csr 8), .int .i64 (gt H.csr 9), .int .i64 (gt H.csr 10)]) rfl (by kernel_rfl) (by kernel_rfl) (by kernel_rfl) (fun _ _ _ h => h) (Or.inl ⟨by rfl, fun w' hs => by go_simp⟩) SD.out ?_
  change wpAnyH _ _ _ _ _ _ _ (Act.put _ (some 13) _) _
  simp only [Act.put, List.setIfInBounds_toArray, List.set_cons_zero, List.set_cons_succ]
  refine wpAnyH_take (i := 11) (v := .pointer (some ⟨s, 3, none⟩)) rfl (by kernel_rfl) (by kernel_rfl) (by kernel_rfl) (fun _ _ _ h => h) (Or.inl ⟨by rfl, fun w' hs => by go_simp⟩) SD.out ?_
  change wpAnyH _ _ _ _ _ _ _ (Act.put _ (some 14) _) _
  simp only [Act.put, List.setIfInBounds_toArray, List.set_cons_zero, List.set_cons_succ]
  refine wpAnyH_take (i := 12) (v := .bool H.halted) rfl (by kernel_rfl) (by kernel_rfl) (by kernel_rfl) (fun _ _ _ h => h) (Or.inl ⟨by rfl, fun w' hs => by go_simp⟩) SD.out ?_
  change wpAnyH _ _ _ _ _ _ _ (Act.put _ (some 15) _) _
  simp only [Act.put, List.setIfInBounds_toArray, List.set_cons_zero, List.set_cons_succ]
  refine wpAnyH_take (i := 13) (v := .pointer (some ⟨s, 4, none⟩)) rfl (by kernel_rfl) (by kernel_rfl) (by kernel_rfl) (fun _ _ _ h => h) (Or.inl ⟨by rfl, fun w' hs => by go_simp⟩) SD.out ?_
  change wpAnyH _ _ _ _ _ _ _ (Act.put _ (some 16) _) _
  simp only [Act.put, List.setIfInBounds_toArray, List.set_cons_zero, List.set_cons_succ]
  refine wpAnyH_take (i := 14) (v := .bool H.waiting) rfl (by kernel_rfl) (by kernel_rfl) (by kernel_rfl) (fun _ _ _ h => h) (Or.inl ⟨by rfl, fun w' hs => by go_simp⟩) SD.out ?_
  change wpAnyH _ _ _ _ _ _ _ (Act.put _ (some 17) _) _
  simp only [Act.put, List.setIfInBounds_toArray, List.set_cons_zero, List.set_cons_succ]
  refine wpAnyH_take (i := 15) (v := .pointer (some ⟨s, 5, none⟩)) rfl (by kernel_rfl) (by kernel_rfl) (by kernel_rfl) (fun _ _ _ h => h) (Or.inl ⟨by rfl, fun w' hs => by go_simp⟩) SD.out ?_
  change wpAnyH _ _ _ _ _ _ _ (Act.put _ (some 18) _) _
  simp only [Act.put, List.setIfInBounds_toArray, List.set_cons_zero, List.set_cons_succ]
  refine wpAnyH_take (i := 16) (v := .bool H.rung) rfl (by kernel_rfl) (by kernel_rfl) (by kernel_rfl) (fun _ _ _ h => h) (Or.inl ⟨by rfl, fun w' hs => by go_simp⟩) SD.out ?_
  change wpAnyH _ _ _ _ _ _ _ (Act.put _ (some 19) _) _
  simp only [Act.put, List.setIfInBounds_toArray, List.set_cons_zero, List.set_cons_succ]
  refine wpAnyH_take (i := 17) (v := .pointer (some ⟨s, 6, none⟩)) rfl (by kernel_rfl) (by kernel_rfl) (by kernel_rfl) (fun _ _ _ h => h) (Or.inl ⟨by rfl, fun w' hs => by go_simp⟩) SD.out ?_
  change wpAnyH _ _ _ _ _ _ _ (Act.put _ (some 20) _) _
  simp only [Act.put, List.setIfInBounds_toArray, List.set_cons_zero, List.set_cons_succ]
  refine wpAnyH_take (i := 18) (v := .int .i64 H.done) rfl (by kernel_rfl) (by kernel_rfl) (by kernel_rfl) (fun _ _ _ h => h) (Or.inl ⟨by rfl, fun w' hs => by go_simp⟩) SD.out ?_
  change wpAnyH _ _ _ _ _ _ _ (Act.put _ (some 21) _) _
  simp only [Act.put, List.setIfInBounds_toArray, List.set_cons_zero, List.set_cons_succ]
  refine wpAnyH_take (i := 19) (v := .pointer (some ⟨s, 7, none⟩)) rfl (by kernel_rfl) (by kernel_rfl) (by kernel_rfl) (fun _ _ _ h => h) (Or.inl ⟨by rfl, fun w' hs => by go_simp⟩) SD.out ?_
  change wpAnyH _ _ _ _ _ _ _ (Act.put _ (some 22) _) _
  simp only [Act.put, List.setIfInBounds_toArray, List.set_cons_zero, List.set_cons_succ]
  refine wpAnyH_take (i := 20) (v := .slice a2 n2 k2) rfl (by kernel_rfl) (by kernel_rfl) (by kernel_rfl) (fun _ _ _ h => h) (Or.inl ⟨by rfl, fun w' hs => by go_simp⟩) SD.out ?_
  change wpAnyH _ _ _ _ _ _ _ (Act.put _ (some 23) _) _
  simp only [Act.put, List.setIfInBounds_toArray, List.set_cons_zero, List.set_cons_succ]
  refine wpAnyH_take (i := 22) (v := .pointer (some ⟨s, 8, none⟩)) rfl (by kernel_rfl) (by kernel_rfl) (by kernel_rfl) (fun _ _ _ h => h) (Or.inl ⟨by rfl, fun w' hs => by go_simp⟩) SD.out ?_
  change wpAnyH _ _ _ _ _ _ _ (Act.put _ (some 25) _) _
  simp only [Act.put, List.setIfInBounds_toArray, List.set_cons_zero, List.set_cons_succ]
  refine wpAnyH_take (i := 23) (v := .slice a3 n3 k3) rfl (by kernel_rfl) (by kernel_rfl) (by kernel_rfl) (fun _ _ _ h => h) (Or.inl ⟨by rfl, fun w' hs => by go_simp⟩) SD.out ?_
  change wpAnyH _ _ _ _ _ _ _ (Act.put _ (some 26) _) _
  simp only [Act.put, List.setIfInBounds_toArray, List.set_cons_zero, List.set_cons_succ]
  refine wpAnyH_ready (rs := [21]) (by kernel_rfl) (by simp) ?_
  refine AllReadyH.cons rfl (fun K hK => ?_) AllReadyH.nil
  rw [if_pos (by rfl)]
  go_simp
  refine (i_clone a2 n2 k2 H.inn _ (MS.out _ SD.out).i.rn (by have := HL.out.1; omega)).mono ?_
  rintro e w1 ⟨v1, rfl, m1, b1⟩
  obtain ⟨xa, xk, rfl, _⟩ := m1.shape
  have S1 : Hid (Sk W (s + 1) w1) := SD.out.step LT.out b1
  have N1 : Hid (Nums w1 W.drew.heap.size (.slice xa H.inn.length xk) H.inn) := m1
  clear m1 b1
  refine hK.out _ _ S1.out (fun _ => ?_)
  clear hK K
  refine wpAnyH_ready (rs := [24]) (by kernel_rfl) (by simp) ?_
  refine AllReadyH.cons rfl (fun K hK => ?_) AllReadyH.nil
  rw [if_pos (by rfl)]
  go_simp
  refine (i_clone a3 n3 k3 H.out _ (MS.out _ S1.out).o.rn (by have := HL.out.2; omega)).mono ?_
  rintro e w2 ⟨v2, rfl, m2, b2⟩
  obtain ⟨ya, yk, rfl, _⟩ := m2.shape
  have S2 : Hid (Sk W (s + 1) w2) := S1.out.step LT.out b2
  have N2 : Hid (Nums w2 w1.heap.size (.slice ya H.out.length yk) H.out) := m2
  have N12 : Hid (Nums w2 W.drew.heap.size (.slice xa H.inn.length xk) H.inn) := N1.out.keep b2
  have AP : Hid (Apt (.slice xa H.inn.length xk) (.slice ya H.out.length yk)) := N1.out.apt N2.out (Nat.le_refl _)
  have L12 : Hid (w1.heap.size ≤ w2.heap.size) := b2.size
  have LI : Hid (∀ k, (Value.slice xa H.inn.length xk).ownBlock = some k → k < w1.heap.size) := fun k e => (N1.out.lt k e).2
  clear m2 b2
  refine hK.out _ _ S2.out (fun _ => ?_)
  clear hK K
  refine wpAnyH_take (i := 25) (v := .agg (mca H (.slice xa H.inn.length xk) (.slice ya H.out.length yk))) rfl (by kernel_rfl) (by kernel_rfl) (by kernel_rfl) (fun _ _ _ h => h) (Or.inl ⟨by rfl, fun w' hs => by rw [← mca_lit]; go_simp⟩) S2.out ?_
  change wpAnyH _ _ _ _ _ _ _ (Act.put _ (some 28) _) _
  simp only [Act.put, List.setIfInBounds_toArray, List.set_cons_zero, List.set_cons_succ]
  refine wpAnyH_ready (rs := [26]) (by kernel_rfl) (by simp) ?_
  refine AllReadyH.cons rfl (fun K hK => ?_) AllReadyH.nil
  rw [if_pos (by rfl)]
  refine wp_store_mid 78 (.tmp 2) (.tmp 28) rfl (s + 1) 0 (mca H (.slice xa H.inn.length xk) (.slice ya H.out.length yk)) rfl rfl S2.out.2 (by kernel_rfl) (mca_one _ _ _ rfl rfl) ?_
  change K (Act.put _ none undef) _
  simp only [Act.put]
  have S3 : Hid (Sk W (s + 1) (w2.setCells (s + 1) 0 (mca H (.slice xa H.inn.length xk) (.slice ya H.out.length yk)).toList)) := S2.out.set _
  have R3 : Hid ((w2.setCells (s + 1) 0 (mca H (.slice xa H.inn.length xk) (.slice ya H.out.length yk)).toList).rangeAt (s + 1) 0 (mca H (.slice xa H.inn.length xk) (.slice ya H.out.length yk)).toList) := World.rangeAt_setCells_same _ _ _ _ S2.out.2
  have O3 : Hid (Ho W.heap.size w2 (w2.setCells (s + 1) 0 (mca H (.slice xa H.inn.length xk) (.slice ya H.out.length yk)).toList)) := (mq_cells (s + 1) _ w2 0).ho fun k e => by have := LT.out; omega
  generalize w2.setCells (s + 1) 0 (mca H (.slice xa H.inn.length xk) (.slice ya H.out.length yk)).toList = w3 at *
  refine hK.out _ _ S3.out (fun _ => ?_)
  clear hK K
  refine wpAnyH_done (by kernel_rfl) ?_ _
  have X3 : Nums w3 W.heap.size (.slice xa H.inn.length xk) H.inn := N12.out.ho O3.out
  have Y3 : Nums w3 W.heap.size (.slice ya H.out.length yk) H.out := (N2.out.mono (show W.heap.size ≤ w1.heap.size from S1.out.1.size)).ho O3.out
  have B3 : Below w.heap.size w w3 := Mq.under B0.out S3.out.1 fun k e => by have := HS.out; omega
  have LD := run_loadVar_mid (P := Tryz.prog) w3 (s + 1) 0 78 (mca H (.slice xa H.inn.length xk) (.slice ya H.out.length yk)).toList _ R3.out Tryz.underlying78 rfl (by kernel_rfl)
  go_wp2_with fail
  exact bodyPost_ret (v := .agg (mca H (.slice xa H.inn.length xk) (.slice ya H.out.length yk))) (by simp [results, Tryz.results65, asAddr]; rw [LD]) rfl
    ⟨_, _, rfl, X3.mono B0.out.size, Y3.mono B0.out.size, AP.out, B3, w1.heap.size, Nat.le_trans B0.out.size S1.out.1.size, Nat.le_trans L12.out O3.out.size, N2.out.ho ⟨O3.out.size, fun k hb hk => O3.out.block k (Nat.le_trans S1.out.1.size hb) hk⟩, LI.out⟩
theorem i_machine (r c i o : Value) (H : Ht) (b : Nat) (w : World) (h : Hm w b r c i o H) (hr : H.regs.length = 16) (hc : H.csr.length = 11) (hi : H.inn.length ≤ 1000) (ho : H.out.length ≤ 1000) :
    Calls Tryz.prog 65 #[.agg #[r, .int .i64 H.pc, c, .bool H.halted, .bool H.waiting, .bool H.rung, .int .i64 H.done, i, o]] w fun e w' => ∃ i' o', e = .returned (.agg (mca H i' o')) ∧ Nums w' w.heap.size i' H.inn ∧ Nums w' w.heap.size o' H.out ∧ Apt i' o' ∧ Below w.heap.size w w' :=
  (i_machineX r c i o H b w h hr hc hi ho).mono fun _ _ ⟨i', o', h1, h2, h3, h4, h5, _⟩ => ⟨i', o', h1, h2, h3, h4, h5⟩
end Go.Proofs.YtbegbphbcjoglaaGreatDoor
namespace Go.Proofs.YtbegbphbcjoglaaGreatDoor
open Go.RowKit
set_option linter.unusedVariables false

theorem Prs.low' {S : Nat → Prop} {e : TypeId} {w w' : World} {b : Nat} {v : Value} {rs : List (Int × Int)} (h : Prs e w b v rs) (m : Mq S w w') (hb : ∀ k, v.ownBlock = some k → ¬ S k) : Prs e w' b v rs := by
  obtain ⟨h1, h2 | ⟨g, cap, cur, hv, hg, hr, rest⟩⟩ := h
  · exact ⟨h1, .inl h2⟩
  · refine ⟨h1, .inr ⟨g, cap, cur, hv, hg, ?_, rest⟩⟩
    rw [m.block g ((Array.getElem?_eq_some_iff.1 hr).1) (hb g (by rw [hv]; rfl))]
    exact hr
/-- A lonely machine whose lists lie in blocks of their own, apart. -/
structure Sm (w : World) (base : Nat) (r c i o l m : Value) (H : Ht) (ps : List (Int × Int)) (zs : List Int) : Prop where
  h : Hm w base r c i o H
  a : Ha r c i o
  pl : Prs 80 w base l ps
  mm : Nums w base m zs
  rm : Apt r m
  cm : Apt c m
  im : Apt i m
  om : Apt o m
theorem Sm.keep {w w' : World} {base : Nat} {r c i o l m : Value} {H : Ht} {ps : List (Int × Int)} {zs : List Int} (s : Sm w base r c i o l m H ps zs) (b : Below w.heap.size w w') : Sm w' base r c i o l m H ps zs :=
  ⟨s.h.keep b, s.a, s.pl.keep b, s.mm.keep b, s.rm, s.cm, s.im, s.om⟩
theorem Sm.mono {w : World} {base base' : Nat} {r c i o l m : Value} {H : Ht} {ps : List (Int × Int)} {zs : List Int} (s : Sm w base r c i o l m H ps zs) (hb : base' ≤ base) : Sm w base' r c i o l m H ps zs :=
  ⟨s.h.mono hb, s.a, s.pl.mono hb, s.mm.mono hb, s.rm, s.cm, s.im, s.om⟩
def totS (H : Ht) (ps : List (Int × Int)) (zs : List Int) : Nat := totH H + 2 * ps.length + zs.length
def OwnS (r c i o l m : Value) (k : Nat) : Prop := Own4 r c i o k ∨ l.ownBlock = some k ∨ m.ownBlock = some k
/-- A list of pages lies in no block of numbers. -/
theorem prs_ne_nums {w : World} {b b' : Nat} {v u : Value} {rs : List (Int × Int)} {zs : List Int} (h : Prs 80 w b v rs) (k : Nums w b' u zs) : ∀ x, v.ownBlock = some x → u.ownBlock ≠ some x := by
  intro x e f
  obtain ⟨h1, h2 | ⟨g, cap, cur, hv, hg, hr, rest⟩⟩ := h
  · rw [h2.1] at e; cases e
  · obtain ⟨k1, k2 | ⟨g', cap', cur', kv, kg, kr, krest⟩⟩ := k
    · rw [k2.1] at f; cases f
    · subst hv kv
      have e1 : g = x := by simpa [Value.ownBlock] using e
      have e2 : g' = x := by simpa [Value.ownBlock] using f
      subst e1 e2
      rw [hr] at kr
      simp at kr
set_option maxRecDepth 20000 in
set_option maxHeartbeats 8000000 in
theorem mark_solo (r c i o l m : Value) (H : Ht) (ps : List (Int × Int)) (zs : List Int) (k : Int) (b : Nat) (w : World) (h : Sm w b r c i o l m H ps zs) (hk : 0 ≤ k) (hz : k + totS H ps zs ≤ 4611686018427387904) :
    Calls Tryz.prog 45 #[.agg #[r, .int .i64 H.pc, c, .bool H.halted, .bool H.waiting, .bool H.rung, .int .i64 H.done, i, o, l, m], .int .i64 k] w fun e w' => e = .returned (.int .i64 (k + totS H ps zs)) ∧ Sm w' b r c i o l m (mkH k H) (pmarks (k + totH H) ps.length) (marks (k + totH H + (2 * ps.length : Nat)) zs.length) ∧ Mq (OwnS r c i o l m) w w' := by
  have HS : Hid (Sm w b r c i o l m H ps zs) := h
  have HK : Hid (0 ≤ k ∧ k + totS H ps zs ≤ 4611686018427387904) := ⟨hk, hz⟩
  have TS : Hid (k + (totS H ps zs : Nat) = k + totH H + (2 * ps.length : Nat) + zs.length) := by show _ = _; unfold totS; omega
  have TQ : Hid (k + totH H ≤ 4611686018427387904 ∧ 0 ≤ k + totH H ∧ k + totH H + (2 * ps.length : Nat) ≤ 4611686018427387904 ∧ 0 ≤ k + totH H + (2 * ps.length : Nat) ∧ k + totH H + (2 * ps.length : Nat) + zs.length ≤ 4611686018427387904) := by have := TS.out; exact ⟨by omega, by omega, by omega, by omega, by omega⟩
  obtain ⟨a0, k0, e0, _⟩ := h.h.r.shape
  obtain ⟨a1, k1, e1, _⟩ := h.h.c.shape
  obtain ⟨a2, k2, e2, _⟩ := h.h.i.shape
  obtain ⟨a3, k3, e3, _⟩ := h.h.o.shape
  obtain ⟨a4, k4, e4, _⟩ := h.pl.shape
  obtain ⟨a5, k5, e5, _⟩ := h.mm.shape
  clear h hk hz
  subst e0 e1 e2 e3 e4 e5
  generalize hn0 : H.regs.length = n0 at *
  generalize hn1 : H.csr.length = n1 at *
  generalize hn2 : H.inn.length = n2 at *
  generalize hn3 : H.out.length = n3 at *
  obtain ⟨n4, hn4⟩ : ∃ n, ps.length = n := ⟨_, rfl⟩
  obtain ⟨n5, hn5⟩ : ∃ n, zs.length = n := ⟨_, rfl⟩
  have HN : Hid (ps.length = n4 ∧ zs.length = n5) := ⟨hn4, hn5⟩
  rw [hn4, hn5] at HS TS TQ ⊢
  clear hn0 hn1 hn2 hn3 hn4 hn5
  obtain ⟨t1, ht1⟩ : ∃ t, k + (totH H : Nat) = t := ⟨_, rfl⟩
  rw [ht1] at TS TQ ⊢
  have T1 : Hid (k + (totH H : Nat) = t1) := ht1
  clear ht1
  generalize hW : w.alloc (.cells #[.slice a0 n0 k0, .int .i64 H.pc, .slice a1 n1 k1, .bool H.halted, .bool H.waiting, .bool H.rung, .int .i64 H.done, .slice a2 n2 k2, .slice a3 n3 k3, .slice a4 n4 k4, .slice a5 n5 k5] 34) = W
  have B0 : Hid (Below w.heap.size w W) := by show Below _ _ _; rw [← hW]; exact al (Below.refl _ _) _
  obtain ⟨s, hS⟩ : ∃ s, w.heap.size = s := ⟨_, rfl⟩
  have Q : Hid (Vb W s #[.slice a0 n0 k0, .int .i64 H.pc, .slice a1 n1 k1, .bool H.halted, .bool H.waiting, .bool H.rung, .int .i64 H.done, .slice a2 n2 k2, .slice a3 n3 k3, .slice a4 n4 k4, .slice a5 n5 k5] 34) := by show Vb _ _ _ _; rw [← hW, ← hS]; exact Vb.new _ _ _
  have HSs : Hid (w.heap.size = s) := hS
  have q0 := Q.out.cell 0 rfl
  have q1 := Q.out.cell 1 rfl
  have q2 := Q.out.cell 2 rfl
  have q3 := Q.out.cell 3 rfl
  have q4 := Q.out.cell 4 rfl
  have q5 := Q.out.cell 5 rfl
  have q6 := Q.out.cell 6 rfl
  have q7 := Q.out.cell 7 rfl
  have q8 := Q.out.cell 8 rfl
  go_enter Tryz.func45, Tryz.ntmps45
  go_wp2_with fail
  clear hW hS q0 q1 q2 q3 q4 q5 q6 q7 q8
  have K0 := HS.out.keep B0.out
  refine (mark_hart _ _ _ _ H k b W K0.h K0.a HK.out.1 (by have := TQ.out.1; have := T1.out; omega)).mono ?_
  rw [T1.out]
  rintro e w1 ⟨rfl, m1, g1⟩
  have OQ : ∀ x, Own4 (.slice a0 n0 k0) (.slice a1 n1 k1) (.slice a2 n2 k2) (.slice a3 n3 k3) x → x < s := fun x e => by have := (HS.out.h.own x e).2; have := HSs.out; omega
  have Q1 : Hid (Vb w1 s _ 34) := g1.vb Q.out (fun e => by have := OQ s e; omega)
  have M1 : Hid (Hm w1 b (.slice a0 n0 k0) (.slice a1 n1 k1) (.slice a2 n2 k2) (.slice a3 n3 k3) (mkH k H)) := m1
  have L1 : Hid (Prs 80 w1 b (.slice a4 n4 k4) ps) := K0.pl.low' g1 (fun x e f => by
    rcases f with f | f | f | f
    · exact prs_ne_nums K0.pl K0.h.r x e f
    · exact prs_ne_nums K0.pl K0.h.c x e f
    · exact prs_ne_nums K0.pl K0.h.i x e f
    · exact prs_ne_nums K0.pl K0.h.o x e f)
  have N1 : Hid (Nums w1 b (.slice a5 n5 k5) zs) := g1.nums K0.mm (fun x e f => by
    rcases f with f | f | f | f
    · exact apt_no K0.rm f e
    · exact apt_no K0.cm f e
    · exact apt_no K0.im f e
    · exact apt_no K0.om f e)
  have G1 : Hid (Mq (OwnS (.slice a0 n0 k0) (.slice a1 n1 k1) (.slice a2 n2 k2) (.slice a3 n3 k3) (.slice a4 n4 k4) (.slice a5 n5 k5)) w w1) := (Mq.of (below_grown B0.out none) (fun k e => by cases e)).trans (mq_wid g1 fun x e => .inl e)
  clear m1 g1 OQ K0 Q
  have q9 := Q1.out.cell 9 rfl
  go_wp2_with fail
  clear q9
  have hq := mark_pages (.slice a4 n4 k4) t1 ps b w1 L1.out TQ.out.2.1 (by rw [HN.out.1]; exact TQ.out.2.2.1)
  rw [HN.out.1] at hq
  refine hq.mono ?_
  clear hq
  rintro e w2 ⟨rfl, l2, g2⟩
  have g2' : Mq (OwnS (.slice a0 n0 k0) (.slice a1 n1 k1) (.slice a2 n2 k2) (.slice a3 n3 k3) (.slice a4 n4 k4) (.slice a5 n5 k5)) w1 w2 := Mq.of g2 fun k e => .inr (.inl e.symm)
  have m2 : Mq (fun x => (Value.slice a4 n4 k4).ownBlock = some x) w1 w2 := Mq.of g2 fun k e => e.symm
  have Q2 : Hid (Vb w2 s _ 34) := m2.vb Q1.out (fun e => by have := (HS.out.pl.lt s e).2; have := HSs.out; omega)
  have L2 : Hid (Prs 80 w2 b (.slice a4 n4 k4) (pmarks t1 n4)) := l2
  have M2 : Hid (Hm w2 b (.slice a0 n0 k0) (.slice a1 n1 k1) (.slice a2 n2 k2) (.slice a3 n3 k3) (mkH k H)) := m2.hm M1.out (fun x e f => by
    rcases e with e | e | e | e
    · exact prs_ne_nums L1.out M1.out.r x f e
    · exact prs_ne_nums L1.out M1.out.c x f e
    · exact prs_ne_nums L1.out M1.out.i x f e
    · exact prs_ne_nums L1.out M1.out.o x f e)
  have N2 : Hid (Nums w2 b (.slice a5 n5 k5) zs) := m2.nums N1.out (fun x e f => prs_ne_nums L1.out N1.out x f e)
  have G2 : Hid (Mq (OwnS (.slice a0 n0 k0) (.slice a1 n1 k1) (.slice a2 n2 k2) (.slice a3 n3 k3) (.slice a4 n4 k4) (.slice a5 n5 k5)) w w2) := G1.out.trans g2'
  clear l2 g2 g2' m2 Q1 M1 L1 N1 G1
  have q10 := Q2.out.cell 10 rfl
  go_wp2_with fail
  clear q10
  have hq := mark_nums (.slice a5 n5 k5) (t1 + (2 * n4 : Nat)) zs b w2 N2.out TQ.out.2.2.2.1 (by rw [HN.out.2]; exact TQ.out.2.2.2.2)
  rw [HN.out.2] at hq
  refine hq.mono ?_
  clear hq
  rintro e w3 ⟨rfl, l3, g3⟩
  have m3 : Mq (fun x => (Value.slice a5 n5 k5).ownBlock = some x) w2 w3 := Mq.of g3 fun k e => e.symm
  have M3 : Hid (Hm w3 b (.slice a0 n0 k0) (.slice a1 n1 k1) (.slice a2 n2 k2) (.slice a3 n3 k3) (mkH k H)) := m3.hm M2.out (fun x e f => by
    rcases e with e | e | e | e
    · exact apt_no HS.out.rm e f
    · exact apt_no HS.out.cm e f
    · exact apt_no HS.out.im e f
    · exact apt_no HS.out.om e f)
  have L3 : Hid (Prs 80 w3 b (.slice a4 n4 k4) (pmarks t1 n4)) := L2.out.low' m3 (fun x e f => prs_ne_nums L2.out N2.out x e f)
  have N3 : Hid (Nums w3 b (.slice a5 n5 k5) (marks (t1 + (2 * n4 : Nat)) n5)) := l3
  have G3 : Hid (Mq (OwnS (.slice a0 n0 k0) (.slice a1 n1 k1) (.slice a2 n2 k2) (.slice a3 n3 k3) (.slice a4 n4 k4) (.slice a5 n5 k5)) w w3) := G2.out.trans (Mq.of g3 fun k e => .inr (.inr e.symm))
  clear l3 g3 m3 Q2 M2 L2 N2 G2
  go_wp2_with fail
  go_ret
  exact ⟨by rw [TS.out]; rfl, ⟨M3.out, HS.out.a, L3.out, N3.out, HS.out.rm, HS.out.cm, HS.out.im, HS.out.om⟩, G3.out⟩
set_option maxRecDepth 20000 in
set_option maxHeartbeats 8000000 in
theorem held_solo (r c i o l m : Value) (H : Ht) (np nz : Nat) (k : Int) (b : Nat) (w : World) (h : Hm w b r c i o (mkH k H)) (hl : Prs 80 w b l (pmarks (k + totH H) np)) (hm : Nums w b m (marks (k + totH H + (2 * np : Nat)) nz)) (hk : 0 ≤ k) (hz : k + totH H + (2 * np : Nat) + nz ≤ 4611686018427387904) :
    Calls Tryz.prog 46 #[.agg #[r, .int .i64 H.pc, c, .bool H.halted, .bool H.waiting, .bool H.rung, .int .i64 H.done, i, o, l, m], .int .i64 k] w fun e w' => e = .returned (.int .i64 (k + totH H + (2 * np : Nat) + nz)) ∧ Below w.heap.size w w' := by
  have HM : Hid (Hm w b r c i o (mkH k H)) := h
  have HL : Hid (Prs 80 w b l (pmarks (k + totH H) np)) := hl
  have HN : Hid (Nums w b m (marks (k + totH H + (2 * np : Nat)) nz)) := hm
  have HK : Hid (0 ≤ k ∧ k + totH H ≤ 4611686018427387904 ∧ 0 ≤ k + totH H ∧ k + totH H + (2 * np : Nat) ≤ 4611686018427387904 ∧ 0 ≤ k + totH H + (2 * np : Nat) ∧ k + totH H + (2 * np : Nat) + nz ≤ 4611686018427387904) := ⟨hk, by omega, by omega, by omega, by omega, hz⟩
  obtain ⟨a0, k0, e0, _⟩ := h.r.shape
  obtain ⟨a1, k1, e1, _⟩ := h.c.shape
  obtain ⟨a2, k2, e2, _⟩ := h.i.shape
  obtain ⟨a3, k3, e3, _⟩ := h.o.shape
  obtain ⟨a4, k4, e4, _⟩ := hl.shape
  obtain ⟨a5, k5, e5, _⟩ := hm.shape
  clear h hl hm hk hz
  subst e0 e1 e2 e3 e4 e5
  generalize hn0 : (mkH k H).regs.length = n0 at *
  generalize hn1 : (mkH k H).csr.length = n1 at *
  generalize hn2 : (mkH k H).inn.length = n2 at *
  generalize hn3 : (mkH k H).out.length = n3 at *
  generalize hn4 : (pmarks (k + totH H) np).length = n4 at *
  generalize hn5 : (marks (k + totH H + (2 * np : Nat)) nz).length = n5 at *
  clear hn0 hn1 hn2 hn3 hn4 hn5
  obtain ⟨t1, ht1⟩ : ∃ t, k + (totH H : Nat) = t := ⟨_, rfl⟩
  rw [ht1] at HK HL HN ⊢
  have T1 : Hid (k + (totH H : Nat) = t1) := ht1
  clear ht1
  generalize hW : w.alloc (.cells #[.slice a0 n0 k0, .int .i64 H.pc, .slice a1 n1 k1, .bool H.halted, .bool H.waiting, .bool H.rung, .int .i64 H.done, .slice a2 n2 k2, .slice a3 n3 k3, .slice a4 n4 k4, .slice a5 n5 k5] 34) = W
  have B0 : Hid (Below w.heap.size w W) := by show Below _ _ _; rw [← hW]; exact al (Below.refl _ _) _
  obtain ⟨s, hS⟩ : ∃ s, w.heap.size = s := ⟨_, rfl⟩
  have Q : Hid (Vb W s #[.slice a0 n0 k0, .int .i64 H.pc, .slice a1 n1 k1, .bool H.halted, .bool H.waiting, .bool H.rung, .int .i64 H.done, .slice a2 n2 k2, .slice a3 n3 k3, .slice a4 n4 k4, .slice a5 n5 k5] 34) := by show Vb _ _ _ _; rw [← hW, ← hS]; exact Vb.new _ _ _
  have q0 := Q.out.cell 0 rfl
  have q1 := Q.out.cell 1 rfl
  have q2 := Q.out.cell 2 rfl
  have q3 := Q.out.cell 3 rfl
  have q4 := Q.out.cell 4 rfl
  have q5 := Q.out.cell 5 rfl
  have q6 := Q.out.cell 6 rfl
  have q7 := Q.out.cell 7 rfl
  have q8 := Q.out.cell 8 rfl
  have p0 : 0 ≤ t1 := HK.out.2.2.1
  have p1 : 0 ≤ t1 + (2 * np : Nat) := HK.out.2.2.2.2.1
  have p2 : 0 ≤ t1 + (2 * np : Nat) + nz := by omega
  go_enter Tryz.func46, Tryz.ntmps46
  go_wp2_with fail
  clear hW hS q0 q1 q2 q3 q4 q5 q6 q7 q8
  refine (held_hart _ _ _ _ H k b W (HM.out.keep B0.out) HK.out.1 (by have := HK.out.2.1; have := T1.out; omega)).mono ?_
  rw [T1.out]
  rintro e w1 ⟨rfl, b1⟩
  have B1 : Hid (Below w.heap.size w w1) := on B0.out b1
  have Q1 : Hid (Vb w1 s _ 34) := Q.out.keep b1
  clear b1 Q
  have q9 := Q1.out.cell 9 rfl
  have q10 := Q1.out.cell 10 rfl
  go_wp2_with fail
  refine (held_pages _ t1 np b w1 (HL.out.keep B1.out) HK.out.2.2.1 HK.out.2.2.2.1).mono ?_
  rintro e y ⟨rfl, hy⟩
  rw [hy]
  clear hy y
  go_wp2_with fail
  refine (held_nums _ (t1 + (2 * np : Nat)) nz b w1 (HN.out.keep B1.out) HK.out.2.2.2.2.1 HK.out.2.2.2.2.2).mono ?_
  rintro e y ⟨rfl, hy⟩
  rw [hy]
  clear hy y
  go_wp2_with fail
  go_ret
  exact ⟨rfl, B1.out⟩
end Go.Proofs.YtbegbphbcjoglaaGreatDoor
